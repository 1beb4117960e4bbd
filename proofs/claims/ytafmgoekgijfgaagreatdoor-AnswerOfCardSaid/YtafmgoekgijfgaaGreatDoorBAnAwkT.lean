/- The chapter's examples of answers, as the plain words read them. -/
import Derived.Test.YtafmgoekgijfgaaGreatDoorBAnPl
import Derived.WalkKit
namespace Go.Proofs.YtafmgoekgijfgaaGreatDoor

/-- oneAP by what the reading byte by byte gives. -/
def oneAQ (b : List UInt8) : Nat × Option An := match runP new0 b with
 | (s, l) => if s.err ≠ 0 then (s.err, none) else if idleP s = false then (2, none) else match l with
   | [x] => match ofAP x with
     | some r => (0, some r)
     | none => (2, none)
   | _ => (2, none)
theorem oneA_Q (b : List UInt8) : oneAP b = oneAQ b := by
 unfold oneAP oneAQ
 rw [run_row]
 obtain ⟨⟨s, l⟩, h⟩ : ∃ r, runP new0 b = r := ⟨_, rfl⟩
 rw [h]
 simp only
 split
 · rfl
 · cases hi : idleP s with
   | true =>
     rw [if_neg (fun e => by cases e)]
     cases l with
     | nil => rfl
     | cons x m =>
       cases m with
       | nil => rfl
       | cons y m => rfl
   | false => rw [if_pos rfl]
def anT1 : List UInt8 := [72, 84, 84, 80, 47, 49, 46, 49, 32, 53, 48, 51, 32, 13, 10, 13, 10]
def anT2 : List UInt8 := [72, 84, 84, 80, 47, 49, 46, 49, 32, 50, 48, 48, 13, 10, 13, 10]
def anT0 : List UInt8 := [72, 84, 84, 80, 47, 49, 46, 49, 32, 52, 48, 51, 32, 70, 111, 114, 98, 105, 100, 100, 101, 110, 13, 10, 99, 111, 110, 116, 101, 110, 116, 45, 108, 101, 110, 103, 116, 104, 58, 32, 50, 13, 10, 13, 10, 110, 111]
theorem anO2 : oneAP anT2 = (2, none) := (oneA_Q _).trans (by kernel_rfl)
theorem an_some {α : Type} {b : List UInt8} {f : An → α} {y : α} (h : ((oneAQ b).1, (oneAQ b).2.map f) = (0, some y)) : ∃ q, oneAP b = (0, some q) ∧ f q = y := by
 rw [oneA_Q]
 obtain ⟨n, x, hx⟩ : ∃ n x, oneAQ b = (n, x) := ⟨_, _, rfl⟩
 rw [hx] at h ⊢
 cases x with
 | none => cases h
 | some q =>
   injection h with h1 h2
   injection h2 with h2
   exact ⟨q, by rw [show n = 0 from h1], h2⟩
theorem anO1 : ∃ q, oneAP anT1 = (0, some q) ∧ q.code = 503 := an_some (f := fun q => q.code) (by kernel_rfl)
theorem anM0 : mayAB (simA 403 [110, 111]) = true := by rw [sim_fit]; decide
theorem anW0 : wrtP (rawA (simA 403 [110, 111])) = anT0 := by kernel_rfl
end Go.Proofs.YtafmgoekgijfgaaGreatDoor
