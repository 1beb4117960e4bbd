/- The chapter's examples, as the plain words read them. -/
import Derived.Test.YtglnfnlpkhmlnaaGreatDoorRqM1
import Derived.WalkKit
namespace Go.Proofs.YtglnfnlpkhmlnaaGreatDoor

/-- oneP by what the reading byte by byte gives. -/
def oneQ (b : List UInt8) : Nat × Option Rq := match runP new0 b with
  | (s, l) => if s.err ≠ 0 then (s.err, none) else if idleP s = false then (2, none) else match l with
    | [x] => match ofRP x with
      | some r => (0, some r)
      | none => (2, none)
    | _ => (2, none)
theorem oneP_Q (b : List UInt8) : oneP b = oneQ b := by
  unfold oneP oneQ
  rw [run_row]
  obtain ⟨⟨s, l⟩, h⟩ : ∃ r, runP new0 b = r := ⟨_, rfl⟩
  rw [h]
  simp only
  split
  · rfl
  · cases hi : idleP s with
    | true =>
      rw [if_neg (fun e => by cases e)]
      cases l with
      | nil => rfl
      | cons x m =>
        cases m with
        | nil => rfl
        | cons y m => rfl
    | false => rw [if_pos rfl]
def awT0 : List UInt8 := [71, 69, 84, 32, 47, 97, 47, 47, 98, 63, 120, 32, 72, 84, 84, 80, 47, 49, 46, 49, 13, 10, 72, 111, 115, 116, 58, 32, 65, 46, 98, 13, 10, 13, 10]
def awT1 : List UInt8 := [80, 79, 83, 84, 32, 47, 32, 72, 84, 84, 80, 47, 49, 46, 49, 13, 10, 72, 111, 115, 116, 58, 32, 97, 13, 10, 84, 114, 97, 110, 115, 102, 101, 114, 45, 69, 110, 99, 111, 100, 105, 110, 103, 58, 32, 99, 104, 117, 110, 107, 101, 100, 13, 10, 13, 10, 51, 13, 10, 97, 98, 99, 13, 10, 48, 13, 10, 13, 10]
def awT2 : List UInt8 := [80, 79, 83, 84, 32, 47, 32, 72, 84, 84, 80, 47, 49, 46, 49, 13, 10, 72, 111, 115, 116, 58, 32, 97, 13, 10, 84, 114, 97, 110, 115, 102, 101, 114, 45, 69, 110, 99, 111, 100, 105, 110, 103, 58, 32, 99, 104, 117, 110, 107, 101, 100, 13, 10, 67, 111, 110, 116, 101, 110, 116, 45, 76, 101, 110, 103, 116, 104, 58, 32, 51, 13, 10, 13, 10, 51, 13, 10, 97, 98, 99, 13, 10, 48, 13, 10, 13, 10]
def awT3 : List UInt8 := [71, 69, 84, 32, 47, 32, 72, 84, 84, 80, 47, 49, 46, 49, 10, 72, 111, 115, 116, 58, 32, 97, 13, 10, 13, 10]
def awT4 : List UInt8 := [67, 79, 78, 78, 69, 67, 84, 32, 97, 46, 98, 58, 56, 48, 32, 72, 84, 84, 80, 47, 49, 46, 49, 13, 10, 72, 111, 115, 116, 58, 32, 97, 46, 98, 58, 56, 48, 13, 10, 13, 10]
theorem awO2 : oneP awT2 = (2, none) := (oneP_Q _).trans (by kernel_rfl)
theorem awO3 : oneP awT3 = (2, none) := (oneP_Q _).trans (by kernel_rfl)
theorem aw_some {α : Type} {b : List UInt8} {f : Rq → α} {y : α} (h : ((oneQ b).1, (oneQ b).2.map f) = (0, some y)) : ∃ q, oneP b = (0, some q) ∧ f q = y := by
  rw [oneP_Q]
  obtain ⟨n, x, hx⟩ : ∃ n x, oneQ b = (n, x) := ⟨_, _, rfl⟩
  rw [hx] at h ⊢
  cases x with
  | none => cases h
  | some q =>
    injection h with h1 h2
    injection h2 with h2
    exact ⟨q, by rw [show n = 0 from h1], h2⟩
theorem awO0 : ∃ q, oneP awT0 = (0, some q) ∧ (q.path, q.query, q.host) = ([47, 97, 47, 98], [120], [97, 46, 98]) := aw_some (f := fun q => (q.path, q.query, q.host)) (by kernel_rfl)
theorem awO1 : ∃ q, oneP awT1 = (0, some q) ∧ q.body = [97, 98, 99] := aw_some (f := fun q => q.body) (by kernel_rfl)
theorem awO4 : ∃ q, oneP awT4 = (0, some q) ∧ (q.path, q.method) = ([], [67, 79, 78, 78, 69, 67, 84]) := aw_some (f := fun q => (q.path, q.method)) (by kernel_rfl)
end Go.Proofs.YtglnfnlpkhmlnaaGreatDoor
