/- The chapter's examples of layer 5. -/
import Derived.Test.YtjbfaaoeoggkpaaNmPar
namespace Go.Proofs.Ytjbfaaoeoggkpaa
open Go.RowKit Go.Lib

def exN : Nm := ⟨⟨#[115, 104, 111, 112]⟩, ⟨#[119, 101, 98, 45, 49]⟩⟩
def exT : ByteArray := ⟨#[115, 112, 105, 102, 102, 101, 58, 47, 47, 109, 101, 115, 104, 47, 110, 115, 47, 115, 104, 111, 112, 47, 115, 97, 47, 119, 101, 98, 45, 49]⟩
def exA : ByteArray := ⟨#[115, 112, 105, 102, 102, 101, 58, 47, 47, 109, 101, 115, 104, 47, 110, 115, 47, 115, 104, 111, 112, 47, 115, 97, 47]⟩
def exB : ByteArray := ⟨#[115, 112, 105, 102, 102, 101, 58, 47, 47, 109, 101, 115, 104, 47, 110, 115, 47, 115, 104, 111, 112, 47, 115, 97, 47, 87, 101, 98]⟩
theorem ex_pri : priV exN = .tuple #[.string exT, .int .i64 0] := by
  have h1 : mayN exN = true := by decide
  have h2 : prN exN = exT := bytes_ext (by rw [prN_list]; rfl)
  unfold priV
  rw [h1, h2]
  rfl
theorem ex_a : parN exA = none := parN_none (cut_none (a := [115, 104, 111, 112]) (b := []) (f := true) (by decide) (by decide))
theorem ex_b : parN exB = none := parN_none (cut_none (a := [115, 104, 111, 112]) (b := [87, 101, 98]) (f := true) (by decide) (by decide))

set_option maxRecDepth 100000 in
set_option maxHeartbeats 400000 in
theorem awake_any (w : World) (hE : Env w) : Calls Try.prog 8 #[] w (fun e w' => e = .returned (.bool true) ∧ Below w.heap.size w w') := by
  have LP : HidL (∀ W : World, Calls Try.prog 15 #[.agg #[.string exN.ns, .string exN.sa]] W (fun e w' => e = .returned (.tuple #[.string exT, .int .i64 0]) ∧ Below W.heap.size W w')) := hideL fun W => by
    have h := print_any exN (by decide) (by decide) W
    rw [ex_pri] at h
    exact h
  have LA : HidL (∀ W : World, Env W → Calls Try.prog 17 #[.string exA] W (fun e w' => e = .returned (.tuple #[.agg #[.string ByteArray.empty, .string ByteArray.empty], .int .i64 2]) ∧ Below W.heap.size W w')) := hideL fun W hE => by
    have h := parse_any exA (by decide) W hE
    rw [ex_a] at h
    exact h
  have LB : HidL (∀ W : World, Env W → Calls Try.prog 17 #[.string exB] W (fun e w' => e = .returned (.tuple #[.agg #[.string ByteArray.empty, .string ByteArray.empty], .int .i64 2]) ∧ Below W.heap.size W w')) := hideL fun W hE => by
    have h := parse_any exB (by decide) W hE
    rw [ex_b] at h
    exact h
  unfold exA at LA
  unfold exB at LB
  unfold exN exT at LP
  dsimp only at LP
  have HE := hideL hE
  have hq : (((⟨#[115, 112, 105, 102, 102, 101, 58, 47, 47, 109, 101, 115, 104, 47, 110, 115, 47, 115, 104, 111, 112, 47, 115, 97, 47, 119, 101, 98, 45, 49]⟩ : ByteArray)).toList == [115, 112, 105, 102, 102, 101, 58, 47, 47, 109, 101, 115, 104, 47, 110, 115, 47, 115, 104, 111, 112, 47, 115, 97, 47, 119, 101, 98, 45, 49]) = true := by rw [ByteArray.toList_eq]; decide
  go_enter Try.func8, Try.ntmps8
  go_wp2_with (first
    | (go_at_call 15; with_reducible refine (LP.out _).mono ?_; rintro e w2 ⟨rfl, hB2⟩; have HE2 := hideL (HE.out.below hB2))
    | (go_at_call 17; with_reducible refine (LA.out _ HE2.out).mono ?_; rintro e w3 ⟨rfl, hB3⟩; have HE3 := hideL ((HE2.out.below hB3).below ((Below.refl _ _).alloc (Nat.le_refl _) (.cells #[.string ByteArray.empty, .string ByteArray.empty] 23))); clear HE2)
    | (go_at_call 17; with_reducible refine (LB.out _ HE3.out).mono ?_; rintro e w4 ⟨rfl, hB4⟩))
  go_ret
  have h3 := (Below.refl _ w3).alloc (Nat.le_refl _) (.cells #[.string ByteArray.empty, .string ByteArray.empty] 23)
  have h4 := (Below.refl _ w4).alloc (Nat.le_refl _) (.cells #[.string ByteArray.empty, .string ByteArray.empty] 23)
  have a2 := hB2.trans (hB3.mono hB2.size)
  have a3 := a2.trans (h3.mono a2.size)
  have a4 := a3.trans (hB4.mono a3.size)
  exact ⟨rfl, a4.trans (h4.mono a4.size)⟩
end Go.Proofs.Ytjbfaaoeoggkpaa
