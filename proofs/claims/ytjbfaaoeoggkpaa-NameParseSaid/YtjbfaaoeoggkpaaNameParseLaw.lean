/- The law NameParse (P5.2). -/
import Derived.Test.YtjbfaaoeoggkpaaNmAwake
import Derived.Test.YtjbfaaoeoggkpaaNmArg
namespace Go.Proofs.Ytjbfaaoeoggkpaa
open Go.RowKit Go.Lib

set_option maxRecDepth 100000 in
set_option maxHeartbeats 1000000 in
theorem nameParse_walk (s : ByteArray) (w : World) (hE : Env w) (ms : s.size ≤ maxLen) : Calls Try.prog 4 #[.string s] w (LawPost w) := by
  unfold maxLen at ms
  have HE := hideL hE
  by_cases g : (1000 : Int) < s.size
  · go_enter Try.func4, Try.ntmps4
    go_wp2_with (go_at_call 8; with_reducible refine (awake_any _ HE.out).mono ?_; rintro e w9 ⟨rfl, hB9⟩)
    go_ret
    exact ⟨rfl, hB9⟩
  have LP := hideL (fun W hE => parse_any s (by omega) W hE)
  have LR := hideL (parseNR_any s (by omega))
  clear hE
  unfold parP at LP
  unfold parV at LR
  obtain ⟨r, hr⟩ : ∃ r, parN s = r := ⟨_, rfl⟩
  rw [hr] at LP LR
  clear hr
  obtain ⟨⟨x, y⟩, hx⟩ : ∃ n, r.getD default = n := ⟨_, rfl⟩
  rw [hx] at LP LR
  dsimp only at LP LR
  clear hx
  have hex := eqs_true (rfl : x = x)
  have hey := eqs_true (rfl : y = y)
  cases r with
  | none =>
    go_enter Try.func4, Try.ntmps4
    go_wp2_with (first
      | (go_at_call 17; with_reducible refine (LP.out _ HE.out).mono ?_; rintro e w2 ⟨rfl, hB2⟩; have HB := hideL (hB2.alloc hB2.size (.cells #[.string x, .string y] 23)); have HX := hideL (NBox.new w2 x y))
      | (go_at_call 18; with_reducible refine (LR.out _).mono ?_; rintro e w3 ⟨rfl, hB3⟩; have HB3 := hideL ((HB.out.trans (hB3.mono HB.out.size)).alloc (Nat.le_trans HB.out.size hB3.size) (.cells #[.string x, .string y] 23)); have HX3 := hideL ((HX.out.next hB3).next ((Below.refl _ _).alloc (Nat.le_refl _) (.cells #[.string x, .string y] 23))); have c0 := HX3.out.c0; have c1 := HX3.out.c1)
      | (go_at_call 8; with_reducible refine (awake_any _ (HE.out.below HB3.out)).mono ?_; rintro e w9 ⟨rfl, hB9⟩))
    go_ret
    exact ⟨rfl, HB3.out.trans (hB9.mono HB3.out.size)⟩
  | some n =>
    go_enter Try.func4, Try.ntmps4
    go_wp2_with (first
      | (go_at_call 17; with_reducible refine (LP.out _ HE.out).mono ?_; rintro e w2 ⟨rfl, hB2⟩; have HB := hideL (hB2.alloc hB2.size (.cells #[.string x, .string y] 23)); have HX := hideL (NBox.new w2 x y))
      | (go_at_call 18; with_reducible refine (LR.out _).mono ?_; rintro e w3 ⟨rfl, hB3⟩; have HB3 := hideL ((HB.out.trans (hB3.mono HB.out.size)).alloc (Nat.le_trans HB.out.size hB3.size) (.cells #[.string x, .string y] 23)); have HX3 := hideL ((HX.out.next hB3).next ((Below.refl _ _).alloc (Nat.le_refl _) (.cells #[.string x, .string y] 23))); have c0 := HX3.out.c0; have c1 := HX3.out.c1)
      | (go_at_call 8; with_reducible refine (awake_any _ (HE.out.below HB3.out)).mono ?_; rintro e w9 ⟨rfl, hB9⟩))
    go_ret
    exact ⟨rfl, HB3.out.trans (hB9.mono HB3.out.size)⟩
end Go.Proofs.Ytjbfaaoeoggkpaa
