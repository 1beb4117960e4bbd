/- The law HeadsFraming (P9.4). -/
import Derived.Test.YtilefgmlnmpeoaaDoorHdAwake
import Derived.Test.YtilefgmlnmpeoaaDoorHdRefM
namespace Go.Proofs.YtilefgmlnmpeoaaDoor
open Go.RowKit Go.Lib

set_option maxRecDepth 100000 in
set_option maxHeartbeats 2000000 in
theorem framing_law (v : Value) (l : List Hd) (w0 : World) (hv : GAt KH w0 v l) (hE : Env w0) : Calls Tryd.prog 5 #[v] w0 (fun e w' => e = .returned (.bool true) ∧ Below w0.heap.size w0 w') := by
  have LW := hideL (fun W (hE : Env W) => awake_any W hE)
  have LL := hideL (long_any v l w0 hv)
  obtain ⟨y, hy⟩ : ∃ y, longP l = y := ⟨_, rfl⟩
  rw [hy] at LL
  have HE := hideL hE
  cases y
  · have hfit := longP_fits hy
    have hlen := (longP_no hy).1
    have LP := hideL (fun W (hb : Below w0.heap.size w0 W) => framing_any v l W (hv.below hb) hfit (by omega) (hE.next hb))
    have LR := hideL (fun W (hb : Below w0.heap.size w0 W) => framingR_any v l W (hv.below hb) hfit (by omega))
    obtain ⟨⟨e0, a, b, c⟩, hr⟩ : ∃ r, framP l = r := ⟨_, rfl⟩
    rw [hr] at LP LR
    simp only [frA, bdV] at LP LR
    obtain ⟨ao, cap, rfl⟩ := hv.len
    clear hv hy hfit hlen hr hE
    go_enter Tryd.func5, Tryd.ntmps5
    go_wp2_with (first
      | (go_at_call 9; refine LL.out.mono ?_; rintro e w1 ⟨rfl, hB⟩; have HB1 := hideL hB; clear hB)
      | (go_at_call 28; refine (LP.out _ HB1.out).mono ?_; rintro e w2 ⟨rfl, hB⟩
         have hA := (Below.refl w2.heap.size w2).alloc (Nat.le_refl _) (.cells #[.int .i64 a, .int .i64 b, .int .i64 c] 48)
         have HB2 := hideL ((HB1.out.trans (hB.mono HB1.out.size)).trans (hA.mono (Nat.le_trans HB1.out.size hB.size)))
         have HX2 := hideL (BBox.new w2 a b c)
         clear hB hA)
      | (go_at_call 29; refine (LR.out _ HB2.out).mono ?_; rintro e w3 ⟨rfl, hB⟩
         have hA := (Below.refl w3.heap.size w3).alloc (Nat.le_refl _) (.cells #[.int .i64 a, .int .i64 b, .int .i64 c] 48)
         have HB3 := hideL ((HB2.out.trans (hB.mono HB2.out.size)).trans (hA.mono (Nat.le_trans HB2.out.size hB.size)))
         have HX3 := hideL ((HX2.out.next hB).next hA)
         have HY3 := hideL (BBox.new w3 a b c)
         have c0 := HX3.out.c0
         have c1 := HX3.out.c1
         have c2 := HX3.out.c2
         clear hB hA)
      | (go_at_call 10; refine (LW.out _ (HE.out.next HB3.out)).mono ?_; rintro e w4 ⟨rfl, hB⟩; have HB4 := hideL (HB3.out.trans (hB.mono HB3.out.size)); clear hB))
    go_ret
    exact ⟨rfl, HB4.out⟩
  · obtain ⟨ao, cap, rfl⟩ := hv.len
    clear hv hy hE
    go_enter Tryd.func5, Tryd.ntmps5
    go_wp2_with (first
      | (go_at_call 9; refine LL.out.mono ?_; rintro e w1 ⟨rfl, hB⟩; have HB1 := hideL hB; clear hB)
      | (go_at_call 10; refine (LW.out _ (HE.out.next HB1.out)).mono ?_; rintro e w4 ⟨rfl, hB⟩; have HB4 := hideL (HB1.out.trans (hB.mono HB1.out.size)); clear hB))
    go_ret
    exact ⟨rfl, HB4.out⟩
end Go.Proofs.YtilefgmlnmpeoaaDoor
