/- May of the program. -/
import Derived.Test.YtaomigfmjglggaaDoorNmMay
import Derived.Laws.StructEq
namespace Go.Proofs.YtaomigfmjglggaaDoor
open Go.RowKit Go.Lib

set_option maxRecDepth 100000 in
set_option maxHeartbeats 400000 in
theorem may_any (a : Nm) (h1 : a.ns.size ≤ 9223372036854775807) (h2 : a.sa.size ≤ 9223372036854775807) (w : World) : Calls Tryd.prog 28 #[.agg #[.string a.ns, .string a.sa]] w (fun e w' => e = .returned (.bool (mayN a)) ∧ Below w.heap.size w w') := by
  obtain ⟨s, t⟩ := a
  change s.size ≤ _ at h1
  change t.size ≤ _ at h2
  unfold mayN
  dsimp only
  have L1 := hideL (label_any s h1)
  have L2 := hideL (label_any t h2)
  have HX := hideL (NBox.new w s t)
  have HB := hideL ((Below.refl w.heap.size w).alloc (Nat.le_refl _) (.cells #[.string s, .string t] 27))
  obtain ⟨x, hx⟩ : ∃ x, labelS s.data.toList = x := ⟨_, rfl⟩
  obtain ⟨y, hy⟩ : ∃ x, labelS t.data.toList = x := ⟨_, rfl⟩
  rw [hx] at L1 ⊢
  rw [hy] at L2 ⊢
  clear hx hy
  cases x
  · go_enter Tryd.func28, Tryd.ntmps28
    go_wp2_with (go_at_call 44; refine (L1.out _).mono ?_; rintro e w2 ⟨rfl, hB2⟩)
    go_ret
    exact ⟨rfl, HB.out.trans (hB2.mono HB.out.size)⟩
  · go_enter Tryd.func28, Tryd.ntmps28
    go_wp2_with (go_at_call 44; first
      | (with_reducible refine (L1.out _).mono ?_; rintro e w2 ⟨rfl, hB2⟩; have hc := (HX.out.next hB2).c1)
      | (with_reducible refine (L2.out _).mono ?_; rintro e w3 ⟨rfl, hB3⟩))
    go_ret
    exact ⟨rfl, HB.out.trans ((hB2.trans (hB3.mono hB2.size)).mono HB.out.size)⟩

end Go.Proofs.YtaomigfmjglggaaDoor
