/- A header in memory of its own. -/
import Derived.Test.YtilefgmlnmpeoaaDoorHdVal
import Derived.StillTactics
import Derived.Shelf.RegionOpen
namespace Go.Proofs.YtilefgmlnmpeoaaDoor
open Go.RowKit Go.Lib

set_option maxRecDepth 100000 in
set_option maxHeartbeats 400000 in
theorem own_any (a : Hd) (hf : a.n.size ≤ 1000000 ∧ a.v.size ≤ 1000000) (w : World) : Calls Tryd.prog 40 #[hdV a] w (fun e w' => e = .returned (hdV a) ∧ Below w.heap.size w w') := by
  obtain ⟨s, t⟩ := a
  have h1 : s.size ≤ 281474976710656 := by have := hf.1; simp only at this; omega
  have h2 : t.size ≤ 281474976710656 := by have := hf.2; simp only at this; omega
  clear hf
  simp only [hdV]
  have L1 := hideL (clone_any s h1)
  have L2 := hideL (clone_any t h2)
  have HB1 := (Below.refl w.heap.size w).alloc (Nat.le_refl _) (.cells #[.string s, .string t] 23)
  have HX := hideL ((HBox.new w s t).next ((Below.refl _ _).alloc (Nat.le_refl _) (.cells #[.string (⟨#[]⟩ : ByteArray), .string (⟨#[]⟩ : ByteArray)] 23))).drew
  have HY := HBox.new (w.alloc (.cells #[.string s, .string t] 23)) (⟨#[]⟩ : ByteArray) (⟨#[]⟩ : ByteArray)
  rw [World.size_alloc] at HY
  replace HY := hideL HY.drew
  have HB := hideL (HB1.alloc HB1.size (.cells #[.string (⟨#[]⟩ : ByteArray), .string (⟨#[]⟩ : ByteArray)] 23)).drew
  clear HB1
  go_enter Tryd.func40, Tryd.ntmps40
  go_wp2_with fail
  go_region_with (go_at_call 42; first
    | (with_reducible refine (L1.out _).mono ?_; rintro e w2 ⟨rfl, hB2⟩; have c0 := (HX.out.next hB2).c0; have c1 := (HX.out.next hB2).c1; have HX2 := hideL (HY.out.next hB2))
    | (with_reducible refine (L2.out _).mono ?_; rintro e w3 ⟨rfl, hB3⟩; have d0 := (HX2.out.next hB3).c0; have d1 := (HX2.out.next hB3).c1; have f0 := (HX2.out.next hB3).frozen 0; have f1 := (HX2.out.next hB3).frozen 1))
  all_goals
    go_wp2_with fail
    have HXF := hideL ((HX2.out.next hB3).st s t)
    have HBF := hideL (((HB.out.trans ((hB2.trans (hB3.mono hB2.size)).mono HB.out.size)).setCell (p := ⟨w.heap.size + 1, 0, none⟩) (by simp) (.string s)).setCell (p := ⟨w.heap.size + 1, 1, none⟩) (by simp) (.string t))
    clear c0 c1 d0 d1 f0 f1 hB2 hB3 HX2
    generalize (w3.setCell ⟨w.heap.size + 1, 0, none⟩ (.string s)).setCell ⟨w.heap.size + 1, 1, none⟩ (.string t) = WF at *
    have r0 := HXF.out.c0
    have r1 := HXF.out.c1
    exact bodyPost_ret (v := .agg #[.string s, .string t]) (by simp [results, Tryd.results40, go_sem, r0, r1]) rfl ⟨rfl, HBF.out⟩
end Go.Proofs.YtilefgmlnmpeoaaDoor
