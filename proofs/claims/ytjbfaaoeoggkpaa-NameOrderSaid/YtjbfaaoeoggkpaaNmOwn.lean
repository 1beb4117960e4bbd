/- own of the program: a name in memory of its own. -/
import Derived.Test.YtjbfaaoeoggkpaaNmCode
import Derived.Test.YtjbfaaoeoggkpaaNmRPar
import Derived.Test.YtjbfaaoeoggkpaaShelf
import Derived.StillTactics
namespace Go.Proofs.Ytjbfaaoeoggkpaa
open Go.RowKit Go.Lib

set_option maxRecDepth 100000 in
theorem clone_any (s : ByteArray) (hs : s.size ≤ 281474976710656) (w : World) : Calls Try.prog 31 #[.string s] w (fun e w' => e = .returned (.string s) ∧ Below w.heap.size w w') := by
  have HC := hideL (fun W : World => Any.stringslite_Clone Try.laysM316 s W hs)
  go_enter Try.func31, Try.ntmps31
  go_wp2_with (go_at_call 37; refine (HC.out _).mono ?_; rintro e w2 ⟨rfl, hB2⟩)
  go_ret
  exact ⟨rfl, hB2⟩

theorem NBox.drew {W : World} {g : Nat} {s t : ByteArray} (h : NBox W g s t) : NBox W.drew g s t := h

set_option maxRecDepth 100000 in
set_option maxHeartbeats 400000 in
theorem own_any (a : Nm) (h1 : a.ns.size ≤ 281474976710656) (h2 : a.sa.size ≤ 281474976710656) (w : World) : Calls Try.prog 26 #[.agg #[.string a.ns, .string a.sa]] w (fun e w' => e = .returned (.agg #[.string a.ns, .string a.sa]) ∧ Below w.heap.size w w') := by
  obtain ⟨s, t⟩ := a
  change s.size ≤ _ at h1
  change t.size ≤ _ at h2
  dsimp only
  have L1 := hideL (clone_any s h1)
  have L2 := hideL (clone_any t h2)
  have HB1 := (Below.refl w.heap.size w).alloc (Nat.le_refl _) (.cells #[.string s, .string t] 23)
  have HX := hideL ((NBox.new w s t).next ((Below.refl _ _).alloc (Nat.le_refl _) (.cells #[.string (⟨#[]⟩ : ByteArray), .string (⟨#[]⟩ : ByteArray)] 23))).drew
  have HY := NBox.new (w.alloc (.cells #[.string s, .string t] 23)) (⟨#[]⟩ : ByteArray) (⟨#[]⟩ : ByteArray)
  rw [World.size_alloc] at HY
  replace HY := hideL HY.drew
  have HB := hideL (HB1.alloc HB1.size (.cells #[.string (⟨#[]⟩ : ByteArray), .string (⟨#[]⟩ : ByteArray)] 23)).drew
  clear HB1
  go_enter Try.func26, Try.ntmps26
  go_wp2_with fail
  go_region_with (go_at_call 31; first
    | (with_reducible refine (L1.out _).mono ?_; rintro e w2 ⟨rfl, hB2⟩; have c0 := (HX.out.next hB2).c0; have c1 := (HX.out.next hB2).c1; have HX2 := hideL (HY.out.next hB2))
    | (with_reducible refine (L2.out _).mono ?_; rintro e w3 ⟨rfl, hB3⟩; have d0 := (HX2.out.next hB3).c0; have d1 := (HX2.out.next hB3).c1; have f0 := (HX2.out.next hB3).frozen 0; have f1 := (HX2.out.next hB3).frozen 1))
  all_goals
    go_wp2_with fail
    have HXF := hideL ((HX2.out.next hB3).st s t)
    have HBF := hideL (((HB.out.trans ((hB2.trans (hB3.mono hB2.size)).mono HB.out.size)).setCell (p := ⟨w.heap.size + 1, 0, none⟩) (by simp) (.string s)).setCell (p := ⟨w.heap.size + 1, 1, none⟩) (by simp) (.string t))
    clear c0 c1 d0 d1 f0 f1 hB2 hB3 HX2
    generalize (w3.setCell ⟨w.heap.size + 1, 0, none⟩ (.string s)).setCell ⟨w.heap.size + 1, 1, none⟩ (.string t) = WF at *
    have r0 := HXF.out.c0
    have r1 := HXF.out.c1
    exact bodyPost_ret (v := .agg #[.string s, .string t]) (by simp [results, Try.results26, go_sem, r0, r1]) rfl ⟨rfl, HBF.out⟩
end Go.Proofs.Ytjbfaaoeoggkpaa
