/- The document's Reason. -/
import Derived.Test.YtafmgoekgijfgaaGreatDoorAAnArg
namespace Go.Proofs.YtafmgoekgijfgaaGreatDoor
open Go.RowKit Go.Lib

def reaK (c K : Int) : Prop := (K = 0) ∨ (K = 1 ∧ c ≠ 200) ∨ (K = 2 ∧ c ≠ 200 ∧ c ≠ 204) ∨ (K = 3 ∧ c ≠ 200 ∧ c ≠ 204 ∧ c ≠ 400) ∨ (K = 4 ∧ c ≠ 200 ∧ c ≠ 204 ∧ c ≠ 400 ∧ c ≠ 403) ∨ (K = 5 ∧ c ≠ 200 ∧ c ≠ 204 ∧ c ≠ 400 ∧ c ≠ 403 ∧ c ≠ 404) ∨ (K = 6 ∧ c ≠ 200 ∧ c ≠ 204 ∧ c ≠ 400 ∧ c ≠ 403 ∧ c ≠ 404 ∧ c ≠ 502) ∨ (K = 7 ∧ c ≠ 200 ∧ c ≠ 204 ∧ c ≠ 400 ∧ c ≠ 403 ∧ c ≠ 404 ∧ c ≠ 502 ∧ c ≠ 503)
def ReaBox (w W : World) : Prop := W.heap[w.heap.size]? = some (.cells #[.int .i64 200, .int .i64 204, .int .i64 400, .int .i64 403, .int .i64 404, .int .i64 502, .int .i64 503] 3 (0, 0)) ∧ W.heap[w.heap.size + 1]? = some (.cells #[.string ⟨#[79, 75]⟩, .string ⟨#[78, 111, 32, 67, 111, 110, 116, 101, 110, 116]⟩, .string ⟨#[66, 97, 100, 32, 82, 101, 113, 117, 101, 115, 116]⟩, .string ⟨#[70, 111, 114, 98, 105, 100, 100, 101, 110]⟩, .string ⟨#[78, 111, 116, 32, 70, 111, 117, 110, 100]⟩, .string ⟨#[66, 97, 100, 32, 71, 97, 116, 101, 119, 97, 121]⟩, .string ⟨#[83, 101, 114, 118, 105, 99, 101, 32, 85, 110, 97, 118, 97, 105, 108, 97, 98, 108, 101]⟩] 9 (0, 0))
theorem reaBox_new (w : World) : ReaBox w ((w.alloc (.cells #[.int .i64 200, .int .i64 204, .int .i64 400, .int .i64 403, .int .i64 404, .int .i64 502, .int .i64 503] 3)).alloc (.cells #[.string ⟨#[79, 75]⟩, .string ⟨#[78, 111, 32, 67, 111, 110, 116, 101, 110, 116]⟩, .string ⟨#[66, 97, 100, 32, 82, 101, 113, 117, 101, 115, 116]⟩, .string ⟨#[70, 111, 114, 98, 105, 100, 100, 101, 110]⟩, .string ⟨#[78, 111, 116, 32, 70, 111, 117, 110, 100]⟩, .string ⟨#[66, 97, 100, 32, 71, 97, 116, 101, 119, 97, 121]⟩, .string ⟨#[83, 101, 114, 118, 105, 99, 101, 32, 85, 110, 97, 118, 97, 105, 108, 97, 98, 108, 101]⟩] 9)) := by
 refine ⟨?_, ?_⟩
 · exact (((Below.refl (w.alloc (.cells #[.int .i64 200, .int .i64 204, .int .i64 400, .int .i64 403, .int .i64 404, .int .i64 502, .int .i64 503] 3)).heap.size (w.alloc (.cells #[.int .i64 200, .int .i64 204, .int .i64 400, .int .i64 403, .int .i64 404, .int .i64 502, .int .i64 503] 3))).alloc (Nat.le_refl _) (.cells #[.string ⟨#[79, 75]⟩, .string ⟨#[78, 111, 32, 67, 111, 110, 116, 101, 110, 116]⟩, .string ⟨#[66, 97, 100, 32, 82, 101, 113, 117, 101, 115, 116]⟩, .string ⟨#[70, 111, 114, 98, 105, 100, 100, 101, 110]⟩, .string ⟨#[78, 111, 116, 32, 70, 111, 117, 110, 100]⟩, .string ⟨#[66, 97, 100, 32, 71, 97, 116, 101, 119, 97, 121]⟩, .string ⟨#[83, 101, 114, 118, 105, 99, 101, 32, 85, 110, 97, 118, 97, 105, 108, 97, 98, 108, 101]⟩] 9)).block _ (by rw [World.size_alloc]; omega)).trans (heap_alloc_new w _)
 · have h := heap_alloc_new (w.alloc (.cells #[.int .i64 200, .int .i64 204, .int .i64 400, .int .i64 403, .int .i64 404, .int .i64 502, .int .i64 503] 3)) (.cells #[.string ⟨#[79, 75]⟩, .string ⟨#[78, 111, 32, 67, 111, 110, 116, 101, 110, 116]⟩, .string ⟨#[66, 97, 100, 32, 82, 101, 113, 117, 101, 115, 116]⟩, .string ⟨#[70, 111, 114, 98, 105, 100, 100, 101, 110]⟩, .string ⟨#[78, 111, 116, 32, 70, 111, 117, 110, 100]⟩, .string ⟨#[66, 97, 100, 32, 71, 97, 116, 101, 119, 97, 121]⟩, .string ⟨#[83, 101, 114, 118, 105, 99, 101, 32, 85, 110, 97, 118, 97, 105, 108, 97, 98, 108, 101]⟩] 9)
   rw [World.size_alloc] at h
   exact h
theorem reaBox_below (w : World) : Below w.heap.size w ((w.alloc (.cells #[.int .i64 200, .int .i64 204, .int .i64 400, .int .i64 403, .int .i64 404, .int .i64 502, .int .i64 503] 3)).alloc (.cells #[.string ⟨#[79, 75]⟩, .string ⟨#[78, 111, 32, 67, 111, 110, 116, 101, 110, 116]⟩, .string ⟨#[66, 97, 100, 32, 82, 101, 113, 117, 101, 115, 116]⟩, .string ⟨#[70, 111, 114, 98, 105, 100, 100, 101, 110]⟩, .string ⟨#[78, 111, 116, 32, 70, 111, 117, 110, 100]⟩, .string ⟨#[66, 97, 100, 32, 71, 97, 116, 101, 119, 97, 121]⟩, .string ⟨#[83, 101, 114, 118, 105, 99, 101, 32, 85, 110, 97, 118, 97, 105, 108, 97, 98, 108, 101]⟩] 9)) := by
 have h1 := (Below.refl w.heap.size w).alloc (Nat.le_refl _) (.cells #[.int .i64 200, .int .i64 204, .int .i64 400, .int .i64 403, .int .i64 404, .int .i64 502, .int .i64 503] 3)
 exact h1.trans (((Below.refl _ (w.alloc (.cells #[.int .i64 200, .int .i64 204, .int .i64 400, .int .i64 403, .int .i64 404, .int .i64 502, .int .i64 503] 3))).alloc (Nat.le_refl _) (.cells #[.string ⟨#[79, 75]⟩, .string ⟨#[78, 111, 32, 67, 111, 110, 116, 101, 110, 116]⟩, .string ⟨#[66, 97, 100, 32, 82, 101, 113, 117, 101, 115, 116]⟩, .string ⟨#[70, 111, 114, 98, 105, 100, 100, 101, 110]⟩, .string ⟨#[78, 111, 116, 32, 70, 111, 117, 110, 100]⟩, .string ⟨#[66, 97, 100, 32, 71, 97, 116, 101, 119, 97, 121]⟩, .string ⟨#[83, 101, 114, 118, 105, 99, 101, 32, 85, 110, 97, 118, 97, 105, 108, 97, 98, 108, 101]⟩] 9)).mono h1.size)
set_option maxRecDepth 100000 in
set_option maxHeartbeats 4000000 in
theorem rreason_any (c : Int) (w : World) : Calls Tryz.prog 28 #[.int .i64 c] w (fun e w' => e = .returned (.string (bo (reaP c))) ∧ Below w.heap.size w w') := by
 obtain ⟨T, hT⟩ : ∃ t, bo (reaP c) = t := ⟨_, rfl⟩
 rw [hT]
 have H0 := hideL (fun (e : c = 200) => (by subst e; rw [← hT]; rfl : T = ⟨#[79, 75]⟩))
 have H1 := hideL (fun (e : c = 204) => (by subst e; rw [← hT]; rfl : T = ⟨#[78, 111, 32, 67, 111, 110, 116, 101, 110, 116]⟩))
 have H2 := hideL (fun (e : c = 400) => (by subst e; rw [← hT]; rfl : T = ⟨#[66, 97, 100, 32, 82, 101, 113, 117, 101, 115, 116]⟩))
 have H3 := hideL (fun (e : c = 403) => (by subst e; rw [← hT]; rfl : T = ⟨#[70, 111, 114, 98, 105, 100, 100, 101, 110]⟩))
 have H4 := hideL (fun (e : c = 404) => (by subst e; rw [← hT]; rfl : T = ⟨#[78, 111, 116, 32, 70, 111, 117, 110, 100]⟩))
 have H5 := hideL (fun (e : c = 502) => (by subst e; rw [← hT]; rfl : T = ⟨#[66, 97, 100, 32, 71, 97, 116, 101, 119, 97, 121]⟩))
 have H6 := hideL (fun (e : c = 503) => (by subst e; rw [← hT]; rfl : T = ⟨#[83, 101, 114, 118, 105, 99, 101, 32, 85, 110, 97, 118, 97, 105, 108, 97, 98, 108, 101]⟩))
 have H7 := hideL (fun (e0 : c ≠ 200) (e1 : c ≠ 204) (e2 : c ≠ 400) (e3 : c ≠ 403) (e4 : c ≠ 404) (e5 : c ≠ 502) (e6 : c ≠ 503) => (by rw [← hT]; unfold reaP; rw [if_neg e0, if_neg e1, if_neg e2, if_neg e3, if_neg e4, if_neg e5, if_neg e6]; rfl : T = ⟨#[79, 116, 104, 101, 114]⟩))
 clear hT
 have HC0 := hideL (reaBox_new w)
 have HB0 := hideL (reaBox_below w)
 go_enter Tryz.func28, Tryz.ntmps28
 go_wp2_with fail
 go_loopw [5] (fun i wr => ∃ K : Int, i = .int .i64 K ∧ HidL (reaK c K) ∧ HidL (ReaBox w wr) ∧ HidL (Below w.heap.size w wr)) (fun i _ => 7 - (RowKit.intOf i).toNat)
 case atStart => exact ⟨0, rfl, ⟨.inl rfl⟩, HC0, HB0⟩
 case round =>
   obtain ⟨K, rfl, HK, HC, HB⟩ := hrel
   clear HC0 HB0
   obtain ⟨W, rfl⟩ : ∃ W, W = wr := ⟨_, rfl⟩
   rcases HK.out with rfl | ⟨rfl, n0⟩ | ⟨rfl, n0, n1⟩ | ⟨rfl, n0, n1, n2⟩ | ⟨rfl, n0, n1, n2, n3⟩ | ⟨rfl, n0, n1, n2, n3, n4⟩ | ⟨rfl, n0, n1, n2, n3, n4, n5⟩ | ⟨rfl, n0, n1, n2, n3, n4, n5, n6⟩
   · have q := cell_of_row _ _ 0 _ _ _ HC.out.1
     have p := cell_of_row _ _ 0 _ _ _ HC.out.2
     simp only [List.getElem?_toArray, List.getElem?_cons_zero] at q p
     by_cases h : c = 200
     · have E := hideL (H0.out h)
       subst h
       clear HK
       go_wp2_with fail
       go_ret
       exact ⟨by rw [E.out]; rfl, HB.out⟩
     · have hne : ((200 : Int) == c) = false := beq_eq_false_iff_ne.2 (fun e => h e.symm)
       have HN : HidL (reaK c 1) := ⟨.inr (.inl ⟨rfl, h⟩)⟩
       clear HK h
       go_wp2_with fail
       go_roundw
       case rel => exact ⟨1, rfl, HN, HC, HB⟩
       case measure => decide
   · have q := cell_of_row _ _ 1 _ _ _ HC.out.1
     have p := cell_of_row _ _ 1 _ _ _ HC.out.2
     simp only [List.getElem?_toArray, List.getElem?_cons_zero, List.getElem?_cons_succ] at q p
     by_cases h : c = 204
     · have E := hideL (H1.out h)
       subst h
       clear HK n0
       go_wp2_with fail
       go_ret
       exact ⟨by rw [E.out]; rfl, HB.out⟩
     · have hne : ((204 : Int) == c) = false := beq_eq_false_iff_ne.2 (fun e => h e.symm)
       have HN : HidL (reaK c 2) := ⟨.inr (.inr (.inl ⟨rfl, n0, h⟩))⟩
       clear HK h n0
       go_wp2_with fail
       go_roundw
       case rel => exact ⟨2, rfl, HN, HC, HB⟩
       case measure => decide
   · have q := cell_of_row _ _ 2 _ _ _ HC.out.1
     have p := cell_of_row _ _ 2 _ _ _ HC.out.2
     simp only [List.getElem?_toArray, List.getElem?_cons_zero, List.getElem?_cons_succ] at q p
     by_cases h : c = 400
     · have E := hideL (H2.out h)
       subst h
       clear HK n0 n1
       go_wp2_with fail
       go_ret
       exact ⟨by rw [E.out]; rfl, HB.out⟩
     · have hne : ((400 : Int) == c) = false := beq_eq_false_iff_ne.2 (fun e => h e.symm)
       have HN : HidL (reaK c 3) := ⟨.inr (.inr (.inr (.inl ⟨rfl, n0, n1, h⟩)))⟩
       clear HK h n0 n1
       go_wp2_with fail
       go_roundw
       case rel => exact ⟨3, rfl, HN, HC, HB⟩
       case measure => decide
   · have q := cell_of_row _ _ 3 _ _ _ HC.out.1
     have p := cell_of_row _ _ 3 _ _ _ HC.out.2
     simp only [List.getElem?_toArray, List.getElem?_cons_zero, List.getElem?_cons_succ] at q p
     by_cases h : c = 403
     · have E := hideL (H3.out h)
       subst h
       clear HK n0 n1 n2
       go_wp2_with fail
       go_ret
       exact ⟨by rw [E.out]; rfl, HB.out⟩
     · have hne : ((403 : Int) == c) = false := beq_eq_false_iff_ne.2 (fun e => h e.symm)
       have HN : HidL (reaK c 4) := ⟨.inr (.inr (.inr (.inr (.inl ⟨rfl, n0, n1, n2, h⟩))))⟩
       clear HK h n0 n1 n2
       go_wp2_with fail
       go_roundw
       case rel => exact ⟨4, rfl, HN, HC, HB⟩
       case measure => decide
   · have q := cell_of_row _ _ 4 _ _ _ HC.out.1
     have p := cell_of_row _ _ 4 _ _ _ HC.out.2
     simp only [List.getElem?_toArray, List.getElem?_cons_zero, List.getElem?_cons_succ] at q p
     by_cases h : c = 404
     · have E := hideL (H4.out h)
       subst h
       clear HK n0 n1 n2 n3
       go_wp2_with fail
       go_ret
       exact ⟨by rw [E.out]; rfl, HB.out⟩
     · have hne : ((404 : Int) == c) = false := beq_eq_false_iff_ne.2 (fun e => h e.symm)
       have HN : HidL (reaK c 5) := ⟨.inr (.inr (.inr (.inr (.inr (.inl ⟨rfl, n0, n1, n2, n3, h⟩)))))⟩
       clear HK h n0 n1 n2 n3
       go_wp2_with fail
       go_roundw
       case rel => exact ⟨5, rfl, HN, HC, HB⟩
       case measure => decide
   · have q := cell_of_row _ _ 5 _ _ _ HC.out.1
     have p := cell_of_row _ _ 5 _ _ _ HC.out.2
     simp only [List.getElem?_toArray, List.getElem?_cons_zero, List.getElem?_cons_succ] at q p
     by_cases h : c = 502
     · have E := hideL (H5.out h)
       subst h
       clear HK n0 n1 n2 n3 n4
       go_wp2_with fail
       go_ret
       exact ⟨by rw [E.out]; rfl, HB.out⟩
     · have hne : ((502 : Int) == c) = false := beq_eq_false_iff_ne.2 (fun e => h e.symm)
       have HN : HidL (reaK c 6) := ⟨.inr (.inr (.inr (.inr (.inr (.inr (.inl ⟨rfl, n0, n1, n2, n3, n4, h⟩))))))⟩
       clear HK h n0 n1 n2 n3 n4
       go_wp2_with fail
       go_roundw
       case rel => exact ⟨6, rfl, HN, HC, HB⟩
       case measure => decide
   · have q := cell_of_row _ _ 6 _ _ _ HC.out.1
     have p := cell_of_row _ _ 6 _ _ _ HC.out.2
     simp only [List.getElem?_toArray, List.getElem?_cons_zero, List.getElem?_cons_succ] at q p
     by_cases h : c = 503
     · have E := hideL (H6.out h)
       subst h
       clear HK n0 n1 n2 n3 n4 n5
       go_wp2_with fail
       go_ret
       exact ⟨by rw [E.out]; rfl, HB.out⟩
     · have hne : ((503 : Int) == c) = false := beq_eq_false_iff_ne.2 (fun e => h e.symm)
       have HN : HidL (reaK c 7) := ⟨.inr (.inr (.inr (.inr (.inr (.inr (.inr (⟨rfl, n0, n1, n2, n3, n4, n5, h⟩)))))))⟩
       clear HK h n0 n1 n2 n3 n4 n5
       go_wp2_with fail
       go_roundw
       case rel => exact ⟨7, rfl, HN, HC, HB⟩
       case measure => decide
   · have E := hideL (H7.out n0 n1 n2 n3 n4 n5 n6)
     clear HK n0 n1 n2 n3 n4 n5 n6
     go_wp2_with fail
     go_ret
     exact ⟨by rw [E.out]; rfl, HB.out⟩
end Go.Proofs.YtafmgoekgijfgaaGreatDoor
