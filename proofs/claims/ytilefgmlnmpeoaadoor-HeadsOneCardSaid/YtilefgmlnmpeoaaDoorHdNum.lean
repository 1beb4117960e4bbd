/- How a body's end is told: isNumber, byLength. -/
import Derived.Test.YtilefgmlnmpeoaaDoorHdHead
import Derived.Test.YtilefgmlnmpeoaaDoorHdLib
namespace Go.Proofs.YtilefgmlnmpeoaaDoor
open Go.RowKit Go.Lib

/-- Digits alone, no nought ahead of others. -/
def isNum (s : List UInt8) : Bool := !decide (s = [] ∨ (1 < s.length ∧ s.head? = some 48) ∨ s.all digB = false)
theorem isNum_zero : isNum [48] = true := by decide
theorem isNum_head {s : List UInt8} (h0 : s ≠ []) (h1 : s ≠ [48]) (h : s.head? = some 48) : isNum s = false := by
  have hl : 1 < s.length := by
    match s, h0, h1, h with
    | [c], _, h1, h => exact absurd (by simpa using h) (fun e => h1 (by rw [e]))
    | _ :: _ :: _, _, _, _ => simp
  unfold isNum
  rw [decide_eq_true (.inr (.inl ⟨hl, h⟩))]
  rfl
theorem isNum_else {s : List UInt8} (h0 : s ≠ []) (h : s.head? ≠ some 48) : isNum s = s.all digB := by
  unfold isNum
  cases hd : s.all digB
  · rw [decide_eq_true (.inr (.inr rfl))]; rfl
  · rw [decide_eq_false]
    · rfl
    · rintro (e | ⟨_, e⟩ | e)
      · exact h0 e
      · exact h e
      · exact Bool.noConfusion e
theorem isNum_yes {s : List UInt8} (h : isNum s = true) : s ≠ [] ∧ ∀ c ∈ s, digB c = true := by
  unfold isNum at h
  simp only [Bool.not_eq_true', decide_eq_false_iff_not, not_or] at h
  exact ⟨h.1, List.all_eq_true.1 (by simpa using h.2.2)⟩
theorem lenP_num (s : List UInt8) : lenP s = if isNum s = false then (2, bd0) else if 1024 < numN 0 s then (6, bd0) else (0, ⟨0, 1, numN 0 s⟩) := by
  unfold lenP isNum
  by_cases h : s = [] ∨ (1 < s.length ∧ s.head? = some 48) ∨ s.all digB = false
  · rw [if_pos h, decide_eq_true h]; rfl
  · rw [if_neg h, decide_eq_false h]; rfl
set_option maxRecDepth 100000 in
set_option maxHeartbeats 1000000 in
theorem isNumber_any (s : ByteArray) (w : World) : Calls Tryd.prog 59 #[.string s] w (fun e w' => e = .returned (.bool (isNum s.data.toList)) ∧ Below w.heap.size w w') := by
  by_cases h0 : s = ⟨#[]⟩
  · subst h0
    go_enter Tryd.func59, Tryd.ntmps59
    go_wp2_with fail
    go_ret
    exact ⟨rfl, Below.refl _ _⟩
  have he : (s.toList == ([] : List UInt8)) = false := by
    have := eqs_false h0
    rwa [show (⟨#[]⟩ : ByteArray).toList = [] from by rw [ByteArray.toList_eq]] at this
  have LC := hideL (hasNoDig_any s)
  have LP := hideL (hasPre_any s ⟨#[48]⟩)
  have h0' : s.data.toList ≠ [] := fun e => h0 (bytes_ext e)
  by_cases h1 : s = ⟨#[48]⟩
  · subst h1
    have hd : (!((⟨#[48]⟩ : ByteArray).data.toList.all digB)) = false := by decide
    rw [hd] at LC
    rw [show isNum (⟨#[48]⟩ : ByteArray).data.toList = true from isNum_zero]
    clear h0 h0' hd he LP
    go_enter Tryd.func59, Tryd.ntmps59
    go_wp2_with (first
      | (go_at_call 68; refine (LC.out _).mono ?_; rintro e w2 ⟨rfl, hB2⟩))
    go_ret
    exact ⟨rfl, hB2⟩
  have hx : (s.toList == [48]) = false := by
    have := eqs_false h1
    rwa [show (⟨#[48]⟩ : ByteArray).toList = [48] from by rw [ByteArray.toList_eq]] at this
  have h1' : s.data.toList ≠ [48] := fun e => h1 (bytes_ext e)
  have hpo := pre_one 48 s.data.toList
  by_cases hh : s.data.toList.head? = some 48
  · rw [isNum_head h0' h1' hh]
    rw [decide_eq_true hh] at hpo
    have LP2 : HidL (∀ w : World, Calls Tryd.prog 67 #[.string s, .string ⟨#[48]⟩] w (fun e w' => e = .returned (.bool true) ∧ w' = w)) := ⟨fun w => by have h := LP.out w; rwa [show decide ((⟨#[48]⟩ : ByteArray).data.toList <+: s.data.toList) = true from hpo] at h⟩
    clear hh hpo h1' h1 h0' h0 LP LC
    go_enter Tryd.func59, Tryd.ntmps59
    go_wp2_with (first
      | (go_at_call 67; refine (LP2.out _).mono ?_; rintro e w2 ⟨rfl, rfl⟩))
    go_ret
    exact ⟨rfl, Below.refl _ _⟩
  · rw [isNum_else h0' hh]
    rw [decide_eq_false hh] at hpo
    have LP2 : HidL (∀ w : World, Calls Tryd.prog 67 #[.string s, .string ⟨#[48]⟩] w (fun e w' => e = .returned (.bool false) ∧ w' = w)) := ⟨fun w => by have h := LP.out w; rwa [show decide ((⟨#[48]⟩ : ByteArray).data.toList <+: s.data.toList) = false from hpo] at h⟩
    generalize s.data.toList.all digB = D at *
    clear hh hpo h1' h1 h0' h0 LP
    go_enter Tryd.func59, Tryd.ntmps59
    go_wp2_with (first
      | (go_at_call 67; refine (LP2.out _).mono ?_; rintro e w2 ⟨rfl, rfl⟩)
      | (go_at_call 68; refine (LC.out _).mono ?_; rintro e w3 ⟨rfl, hB3⟩))
    go_ret
    exact ⟨rfl, hB3⟩

/-- A body's end as a value, in a box. -/
def bdV (b : Bd) : Value := .agg #[.int .i64 b.chunked, .int .i64 b.has, .int .i64 b.len]
def frA (r : Nat × Bd) : Value := .tuple #[bdV r.2, .int .i64 r.1]
def BBox (W : World) (g : Nat) (a b c : Int) : Prop := W.heap[g]? = some (.cells #[.int .i64 a, .int .i64 b, .int .i64 c] 48 (0, 0))
theorem BBox.c0 {W : World} {g : Nat} {a b c : Int} (h : BBox W g a b c) : W.cell? ⟨g, 0, none⟩ = some (.int .i64 a) := (cell_of_row W g 0 _ _ _ h).trans rfl
theorem BBox.c1 {W : World} {g : Nat} {a b c : Int} (h : BBox W g a b c) : W.cell? ⟨g, 1, none⟩ = some (.int .i64 b) := (cell_of_row W g 1 _ _ _ h).trans rfl
theorem BBox.c2 {W : World} {g : Nat} {a b c : Int} (h : BBox W g a b c) : W.cell? ⟨g, 2, none⟩ = some (.int .i64 c) := (cell_of_row W g 2 _ _ _ h).trans rfl
theorem BBox.lt {W : World} {g : Nat} {a b c : Int} (h : BBox W g a b c) : g < W.heap.size := (Array.getElem?_eq_some_iff.1 h).1
theorem BBox.new (w : World) (a b c : Int) : BBox (w.alloc (.cells #[.int .i64 a, .int .i64 b, .int .i64 c] 48)) w.heap.size a b c := heap_alloc_new w _
theorem BBox.next {W W' : World} {g : Nat} {a b c : Int} (h : BBox W g a b c) (hb : Below W.heap.size W W') : BBox W' g a b c := (hb.block g h.lt).trans h
theorem BBox.nextB {W W' : World} {g B : Nat} {a b c : Int} (h : BBox W g a b c) (hb : Below B W W') (hg : g < B) : BBox W' g a b c := (hb.block g hg).trans h
theorem BBox.drew {W : World} {g : Nat} {a b c : Int} (h : BBox W g a b c) : BBox W.drew g a b c := h
theorem BBox.frozen {W : World} {g : Nat} {a b c : Int} (h : BBox W g a b c) (i : Nat) : W.frozen? ⟨g, i, none⟩ = false := frozen_of_row W g i _ _ h
theorem BBox.st {W : World} {g : Nat} {a b c : Int} (h : BBox W g a b c) (x y z : Int) : BBox (((W.setCell ⟨g, 0, none⟩ (.int .i64 x)).setCell ⟨g, 1, none⟩ (.int .i64 y)).setCell ⟨g, 2, none⟩ (.int .i64 z)) g x y z := by
  have h1 := heap_setCell_same W g 0 _ _ (.int .i64 x) h
  have h2 := heap_setCell_same _ g 1 _ _ (.int .i64 y) h1
  exact heap_setCell_same _ g 2 _ _ (.int .i64 z) h2
theorem below_st {B : Nat} {a W : World} (h : Below B a W) {g : Nat} (hg : B ≤ g) (x y z : Value) : Below B a (((W.setCell ⟨g, 0, none⟩ x).setCell ⟨g, 1, none⟩ y).setCell ⟨g, 2, none⟩ z) :=
  ((h.setCell (p := ⟨g, 0, none⟩) hg x).setCell (p := ⟨g, 1, none⟩) hg y).setCell (p := ⟨g, 2, none⟩) hg z
set_option maxRecDepth 100000 in
set_option maxHeartbeats 1000000 in
theorem byLength_any (s : ByteArray) (hs : s.size ≤ 1000000) (w : World) (hE : Env w) : Calls Tryd.prog 47 #[.string s] w (fun e w' => e = .returned (frA (lenP s.data.toList)) ∧ Below w.heap.size w w') := by
  have HB0 := hideL ((Below.refl w.heap.size w).alloc (Nat.le_refl _) (.cells #[.int .i64 0, .int .i64 0, .int .i64 0] 48))
  have HX := hideL (BBox.new w 0 0 0)
  have HE := hideL (hE.next HB0.out)
  have LN := hideL (isNumber_any s)
  rw [lenP_num]
  obtain ⟨y, hy⟩ : ∃ y, isNum s.data.toList = y := ⟨_, rfl⟩
  rw [hy] at LN ⊢
  clear hE
  cases y
  · rw [if_pos rfl]
    clear hy
    go_enter Tryd.func47, Tryd.ntmps47
    go_wp2_with (first
      | (go_at_call 59; refine (LN.out _).mono ?_; rintro e w1 ⟨rfl, hB1⟩
         have HX1 := hideL (HX.out.next hB1)
         have HB1 := hideL (HB0.out.trans (hB1.mono HB0.out.size))
         have f0 := HX1.out.frozen 0
         have f1 := HX1.out.frozen 1
         have f2 := HX1.out.frozen 2
         have c0 := HX1.out.c0
         have c1 := HX1.out.c1
         have c2 := HX1.out.c2
         have HE1 := hideL (HE.out.next hB1)
         clear hB1))
    have HXF := hideL (HX1.out.st 0 0 0)
    have HBF := hideL (below_st HB1.out (g := w.heap.size) (Nat.le_refl _) (.int .i64 0) (.int .i64 0) (.int .i64 0))
    clear f0 f1 f2 c0 c1 c2 HE1 LN HX HE
    generalize World.setCell (World.setCell (World.setCell w1 ⟨w.heap.size, 0, none⟩ (.int .i64 0)) ⟨w.heap.size, 1, none⟩ (.int .i64 0)) ⟨w.heap.size, 2, none⟩ (.int .i64 0) = WF at *
    have r0 := HXF.out.c0
    have r1 := HXF.out.c1
    have r2 := HXF.out.c2
    exact bodyPost_ret (v := frA (2, bd0)) (by simp [results, Tryd.results47, go_sem, r0, r1, r2]; rfl) rfl ⟨rfl, HBF.out⟩
  · rw [if_neg (by decide)]
    obtain ⟨h0, hd⟩ := isNum_yes hy
    obtain ⟨n, hn⟩ : ∃ n, numN 0 s.data.toList = n := ⟨_, rfl⟩
    rw [hn]
    by_cases hbig : n < 9223372036854775808
    · have LA := hideL (fun W => atoi_ok s (by omega) n h0 hd hn hbig W)
      by_cases hk : 1024 < n
      · rw [if_pos hk]
        have hk' : (1024 : Int) < (n : Int) := by omega
        clear hy h0 hd hn
        go_enter Tryd.func47, Tryd.ntmps47
        go_wp2_with (first
      | (go_at_call 59; refine (LN.out _).mono ?_; rintro e w1 ⟨rfl, hB1⟩
         have HX1 := hideL (HX.out.next hB1)
         have HB1 := hideL (HB0.out.trans (hB1.mono HB0.out.size))
         have f0 := HX1.out.frozen 0
         have f1 := HX1.out.frozen 1
         have f2 := HX1.out.frozen 2
         have c0 := HX1.out.c0
         have c1 := HX1.out.c1
         have c2 := HX1.out.c2
         have HE1 := hideL (HE.out.next hB1)
         clear hB1)
      | (go_at_call 60; refine (LA.out _).mono ?_; rintro e w2 ⟨rfl, hB2⟩
         have HX2 := hideL (HX1.out.next hB2)
         have HB2 := hideL (HB1.out.trans (hB2.mono HB1.out.size))
         have g0 := HX2.out.frozen 0
         have g1 := HX2.out.frozen 1
         have g2 := HX2.out.frozen 2
         have d0 := HX2.out.c0
         have d1 := HX2.out.c1
         have d2 := HX2.out.c2
         clear hB2))
        have HXF := hideL (HX2.out.st 0 0 0)
        have HBF := hideL (below_st HB2.out (g := w.heap.size) (Nat.le_refl _) (.int .i64 0) (.int .i64 0) (.int .i64 0))
        clear f0 f1 f2 c0 c1 c2 g0 g1 g2 d0 d1 d2 HE1 LN HX HE LA
        generalize World.setCell (World.setCell (World.setCell w2 ⟨w.heap.size, 0, none⟩ (.int .i64 0)) ⟨w.heap.size, 1, none⟩ (.int .i64 0)) ⟨w.heap.size, 2, none⟩ (.int .i64 0) = WF at *
        have r0 := HXF.out.c0
        have r1 := HXF.out.c1
        have r2 := HXF.out.c2
        exact bodyPost_ret (v := frA (6, bd0)) (by simp [results, Tryd.results47, go_sem, r0, r1, r2]; rfl) rfl ⟨rfl, HBF.out⟩
      · rw [if_neg hk]
        have hk' : ¬ (1024 : Int) < (n : Int) := by omega
        clear hy h0 hd hn
        go_enter Tryd.func47, Tryd.ntmps47
        go_wp2_with (first
      | (go_at_call 59; refine (LN.out _).mono ?_; rintro e w1 ⟨rfl, hB1⟩
         have HX1 := hideL (HX.out.next hB1)
         have HB1 := hideL (HB0.out.trans (hB1.mono HB0.out.size))
         have f0 := HX1.out.frozen 0
         have f1 := HX1.out.frozen 1
         have f2 := HX1.out.frozen 2
         have c0 := HX1.out.c0
         have c1 := HX1.out.c1
         have c2 := HX1.out.c2
         have HE1 := hideL (HE.out.next hB1)
         clear hB1)
      | (go_at_call 60; refine (LA.out _).mono ?_; rintro e w2 ⟨rfl, hB2⟩
         have HX2 := hideL (HX1.out.next hB2)
         have HB2 := hideL (HB1.out.trans (hB2.mono HB1.out.size))
         have g0 := HX2.out.frozen 0
         have g1 := HX2.out.frozen 1
         have g2 := HX2.out.frozen 2
         have d0 := HX2.out.c0
         have d1 := HX2.out.c1
         have d2 := HX2.out.c2
         clear hB2))
        have HXF := hideL (HX2.out.st 0 1 (n : Int))
        have HBF := hideL (below_st HB2.out (g := w.heap.size) (Nat.le_refl _) (.int .i64 0) (.int .i64 1) (.int .i64 (n : Int)))
        clear f0 f1 f2 c0 c1 c2 g0 g1 g2 d0 d1 d2 HE1 LN HX HE LA
        generalize World.setCell (World.setCell (World.setCell w2 ⟨w.heap.size, 0, none⟩ (.int .i64 0)) ⟨w.heap.size, 1, none⟩ (.int .i64 1)) ⟨w.heap.size, 2, none⟩ (.int .i64 (n : Int)) = WF at *
        have r0 := HXF.out.c0
        have r1 := HXF.out.c1
        have r2 := HXF.out.c2
        exact bodyPost_ret (v := frA (0, ⟨0, 1, n⟩)) (by simp [results, Tryd.results47, go_sem, r0, r1, r2]; rfl) rfl ⟨rfl, HBF.out⟩
    · have LA := hideL (fun W (hE : Env W) => atoi_far s (by omega) h0 hd (by omega) W hE)
      rw [if_pos (by omega)]
      clear hy h0 hd hn
      go_enter Tryd.func47, Tryd.ntmps47
      go_wp2_with (first
      | (go_at_call 59; refine (LN.out _).mono ?_; rintro e w1 ⟨rfl, hB1⟩
         have HX1 := hideL (HX.out.next hB1)
         have HB1 := hideL (HB0.out.trans (hB1.mono HB0.out.size))
         have f0 := HX1.out.frozen 0
         have f1 := HX1.out.frozen 1
         have f2 := HX1.out.frozen 2
         have c0 := HX1.out.c0
         have c1 := HX1.out.c1
         have c2 := HX1.out.c2
         have HE1 := hideL (HE.out.next hB1)
         clear hB1)
      | (go_at_call 60; refine (LA.out _ HE1.out).mono ?_; rintro e w2 ⟨x, te, pe, rfl, hB2⟩
         have HX2 := hideL (HX1.out.next hB2)
         have HB2 := hideL (HB1.out.trans (hB2.mono HB1.out.size))
         have g0 := HX2.out.frozen 0
         have g1 := HX2.out.frozen 1
         have g2 := HX2.out.frozen 2
         have d0 := HX2.out.c0
         have d1 := HX2.out.c1
         have d2 := HX2.out.c2
         clear hB2))
      have HXF := hideL (HX2.out.st 0 0 0)
      have HBF := hideL (below_st HB2.out (g := w.heap.size) (Nat.le_refl _) (.int .i64 0) (.int .i64 0) (.int .i64 0))
      clear f0 f1 f2 c0 c1 c2 g0 g1 g2 d0 d1 d2 HE1 LN HX HE LA
      generalize World.setCell (World.setCell (World.setCell w2 ⟨w.heap.size, 0, none⟩ (.int .i64 0)) ⟨w.heap.size, 1, none⟩ (.int .i64 0)) ⟨w.heap.size, 2, none⟩ (.int .i64 0) = WF at *
      have r0 := HXF.out.c0
      have r1 := HXF.out.c1
      have r2 := HXF.out.c2
      exact bodyPost_ret (v := frA (6, bd0)) (by simp [results, Tryd.results47, go_sem, r0, r1, r2]; rfl) rfl ⟨rfl, HBF.out⟩
end Go.Proofs.YtilefgmlnmpeoaaDoor
