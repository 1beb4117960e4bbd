/- Rows of terms: MayAll, Any, Lets of the program. -/
import Derived.Test.YtffbmkocmjpmeaaMtMay
import Derived.Test.YtffbmkocmjpmeaaGRow
namespace Go.Proofs.Ytffbmkocmjpmeaa
open Go.RowKit

/-- Terms as things of rows. -/
def KT : Kd Tm where
  t := 23
  s := 2
  dft := default
  cells := fun a => [.int .i64 a.k, .string a.t]
  len := fun _ => rfl
  pos := by decide
  one := by intro a v hv; simp at hv; rcases hv with rfl | rfl <;> rfl
def Fits (l : List Tm) : Prop := ∀ a ∈ l, a.t.size ≤ 1000000000
theorem Fits.get {l : List Tm} (h : Fits l) {k : Nat} (hk : k < l.length) : (l.getD k KT.dft).t.size ≤ 9223372036854775807 := by
  have := h (l.getD k KT.dft) (by simp [List.getD, hk])
  omega
theorem drop_at (l : List Tm) (k : Nat) (h : k < l.length) : l.drop k = l.getD k KT.dft :: l.drop (k + 1) := by
  rw [List.drop_eq_getElem_cons h]
  simp [List.getD, h]
set_option maxRecDepth 100000 in
theorem notMay_any (a : Tm) (ht : a.t.size ≤ 9223372036854775807) (w : World) : Calls Try.prog 29 #[.agg #[.int .i64 a.k, .string a.t]] w (fun e w' => e = .returned (.bool !mayM a) ∧ Below w.heap.size w w') := by
  have LM := hideL (may_any a ht)
  obtain ⟨b, hb⟩ : ∃ b, mayM a = b := ⟨_, rfl⟩
  rw [hb] at LM ⊢
  clear hb
  obtain ⟨k, t⟩ := a
  have HB := hideL ((Below.refl w.heap.size w).alloc (Nat.le_refl _) (.cells #[.int .i64 k, .string t] 23))
  go_enter Try.func29, Try.ntmps29
  go_wp2_with (go_at_call 10; refine (LM.out _).mono ?_; rintro e w2 ⟨rfl, hB2⟩)
  go_ret
  exact ⟨rfl, HB.out.trans (hB2.mono HB.out.size)⟩
/-- A box that holds a text. -/
def SBox (W : World) (g : Nat) (s : ByteArray) : Prop := W.heap[g]? = some (.cells #[.string s] 9 (0, 0))
theorem SBox.c0 {W : World} {g : Nat} {s : ByteArray} (h : SBox W g s) : W.cell? ⟨g, 0, none⟩ = some (.string s) := (cell_of_row W g 0 _ _ _ h).trans rfl
theorem SBox.lt {W : World} {g : Nat} {s : ByteArray} (h : SBox W g s) : g < W.heap.size := (Array.getElem?_eq_some_iff.1 h).1
theorem SBox.new (w : World) (s : ByteArray) : SBox (w.alloc (.cells #[.string s] 9)) w.heap.size s := heap_alloc_new w _
theorem SBox.next {W W' : World} {g : Nat} {s : ByteArray} (h : SBox W g s) (hb : Below W.heap.size W W') : SBox W' g s := (hb.block g h.lt).trans h
set_option maxRecDepth 100000 in
theorem anyOne_any (a : Tm) (s : ByteArray) (g : Nat) (ht : a.t.size ≤ 9223372036854775807) (hs : s.size ≤ 9223372036854775807) (w : World) (hx : SBox w g s) : Calls Try.prog 30 #[.agg #[.int .i64 a.k, .string a.t], .pointer (some ⟨g, 0, none⟩)] w (fun e w' => e = .returned (.bool (matM a s.data.toList)) ∧ Below w.heap.size w w') := by
  have LM := hideL (matches_any a s ht hs)
  obtain ⟨b, hb⟩ : ∃ b, matM a s.data.toList = b := ⟨_, rfl⟩
  rw [hb] at LM ⊢
  clear hb
  obtain ⟨k, t⟩ := a
  have HB := hideL ((Below.refl w.heap.size w).alloc (Nat.le_refl _) (.cells #[.int .i64 k, .string t] 23))
  have c0 := hx.c0
  have c1 := (hx.next HB.out).c0
  go_enter Try.func30, Try.ntmps30
  go_wp2_with (go_at_call 14; refine (LM.out _).mono ?_; rintro e w2 ⟨rfl, hB2⟩)
  go_ret
  exact ⟨rfl, HB.out.trans (hB2.mono HB.out.size)⟩
/- LOOPS -/
set_option maxRecDepth 100000 in
set_option maxHeartbeats 400000 in
theorem index_noneMay (v : Value) (l : List Tm) (w : World) (hv : GAt KT w v l) (hf : Fits l) (hm : l.length ≤ 9223372036854775807) : Calls Try.prog 34 #[v, .func (.func 29) #[] #[]] w (fun e w' => ∃ r : Int, e = .returned (.int .i64 r) ∧ decide (0 ≤ r) = l.any (fun a => !mayM a) ∧ Below w.heap.size w w') := by
  have HF := hideL hf
  obtain ⟨ao, cap, rfl⟩ := hv.len
  obtain ⟨n, hn⟩ : ∃ n, l.length = n := ⟨_, rfl⟩
  rw [hn] at hv hm ⊢
  have HN := hideL hn
  have HV := hideL hv
  obtain ⟨B, hB⟩ : ∃ b, l.any (fun a => !mayM a) = b := ⟨_, rfl⟩
  rw [hB]
  have HBB := hideL hB
  clear hB hv hn hf
  go_enter Try.func34, Try.ntmps34
  go_wp2_with fail
  go_loopw [8] (fun i wr => ∃ k : Nat, k ≤ n ∧ i = .int .i64 k ∧ Below w.heap.size w wr ∧ HidL ((l.drop k).any (fun a => !mayM a) = B)) (fun i _ => n - (intOf i).toNat)
  case atStart => exact ⟨0, Nat.zero_le _, rfl, Below.refl _ _, HBB⟩
  case round =>
    obtain ⟨k, hk, rfl, hb, hd⟩ := hrel
    obtain ⟨W, rfl⟩ : ∃ W, W = wr := ⟨_, rfl⟩
    by_cases hlt : k < n
    · have hlt' : (k : Int) < (n : Int) := by omega
      obtain ⟨b, o, hao, hbl, hcell⟩ := HV.out.at (k := k) hlt
      subst hao
      have hkl : k < l.length := by rw [HN.out]; exact hlt
      replace hd := hd.out
      rw [drop_at l k hkl, List.any_cons] at hd
      have hfit := HF.out.get hkl
      generalize l.getD k KT.dft = x at *
      have LC := hideL (fun W : World => notMay_any x hfit W)
      obtain ⟨y, hy⟩ : ∃ y, (!mayM x) = y := ⟨_, rfl⟩
      rw [hy] at hd LC
      clear hy
      have HD := hideL hd
      clear hd hfit
      obtain ⟨p, q⟩ := x
      have d0 : W.cell? ⟨b, o + k * 2, none⟩ = some (.int .i64 p) := (hb.cell (p := ⟨b, o + k * 2, none⟩) hbl).trans (hcell 0 (by decide))
      have d1 : W.cell? ⟨b, o + k * 2 + 1, none⟩ = some (.string q) := (hb.cell (p := ⟨b, o + k * 2 + 1, none⟩) hbl).trans (hcell 1 (by decide))
      have HB := hideL hb
      clear hcell hbl hb
      cases y
      · have HN2 := HD.out
        rw [Bool.false_or] at HN2
        have HNX := hideL HN2
        clear HD HN2
        go_wp2_with (go_at_call 29; refine (LC.out _).mono ?_; rintro e w3 ⟨rfl, hB3⟩; have HB3 := hideL (HB.out.trans (hB3.mono HB.out.size)))
        go_roundw
        case rel => exact ⟨k + 1, by omega, by go_num, HB3.out, HNX⟩
        case measure => simp [intOf]; omega
      · have hBt : B = true := by rw [← HD.out]; rfl
        subst hBt
        go_wp2_with (go_at_call 29; refine (LC.out _).mono ?_; rintro e w3 ⟨rfl, hB3⟩; have HB3 := hideL (HB.out.trans (hB3.mono HB.out.size)))
        go_ret
        exact ⟨k, rfl, decide_eq_true (by omega), HB3.out⟩
    · obtain rfl : k = n := by omega
      have hlt' : ¬ (k : Int) < (k : Int) := by omega
      replace hd := hd.out
      rw [List.drop_of_length_le (by rw [HN.out]; omega)] at hd
      have hBf : B = false := by rw [← hd]; rfl
      subst hBf
      have HB := hideL hb
      clear hb
      go_wp2_with fail
      go_ret
      exact ⟨-1, rfl, by decide, HB.out⟩
set_option maxRecDepth 100000 in
theorem contains_noneMay (v : Value) (l : List Tm) (w : World) (hv : GAt KT w v l) (hf : Fits l) (hm : l.length ≤ 9223372036854775807) : Calls Try.prog 28 #[v, .func (.func 29) #[] #[]] w (fun e w' => e = .returned (.bool (l.any (fun a => !mayM a))) ∧ Below w.heap.size w w') := by
  have L := hideL (index_noneMay v l w hv hf hm)
  obtain ⟨B, hB⟩ : ∃ b, l.any (fun a => !mayM a) = b := ⟨_, rfl⟩
  rw [hB] at L ⊢
  clear hB hf
  obtain ⟨ao, cap, rfl⟩ := hv.len
  clear hv
  go_enter Try.func28, Try.ntmps28
  go_wp2_with (go_at_call 34; refine L.out.mono ?_; rintro e w2 ⟨r, rfl, hr, hB2⟩)
  go_ret
  exact ⟨by rw [← hr]; rfl, hB2⟩
set_option maxRecDepth 100000 in
set_option maxHeartbeats 400000 in
theorem index_someMat (v : Value) (l : List Tm) (w : World) (hv : GAt KT w v l) (hf : Fits l) (hm : l.length ≤ 9223372036854775807) (s : ByteArray) (g : Nat) (hs : s.size ≤ 9223372036854775807) (hx : SBox w g s) : Calls Try.prog 34 #[v, .func (.func 30) #[] #[.pointer (some ⟨g, 0, none⟩)]] w (fun e w' => ∃ r : Int, e = .returned (.int .i64 r) ∧ decide (0 ≤ r) = l.any (fun a => matM a s.data.toList) ∧ Below w.heap.size w w') := by
  have HF := hideL hf
  obtain ⟨ao, cap, rfl⟩ := hv.len
  obtain ⟨n, hn⟩ : ∃ n, l.length = n := ⟨_, rfl⟩
  rw [hn] at hv hm ⊢
  have HN := hideL hn
  have HV := hideL hv
  obtain ⟨B, hB⟩ : ∃ b, l.any (fun a => matM a s.data.toList) = b := ⟨_, rfl⟩
  rw [hB]
  have HBB := hideL hB
  clear hB hv hn hf
  have HX := hideL hx
  clear hx
  go_enter Try.func34, Try.ntmps34
  go_wp2_with fail
  go_loopw [8] (fun i wr => ∃ k : Nat, k ≤ n ∧ i = .int .i64 k ∧ Below w.heap.size w wr ∧ HidL ((l.drop k).any (fun a => matM a s.data.toList) = B)) (fun i _ => n - (intOf i).toNat)
  case atStart => exact ⟨0, Nat.zero_le _, rfl, Below.refl _ _, HBB⟩
  case round =>
    obtain ⟨k, hk, rfl, hb, hd⟩ := hrel
    obtain ⟨W, rfl⟩ : ∃ W, W = wr := ⟨_, rfl⟩
    by_cases hlt : k < n
    · have hlt' : (k : Int) < (n : Int) := by omega
      obtain ⟨b, o, hao, hbl, hcell⟩ := HV.out.at (k := k) hlt
      subst hao
      have hkl : k < l.length := by rw [HN.out]; exact hlt
      replace hd := hd.out
      rw [drop_at l k hkl, List.any_cons] at hd
      have hfit := HF.out.get hkl
      generalize l.getD k KT.dft = x at *
      have LC := hideL (fun (W : World) (hx : SBox W g s) => anyOne_any x s g hfit hs W hx)
      obtain ⟨y, hy⟩ : ∃ y, matM x s.data.toList = y := ⟨_, rfl⟩
      rw [hy] at hd LC
      clear hy
      have HD := hideL hd
      clear hd hfit
      obtain ⟨p, q⟩ := x
      have d0 : W.cell? ⟨b, o + k * 2, none⟩ = some (.int .i64 p) := (hb.cell (p := ⟨b, o + k * 2, none⟩) hbl).trans (hcell 0 (by decide))
      have d1 : W.cell? ⟨b, o + k * 2 + 1, none⟩ = some (.string q) := (hb.cell (p := ⟨b, o + k * 2 + 1, none⟩) hbl).trans (hcell 1 (by decide))
      have HB := hideL hb
      clear hcell hbl hb
      cases y
      · have HN2 := HD.out
        rw [Bool.false_or] at HN2
        have HNX := hideL HN2
        clear HD HN2
        go_wp2_with (go_at_call 30; refine (LC.out _ (HX.out.next HB.out)).mono ?_; rintro e w3 ⟨rfl, hB3⟩; have HB3 := hideL (HB.out.trans (hB3.mono HB.out.size)))
        go_roundw
        case rel => exact ⟨k + 1, by omega, by go_num, HB3.out, HNX⟩
        case measure => simp [intOf]; omega
      · have hBt : B = true := by rw [← HD.out]; rfl
        subst hBt
        go_wp2_with (go_at_call 30; refine (LC.out _ (HX.out.next HB.out)).mono ?_; rintro e w3 ⟨rfl, hB3⟩; have HB3 := hideL (HB.out.trans (hB3.mono HB.out.size)))
        go_ret
        exact ⟨k, rfl, decide_eq_true (by omega), HB3.out⟩
    · obtain rfl : k = n := by omega
      have hlt' : ¬ (k : Int) < (k : Int) := by omega
      replace hd := hd.out
      rw [List.drop_of_length_le (by rw [HN.out]; omega)] at hd
      have hBf : B = false := by rw [← hd]; rfl
      subst hBf
      have HB := hideL hb
      clear hb
      go_wp2_with fail
      go_ret
      exact ⟨-1, rfl, by decide, HB.out⟩
set_option maxRecDepth 100000 in
theorem contains_someMat (v : Value) (l : List Tm) (w : World) (hv : GAt KT w v l) (hf : Fits l) (hm : l.length ≤ 9223372036854775807) (s : ByteArray) (g : Nat) (hs : s.size ≤ 9223372036854775807) (hx : SBox w g s) : Calls Try.prog 28 #[v, .func (.func 30) #[] #[.pointer (some ⟨g, 0, none⟩)]] w (fun e w' => e = .returned (.bool (l.any (fun a => matM a s.data.toList))) ∧ Below w.heap.size w w') := by
  have L := hideL (index_someMat v l w hv hf hm s g hs hx)
  obtain ⟨B, hB⟩ : ∃ b, l.any (fun a => matM a s.data.toList) = b := ⟨_, rfl⟩
  rw [hB] at L ⊢
  clear hB hf
  obtain ⟨ao, cap, rfl⟩ := hv.len
  clear hv
  go_enter Try.func28, Try.ntmps28
  go_wp2_with (go_at_call 34; refine L.out.mono ?_; rintro e w2 ⟨r, rfl, hr, hB2⟩)
  go_ret
  exact ⟨by rw [← hr]; rfl, hB2⟩
theorem any_not_all (l : List Tm) : (!l.any fun a => !mayM a) = l.all mayM := by
  induction l with
  | nil => rfl
  | cons a l ih =>
    rw [List.any_cons, List.all_cons, ← ih]
    cases mayM a <;> simp
set_option maxRecDepth 100000 in
theorem mayAll_any (v : Value) (l : List Tm) (w : World) (hv : GAt KT w v l) (hf : Fits l) (hm : l.length ≤ 9223372036854775807) : Calls Try.prog 12 #[v] w (fun e w' => e = .returned (.bool (mayAllM l)) ∧ Below w.heap.size w w') := by
  have L := hideL (contains_noneMay v l w hv hf hm)
  have hA := any_not_all l
  unfold mayAllM
  rw [← hA]
  clear hA
  obtain ⟨B, hB⟩ : ∃ b, (l.any fun a => !mayM a) = b := ⟨_, rfl⟩
  rw [hB] at L ⊢
  clear hB hf
  obtain ⟨ao, cap, rfl⟩ := hv.len
  clear hv
  obtain ⟨n, hn⟩ : ∃ n, l.length = n := ⟨_, rfl⟩
  rw [hn] at L hm ⊢
  clear hn
  by_cases h : n ≤ 6
  · rw [decide_eq_true h, Bool.true_and]
    have h' : (n : Int) ≤ 6 := by omega
    go_enter Try.func12, Try.ntmps12
    go_wp2_with (go_at_call 28; refine L.out.mono ?_; rintro e w2 ⟨rfl, hB2⟩)
    go_ret
    exact ⟨rfl, hB2⟩
  · rw [decide_eq_false h, Bool.false_and]
    have h' : ¬ (n : Int) ≤ 6 := by omega
    go_enter Try.func12, Try.ntmps12
    go_wp2_with fail
    go_ret
    exact ⟨rfl, Below.refl _ _⟩
set_option maxRecDepth 100000 in
theorem any_any (s : ByteArray) (hs : s.size ≤ 9223372036854775807) (v : Value) (l : List Tm) (w : World) (hv : GAt KT w v l) (hf : Fits l) (hm : l.length ≤ 9223372036854775807) : Calls Try.prog 16 #[.string s, v] w (fun e w' => e = .returned (.bool (anyM s.data.toList l)) ∧ Below w.heap.size w w') := by
  have HB := hideL ((Below.refl w.heap.size w).alloc (Nat.le_refl _) (.cells #[.string s] 9))
  have L := hideL (contains_someMat v l _ (hv.below HB.out) hf hm s w.heap.size hs (SBox.new w s))
  unfold anyM
  obtain ⟨B, hB⟩ : ∃ b, (l.any fun a => matM a s.data.toList) = b := ⟨_, rfl⟩
  rw [hB] at L ⊢
  clear hB hf
  obtain ⟨ao, cap, rfl⟩ := hv.len
  clear hv
  go_enter Try.func16, Try.ntmps16
  go_wp2_with (go_at_call 28; refine L.out.mono ?_; rintro e w2 ⟨rfl, hB2⟩)
  go_ret
  exact ⟨rfl, HB.out.trans (hB2.mono HB.out.size)⟩
set_option maxRecDepth 100000 in
theorem lets_any (s : ByteArray) (hs : s.size ≤ 9223372036854775807) (v : Value) (l : List Tm) (w : World) (hv : GAt KT w v l) (hf : Fits l) (hm : l.length ≤ 9223372036854775807) : Calls Try.prog 18 #[.string s, v] w (fun e w' => e = .returned (.bool (letM s.data.toList l)) ∧ Below w.heap.size w w') := by
  have L := hideL (any_any s hs v l w hv hf hm)
  unfold letM
  have hnil : l.isEmpty = decide (l.length = 0) := by cases l <;> simp
  rw [hnil]
  clear hnil
  obtain ⟨B, hB⟩ : ∃ b, anyM s.data.toList l = b := ⟨_, rfl⟩
  rw [hB] at L ⊢
  clear hB hf
  obtain ⟨ao, cap, rfl⟩ := hv.len
  clear hv
  obtain ⟨n, hn⟩ : ∃ n, l.length = n := ⟨_, rfl⟩
  rw [hn] at L hm ⊢
  clear hn
  by_cases h : n = 0
  · subst h
    go_enter Try.func18, Try.ntmps18
    go_wp2_with fail
    go_ret
    exact ⟨rfl, Below.refl _ _⟩
  · rw [decide_eq_false h, Bool.false_or]
    have h' : ((n : Int) == 0) = false := beq_eq_false_iff_ne.2 (by omega)
    go_enter Try.func18, Try.ntmps18
    go_wp2_with (go_at_call 16; refine L.out.mono ?_; rintro e w2 ⟨rfl, hB2⟩)
    go_ret
    exact ⟨rfl, hB2⟩
end Go.Proofs.Ytffbmkocmjpmeaa
