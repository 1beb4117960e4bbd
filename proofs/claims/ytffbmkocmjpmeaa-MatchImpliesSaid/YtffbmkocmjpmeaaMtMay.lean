/- May, Matches of the program. -/
import Derived.Test.YtffbmkocmjpmeaaMtKindOf
namespace Go.Proofs.Ytffbmkocmjpmeaa
open Go.RowKit

theorem oneF (k : Int) : (fK k).oneCell' = true := by
  unfold fK
  split
  · rfl
  · split <;> rfl
theorem oneG (k : Int) : (gK k).oneCell' = true := by
  unfold gK
  split
  · rfl
  · split
    · rfl
    · split
      · rfl
      · split <;> rfl
set_option maxRecDepth 100000 in
set_option maxHeartbeats 400000 in
theorem may_any (a : Tm) (ht : a.t.size ≤ 9223372036854775807) (w : World) : Calls Try.prog 10 #[.agg #[.int .i64 a.k, .string a.t]] w (fun e w' => e = .returned (.bool (mayM a)) ∧ Below w.heap.size w w') := by
  have LK := hideL (kindOf_any a ht)
  have of := hideL (oneF a.k)
  have og := hideL (oneG a.k)
  obtain ⟨b, hb⟩ : ∃ b, mayM a = b := ⟨_, rfl⟩
  rw [hb] at LK ⊢
  clear hb
  obtain ⟨k, t⟩ := a
  dsimp only at LK of og ⊢
  obtain ⟨p, hp⟩ : ∃ p, aK k = p := ⟨_, rfl⟩
  obtain ⟨q, hq⟩ : ∃ p, bK k = p := ⟨_, rfl⟩
  obtain ⟨f, hf⟩ : ∃ p, fK k = p := ⟨_, rfl⟩
  obtain ⟨g, hg⟩ : ∃ p, gK k = p := ⟨_, rfl⟩
  rw [hp, hq, hf, hg] at LK
  rw [hf] at of
  rw [hg] at og
  clear hp hq hf hg
  have HB := hideL ((Below.refl w.heap.size w).alloc (Nat.le_refl _) (.cells #[.int .i64 k, .string t] 23))
  go_enter Try.func10, Try.ntmps10
  go_wp2_with (first
    | (go_at_call 27; refine (LK.out _).mono ?_; rintro e w2 ⟨rfl, hB2⟩; have HB2 := hideL (HB.out.trans (hB2.mono HB.out.size)))
    | (with_reducible refine wpList_alloc_row rfl 51 rfl (kc ⟨#[]⟩ ⟨#[]⟩ .nilFunc .nilFunc) zeroK ?_)
    | (refine wpList_store_row rfl 51 (.tmp 3) (.tmp 8) rfl w2.heap.size (kc p q f g) rfl rfl _ _ (heap_alloc_new _ _) (sizeK _ _ _ _) rfl (oneK _ _ of.out og.out) ?_))
  go_ret
  exact ⟨rfl, below_setRow (HB2.out.alloc HB2.out.size _) HB2.out.size _⟩

theorem eq_dec (s t : ByteArray) : (s.toList == t.toList) = decide (s.data.toList = t.data.toList) := by
  rw [eqs_dec]
  exact decide_eq_decide.2 ⟨fun h => by rw [h], fun h => bytes_ext h⟩
set_option maxRecDepth 100000 in
theorem is1_any (s t : ByteArray) (w : World) : Calls Try.prog 37 #[.string s, .string t] w (fun e w' => e = .returned (.bool (matK 1 t.data.toList s.data.toList)) ∧ Below w.heap.size w w') := by
  rw [show matK 1 t.data.toList s.data.toList = decide (s.data.toList = t.data.toList) from rfl, ← eq_dec]
  go_enter Try.func37, Try.ntmps37
  go_wp2_with fail
  go_ret
  exact ⟨rfl, Below.refl _ _⟩
theorem is2_any (s t : ByteArray) (w : World) : Calls Try.prog 38 #[.string s, .string t] w (fun e w' => e = .returned (.bool (matK 2 t.data.toList s.data.toList)) ∧ Below w.heap.size w w') := hasPre_any s t w
theorem is3_any (s t : ByteArray) (hs : s.size ≤ 9223372036854775807) (w : World) : Calls Try.prog 39 #[.string s, .string t] w (fun e w' => e = .returned (.bool (matK 3 t.data.toList s.data.toList)) ∧ Below w.heap.size w w') := hasSuf_any s t hs w
set_option maxRecDepth 100000 in
theorem is4_any (s t : ByteArray) (w : World) : Calls Try.prog 41 #[.string s, .string t] w (fun e w' => e = .returned (.bool (matK 4 t.data.toList s.data.toList)) ∧ Below w.heap.size w w') := by
  rw [show matK 4 t.data.toList s.data.toList = !s.data.toList.isEmpty from rfl]
  have LN := hideL (isNothing_any s)
  obtain ⟨b, hb⟩ : ∃ b, s.data.toList.isEmpty = b := ⟨_, rfl⟩
  rw [hb] at LN ⊢
  clear hb
  go_enter Try.func41, Try.ntmps41
  go_wp2_with (go_at_call 40; refine (LN.out _).mono ?_; rintro e w2 ⟨rfl, rfl⟩)
  go_ret
  exact ⟨rfl, Below.refl _ _⟩
set_option maxRecDepth 100000 in
set_option maxHeartbeats 400000 in
theorem matches_1 (t s : ByteArray) (ht : t.size ≤ 9223372036854775807) (_ : s.size ≤ 9223372036854775807) (w : World) : Calls Try.prog 14 #[.agg #[.int .i64 1, .string t], .string s] w (fun e w' => e = .returned (.bool (matM ⟨1, t⟩ s.data.toList)) ∧ Below w.heap.size w w') := by
  have LK : HidL (∀ W : World, Calls Try.prog 27 #[.agg #[.int .i64 1, .string t]] W (fun e w' => e = .returned (.tuple #[.agg (kc ⟨#[]⟩ ⟨#[]⟩ (.func (.func 36) #[] #[]) (.func (.func 37) #[] #[])), .bool (mayM ⟨1, t⟩)]) ∧ Below W.heap.size W w')) := hideL (kindOf_any ⟨1, t⟩ ht)
  have LM := hideL (is1_any s t)
  rw [show matM ⟨1, t⟩ s.data.toList = (mayM ⟨1, t⟩ && matK 1 t.data.toList s.data.toList) from rfl]
  obtain ⟨b, hb⟩ : ∃ b, mayM ⟨1, t⟩ = b := ⟨_, rfl⟩
  obtain ⟨m, hm⟩ : ∃ b, matK 1 t.data.toList s.data.toList = b := ⟨_, rfl⟩
  rw [hb] at LK ⊢
  rw [hm] at LM ⊢
  clear hb hm
  have HB := hideL ((Below.refl w.heap.size w).alloc (Nat.le_refl _) (.cells #[.int .i64 1, .string t] 23))
  have HX := hideL (TBox.new w 1 t)
  cases b
  · go_enter Try.func14, Try.ntmps14
    go_wp2_with (first
      | (go_at_call 27; refine (LK.out _).mono ?_; rintro e w2 ⟨rfl, hB2⟩; have HB2 := hideL (HB.out.trans (hB2.mono HB.out.size)))
      | (with_reducible refine wpList_alloc_row rfl 51 rfl (kc ⟨#[]⟩ ⟨#[]⟩ .nilFunc .nilFunc) zeroK ?_)
      | (refine wpList_store_row rfl 51 (.tmp 5) (.tmp 10) rfl w2.heap.size (kc ⟨#[]⟩ ⟨#[]⟩ (.func (.func 36) #[] #[]) (.func (.func 37) #[] #[])) rfl rfl _ _ (heap_alloc_new _ _) (sizeK _ _ _ _) rfl (oneK _ _ rfl rfl) ?_))
    go_ret
    exact ⟨rfl, below_setRow (HB2.out.alloc HB2.out.size _) HB2.out.size _⟩
  · go_enter Try.func14, Try.ntmps14
    go_wp2_with (first
      | (go_at_call 27; refine (LK.out _).mono ?_; rintro e w2 ⟨rfl, hB2⟩; have HB2 := hideL (HB.out.trans (hB2.mono HB.out.size)); have HX2 := hideL (HX.out.next hB2))
      | (with_reducible refine wpList_alloc_row rfl 51 rfl (kc ⟨#[]⟩ ⟨#[]⟩ .nilFunc .nilFunc) zeroK ?_)
      | (refine wpList_store_row rfl 51 (.tmp 5) (.tmp 10) rfl w2.heap.size (kc ⟨#[]⟩ ⟨#[]⟩ (.func (.func 36) #[] #[]) (.func (.func 37) #[] #[])) rfl rfl _ _ (heap_alloc_new _ _) (sizeK _ _ _ _) rfl (oneK _ _ rfl rfl) ?_;
         have hk := (KBox.new w2 ⟨#[]⟩ ⟨#[]⟩ .nilFunc .nilFunc).set ⟨#[]⟩ ⟨#[]⟩ (.func (.func 36) #[] #[]) (.func (.func 37) #[] #[]);
         have hx := (HX2.out.next ((Below.refl _ _).alloc (Nat.le_refl _) (.cells (kc ⟨#[]⟩ ⟨#[]⟩ .nilFunc .nilFunc) 51))).row (n := w2.heap.size) (Nat.ne_of_lt HX2.out.lt) (kc ⟨#[]⟩ ⟨#[]⟩ (.func (.func 36) #[] #[]) (.func (.func 37) #[] #[]));
         have hb := below_setRow (HB2.out.alloc HB2.out.size (.cells (kc ⟨#[]⟩ ⟨#[]⟩ .nilFunc .nilFunc) 51)) HB2.out.size (kc ⟨#[]⟩ ⟨#[]⟩ (.func (.func 36) #[] #[]) (.func (.func 37) #[] #[]));
         have hg := hideL HB2.out.size;
         generalize (w2.alloc (.cells (kc ⟨#[]⟩ ⟨#[]⟩ .nilFunc .nilFunc) 51)).setRow w2.heap.size (kc ⟨#[]⟩ ⟨#[]⟩ (.func (.func 36) #[] #[]) (.func (.func 37) #[] #[])) = V at hk hx hb ⊢;
         have k3 := hk.c3; have x1 := hx.c1; have HV := hideL hb; clear hk hx hb)
      | (go_at_call 37; refine (LM.out _).mono ?_; rintro e w3 ⟨rfl, hB3⟩))
    go_ret
    exact ⟨rfl, HV.out.trans (hB3.mono HV.out.size)⟩
set_option maxRecDepth 100000 in
set_option maxHeartbeats 400000 in
theorem matches_2 (t s : ByteArray) (ht : t.size ≤ 9223372036854775807) (_ : s.size ≤ 9223372036854775807) (w : World) : Calls Try.prog 14 #[.agg #[.int .i64 2, .string t], .string s] w (fun e w' => e = .returned (.bool (matM ⟨2, t⟩ s.data.toList)) ∧ Below w.heap.size w w') := by
  have LK : HidL (∀ W : World, Calls Try.prog 27 #[.agg #[.int .i64 2, .string t]] W (fun e w' => e = .returned (.tuple #[.agg (kc ⟨#[]⟩ ⟨#[42]⟩ (.func (.func 36) #[] #[]) (.func (.func 38) #[] #[])), .bool (mayM ⟨2, t⟩)]) ∧ Below W.heap.size W w')) := hideL (kindOf_any ⟨2, t⟩ ht)
  have LM := hideL (is2_any s t)
  rw [show matM ⟨2, t⟩ s.data.toList = (mayM ⟨2, t⟩ && matK 2 t.data.toList s.data.toList) from rfl]
  obtain ⟨b, hb⟩ : ∃ b, mayM ⟨2, t⟩ = b := ⟨_, rfl⟩
  obtain ⟨m, hm⟩ : ∃ b, matK 2 t.data.toList s.data.toList = b := ⟨_, rfl⟩
  rw [hb] at LK ⊢
  rw [hm] at LM ⊢
  clear hb hm
  have HB := hideL ((Below.refl w.heap.size w).alloc (Nat.le_refl _) (.cells #[.int .i64 2, .string t] 23))
  have HX := hideL (TBox.new w 2 t)
  cases b
  · go_enter Try.func14, Try.ntmps14
    go_wp2_with (first
      | (go_at_call 27; refine (LK.out _).mono ?_; rintro e w2 ⟨rfl, hB2⟩; have HB2 := hideL (HB.out.trans (hB2.mono HB.out.size)))
      | (with_reducible refine wpList_alloc_row rfl 51 rfl (kc ⟨#[]⟩ ⟨#[]⟩ .nilFunc .nilFunc) zeroK ?_)
      | (refine wpList_store_row rfl 51 (.tmp 5) (.tmp 10) rfl w2.heap.size (kc ⟨#[]⟩ ⟨#[42]⟩ (.func (.func 36) #[] #[]) (.func (.func 38) #[] #[])) rfl rfl _ _ (heap_alloc_new _ _) (sizeK _ _ _ _) rfl (oneK _ _ rfl rfl) ?_))
    go_ret
    exact ⟨rfl, below_setRow (HB2.out.alloc HB2.out.size _) HB2.out.size _⟩
  · go_enter Try.func14, Try.ntmps14
    go_wp2_with (first
      | (go_at_call 27; refine (LK.out _).mono ?_; rintro e w2 ⟨rfl, hB2⟩; have HB2 := hideL (HB.out.trans (hB2.mono HB.out.size)); have HX2 := hideL (HX.out.next hB2))
      | (with_reducible refine wpList_alloc_row rfl 51 rfl (kc ⟨#[]⟩ ⟨#[]⟩ .nilFunc .nilFunc) zeroK ?_)
      | (refine wpList_store_row rfl 51 (.tmp 5) (.tmp 10) rfl w2.heap.size (kc ⟨#[]⟩ ⟨#[42]⟩ (.func (.func 36) #[] #[]) (.func (.func 38) #[] #[])) rfl rfl _ _ (heap_alloc_new _ _) (sizeK _ _ _ _) rfl (oneK _ _ rfl rfl) ?_;
         have hk := (KBox.new w2 ⟨#[]⟩ ⟨#[]⟩ .nilFunc .nilFunc).set ⟨#[]⟩ ⟨#[42]⟩ (.func (.func 36) #[] #[]) (.func (.func 38) #[] #[]);
         have hx := (HX2.out.next ((Below.refl _ _).alloc (Nat.le_refl _) (.cells (kc ⟨#[]⟩ ⟨#[]⟩ .nilFunc .nilFunc) 51))).row (n := w2.heap.size) (Nat.ne_of_lt HX2.out.lt) (kc ⟨#[]⟩ ⟨#[42]⟩ (.func (.func 36) #[] #[]) (.func (.func 38) #[] #[]));
         have hb := below_setRow (HB2.out.alloc HB2.out.size (.cells (kc ⟨#[]⟩ ⟨#[]⟩ .nilFunc .nilFunc) 51)) HB2.out.size (kc ⟨#[]⟩ ⟨#[42]⟩ (.func (.func 36) #[] #[]) (.func (.func 38) #[] #[]));
         have hg := hideL HB2.out.size;
         generalize (w2.alloc (.cells (kc ⟨#[]⟩ ⟨#[]⟩ .nilFunc .nilFunc) 51)).setRow w2.heap.size (kc ⟨#[]⟩ ⟨#[42]⟩ (.func (.func 36) #[] #[]) (.func (.func 38) #[] #[])) = V at hk hx hb ⊢;
         have k3 := hk.c3; have x1 := hx.c1; have HV := hideL hb; clear hk hx hb)
      | (go_at_call 38; refine (LM.out _).mono ?_; rintro e w3 ⟨rfl, hB3⟩))
    go_ret
    exact ⟨rfl, HV.out.trans (hB3.mono HV.out.size)⟩
set_option maxRecDepth 100000 in
set_option maxHeartbeats 400000 in
theorem matches_3 (t s : ByteArray) (ht : t.size ≤ 9223372036854775807) (hs : s.size ≤ 9223372036854775807) (w : World) : Calls Try.prog 14 #[.agg #[.int .i64 3, .string t], .string s] w (fun e w' => e = .returned (.bool (matM ⟨3, t⟩ s.data.toList)) ∧ Below w.heap.size w w') := by
  have LK : HidL (∀ W : World, Calls Try.prog 27 #[.agg #[.int .i64 3, .string t]] W (fun e w' => e = .returned (.tuple #[.agg (kc ⟨#[42]⟩ ⟨#[]⟩ (.func (.func 36) #[] #[]) (.func (.func 39) #[] #[])), .bool (mayM ⟨3, t⟩)]) ∧ Below W.heap.size W w')) := hideL (kindOf_any ⟨3, t⟩ ht)
  have LM := hideL (is3_any s t hs)
  rw [show matM ⟨3, t⟩ s.data.toList = (mayM ⟨3, t⟩ && matK 3 t.data.toList s.data.toList) from rfl]
  obtain ⟨b, hb⟩ : ∃ b, mayM ⟨3, t⟩ = b := ⟨_, rfl⟩
  obtain ⟨m, hm⟩ : ∃ b, matK 3 t.data.toList s.data.toList = b := ⟨_, rfl⟩
  rw [hb] at LK ⊢
  rw [hm] at LM ⊢
  clear hb hm
  have HB := hideL ((Below.refl w.heap.size w).alloc (Nat.le_refl _) (.cells #[.int .i64 3, .string t] 23))
  have HX := hideL (TBox.new w 3 t)
  cases b
  · go_enter Try.func14, Try.ntmps14
    go_wp2_with (first
      | (go_at_call 27; refine (LK.out _).mono ?_; rintro e w2 ⟨rfl, hB2⟩; have HB2 := hideL (HB.out.trans (hB2.mono HB.out.size)))
      | (with_reducible refine wpList_alloc_row rfl 51 rfl (kc ⟨#[]⟩ ⟨#[]⟩ .nilFunc .nilFunc) zeroK ?_)
      | (refine wpList_store_row rfl 51 (.tmp 5) (.tmp 10) rfl w2.heap.size (kc ⟨#[42]⟩ ⟨#[]⟩ (.func (.func 36) #[] #[]) (.func (.func 39) #[] #[])) rfl rfl _ _ (heap_alloc_new _ _) (sizeK _ _ _ _) rfl (oneK _ _ rfl rfl) ?_))
    go_ret
    exact ⟨rfl, below_setRow (HB2.out.alloc HB2.out.size _) HB2.out.size _⟩
  · go_enter Try.func14, Try.ntmps14
    go_wp2_with (first
      | (go_at_call 27; refine (LK.out _).mono ?_; rintro e w2 ⟨rfl, hB2⟩; have HB2 := hideL (HB.out.trans (hB2.mono HB.out.size)); have HX2 := hideL (HX.out.next hB2))
      | (with_reducible refine wpList_alloc_row rfl 51 rfl (kc ⟨#[]⟩ ⟨#[]⟩ .nilFunc .nilFunc) zeroK ?_)
      | (refine wpList_store_row rfl 51 (.tmp 5) (.tmp 10) rfl w2.heap.size (kc ⟨#[42]⟩ ⟨#[]⟩ (.func (.func 36) #[] #[]) (.func (.func 39) #[] #[])) rfl rfl _ _ (heap_alloc_new _ _) (sizeK _ _ _ _) rfl (oneK _ _ rfl rfl) ?_;
         have hk := (KBox.new w2 ⟨#[]⟩ ⟨#[]⟩ .nilFunc .nilFunc).set ⟨#[42]⟩ ⟨#[]⟩ (.func (.func 36) #[] #[]) (.func (.func 39) #[] #[]);
         have hx := (HX2.out.next ((Below.refl _ _).alloc (Nat.le_refl _) (.cells (kc ⟨#[]⟩ ⟨#[]⟩ .nilFunc .nilFunc) 51))).row (n := w2.heap.size) (Nat.ne_of_lt HX2.out.lt) (kc ⟨#[42]⟩ ⟨#[]⟩ (.func (.func 36) #[] #[]) (.func (.func 39) #[] #[]));
         have hb := below_setRow (HB2.out.alloc HB2.out.size (.cells (kc ⟨#[]⟩ ⟨#[]⟩ .nilFunc .nilFunc) 51)) HB2.out.size (kc ⟨#[42]⟩ ⟨#[]⟩ (.func (.func 36) #[] #[]) (.func (.func 39) #[] #[]));
         have hg := hideL HB2.out.size;
         generalize (w2.alloc (.cells (kc ⟨#[]⟩ ⟨#[]⟩ .nilFunc .nilFunc) 51)).setRow w2.heap.size (kc ⟨#[42]⟩ ⟨#[]⟩ (.func (.func 36) #[] #[]) (.func (.func 39) #[] #[])) = V at hk hx hb ⊢;
         have k3 := hk.c3; have x1 := hx.c1; have HV := hideL hb; clear hk hx hb)
      | (go_at_call 39; refine (LM.out _).mono ?_; rintro e w3 ⟨rfl, hB3⟩))
    go_ret
    exact ⟨rfl, HV.out.trans (hB3.mono HV.out.size)⟩
set_option maxRecDepth 100000 in
set_option maxHeartbeats 400000 in
theorem matches_4 (t s : ByteArray) (ht : t.size ≤ 9223372036854775807) (_ : s.size ≤ 9223372036854775807) (w : World) : Calls Try.prog 14 #[.agg #[.int .i64 4, .string t], .string s] w (fun e w' => e = .returned (.bool (matM ⟨4, t⟩ s.data.toList)) ∧ Below w.heap.size w w') := by
  have LK : HidL (∀ W : World, Calls Try.prog 27 #[.agg #[.int .i64 4, .string t]] W (fun e w' => e = .returned (.tuple #[.agg (kc ⟨#[42]⟩ ⟨#[]⟩ (.func (.func 40) #[] #[]) (.func (.func 41) #[] #[])), .bool (mayM ⟨4, t⟩)]) ∧ Below W.heap.size W w')) := hideL (kindOf_any ⟨4, t⟩ ht)
  have LM := hideL (is4_any s t)
  rw [show matM ⟨4, t⟩ s.data.toList = (mayM ⟨4, t⟩ && matK 4 t.data.toList s.data.toList) from rfl]
  obtain ⟨b, hb⟩ : ∃ b, mayM ⟨4, t⟩ = b := ⟨_, rfl⟩
  obtain ⟨m, hm⟩ : ∃ b, matK 4 t.data.toList s.data.toList = b := ⟨_, rfl⟩
  rw [hb] at LK ⊢
  rw [hm] at LM ⊢
  clear hb hm
  have HB := hideL ((Below.refl w.heap.size w).alloc (Nat.le_refl _) (.cells #[.int .i64 4, .string t] 23))
  have HX := hideL (TBox.new w 4 t)
  cases b
  · go_enter Try.func14, Try.ntmps14
    go_wp2_with (first
      | (go_at_call 27; refine (LK.out _).mono ?_; rintro e w2 ⟨rfl, hB2⟩; have HB2 := hideL (HB.out.trans (hB2.mono HB.out.size)))
      | (with_reducible refine wpList_alloc_row rfl 51 rfl (kc ⟨#[]⟩ ⟨#[]⟩ .nilFunc .nilFunc) zeroK ?_)
      | (refine wpList_store_row rfl 51 (.tmp 5) (.tmp 10) rfl w2.heap.size (kc ⟨#[42]⟩ ⟨#[]⟩ (.func (.func 40) #[] #[]) (.func (.func 41) #[] #[])) rfl rfl _ _ (heap_alloc_new _ _) (sizeK _ _ _ _) rfl (oneK _ _ rfl rfl) ?_))
    go_ret
    exact ⟨rfl, below_setRow (HB2.out.alloc HB2.out.size _) HB2.out.size _⟩
  · go_enter Try.func14, Try.ntmps14
    go_wp2_with (first
      | (go_at_call 27; refine (LK.out _).mono ?_; rintro e w2 ⟨rfl, hB2⟩; have HB2 := hideL (HB.out.trans (hB2.mono HB.out.size)); have HX2 := hideL (HX.out.next hB2))
      | (with_reducible refine wpList_alloc_row rfl 51 rfl (kc ⟨#[]⟩ ⟨#[]⟩ .nilFunc .nilFunc) zeroK ?_)
      | (refine wpList_store_row rfl 51 (.tmp 5) (.tmp 10) rfl w2.heap.size (kc ⟨#[42]⟩ ⟨#[]⟩ (.func (.func 40) #[] #[]) (.func (.func 41) #[] #[])) rfl rfl _ _ (heap_alloc_new _ _) (sizeK _ _ _ _) rfl (oneK _ _ rfl rfl) ?_;
         have hk := (KBox.new w2 ⟨#[]⟩ ⟨#[]⟩ .nilFunc .nilFunc).set ⟨#[42]⟩ ⟨#[]⟩ (.func (.func 40) #[] #[]) (.func (.func 41) #[] #[]);
         have hx := (HX2.out.next ((Below.refl _ _).alloc (Nat.le_refl _) (.cells (kc ⟨#[]⟩ ⟨#[]⟩ .nilFunc .nilFunc) 51))).row (n := w2.heap.size) (Nat.ne_of_lt HX2.out.lt) (kc ⟨#[42]⟩ ⟨#[]⟩ (.func (.func 40) #[] #[]) (.func (.func 41) #[] #[]));
         have hb := below_setRow (HB2.out.alloc HB2.out.size (.cells (kc ⟨#[]⟩ ⟨#[]⟩ .nilFunc .nilFunc) 51)) HB2.out.size (kc ⟨#[42]⟩ ⟨#[]⟩ (.func (.func 40) #[] #[]) (.func (.func 41) #[] #[]));
         have hg := hideL HB2.out.size;
         generalize (w2.alloc (.cells (kc ⟨#[]⟩ ⟨#[]⟩ .nilFunc .nilFunc) 51)).setRow w2.heap.size (kc ⟨#[42]⟩ ⟨#[]⟩ (.func (.func 40) #[] #[]) (.func (.func 41) #[] #[])) = V at hk hx hb ⊢;
         have k3 := hk.c3; have x1 := hx.c1; have HV := hideL hb; clear hk hx hb)
      | (go_at_call 41; refine (LM.out _).mono ?_; rintro e w3 ⟨rfl, hB3⟩))
    go_ret
    exact ⟨rfl, HV.out.trans (hB3.mono HV.out.size)⟩
set_option maxRecDepth 100000 in
set_option maxHeartbeats 400000 in
theorem matches_out (a : Tm) (h : mayM a = false) (s : ByteArray) (ht : a.t.size ≤ 9223372036854775807) (w : World) : Calls Try.prog 14 #[.agg #[.int .i64 a.k, .string a.t], .string s] w (fun e w' => e = .returned (.bool false) ∧ Below w.heap.size w w') := by
  have LK := hideL (kindOf_any a ht)
  rw [h] at LK
  clear h
  have of := hideL (oneF a.k)
  have og := hideL (oneG a.k)
  obtain ⟨k, t⟩ := a
  dsimp only at LK of og ⊢
  obtain ⟨p, hp⟩ : ∃ p, aK k = p := ⟨_, rfl⟩
  obtain ⟨q, hq⟩ : ∃ p, bK k = p := ⟨_, rfl⟩
  obtain ⟨f, hf⟩ : ∃ p, fK k = p := ⟨_, rfl⟩
  obtain ⟨g, hg⟩ : ∃ p, gK k = p := ⟨_, rfl⟩
  rw [hp, hq, hf, hg] at LK
  rw [hf] at of
  rw [hg] at og
  clear hp hq hf hg
  have HB := hideL ((Below.refl w.heap.size w).alloc (Nat.le_refl _) (.cells #[.int .i64 k, .string t] 23))
  go_enter Try.func14, Try.ntmps14
  go_wp2_with (first
    | (go_at_call 27; refine (LK.out _).mono ?_; rintro e w2 ⟨rfl, hB2⟩; have HB2 := hideL (HB.out.trans (hB2.mono HB.out.size)))
    | (with_reducible refine wpList_alloc_row rfl 51 rfl (kc ⟨#[]⟩ ⟨#[]⟩ .nilFunc .nilFunc) zeroK ?_)
    | (refine wpList_store_row rfl 51 (.tmp 5) (.tmp 10) rfl w2.heap.size (kc p q f g) rfl rfl _ _ (heap_alloc_new _ _) (sizeK _ _ _ _) rfl (oneK _ _ of.out og.out) ?_))
  go_ret
  exact ⟨rfl, below_setRow (HB2.out.alloc HB2.out.size _) HB2.out.size _⟩
theorem matches_any (a : Tm) (s : ByteArray) (ht : a.t.size ≤ 9223372036854775807) (hs : s.size ≤ 9223372036854775807) (w : World) : Calls Try.prog 14 #[.agg #[.int .i64 a.k, .string a.t], .string s] w (fun e w' => e = .returned (.bool (matM a s.data.toList)) ∧ Below w.heap.size w w') := by
  cases h : mayM a with
  | false =>
    rw [matM_no (by rw [h]; decide)]
    exact matches_out a h s ht w
  | true =>
    have hk : a.k = 1 ∨ a.k = 2 ∨ a.k = 3 ∨ a.k = 4 := by
      rcases mayM_cases h with ⟨hk, _⟩ | ⟨hk, _⟩ <;> omega
    obtain ⟨k, t⟩ := a
    change k = 1 ∨ k = 2 ∨ k = 3 ∨ k = 4 at hk
    rcases hk with rfl | rfl | rfl | rfl
    · exact matches_1 t s ht hs w
    · exact matches_2 t s ht hs w
    · exact matches_3 t s ht hs w
    · exact matches_4 t s ht hs w
end Go.Proofs.Ytffbmkocmjpmeaa
