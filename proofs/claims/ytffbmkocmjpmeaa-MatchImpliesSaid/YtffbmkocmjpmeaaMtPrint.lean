/- Print, within of the program. -/
import Derived.Test.YtffbmkocmjpmeaaMtMay
namespace Go.Proofs.Ytffbmkocmjpmeaa
open Go.RowKit

theorem aK_size (k : Int) : (aK k).size ≤ 1 := by unfold aK; split <;> decide
theorem bK_size (k : Int) : (bK k).size ≤ 1 := by unfold bK; split <;> decide
theorem pr_cat {a : Tm} (h : mayM a = true) : aK a.k ++ a.t ++ bK a.k = prM a := by
  apply bytes_ext
  unfold prM prK aK bK
  rw [bo_list]
  rcases mayM_cases h with ⟨hk, _⟩ | ⟨hk, ht⟩
  · rcases hk with hk | hk | hk <;> simp [hk]
  · simp [hk, ht]
/-- What Print answers. -/
def prV (a : Tm) : Value := .tuple #[.string (if mayM a = true then prM a else ⟨#[]⟩), .int .i64 (if mayM a = true then 0 else 1)]
set_option maxRecDepth 100000 in
set_option maxHeartbeats 400000 in
theorem print_any (a : Tm) (ht : a.t.size ≤ 9223372036854775807) (w : World) : Calls Try.prog 19 #[.agg #[.int .i64 a.k, .string a.t]] w (fun e w' => e = .returned (prV a) ∧ Below w.heap.size w w') := by
  have LK := hideL (kindOf_any a ht)
  have of := hideL (oneF a.k)
  have og := hideL (oneG a.k)
  have ha1 := aK_size a.k
  have hb1 := bK_size a.k
  have hpc := @pr_cat a
  have hml := fun h => (mayM_bytes (a := a) h).1
  unfold prV
  obtain ⟨b, hb⟩ : ∃ b, mayM a = b := ⟨_, rfl⟩
  rw [hb] at LK hpc hml ⊢
  clear hb
  obtain ⟨P, hP⟩ : ∃ P, prM a = P := ⟨_, rfl⟩
  rw [hP] at hpc ⊢
  clear hP
  obtain ⟨k, t⟩ := a
  dsimp only at LK of og ha1 hb1 hpc hml ht ⊢
  rw [size_list] at hml
  obtain ⟨p, hp⟩ : ∃ p, aK k = p := ⟨_, rfl⟩
  obtain ⟨q, hq⟩ : ∃ p, bK k = p := ⟨_, rfl⟩
  obtain ⟨f, hf⟩ : ∃ p, fK k = p := ⟨_, rfl⟩
  obtain ⟨g, hg⟩ : ∃ p, gK k = p := ⟨_, rfl⟩
  rw [hp, hq, hf, hg] at LK
  rw [hp] at ha1 hpc
  rw [hq] at hb1 hpc
  rw [hf] at of
  rw [hg] at og
  clear hp hq hf hg
  have HB := hideL ((Below.refl w.heap.size w).alloc (Nat.le_refl _) (.cells #[.int .i64 k, .string t] 23))
  have HX := hideL (TBox.new w k t)
  cases b
  · clear hpc hml
    go_enter Try.func19, Try.ntmps19
    go_wp2_with (first
      | (go_at_call 27; refine (LK.out _).mono ?_; rintro e w2 ⟨rfl, hB2⟩; have HB2 := hideL (HB.out.trans (hB2.mono HB.out.size)))
      | (with_reducible refine wpList_alloc_row rfl 51 rfl (kc ⟨#[]⟩ ⟨#[]⟩ .nilFunc .nilFunc) zeroK ?_)
      | (refine wpList_store_row rfl 51 (.tmp 4) (.tmp 9) rfl w2.heap.size (kc p q f g) rfl rfl _ _ (heap_alloc_new _ _) (sizeK _ _ _ _) rfl (oneK _ _ of.out og.out) ?_))
    go_ret2
    exact ⟨rfl, below_setRow (HB2.out.alloc HB2.out.size _) HB2.out.size _⟩
  · have hl := hml rfl
    have hc := hpc rfl
    clear hml hpc
    have LC := hideL (clone_any (p ++ t ++ q) (by rw [ByteArray.size_append, ByteArray.size_append]; omega))
    have HC := hideL hc
    clear hc
    go_enter Try.func19, Try.ntmps19
    go_wp2_with (first
      | (go_at_call 27; refine (LK.out _).mono ?_; rintro e w2 ⟨rfl, hB2⟩; have HB2 := hideL (HB.out.trans (hB2.mono HB.out.size)); have HX2 := hideL (HX.out.next hB2))
      | (with_reducible refine wpList_alloc_row rfl 51 rfl (kc ⟨#[]⟩ ⟨#[]⟩ .nilFunc .nilFunc) zeroK ?_)
      | (refine wpList_store_row rfl 51 (.tmp 4) (.tmp 9) rfl w2.heap.size (kc p q f g) rfl rfl _ _ (heap_alloc_new _ _) (sizeK _ _ _ _) rfl (oneK _ _ of.out og.out) ?_;
         have hk := (KBox.new w2 ⟨#[]⟩ ⟨#[]⟩ .nilFunc .nilFunc).set p q f g;
         have hx := (HX2.out.next ((Below.refl _ _).alloc (Nat.le_refl _) (.cells (kc ⟨#[]⟩ ⟨#[]⟩ .nilFunc .nilFunc) 51))).row (n := w2.heap.size) (Nat.ne_of_lt HX2.out.lt) (kc p q f g);
         have hb := below_setRow (HB2.out.alloc HB2.out.size (.cells (kc ⟨#[]⟩ ⟨#[]⟩ .nilFunc .nilFunc) 51)) HB2.out.size (kc p q f g);
         have hg := hideL HB2.out.size;
         generalize (w2.alloc (.cells (kc ⟨#[]⟩ ⟨#[]⟩ .nilFunc .nilFunc) 51)).setRow w2.heap.size (kc p q f g) = V at hk hx hb ⊢;
         have k0 := hk.c0; have k1 := hk.c1; have x1 := hx.c1; have HV := hideL hb; clear hk hx hb)
      | (go_at_call 31; refine (LC.out _).mono ?_; rintro e w3 ⟨rfl, hB3⟩))
    go_ret2
    refine ⟨?_, HV.out.trans (hB3.mono HV.out.size)⟩
    rw [← HC.out]
    rfl

set_option maxRecDepth 100000 in
set_option maxHeartbeats 400000 in
theorem within_any (s p q : ByteArray) (f g : Value) (hs : s.size ≤ 9223372036854775807) (w : World) : Calls Try.prog 33 #[.string s, .agg (kc p q f g)] w (fun e w' => e = .returned (.string (bo (cutE q.data.toList (cutP p.data.toList s.data.toList)))) ∧ Below w.heap.size w w') := by
  have L1 := hideL (trimPre_any s p)
  obtain ⟨x, hx⟩ : ∃ x, bo (cutP p.data.toList s.data.toList) = x := ⟨_, rfl⟩
  have hxs : x.size ≤ 9223372036854775807 := by
    rw [← hx, bo_size]
    have : (cutP p.data.toList s.data.toList).length ≤ s.data.toList.length := by
      unfold cutP
      split
      · rw [List.length_drop]; omega
      · exact Nat.le_refl _
    rw [size_list] at this
    omega
  have hxl : cutP p.data.toList s.data.toList = x.data.toList := by rw [← hx]; rfl
  rw [hx] at L1
  rw [hxl]
  have L2 := hideL (trimSuf_any x q hxs)
  clear hxl hxs hx
  obtain ⟨y, hy⟩ : ∃ y, bo (cutE q.data.toList x.data.toList) = y := ⟨_, rfl⟩
  rw [hy] at L2 ⊢
  clear hy hs
  have HB := hideL ((Below.refl w.heap.size w).alloc (Nat.le_refl _) (.cells (kc p q f g) 51))
  have HX := hideL (KBox.new w p q f g)
  go_enter Try.func33, Try.ntmps33
  go_wp2_with fail
  generalize w.alloc (.cells (kc p q f g) 51) = V at *
  refine wp_region_held_drew (S := fun w' => Below V.heap.size V w') (by kernel_rfl) ((Below.refl _ _).drew) (fun hHeld => ?_)
  refine wpAnyH_take (i := 0) (oi := { dst := some 5, op := Op.move (Operand.tmp 0), type := 9, pos := "text.go:33", after := #[], guard := none }) (v := ?_) rfl (by kernel_rfl) (by kernel_rfl) (by kernel_rfl) (fun _ _ _ h => h) (Or.inl ⟨by rfl, ?_⟩) hHeld ?_
  rotate_left
  · intro w hSw; (try dsimp only at hSw); have k0 := (HX.out.next hSw).c0; have k1 := (HX.out.next hSw).c1; go_simp; first | done | with_reducible rfl
  try simp only [Act.put, List.setIfInBounds_toArray, List.set_cons_zero, List.set_cons_succ]
  refine wpAnyH_take (i := 1) (oi := { dst := some 6, op := Op.fieldAddr 51 (Operand.tmp 3) 0, type := 0, pos := "text.go:33", after := #[], guard := none }) (v := ?_) rfl (by kernel_rfl) (by kernel_rfl) (by kernel_rfl) (fun _ _ _ h => h) (Or.inl ⟨by rfl, ?_⟩) hHeld ?_
  rotate_left
  · intro w hSw; (try dsimp only at hSw); have k0 := (HX.out.next hSw).c0; have k1 := (HX.out.next hSw).c1; go_simp; first | done | with_reducible rfl
  try simp only [Act.put, List.setIfInBounds_toArray, List.set_cons_zero, List.set_cons_succ]
  refine wpAnyH_take (i := 2) (oi := { dst := some 7, op := Op.load 9 (Operand.tmp 6), type := 9, pos := "text.go:33", after := #[{ on := 1, ground := Ground.data }], guard := none }) (v := ?_) rfl (by kernel_rfl) (by kernel_rfl) (by kernel_rfl) (fun _ _ _ h => h) (Or.inl ⟨by rfl, ?_⟩) hHeld ?_
  rotate_left
  · intro w hSw; (try dsimp only at hSw); have k0 := (HX.out.next hSw).c0; have k1 := (HX.out.next hSw).c1; go_simp; first | done | with_reducible rfl
  try simp only [Act.put, List.setIfInBounds_toArray, List.set_cons_zero, List.set_cons_succ]
  refine wpAnyH_take (i := 4) (oi := { dst := some 9, op := Op.fieldAddr 51 (Operand.tmp 3) 1, type := 0, pos := "text.go:33", after := #[], guard := none }) (v := ?_) rfl (by kernel_rfl) (by kernel_rfl) (by kernel_rfl) (fun _ _ _ h => h) (Or.inl ⟨by rfl, ?_⟩) hHeld ?_
  rotate_left
  · intro w hSw; (try dsimp only at hSw); have k0 := (HX.out.next hSw).c0; have k1 := (HX.out.next hSw).c1; go_simp; first | done | with_reducible rfl
  try simp only [Act.put, List.setIfInBounds_toArray, List.set_cons_zero, List.set_cons_succ]
  refine wpAnyH_take (i := 5) (oi := { dst := some 10, op := Op.load 9 (Operand.tmp 9), type := 9, pos := "text.go:33", after := #[{ on := 4, ground := Ground.data }], guard := none }) (v := ?_) rfl (by kernel_rfl) (by kernel_rfl) (by kernel_rfl) (fun _ _ _ h => h) (Or.inl ⟨by rfl, ?_⟩) hHeld ?_
  rotate_left
  · intro w hSw; (try dsimp only at hSw); have k0 := (HX.out.next hSw).c0; have k1 := (HX.out.next hSw).c1; go_simp; first | done | with_reducible rfl
  try simp only [Act.put, List.setIfInBounds_toArray, List.set_cons_zero, List.set_cons_succ]
  refine wpAnyH_ready (rs := [3]) (by kernel_rfl) (by simp) ?_
  refine AllReadyH.cons (o := { dst := some 8, op := Op.call { callee := Callee.value (Operand.func 43), args := #[Operand.tmp 5, Operand.tmp 7], argTypes := #[9, 9] }, type := 9, pos := "text.go:33", after := #[{ on := 0, ground := Ground.data }, { on := 2, ground := Ground.data }], guard := none }) rfl (fun K hK => ?_) AllReadyH.nil
  clear hHeld
  go_simp
  refine (L1.out _).mono ?_
  rintro e V1 ⟨rfl, hB⟩
  have HB1 := hideL ((Below.refl V.heap.size V).drew.trans hB)
  refine hK.out _ _ (HB1.out) (fun hHeld => ?_)
  clear hK K
  try simp only [Act.put, List.setIfInBounds_toArray, List.set_cons_zero, List.set_cons_succ]
  refine wpAnyH_ready (rs := [6]) (by kernel_rfl) (by simp) ?_
  refine AllReadyH.cons (o := { dst := some 11, op := Op.call { callee := Callee.value (Operand.func 42), args := #[Operand.tmp 8, Operand.tmp 10], argTypes := #[9, 9] }, type := 9, pos := "text.go:33", after := #[{ on := 3, ground := Ground.data }, { on := 5, ground := Ground.data }, { on := 3, ground := Ground.chain }], guard := none }) rfl (fun K hK => ?_) AllReadyH.nil
  clear hHeld
  go_simp
  refine (L2.out _).mono ?_
  rintro e V2 ⟨rfl, hB⟩
  have HB2 := hideL (HB1.out.trans (hB.mono HB1.out.size))
  refine hK.out _ _ (HB2.out) (fun hHeld => ?_)
  clear hK K
  try simp only [Act.put, List.setIfInBounds_toArray, List.set_cons_zero, List.set_cons_succ]
  refine wpAnyH_take (i := 7) (oi := { dst := some 4, op := Op.assign (Operand.tmp 11), type := 9, pos := "text.go:33", after := #[{ on := 6, ground := Ground.data }, { on := 6, ground := Ground.chain }, { on := 0, ground := Ground.phase }, { on := 1, ground := Ground.phase }, { on := 2, ground := Ground.phase }, { on := 3, ground := Ground.phase }, { on := 4, ground := Ground.phase }, { on := 5, ground := Ground.phase }, { on := 6, ground := Ground.phase }], guard := none }) (v := ?_) rfl (by kernel_rfl) (by kernel_rfl) (by kernel_rfl) (fun _ _ _ h => h) (Or.inl ⟨by rfl, ?_⟩) hHeld ?_
  rotate_left
  · intro w hSw; (try dsimp only at hSw); go_simp; first | done | with_reducible rfl
  try simp only [Act.put, List.setIfInBounds_toArray, List.set_cons_zero, List.set_cons_succ]
  refine wpAnyH_done (by kernel_rfl) ?_ _
  clear hHeld
  go_wp2_with fail
  go_ret
  exact ⟨rfl, HB.out.trans (HB2.out.mono HB.out.size)⟩
end Go.Proofs.Ytffbmkocmjpmeaa
