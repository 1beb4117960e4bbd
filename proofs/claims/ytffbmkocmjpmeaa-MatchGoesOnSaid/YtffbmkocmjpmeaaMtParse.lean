/- Parse of the program. -/
import Derived.Test.YtffbmkocmjpmeaaMtPrint
namespace Go.Proofs.Ytffbmkocmjpmeaa
open Go.RowKit

theorem TBox.frozen {W : World} {g : Nat} {k : Int} {t : ByteArray} (h : TBox W g k t) (i : Nat) : W.frozen? ⟨g, i, none⟩ = false := frozen_of_row W g i _ _ h
theorem TBox.st {W : World} {g : Nat} {k : Int} {t : ByteArray} (h : TBox W g k t) (x : Int) (y : ByteArray) : TBox ((W.setCell ⟨g, 0, none⟩ (.int .i64 x)).setCell ⟨g, 1, none⟩ (.string y)) g x y := by
  have h1 := heap_setCell_same W g 0 _ _ (.int .i64 x) h
  exact heap_setCell_same _ g 1 _ _ (.string y) h1
theorem TBox.st1 {W : World} {g : Nat} {k : Int} {t : ByteArray} (h : TBox W g k t) (y : ByteArray) : TBox (W.setCell ⟨g, 1, none⟩ (.string y)) g k y := heap_setCell_same _ g 1 _ _ (.string y) h
theorem TBox.other {W : World} {g n o : Nat} {k : Int} {t : ByteArray} {v : Value} (h : TBox W g k t) (hne : g ≠ n) : TBox (W.setCell ⟨n, o, none⟩ v) g k t := (heap_setCell_other W ⟨n, o, none⟩ g v hne).trans h
theorem sizeT (k : Int) (t : ByteArray) : (Try.prog.info? 23).map (·.size) = some (#[Value.int .i64 k, .string t] : Array Value).size := by kernel_rfl
theorem TBox.set {W : World} {g : Nat} {k : Int} {t : ByteArray} (h : TBox W g k t) (x : Int) (y : ByteArray) : TBox (W.setRow g #[.int .i64 x, .string y]) g x y := setRow_heap _ _ _ _ _ (0, 0) h
theorem oneT (k : Int) (t : ByteArray) : (#[Value.int .i64 k, .string t] : Array Value).all (·.oneCell') = true := by simp [Value.oneCell']
theorem idx0 : Idx 0 ⟨#[]⟩ ⟨#[]⟩ .nilFunc .nilFunc := fun w => by kernel_rfl
theorem idx_all (k : Nat) (h : k < 5) : Idx (k : Int) (aK k) (bK k) (fK k) (gK k) := by
  have hk : k = 0 ∨ k = 1 ∨ k = 2 ∨ k = 3 ∨ k = 4 := by omega
  rcases hk with rfl | rfl | rfl | rfl | rfl
  · exact idx0
  · exact idx1
  · exact idx2
  · exact idx3
  · exact idx4
theorem try_text (k : Nat) (h : k < 5) (s : List UInt8) : bo (cutE (bK k).data.toList (cutP (aK k).data.toList s)) = (tryM k s).t := by
  have hk : k = 0 ∨ k = 1 ∨ k = 2 ∨ k = 3 ∨ k = 4 := by omega
  rcases hk with rfl | rfl | rfl | rfl | rfl <;> rfl
theorem cut_le (p q s : List UInt8) : (cutE q (cutP p s)).length ≤ s.length := by
  have h1 : (cutP p s).length ≤ s.length := by
    unfold cutP
    split
    · rw [List.length_drop]; omega
    · exact Nat.le_refl _
  have h2 : (cutE q (cutP p s)).length ≤ (cutP p s).length := by
    unfold cutE
    split
    · rw [List.length_take]; omega
    · exact Nat.le_refl _
  omega
theorem try_size (k : Nat) (s : ByteArray) : (tryM k s.data.toList).t.size ≤ s.size := by
  have := cut_le (ahd k) (bhd k) s.data.toList
  rw [size_list] at this
  exact this
theorem hit0 (s : List UInt8) : hitM 0 s = false := rfl
/-- None of the kinds below k hits. -/
def MissTo (s : List UInt8) (k : Nat) : Prop := ∀ j, j < k → hitM j s = false
theorem miss_all {s : List UInt8} (h : MissTo s 5) : parM s = none := by
  unfold parM
  rw [h 1 (by omega), h 2 (by omega), h 3 (by omega), h 4 (by omega)]
  rfl
theorem miss_hit {s : List UInt8} {k : Nat} (hk : k < 5) (h : MissTo s k) (hh : hitM k s = true) : parM s = some (tryM k s) := by
  have hk : k = 0 ∨ k = 1 ∨ k = 2 ∨ k = 3 ∨ k = 4 := by omega
  unfold parM
  rcases hk with rfl | rfl | rfl | rfl | rfl
  · cases hh
  · rw [if_pos hh]
  · rw [h 1 (by omega), if_pos hh]
    rfl
  · rw [h 1 (by omega), h 2 (by omega), if_pos hh]
    rfl
  · rw [h 1 (by omega), h 2 (by omega), h 3 (by omega), if_pos hh]
    rfl
/-- What Parse answers. -/
def paV (s : List UInt8) : Value := .tuple #[.agg #[.int .i64 ((parM s).getD default).k, .string ((parM s).getD default).t], .int .i64 (if (parM s).isSome then 0 else 2)]
theorem hit_eq (k : Nat) (s : ByteArray) : hitM k s.data.toList = (mayM (tryM k s.data.toList) && ((prM (tryM k s.data.toList)).toList == s.toList)) := by
  unfold hitM
  rw [eq_dec]
set_option maxRecDepth 100000 in
set_option maxHeartbeats 1000000 in
theorem parse_any (s : ByteArray) (hs : s.size ≤ 9223372036854775807) (w : World) : Calls Try.prog 21 #[.string s] w (fun e w' => e = .returned (paV s.data.toList) ∧ Below w.heap.size w w') := by
  have LK := hideL kinds_any
  have HX := hideL (TBox.new w 0 ⟨#[]⟩)
  have HB := hideL ((Below.refl w.heap.size w).alloc (Nat.le_refl _) (.cells #[.int .i64 0, .string ⟨#[]⟩] 23))
  go_enter Try.func21, Try.ntmps21
  go_wp2_with (go_at_call 32; refine (LK.out _).mono ?_; rintro e w2 ⟨rfl, hB2⟩; have HX2 := hideL (HX.out.next hB2); have HB2 := hideL (HB.out.trans (hB2.mono HB.out.size)))
  clear HX HB LK hB2
  go_loopw [10] (fun i wr => ∃ k : Nat, k ≤ 5 ∧ i = .int .i64 k ∧ TBox wr w.heap.size 0 ⟨#[]⟩ ∧ Below w.heap.size w wr ∧ HidL (MissTo s.data.toList k)) (fun i _ => 5 - (intOf i).toNat)
  case atStart => exact ⟨0, by omega, rfl, HX2.out, HB2.out, ⟨fun _ h => absurd h (by omega)⟩⟩
  case round =>
    obtain ⟨k, hk, rfl, hx, hb, hmiss⟩ := hrel
    clear HX2 HB2
    obtain ⟨W, rfl⟩ : ∃ W, W = wr := ⟨_, rfl⟩
    by_cases hlt : k < 5
    · have hlt' : (k : Int) < 5 := by omega
      have LI := hideL (idx_all k hlt)
      have hts := try_size k s
      have LP := hideL (print_any (tryM k s.data.toList) (by omega))
      have hte := try_text k hlt s.data.toList
      have LW := hideL (fun (f g : Value) => within_any s (aK k) (bK k) f g hs)
      rw [hte] at LW
      have hhit := hit_eq k s
      have HNXT := hideL (fun (h : hitM k s.data.toList = false) => (show MissTo s.data.toList (k + 1) from fun j hj => if he : j < k then hmiss.out j he else (show j = k by omega) ▸ h))
      have HSOME := hideL (fun (h : hitM k s.data.toList = true) => miss_hit hlt hmiss.out h)
      have of := hideL (oneF k)
      have og := hideL (oneG k)
      obtain ⟨p, hp⟩ : ∃ p, aK k = p := ⟨_, rfl⟩
      obtain ⟨q, hq⟩ : ∃ p, bK k = p := ⟨_, rfl⟩
      obtain ⟨f, hf⟩ : ∃ p, fK k = p := ⟨_, rfl⟩
      obtain ⟨g, hg⟩ : ∃ p, gK k = p := ⟨_, rfl⟩
      rw [hp, hq, hf, hg] at LI
      rw [hp, hq] at LW
      rw [hf] at of
      rw [hg] at og
      have hmt : mayM (tryM k s.data.toList) = true → (tryM k s.data.toList).t.size ≤ 64 := fun h => by have := (mayM_bytes h).1; rwa [size_list] at this
      obtain ⟨X, hX⟩ : ∃ X, tryM k s.data.toList = X := ⟨_, rfl⟩
      have hXk : X.k = k := by rw [← hX]; rfl
      rw [hX] at LP LW hhit HSOME hmt hts
      clear hp hq hf hg hX hte hmiss
      obtain ⟨k2, t⟩ := X
      dsimp only at hXk LP LW hmt hts
      subst hXk
      unfold prV at LP
      have HX := hideL hx
      have HB := hideL hb
      clear hx hb
      have hidx := LI.out
      unfold Idx at hidx
      obtain ⟨m, hm⟩ : ∃ m, mayM ⟨(k : Int), t⟩ = m := ⟨_, rfl⟩
      rw [hm] at LP hhit hmt
      clear hm
      cases m
      · rw [Bool.false_and] at hhit
        simp only [Bool.false_eq_true, if_false] at LP
        have HN := hideL (HNXT.out hhit)
        clear hhit HNXT HSOME hmt
        go_wp2_with (first
          | (go_at_call 33; refine (LW.out _ _ _).mono ?_; rintro e w3 ⟨rfl, hB3⟩; have HX3 := hideL ((HX2.out.next hB3).next ((Below.refl _ _).alloc (Nat.le_refl _) (.cells #[.int .i64 k, .string t] 23))); have HB3 := hideL ((HB2.out.trans (hB3.mono HB2.out.size)).alloc (Nat.le_trans HB2.out.size hB3.size) (.cells #[.int .i64 k, .string t] 23)); have HT3 := hideL (TBox.new w3 k t); have HG3 := hideL (Nat.lt_of_lt_of_le HX2.out.lt hB3.size))
          | (go_at_call 19; refine (LP.out _).mono ?_; rintro e w4 ⟨rfl, hB4⟩; have HX4 := hideL (HX3.out.next hB4); have HB4 := hideL (HB3.out.trans (hB4.mono HB3.out.size)); have HT4 := hideL (HT3.out.next hB4))
          | (with_reducible refine wpList_alloc_row rfl 51 rfl (kc ⟨#[]⟩ ⟨#[]⟩ .nilFunc .nilFunc) zeroK ?_)
          | (refine wpList_store_row rfl 51 (.tmp 5) (.tmp 13) rfl W.heap.size (kc p q f g) rfl rfl _ _ (heap_alloc_new _ _) (sizeK _ _ _ _) rfl (oneK _ _ of.out og.out) ?_;
             have hk := (KBox.new W ⟨#[]⟩ ⟨#[]⟩ .nilFunc .nilFunc).set p q f g;
             have hx := (HX.out.next ((Below.refl _ _).alloc (Nat.le_refl _) (.cells (kc ⟨#[]⟩ ⟨#[]⟩ .nilFunc .nilFunc) 51))).row (n := W.heap.size) (Nat.ne_of_lt HX.out.lt) (kc p q f g);
             have hb := below_setRow (HB.out.alloc HB.out.size (.cells (kc ⟨#[]⟩ ⟨#[]⟩ .nilFunc .nilFunc) 51)) HB.out.size (kc p q f g);
             generalize (W.alloc (.cells (kc ⟨#[]⟩ ⟨#[]⟩ .nilFunc .nilFunc) 51)).setRow W.heap.size (kc p q f g) = V at hk hx hb ⊢;
             have k0 := hk.c0; have k1 := hk.c1; have k2 := hk.c2; have k3 := hk.c3; have HX2 := hideL hx; have HB2 := hideL hb; clear hk hx hb))
        go_roundw
        case rel => exact ⟨k + 1, by omega, by go_num, HX4.out, HB4.out, HN⟩
        case measure => simp [intOf]; omega
      · rw [Bool.true_and] at hhit
        simp only [if_true] at LP
        obtain ⟨P, hP⟩ : ∃ P, prM ⟨(k : Int), t⟩ = P := ⟨_, rfl⟩
        rw [hP] at LP hhit
        clear hP
        obtain ⟨c, hc⟩ : ∃ c, (P.toList == s.toList) = c := ⟨_, rfl⟩
        rw [hc] at hhit
        cases c
        · have HN := hideL (HNXT.out hhit)
          clear hhit HNXT HSOME hmt
          go_wp2_with (first
            | (go_at_call 33; refine (LW.out _ _ _).mono ?_; rintro e w3 ⟨rfl, hB3⟩; have HX3 := hideL ((HX2.out.next hB3).next ((Below.refl _ _).alloc (Nat.le_refl _) (.cells #[.int .i64 k, .string t] 23))); have HB3 := hideL ((HB2.out.trans (hB3.mono HB2.out.size)).alloc (Nat.le_trans HB2.out.size hB3.size) (.cells #[.int .i64 k, .string t] 23)); have HT3 := hideL (TBox.new w3 k t); have HG3 := hideL (Nat.lt_of_lt_of_le HX2.out.lt hB3.size))
            | (go_at_call 19; refine (LP.out _).mono ?_; rintro e w4 ⟨rfl, hB4⟩; have HX4 := hideL (HX3.out.next hB4); have HB4 := hideL (HB3.out.trans (hB4.mono HB3.out.size)); have HT4 := hideL (HT3.out.next hB4))
            | (with_reducible refine wpList_alloc_row rfl 51 rfl (kc ⟨#[]⟩ ⟨#[]⟩ .nilFunc .nilFunc) zeroK ?_)
            | (refine wpList_store_row rfl 51 (.tmp 5) (.tmp 13) rfl W.heap.size (kc p q f g) rfl rfl _ _ (heap_alloc_new _ _) (sizeK _ _ _ _) rfl (oneK _ _ of.out og.out) ?_;
               have hk := (KBox.new W ⟨#[]⟩ ⟨#[]⟩ .nilFunc .nilFunc).set p q f g;
               have hx := (HX.out.next ((Below.refl _ _).alloc (Nat.le_refl _) (.cells (kc ⟨#[]⟩ ⟨#[]⟩ .nilFunc .nilFunc) 51))).row (n := W.heap.size) (Nat.ne_of_lt HX.out.lt) (kc p q f g);
               have hb := below_setRow (HB.out.alloc HB.out.size (.cells (kc ⟨#[]⟩ ⟨#[]⟩ .nilFunc .nilFunc) 51)) HB.out.size (kc p q f g);
               generalize (W.alloc (.cells (kc ⟨#[]⟩ ⟨#[]⟩ .nilFunc .nilFunc) 51)).setRow W.heap.size (kc p q f g) = V at hk hx hb ⊢;
               have k0 := hk.c0; have k1 := hk.c1; have k2 := hk.c2; have k3 := hk.c3; have HX2 := hideL hx; have HB2 := hideL hb; clear hk hx hb))
          go_roundw
          case rel => exact ⟨k + 1, by omega, by go_num, HX4.out, HB4.out, HN⟩
          case measure => simp [intOf]; omega
        · have HPAR := hideL (HSOME.out hhit)
          have h64 := hmt rfl
          have LC := hideL (clone_any t (by omega))
          clear hhit HNXT HSOME hmt hidx
          have hidx := LI.out
          unfold Idx at hidx
          go_wp2_with (first
            | (go_at_call 33; refine (LW.out _ _ _).mono ?_; rintro e w3 ⟨rfl, hB3⟩; have HX3 := hideL ((HX2.out.next hB3).next ((Below.refl _ _).alloc (Nat.le_refl _) (.cells #[.int .i64 k, .string t] 23))); have HB3 := hideL ((HB2.out.trans (hB3.mono HB2.out.size)).alloc (Nat.le_trans HB2.out.size hB3.size) (.cells #[.int .i64 k, .string t] 23)); have HT3 := hideL (TBox.new w3 k t); have HG3 := hideL (Nat.lt_of_lt_of_le HX2.out.lt hB3.size))
            | (go_at_call 19; refine (LP.out _).mono ?_; rintro e w4 ⟨rfl, hB4⟩; have HX4 := hideL (HX3.out.next hB4); have HB4 := hideL (HB3.out.trans (hB4.mono HB3.out.size)); have HT4 := hideL (HT3.out.next hB4); have q0 := HT4.out.c0; have q1 := HT4.out.c1)
            | (with_reducible refine wpList_alloc_row rfl 51 rfl (kc ⟨#[]⟩ ⟨#[]⟩ .nilFunc .nilFunc) zeroK ?_)
            | (refine wpList_store_row rfl 51 (.tmp 5) (.tmp 13) rfl W.heap.size (kc p q f g) rfl rfl _ _ (heap_alloc_new _ _) (sizeK _ _ _ _) rfl (oneK _ _ of.out og.out) ?_;
               have hk := (KBox.new W ⟨#[]⟩ ⟨#[]⟩ .nilFunc .nilFunc).set p q f g;
               have hx := (HX.out.next ((Below.refl _ _).alloc (Nat.le_refl _) (.cells (kc ⟨#[]⟩ ⟨#[]⟩ .nilFunc .nilFunc) 51))).row (n := W.heap.size) (Nat.ne_of_lt HX.out.lt) (kc p q f g);
               have hb := below_setRow (HB.out.alloc HB.out.size (.cells (kc ⟨#[]⟩ ⟨#[]⟩ .nilFunc .nilFunc) 51)) HB.out.size (kc p q f g);
               generalize (W.alloc (.cells (kc ⟨#[]⟩ ⟨#[]⟩ .nilFunc .nilFunc) 51)).setRow W.heap.size (kc p q f g) = V at hk hx hb ⊢;
               have k0 := hk.c0; have k1 := hk.c1; have k2 := hk.c2; have k3 := hk.c3; have HX2 := hideL hx; have HB2 := hideL hb; clear hk hx hb)
            | (go_at_call 31; refine (LC.out _).mono ?_; rintro e w5 ⟨rfl, hB5⟩; have HX5 := hideL (HX4.out.next hB5); have HB5 := hideL (HB4.out.trans (hB5.mono HB4.out.size)); have HT5 := hideL (HT4.out.next hB5); have r0 := HT5.out.c0; have r1 := HT5.out.c1; have f0 := HT5.out.frozen 1; have HX6 := hideL (HX5.out.other (o := 1) (v := .string t) (Nat.ne_of_lt HG3.out)); have HB6 := hideL (HB5.out.setCell (p := ⟨w3.heap.size, 1, none⟩) (Nat.le_of_lt HG3.out) (.string t)))
            | (refine wpList_store_row rfl 23 (.tmp 2) (.tmp 35) rfl w.heap.size #[.int .i64 k, .string t] rfl rfl _ _ HX6.out (sizeT _ _) rfl (oneT _ _) ?_))
          have HX7 := HX6.out.set k t
          have HB7 := below_setRow HB6.out (Nat.le_refl _) #[.int .i64 k, .string t]
          generalize (w5.setCell ⟨w3.heap.size, 1, none⟩ (.string t)).setRow w.heap.size #[.int .i64 k, .string t] = VF at HX7 HB7 ⊢
          have r0 := HX7.c0
          have r1 := HX7.c1
          have hv : paV s.data.toList = .tuple #[.agg #[.int .i64 k, .string t], .int .i64 0] := by unfold paV; rw [HPAR.out]; rfl
          exact bodyPost_ret (v := .tuple #[.agg #[.int .i64 k, .string t], .int .i64 0]) (by simp [results, Try.results21, go_sem, r0, r1]) rfl ⟨by rw [hv], HB7⟩
    · obtain rfl : k = 5 := by omega
      have HPAR := hideL (miss_all hmiss.out)
      have HX := hideL hx
      have HB := hideL hb
      clear hx hb hmiss
      go_wp2_with (refine wpList_store_row rfl 23 (.tmp 2) (.tmp 37) rfl w.heap.size #[.int .i64 0, .string ⟨#[]⟩] rfl rfl _ _ HX.out (sizeT _ _) rfl (oneT _ _) ?_)
      have HX7 := HX.out.set 0 ⟨#[]⟩
      have HB7 := below_setRow HB.out (Nat.le_refl _) #[.int .i64 0, .string ⟨#[]⟩]
      generalize W.setRow w.heap.size #[.int .i64 0, .string ⟨#[]⟩] = VF at HX7 HB7 ⊢
      have r0 := HX7.c0
      have r1 := HX7.c1
      have hv : paV s.data.toList = .tuple #[.agg #[.int .i64 0, .string ⟨#[]⟩], .int .i64 2] := by unfold paV; rw [HPAR.out]; rfl
      exact bodyPost_ret (v := .tuple #[.agg #[.int .i64 0, .string ⟨#[]⟩], .int .i64 2]) (by simp [results, Try.results21, go_sem, r0, r1]) rfl ⟨by rw [hv], HB7⟩
end Go.Proofs.Ytffbmkocmjpmeaa
