/- The law MacKeys: its walk. -/
import Derived.Test.YtjfidelegmjnkaaProg
import Derived.Test.YtjfidelegmjnkaaMacPartsLaw
import Derived.Test.YtjfidelegmjnkaaApp
import Derived.Test.YtjfidelegmjnkaaOwnB
import Derived.Deep.RegionHeld3
import Derived.Deep.MidRow
namespace Go.Proofs.Ytjfidelegmjnkaa
open Go.RowKit

theorem keyX_sum (k : List Int) (h : 64 < k.length) : keyX (sumS k) = keyX k := by
  rw [keyX, if_neg (by rw [length_sumS]; omega), keyX, if_pos h]
theorem keyS_sum (k : List Int) (h : 64 < k.length) : keyS (sumS k) = keyS k := by rw [keyS, keyS, keyX_sum k h]
theorem keyS_zero (k : List Int) (h : k.length ≤ 63) : keyS (k ++ [0]) = keyS k := by
  have e1 : keyX (k ++ [0]) = k ++ [0] := by rw [keyX, if_neg (by simp; omega)]
  have e2 : keyX k = k := by rw [keyX, if_neg (by omega)]
  rw [keyS, keyS, e1, e2, List.append_assoc]
  congr 1
  rw [show 64 - k.length = (64 - (k ++ [0]).length) + 1 from by simp; omega, List.replicate_succ]
  rfl
theorem macS_sum (k m : List Int) (h : 64 < k.length) : macS (sumS k) m = macS k m := by rw [macS, macS, keyS_sum k h]
theorem macS_zero (k m : List Int) (h : k.length ≤ 63) : macS (k ++ [0]) m = macS k m := by rw [macS, macS, keyS_zero k h]

set_option maxRecDepth 100000 in
set_option maxHeartbeats 4000000 in
theorem mkeys_walk (k xs : List Int) (kv v : Value) (w : World) (hk : SlAt w kv k) (_kb : ∀ x ∈ k, 0 ≤ x ∧ x < 256) (hkm : k.length ≤ maxLen) (hx : SlAt w v xs) (_xb : ∀ x ∈ xs, 0 ≤ x ∧ x < 256) (hm : xs.length ≤ maxLen) :
    Calls Try.prog 5 #[kv, v] w (LawPost w) := by
  obtain ⟨i0, hi, hz0, hz1, hz2⟩ := info_parts Try.info5
  have HI := hide hi
  have HZI0 := hide hz0
  have HZI1 := hide hz1
  have HZI2 := hide hz2
  clear hi hz0 hz1 hz2
  have hal : Try.prog.arrayLen 25 = 32 := by kernel_rfl
  obtain ⟨ao, cap, rfl⟩ := hx.len
  obtain ⟨ko, kc, rfl⟩ := hk.len
  have HX := hide hx
  have HK := hide hk
  obtain ⟨n, hn⟩ : ∃ n, n = xs.length := ⟨_, rfl⟩
  obtain ⟨m, hm0⟩ : ∃ n, n = k.length := ⟨_, rfl⟩
  have HN := hide hn
  have HM := hide hm0
  rw [← hn] at HX hm ⊢
  rw [← hm0] at HK hkm ⊢
  unfold maxLen at hm hkm
  clear hx hk hn hm0
  go_enter Try.func5, Try.ntmps5
  by_cases hbig : 1000 < m ∨ 1000 < n
  · have hb1 : ¬ 1000 < m → 1000 < n := fun h => hbig.resolve_left h
    by_cases h4 : 1000 < m
    all_goals first | have h5 := hb1 h4 | skip
    all_goals
      clear hb1 hbig
      go_wp2_with fail
      refine (awake_any _).mono ?_
      rintro e w1 ⟨rfl, hB⟩
      go_wp2_with fail
      go_ret
      exact ⟨rfl, hB⟩
  · have h4 : ¬ 1000 < m := fun h => hbig (.inl h)
    have h5 : ¬ 1000 < n := fun h => hbig (.inr h)
    clear hbig
    go_wp2_with fail
    have HB0 := hide ((Below.refl w.heap.size w).alloc (Nat.le_refl _) (.cells #[.slice ao n cap] 22))
    have HC := hide (macOf_any k _ [xs] w.heap.size 0 1 _ (HK.out.below HB0.out) (by have := HM.out; omega) (parts_one ((cell_of_row _ _ 0 _ _ _ (heap_alloc_new w (.cells #[.slice ao n cap] 22))).trans rfl) (by simp) (HX.out.below HB0.out)) (by simp) (by simp) (by simp; have := HN.out; omega))
    refine HC.out.mono ?_
    rw [show [xs].flatten = xs from by simp]
    rintro e w1 ⟨rfl, hB1⟩
    have HB1 := hide (below_through hB1 HB0.out)
    clear hB1 HC HB0
    obtain ⟨X, hXX⟩ : ∃ X, X = macS k xs := ⟨_, rfl⟩
    have hl : Hid (X.length = 32) := hide (by rw [hXX]; exact length_macS _ _)
    rw [← hXX]
    have HXE := hide hXX
    clear hXX
    go_wp2_with (first
      | (with_reducible refine wpList_alloc_row rfl 25 rfl (cellsOf .u8 zeros32) zero36 ?_)
      | (with_reducible refine wpList_store_blk rfl 25 (.tmp 5) (.tmp 19) rfl w1.heap.size .u8 X rfl rfl _ _ (Blk.new w1 25 .u8 zeros32) (sz36 X hl.out) (zl32 hl.out) ?_))
    intro w2 hb2 hz2 hB2 hk2
    have HBW := hide ((HB1.out.alloc HB1.out.size (.cells (cellsOf .u8 zeros32) 25)).trans (hB2 _ HB1.out.size))
    clear hB2 hk2 HB1 hz2
    have hlt := hb2.lt
    generalize w1.heap.size = g at hb2 hlt ⊢
    have hr := blk_range hb2
    have HIX := hide (size_row32 (C := X.map (Value.int .u8)) (by rw [List.length_map, hl.out]))
    have HEQ : Hid (∀ w, (Op.equalIn 10000 25 (.agg (X.map (Value.int .u8)).toArray) (.agg (X.map (Value.int .u8)).toArray)).run Try.prog w = .ok true w) := hide (eq36 _ X rfl hl.out)
    have HXX0 : Hid (cellsOf .u8 (macS k xs) = (X.map (Value.int .u8)).toArray) := hide (by rw [← HXE.out]; rfl)
    generalize X.map (Value.int .u8) = CX at hr HIX HEQ HXX0
    by_cases h63 : m ≤ 63
    · have HS : Hid (∀ W, Below w2.heap.size w2 W → W.rangeAt g 0 CX) := hide (fun W hb q v hv => (hb.cell (p := ⟨g, 0 + q, none⟩) hlt).trans (hr q v hv))
      have HXX : Hid (cellsOf .u8 (macS (k ++ [0]) xs) = CX.toArray) := hide (by rw [macS_zero k xs (by have := HM.out; omega)]; exact HXX0.out)
      have HLK : Hid (0 + k.length ≤ 140737488355328) := hide (by have := HM.out; omega)
      have HLZ : Hid (0 + k.length + ([0] : List Int).length ≤ 140737488355328) := hide (by have := HM.out; simp; omega)
      have heq := HEQ.out
      clear hb2 hlt hr HXE hl HXX0 HEQ hm hkm
      generalize (Value.agg (cellsOf .u8 X)) = d9
      go_wp2_with fail
      refine wp_region_held_drew (S := fun w' => w'.rangeAt g 0 CX) (by kernel_rfl) (HS.out _ (Below.refl _ _).drew) (fun hHeld => ?_)
      refine wpAnyH_take (i := 1) (oi := { dst := some 24, op := Op.move (Operand.tmp 0), type := 22, pos := "law.go:37", after := #[], guard := none }) (v := ?_) rfl (by kernel_rfl) (by kernel_rfl) (by kernel_rfl) (fun _ _ _ h => h) (Or.inl ⟨by rfl, ?_⟩) hHeld ?_
      rotate_left
      · intro w hSw; (try dsimp only at hSw); go_simp; first | done | with_reducible rfl
      try simp only [Act.put, List.setIfInBounds_toArray, List.set_cons_zero, List.set_cons_succ]
      refine wpAnyH_take (i := 5) (oi := { dst := some 28, op := Op.move (Operand.tmp 1), type := 22, pos := "law.go:37", after := #[], guard := none }) (v := ?_) rfl (by kernel_rfl) (by kernel_rfl) (by kernel_rfl) (fun _ _ _ h => h) (Or.inl ⟨by rfl, ?_⟩) hHeld ?_
      rotate_left
      · intro w hSw; (try dsimp only at hSw); go_simp; first | done | with_reducible rfl
      try simp only [Act.put, List.setIfInBounds_toArray, List.set_cons_zero, List.set_cons_succ]
      refine wpAnyH_take (i := 8) (oi := { dst := some 31, op := Op.load 25 (Operand.tmp 5), type := 25, pos := "law.go:37", after := #[], guard := none }) (v := .agg CX.toArray) rfl (by kernel_rfl) (by kernel_rfl) (by kernel_rfl) (fun _ _ _ h => h) (yieldsIf_load_mid (by rfl) _ _ rfl g 0 rfl CX _ (fun w hS => hS) under32 rfl HIX.out) hHeld ?_
      try simp only [Act.put, List.setIfInBounds_toArray, List.set_cons_zero, List.set_cons_succ]
      obtain ⟨W0, hW0⟩ : ∃ W0, W0 = w2.drew := ⟨_, rfl⟩
      have HB00 : Hid (Below w2.heap.size w2 W0) := hide (by rw [hW0]; exact (Below.refl _ _).drew)
      have HS0E : Hid (w2.heap.size = W0.heap.size) := hide (by rw [hW0]; rfl)
      rw [← hW0] at hHeld ⊢
      clear hW0
      obtain ⟨S0, hS00⟩ : ∃ S0, S0 = W0.heap.size := ⟨_, rfl⟩
      have HS00 := hide hS00
      clear hS00
      have HB0 := hide (Below.refl W0.heap.size W0)
      have HXD : Hid (∀ W, Below W0.heap.size W0 W → SlAt W (.slice ao n cap) xs) := hide (fun W hb => HX.out.below (HBW.out.trans ((HB00.out.trans (hb.mono (Nat.le_of_eq HS0E.out))).mono HBW.out.size)))
      have HKD : Hid (∀ W, Below W0.heap.size W0 W → SlAt W (.slice ko m kc) k) := hide (fun W hb => HK.out.below (HBW.out.trans ((HB00.out.trans (hb.mono (Nat.le_of_eq HS0E.out))).mono HBW.out.size)))
      refine wpAnyH_ready (rs := [0, 3, 6]) (by kernel_rfl) (by simp) ?_
      refine (AllReadyH.cons (o := { dst := some 23, op := Op.buildSlice 22 0 #[], type := 22, pos := "law.go:37", after := #[], guard := none }) rfl (fun K hK => ?_) (AllReadyH.cons (o := { dst := some 26, op := Op.buildSlice 22 1 #[(0, Operand.const (Value.int IntKind.u8 0))], type := 22, pos := "law.go:37", after := #[], guard := none }) rfl (fun K hK => ?_) (AllReadyH.cons (o := { dst := some 29, op := Op.buildSlice 36 1 #[(0, Operand.tmp 28)], type := 36, pos := "law.go:37", after := #[{ on := 5, ground := Ground.data }], guard := none }) rfl (fun K hK => ?_) AllReadyH.nil)))
      · clear hHeld
        go_simp
        have HB1 := hide (HB0.out.alloc HB0.out.size (.cells #[] 5))
        have HO1 := hide (own_empty W0 5)
        have hbs : S0 ≤ W0.heap.size := by rw [HS00.out]; exact HB0.out.size
        have hbl : W0.heap.size ≤ (W0.alloc (.cells #[] 5)).heap.size := by simp
        generalize W0.alloc (.cells #[] 5) = W1 at HB1 HO1 hbl ⊢
        generalize W0.heap.size = bs at HO1 hbs hbl ⊢
        refine hK.out _ _ (HS.out _ (HB00.out.trans (HB1.out.mono (Nat.le_of_eq HS0E.out)))) (fun hHeld => ?_)
        clear hK K
        try simp only [Act.put, List.setIfInBounds_toArray, List.set_cons_zero, List.set_cons_succ]
        refine wpAnyH_ready (rs := [2, 3, 6]) (by kernel_rfl) (by simp) ?_
        refine (AllReadyH.cons (o := { dst := some 25, op := Op.call { callee := Callee.builtin Builtin.append, args := #[Operand.tmp 23, Operand.tmp 24], argTypes := #[22, 22] }, type := 22, pos := "law.go:37", after := #[{ on := 0, ground := Ground.data }, { on := 1, ground := Ground.data }], guard := none }) rfl (fun K hK => ?_) (AllReadyH.cons (o := { dst := some 26, op := Op.buildSlice 22 1 #[(0, Operand.const (Value.int IntKind.u8 0))], type := 22, pos := "law.go:37", after := #[], guard := none }) rfl (fun K hK => ?_) (AllReadyH.cons (o := { dst := some 29, op := Op.buildSlice 36 1 #[(0, Operand.tmp 28)], type := 36, pos := "law.go:37", after := #[{ on := 5, ground := Ground.data }], guard := none }) rfl (fun K hK => ?_) AllReadyH.nil)))
        · clear hHeld
          rw [if_pos (by rfl)]
          obtain ⟨v1, W2, hrun, hown, hgr, hat⟩ := append_sl (P := Try.prog) (w := W1) (t := 22) (e := 5) Try.underlying22 HI.out HZI0.out HZI1.out HZI2.out bs (.slice (some ⟨bs, 0, none⟩) 0 0) 0 [] HO1.out (.slice ko m kc) k (HKD.out _ HB1.out) HLK.out hbl 22
          refine wp_append_run (.tmp 23) (.tmp 24) 22 22 22 rfl rfl _ _ v1 W2 rfl rfl hrun ?_
          have hrw : ∀ k, Value.ownBlock (.slice (some ⟨bs, 0, none⟩) 0 0) = some k → bs ≤ k := own_block_le HO1.out
          have HB2 := hide (HB1.out.grown hgr HB1.out.size (fun k e => by have h1 := hrw k e; have h2 := HS00.out; omega))
          replace hbl := Nat.le_trans hbl hgr.size
          have HO2 := hide hown
          clear hrun hown hgr hat hrw
          refine hK.out _ _ (HS.out _ (HB00.out.trans (HB2.out.mono (Nat.le_of_eq HS0E.out)))) (fun hHeld => ?_)
          clear hK K
          try simp only [Act.put, List.setIfInBounds_toArray, List.set_cons_zero, List.set_cons_succ]
          refine wpAnyH_ready (rs := [3, 6]) (by kernel_rfl) (by simp) ?_
          refine (AllReadyH.cons (o := { dst := some 26, op := Op.buildSlice 22 1 #[(0, Operand.const (Value.int IntKind.u8 0))], type := 22, pos := "law.go:37", after := #[], guard := none }) rfl (fun K hK => ?_) (AllReadyH.cons (o := { dst := some 29, op := Op.buildSlice 36 1 #[(0, Operand.tmp 28)], type := 36, pos := "law.go:37", after := #[{ on := 5, ground := Ground.data }], guard := none }) rfl (fun K hK => ?_) AllReadyH.nil))
          · clear hHeld
            go_simp
            change K _ (W2.alloc (.cells (cellsOf .u8 [0]) 5))
            have HB3 := hide (HB2.out.alloc HB2.out.size (.cells (cellsOf .u8 [0]) 5))
            have HO3 := hide (HO2.out.alloc (.cells (cellsOf .u8 [0]) 5))
            have HZ3 := hide (Blk.new W2 5 .u8 [0])
            have NZ3 : Value.ownBlock v1 ≠ some W2.heap.size := fun e => by have := HO2.out; have h2 := own_block_lt this e; omega
            replace hbl : bs ≤ (W2.alloc (.cells (cellsOf .u8 [0]) 5)).heap.size := Nat.le_trans hbl (by simp)
            generalize W2.alloc (.cells (cellsOf .u8 [0]) 5) = W3 at HB3 HO3 HZ3 hbl ⊢
            generalize W2.heap.size = g26 at HZ3 NZ3 ⊢
            refine hK.out _ _ (HS.out _ (HB00.out.trans (HB3.out.mono (Nat.le_of_eq HS0E.out)))) (fun hHeld => ?_)
            clear hK K
            try simp only [Act.put, List.setIfInBounds_toArray, List.set_cons_zero, List.set_cons_succ]
            refine wpAnyH_ready (rs := [4, 6]) (by kernel_rfl) (by simp) ?_
            refine (AllReadyH.cons (o := { dst := some 27, op := Op.call { callee := Callee.builtin Builtin.append, args := #[Operand.tmp 25, Operand.tmp 26], argTypes := #[22, 22] }, type := 22, pos := "law.go:37", after := #[{ on := 2, ground := Ground.data }, { on := 3, ground := Ground.data }, { on := 2, ground := Ground.chain }], guard := none }) rfl (fun K hK => ?_) (AllReadyH.cons (o := { dst := some 29, op := Op.buildSlice 36 1 #[(0, Operand.tmp 28)], type := 36, pos := "law.go:37", after := #[{ on := 5, ground := Ground.data }], guard := none }) rfl (fun K hK => ?_) AllReadyH.nil))
            · clear hHeld
              rw [if_pos (by rfl)]
              obtain ⟨v2, W4, hrun, hown, hgr, hat⟩ := append_sl (P := Try.prog) (w := W3) (t := 22) (e := 5) Try.underlying22 HI.out HZI0.out HZI1.out HZI2.out bs v1 (0 + k.length) ([] ++ k) HO3.out (.slice (some ⟨g26, 0, none⟩) 1 1) [0] (slAt_blk HZ3.out rfl) HLZ.out hbl 22
              refine wp_append_run (.tmp 25) (.tmp 26) 22 22 22 rfl rfl _ _ v2 W4 rfl rfl hrun ?_
              have hrw : ∀ k, Value.ownBlock v1 = some k → bs ≤ k := own_block_le HO3.out
              have HB4 := hide (HB3.out.grown hgr HB3.out.size (fun k e => by have h1 := hrw k e; have h2 := HS00.out; omega))
              replace hbl := Nat.le_trans hbl hgr.size
              have HO4 := hide hown
              clear hrun hown hgr hat hrw
              refine hK.out _ _ (HS.out _ (HB00.out.trans (HB4.out.mono (Nat.le_of_eq HS0E.out)))) (fun hHeld => ?_)
              clear hK K
              try simp only [Act.put, List.setIfInBounds_toArray, List.set_cons_zero, List.set_cons_succ]
              refine wpAnyH_ready (rs := [6]) (by kernel_rfl) (by simp) ?_
              refine (AllReadyH.cons (o := { dst := some 29, op := Op.buildSlice 36 1 #[(0, Operand.tmp 28)], type := 36, pos := "law.go:37", after := #[{ on := 5, ground := Ground.data }], guard := none }) rfl (fun K hK => ?_) AllReadyH.nil)
              · clear hHeld
                go_simp
                have HB5 := hide (HB4.out.alloc HB4.out.size (.cells #[.slice ao n cap] 22))
                have HO5 := hide (HO4.out.alloc (.cells #[.slice ao n cap] 22))
                have HP5 := hide (heap_alloc_new W4 (.cells #[.slice ao n cap] 22))
                have NP5 : Value.ownBlock v2 ≠ some W4.heap.size := fun e => by have := HO4.out; have h2 := own_block_lt this e; omega
                replace hbl : bs ≤ (W4.alloc (.cells #[.slice ao n cap] 22)).heap.size := Nat.le_trans hbl (by simp)
                generalize W4.alloc (.cells #[.slice ao n cap] 22) = W5 at HB5 HO5 HP5 hbl ⊢
                generalize W4.heap.size = g29 at HP5 NP5 ⊢
                refine hK.out _ _ (HS.out _ (HB00.out.trans (HB5.out.mono (Nat.le_of_eq HS0E.out)))) (fun hHeld => ?_)
                clear hK K
                try simp only [Act.put, List.setIfInBounds_toArray, List.set_cons_zero, List.set_cons_succ]
                have hsl : SlAt W5 v2 (k ++ [0]) := by have := slAt_ownV HO5.out; rwa [List.nil_append] at this
                have HPA := hide (parts_one (b := g29) ((cell_of_row _ _ 0 _ _ _ HP5.out).trans rfl) (Array.getElem?_eq_some_iff.1 HP5.out).1 (HXD.out _ HB5.out))
                have HSL := hide hsl
                clear hsl
                clear HO5 HP5 hbl hbs
                refine wpAnyH_ready (rs := [7]) (by kernel_rfl) (by simp) ?_
                refine AllReadyH.cons (o := { dst := some 30, op := Op.call { callee := Callee.value (Operand.func 9), args := #[Operand.tmp 27, Operand.tmp 29], argTypes := #[22, 36] }, type := 25, pos := "law.go:37", after := #[{ on := 4, ground := Ground.data }, { on := 6, ground := Ground.data }, { on := 4, ground := Ground.chain }], guard := none }) rfl (fun K hK => ?_) AllReadyH.nil
                clear hHeld
                go_simp
                refine (macOf_any (k ++ [0]) _ _ g29 0 1 W5 HSL.out (by have := HM.out; simp; omega) HPA.out (by simp) (by simp) (by simp; have := HN.out; omega)).mono ?_
                rw [show [xs].flatten = xs from by simp, HXX.out]
                rintro e w6 ⟨rfl, hBX⟩
                have HBd := hide (HB5.out.trans (hBX.mono HB5.out.size))
                clear hBX HPA
                dsimp only
                refine hK.out _ _ (HS.out _ (HB00.out.trans (HBd.out.mono (Nat.le_of_eq HS0E.out)))) (fun hHeld => ?_)
                clear hK K
                try simp only [Act.put, List.setIfInBounds_toArray, List.set_cons_zero, List.set_cons_succ]
                refine wpAnyH_take (i := 9) (oi := { dst := some 32, op := Op.binOp BinOp.eql 25 (Operand.tmp 30) (Operand.tmp 31) 25, type := 4, pos := "law.go:37", after := #[{ on := 7, ground := Ground.data }, { on := 8, ground := Ground.data }], guard := none }) (v := ?_) rfl (by kernel_rfl) (by kernel_rfl) (by kernel_rfl) (fun _ _ _ h => h) (Or.inl ⟨by rfl, ?_⟩) hHeld ?_
                rotate_left
                · intro w hSw; (try dsimp only at hSw); go_simp; first | done | with_reducible rfl
                try simp only [Act.put, List.setIfInBounds_toArray, List.set_cons_zero, List.set_cons_succ]
                refine wpAnyH_take (i := 10) (oi := { dst := some 33, op := Op.move (Operand.tmp 32), type := 4, pos := "law.go:37", after := #[{ on := 9, ground := Ground.data }, { on := 7, ground := Ground.chain }], guard := none }) (v := ?_) rfl (by kernel_rfl) (by kernel_rfl) (by kernel_rfl) (fun _ _ _ h => h) (Or.inl ⟨by rfl, ?_⟩) hHeld ?_
                rotate_left
                · intro w hSw; (try dsimp only at hSw); go_simp; first | done | with_reducible rfl
                try simp only [Act.put, List.setIfInBounds_toArray, List.set_cons_zero, List.set_cons_succ]
                refine wpAnyH_ready (rs := [11]) (by kernel_rfl) (by simp) ?_
                refine AllReadyH.cons (o := { dst := some 34, op := Op.call { callee := Callee.value (Operand.func 8), args := #[], argTypes := #[] }, type := 4, pos := "law.go:37", after := #[{ on := 10, ground := Ground.chain }, { on := 10, ground := Ground.guard }], guard := some (10, true) }) rfl (fun K hK => ?_) AllReadyH.nil
                clear hHeld
                go_simp
                refine (awake_any _).mono ?_
                rintro e w7 ⟨rfl, hBX⟩
                have HBe := hide (HBd.out.trans (hBX.mono HBd.out.size))
                clear hBX HBd
                dsimp only
                refine hK.out _ _ (HS.out _ (HB00.out.trans (HBe.out.mono (Nat.le_of_eq HS0E.out)))) (fun hHeld => ?_)
                clear hK K
                try simp only [Act.put, List.setIfInBounds_toArray, List.set_cons_zero, List.set_cons_succ]
                refine wpAnyH_take (i := 12) (oi := { dst := some 35, op := Op.pick (Operand.tmp 33) (Operand.tmp 34) (Operand.const (Value.bool false)), type := 4, pos := "law.go:37", after := #[{ on := 10, ground := Ground.data }, { on := 11, ground := Ground.data }], guard := none }) (v := ?_) rfl (by kernel_rfl) (by kernel_rfl) (by kernel_rfl) (fun _ _ _ h => h) (Or.inl ⟨by rfl, ?_⟩) hHeld ?_
                rotate_left
                · intro w hSw; (try dsimp only at hSw); go_simp; first | done | with_reducible rfl
                try simp only [Act.put, List.setIfInBounds_toArray, List.set_cons_zero, List.set_cons_succ]
                refine wpAnyH_take (i := 13) (oi := { dst := some 4, op := Op.assign (Operand.tmp 35), type := 4, pos := "law.go:37", after := #[{ on := 12, ground := Ground.data }, { on := 11, ground := Ground.chain }, { on := 0, ground := Ground.phase }, { on := 1, ground := Ground.phase }, { on := 2, ground := Ground.phase }, { on := 3, ground := Ground.phase }, { on := 4, ground := Ground.phase }, { on := 5, ground := Ground.phase }, { on := 6, ground := Ground.phase }, { on := 7, ground := Ground.phase }, { on := 8, ground := Ground.phase }, { on := 9, ground := Ground.phase }, { on := 10, ground := Ground.phase }, { on := 11, ground := Ground.phase }, { on := 12, ground := Ground.phase }], guard := none }) (v := ?_) rfl (by kernel_rfl) (by kernel_rfl) (by kernel_rfl) (fun _ _ _ h => h) (Or.inl ⟨by rfl, ?_⟩) hHeld ?_
                rotate_left
                · intro w hSw; (try dsimp only at hSw); go_simp; first | done | with_reducible rfl
                try simp only [Act.put, List.setIfInBounds_toArray, List.set_cons_zero, List.set_cons_succ]
                refine wpAnyH_done (by kernel_rfl) ?_ _
                go_wp2_with fail
                go_ret
                exact ⟨rfl, HBW.out.trans ((HB00.out.trans (HBe.out.mono (Nat.le_of_eq HS0E.out))).mono HBW.out.size)⟩
            · clear hHeld
              go_simp
              have HB4 := hide (HB3.out.alloc HB3.out.size (.cells #[.slice ao n cap] 22))
              have HO4 := hide (HO3.out.alloc (.cells #[.slice ao n cap] 22))
              have HZ4 := hide (HZ3.out.alloc (.cells #[.slice ao n cap] 22))
              have HP4 := hide (heap_alloc_new W3 (.cells #[.slice ao n cap] 22))
              have NP4 : Value.ownBlock v1 ≠ some W3.heap.size := fun e => by have := HO3.out; have h2 := own_block_lt this e; omega
              replace hbl : bs ≤ (W3.alloc (.cells #[.slice ao n cap] 22)).heap.size := Nat.le_trans hbl (by simp)
              have NZ4 := NZ3
              generalize W3.alloc (.cells #[.slice ao n cap] 22) = W4 at HB4 HO4 HZ4 HP4 hbl ⊢
              generalize W3.heap.size = g29 at HP4 NP4 ⊢
              refine hK.out _ _ (HS.out _ (HB00.out.trans (HB4.out.mono (Nat.le_of_eq HS0E.out)))) (fun hHeld => ?_)
              clear hK K
              try simp only [Act.put, List.setIfInBounds_toArray, List.set_cons_zero, List.set_cons_succ]
              refine wpAnyH_ready (rs := [4]) (by kernel_rfl) (by simp) ?_
              refine (AllReadyH.cons (o := { dst := some 27, op := Op.call { callee := Callee.builtin Builtin.append, args := #[Operand.tmp 25, Operand.tmp 26], argTypes := #[22, 22] }, type := 22, pos := "law.go:37", after := #[{ on := 2, ground := Ground.data }, { on := 3, ground := Ground.data }, { on := 2, ground := Ground.chain }], guard := none }) rfl (fun K hK => ?_) AllReadyH.nil)
              · clear hHeld
                rw [if_pos (by rfl)]
                obtain ⟨v2, W5, hrun, hown, hgr, hat⟩ := append_sl (P := Try.prog) (w := W4) (t := 22) (e := 5) Try.underlying22 HI.out HZI0.out HZI1.out HZI2.out bs v1 (0 + k.length) ([] ++ k) HO4.out (.slice (some ⟨g26, 0, none⟩) 1 1) [0] (slAt_blk HZ4.out rfl) HLZ.out hbl 22
                refine wp_append_run (.tmp 25) (.tmp 26) 22 22 22 rfl rfl _ _ v2 W5 rfl rfl hrun ?_
                have hrw : ∀ k, Value.ownBlock v1 = some k → bs ≤ k := own_block_le HO4.out
                have HB5 := hide (HB4.out.grown hgr HB4.out.size (fun k e => by have h1 := hrw k e; have h2 := HS00.out; omega))
                have HP5 : Hid (W5.heap[g29]? = some (.cells #[.slice ao n cap] 22)) := hide ((hgr.block g29 (Array.getElem?_eq_some_iff.1 HP4.out).1 (fun e => NP4 e.symm)).trans HP4.out)
                have NP5 : v2.ownBlock ≠ some g29 := fun e => hat.elim (fun h => NP4 (h ▸ e)) (fun h => by rw [h] at e; injection e with e; have := (Array.getElem?_eq_some_iff.1 HP4.out).1; omega)
                replace hbl := Nat.le_trans hbl hgr.size
                have HO5 := hide hown
                clear hrun hown hgr hat hrw
                refine hK.out _ _ (HS.out _ (HB00.out.trans (HB5.out.mono (Nat.le_of_eq HS0E.out)))) (fun hHeld => ?_)
                clear hK K
                try simp only [Act.put, List.setIfInBounds_toArray, List.set_cons_zero, List.set_cons_succ]
                have hsl : SlAt W5 v2 (k ++ [0]) := by have := slAt_ownV HO5.out; rwa [List.nil_append] at this
                have HPA := hide (parts_one (b := g29) ((cell_of_row _ _ 0 _ _ _ HP5.out).trans rfl) (Array.getElem?_eq_some_iff.1 HP5.out).1 (HXD.out _ HB5.out))
                have HSL := hide hsl
                clear hsl
                clear HO5 HP5 hbl hbs
                refine wpAnyH_ready (rs := [7]) (by kernel_rfl) (by simp) ?_
                refine AllReadyH.cons (o := { dst := some 30, op := Op.call { callee := Callee.value (Operand.func 9), args := #[Operand.tmp 27, Operand.tmp 29], argTypes := #[22, 36] }, type := 25, pos := "law.go:37", after := #[{ on := 4, ground := Ground.data }, { on := 6, ground := Ground.data }, { on := 4, ground := Ground.chain }], guard := none }) rfl (fun K hK => ?_) AllReadyH.nil
                clear hHeld
                go_simp
                refine (macOf_any (k ++ [0]) _ _ g29 0 1 W5 HSL.out (by have := HM.out; simp; omega) HPA.out (by simp) (by simp) (by simp; have := HN.out; omega)).mono ?_
                rw [show [xs].flatten = xs from by simp, HXX.out]
                rintro e w6 ⟨rfl, hBX⟩
                have HBd := hide (HB5.out.trans (hBX.mono HB5.out.size))
                clear hBX HPA
                dsimp only
                refine hK.out _ _ (HS.out _ (HB00.out.trans (HBd.out.mono (Nat.le_of_eq HS0E.out)))) (fun hHeld => ?_)
                clear hK K
                try simp only [Act.put, List.setIfInBounds_toArray, List.set_cons_zero, List.set_cons_succ]
                refine wpAnyH_take (i := 9) (oi := { dst := some 32, op := Op.binOp BinOp.eql 25 (Operand.tmp 30) (Operand.tmp 31) 25, type := 4, pos := "law.go:37", after := #[{ on := 7, ground := Ground.data }, { on := 8, ground := Ground.data }], guard := none }) (v := ?_) rfl (by kernel_rfl) (by kernel_rfl) (by kernel_rfl) (fun _ _ _ h => h) (Or.inl ⟨by rfl, ?_⟩) hHeld ?_
                rotate_left
                · intro w hSw; (try dsimp only at hSw); go_simp; first | done | with_reducible rfl
                try simp only [Act.put, List.setIfInBounds_toArray, List.set_cons_zero, List.set_cons_succ]
                refine wpAnyH_take (i := 10) (oi := { dst := some 33, op := Op.move (Operand.tmp 32), type := 4, pos := "law.go:37", after := #[{ on := 9, ground := Ground.data }, { on := 7, ground := Ground.chain }], guard := none }) (v := ?_) rfl (by kernel_rfl) (by kernel_rfl) (by kernel_rfl) (fun _ _ _ h => h) (Or.inl ⟨by rfl, ?_⟩) hHeld ?_
                rotate_left
                · intro w hSw; (try dsimp only at hSw); go_simp; first | done | with_reducible rfl
                try simp only [Act.put, List.setIfInBounds_toArray, List.set_cons_zero, List.set_cons_succ]
                refine wpAnyH_ready (rs := [11]) (by kernel_rfl) (by simp) ?_
                refine AllReadyH.cons (o := { dst := some 34, op := Op.call { callee := Callee.value (Operand.func 8), args := #[], argTypes := #[] }, type := 4, pos := "law.go:37", after := #[{ on := 10, ground := Ground.chain }, { on := 10, ground := Ground.guard }], guard := some (10, true) }) rfl (fun K hK => ?_) AllReadyH.nil
                clear hHeld
                go_simp
                refine (awake_any _).mono ?_
                rintro e w7 ⟨rfl, hBX⟩
                have HBe := hide (HBd.out.trans (hBX.mono HBd.out.size))
                clear hBX HBd
                dsimp only
                refine hK.out _ _ (HS.out _ (HB00.out.trans (HBe.out.mono (Nat.le_of_eq HS0E.out)))) (fun hHeld => ?_)
                clear hK K
                try simp only [Act.put, List.setIfInBounds_toArray, List.set_cons_zero, List.set_cons_succ]
                refine wpAnyH_take (i := 12) (oi := { dst := some 35, op := Op.pick (Operand.tmp 33) (Operand.tmp 34) (Operand.const (Value.bool false)), type := 4, pos := "law.go:37", after := #[{ on := 10, ground := Ground.data }, { on := 11, ground := Ground.data }], guard := none }) (v := ?_) rfl (by kernel_rfl) (by kernel_rfl) (by kernel_rfl) (fun _ _ _ h => h) (Or.inl ⟨by rfl, ?_⟩) hHeld ?_
                rotate_left
                · intro w hSw; (try dsimp only at hSw); go_simp; first | done | with_reducible rfl
                try simp only [Act.put, List.setIfInBounds_toArray, List.set_cons_zero, List.set_cons_succ]
                refine wpAnyH_take (i := 13) (oi := { dst := some 4, op := Op.assign (Operand.tmp 35), type := 4, pos := "law.go:37", after := #[{ on := 12, ground := Ground.data }, { on := 11, ground := Ground.chain }, { on := 0, ground := Ground.phase }, { on := 1, ground := Ground.phase }, { on := 2, ground := Ground.phase }, { on := 3, ground := Ground.phase }, { on := 4, ground := Ground.phase }, { on := 5, ground := Ground.phase }, { on := 6, ground := Ground.phase }, { on := 7, ground := Ground.phase }, { on := 8, ground := Ground.phase }, { on := 9, ground := Ground.phase }, { on := 10, ground := Ground.phase }, { on := 11, ground := Ground.phase }, { on := 12, ground := Ground.phase }], guard := none }) (v := ?_) rfl (by kernel_rfl) (by kernel_rfl) (by kernel_rfl) (fun _ _ _ h => h) (Or.inl ⟨by rfl, ?_⟩) hHeld ?_
                rotate_left
                · intro w hSw; (try dsimp only at hSw); go_simp; first | done | with_reducible rfl
                try simp only [Act.put, List.setIfInBounds_toArray, List.set_cons_zero, List.set_cons_succ]
                refine wpAnyH_done (by kernel_rfl) ?_ _
                go_wp2_with fail
                go_ret
                exact ⟨rfl, HBW.out.trans ((HB00.out.trans (HBe.out.mono (Nat.le_of_eq HS0E.out))).mono HBW.out.size)⟩
          · clear hHeld
            go_simp
            have HB3 := hide (HB2.out.alloc HB2.out.size (.cells #[.slice ao n cap] 22))
            have HO3 := hide (HO2.out.alloc (.cells #[.slice ao n cap] 22))
            have HP3 := hide (heap_alloc_new W2 (.cells #[.slice ao n cap] 22))
            have NP3 : Value.ownBlock v1 ≠ some W2.heap.size := fun e => by have := HO2.out; have h2 := own_block_lt this e; omega
            replace hbl : bs ≤ (W2.alloc (.cells #[.slice ao n cap] 22)).heap.size := Nat.le_trans hbl (by simp)
            generalize W2.alloc (.cells #[.slice ao n cap] 22) = W3 at HB3 HO3 HP3 hbl ⊢
            generalize W2.heap.size = g29 at HP3 NP3 ⊢
            refine hK.out _ _ (HS.out _ (HB00.out.trans (HB3.out.mono (Nat.le_of_eq HS0E.out)))) (fun hHeld => ?_)
            clear hK K
            try simp only [Act.put, List.setIfInBounds_toArray, List.set_cons_zero, List.set_cons_succ]
            refine wpAnyH_ready (rs := [3]) (by kernel_rfl) (by simp) ?_
            refine (AllReadyH.cons (o := { dst := some 26, op := Op.buildSlice 22 1 #[(0, Operand.const (Value.int IntKind.u8 0))], type := 22, pos := "law.go:37", after := #[], guard := none }) rfl (fun K hK => ?_) AllReadyH.nil)
            · clear hHeld
              go_simp
              change K _ (W3.alloc (.cells (cellsOf .u8 [0]) 5))
              have HB4 := hide (HB3.out.alloc HB3.out.size (.cells (cellsOf .u8 [0]) 5))
              have HO4 := hide (HO3.out.alloc (.cells (cellsOf .u8 [0]) 5))
              have HP4 := hide ((Below.heap_alloc W3 (.cells (cellsOf .u8 [0]) 5) g29 (Array.getElem?_eq_some_iff.1 HP3.out).1).trans HP3.out)
              have HZ4 := hide (Blk.new W3 5 .u8 [0])
              have NZ4 : Value.ownBlock v1 ≠ some W3.heap.size := fun e => by have := HO3.out; have h2 := own_block_lt this e; omega
              replace hbl : bs ≤ (W3.alloc (.cells (cellsOf .u8 [0]) 5)).heap.size := Nat.le_trans hbl (by simp)
              have NP4 := NP3
              generalize W3.alloc (.cells (cellsOf .u8 [0]) 5) = W4 at HB4 HO4 HZ4 HP4 hbl ⊢
              generalize W3.heap.size = g26 at HZ4 NZ4 ⊢
              refine hK.out _ _ (HS.out _ (HB00.out.trans (HB4.out.mono (Nat.le_of_eq HS0E.out)))) (fun hHeld => ?_)
              clear hK K
              try simp only [Act.put, List.setIfInBounds_toArray, List.set_cons_zero, List.set_cons_succ]
              refine wpAnyH_ready (rs := [4]) (by kernel_rfl) (by simp) ?_
              refine (AllReadyH.cons (o := { dst := some 27, op := Op.call { callee := Callee.builtin Builtin.append, args := #[Operand.tmp 25, Operand.tmp 26], argTypes := #[22, 22] }, type := 22, pos := "law.go:37", after := #[{ on := 2, ground := Ground.data }, { on := 3, ground := Ground.data }, { on := 2, ground := Ground.chain }], guard := none }) rfl (fun K hK => ?_) AllReadyH.nil)
              · clear hHeld
                rw [if_pos (by rfl)]
                obtain ⟨v2, W5, hrun, hown, hgr, hat⟩ := append_sl (P := Try.prog) (w := W4) (t := 22) (e := 5) Try.underlying22 HI.out HZI0.out HZI1.out HZI2.out bs v1 (0 + k.length) ([] ++ k) HO4.out (.slice (some ⟨g26, 0, none⟩) 1 1) [0] (slAt_blk HZ4.out rfl) HLZ.out hbl 22
                refine wp_append_run (.tmp 25) (.tmp 26) 22 22 22 rfl rfl _ _ v2 W5 rfl rfl hrun ?_
                have hrw : ∀ k, Value.ownBlock v1 = some k → bs ≤ k := own_block_le HO4.out
                have HB5 := hide (HB4.out.grown hgr HB4.out.size (fun k e => by have h1 := hrw k e; have h2 := HS00.out; omega))
                have HP5 : Hid (W5.heap[g29]? = some (.cells #[.slice ao n cap] 22)) := hide ((hgr.block g29 (Array.getElem?_eq_some_iff.1 HP4.out).1 (fun e => NP4 e.symm)).trans HP4.out)
                have NP5 : v2.ownBlock ≠ some g29 := fun e => hat.elim (fun h => NP4 (h ▸ e)) (fun h => by rw [h] at e; injection e with e; have := (Array.getElem?_eq_some_iff.1 HP4.out).1; omega)
                replace hbl := Nat.le_trans hbl hgr.size
                have HO5 := hide hown
                clear hrun hown hgr hat hrw
                refine hK.out _ _ (HS.out _ (HB00.out.trans (HB5.out.mono (Nat.le_of_eq HS0E.out)))) (fun hHeld => ?_)
                clear hK K
                try simp only [Act.put, List.setIfInBounds_toArray, List.set_cons_zero, List.set_cons_succ]
                have hsl : SlAt W5 v2 (k ++ [0]) := by have := slAt_ownV HO5.out; rwa [List.nil_append] at this
                have HPA := hide (parts_one (b := g29) ((cell_of_row _ _ 0 _ _ _ HP5.out).trans rfl) (Array.getElem?_eq_some_iff.1 HP5.out).1 (HXD.out _ HB5.out))
                have HSL := hide hsl
                clear hsl
                clear HO5 HP5 hbl hbs
                refine wpAnyH_ready (rs := [7]) (by kernel_rfl) (by simp) ?_
                refine AllReadyH.cons (o := { dst := some 30, op := Op.call { callee := Callee.value (Operand.func 9), args := #[Operand.tmp 27, Operand.tmp 29], argTypes := #[22, 36] }, type := 25, pos := "law.go:37", after := #[{ on := 4, ground := Ground.data }, { on := 6, ground := Ground.data }, { on := 4, ground := Ground.chain }], guard := none }) rfl (fun K hK => ?_) AllReadyH.nil
                clear hHeld
                go_simp
                refine (macOf_any (k ++ [0]) _ _ g29 0 1 W5 HSL.out (by have := HM.out; simp; omega) HPA.out (by simp) (by simp) (by simp; have := HN.out; omega)).mono ?_
                rw [show [xs].flatten = xs from by simp, HXX.out]
                rintro e w6 ⟨rfl, hBX⟩
                have HBd := hide (HB5.out.trans (hBX.mono HB5.out.size))
                clear hBX HPA
                dsimp only
                refine hK.out _ _ (HS.out _ (HB00.out.trans (HBd.out.mono (Nat.le_of_eq HS0E.out)))) (fun hHeld => ?_)
                clear hK K
                try simp only [Act.put, List.setIfInBounds_toArray, List.set_cons_zero, List.set_cons_succ]
                refine wpAnyH_take (i := 9) (oi := { dst := some 32, op := Op.binOp BinOp.eql 25 (Operand.tmp 30) (Operand.tmp 31) 25, type := 4, pos := "law.go:37", after := #[{ on := 7, ground := Ground.data }, { on := 8, ground := Ground.data }], guard := none }) (v := ?_) rfl (by kernel_rfl) (by kernel_rfl) (by kernel_rfl) (fun _ _ _ h => h) (Or.inl ⟨by rfl, ?_⟩) hHeld ?_
                rotate_left
                · intro w hSw; (try dsimp only at hSw); go_simp; first | done | with_reducible rfl
                try simp only [Act.put, List.setIfInBounds_toArray, List.set_cons_zero, List.set_cons_succ]
                refine wpAnyH_take (i := 10) (oi := { dst := some 33, op := Op.move (Operand.tmp 32), type := 4, pos := "law.go:37", after := #[{ on := 9, ground := Ground.data }, { on := 7, ground := Ground.chain }], guard := none }) (v := ?_) rfl (by kernel_rfl) (by kernel_rfl) (by kernel_rfl) (fun _ _ _ h => h) (Or.inl ⟨by rfl, ?_⟩) hHeld ?_
                rotate_left
                · intro w hSw; (try dsimp only at hSw); go_simp; first | done | with_reducible rfl
                try simp only [Act.put, List.setIfInBounds_toArray, List.set_cons_zero, List.set_cons_succ]
                refine wpAnyH_ready (rs := [11]) (by kernel_rfl) (by simp) ?_
                refine AllReadyH.cons (o := { dst := some 34, op := Op.call { callee := Callee.value (Operand.func 8), args := #[], argTypes := #[] }, type := 4, pos := "law.go:37", after := #[{ on := 10, ground := Ground.chain }, { on := 10, ground := Ground.guard }], guard := some (10, true) }) rfl (fun K hK => ?_) AllReadyH.nil
                clear hHeld
                go_simp
                refine (awake_any _).mono ?_
                rintro e w7 ⟨rfl, hBX⟩
                have HBe := hide (HBd.out.trans (hBX.mono HBd.out.size))
                clear hBX HBd
                dsimp only
                refine hK.out _ _ (HS.out _ (HB00.out.trans (HBe.out.mono (Nat.le_of_eq HS0E.out)))) (fun hHeld => ?_)
                clear hK K
                try simp only [Act.put, List.setIfInBounds_toArray, List.set_cons_zero, List.set_cons_succ]
                refine wpAnyH_take (i := 12) (oi := { dst := some 35, op := Op.pick (Operand.tmp 33) (Operand.tmp 34) (Operand.const (Value.bool false)), type := 4, pos := "law.go:37", after := #[{ on := 10, ground := Ground.data }, { on := 11, ground := Ground.data }], guard := none }) (v := ?_) rfl (by kernel_rfl) (by kernel_rfl) (by kernel_rfl) (fun _ _ _ h => h) (Or.inl ⟨by rfl, ?_⟩) hHeld ?_
                rotate_left
                · intro w hSw; (try dsimp only at hSw); go_simp; first | done | with_reducible rfl
                try simp only [Act.put, List.setIfInBounds_toArray, List.set_cons_zero, List.set_cons_succ]
                refine wpAnyH_take (i := 13) (oi := { dst := some 4, op := Op.assign (Operand.tmp 35), type := 4, pos := "law.go:37", after := #[{ on := 12, ground := Ground.data }, { on := 11, ground := Ground.chain }, { on := 0, ground := Ground.phase }, { on := 1, ground := Ground.phase }, { on := 2, ground := Ground.phase }, { on := 3, ground := Ground.phase }, { on := 4, ground := Ground.phase }, { on := 5, ground := Ground.phase }, { on := 6, ground := Ground.phase }, { on := 7, ground := Ground.phase }, { on := 8, ground := Ground.phase }, { on := 9, ground := Ground.phase }, { on := 10, ground := Ground.phase }, { on := 11, ground := Ground.phase }, { on := 12, ground := Ground.phase }], guard := none }) (v := ?_) rfl (by kernel_rfl) (by kernel_rfl) (by kernel_rfl) (fun _ _ _ h => h) (Or.inl ⟨by rfl, ?_⟩) hHeld ?_
                rotate_left
                · intro w hSw; (try dsimp only at hSw); go_simp; first | done | with_reducible rfl
                try simp only [Act.put, List.setIfInBounds_toArray, List.set_cons_zero, List.set_cons_succ]
                refine wpAnyH_done (by kernel_rfl) ?_ _
                go_wp2_with fail
                go_ret
                exact ⟨rfl, HBW.out.trans ((HB00.out.trans (HBe.out.mono (Nat.le_of_eq HS0E.out))).mono HBW.out.size)⟩
        · clear hHeld
          go_simp
          change K _ (W1.alloc (.cells (cellsOf .u8 [0]) 5))
          have HB2 := hide (HB1.out.alloc HB1.out.size (.cells (cellsOf .u8 [0]) 5))
          have HO2 := hide (HO1.out.alloc (.cells (cellsOf .u8 [0]) 5))
          have HZ2 := hide (Blk.new W1 5 .u8 [0])
          have NZ2 : Value.ownBlock (.slice (some ⟨bs, 0, none⟩) 0 0) ≠ some W1.heap.size := fun e => by have := HO1.out; have h2 := own_block_lt this e; omega
          replace hbl : bs ≤ (W1.alloc (.cells (cellsOf .u8 [0]) 5)).heap.size := Nat.le_trans hbl (by simp)
          generalize W1.alloc (.cells (cellsOf .u8 [0]) 5) = W2 at HB2 HO2 HZ2 hbl ⊢
          generalize W1.heap.size = g26 at HZ2 NZ2 ⊢
          refine hK.out _ _ (HS.out _ (HB00.out.trans (HB2.out.mono (Nat.le_of_eq HS0E.out)))) (fun hHeld => ?_)
          clear hK K
          try simp only [Act.put, List.setIfInBounds_toArray, List.set_cons_zero, List.set_cons_succ]
          refine wpAnyH_ready (rs := [2, 6]) (by kernel_rfl) (by simp) ?_
          refine (AllReadyH.cons (o := { dst := some 25, op := Op.call { callee := Callee.builtin Builtin.append, args := #[Operand.tmp 23, Operand.tmp 24], argTypes := #[22, 22] }, type := 22, pos := "law.go:37", after := #[{ on := 0, ground := Ground.data }, { on := 1, ground := Ground.data }], guard := none }) rfl (fun K hK => ?_) (AllReadyH.cons (o := { dst := some 29, op := Op.buildSlice 36 1 #[(0, Operand.tmp 28)], type := 36, pos := "law.go:37", after := #[{ on := 5, ground := Ground.data }], guard := none }) rfl (fun K hK => ?_) AllReadyH.nil))
          · clear hHeld
            rw [if_pos (by rfl)]
            obtain ⟨v1, W3, hrun, hown, hgr, hat⟩ := append_sl (P := Try.prog) (w := W2) (t := 22) (e := 5) Try.underlying22 HI.out HZI0.out HZI1.out HZI2.out bs (.slice (some ⟨bs, 0, none⟩) 0 0) 0 [] HO2.out (.slice ko m kc) k (HKD.out _ HB2.out) HLK.out hbl 22
            refine wp_append_run (.tmp 23) (.tmp 24) 22 22 22 rfl rfl _ _ v1 W3 rfl rfl hrun ?_
            have hrw : ∀ k, Value.ownBlock (.slice (some ⟨bs, 0, none⟩) 0 0) = some k → bs ≤ k := own_block_le HO2.out
            have HB3 := hide (HB2.out.grown hgr HB2.out.size (fun k e => by have h1 := hrw k e; have h2 := HS00.out; omega))
            have HZ3 : Hid (Blk W3 g26 5 .u8 [0]) := hide ((hgr.block g26 HZ2.out.lt (fun e => NZ2 e.symm)).trans HZ2.out)
            have NZ3 : v1.ownBlock ≠ some g26 := fun e => hat.elim (fun h => NZ2 (h ▸ e)) (fun h => by rw [h] at e; injection e with e; have := HZ2.out.lt; omega)
            replace hbl := Nat.le_trans hbl hgr.size
            have HO3 := hide hown
            clear hrun hown hgr hat hrw
            refine hK.out _ _ (HS.out _ (HB00.out.trans (HB3.out.mono (Nat.le_of_eq HS0E.out)))) (fun hHeld => ?_)
            clear hK K
            try simp only [Act.put, List.setIfInBounds_toArray, List.set_cons_zero, List.set_cons_succ]
            refine wpAnyH_ready (rs := [4, 6]) (by kernel_rfl) (by simp) ?_
            refine (AllReadyH.cons (o := { dst := some 27, op := Op.call { callee := Callee.builtin Builtin.append, args := #[Operand.tmp 25, Operand.tmp 26], argTypes := #[22, 22] }, type := 22, pos := "law.go:37", after := #[{ on := 2, ground := Ground.data }, { on := 3, ground := Ground.data }, { on := 2, ground := Ground.chain }], guard := none }) rfl (fun K hK => ?_) (AllReadyH.cons (o := { dst := some 29, op := Op.buildSlice 36 1 #[(0, Operand.tmp 28)], type := 36, pos := "law.go:37", after := #[{ on := 5, ground := Ground.data }], guard := none }) rfl (fun K hK => ?_) AllReadyH.nil))
            · clear hHeld
              rw [if_pos (by rfl)]
              obtain ⟨v2, W4, hrun, hown, hgr, hat⟩ := append_sl (P := Try.prog) (w := W3) (t := 22) (e := 5) Try.underlying22 HI.out HZI0.out HZI1.out HZI2.out bs v1 (0 + k.length) ([] ++ k) HO3.out (.slice (some ⟨g26, 0, none⟩) 1 1) [0] (slAt_blk HZ3.out rfl) HLZ.out hbl 22
              refine wp_append_run (.tmp 25) (.tmp 26) 22 22 22 rfl rfl _ _ v2 W4 rfl rfl hrun ?_
              have hrw : ∀ k, Value.ownBlock v1 = some k → bs ≤ k := own_block_le HO3.out
              have HB4 := hide (HB3.out.grown hgr HB3.out.size (fun k e => by have h1 := hrw k e; have h2 := HS00.out; omega))
              replace hbl := Nat.le_trans hbl hgr.size
              have HO4 := hide hown
              clear hrun hown hgr hat hrw
              refine hK.out _ _ (HS.out _ (HB00.out.trans (HB4.out.mono (Nat.le_of_eq HS0E.out)))) (fun hHeld => ?_)
              clear hK K
              try simp only [Act.put, List.setIfInBounds_toArray, List.set_cons_zero, List.set_cons_succ]
              refine wpAnyH_ready (rs := [6]) (by kernel_rfl) (by simp) ?_
              refine (AllReadyH.cons (o := { dst := some 29, op := Op.buildSlice 36 1 #[(0, Operand.tmp 28)], type := 36, pos := "law.go:37", after := #[{ on := 5, ground := Ground.data }], guard := none }) rfl (fun K hK => ?_) AllReadyH.nil)
              · clear hHeld
                go_simp
                have HB5 := hide (HB4.out.alloc HB4.out.size (.cells #[.slice ao n cap] 22))
                have HO5 := hide (HO4.out.alloc (.cells #[.slice ao n cap] 22))
                have HP5 := hide (heap_alloc_new W4 (.cells #[.slice ao n cap] 22))
                have NP5 : Value.ownBlock v2 ≠ some W4.heap.size := fun e => by have := HO4.out; have h2 := own_block_lt this e; omega
                replace hbl : bs ≤ (W4.alloc (.cells #[.slice ao n cap] 22)).heap.size := Nat.le_trans hbl (by simp)
                generalize W4.alloc (.cells #[.slice ao n cap] 22) = W5 at HB5 HO5 HP5 hbl ⊢
                generalize W4.heap.size = g29 at HP5 NP5 ⊢
                refine hK.out _ _ (HS.out _ (HB00.out.trans (HB5.out.mono (Nat.le_of_eq HS0E.out)))) (fun hHeld => ?_)
                clear hK K
                try simp only [Act.put, List.setIfInBounds_toArray, List.set_cons_zero, List.set_cons_succ]
                have hsl : SlAt W5 v2 (k ++ [0]) := by have := slAt_ownV HO5.out; rwa [List.nil_append] at this
                have HPA := hide (parts_one (b := g29) ((cell_of_row _ _ 0 _ _ _ HP5.out).trans rfl) (Array.getElem?_eq_some_iff.1 HP5.out).1 (HXD.out _ HB5.out))
                have HSL := hide hsl
                clear hsl
                clear HO5 HP5 hbl hbs
                refine wpAnyH_ready (rs := [7]) (by kernel_rfl) (by simp) ?_
                refine AllReadyH.cons (o := { dst := some 30, op := Op.call { callee := Callee.value (Operand.func 9), args := #[Operand.tmp 27, Operand.tmp 29], argTypes := #[22, 36] }, type := 25, pos := "law.go:37", after := #[{ on := 4, ground := Ground.data }, { on := 6, ground := Ground.data }, { on := 4, ground := Ground.chain }], guard := none }) rfl (fun K hK => ?_) AllReadyH.nil
                clear hHeld
                go_simp
                refine (macOf_any (k ++ [0]) _ _ g29 0 1 W5 HSL.out (by have := HM.out; simp; omega) HPA.out (by simp) (by simp) (by simp; have := HN.out; omega)).mono ?_
                rw [show [xs].flatten = xs from by simp, HXX.out]
                rintro e w6 ⟨rfl, hBX⟩
                have HBd := hide (HB5.out.trans (hBX.mono HB5.out.size))
                clear hBX HPA
                dsimp only
                refine hK.out _ _ (HS.out _ (HB00.out.trans (HBd.out.mono (Nat.le_of_eq HS0E.out)))) (fun hHeld => ?_)
                clear hK K
                try simp only [Act.put, List.setIfInBounds_toArray, List.set_cons_zero, List.set_cons_succ]
                refine wpAnyH_take (i := 9) (oi := { dst := some 32, op := Op.binOp BinOp.eql 25 (Operand.tmp 30) (Operand.tmp 31) 25, type := 4, pos := "law.go:37", after := #[{ on := 7, ground := Ground.data }, { on := 8, ground := Ground.data }], guard := none }) (v := ?_) rfl (by kernel_rfl) (by kernel_rfl) (by kernel_rfl) (fun _ _ _ h => h) (Or.inl ⟨by rfl, ?_⟩) hHeld ?_
                rotate_left
                · intro w hSw; (try dsimp only at hSw); go_simp; first | done | with_reducible rfl
                try simp only [Act.put, List.setIfInBounds_toArray, List.set_cons_zero, List.set_cons_succ]
                refine wpAnyH_take (i := 10) (oi := { dst := some 33, op := Op.move (Operand.tmp 32), type := 4, pos := "law.go:37", after := #[{ on := 9, ground := Ground.data }, { on := 7, ground := Ground.chain }], guard := none }) (v := ?_) rfl (by kernel_rfl) (by kernel_rfl) (by kernel_rfl) (fun _ _ _ h => h) (Or.inl ⟨by rfl, ?_⟩) hHeld ?_
                rotate_left
                · intro w hSw; (try dsimp only at hSw); go_simp; first | done | with_reducible rfl
                try simp only [Act.put, List.setIfInBounds_toArray, List.set_cons_zero, List.set_cons_succ]
                refine wpAnyH_ready (rs := [11]) (by kernel_rfl) (by simp) ?_
                refine AllReadyH.cons (o := { dst := some 34, op := Op.call { callee := Callee.value (Operand.func 8), args := #[], argTypes := #[] }, type := 4, pos := "law.go:37", after := #[{ on := 10, ground := Ground.chain }, { on := 10, ground := Ground.guard }], guard := some (10, true) }) rfl (fun K hK => ?_) AllReadyH.nil
                clear hHeld
                go_simp
                refine (awake_any _).mono ?_
                rintro e w7 ⟨rfl, hBX⟩
                have HBe := hide (HBd.out.trans (hBX.mono HBd.out.size))
                clear hBX HBd
                dsimp only
                refine hK.out _ _ (HS.out _ (HB00.out.trans (HBe.out.mono (Nat.le_of_eq HS0E.out)))) (fun hHeld => ?_)
                clear hK K
                try simp only [Act.put, List.setIfInBounds_toArray, List.set_cons_zero, List.set_cons_succ]
                refine wpAnyH_take (i := 12) (oi := { dst := some 35, op := Op.pick (Operand.tmp 33) (Operand.tmp 34) (Operand.const (Value.bool false)), type := 4, pos := "law.go:37", after := #[{ on := 10, ground := Ground.data }, { on := 11, ground := Ground.data }], guard := none }) (v := ?_) rfl (by kernel_rfl) (by kernel_rfl) (by kernel_rfl) (fun _ _ _ h => h) (Or.inl ⟨by rfl, ?_⟩) hHeld ?_
                rotate_left
                · intro w hSw; (try dsimp only at hSw); go_simp; first | done | with_reducible rfl
                try simp only [Act.put, List.setIfInBounds_toArray, List.set_cons_zero, List.set_cons_succ]
                refine wpAnyH_take (i := 13) (oi := { dst := some 4, op := Op.assign (Operand.tmp 35), type := 4, pos := "law.go:37", after := #[{ on := 12, ground := Ground.data }, { on := 11, ground := Ground.chain }, { on := 0, ground := Ground.phase }, { on := 1, ground := Ground.phase }, { on := 2, ground := Ground.phase }, { on := 3, ground := Ground.phase }, { on := 4, ground := Ground.phase }, { on := 5, ground := Ground.phase }, { on := 6, ground := Ground.phase }, { on := 7, ground := Ground.phase }, { on := 8, ground := Ground.phase }, { on := 9, ground := Ground.phase }, { on := 10, ground := Ground.phase }, { on := 11, ground := Ground.phase }, { on := 12, ground := Ground.phase }], guard := none }) (v := ?_) rfl (by kernel_rfl) (by kernel_rfl) (by kernel_rfl) (fun _ _ _ h => h) (Or.inl ⟨by rfl, ?_⟩) hHeld ?_
                rotate_left
                · intro w hSw; (try dsimp only at hSw); go_simp; first | done | with_reducible rfl
                try simp only [Act.put, List.setIfInBounds_toArray, List.set_cons_zero, List.set_cons_succ]
                refine wpAnyH_done (by kernel_rfl) ?_ _
                go_wp2_with fail
                go_ret
                exact ⟨rfl, HBW.out.trans ((HB00.out.trans (HBe.out.mono (Nat.le_of_eq HS0E.out))).mono HBW.out.size)⟩
            · clear hHeld
              go_simp
              have HB4 := hide (HB3.out.alloc HB3.out.size (.cells #[.slice ao n cap] 22))
              have HO4 := hide (HO3.out.alloc (.cells #[.slice ao n cap] 22))
              have HZ4 := hide (HZ3.out.alloc (.cells #[.slice ao n cap] 22))
              have HP4 := hide (heap_alloc_new W3 (.cells #[.slice ao n cap] 22))
              have NP4 : Value.ownBlock v1 ≠ some W3.heap.size := fun e => by have := HO3.out; have h2 := own_block_lt this e; omega
              replace hbl : bs ≤ (W3.alloc (.cells #[.slice ao n cap] 22)).heap.size := Nat.le_trans hbl (by simp)
              have NZ4 := NZ3
              generalize W3.alloc (.cells #[.slice ao n cap] 22) = W4 at HB4 HO4 HZ4 HP4 hbl ⊢
              generalize W3.heap.size = g29 at HP4 NP4 ⊢
              refine hK.out _ _ (HS.out _ (HB00.out.trans (HB4.out.mono (Nat.le_of_eq HS0E.out)))) (fun hHeld => ?_)
              clear hK K
              try simp only [Act.put, List.setIfInBounds_toArray, List.set_cons_zero, List.set_cons_succ]
              refine wpAnyH_ready (rs := [4]) (by kernel_rfl) (by simp) ?_
              refine (AllReadyH.cons (o := { dst := some 27, op := Op.call { callee := Callee.builtin Builtin.append, args := #[Operand.tmp 25, Operand.tmp 26], argTypes := #[22, 22] }, type := 22, pos := "law.go:37", after := #[{ on := 2, ground := Ground.data }, { on := 3, ground := Ground.data }, { on := 2, ground := Ground.chain }], guard := none }) rfl (fun K hK => ?_) AllReadyH.nil)
              · clear hHeld
                rw [if_pos (by rfl)]
                obtain ⟨v2, W5, hrun, hown, hgr, hat⟩ := append_sl (P := Try.prog) (w := W4) (t := 22) (e := 5) Try.underlying22 HI.out HZI0.out HZI1.out HZI2.out bs v1 (0 + k.length) ([] ++ k) HO4.out (.slice (some ⟨g26, 0, none⟩) 1 1) [0] (slAt_blk HZ4.out rfl) HLZ.out hbl 22
                refine wp_append_run (.tmp 25) (.tmp 26) 22 22 22 rfl rfl _ _ v2 W5 rfl rfl hrun ?_
                have hrw : ∀ k, Value.ownBlock v1 = some k → bs ≤ k := own_block_le HO4.out
                have HB5 := hide (HB4.out.grown hgr HB4.out.size (fun k e => by have h1 := hrw k e; have h2 := HS00.out; omega))
                have HP5 : Hid (W5.heap[g29]? = some (.cells #[.slice ao n cap] 22)) := hide ((hgr.block g29 (Array.getElem?_eq_some_iff.1 HP4.out).1 (fun e => NP4 e.symm)).trans HP4.out)
                have NP5 : v2.ownBlock ≠ some g29 := fun e => hat.elim (fun h => NP4 (h ▸ e)) (fun h => by rw [h] at e; injection e with e; have := (Array.getElem?_eq_some_iff.1 HP4.out).1; omega)
                replace hbl := Nat.le_trans hbl hgr.size
                have HO5 := hide hown
                clear hrun hown hgr hat hrw
                refine hK.out _ _ (HS.out _ (HB00.out.trans (HB5.out.mono (Nat.le_of_eq HS0E.out)))) (fun hHeld => ?_)
                clear hK K
                try simp only [Act.put, List.setIfInBounds_toArray, List.set_cons_zero, List.set_cons_succ]
                have hsl : SlAt W5 v2 (k ++ [0]) := by have := slAt_ownV HO5.out; rwa [List.nil_append] at this
                have HPA := hide (parts_one (b := g29) ((cell_of_row _ _ 0 _ _ _ HP5.out).trans rfl) (Array.getElem?_eq_some_iff.1 HP5.out).1 (HXD.out _ HB5.out))
                have HSL := hide hsl
                clear hsl
                clear HO5 HP5 hbl hbs
                refine wpAnyH_ready (rs := [7]) (by kernel_rfl) (by simp) ?_
                refine AllReadyH.cons (o := { dst := some 30, op := Op.call { callee := Callee.value (Operand.func 9), args := #[Operand.tmp 27, Operand.tmp 29], argTypes := #[22, 36] }, type := 25, pos := "law.go:37", after := #[{ on := 4, ground := Ground.data }, { on := 6, ground := Ground.data }, { on := 4, ground := Ground.chain }], guard := none }) rfl (fun K hK => ?_) AllReadyH.nil
                clear hHeld
                go_simp
                refine (macOf_any (k ++ [0]) _ _ g29 0 1 W5 HSL.out (by have := HM.out; simp; omega) HPA.out (by simp) (by simp) (by simp; have := HN.out; omega)).mono ?_
                rw [show [xs].flatten = xs from by simp, HXX.out]
                rintro e w6 ⟨rfl, hBX⟩
                have HBd := hide (HB5.out.trans (hBX.mono HB5.out.size))
                clear hBX HPA
                dsimp only
                refine hK.out _ _ (HS.out _ (HB00.out.trans (HBd.out.mono (Nat.le_of_eq HS0E.out)))) (fun hHeld => ?_)
                clear hK K
                try simp only [Act.put, List.setIfInBounds_toArray, List.set_cons_zero, List.set_cons_succ]
                refine wpAnyH_take (i := 9) (oi := { dst := some 32, op := Op.binOp BinOp.eql 25 (Operand.tmp 30) (Operand.tmp 31) 25, type := 4, pos := "law.go:37", after := #[{ on := 7, ground := Ground.data }, { on := 8, ground := Ground.data }], guard := none }) (v := ?_) rfl (by kernel_rfl) (by kernel_rfl) (by kernel_rfl) (fun _ _ _ h => h) (Or.inl ⟨by rfl, ?_⟩) hHeld ?_
                rotate_left
                · intro w hSw; (try dsimp only at hSw); go_simp; first | done | with_reducible rfl
                try simp only [Act.put, List.setIfInBounds_toArray, List.set_cons_zero, List.set_cons_succ]
                refine wpAnyH_take (i := 10) (oi := { dst := some 33, op := Op.move (Operand.tmp 32), type := 4, pos := "law.go:37", after := #[{ on := 9, ground := Ground.data }, { on := 7, ground := Ground.chain }], guard := none }) (v := ?_) rfl (by kernel_rfl) (by kernel_rfl) (by kernel_rfl) (fun _ _ _ h => h) (Or.inl ⟨by rfl, ?_⟩) hHeld ?_
                rotate_left
                · intro w hSw; (try dsimp only at hSw); go_simp; first | done | with_reducible rfl
                try simp only [Act.put, List.setIfInBounds_toArray, List.set_cons_zero, List.set_cons_succ]
                refine wpAnyH_ready (rs := [11]) (by kernel_rfl) (by simp) ?_
                refine AllReadyH.cons (o := { dst := some 34, op := Op.call { callee := Callee.value (Operand.func 8), args := #[], argTypes := #[] }, type := 4, pos := "law.go:37", after := #[{ on := 10, ground := Ground.chain }, { on := 10, ground := Ground.guard }], guard := some (10, true) }) rfl (fun K hK => ?_) AllReadyH.nil
                clear hHeld
                go_simp
                refine (awake_any _).mono ?_
                rintro e w7 ⟨rfl, hBX⟩
                have HBe := hide (HBd.out.trans (hBX.mono HBd.out.size))
                clear hBX HBd
                dsimp only
                refine hK.out _ _ (HS.out _ (HB00.out.trans (HBe.out.mono (Nat.le_of_eq HS0E.out)))) (fun hHeld => ?_)
                clear hK K
                try simp only [Act.put, List.setIfInBounds_toArray, List.set_cons_zero, List.set_cons_succ]
                refine wpAnyH_take (i := 12) (oi := { dst := some 35, op := Op.pick (Operand.tmp 33) (Operand.tmp 34) (Operand.const (Value.bool false)), type := 4, pos := "law.go:37", after := #[{ on := 10, ground := Ground.data }, { on := 11, ground := Ground.data }], guard := none }) (v := ?_) rfl (by kernel_rfl) (by kernel_rfl) (by kernel_rfl) (fun _ _ _ h => h) (Or.inl ⟨by rfl, ?_⟩) hHeld ?_
                rotate_left
                · intro w hSw; (try dsimp only at hSw); go_simp; first | done | with_reducible rfl
                try simp only [Act.put, List.setIfInBounds_toArray, List.set_cons_zero, List.set_cons_succ]
                refine wpAnyH_take (i := 13) (oi := { dst := some 4, op := Op.assign (Operand.tmp 35), type := 4, pos := "law.go:37", after := #[{ on := 12, ground := Ground.data }, { on := 11, ground := Ground.chain }, { on := 0, ground := Ground.phase }, { on := 1, ground := Ground.phase }, { on := 2, ground := Ground.phase }, { on := 3, ground := Ground.phase }, { on := 4, ground := Ground.phase }, { on := 5, ground := Ground.phase }, { on := 6, ground := Ground.phase }, { on := 7, ground := Ground.phase }, { on := 8, ground := Ground.phase }, { on := 9, ground := Ground.phase }, { on := 10, ground := Ground.phase }, { on := 11, ground := Ground.phase }, { on := 12, ground := Ground.phase }], guard := none }) (v := ?_) rfl (by kernel_rfl) (by kernel_rfl) (by kernel_rfl) (fun _ _ _ h => h) (Or.inl ⟨by rfl, ?_⟩) hHeld ?_
                rotate_left
                · intro w hSw; (try dsimp only at hSw); go_simp; first | done | with_reducible rfl
                try simp only [Act.put, List.setIfInBounds_toArray, List.set_cons_zero, List.set_cons_succ]
                refine wpAnyH_done (by kernel_rfl) ?_ _
                go_wp2_with fail
                go_ret
                exact ⟨rfl, HBW.out.trans ((HB00.out.trans (HBe.out.mono (Nat.le_of_eq HS0E.out))).mono HBW.out.size)⟩
          · clear hHeld
            go_simp
            have HB3 := hide (HB2.out.alloc HB2.out.size (.cells #[.slice ao n cap] 22))
            have HO3 := hide (HO2.out.alloc (.cells #[.slice ao n cap] 22))
            have HZ3 := hide (HZ2.out.alloc (.cells #[.slice ao n cap] 22))
            have HP3 := hide (heap_alloc_new W2 (.cells #[.slice ao n cap] 22))
            have NP3 : Value.ownBlock (.slice (some ⟨bs, 0, none⟩) 0 0) ≠ some W2.heap.size := fun e => by have := HO2.out; have h2 := own_block_lt this e; omega
            replace hbl : bs ≤ (W2.alloc (.cells #[.slice ao n cap] 22)).heap.size := Nat.le_trans hbl (by simp)
            have NZ3 := NZ2
            generalize W2.alloc (.cells #[.slice ao n cap] 22) = W3 at HB3 HO3 HZ3 HP3 hbl ⊢
            generalize W2.heap.size = g29 at HP3 NP3 ⊢
            refine hK.out _ _ (HS.out _ (HB00.out.trans (HB3.out.mono (Nat.le_of_eq HS0E.out)))) (fun hHeld => ?_)
            clear hK K
            try simp only [Act.put, List.setIfInBounds_toArray, List.set_cons_zero, List.set_cons_succ]
            refine wpAnyH_ready (rs := [2]) (by kernel_rfl) (by simp) ?_
            refine (AllReadyH.cons (o := { dst := some 25, op := Op.call { callee := Callee.builtin Builtin.append, args := #[Operand.tmp 23, Operand.tmp 24], argTypes := #[22, 22] }, type := 22, pos := "law.go:37", after := #[{ on := 0, ground := Ground.data }, { on := 1, ground := Ground.data }], guard := none }) rfl (fun K hK => ?_) AllReadyH.nil)
            · clear hHeld
              rw [if_pos (by rfl)]
              obtain ⟨v1, W4, hrun, hown, hgr, hat⟩ := append_sl (P := Try.prog) (w := W3) (t := 22) (e := 5) Try.underlying22 HI.out HZI0.out HZI1.out HZI2.out bs (.slice (some ⟨bs, 0, none⟩) 0 0) 0 [] HO3.out (.slice ko m kc) k (HKD.out _ HB3.out) HLK.out hbl 22
              refine wp_append_run (.tmp 23) (.tmp 24) 22 22 22 rfl rfl _ _ v1 W4 rfl rfl hrun ?_
              have hrw : ∀ k, Value.ownBlock (.slice (some ⟨bs, 0, none⟩) 0 0) = some k → bs ≤ k := own_block_le HO3.out
              have HB4 := hide (HB3.out.grown hgr HB3.out.size (fun k e => by have h1 := hrw k e; have h2 := HS00.out; omega))
              have HZ4 : Hid (Blk W4 g26 5 .u8 [0]) := hide ((hgr.block g26 HZ3.out.lt (fun e => NZ3 e.symm)).trans HZ3.out)
              have NZ4 : v1.ownBlock ≠ some g26 := fun e => hat.elim (fun h => NZ3 (h ▸ e)) (fun h => by rw [h] at e; injection e with e; have := HZ3.out.lt; omega)
              have HP4 : Hid (W4.heap[g29]? = some (.cells #[.slice ao n cap] 22)) := hide ((hgr.block g29 (Array.getElem?_eq_some_iff.1 HP3.out).1 (fun e => NP3 e.symm)).trans HP3.out)
              have NP4 : v1.ownBlock ≠ some g29 := fun e => hat.elim (fun h => NP3 (h ▸ e)) (fun h => by rw [h] at e; injection e with e; have := (Array.getElem?_eq_some_iff.1 HP3.out).1; omega)
              replace hbl := Nat.le_trans hbl hgr.size
              have HO4 := hide hown
              clear hrun hown hgr hat hrw
              refine hK.out _ _ (HS.out _ (HB00.out.trans (HB4.out.mono (Nat.le_of_eq HS0E.out)))) (fun hHeld => ?_)
              clear hK K
              try simp only [Act.put, List.setIfInBounds_toArray, List.set_cons_zero, List.set_cons_succ]
              refine wpAnyH_ready (rs := [4]) (by kernel_rfl) (by simp) ?_
              refine (AllReadyH.cons (o := { dst := some 27, op := Op.call { callee := Callee.builtin Builtin.append, args := #[Operand.tmp 25, Operand.tmp 26], argTypes := #[22, 22] }, type := 22, pos := "law.go:37", after := #[{ on := 2, ground := Ground.data }, { on := 3, ground := Ground.data }, { on := 2, ground := Ground.chain }], guard := none }) rfl (fun K hK => ?_) AllReadyH.nil)
              · clear hHeld
                rw [if_pos (by rfl)]
                obtain ⟨v2, W5, hrun, hown, hgr, hat⟩ := append_sl (P := Try.prog) (w := W4) (t := 22) (e := 5) Try.underlying22 HI.out HZI0.out HZI1.out HZI2.out bs v1 (0 + k.length) ([] ++ k) HO4.out (.slice (some ⟨g26, 0, none⟩) 1 1) [0] (slAt_blk HZ4.out rfl) HLZ.out hbl 22
                refine wp_append_run (.tmp 25) (.tmp 26) 22 22 22 rfl rfl _ _ v2 W5 rfl rfl hrun ?_
                have hrw : ∀ k, Value.ownBlock v1 = some k → bs ≤ k := own_block_le HO4.out
                have HB5 := hide (HB4.out.grown hgr HB4.out.size (fun k e => by have h1 := hrw k e; have h2 := HS00.out; omega))
                have HP5 : Hid (W5.heap[g29]? = some (.cells #[.slice ao n cap] 22)) := hide ((hgr.block g29 (Array.getElem?_eq_some_iff.1 HP4.out).1 (fun e => NP4 e.symm)).trans HP4.out)
                have NP5 : v2.ownBlock ≠ some g29 := fun e => hat.elim (fun h => NP4 (h ▸ e)) (fun h => by rw [h] at e; injection e with e; have := (Array.getElem?_eq_some_iff.1 HP4.out).1; omega)
                replace hbl := Nat.le_trans hbl hgr.size
                have HO5 := hide hown
                clear hrun hown hgr hat hrw
                refine hK.out _ _ (HS.out _ (HB00.out.trans (HB5.out.mono (Nat.le_of_eq HS0E.out)))) (fun hHeld => ?_)
                clear hK K
                try simp only [Act.put, List.setIfInBounds_toArray, List.set_cons_zero, List.set_cons_succ]
                have hsl : SlAt W5 v2 (k ++ [0]) := by have := slAt_ownV HO5.out; rwa [List.nil_append] at this
                have HPA := hide (parts_one (b := g29) ((cell_of_row _ _ 0 _ _ _ HP5.out).trans rfl) (Array.getElem?_eq_some_iff.1 HP5.out).1 (HXD.out _ HB5.out))
                have HSL := hide hsl
                clear hsl
                clear HO5 HP5 hbl hbs
                refine wpAnyH_ready (rs := [7]) (by kernel_rfl) (by simp) ?_
                refine AllReadyH.cons (o := { dst := some 30, op := Op.call { callee := Callee.value (Operand.func 9), args := #[Operand.tmp 27, Operand.tmp 29], argTypes := #[22, 36] }, type := 25, pos := "law.go:37", after := #[{ on := 4, ground := Ground.data }, { on := 6, ground := Ground.data }, { on := 4, ground := Ground.chain }], guard := none }) rfl (fun K hK => ?_) AllReadyH.nil
                clear hHeld
                go_simp
                refine (macOf_any (k ++ [0]) _ _ g29 0 1 W5 HSL.out (by have := HM.out; simp; omega) HPA.out (by simp) (by simp) (by simp; have := HN.out; omega)).mono ?_
                rw [show [xs].flatten = xs from by simp, HXX.out]
                rintro e w6 ⟨rfl, hBX⟩
                have HBd := hide (HB5.out.trans (hBX.mono HB5.out.size))
                clear hBX HPA
                dsimp only
                refine hK.out _ _ (HS.out _ (HB00.out.trans (HBd.out.mono (Nat.le_of_eq HS0E.out)))) (fun hHeld => ?_)
                clear hK K
                try simp only [Act.put, List.setIfInBounds_toArray, List.set_cons_zero, List.set_cons_succ]
                refine wpAnyH_take (i := 9) (oi := { dst := some 32, op := Op.binOp BinOp.eql 25 (Operand.tmp 30) (Operand.tmp 31) 25, type := 4, pos := "law.go:37", after := #[{ on := 7, ground := Ground.data }, { on := 8, ground := Ground.data }], guard := none }) (v := ?_) rfl (by kernel_rfl) (by kernel_rfl) (by kernel_rfl) (fun _ _ _ h => h) (Or.inl ⟨by rfl, ?_⟩) hHeld ?_
                rotate_left
                · intro w hSw; (try dsimp only at hSw); go_simp; first | done | with_reducible rfl
                try simp only [Act.put, List.setIfInBounds_toArray, List.set_cons_zero, List.set_cons_succ]
                refine wpAnyH_take (i := 10) (oi := { dst := some 33, op := Op.move (Operand.tmp 32), type := 4, pos := "law.go:37", after := #[{ on := 9, ground := Ground.data }, { on := 7, ground := Ground.chain }], guard := none }) (v := ?_) rfl (by kernel_rfl) (by kernel_rfl) (by kernel_rfl) (fun _ _ _ h => h) (Or.inl ⟨by rfl, ?_⟩) hHeld ?_
                rotate_left
                · intro w hSw; (try dsimp only at hSw); go_simp; first | done | with_reducible rfl
                try simp only [Act.put, List.setIfInBounds_toArray, List.set_cons_zero, List.set_cons_succ]
                refine wpAnyH_ready (rs := [11]) (by kernel_rfl) (by simp) ?_
                refine AllReadyH.cons (o := { dst := some 34, op := Op.call { callee := Callee.value (Operand.func 8), args := #[], argTypes := #[] }, type := 4, pos := "law.go:37", after := #[{ on := 10, ground := Ground.chain }, { on := 10, ground := Ground.guard }], guard := some (10, true) }) rfl (fun K hK => ?_) AllReadyH.nil
                clear hHeld
                go_simp
                refine (awake_any _).mono ?_
                rintro e w7 ⟨rfl, hBX⟩
                have HBe := hide (HBd.out.trans (hBX.mono HBd.out.size))
                clear hBX HBd
                dsimp only
                refine hK.out _ _ (HS.out _ (HB00.out.trans (HBe.out.mono (Nat.le_of_eq HS0E.out)))) (fun hHeld => ?_)
                clear hK K
                try simp only [Act.put, List.setIfInBounds_toArray, List.set_cons_zero, List.set_cons_succ]
                refine wpAnyH_take (i := 12) (oi := { dst := some 35, op := Op.pick (Operand.tmp 33) (Operand.tmp 34) (Operand.const (Value.bool false)), type := 4, pos := "law.go:37", after := #[{ on := 10, ground := Ground.data }, { on := 11, ground := Ground.data }], guard := none }) (v := ?_) rfl (by kernel_rfl) (by kernel_rfl) (by kernel_rfl) (fun _ _ _ h => h) (Or.inl ⟨by rfl, ?_⟩) hHeld ?_
                rotate_left
                · intro w hSw; (try dsimp only at hSw); go_simp; first | done | with_reducible rfl
                try simp only [Act.put, List.setIfInBounds_toArray, List.set_cons_zero, List.set_cons_succ]
                refine wpAnyH_take (i := 13) (oi := { dst := some 4, op := Op.assign (Operand.tmp 35), type := 4, pos := "law.go:37", after := #[{ on := 12, ground := Ground.data }, { on := 11, ground := Ground.chain }, { on := 0, ground := Ground.phase }, { on := 1, ground := Ground.phase }, { on := 2, ground := Ground.phase }, { on := 3, ground := Ground.phase }, { on := 4, ground := Ground.phase }, { on := 5, ground := Ground.phase }, { on := 6, ground := Ground.phase }, { on := 7, ground := Ground.phase }, { on := 8, ground := Ground.phase }, { on := 9, ground := Ground.phase }, { on := 10, ground := Ground.phase }, { on := 11, ground := Ground.phase }, { on := 12, ground := Ground.phase }], guard := none }) (v := ?_) rfl (by kernel_rfl) (by kernel_rfl) (by kernel_rfl) (fun _ _ _ h => h) (Or.inl ⟨by rfl, ?_⟩) hHeld ?_
                rotate_left
                · intro w hSw; (try dsimp only at hSw); go_simp; first | done | with_reducible rfl
                try simp only [Act.put, List.setIfInBounds_toArray, List.set_cons_zero, List.set_cons_succ]
                refine wpAnyH_done (by kernel_rfl) ?_ _
                go_wp2_with fail
                go_ret
                exact ⟨rfl, HBW.out.trans ((HB00.out.trans (HBe.out.mono (Nat.le_of_eq HS0E.out))).mono HBW.out.size)⟩
        · clear hHeld
          go_simp
          have HB2 := hide (HB1.out.alloc HB1.out.size (.cells #[.slice ao n cap] 22))
          have HO2 := hide (HO1.out.alloc (.cells #[.slice ao n cap] 22))
          have HP2 := hide (heap_alloc_new W1 (.cells #[.slice ao n cap] 22))
          have NP2 : Value.ownBlock (.slice (some ⟨bs, 0, none⟩) 0 0) ≠ some W1.heap.size := fun e => by have := HO1.out; have h2 := own_block_lt this e; omega
          replace hbl : bs ≤ (W1.alloc (.cells #[.slice ao n cap] 22)).heap.size := Nat.le_trans hbl (by simp)
          generalize W1.alloc (.cells #[.slice ao n cap] 22) = W2 at HB2 HO2 HP2 hbl ⊢
          generalize W1.heap.size = g29 at HP2 NP2 ⊢
          refine hK.out _ _ (HS.out _ (HB00.out.trans (HB2.out.mono (Nat.le_of_eq HS0E.out)))) (fun hHeld => ?_)
          clear hK K
          try simp only [Act.put, List.setIfInBounds_toArray, List.set_cons_zero, List.set_cons_succ]
          refine wpAnyH_ready (rs := [2, 3]) (by kernel_rfl) (by simp) ?_
          refine (AllReadyH.cons (o := { dst := some 25, op := Op.call { callee := Callee.builtin Builtin.append, args := #[Operand.tmp 23, Operand.tmp 24], argTypes := #[22, 22] }, type := 22, pos := "law.go:37", after := #[{ on := 0, ground := Ground.data }, { on := 1, ground := Ground.data }], guard := none }) rfl (fun K hK => ?_) (AllReadyH.cons (o := { dst := some 26, op := Op.buildSlice 22 1 #[(0, Operand.const (Value.int IntKind.u8 0))], type := 22, pos := "law.go:37", after := #[], guard := none }) rfl (fun K hK => ?_) AllReadyH.nil))
          · clear hHeld
            rw [if_pos (by rfl)]
            obtain ⟨v1, W3, hrun, hown, hgr, hat⟩ := append_sl (P := Try.prog) (w := W2) (t := 22) (e := 5) Try.underlying22 HI.out HZI0.out HZI1.out HZI2.out bs (.slice (some ⟨bs, 0, none⟩) 0 0) 0 [] HO2.out (.slice ko m kc) k (HKD.out _ HB2.out) HLK.out hbl 22
            refine wp_append_run (.tmp 23) (.tmp 24) 22 22 22 rfl rfl _ _ v1 W3 rfl rfl hrun ?_
            have hrw : ∀ k, Value.ownBlock (.slice (some ⟨bs, 0, none⟩) 0 0) = some k → bs ≤ k := own_block_le HO2.out
            have HB3 := hide (HB2.out.grown hgr HB2.out.size (fun k e => by have h1 := hrw k e; have h2 := HS00.out; omega))
            have HP3 : Hid (W3.heap[g29]? = some (.cells #[.slice ao n cap] 22)) := hide ((hgr.block g29 (Array.getElem?_eq_some_iff.1 HP2.out).1 (fun e => NP2 e.symm)).trans HP2.out)
            have NP3 : v1.ownBlock ≠ some g29 := fun e => hat.elim (fun h => NP2 (h ▸ e)) (fun h => by rw [h] at e; injection e with e; have := (Array.getElem?_eq_some_iff.1 HP2.out).1; omega)
            replace hbl := Nat.le_trans hbl hgr.size
            have HO3 := hide hown
            clear hrun hown hgr hat hrw
            refine hK.out _ _ (HS.out _ (HB00.out.trans (HB3.out.mono (Nat.le_of_eq HS0E.out)))) (fun hHeld => ?_)
            clear hK K
            try simp only [Act.put, List.setIfInBounds_toArray, List.set_cons_zero, List.set_cons_succ]
            refine wpAnyH_ready (rs := [3]) (by kernel_rfl) (by simp) ?_
            refine (AllReadyH.cons (o := { dst := some 26, op := Op.buildSlice 22 1 #[(0, Operand.const (Value.int IntKind.u8 0))], type := 22, pos := "law.go:37", after := #[], guard := none }) rfl (fun K hK => ?_) AllReadyH.nil)
            · clear hHeld
              go_simp
              change K _ (W3.alloc (.cells (cellsOf .u8 [0]) 5))
              have HB4 := hide (HB3.out.alloc HB3.out.size (.cells (cellsOf .u8 [0]) 5))
              have HO4 := hide (HO3.out.alloc (.cells (cellsOf .u8 [0]) 5))
              have HP4 := hide ((Below.heap_alloc W3 (.cells (cellsOf .u8 [0]) 5) g29 (Array.getElem?_eq_some_iff.1 HP3.out).1).trans HP3.out)
              have HZ4 := hide (Blk.new W3 5 .u8 [0])
              have NZ4 : Value.ownBlock v1 ≠ some W3.heap.size := fun e => by have := HO3.out; have h2 := own_block_lt this e; omega
              replace hbl : bs ≤ (W3.alloc (.cells (cellsOf .u8 [0]) 5)).heap.size := Nat.le_trans hbl (by simp)
              have NP4 := NP3
              generalize W3.alloc (.cells (cellsOf .u8 [0]) 5) = W4 at HB4 HO4 HZ4 HP4 hbl ⊢
              generalize W3.heap.size = g26 at HZ4 NZ4 ⊢
              refine hK.out _ _ (HS.out _ (HB00.out.trans (HB4.out.mono (Nat.le_of_eq HS0E.out)))) (fun hHeld => ?_)
              clear hK K
              try simp only [Act.put, List.setIfInBounds_toArray, List.set_cons_zero, List.set_cons_succ]
              refine wpAnyH_ready (rs := [4]) (by kernel_rfl) (by simp) ?_
              refine (AllReadyH.cons (o := { dst := some 27, op := Op.call { callee := Callee.builtin Builtin.append, args := #[Operand.tmp 25, Operand.tmp 26], argTypes := #[22, 22] }, type := 22, pos := "law.go:37", after := #[{ on := 2, ground := Ground.data }, { on := 3, ground := Ground.data }, { on := 2, ground := Ground.chain }], guard := none }) rfl (fun K hK => ?_) AllReadyH.nil)
              · clear hHeld
                rw [if_pos (by rfl)]
                obtain ⟨v2, W5, hrun, hown, hgr, hat⟩ := append_sl (P := Try.prog) (w := W4) (t := 22) (e := 5) Try.underlying22 HI.out HZI0.out HZI1.out HZI2.out bs v1 (0 + k.length) ([] ++ k) HO4.out (.slice (some ⟨g26, 0, none⟩) 1 1) [0] (slAt_blk HZ4.out rfl) HLZ.out hbl 22
                refine wp_append_run (.tmp 25) (.tmp 26) 22 22 22 rfl rfl _ _ v2 W5 rfl rfl hrun ?_
                have hrw : ∀ k, Value.ownBlock v1 = some k → bs ≤ k := own_block_le HO4.out
                have HB5 := hide (HB4.out.grown hgr HB4.out.size (fun k e => by have h1 := hrw k e; have h2 := HS00.out; omega))
                have HP5 : Hid (W5.heap[g29]? = some (.cells #[.slice ao n cap] 22)) := hide ((hgr.block g29 (Array.getElem?_eq_some_iff.1 HP4.out).1 (fun e => NP4 e.symm)).trans HP4.out)
                have NP5 : v2.ownBlock ≠ some g29 := fun e => hat.elim (fun h => NP4 (h ▸ e)) (fun h => by rw [h] at e; injection e with e; have := (Array.getElem?_eq_some_iff.1 HP4.out).1; omega)
                replace hbl := Nat.le_trans hbl hgr.size
                have HO5 := hide hown
                clear hrun hown hgr hat hrw
                refine hK.out _ _ (HS.out _ (HB00.out.trans (HB5.out.mono (Nat.le_of_eq HS0E.out)))) (fun hHeld => ?_)
                clear hK K
                try simp only [Act.put, List.setIfInBounds_toArray, List.set_cons_zero, List.set_cons_succ]
                have hsl : SlAt W5 v2 (k ++ [0]) := by have := slAt_ownV HO5.out; rwa [List.nil_append] at this
                have HPA := hide (parts_one (b := g29) ((cell_of_row _ _ 0 _ _ _ HP5.out).trans rfl) (Array.getElem?_eq_some_iff.1 HP5.out).1 (HXD.out _ HB5.out))
                have HSL := hide hsl
                clear hsl
                clear HO5 HP5 hbl hbs
                refine wpAnyH_ready (rs := [7]) (by kernel_rfl) (by simp) ?_
                refine AllReadyH.cons (o := { dst := some 30, op := Op.call { callee := Callee.value (Operand.func 9), args := #[Operand.tmp 27, Operand.tmp 29], argTypes := #[22, 36] }, type := 25, pos := "law.go:37", after := #[{ on := 4, ground := Ground.data }, { on := 6, ground := Ground.data }, { on := 4, ground := Ground.chain }], guard := none }) rfl (fun K hK => ?_) AllReadyH.nil
                clear hHeld
                go_simp
                refine (macOf_any (k ++ [0]) _ _ g29 0 1 W5 HSL.out (by have := HM.out; simp; omega) HPA.out (by simp) (by simp) (by simp; have := HN.out; omega)).mono ?_
                rw [show [xs].flatten = xs from by simp, HXX.out]
                rintro e w6 ⟨rfl, hBX⟩
                have HBd := hide (HB5.out.trans (hBX.mono HB5.out.size))
                clear hBX HPA
                dsimp only
                refine hK.out _ _ (HS.out _ (HB00.out.trans (HBd.out.mono (Nat.le_of_eq HS0E.out)))) (fun hHeld => ?_)
                clear hK K
                try simp only [Act.put, List.setIfInBounds_toArray, List.set_cons_zero, List.set_cons_succ]
                refine wpAnyH_take (i := 9) (oi := { dst := some 32, op := Op.binOp BinOp.eql 25 (Operand.tmp 30) (Operand.tmp 31) 25, type := 4, pos := "law.go:37", after := #[{ on := 7, ground := Ground.data }, { on := 8, ground := Ground.data }], guard := none }) (v := ?_) rfl (by kernel_rfl) (by kernel_rfl) (by kernel_rfl) (fun _ _ _ h => h) (Or.inl ⟨by rfl, ?_⟩) hHeld ?_
                rotate_left
                · intro w hSw; (try dsimp only at hSw); go_simp; first | done | with_reducible rfl
                try simp only [Act.put, List.setIfInBounds_toArray, List.set_cons_zero, List.set_cons_succ]
                refine wpAnyH_take (i := 10) (oi := { dst := some 33, op := Op.move (Operand.tmp 32), type := 4, pos := "law.go:37", after := #[{ on := 9, ground := Ground.data }, { on := 7, ground := Ground.chain }], guard := none }) (v := ?_) rfl (by kernel_rfl) (by kernel_rfl) (by kernel_rfl) (fun _ _ _ h => h) (Or.inl ⟨by rfl, ?_⟩) hHeld ?_
                rotate_left
                · intro w hSw; (try dsimp only at hSw); go_simp; first | done | with_reducible rfl
                try simp only [Act.put, List.setIfInBounds_toArray, List.set_cons_zero, List.set_cons_succ]
                refine wpAnyH_ready (rs := [11]) (by kernel_rfl) (by simp) ?_
                refine AllReadyH.cons (o := { dst := some 34, op := Op.call { callee := Callee.value (Operand.func 8), args := #[], argTypes := #[] }, type := 4, pos := "law.go:37", after := #[{ on := 10, ground := Ground.chain }, { on := 10, ground := Ground.guard }], guard := some (10, true) }) rfl (fun K hK => ?_) AllReadyH.nil
                clear hHeld
                go_simp
                refine (awake_any _).mono ?_
                rintro e w7 ⟨rfl, hBX⟩
                have HBe := hide (HBd.out.trans (hBX.mono HBd.out.size))
                clear hBX HBd
                dsimp only
                refine hK.out _ _ (HS.out _ (HB00.out.trans (HBe.out.mono (Nat.le_of_eq HS0E.out)))) (fun hHeld => ?_)
                clear hK K
                try simp only [Act.put, List.setIfInBounds_toArray, List.set_cons_zero, List.set_cons_succ]
                refine wpAnyH_take (i := 12) (oi := { dst := some 35, op := Op.pick (Operand.tmp 33) (Operand.tmp 34) (Operand.const (Value.bool false)), type := 4, pos := "law.go:37", after := #[{ on := 10, ground := Ground.data }, { on := 11, ground := Ground.data }], guard := none }) (v := ?_) rfl (by kernel_rfl) (by kernel_rfl) (by kernel_rfl) (fun _ _ _ h => h) (Or.inl ⟨by rfl, ?_⟩) hHeld ?_
                rotate_left
                · intro w hSw; (try dsimp only at hSw); go_simp; first | done | with_reducible rfl
                try simp only [Act.put, List.setIfInBounds_toArray, List.set_cons_zero, List.set_cons_succ]
                refine wpAnyH_take (i := 13) (oi := { dst := some 4, op := Op.assign (Operand.tmp 35), type := 4, pos := "law.go:37", after := #[{ on := 12, ground := Ground.data }, { on := 11, ground := Ground.chain }, { on := 0, ground := Ground.phase }, { on := 1, ground := Ground.phase }, { on := 2, ground := Ground.phase }, { on := 3, ground := Ground.phase }, { on := 4, ground := Ground.phase }, { on := 5, ground := Ground.phase }, { on := 6, ground := Ground.phase }, { on := 7, ground := Ground.phase }, { on := 8, ground := Ground.phase }, { on := 9, ground := Ground.phase }, { on := 10, ground := Ground.phase }, { on := 11, ground := Ground.phase }, { on := 12, ground := Ground.phase }], guard := none }) (v := ?_) rfl (by kernel_rfl) (by kernel_rfl) (by kernel_rfl) (fun _ _ _ h => h) (Or.inl ⟨by rfl, ?_⟩) hHeld ?_
                rotate_left
                · intro w hSw; (try dsimp only at hSw); go_simp; first | done | with_reducible rfl
                try simp only [Act.put, List.setIfInBounds_toArray, List.set_cons_zero, List.set_cons_succ]
                refine wpAnyH_done (by kernel_rfl) ?_ _
                go_wp2_with fail
                go_ret
                exact ⟨rfl, HBW.out.trans ((HB00.out.trans (HBe.out.mono (Nat.le_of_eq HS0E.out))).mono HBW.out.size)⟩
          · clear hHeld
            go_simp
            change K _ (W2.alloc (.cells (cellsOf .u8 [0]) 5))
            have HB3 := hide (HB2.out.alloc HB2.out.size (.cells (cellsOf .u8 [0]) 5))
            have HO3 := hide (HO2.out.alloc (.cells (cellsOf .u8 [0]) 5))
            have HP3 := hide ((Below.heap_alloc W2 (.cells (cellsOf .u8 [0]) 5) g29 (Array.getElem?_eq_some_iff.1 HP2.out).1).trans HP2.out)
            have HZ3 := hide (Blk.new W2 5 .u8 [0])
            have NZ3 : Value.ownBlock (.slice (some ⟨bs, 0, none⟩) 0 0) ≠ some W2.heap.size := fun e => by have := HO2.out; have h2 := own_block_lt this e; omega
            replace hbl : bs ≤ (W2.alloc (.cells (cellsOf .u8 [0]) 5)).heap.size := Nat.le_trans hbl (by simp)
            have NP3 := NP2
            generalize W2.alloc (.cells (cellsOf .u8 [0]) 5) = W3 at HB3 HO3 HZ3 HP3 hbl ⊢
            generalize W2.heap.size = g26 at HZ3 NZ3 ⊢
            refine hK.out _ _ (HS.out _ (HB00.out.trans (HB3.out.mono (Nat.le_of_eq HS0E.out)))) (fun hHeld => ?_)
            clear hK K
            try simp only [Act.put, List.setIfInBounds_toArray, List.set_cons_zero, List.set_cons_succ]
            refine wpAnyH_ready (rs := [2]) (by kernel_rfl) (by simp) ?_
            refine (AllReadyH.cons (o := { dst := some 25, op := Op.call { callee := Callee.builtin Builtin.append, args := #[Operand.tmp 23, Operand.tmp 24], argTypes := #[22, 22] }, type := 22, pos := "law.go:37", after := #[{ on := 0, ground := Ground.data }, { on := 1, ground := Ground.data }], guard := none }) rfl (fun K hK => ?_) AllReadyH.nil)
            · clear hHeld
              rw [if_pos (by rfl)]
              obtain ⟨v1, W4, hrun, hown, hgr, hat⟩ := append_sl (P := Try.prog) (w := W3) (t := 22) (e := 5) Try.underlying22 HI.out HZI0.out HZI1.out HZI2.out bs (.slice (some ⟨bs, 0, none⟩) 0 0) 0 [] HO3.out (.slice ko m kc) k (HKD.out _ HB3.out) HLK.out hbl 22
              refine wp_append_run (.tmp 23) (.tmp 24) 22 22 22 rfl rfl _ _ v1 W4 rfl rfl hrun ?_
              have hrw : ∀ k, Value.ownBlock (.slice (some ⟨bs, 0, none⟩) 0 0) = some k → bs ≤ k := own_block_le HO3.out
              have HB4 := hide (HB3.out.grown hgr HB3.out.size (fun k e => by have h1 := hrw k e; have h2 := HS00.out; omega))
              have HZ4 : Hid (Blk W4 g26 5 .u8 [0]) := hide ((hgr.block g26 HZ3.out.lt (fun e => NZ3 e.symm)).trans HZ3.out)
              have NZ4 : v1.ownBlock ≠ some g26 := fun e => hat.elim (fun h => NZ3 (h ▸ e)) (fun h => by rw [h] at e; injection e with e; have := HZ3.out.lt; omega)
              have HP4 : Hid (W4.heap[g29]? = some (.cells #[.slice ao n cap] 22)) := hide ((hgr.block g29 (Array.getElem?_eq_some_iff.1 HP3.out).1 (fun e => NP3 e.symm)).trans HP3.out)
              have NP4 : v1.ownBlock ≠ some g29 := fun e => hat.elim (fun h => NP3 (h ▸ e)) (fun h => by rw [h] at e; injection e with e; have := (Array.getElem?_eq_some_iff.1 HP3.out).1; omega)
              replace hbl := Nat.le_trans hbl hgr.size
              have HO4 := hide hown
              clear hrun hown hgr hat hrw
              refine hK.out _ _ (HS.out _ (HB00.out.trans (HB4.out.mono (Nat.le_of_eq HS0E.out)))) (fun hHeld => ?_)
              clear hK K
              try simp only [Act.put, List.setIfInBounds_toArray, List.set_cons_zero, List.set_cons_succ]
              refine wpAnyH_ready (rs := [4]) (by kernel_rfl) (by simp) ?_
              refine (AllReadyH.cons (o := { dst := some 27, op := Op.call { callee := Callee.builtin Builtin.append, args := #[Operand.tmp 25, Operand.tmp 26], argTypes := #[22, 22] }, type := 22, pos := "law.go:37", after := #[{ on := 2, ground := Ground.data }, { on := 3, ground := Ground.data }, { on := 2, ground := Ground.chain }], guard := none }) rfl (fun K hK => ?_) AllReadyH.nil)
              · clear hHeld
                rw [if_pos (by rfl)]
                obtain ⟨v2, W5, hrun, hown, hgr, hat⟩ := append_sl (P := Try.prog) (w := W4) (t := 22) (e := 5) Try.underlying22 HI.out HZI0.out HZI1.out HZI2.out bs v1 (0 + k.length) ([] ++ k) HO4.out (.slice (some ⟨g26, 0, none⟩) 1 1) [0] (slAt_blk HZ4.out rfl) HLZ.out hbl 22
                refine wp_append_run (.tmp 25) (.tmp 26) 22 22 22 rfl rfl _ _ v2 W5 rfl rfl hrun ?_
                have hrw : ∀ k, Value.ownBlock v1 = some k → bs ≤ k := own_block_le HO4.out
                have HB5 := hide (HB4.out.grown hgr HB4.out.size (fun k e => by have h1 := hrw k e; have h2 := HS00.out; omega))
                have HP5 : Hid (W5.heap[g29]? = some (.cells #[.slice ao n cap] 22)) := hide ((hgr.block g29 (Array.getElem?_eq_some_iff.1 HP4.out).1 (fun e => NP4 e.symm)).trans HP4.out)
                have NP5 : v2.ownBlock ≠ some g29 := fun e => hat.elim (fun h => NP4 (h ▸ e)) (fun h => by rw [h] at e; injection e with e; have := (Array.getElem?_eq_some_iff.1 HP4.out).1; omega)
                replace hbl := Nat.le_trans hbl hgr.size
                have HO5 := hide hown
                clear hrun hown hgr hat hrw
                refine hK.out _ _ (HS.out _ (HB00.out.trans (HB5.out.mono (Nat.le_of_eq HS0E.out)))) (fun hHeld => ?_)
                clear hK K
                try simp only [Act.put, List.setIfInBounds_toArray, List.set_cons_zero, List.set_cons_succ]
                have hsl : SlAt W5 v2 (k ++ [0]) := by have := slAt_ownV HO5.out; rwa [List.nil_append] at this
                have HPA := hide (parts_one (b := g29) ((cell_of_row _ _ 0 _ _ _ HP5.out).trans rfl) (Array.getElem?_eq_some_iff.1 HP5.out).1 (HXD.out _ HB5.out))
                have HSL := hide hsl
                clear hsl
                clear HO5 HP5 hbl hbs
                refine wpAnyH_ready (rs := [7]) (by kernel_rfl) (by simp) ?_
                refine AllReadyH.cons (o := { dst := some 30, op := Op.call { callee := Callee.value (Operand.func 9), args := #[Operand.tmp 27, Operand.tmp 29], argTypes := #[22, 36] }, type := 25, pos := "law.go:37", after := #[{ on := 4, ground := Ground.data }, { on := 6, ground := Ground.data }, { on := 4, ground := Ground.chain }], guard := none }) rfl (fun K hK => ?_) AllReadyH.nil
                clear hHeld
                go_simp
                refine (macOf_any (k ++ [0]) _ _ g29 0 1 W5 HSL.out (by have := HM.out; simp; omega) HPA.out (by simp) (by simp) (by simp; have := HN.out; omega)).mono ?_
                rw [show [xs].flatten = xs from by simp, HXX.out]
                rintro e w6 ⟨rfl, hBX⟩
                have HBd := hide (HB5.out.trans (hBX.mono HB5.out.size))
                clear hBX HPA
                dsimp only
                refine hK.out _ _ (HS.out _ (HB00.out.trans (HBd.out.mono (Nat.le_of_eq HS0E.out)))) (fun hHeld => ?_)
                clear hK K
                try simp only [Act.put, List.setIfInBounds_toArray, List.set_cons_zero, List.set_cons_succ]
                refine wpAnyH_take (i := 9) (oi := { dst := some 32, op := Op.binOp BinOp.eql 25 (Operand.tmp 30) (Operand.tmp 31) 25, type := 4, pos := "law.go:37", after := #[{ on := 7, ground := Ground.data }, { on := 8, ground := Ground.data }], guard := none }) (v := ?_) rfl (by kernel_rfl) (by kernel_rfl) (by kernel_rfl) (fun _ _ _ h => h) (Or.inl ⟨by rfl, ?_⟩) hHeld ?_
                rotate_left
                · intro w hSw; (try dsimp only at hSw); go_simp; first | done | with_reducible rfl
                try simp only [Act.put, List.setIfInBounds_toArray, List.set_cons_zero, List.set_cons_succ]
                refine wpAnyH_take (i := 10) (oi := { dst := some 33, op := Op.move (Operand.tmp 32), type := 4, pos := "law.go:37", after := #[{ on := 9, ground := Ground.data }, { on := 7, ground := Ground.chain }], guard := none }) (v := ?_) rfl (by kernel_rfl) (by kernel_rfl) (by kernel_rfl) (fun _ _ _ h => h) (Or.inl ⟨by rfl, ?_⟩) hHeld ?_
                rotate_left
                · intro w hSw; (try dsimp only at hSw); go_simp; first | done | with_reducible rfl
                try simp only [Act.put, List.setIfInBounds_toArray, List.set_cons_zero, List.set_cons_succ]
                refine wpAnyH_ready (rs := [11]) (by kernel_rfl) (by simp) ?_
                refine AllReadyH.cons (o := { dst := some 34, op := Op.call { callee := Callee.value (Operand.func 8), args := #[], argTypes := #[] }, type := 4, pos := "law.go:37", after := #[{ on := 10, ground := Ground.chain }, { on := 10, ground := Ground.guard }], guard := some (10, true) }) rfl (fun K hK => ?_) AllReadyH.nil
                clear hHeld
                go_simp
                refine (awake_any _).mono ?_
                rintro e w7 ⟨rfl, hBX⟩
                have HBe := hide (HBd.out.trans (hBX.mono HBd.out.size))
                clear hBX HBd
                dsimp only
                refine hK.out _ _ (HS.out _ (HB00.out.trans (HBe.out.mono (Nat.le_of_eq HS0E.out)))) (fun hHeld => ?_)
                clear hK K
                try simp only [Act.put, List.setIfInBounds_toArray, List.set_cons_zero, List.set_cons_succ]
                refine wpAnyH_take (i := 12) (oi := { dst := some 35, op := Op.pick (Operand.tmp 33) (Operand.tmp 34) (Operand.const (Value.bool false)), type := 4, pos := "law.go:37", after := #[{ on := 10, ground := Ground.data }, { on := 11, ground := Ground.data }], guard := none }) (v := ?_) rfl (by kernel_rfl) (by kernel_rfl) (by kernel_rfl) (fun _ _ _ h => h) (Or.inl ⟨by rfl, ?_⟩) hHeld ?_
                rotate_left
                · intro w hSw; (try dsimp only at hSw); go_simp; first | done | with_reducible rfl
                try simp only [Act.put, List.setIfInBounds_toArray, List.set_cons_zero, List.set_cons_succ]
                refine wpAnyH_take (i := 13) (oi := { dst := some 4, op := Op.assign (Operand.tmp 35), type := 4, pos := "law.go:37", after := #[{ on := 12, ground := Ground.data }, { on := 11, ground := Ground.chain }, { on := 0, ground := Ground.phase }, { on := 1, ground := Ground.phase }, { on := 2, ground := Ground.phase }, { on := 3, ground := Ground.phase }, { on := 4, ground := Ground.phase }, { on := 5, ground := Ground.phase }, { on := 6, ground := Ground.phase }, { on := 7, ground := Ground.phase }, { on := 8, ground := Ground.phase }, { on := 9, ground := Ground.phase }, { on := 10, ground := Ground.phase }, { on := 11, ground := Ground.phase }, { on := 12, ground := Ground.phase }], guard := none }) (v := ?_) rfl (by kernel_rfl) (by kernel_rfl) (by kernel_rfl) (fun _ _ _ h => h) (Or.inl ⟨by rfl, ?_⟩) hHeld ?_
                rotate_left
                · intro w hSw; (try dsimp only at hSw); go_simp; first | done | with_reducible rfl
                try simp only [Act.put, List.setIfInBounds_toArray, List.set_cons_zero, List.set_cons_succ]
                refine wpAnyH_done (by kernel_rfl) ?_ _
                go_wp2_with fail
                go_ret
                exact ⟨rfl, HBW.out.trans ((HB00.out.trans (HBe.out.mono (Nat.le_of_eq HS0E.out))).mono HBW.out.size)⟩
      · clear hHeld
        go_simp
        change K _ (W0.alloc (.cells (cellsOf .u8 [0]) 5))
        have HB1 := hide (HB0.out.alloc HB0.out.size (.cells (cellsOf .u8 [0]) 5))
        have HZ1 := hide (Blk.new W0 5 .u8 [0])
        generalize W0.alloc (.cells (cellsOf .u8 [0]) 5) = W1 at HB1 HZ1 ⊢
        generalize W0.heap.size = g26 at HZ1 ⊢
        refine hK.out _ _ (HS.out _ (HB00.out.trans (HB1.out.mono (Nat.le_of_eq HS0E.out)))) (fun hHeld => ?_)
        clear hK K
        try simp only [Act.put, List.setIfInBounds_toArray, List.set_cons_zero, List.set_cons_succ]
        refine wpAnyH_ready (rs := [0, 6]) (by kernel_rfl) (by simp) ?_
        refine (AllReadyH.cons (o := { dst := some 23, op := Op.buildSlice 22 0 #[], type := 22, pos := "law.go:37", after := #[], guard := none }) rfl (fun K hK => ?_) (AllReadyH.cons (o := { dst := some 29, op := Op.buildSlice 36 1 #[(0, Operand.tmp 28)], type := 36, pos := "law.go:37", after := #[{ on := 5, ground := Ground.data }], guard := none }) rfl (fun K hK => ?_) AllReadyH.nil))
        · clear hHeld
          go_simp
          have HB2 := hide (HB1.out.alloc HB1.out.size (.cells #[] 5))
          have HZ2 := hide (HZ1.out.alloc (.cells #[] 5))
          have HO2 := hide (own_empty W1 5)
          have NZ2 : (Value.slice (some ⟨W1.heap.size, 0, none⟩) 0 0).ownBlock ≠ some g26 := fun e => by simp [Value.ownBlock] at e; have := HZ1.out.lt; omega
          have hbs : S0 ≤ W1.heap.size := by rw [HS00.out]; exact HB1.out.size
          have hbl : W1.heap.size ≤ (W1.alloc (.cells #[] 5)).heap.size := by simp
          generalize W1.alloc (.cells #[] 5) = W2 at HB2 HO2 HZ2 hbl ⊢
          generalize W1.heap.size = bs at HO2 NZ2 hbs hbl ⊢
          refine hK.out _ _ (HS.out _ (HB00.out.trans (HB2.out.mono (Nat.le_of_eq HS0E.out)))) (fun hHeld => ?_)
          clear hK K
          try simp only [Act.put, List.setIfInBounds_toArray, List.set_cons_zero, List.set_cons_succ]
          refine wpAnyH_ready (rs := [2, 6]) (by kernel_rfl) (by simp) ?_
          refine (AllReadyH.cons (o := { dst := some 25, op := Op.call { callee := Callee.builtin Builtin.append, args := #[Operand.tmp 23, Operand.tmp 24], argTypes := #[22, 22] }, type := 22, pos := "law.go:37", after := #[{ on := 0, ground := Ground.data }, { on := 1, ground := Ground.data }], guard := none }) rfl (fun K hK => ?_) (AllReadyH.cons (o := { dst := some 29, op := Op.buildSlice 36 1 #[(0, Operand.tmp 28)], type := 36, pos := "law.go:37", after := #[{ on := 5, ground := Ground.data }], guard := none }) rfl (fun K hK => ?_) AllReadyH.nil))
          · clear hHeld
            rw [if_pos (by rfl)]
            obtain ⟨v1, W3, hrun, hown, hgr, hat⟩ := append_sl (P := Try.prog) (w := W2) (t := 22) (e := 5) Try.underlying22 HI.out HZI0.out HZI1.out HZI2.out bs (.slice (some ⟨bs, 0, none⟩) 0 0) 0 [] HO2.out (.slice ko m kc) k (HKD.out _ HB2.out) HLK.out hbl 22
            refine wp_append_run (.tmp 23) (.tmp 24) 22 22 22 rfl rfl _ _ v1 W3 rfl rfl hrun ?_
            have hrw : ∀ k, Value.ownBlock (.slice (some ⟨bs, 0, none⟩) 0 0) = some k → bs ≤ k := own_block_le HO2.out
            have HB3 := hide (HB2.out.grown hgr HB2.out.size (fun k e => by have h1 := hrw k e; have h2 := HS00.out; omega))
            have HZ3 : Hid (Blk W3 g26 5 .u8 [0]) := hide ((hgr.block g26 HZ2.out.lt (fun e => NZ2 e.symm)).trans HZ2.out)
            have NZ3 : v1.ownBlock ≠ some g26 := fun e => hat.elim (fun h => NZ2 (h ▸ e)) (fun h => by rw [h] at e; injection e with e; have := HZ2.out.lt; omega)
            replace hbl := Nat.le_trans hbl hgr.size
            have HO3 := hide hown
            clear hrun hown hgr hat hrw
            refine hK.out _ _ (HS.out _ (HB00.out.trans (HB3.out.mono (Nat.le_of_eq HS0E.out)))) (fun hHeld => ?_)
            clear hK K
            try simp only [Act.put, List.setIfInBounds_toArray, List.set_cons_zero, List.set_cons_succ]
            refine wpAnyH_ready (rs := [4, 6]) (by kernel_rfl) (by simp) ?_
            refine (AllReadyH.cons (o := { dst := some 27, op := Op.call { callee := Callee.builtin Builtin.append, args := #[Operand.tmp 25, Operand.tmp 26], argTypes := #[22, 22] }, type := 22, pos := "law.go:37", after := #[{ on := 2, ground := Ground.data }, { on := 3, ground := Ground.data }, { on := 2, ground := Ground.chain }], guard := none }) rfl (fun K hK => ?_) (AllReadyH.cons (o := { dst := some 29, op := Op.buildSlice 36 1 #[(0, Operand.tmp 28)], type := 36, pos := "law.go:37", after := #[{ on := 5, ground := Ground.data }], guard := none }) rfl (fun K hK => ?_) AllReadyH.nil))
            · clear hHeld
              rw [if_pos (by rfl)]
              obtain ⟨v2, W4, hrun, hown, hgr, hat⟩ := append_sl (P := Try.prog) (w := W3) (t := 22) (e := 5) Try.underlying22 HI.out HZI0.out HZI1.out HZI2.out bs v1 (0 + k.length) ([] ++ k) HO3.out (.slice (some ⟨g26, 0, none⟩) 1 1) [0] (slAt_blk HZ3.out rfl) HLZ.out hbl 22
              refine wp_append_run (.tmp 25) (.tmp 26) 22 22 22 rfl rfl _ _ v2 W4 rfl rfl hrun ?_
              have hrw : ∀ k, Value.ownBlock v1 = some k → bs ≤ k := own_block_le HO3.out
              have HB4 := hide (HB3.out.grown hgr HB3.out.size (fun k e => by have h1 := hrw k e; have h2 := HS00.out; omega))
              replace hbl := Nat.le_trans hbl hgr.size
              have HO4 := hide hown
              clear hrun hown hgr hat hrw
              refine hK.out _ _ (HS.out _ (HB00.out.trans (HB4.out.mono (Nat.le_of_eq HS0E.out)))) (fun hHeld => ?_)
              clear hK K
              try simp only [Act.put, List.setIfInBounds_toArray, List.set_cons_zero, List.set_cons_succ]
              refine wpAnyH_ready (rs := [6]) (by kernel_rfl) (by simp) ?_
              refine (AllReadyH.cons (o := { dst := some 29, op := Op.buildSlice 36 1 #[(0, Operand.tmp 28)], type := 36, pos := "law.go:37", after := #[{ on := 5, ground := Ground.data }], guard := none }) rfl (fun K hK => ?_) AllReadyH.nil)
              · clear hHeld
                go_simp
                have HB5 := hide (HB4.out.alloc HB4.out.size (.cells #[.slice ao n cap] 22))
                have HO5 := hide (HO4.out.alloc (.cells #[.slice ao n cap] 22))
                have HP5 := hide (heap_alloc_new W4 (.cells #[.slice ao n cap] 22))
                have NP5 : Value.ownBlock v2 ≠ some W4.heap.size := fun e => by have := HO4.out; have h2 := own_block_lt this e; omega
                replace hbl : bs ≤ (W4.alloc (.cells #[.slice ao n cap] 22)).heap.size := Nat.le_trans hbl (by simp)
                generalize W4.alloc (.cells #[.slice ao n cap] 22) = W5 at HB5 HO5 HP5 hbl ⊢
                generalize W4.heap.size = g29 at HP5 NP5 ⊢
                refine hK.out _ _ (HS.out _ (HB00.out.trans (HB5.out.mono (Nat.le_of_eq HS0E.out)))) (fun hHeld => ?_)
                clear hK K
                try simp only [Act.put, List.setIfInBounds_toArray, List.set_cons_zero, List.set_cons_succ]
                have hsl : SlAt W5 v2 (k ++ [0]) := by have := slAt_ownV HO5.out; rwa [List.nil_append] at this
                have HPA := hide (parts_one (b := g29) ((cell_of_row _ _ 0 _ _ _ HP5.out).trans rfl) (Array.getElem?_eq_some_iff.1 HP5.out).1 (HXD.out _ HB5.out))
                have HSL := hide hsl
                clear hsl
                clear HO5 HP5 hbl hbs
                refine wpAnyH_ready (rs := [7]) (by kernel_rfl) (by simp) ?_
                refine AllReadyH.cons (o := { dst := some 30, op := Op.call { callee := Callee.value (Operand.func 9), args := #[Operand.tmp 27, Operand.tmp 29], argTypes := #[22, 36] }, type := 25, pos := "law.go:37", after := #[{ on := 4, ground := Ground.data }, { on := 6, ground := Ground.data }, { on := 4, ground := Ground.chain }], guard := none }) rfl (fun K hK => ?_) AllReadyH.nil
                clear hHeld
                go_simp
                refine (macOf_any (k ++ [0]) _ _ g29 0 1 W5 HSL.out (by have := HM.out; simp; omega) HPA.out (by simp) (by simp) (by simp; have := HN.out; omega)).mono ?_
                rw [show [xs].flatten = xs from by simp, HXX.out]
                rintro e w6 ⟨rfl, hBX⟩
                have HBd := hide (HB5.out.trans (hBX.mono HB5.out.size))
                clear hBX HPA
                dsimp only
                refine hK.out _ _ (HS.out _ (HB00.out.trans (HBd.out.mono (Nat.le_of_eq HS0E.out)))) (fun hHeld => ?_)
                clear hK K
                try simp only [Act.put, List.setIfInBounds_toArray, List.set_cons_zero, List.set_cons_succ]
                refine wpAnyH_take (i := 9) (oi := { dst := some 32, op := Op.binOp BinOp.eql 25 (Operand.tmp 30) (Operand.tmp 31) 25, type := 4, pos := "law.go:37", after := #[{ on := 7, ground := Ground.data }, { on := 8, ground := Ground.data }], guard := none }) (v := ?_) rfl (by kernel_rfl) (by kernel_rfl) (by kernel_rfl) (fun _ _ _ h => h) (Or.inl ⟨by rfl, ?_⟩) hHeld ?_
                rotate_left
                · intro w hSw; (try dsimp only at hSw); go_simp; first | done | with_reducible rfl
                try simp only [Act.put, List.setIfInBounds_toArray, List.set_cons_zero, List.set_cons_succ]
                refine wpAnyH_take (i := 10) (oi := { dst := some 33, op := Op.move (Operand.tmp 32), type := 4, pos := "law.go:37", after := #[{ on := 9, ground := Ground.data }, { on := 7, ground := Ground.chain }], guard := none }) (v := ?_) rfl (by kernel_rfl) (by kernel_rfl) (by kernel_rfl) (fun _ _ _ h => h) (Or.inl ⟨by rfl, ?_⟩) hHeld ?_
                rotate_left
                · intro w hSw; (try dsimp only at hSw); go_simp; first | done | with_reducible rfl
                try simp only [Act.put, List.setIfInBounds_toArray, List.set_cons_zero, List.set_cons_succ]
                refine wpAnyH_ready (rs := [11]) (by kernel_rfl) (by simp) ?_
                refine AllReadyH.cons (o := { dst := some 34, op := Op.call { callee := Callee.value (Operand.func 8), args := #[], argTypes := #[] }, type := 4, pos := "law.go:37", after := #[{ on := 10, ground := Ground.chain }, { on := 10, ground := Ground.guard }], guard := some (10, true) }) rfl (fun K hK => ?_) AllReadyH.nil
                clear hHeld
                go_simp
                refine (awake_any _).mono ?_
                rintro e w7 ⟨rfl, hBX⟩
                have HBe := hide (HBd.out.trans (hBX.mono HBd.out.size))
                clear hBX HBd
                dsimp only
                refine hK.out _ _ (HS.out _ (HB00.out.trans (HBe.out.mono (Nat.le_of_eq HS0E.out)))) (fun hHeld => ?_)
                clear hK K
                try simp only [Act.put, List.setIfInBounds_toArray, List.set_cons_zero, List.set_cons_succ]
                refine wpAnyH_take (i := 12) (oi := { dst := some 35, op := Op.pick (Operand.tmp 33) (Operand.tmp 34) (Operand.const (Value.bool false)), type := 4, pos := "law.go:37", after := #[{ on := 10, ground := Ground.data }, { on := 11, ground := Ground.data }], guard := none }) (v := ?_) rfl (by kernel_rfl) (by kernel_rfl) (by kernel_rfl) (fun _ _ _ h => h) (Or.inl ⟨by rfl, ?_⟩) hHeld ?_
                rotate_left
                · intro w hSw; (try dsimp only at hSw); go_simp; first | done | with_reducible rfl
                try simp only [Act.put, List.setIfInBounds_toArray, List.set_cons_zero, List.set_cons_succ]
                refine wpAnyH_take (i := 13) (oi := { dst := some 4, op := Op.assign (Operand.tmp 35), type := 4, pos := "law.go:37", after := #[{ on := 12, ground := Ground.data }, { on := 11, ground := Ground.chain }, { on := 0, ground := Ground.phase }, { on := 1, ground := Ground.phase }, { on := 2, ground := Ground.phase }, { on := 3, ground := Ground.phase }, { on := 4, ground := Ground.phase }, { on := 5, ground := Ground.phase }, { on := 6, ground := Ground.phase }, { on := 7, ground := Ground.phase }, { on := 8, ground := Ground.phase }, { on := 9, ground := Ground.phase }, { on := 10, ground := Ground.phase }, { on := 11, ground := Ground.phase }, { on := 12, ground := Ground.phase }], guard := none }) (v := ?_) rfl (by kernel_rfl) (by kernel_rfl) (by kernel_rfl) (fun _ _ _ h => h) (Or.inl ⟨by rfl, ?_⟩) hHeld ?_
                rotate_left
                · intro w hSw; (try dsimp only at hSw); go_simp; first | done | with_reducible rfl
                try simp only [Act.put, List.setIfInBounds_toArray, List.set_cons_zero, List.set_cons_succ]
                refine wpAnyH_done (by kernel_rfl) ?_ _
                go_wp2_with fail
                go_ret
                exact ⟨rfl, HBW.out.trans ((HB00.out.trans (HBe.out.mono (Nat.le_of_eq HS0E.out))).mono HBW.out.size)⟩
            · clear hHeld
              go_simp
              have HB4 := hide (HB3.out.alloc HB3.out.size (.cells #[.slice ao n cap] 22))
              have HO4 := hide (HO3.out.alloc (.cells #[.slice ao n cap] 22))
              have HZ4 := hide (HZ3.out.alloc (.cells #[.slice ao n cap] 22))
              have HP4 := hide (heap_alloc_new W3 (.cells #[.slice ao n cap] 22))
              have NP4 : Value.ownBlock v1 ≠ some W3.heap.size := fun e => by have := HO3.out; have h2 := own_block_lt this e; omega
              replace hbl : bs ≤ (W3.alloc (.cells #[.slice ao n cap] 22)).heap.size := Nat.le_trans hbl (by simp)
              have NZ4 := NZ3
              generalize W3.alloc (.cells #[.slice ao n cap] 22) = W4 at HB4 HO4 HZ4 HP4 hbl ⊢
              generalize W3.heap.size = g29 at HP4 NP4 ⊢
              refine hK.out _ _ (HS.out _ (HB00.out.trans (HB4.out.mono (Nat.le_of_eq HS0E.out)))) (fun hHeld => ?_)
              clear hK K
              try simp only [Act.put, List.setIfInBounds_toArray, List.set_cons_zero, List.set_cons_succ]
              refine wpAnyH_ready (rs := [4]) (by kernel_rfl) (by simp) ?_
              refine (AllReadyH.cons (o := { dst := some 27, op := Op.call { callee := Callee.builtin Builtin.append, args := #[Operand.tmp 25, Operand.tmp 26], argTypes := #[22, 22] }, type := 22, pos := "law.go:37", after := #[{ on := 2, ground := Ground.data }, { on := 3, ground := Ground.data }, { on := 2, ground := Ground.chain }], guard := none }) rfl (fun K hK => ?_) AllReadyH.nil)
              · clear hHeld
                rw [if_pos (by rfl)]
                obtain ⟨v2, W5, hrun, hown, hgr, hat⟩ := append_sl (P := Try.prog) (w := W4) (t := 22) (e := 5) Try.underlying22 HI.out HZI0.out HZI1.out HZI2.out bs v1 (0 + k.length) ([] ++ k) HO4.out (.slice (some ⟨g26, 0, none⟩) 1 1) [0] (slAt_blk HZ4.out rfl) HLZ.out hbl 22
                refine wp_append_run (.tmp 25) (.tmp 26) 22 22 22 rfl rfl _ _ v2 W5 rfl rfl hrun ?_
                have hrw : ∀ k, Value.ownBlock v1 = some k → bs ≤ k := own_block_le HO4.out
                have HB5 := hide (HB4.out.grown hgr HB4.out.size (fun k e => by have h1 := hrw k e; have h2 := HS00.out; omega))
                have HP5 : Hid (W5.heap[g29]? = some (.cells #[.slice ao n cap] 22)) := hide ((hgr.block g29 (Array.getElem?_eq_some_iff.1 HP4.out).1 (fun e => NP4 e.symm)).trans HP4.out)
                have NP5 : v2.ownBlock ≠ some g29 := fun e => hat.elim (fun h => NP4 (h ▸ e)) (fun h => by rw [h] at e; injection e with e; have := (Array.getElem?_eq_some_iff.1 HP4.out).1; omega)
                replace hbl := Nat.le_trans hbl hgr.size
                have HO5 := hide hown
                clear hrun hown hgr hat hrw
                refine hK.out _ _ (HS.out _ (HB00.out.trans (HB5.out.mono (Nat.le_of_eq HS0E.out)))) (fun hHeld => ?_)
                clear hK K
                try simp only [Act.put, List.setIfInBounds_toArray, List.set_cons_zero, List.set_cons_succ]
                have hsl : SlAt W5 v2 (k ++ [0]) := by have := slAt_ownV HO5.out; rwa [List.nil_append] at this
                have HPA := hide (parts_one (b := g29) ((cell_of_row _ _ 0 _ _ _ HP5.out).trans rfl) (Array.getElem?_eq_some_iff.1 HP5.out).1 (HXD.out _ HB5.out))
                have HSL := hide hsl
                clear hsl
                clear HO5 HP5 hbl hbs
                refine wpAnyH_ready (rs := [7]) (by kernel_rfl) (by simp) ?_
                refine AllReadyH.cons (o := { dst := some 30, op := Op.call { callee := Callee.value (Operand.func 9), args := #[Operand.tmp 27, Operand.tmp 29], argTypes := #[22, 36] }, type := 25, pos := "law.go:37", after := #[{ on := 4, ground := Ground.data }, { on := 6, ground := Ground.data }, { on := 4, ground := Ground.chain }], guard := none }) rfl (fun K hK => ?_) AllReadyH.nil
                clear hHeld
                go_simp
                refine (macOf_any (k ++ [0]) _ _ g29 0 1 W5 HSL.out (by have := HM.out; simp; omega) HPA.out (by simp) (by simp) (by simp; have := HN.out; omega)).mono ?_
                rw [show [xs].flatten = xs from by simp, HXX.out]
                rintro e w6 ⟨rfl, hBX⟩
                have HBd := hide (HB5.out.trans (hBX.mono HB5.out.size))
                clear hBX HPA
                dsimp only
                refine hK.out _ _ (HS.out _ (HB00.out.trans (HBd.out.mono (Nat.le_of_eq HS0E.out)))) (fun hHeld => ?_)
                clear hK K
                try simp only [Act.put, List.setIfInBounds_toArray, List.set_cons_zero, List.set_cons_succ]
                refine wpAnyH_take (i := 9) (oi := { dst := some 32, op := Op.binOp BinOp.eql 25 (Operand.tmp 30) (Operand.tmp 31) 25, type := 4, pos := "law.go:37", after := #[{ on := 7, ground := Ground.data }, { on := 8, ground := Ground.data }], guard := none }) (v := ?_) rfl (by kernel_rfl) (by kernel_rfl) (by kernel_rfl) (fun _ _ _ h => h) (Or.inl ⟨by rfl, ?_⟩) hHeld ?_
                rotate_left
                · intro w hSw; (try dsimp only at hSw); go_simp; first | done | with_reducible rfl
                try simp only [Act.put, List.setIfInBounds_toArray, List.set_cons_zero, List.set_cons_succ]
                refine wpAnyH_take (i := 10) (oi := { dst := some 33, op := Op.move (Operand.tmp 32), type := 4, pos := "law.go:37", after := #[{ on := 9, ground := Ground.data }, { on := 7, ground := Ground.chain }], guard := none }) (v := ?_) rfl (by kernel_rfl) (by kernel_rfl) (by kernel_rfl) (fun _ _ _ h => h) (Or.inl ⟨by rfl, ?_⟩) hHeld ?_
                rotate_left
                · intro w hSw; (try dsimp only at hSw); go_simp; first | done | with_reducible rfl
                try simp only [Act.put, List.setIfInBounds_toArray, List.set_cons_zero, List.set_cons_succ]
                refine wpAnyH_ready (rs := [11]) (by kernel_rfl) (by simp) ?_
                refine AllReadyH.cons (o := { dst := some 34, op := Op.call { callee := Callee.value (Operand.func 8), args := #[], argTypes := #[] }, type := 4, pos := "law.go:37", after := #[{ on := 10, ground := Ground.chain }, { on := 10, ground := Ground.guard }], guard := some (10, true) }) rfl (fun K hK => ?_) AllReadyH.nil
                clear hHeld
                go_simp
                refine (awake_any _).mono ?_
                rintro e w7 ⟨rfl, hBX⟩
                have HBe := hide (HBd.out.trans (hBX.mono HBd.out.size))
                clear hBX HBd
                dsimp only
                refine hK.out _ _ (HS.out _ (HB00.out.trans (HBe.out.mono (Nat.le_of_eq HS0E.out)))) (fun hHeld => ?_)
                clear hK K
                try simp only [Act.put, List.setIfInBounds_toArray, List.set_cons_zero, List.set_cons_succ]
                refine wpAnyH_take (i := 12) (oi := { dst := some 35, op := Op.pick (Operand.tmp 33) (Operand.tmp 34) (Operand.const (Value.bool false)), type := 4, pos := "law.go:37", after := #[{ on := 10, ground := Ground.data }, { on := 11, ground := Ground.data }], guard := none }) (v := ?_) rfl (by kernel_rfl) (by kernel_rfl) (by kernel_rfl) (fun _ _ _ h => h) (Or.inl ⟨by rfl, ?_⟩) hHeld ?_
                rotate_left
                · intro w hSw; (try dsimp only at hSw); go_simp; first | done | with_reducible rfl
                try simp only [Act.put, List.setIfInBounds_toArray, List.set_cons_zero, List.set_cons_succ]
                refine wpAnyH_take (i := 13) (oi := { dst := some 4, op := Op.assign (Operand.tmp 35), type := 4, pos := "law.go:37", after := #[{ on := 12, ground := Ground.data }, { on := 11, ground := Ground.chain }, { on := 0, ground := Ground.phase }, { on := 1, ground := Ground.phase }, { on := 2, ground := Ground.phase }, { on := 3, ground := Ground.phase }, { on := 4, ground := Ground.phase }, { on := 5, ground := Ground.phase }, { on := 6, ground := Ground.phase }, { on := 7, ground := Ground.phase }, { on := 8, ground := Ground.phase }, { on := 9, ground := Ground.phase }, { on := 10, ground := Ground.phase }, { on := 11, ground := Ground.phase }, { on := 12, ground := Ground.phase }], guard := none }) (v := ?_) rfl (by kernel_rfl) (by kernel_rfl) (by kernel_rfl) (fun _ _ _ h => h) (Or.inl ⟨by rfl, ?_⟩) hHeld ?_
                rotate_left
                · intro w hSw; (try dsimp only at hSw); go_simp; first | done | with_reducible rfl
                try simp only [Act.put, List.setIfInBounds_toArray, List.set_cons_zero, List.set_cons_succ]
                refine wpAnyH_done (by kernel_rfl) ?_ _
                go_wp2_with fail
                go_ret
                exact ⟨rfl, HBW.out.trans ((HB00.out.trans (HBe.out.mono (Nat.le_of_eq HS0E.out))).mono HBW.out.size)⟩
          · clear hHeld
            go_simp
            have HB3 := hide (HB2.out.alloc HB2.out.size (.cells #[.slice ao n cap] 22))
            have HO3 := hide (HO2.out.alloc (.cells #[.slice ao n cap] 22))
            have HZ3 := hide (HZ2.out.alloc (.cells #[.slice ao n cap] 22))
            have HP3 := hide (heap_alloc_new W2 (.cells #[.slice ao n cap] 22))
            have NP3 : Value.ownBlock (.slice (some ⟨bs, 0, none⟩) 0 0) ≠ some W2.heap.size := fun e => by have := HO2.out; have h2 := own_block_lt this e; omega
            replace hbl : bs ≤ (W2.alloc (.cells #[.slice ao n cap] 22)).heap.size := Nat.le_trans hbl (by simp)
            have NZ3 := NZ2
            generalize W2.alloc (.cells #[.slice ao n cap] 22) = W3 at HB3 HO3 HZ3 HP3 hbl ⊢
            generalize W2.heap.size = g29 at HP3 NP3 ⊢
            refine hK.out _ _ (HS.out _ (HB00.out.trans (HB3.out.mono (Nat.le_of_eq HS0E.out)))) (fun hHeld => ?_)
            clear hK K
            try simp only [Act.put, List.setIfInBounds_toArray, List.set_cons_zero, List.set_cons_succ]
            refine wpAnyH_ready (rs := [2]) (by kernel_rfl) (by simp) ?_
            refine (AllReadyH.cons (o := { dst := some 25, op := Op.call { callee := Callee.builtin Builtin.append, args := #[Operand.tmp 23, Operand.tmp 24], argTypes := #[22, 22] }, type := 22, pos := "law.go:37", after := #[{ on := 0, ground := Ground.data }, { on := 1, ground := Ground.data }], guard := none }) rfl (fun K hK => ?_) AllReadyH.nil)
            · clear hHeld
              rw [if_pos (by rfl)]
              obtain ⟨v1, W4, hrun, hown, hgr, hat⟩ := append_sl (P := Try.prog) (w := W3) (t := 22) (e := 5) Try.underlying22 HI.out HZI0.out HZI1.out HZI2.out bs (.slice (some ⟨bs, 0, none⟩) 0 0) 0 [] HO3.out (.slice ko m kc) k (HKD.out _ HB3.out) HLK.out hbl 22
              refine wp_append_run (.tmp 23) (.tmp 24) 22 22 22 rfl rfl _ _ v1 W4 rfl rfl hrun ?_
              have hrw : ∀ k, Value.ownBlock (.slice (some ⟨bs, 0, none⟩) 0 0) = some k → bs ≤ k := own_block_le HO3.out
              have HB4 := hide (HB3.out.grown hgr HB3.out.size (fun k e => by have h1 := hrw k e; have h2 := HS00.out; omega))
              have HZ4 : Hid (Blk W4 g26 5 .u8 [0]) := hide ((hgr.block g26 HZ3.out.lt (fun e => NZ3 e.symm)).trans HZ3.out)
              have NZ4 : v1.ownBlock ≠ some g26 := fun e => hat.elim (fun h => NZ3 (h ▸ e)) (fun h => by rw [h] at e; injection e with e; have := HZ3.out.lt; omega)
              have HP4 : Hid (W4.heap[g29]? = some (.cells #[.slice ao n cap] 22)) := hide ((hgr.block g29 (Array.getElem?_eq_some_iff.1 HP3.out).1 (fun e => NP3 e.symm)).trans HP3.out)
              have NP4 : v1.ownBlock ≠ some g29 := fun e => hat.elim (fun h => NP3 (h ▸ e)) (fun h => by rw [h] at e; injection e with e; have := (Array.getElem?_eq_some_iff.1 HP3.out).1; omega)
              replace hbl := Nat.le_trans hbl hgr.size
              have HO4 := hide hown
              clear hrun hown hgr hat hrw
              refine hK.out _ _ (HS.out _ (HB00.out.trans (HB4.out.mono (Nat.le_of_eq HS0E.out)))) (fun hHeld => ?_)
              clear hK K
              try simp only [Act.put, List.setIfInBounds_toArray, List.set_cons_zero, List.set_cons_succ]
              refine wpAnyH_ready (rs := [4]) (by kernel_rfl) (by simp) ?_
              refine (AllReadyH.cons (o := { dst := some 27, op := Op.call { callee := Callee.builtin Builtin.append, args := #[Operand.tmp 25, Operand.tmp 26], argTypes := #[22, 22] }, type := 22, pos := "law.go:37", after := #[{ on := 2, ground := Ground.data }, { on := 3, ground := Ground.data }, { on := 2, ground := Ground.chain }], guard := none }) rfl (fun K hK => ?_) AllReadyH.nil)
              · clear hHeld
                rw [if_pos (by rfl)]
                obtain ⟨v2, W5, hrun, hown, hgr, hat⟩ := append_sl (P := Try.prog) (w := W4) (t := 22) (e := 5) Try.underlying22 HI.out HZI0.out HZI1.out HZI2.out bs v1 (0 + k.length) ([] ++ k) HO4.out (.slice (some ⟨g26, 0, none⟩) 1 1) [0] (slAt_blk HZ4.out rfl) HLZ.out hbl 22
                refine wp_append_run (.tmp 25) (.tmp 26) 22 22 22 rfl rfl _ _ v2 W5 rfl rfl hrun ?_
                have hrw : ∀ k, Value.ownBlock v1 = some k → bs ≤ k := own_block_le HO4.out
                have HB5 := hide (HB4.out.grown hgr HB4.out.size (fun k e => by have h1 := hrw k e; have h2 := HS00.out; omega))
                have HP5 : Hid (W5.heap[g29]? = some (.cells #[.slice ao n cap] 22)) := hide ((hgr.block g29 (Array.getElem?_eq_some_iff.1 HP4.out).1 (fun e => NP4 e.symm)).trans HP4.out)
                have NP5 : v2.ownBlock ≠ some g29 := fun e => hat.elim (fun h => NP4 (h ▸ e)) (fun h => by rw [h] at e; injection e with e; have := (Array.getElem?_eq_some_iff.1 HP4.out).1; omega)
                replace hbl := Nat.le_trans hbl hgr.size
                have HO5 := hide hown
                clear hrun hown hgr hat hrw
                refine hK.out _ _ (HS.out _ (HB00.out.trans (HB5.out.mono (Nat.le_of_eq HS0E.out)))) (fun hHeld => ?_)
                clear hK K
                try simp only [Act.put, List.setIfInBounds_toArray, List.set_cons_zero, List.set_cons_succ]
                have hsl : SlAt W5 v2 (k ++ [0]) := by have := slAt_ownV HO5.out; rwa [List.nil_append] at this
                have HPA := hide (parts_one (b := g29) ((cell_of_row _ _ 0 _ _ _ HP5.out).trans rfl) (Array.getElem?_eq_some_iff.1 HP5.out).1 (HXD.out _ HB5.out))
                have HSL := hide hsl
                clear hsl
                clear HO5 HP5 hbl hbs
                refine wpAnyH_ready (rs := [7]) (by kernel_rfl) (by simp) ?_
                refine AllReadyH.cons (o := { dst := some 30, op := Op.call { callee := Callee.value (Operand.func 9), args := #[Operand.tmp 27, Operand.tmp 29], argTypes := #[22, 36] }, type := 25, pos := "law.go:37", after := #[{ on := 4, ground := Ground.data }, { on := 6, ground := Ground.data }, { on := 4, ground := Ground.chain }], guard := none }) rfl (fun K hK => ?_) AllReadyH.nil
                clear hHeld
                go_simp
                refine (macOf_any (k ++ [0]) _ _ g29 0 1 W5 HSL.out (by have := HM.out; simp; omega) HPA.out (by simp) (by simp) (by simp; have := HN.out; omega)).mono ?_
                rw [show [xs].flatten = xs from by simp, HXX.out]
                rintro e w6 ⟨rfl, hBX⟩
                have HBd := hide (HB5.out.trans (hBX.mono HB5.out.size))
                clear hBX HPA
                dsimp only
                refine hK.out _ _ (HS.out _ (HB00.out.trans (HBd.out.mono (Nat.le_of_eq HS0E.out)))) (fun hHeld => ?_)
                clear hK K
                try simp only [Act.put, List.setIfInBounds_toArray, List.set_cons_zero, List.set_cons_succ]
                refine wpAnyH_take (i := 9) (oi := { dst := some 32, op := Op.binOp BinOp.eql 25 (Operand.tmp 30) (Operand.tmp 31) 25, type := 4, pos := "law.go:37", after := #[{ on := 7, ground := Ground.data }, { on := 8, ground := Ground.data }], guard := none }) (v := ?_) rfl (by kernel_rfl) (by kernel_rfl) (by kernel_rfl) (fun _ _ _ h => h) (Or.inl ⟨by rfl, ?_⟩) hHeld ?_
                rotate_left
                · intro w hSw; (try dsimp only at hSw); go_simp; first | done | with_reducible rfl
                try simp only [Act.put, List.setIfInBounds_toArray, List.set_cons_zero, List.set_cons_succ]
                refine wpAnyH_take (i := 10) (oi := { dst := some 33, op := Op.move (Operand.tmp 32), type := 4, pos := "law.go:37", after := #[{ on := 9, ground := Ground.data }, { on := 7, ground := Ground.chain }], guard := none }) (v := ?_) rfl (by kernel_rfl) (by kernel_rfl) (by kernel_rfl) (fun _ _ _ h => h) (Or.inl ⟨by rfl, ?_⟩) hHeld ?_
                rotate_left
                · intro w hSw; (try dsimp only at hSw); go_simp; first | done | with_reducible rfl
                try simp only [Act.put, List.setIfInBounds_toArray, List.set_cons_zero, List.set_cons_succ]
                refine wpAnyH_ready (rs := [11]) (by kernel_rfl) (by simp) ?_
                refine AllReadyH.cons (o := { dst := some 34, op := Op.call { callee := Callee.value (Operand.func 8), args := #[], argTypes := #[] }, type := 4, pos := "law.go:37", after := #[{ on := 10, ground := Ground.chain }, { on := 10, ground := Ground.guard }], guard := some (10, true) }) rfl (fun K hK => ?_) AllReadyH.nil
                clear hHeld
                go_simp
                refine (awake_any _).mono ?_
                rintro e w7 ⟨rfl, hBX⟩
                have HBe := hide (HBd.out.trans (hBX.mono HBd.out.size))
                clear hBX HBd
                dsimp only
                refine hK.out _ _ (HS.out _ (HB00.out.trans (HBe.out.mono (Nat.le_of_eq HS0E.out)))) (fun hHeld => ?_)
                clear hK K
                try simp only [Act.put, List.setIfInBounds_toArray, List.set_cons_zero, List.set_cons_succ]
                refine wpAnyH_take (i := 12) (oi := { dst := some 35, op := Op.pick (Operand.tmp 33) (Operand.tmp 34) (Operand.const (Value.bool false)), type := 4, pos := "law.go:37", after := #[{ on := 10, ground := Ground.data }, { on := 11, ground := Ground.data }], guard := none }) (v := ?_) rfl (by kernel_rfl) (by kernel_rfl) (by kernel_rfl) (fun _ _ _ h => h) (Or.inl ⟨by rfl, ?_⟩) hHeld ?_
                rotate_left
                · intro w hSw; (try dsimp only at hSw); go_simp; first | done | with_reducible rfl
                try simp only [Act.put, List.setIfInBounds_toArray, List.set_cons_zero, List.set_cons_succ]
                refine wpAnyH_take (i := 13) (oi := { dst := some 4, op := Op.assign (Operand.tmp 35), type := 4, pos := "law.go:37", after := #[{ on := 12, ground := Ground.data }, { on := 11, ground := Ground.chain }, { on := 0, ground := Ground.phase }, { on := 1, ground := Ground.phase }, { on := 2, ground := Ground.phase }, { on := 3, ground := Ground.phase }, { on := 4, ground := Ground.phase }, { on := 5, ground := Ground.phase }, { on := 6, ground := Ground.phase }, { on := 7, ground := Ground.phase }, { on := 8, ground := Ground.phase }, { on := 9, ground := Ground.phase }, { on := 10, ground := Ground.phase }, { on := 11, ground := Ground.phase }, { on := 12, ground := Ground.phase }], guard := none }) (v := ?_) rfl (by kernel_rfl) (by kernel_rfl) (by kernel_rfl) (fun _ _ _ h => h) (Or.inl ⟨by rfl, ?_⟩) hHeld ?_
                rotate_left
                · intro w hSw; (try dsimp only at hSw); go_simp; first | done | with_reducible rfl
                try simp only [Act.put, List.setIfInBounds_toArray, List.set_cons_zero, List.set_cons_succ]
                refine wpAnyH_done (by kernel_rfl) ?_ _
                go_wp2_with fail
                go_ret
                exact ⟨rfl, HBW.out.trans ((HB00.out.trans (HBe.out.mono (Nat.le_of_eq HS0E.out))).mono HBW.out.size)⟩
        · clear hHeld
          go_simp
          have HB2 := hide (HB1.out.alloc HB1.out.size (.cells #[.slice ao n cap] 22))
          have HZ2 := hide (HZ1.out.alloc (.cells #[.slice ao n cap] 22))
          have HP2 := hide (heap_alloc_new W1 (.cells #[.slice ao n cap] 22))
          generalize W1.alloc (.cells #[.slice ao n cap] 22) = W2 at HB2 HZ2 HP2 ⊢
          generalize W1.heap.size = g29 at HP2 ⊢
          refine hK.out _ _ (HS.out _ (HB00.out.trans (HB2.out.mono (Nat.le_of_eq HS0E.out)))) (fun hHeld => ?_)
          clear hK K
          try simp only [Act.put, List.setIfInBounds_toArray, List.set_cons_zero, List.set_cons_succ]
          refine wpAnyH_ready (rs := [0]) (by kernel_rfl) (by simp) ?_
          refine (AllReadyH.cons (o := { dst := some 23, op := Op.buildSlice 22 0 #[], type := 22, pos := "law.go:37", after := #[], guard := none }) rfl (fun K hK => ?_) AllReadyH.nil)
          · clear hHeld
            go_simp
            have HB3 := hide (HB2.out.alloc HB2.out.size (.cells #[] 5))
            have HZ3 := hide (HZ2.out.alloc (.cells #[] 5))
            have HP3 := hide ((Below.heap_alloc W2 (.cells #[] 5) g29 (Array.getElem?_eq_some_iff.1 HP2.out).1).trans HP2.out)
            have HO3 := hide (own_empty W2 5)
            have NZ3 : (Value.slice (some ⟨W2.heap.size, 0, none⟩) 0 0).ownBlock ≠ some g26 := fun e => by simp [Value.ownBlock] at e; have := HZ2.out.lt; omega
            have NP3 : (Value.slice (some ⟨W2.heap.size, 0, none⟩) 0 0).ownBlock ≠ some g29 := fun e => by simp [Value.ownBlock] at e; have := (Array.getElem?_eq_some_iff.1 HP2.out).1; omega
            have hbs : S0 ≤ W2.heap.size := by rw [HS00.out]; exact HB2.out.size
            have hbl : W2.heap.size ≤ (W2.alloc (.cells #[] 5)).heap.size := by simp
            generalize W2.alloc (.cells #[] 5) = W3 at HB3 HO3 HZ3 HP3 hbl ⊢
            generalize W2.heap.size = bs at HO3 NZ3 NP3 hbs hbl ⊢
            refine hK.out _ _ (HS.out _ (HB00.out.trans (HB3.out.mono (Nat.le_of_eq HS0E.out)))) (fun hHeld => ?_)
            clear hK K
            try simp only [Act.put, List.setIfInBounds_toArray, List.set_cons_zero, List.set_cons_succ]
            refine wpAnyH_ready (rs := [2]) (by kernel_rfl) (by simp) ?_
            refine (AllReadyH.cons (o := { dst := some 25, op := Op.call { callee := Callee.builtin Builtin.append, args := #[Operand.tmp 23, Operand.tmp 24], argTypes := #[22, 22] }, type := 22, pos := "law.go:37", after := #[{ on := 0, ground := Ground.data }, { on := 1, ground := Ground.data }], guard := none }) rfl (fun K hK => ?_) AllReadyH.nil)
            · clear hHeld
              rw [if_pos (by rfl)]
              obtain ⟨v1, W4, hrun, hown, hgr, hat⟩ := append_sl (P := Try.prog) (w := W3) (t := 22) (e := 5) Try.underlying22 HI.out HZI0.out HZI1.out HZI2.out bs (.slice (some ⟨bs, 0, none⟩) 0 0) 0 [] HO3.out (.slice ko m kc) k (HKD.out _ HB3.out) HLK.out hbl 22
              refine wp_append_run (.tmp 23) (.tmp 24) 22 22 22 rfl rfl _ _ v1 W4 rfl rfl hrun ?_
              have hrw : ∀ k, Value.ownBlock (.slice (some ⟨bs, 0, none⟩) 0 0) = some k → bs ≤ k := own_block_le HO3.out
              have HB4 := hide (HB3.out.grown hgr HB3.out.size (fun k e => by have h1 := hrw k e; have h2 := HS00.out; omega))
              have HZ4 : Hid (Blk W4 g26 5 .u8 [0]) := hide ((hgr.block g26 HZ3.out.lt (fun e => NZ3 e.symm)).trans HZ3.out)
              have NZ4 : v1.ownBlock ≠ some g26 := fun e => hat.elim (fun h => NZ3 (h ▸ e)) (fun h => by rw [h] at e; injection e with e; have := HZ3.out.lt; omega)
              have HP4 : Hid (W4.heap[g29]? = some (.cells #[.slice ao n cap] 22)) := hide ((hgr.block g29 (Array.getElem?_eq_some_iff.1 HP3.out).1 (fun e => NP3 e.symm)).trans HP3.out)
              have NP4 : v1.ownBlock ≠ some g29 := fun e => hat.elim (fun h => NP3 (h ▸ e)) (fun h => by rw [h] at e; injection e with e; have := (Array.getElem?_eq_some_iff.1 HP3.out).1; omega)
              replace hbl := Nat.le_trans hbl hgr.size
              have HO4 := hide hown
              clear hrun hown hgr hat hrw
              refine hK.out _ _ (HS.out _ (HB00.out.trans (HB4.out.mono (Nat.le_of_eq HS0E.out)))) (fun hHeld => ?_)
              clear hK K
              try simp only [Act.put, List.setIfInBounds_toArray, List.set_cons_zero, List.set_cons_succ]
              refine wpAnyH_ready (rs := [4]) (by kernel_rfl) (by simp) ?_
              refine (AllReadyH.cons (o := { dst := some 27, op := Op.call { callee := Callee.builtin Builtin.append, args := #[Operand.tmp 25, Operand.tmp 26], argTypes := #[22, 22] }, type := 22, pos := "law.go:37", after := #[{ on := 2, ground := Ground.data }, { on := 3, ground := Ground.data }, { on := 2, ground := Ground.chain }], guard := none }) rfl (fun K hK => ?_) AllReadyH.nil)
              · clear hHeld
                rw [if_pos (by rfl)]
                obtain ⟨v2, W5, hrun, hown, hgr, hat⟩ := append_sl (P := Try.prog) (w := W4) (t := 22) (e := 5) Try.underlying22 HI.out HZI0.out HZI1.out HZI2.out bs v1 (0 + k.length) ([] ++ k) HO4.out (.slice (some ⟨g26, 0, none⟩) 1 1) [0] (slAt_blk HZ4.out rfl) HLZ.out hbl 22
                refine wp_append_run (.tmp 25) (.tmp 26) 22 22 22 rfl rfl _ _ v2 W5 rfl rfl hrun ?_
                have hrw : ∀ k, Value.ownBlock v1 = some k → bs ≤ k := own_block_le HO4.out
                have HB5 := hide (HB4.out.grown hgr HB4.out.size (fun k e => by have h1 := hrw k e; have h2 := HS00.out; omega))
                have HP5 : Hid (W5.heap[g29]? = some (.cells #[.slice ao n cap] 22)) := hide ((hgr.block g29 (Array.getElem?_eq_some_iff.1 HP4.out).1 (fun e => NP4 e.symm)).trans HP4.out)
                have NP5 : v2.ownBlock ≠ some g29 := fun e => hat.elim (fun h => NP4 (h ▸ e)) (fun h => by rw [h] at e; injection e with e; have := (Array.getElem?_eq_some_iff.1 HP4.out).1; omega)
                replace hbl := Nat.le_trans hbl hgr.size
                have HO5 := hide hown
                clear hrun hown hgr hat hrw
                refine hK.out _ _ (HS.out _ (HB00.out.trans (HB5.out.mono (Nat.le_of_eq HS0E.out)))) (fun hHeld => ?_)
                clear hK K
                try simp only [Act.put, List.setIfInBounds_toArray, List.set_cons_zero, List.set_cons_succ]
                have hsl : SlAt W5 v2 (k ++ [0]) := by have := slAt_ownV HO5.out; rwa [List.nil_append] at this
                have HPA := hide (parts_one (b := g29) ((cell_of_row _ _ 0 _ _ _ HP5.out).trans rfl) (Array.getElem?_eq_some_iff.1 HP5.out).1 (HXD.out _ HB5.out))
                have HSL := hide hsl
                clear hsl
                clear HO5 HP5 hbl hbs
                refine wpAnyH_ready (rs := [7]) (by kernel_rfl) (by simp) ?_
                refine AllReadyH.cons (o := { dst := some 30, op := Op.call { callee := Callee.value (Operand.func 9), args := #[Operand.tmp 27, Operand.tmp 29], argTypes := #[22, 36] }, type := 25, pos := "law.go:37", after := #[{ on := 4, ground := Ground.data }, { on := 6, ground := Ground.data }, { on := 4, ground := Ground.chain }], guard := none }) rfl (fun K hK => ?_) AllReadyH.nil
                clear hHeld
                go_simp
                refine (macOf_any (k ++ [0]) _ _ g29 0 1 W5 HSL.out (by have := HM.out; simp; omega) HPA.out (by simp) (by simp) (by simp; have := HN.out; omega)).mono ?_
                rw [show [xs].flatten = xs from by simp, HXX.out]
                rintro e w6 ⟨rfl, hBX⟩
                have HBd := hide (HB5.out.trans (hBX.mono HB5.out.size))
                clear hBX HPA
                dsimp only
                refine hK.out _ _ (HS.out _ (HB00.out.trans (HBd.out.mono (Nat.le_of_eq HS0E.out)))) (fun hHeld => ?_)
                clear hK K
                try simp only [Act.put, List.setIfInBounds_toArray, List.set_cons_zero, List.set_cons_succ]
                refine wpAnyH_take (i := 9) (oi := { dst := some 32, op := Op.binOp BinOp.eql 25 (Operand.tmp 30) (Operand.tmp 31) 25, type := 4, pos := "law.go:37", after := #[{ on := 7, ground := Ground.data }, { on := 8, ground := Ground.data }], guard := none }) (v := ?_) rfl (by kernel_rfl) (by kernel_rfl) (by kernel_rfl) (fun _ _ _ h => h) (Or.inl ⟨by rfl, ?_⟩) hHeld ?_
                rotate_left
                · intro w hSw; (try dsimp only at hSw); go_simp; first | done | with_reducible rfl
                try simp only [Act.put, List.setIfInBounds_toArray, List.set_cons_zero, List.set_cons_succ]
                refine wpAnyH_take (i := 10) (oi := { dst := some 33, op := Op.move (Operand.tmp 32), type := 4, pos := "law.go:37", after := #[{ on := 9, ground := Ground.data }, { on := 7, ground := Ground.chain }], guard := none }) (v := ?_) rfl (by kernel_rfl) (by kernel_rfl) (by kernel_rfl) (fun _ _ _ h => h) (Or.inl ⟨by rfl, ?_⟩) hHeld ?_
                rotate_left
                · intro w hSw; (try dsimp only at hSw); go_simp; first | done | with_reducible rfl
                try simp only [Act.put, List.setIfInBounds_toArray, List.set_cons_zero, List.set_cons_succ]
                refine wpAnyH_ready (rs := [11]) (by kernel_rfl) (by simp) ?_
                refine AllReadyH.cons (o := { dst := some 34, op := Op.call { callee := Callee.value (Operand.func 8), args := #[], argTypes := #[] }, type := 4, pos := "law.go:37", after := #[{ on := 10, ground := Ground.chain }, { on := 10, ground := Ground.guard }], guard := some (10, true) }) rfl (fun K hK => ?_) AllReadyH.nil
                clear hHeld
                go_simp
                refine (awake_any _).mono ?_
                rintro e w7 ⟨rfl, hBX⟩
                have HBe := hide (HBd.out.trans (hBX.mono HBd.out.size))
                clear hBX HBd
                dsimp only
                refine hK.out _ _ (HS.out _ (HB00.out.trans (HBe.out.mono (Nat.le_of_eq HS0E.out)))) (fun hHeld => ?_)
                clear hK K
                try simp only [Act.put, List.setIfInBounds_toArray, List.set_cons_zero, List.set_cons_succ]
                refine wpAnyH_take (i := 12) (oi := { dst := some 35, op := Op.pick (Operand.tmp 33) (Operand.tmp 34) (Operand.const (Value.bool false)), type := 4, pos := "law.go:37", after := #[{ on := 10, ground := Ground.data }, { on := 11, ground := Ground.data }], guard := none }) (v := ?_) rfl (by kernel_rfl) (by kernel_rfl) (by kernel_rfl) (fun _ _ _ h => h) (Or.inl ⟨by rfl, ?_⟩) hHeld ?_
                rotate_left
                · intro w hSw; (try dsimp only at hSw); go_simp; first | done | with_reducible rfl
                try simp only [Act.put, List.setIfInBounds_toArray, List.set_cons_zero, List.set_cons_succ]
                refine wpAnyH_take (i := 13) (oi := { dst := some 4, op := Op.assign (Operand.tmp 35), type := 4, pos := "law.go:37", after := #[{ on := 12, ground := Ground.data }, { on := 11, ground := Ground.chain }, { on := 0, ground := Ground.phase }, { on := 1, ground := Ground.phase }, { on := 2, ground := Ground.phase }, { on := 3, ground := Ground.phase }, { on := 4, ground := Ground.phase }, { on := 5, ground := Ground.phase }, { on := 6, ground := Ground.phase }, { on := 7, ground := Ground.phase }, { on := 8, ground := Ground.phase }, { on := 9, ground := Ground.phase }, { on := 10, ground := Ground.phase }, { on := 11, ground := Ground.phase }, { on := 12, ground := Ground.phase }], guard := none }) (v := ?_) rfl (by kernel_rfl) (by kernel_rfl) (by kernel_rfl) (fun _ _ _ h => h) (Or.inl ⟨by rfl, ?_⟩) hHeld ?_
                rotate_left
                · intro w hSw; (try dsimp only at hSw); go_simp; first | done | with_reducible rfl
                try simp only [Act.put, List.setIfInBounds_toArray, List.set_cons_zero, List.set_cons_succ]
                refine wpAnyH_done (by kernel_rfl) ?_ _
                go_wp2_with fail
                go_ret
                exact ⟨rfl, HBW.out.trans ((HB00.out.trans (HBe.out.mono (Nat.le_of_eq HS0E.out))).mono HBW.out.size)⟩
      · clear hHeld
        go_simp
        have HB1 := hide (HB0.out.alloc HB0.out.size (.cells #[.slice ao n cap] 22))
        have HP1 := hide (heap_alloc_new W0 (.cells #[.slice ao n cap] 22))
        generalize W0.alloc (.cells #[.slice ao n cap] 22) = W1 at HB1 HP1 ⊢
        generalize W0.heap.size = g29 at HP1 ⊢
        refine hK.out _ _ (HS.out _ (HB00.out.trans (HB1.out.mono (Nat.le_of_eq HS0E.out)))) (fun hHeld => ?_)
        clear hK K
        try simp only [Act.put, List.setIfInBounds_toArray, List.set_cons_zero, List.set_cons_succ]
        refine wpAnyH_ready (rs := [0, 3]) (by kernel_rfl) (by simp) ?_
        refine (AllReadyH.cons (o := { dst := some 23, op := Op.buildSlice 22 0 #[], type := 22, pos := "law.go:37", after := #[], guard := none }) rfl (fun K hK => ?_) (AllReadyH.cons (o := { dst := some 26, op := Op.buildSlice 22 1 #[(0, Operand.const (Value.int IntKind.u8 0))], type := 22, pos := "law.go:37", after := #[], guard := none }) rfl (fun K hK => ?_) AllReadyH.nil))
        · clear hHeld
          go_simp
          have HB2 := hide (HB1.out.alloc HB1.out.size (.cells #[] 5))
          have HP2 := hide ((Below.heap_alloc W1 (.cells #[] 5) g29 (Array.getElem?_eq_some_iff.1 HP1.out).1).trans HP1.out)
          have HO2 := hide (own_empty W1 5)
          have NP2 : (Value.slice (some ⟨W1.heap.size, 0, none⟩) 0 0).ownBlock ≠ some g29 := fun e => by simp [Value.ownBlock] at e; have := (Array.getElem?_eq_some_iff.1 HP1.out).1; omega
          have hbs : S0 ≤ W1.heap.size := by rw [HS00.out]; exact HB1.out.size
          have hbl : W1.heap.size ≤ (W1.alloc (.cells #[] 5)).heap.size := by simp
          generalize W1.alloc (.cells #[] 5) = W2 at HB2 HO2 HP2 hbl ⊢
          generalize W1.heap.size = bs at HO2 NP2 hbs hbl ⊢
          refine hK.out _ _ (HS.out _ (HB00.out.trans (HB2.out.mono (Nat.le_of_eq HS0E.out)))) (fun hHeld => ?_)
          clear hK K
          try simp only [Act.put, List.setIfInBounds_toArray, List.set_cons_zero, List.set_cons_succ]
          refine wpAnyH_ready (rs := [2, 3]) (by kernel_rfl) (by simp) ?_
          refine (AllReadyH.cons (o := { dst := some 25, op := Op.call { callee := Callee.builtin Builtin.append, args := #[Operand.tmp 23, Operand.tmp 24], argTypes := #[22, 22] }, type := 22, pos := "law.go:37", after := #[{ on := 0, ground := Ground.data }, { on := 1, ground := Ground.data }], guard := none }) rfl (fun K hK => ?_) (AllReadyH.cons (o := { dst := some 26, op := Op.buildSlice 22 1 #[(0, Operand.const (Value.int IntKind.u8 0))], type := 22, pos := "law.go:37", after := #[], guard := none }) rfl (fun K hK => ?_) AllReadyH.nil))
          · clear hHeld
            rw [if_pos (by rfl)]
            obtain ⟨v1, W3, hrun, hown, hgr, hat⟩ := append_sl (P := Try.prog) (w := W2) (t := 22) (e := 5) Try.underlying22 HI.out HZI0.out HZI1.out HZI2.out bs (.slice (some ⟨bs, 0, none⟩) 0 0) 0 [] HO2.out (.slice ko m kc) k (HKD.out _ HB2.out) HLK.out hbl 22
            refine wp_append_run (.tmp 23) (.tmp 24) 22 22 22 rfl rfl _ _ v1 W3 rfl rfl hrun ?_
            have hrw : ∀ k, Value.ownBlock (.slice (some ⟨bs, 0, none⟩) 0 0) = some k → bs ≤ k := own_block_le HO2.out
            have HB3 := hide (HB2.out.grown hgr HB2.out.size (fun k e => by have h1 := hrw k e; have h2 := HS00.out; omega))
            have HP3 : Hid (W3.heap[g29]? = some (.cells #[.slice ao n cap] 22)) := hide ((hgr.block g29 (Array.getElem?_eq_some_iff.1 HP2.out).1 (fun e => NP2 e.symm)).trans HP2.out)
            have NP3 : v1.ownBlock ≠ some g29 := fun e => hat.elim (fun h => NP2 (h ▸ e)) (fun h => by rw [h] at e; injection e with e; have := (Array.getElem?_eq_some_iff.1 HP2.out).1; omega)
            replace hbl := Nat.le_trans hbl hgr.size
            have HO3 := hide hown
            clear hrun hown hgr hat hrw
            refine hK.out _ _ (HS.out _ (HB00.out.trans (HB3.out.mono (Nat.le_of_eq HS0E.out)))) (fun hHeld => ?_)
            clear hK K
            try simp only [Act.put, List.setIfInBounds_toArray, List.set_cons_zero, List.set_cons_succ]
            refine wpAnyH_ready (rs := [3]) (by kernel_rfl) (by simp) ?_
            refine (AllReadyH.cons (o := { dst := some 26, op := Op.buildSlice 22 1 #[(0, Operand.const (Value.int IntKind.u8 0))], type := 22, pos := "law.go:37", after := #[], guard := none }) rfl (fun K hK => ?_) AllReadyH.nil)
            · clear hHeld
              go_simp
              change K _ (W3.alloc (.cells (cellsOf .u8 [0]) 5))
              have HB4 := hide (HB3.out.alloc HB3.out.size (.cells (cellsOf .u8 [0]) 5))
              have HO4 := hide (HO3.out.alloc (.cells (cellsOf .u8 [0]) 5))
              have HP4 := hide ((Below.heap_alloc W3 (.cells (cellsOf .u8 [0]) 5) g29 (Array.getElem?_eq_some_iff.1 HP3.out).1).trans HP3.out)
              have HZ4 := hide (Blk.new W3 5 .u8 [0])
              have NZ4 : Value.ownBlock v1 ≠ some W3.heap.size := fun e => by have := HO3.out; have h2 := own_block_lt this e; omega
              replace hbl : bs ≤ (W3.alloc (.cells (cellsOf .u8 [0]) 5)).heap.size := Nat.le_trans hbl (by simp)
              have NP4 := NP3
              generalize W3.alloc (.cells (cellsOf .u8 [0]) 5) = W4 at HB4 HO4 HZ4 HP4 hbl ⊢
              generalize W3.heap.size = g26 at HZ4 NZ4 ⊢
              refine hK.out _ _ (HS.out _ (HB00.out.trans (HB4.out.mono (Nat.le_of_eq HS0E.out)))) (fun hHeld => ?_)
              clear hK K
              try simp only [Act.put, List.setIfInBounds_toArray, List.set_cons_zero, List.set_cons_succ]
              refine wpAnyH_ready (rs := [4]) (by kernel_rfl) (by simp) ?_
              refine (AllReadyH.cons (o := { dst := some 27, op := Op.call { callee := Callee.builtin Builtin.append, args := #[Operand.tmp 25, Operand.tmp 26], argTypes := #[22, 22] }, type := 22, pos := "law.go:37", after := #[{ on := 2, ground := Ground.data }, { on := 3, ground := Ground.data }, { on := 2, ground := Ground.chain }], guard := none }) rfl (fun K hK => ?_) AllReadyH.nil)
              · clear hHeld
                rw [if_pos (by rfl)]
                obtain ⟨v2, W5, hrun, hown, hgr, hat⟩ := append_sl (P := Try.prog) (w := W4) (t := 22) (e := 5) Try.underlying22 HI.out HZI0.out HZI1.out HZI2.out bs v1 (0 + k.length) ([] ++ k) HO4.out (.slice (some ⟨g26, 0, none⟩) 1 1) [0] (slAt_blk HZ4.out rfl) HLZ.out hbl 22
                refine wp_append_run (.tmp 25) (.tmp 26) 22 22 22 rfl rfl _ _ v2 W5 rfl rfl hrun ?_
                have hrw : ∀ k, Value.ownBlock v1 = some k → bs ≤ k := own_block_le HO4.out
                have HB5 := hide (HB4.out.grown hgr HB4.out.size (fun k e => by have h1 := hrw k e; have h2 := HS00.out; omega))
                have HP5 : Hid (W5.heap[g29]? = some (.cells #[.slice ao n cap] 22)) := hide ((hgr.block g29 (Array.getElem?_eq_some_iff.1 HP4.out).1 (fun e => NP4 e.symm)).trans HP4.out)
                have NP5 : v2.ownBlock ≠ some g29 := fun e => hat.elim (fun h => NP4 (h ▸ e)) (fun h => by rw [h] at e; injection e with e; have := (Array.getElem?_eq_some_iff.1 HP4.out).1; omega)
                replace hbl := Nat.le_trans hbl hgr.size
                have HO5 := hide hown
                clear hrun hown hgr hat hrw
                refine hK.out _ _ (HS.out _ (HB00.out.trans (HB5.out.mono (Nat.le_of_eq HS0E.out)))) (fun hHeld => ?_)
                clear hK K
                try simp only [Act.put, List.setIfInBounds_toArray, List.set_cons_zero, List.set_cons_succ]
                have hsl : SlAt W5 v2 (k ++ [0]) := by have := slAt_ownV HO5.out; rwa [List.nil_append] at this
                have HPA := hide (parts_one (b := g29) ((cell_of_row _ _ 0 _ _ _ HP5.out).trans rfl) (Array.getElem?_eq_some_iff.1 HP5.out).1 (HXD.out _ HB5.out))
                have HSL := hide hsl
                clear hsl
                clear HO5 HP5 hbl hbs
                refine wpAnyH_ready (rs := [7]) (by kernel_rfl) (by simp) ?_
                refine AllReadyH.cons (o := { dst := some 30, op := Op.call { callee := Callee.value (Operand.func 9), args := #[Operand.tmp 27, Operand.tmp 29], argTypes := #[22, 36] }, type := 25, pos := "law.go:37", after := #[{ on := 4, ground := Ground.data }, { on := 6, ground := Ground.data }, { on := 4, ground := Ground.chain }], guard := none }) rfl (fun K hK => ?_) AllReadyH.nil
                clear hHeld
                go_simp
                refine (macOf_any (k ++ [0]) _ _ g29 0 1 W5 HSL.out (by have := HM.out; simp; omega) HPA.out (by simp) (by simp) (by simp; have := HN.out; omega)).mono ?_
                rw [show [xs].flatten = xs from by simp, HXX.out]
                rintro e w6 ⟨rfl, hBX⟩
                have HBd := hide (HB5.out.trans (hBX.mono HB5.out.size))
                clear hBX HPA
                dsimp only
                refine hK.out _ _ (HS.out _ (HB00.out.trans (HBd.out.mono (Nat.le_of_eq HS0E.out)))) (fun hHeld => ?_)
                clear hK K
                try simp only [Act.put, List.setIfInBounds_toArray, List.set_cons_zero, List.set_cons_succ]
                refine wpAnyH_take (i := 9) (oi := { dst := some 32, op := Op.binOp BinOp.eql 25 (Operand.tmp 30) (Operand.tmp 31) 25, type := 4, pos := "law.go:37", after := #[{ on := 7, ground := Ground.data }, { on := 8, ground := Ground.data }], guard := none }) (v := ?_) rfl (by kernel_rfl) (by kernel_rfl) (by kernel_rfl) (fun _ _ _ h => h) (Or.inl ⟨by rfl, ?_⟩) hHeld ?_
                rotate_left
                · intro w hSw; (try dsimp only at hSw); go_simp; first | done | with_reducible rfl
                try simp only [Act.put, List.setIfInBounds_toArray, List.set_cons_zero, List.set_cons_succ]
                refine wpAnyH_take (i := 10) (oi := { dst := some 33, op := Op.move (Operand.tmp 32), type := 4, pos := "law.go:37", after := #[{ on := 9, ground := Ground.data }, { on := 7, ground := Ground.chain }], guard := none }) (v := ?_) rfl (by kernel_rfl) (by kernel_rfl) (by kernel_rfl) (fun _ _ _ h => h) (Or.inl ⟨by rfl, ?_⟩) hHeld ?_
                rotate_left
                · intro w hSw; (try dsimp only at hSw); go_simp; first | done | with_reducible rfl
                try simp only [Act.put, List.setIfInBounds_toArray, List.set_cons_zero, List.set_cons_succ]
                refine wpAnyH_ready (rs := [11]) (by kernel_rfl) (by simp) ?_
                refine AllReadyH.cons (o := { dst := some 34, op := Op.call { callee := Callee.value (Operand.func 8), args := #[], argTypes := #[] }, type := 4, pos := "law.go:37", after := #[{ on := 10, ground := Ground.chain }, { on := 10, ground := Ground.guard }], guard := some (10, true) }) rfl (fun K hK => ?_) AllReadyH.nil
                clear hHeld
                go_simp
                refine (awake_any _).mono ?_
                rintro e w7 ⟨rfl, hBX⟩
                have HBe := hide (HBd.out.trans (hBX.mono HBd.out.size))
                clear hBX HBd
                dsimp only
                refine hK.out _ _ (HS.out _ (HB00.out.trans (HBe.out.mono (Nat.le_of_eq HS0E.out)))) (fun hHeld => ?_)
                clear hK K
                try simp only [Act.put, List.setIfInBounds_toArray, List.set_cons_zero, List.set_cons_succ]
                refine wpAnyH_take (i := 12) (oi := { dst := some 35, op := Op.pick (Operand.tmp 33) (Operand.tmp 34) (Operand.const (Value.bool false)), type := 4, pos := "law.go:37", after := #[{ on := 10, ground := Ground.data }, { on := 11, ground := Ground.data }], guard := none }) (v := ?_) rfl (by kernel_rfl) (by kernel_rfl) (by kernel_rfl) (fun _ _ _ h => h) (Or.inl ⟨by rfl, ?_⟩) hHeld ?_
                rotate_left
                · intro w hSw; (try dsimp only at hSw); go_simp; first | done | with_reducible rfl
                try simp only [Act.put, List.setIfInBounds_toArray, List.set_cons_zero, List.set_cons_succ]
                refine wpAnyH_take (i := 13) (oi := { dst := some 4, op := Op.assign (Operand.tmp 35), type := 4, pos := "law.go:37", after := #[{ on := 12, ground := Ground.data }, { on := 11, ground := Ground.chain }, { on := 0, ground := Ground.phase }, { on := 1, ground := Ground.phase }, { on := 2, ground := Ground.phase }, { on := 3, ground := Ground.phase }, { on := 4, ground := Ground.phase }, { on := 5, ground := Ground.phase }, { on := 6, ground := Ground.phase }, { on := 7, ground := Ground.phase }, { on := 8, ground := Ground.phase }, { on := 9, ground := Ground.phase }, { on := 10, ground := Ground.phase }, { on := 11, ground := Ground.phase }, { on := 12, ground := Ground.phase }], guard := none }) (v := ?_) rfl (by kernel_rfl) (by kernel_rfl) (by kernel_rfl) (fun _ _ _ h => h) (Or.inl ⟨by rfl, ?_⟩) hHeld ?_
                rotate_left
                · intro w hSw; (try dsimp only at hSw); go_simp; first | done | with_reducible rfl
                try simp only [Act.put, List.setIfInBounds_toArray, List.set_cons_zero, List.set_cons_succ]
                refine wpAnyH_done (by kernel_rfl) ?_ _
                go_wp2_with fail
                go_ret
                exact ⟨rfl, HBW.out.trans ((HB00.out.trans (HBe.out.mono (Nat.le_of_eq HS0E.out))).mono HBW.out.size)⟩
          · clear hHeld
            go_simp
            change K _ (W2.alloc (.cells (cellsOf .u8 [0]) 5))
            have HB3 := hide (HB2.out.alloc HB2.out.size (.cells (cellsOf .u8 [0]) 5))
            have HO3 := hide (HO2.out.alloc (.cells (cellsOf .u8 [0]) 5))
            have HP3 := hide ((Below.heap_alloc W2 (.cells (cellsOf .u8 [0]) 5) g29 (Array.getElem?_eq_some_iff.1 HP2.out).1).trans HP2.out)
            have HZ3 := hide (Blk.new W2 5 .u8 [0])
            have NZ3 : Value.ownBlock (.slice (some ⟨bs, 0, none⟩) 0 0) ≠ some W2.heap.size := fun e => by have := HO2.out; have h2 := own_block_lt this e; omega
            replace hbl : bs ≤ (W2.alloc (.cells (cellsOf .u8 [0]) 5)).heap.size := Nat.le_trans hbl (by simp)
            have NP3 := NP2
            generalize W2.alloc (.cells (cellsOf .u8 [0]) 5) = W3 at HB3 HO3 HZ3 HP3 hbl ⊢
            generalize W2.heap.size = g26 at HZ3 NZ3 ⊢
            refine hK.out _ _ (HS.out _ (HB00.out.trans (HB3.out.mono (Nat.le_of_eq HS0E.out)))) (fun hHeld => ?_)
            clear hK K
            try simp only [Act.put, List.setIfInBounds_toArray, List.set_cons_zero, List.set_cons_succ]
            refine wpAnyH_ready (rs := [2]) (by kernel_rfl) (by simp) ?_
            refine (AllReadyH.cons (o := { dst := some 25, op := Op.call { callee := Callee.builtin Builtin.append, args := #[Operand.tmp 23, Operand.tmp 24], argTypes := #[22, 22] }, type := 22, pos := "law.go:37", after := #[{ on := 0, ground := Ground.data }, { on := 1, ground := Ground.data }], guard := none }) rfl (fun K hK => ?_) AllReadyH.nil)
            · clear hHeld
              rw [if_pos (by rfl)]
              obtain ⟨v1, W4, hrun, hown, hgr, hat⟩ := append_sl (P := Try.prog) (w := W3) (t := 22) (e := 5) Try.underlying22 HI.out HZI0.out HZI1.out HZI2.out bs (.slice (some ⟨bs, 0, none⟩) 0 0) 0 [] HO3.out (.slice ko m kc) k (HKD.out _ HB3.out) HLK.out hbl 22
              refine wp_append_run (.tmp 23) (.tmp 24) 22 22 22 rfl rfl _ _ v1 W4 rfl rfl hrun ?_
              have hrw : ∀ k, Value.ownBlock (.slice (some ⟨bs, 0, none⟩) 0 0) = some k → bs ≤ k := own_block_le HO3.out
              have HB4 := hide (HB3.out.grown hgr HB3.out.size (fun k e => by have h1 := hrw k e; have h2 := HS00.out; omega))
              have HZ4 : Hid (Blk W4 g26 5 .u8 [0]) := hide ((hgr.block g26 HZ3.out.lt (fun e => NZ3 e.symm)).trans HZ3.out)
              have NZ4 : v1.ownBlock ≠ some g26 := fun e => hat.elim (fun h => NZ3 (h ▸ e)) (fun h => by rw [h] at e; injection e with e; have := HZ3.out.lt; omega)
              have HP4 : Hid (W4.heap[g29]? = some (.cells #[.slice ao n cap] 22)) := hide ((hgr.block g29 (Array.getElem?_eq_some_iff.1 HP3.out).1 (fun e => NP3 e.symm)).trans HP3.out)
              have NP4 : v1.ownBlock ≠ some g29 := fun e => hat.elim (fun h => NP3 (h ▸ e)) (fun h => by rw [h] at e; injection e with e; have := (Array.getElem?_eq_some_iff.1 HP3.out).1; omega)
              replace hbl := Nat.le_trans hbl hgr.size
              have HO4 := hide hown
              clear hrun hown hgr hat hrw
              refine hK.out _ _ (HS.out _ (HB00.out.trans (HB4.out.mono (Nat.le_of_eq HS0E.out)))) (fun hHeld => ?_)
              clear hK K
              try simp only [Act.put, List.setIfInBounds_toArray, List.set_cons_zero, List.set_cons_succ]
              refine wpAnyH_ready (rs := [4]) (by kernel_rfl) (by simp) ?_
              refine (AllReadyH.cons (o := { dst := some 27, op := Op.call { callee := Callee.builtin Builtin.append, args := #[Operand.tmp 25, Operand.tmp 26], argTypes := #[22, 22] }, type := 22, pos := "law.go:37", after := #[{ on := 2, ground := Ground.data }, { on := 3, ground := Ground.data }, { on := 2, ground := Ground.chain }], guard := none }) rfl (fun K hK => ?_) AllReadyH.nil)
              · clear hHeld
                rw [if_pos (by rfl)]
                obtain ⟨v2, W5, hrun, hown, hgr, hat⟩ := append_sl (P := Try.prog) (w := W4) (t := 22) (e := 5) Try.underlying22 HI.out HZI0.out HZI1.out HZI2.out bs v1 (0 + k.length) ([] ++ k) HO4.out (.slice (some ⟨g26, 0, none⟩) 1 1) [0] (slAt_blk HZ4.out rfl) HLZ.out hbl 22
                refine wp_append_run (.tmp 25) (.tmp 26) 22 22 22 rfl rfl _ _ v2 W5 rfl rfl hrun ?_
                have hrw : ∀ k, Value.ownBlock v1 = some k → bs ≤ k := own_block_le HO4.out
                have HB5 := hide (HB4.out.grown hgr HB4.out.size (fun k e => by have h1 := hrw k e; have h2 := HS00.out; omega))
                have HP5 : Hid (W5.heap[g29]? = some (.cells #[.slice ao n cap] 22)) := hide ((hgr.block g29 (Array.getElem?_eq_some_iff.1 HP4.out).1 (fun e => NP4 e.symm)).trans HP4.out)
                have NP5 : v2.ownBlock ≠ some g29 := fun e => hat.elim (fun h => NP4 (h ▸ e)) (fun h => by rw [h] at e; injection e with e; have := (Array.getElem?_eq_some_iff.1 HP4.out).1; omega)
                replace hbl := Nat.le_trans hbl hgr.size
                have HO5 := hide hown
                clear hrun hown hgr hat hrw
                refine hK.out _ _ (HS.out _ (HB00.out.trans (HB5.out.mono (Nat.le_of_eq HS0E.out)))) (fun hHeld => ?_)
                clear hK K
                try simp only [Act.put, List.setIfInBounds_toArray, List.set_cons_zero, List.set_cons_succ]
                have hsl : SlAt W5 v2 (k ++ [0]) := by have := slAt_ownV HO5.out; rwa [List.nil_append] at this
                have HPA := hide (parts_one (b := g29) ((cell_of_row _ _ 0 _ _ _ HP5.out).trans rfl) (Array.getElem?_eq_some_iff.1 HP5.out).1 (HXD.out _ HB5.out))
                have HSL := hide hsl
                clear hsl
                clear HO5 HP5 hbl hbs
                refine wpAnyH_ready (rs := [7]) (by kernel_rfl) (by simp) ?_
                refine AllReadyH.cons (o := { dst := some 30, op := Op.call { callee := Callee.value (Operand.func 9), args := #[Operand.tmp 27, Operand.tmp 29], argTypes := #[22, 36] }, type := 25, pos := "law.go:37", after := #[{ on := 4, ground := Ground.data }, { on := 6, ground := Ground.data }, { on := 4, ground := Ground.chain }], guard := none }) rfl (fun K hK => ?_) AllReadyH.nil
                clear hHeld
                go_simp
                refine (macOf_any (k ++ [0]) _ _ g29 0 1 W5 HSL.out (by have := HM.out; simp; omega) HPA.out (by simp) (by simp) (by simp; have := HN.out; omega)).mono ?_
                rw [show [xs].flatten = xs from by simp, HXX.out]
                rintro e w6 ⟨rfl, hBX⟩
                have HBd := hide (HB5.out.trans (hBX.mono HB5.out.size))
                clear hBX HPA
                dsimp only
                refine hK.out _ _ (HS.out _ (HB00.out.trans (HBd.out.mono (Nat.le_of_eq HS0E.out)))) (fun hHeld => ?_)
                clear hK K
                try simp only [Act.put, List.setIfInBounds_toArray, List.set_cons_zero, List.set_cons_succ]
                refine wpAnyH_take (i := 9) (oi := { dst := some 32, op := Op.binOp BinOp.eql 25 (Operand.tmp 30) (Operand.tmp 31) 25, type := 4, pos := "law.go:37", after := #[{ on := 7, ground := Ground.data }, { on := 8, ground := Ground.data }], guard := none }) (v := ?_) rfl (by kernel_rfl) (by kernel_rfl) (by kernel_rfl) (fun _ _ _ h => h) (Or.inl ⟨by rfl, ?_⟩) hHeld ?_
                rotate_left
                · intro w hSw; (try dsimp only at hSw); go_simp; first | done | with_reducible rfl
                try simp only [Act.put, List.setIfInBounds_toArray, List.set_cons_zero, List.set_cons_succ]
                refine wpAnyH_take (i := 10) (oi := { dst := some 33, op := Op.move (Operand.tmp 32), type := 4, pos := "law.go:37", after := #[{ on := 9, ground := Ground.data }, { on := 7, ground := Ground.chain }], guard := none }) (v := ?_) rfl (by kernel_rfl) (by kernel_rfl) (by kernel_rfl) (fun _ _ _ h => h) (Or.inl ⟨by rfl, ?_⟩) hHeld ?_
                rotate_left
                · intro w hSw; (try dsimp only at hSw); go_simp; first | done | with_reducible rfl
                try simp only [Act.put, List.setIfInBounds_toArray, List.set_cons_zero, List.set_cons_succ]
                refine wpAnyH_ready (rs := [11]) (by kernel_rfl) (by simp) ?_
                refine AllReadyH.cons (o := { dst := some 34, op := Op.call { callee := Callee.value (Operand.func 8), args := #[], argTypes := #[] }, type := 4, pos := "law.go:37", after := #[{ on := 10, ground := Ground.chain }, { on := 10, ground := Ground.guard }], guard := some (10, true) }) rfl (fun K hK => ?_) AllReadyH.nil
                clear hHeld
                go_simp
                refine (awake_any _).mono ?_
                rintro e w7 ⟨rfl, hBX⟩
                have HBe := hide (HBd.out.trans (hBX.mono HBd.out.size))
                clear hBX HBd
                dsimp only
                refine hK.out _ _ (HS.out _ (HB00.out.trans (HBe.out.mono (Nat.le_of_eq HS0E.out)))) (fun hHeld => ?_)
                clear hK K
                try simp only [Act.put, List.setIfInBounds_toArray, List.set_cons_zero, List.set_cons_succ]
                refine wpAnyH_take (i := 12) (oi := { dst := some 35, op := Op.pick (Operand.tmp 33) (Operand.tmp 34) (Operand.const (Value.bool false)), type := 4, pos := "law.go:37", after := #[{ on := 10, ground := Ground.data }, { on := 11, ground := Ground.data }], guard := none }) (v := ?_) rfl (by kernel_rfl) (by kernel_rfl) (by kernel_rfl) (fun _ _ _ h => h) (Or.inl ⟨by rfl, ?_⟩) hHeld ?_
                rotate_left
                · intro w hSw; (try dsimp only at hSw); go_simp; first | done | with_reducible rfl
                try simp only [Act.put, List.setIfInBounds_toArray, List.set_cons_zero, List.set_cons_succ]
                refine wpAnyH_take (i := 13) (oi := { dst := some 4, op := Op.assign (Operand.tmp 35), type := 4, pos := "law.go:37", after := #[{ on := 12, ground := Ground.data }, { on := 11, ground := Ground.chain }, { on := 0, ground := Ground.phase }, { on := 1, ground := Ground.phase }, { on := 2, ground := Ground.phase }, { on := 3, ground := Ground.phase }, { on := 4, ground := Ground.phase }, { on := 5, ground := Ground.phase }, { on := 6, ground := Ground.phase }, { on := 7, ground := Ground.phase }, { on := 8, ground := Ground.phase }, { on := 9, ground := Ground.phase }, { on := 10, ground := Ground.phase }, { on := 11, ground := Ground.phase }, { on := 12, ground := Ground.phase }], guard := none }) (v := ?_) rfl (by kernel_rfl) (by kernel_rfl) (by kernel_rfl) (fun _ _ _ h => h) (Or.inl ⟨by rfl, ?_⟩) hHeld ?_
                rotate_left
                · intro w hSw; (try dsimp only at hSw); go_simp; first | done | with_reducible rfl
                try simp only [Act.put, List.setIfInBounds_toArray, List.set_cons_zero, List.set_cons_succ]
                refine wpAnyH_done (by kernel_rfl) ?_ _
                go_wp2_with fail
                go_ret
                exact ⟨rfl, HBW.out.trans ((HB00.out.trans (HBe.out.mono (Nat.le_of_eq HS0E.out))).mono HBW.out.size)⟩
        · clear hHeld
          go_simp
          change K _ (W1.alloc (.cells (cellsOf .u8 [0]) 5))
          have HB2 := hide (HB1.out.alloc HB1.out.size (.cells (cellsOf .u8 [0]) 5))
          have HP2 := hide ((Below.heap_alloc W1 (.cells (cellsOf .u8 [0]) 5) g29 (Array.getElem?_eq_some_iff.1 HP1.out).1).trans HP1.out)
          have HZ2 := hide (Blk.new W1 5 .u8 [0])
          generalize W1.alloc (.cells (cellsOf .u8 [0]) 5) = W2 at HB2 HZ2 HP2 ⊢
          generalize W1.heap.size = g26 at HZ2 ⊢
          refine hK.out _ _ (HS.out _ (HB00.out.trans (HB2.out.mono (Nat.le_of_eq HS0E.out)))) (fun hHeld => ?_)
          clear hK K
          try simp only [Act.put, List.setIfInBounds_toArray, List.set_cons_zero, List.set_cons_succ]
          refine wpAnyH_ready (rs := [0]) (by kernel_rfl) (by simp) ?_
          refine (AllReadyH.cons (o := { dst := some 23, op := Op.buildSlice 22 0 #[], type := 22, pos := "law.go:37", after := #[], guard := none }) rfl (fun K hK => ?_) AllReadyH.nil)
          · clear hHeld
            go_simp
            have HB3 := hide (HB2.out.alloc HB2.out.size (.cells #[] 5))
            have HZ3 := hide (HZ2.out.alloc (.cells #[] 5))
            have HP3 := hide ((Below.heap_alloc W2 (.cells #[] 5) g29 (Array.getElem?_eq_some_iff.1 HP2.out).1).trans HP2.out)
            have HO3 := hide (own_empty W2 5)
            have NZ3 : (Value.slice (some ⟨W2.heap.size, 0, none⟩) 0 0).ownBlock ≠ some g26 := fun e => by simp [Value.ownBlock] at e; have := HZ2.out.lt; omega
            have NP3 : (Value.slice (some ⟨W2.heap.size, 0, none⟩) 0 0).ownBlock ≠ some g29 := fun e => by simp [Value.ownBlock] at e; have := (Array.getElem?_eq_some_iff.1 HP2.out).1; omega
            have hbs : S0 ≤ W2.heap.size := by rw [HS00.out]; exact HB2.out.size
            have hbl : W2.heap.size ≤ (W2.alloc (.cells #[] 5)).heap.size := by simp
            generalize W2.alloc (.cells #[] 5) = W3 at HB3 HO3 HZ3 HP3 hbl ⊢
            generalize W2.heap.size = bs at HO3 NZ3 NP3 hbs hbl ⊢
            refine hK.out _ _ (HS.out _ (HB00.out.trans (HB3.out.mono (Nat.le_of_eq HS0E.out)))) (fun hHeld => ?_)
            clear hK K
            try simp only [Act.put, List.setIfInBounds_toArray, List.set_cons_zero, List.set_cons_succ]
            refine wpAnyH_ready (rs := [2]) (by kernel_rfl) (by simp) ?_
            refine (AllReadyH.cons (o := { dst := some 25, op := Op.call { callee := Callee.builtin Builtin.append, args := #[Operand.tmp 23, Operand.tmp 24], argTypes := #[22, 22] }, type := 22, pos := "law.go:37", after := #[{ on := 0, ground := Ground.data }, { on := 1, ground := Ground.data }], guard := none }) rfl (fun K hK => ?_) AllReadyH.nil)
            · clear hHeld
              rw [if_pos (by rfl)]
              obtain ⟨v1, W4, hrun, hown, hgr, hat⟩ := append_sl (P := Try.prog) (w := W3) (t := 22) (e := 5) Try.underlying22 HI.out HZI0.out HZI1.out HZI2.out bs (.slice (some ⟨bs, 0, none⟩) 0 0) 0 [] HO3.out (.slice ko m kc) k (HKD.out _ HB3.out) HLK.out hbl 22
              refine wp_append_run (.tmp 23) (.tmp 24) 22 22 22 rfl rfl _ _ v1 W4 rfl rfl hrun ?_
              have hrw : ∀ k, Value.ownBlock (.slice (some ⟨bs, 0, none⟩) 0 0) = some k → bs ≤ k := own_block_le HO3.out
              have HB4 := hide (HB3.out.grown hgr HB3.out.size (fun k e => by have h1 := hrw k e; have h2 := HS00.out; omega))
              have HZ4 : Hid (Blk W4 g26 5 .u8 [0]) := hide ((hgr.block g26 HZ3.out.lt (fun e => NZ3 e.symm)).trans HZ3.out)
              have NZ4 : v1.ownBlock ≠ some g26 := fun e => hat.elim (fun h => NZ3 (h ▸ e)) (fun h => by rw [h] at e; injection e with e; have := HZ3.out.lt; omega)
              have HP4 : Hid (W4.heap[g29]? = some (.cells #[.slice ao n cap] 22)) := hide ((hgr.block g29 (Array.getElem?_eq_some_iff.1 HP3.out).1 (fun e => NP3 e.symm)).trans HP3.out)
              have NP4 : v1.ownBlock ≠ some g29 := fun e => hat.elim (fun h => NP3 (h ▸ e)) (fun h => by rw [h] at e; injection e with e; have := (Array.getElem?_eq_some_iff.1 HP3.out).1; omega)
              replace hbl := Nat.le_trans hbl hgr.size
              have HO4 := hide hown
              clear hrun hown hgr hat hrw
              refine hK.out _ _ (HS.out _ (HB00.out.trans (HB4.out.mono (Nat.le_of_eq HS0E.out)))) (fun hHeld => ?_)
              clear hK K
              try simp only [Act.put, List.setIfInBounds_toArray, List.set_cons_zero, List.set_cons_succ]
              refine wpAnyH_ready (rs := [4]) (by kernel_rfl) (by simp) ?_
              refine (AllReadyH.cons (o := { dst := some 27, op := Op.call { callee := Callee.builtin Builtin.append, args := #[Operand.tmp 25, Operand.tmp 26], argTypes := #[22, 22] }, type := 22, pos := "law.go:37", after := #[{ on := 2, ground := Ground.data }, { on := 3, ground := Ground.data }, { on := 2, ground := Ground.chain }], guard := none }) rfl (fun K hK => ?_) AllReadyH.nil)
              · clear hHeld
                rw [if_pos (by rfl)]
                obtain ⟨v2, W5, hrun, hown, hgr, hat⟩ := append_sl (P := Try.prog) (w := W4) (t := 22) (e := 5) Try.underlying22 HI.out HZI0.out HZI1.out HZI2.out bs v1 (0 + k.length) ([] ++ k) HO4.out (.slice (some ⟨g26, 0, none⟩) 1 1) [0] (slAt_blk HZ4.out rfl) HLZ.out hbl 22
                refine wp_append_run (.tmp 25) (.tmp 26) 22 22 22 rfl rfl _ _ v2 W5 rfl rfl hrun ?_
                have hrw : ∀ k, Value.ownBlock v1 = some k → bs ≤ k := own_block_le HO4.out
                have HB5 := hide (HB4.out.grown hgr HB4.out.size (fun k e => by have h1 := hrw k e; have h2 := HS00.out; omega))
                have HP5 : Hid (W5.heap[g29]? = some (.cells #[.slice ao n cap] 22)) := hide ((hgr.block g29 (Array.getElem?_eq_some_iff.1 HP4.out).1 (fun e => NP4 e.symm)).trans HP4.out)
                have NP5 : v2.ownBlock ≠ some g29 := fun e => hat.elim (fun h => NP4 (h ▸ e)) (fun h => by rw [h] at e; injection e with e; have := (Array.getElem?_eq_some_iff.1 HP4.out).1; omega)
                replace hbl := Nat.le_trans hbl hgr.size
                have HO5 := hide hown
                clear hrun hown hgr hat hrw
                refine hK.out _ _ (HS.out _ (HB00.out.trans (HB5.out.mono (Nat.le_of_eq HS0E.out)))) (fun hHeld => ?_)
                clear hK K
                try simp only [Act.put, List.setIfInBounds_toArray, List.set_cons_zero, List.set_cons_succ]
                have hsl : SlAt W5 v2 (k ++ [0]) := by have := slAt_ownV HO5.out; rwa [List.nil_append] at this
                have HPA := hide (parts_one (b := g29) ((cell_of_row _ _ 0 _ _ _ HP5.out).trans rfl) (Array.getElem?_eq_some_iff.1 HP5.out).1 (HXD.out _ HB5.out))
                have HSL := hide hsl
                clear hsl
                clear HO5 HP5 hbl hbs
                refine wpAnyH_ready (rs := [7]) (by kernel_rfl) (by simp) ?_
                refine AllReadyH.cons (o := { dst := some 30, op := Op.call { callee := Callee.value (Operand.func 9), args := #[Operand.tmp 27, Operand.tmp 29], argTypes := #[22, 36] }, type := 25, pos := "law.go:37", after := #[{ on := 4, ground := Ground.data }, { on := 6, ground := Ground.data }, { on := 4, ground := Ground.chain }], guard := none }) rfl (fun K hK => ?_) AllReadyH.nil
                clear hHeld
                go_simp
                refine (macOf_any (k ++ [0]) _ _ g29 0 1 W5 HSL.out (by have := HM.out; simp; omega) HPA.out (by simp) (by simp) (by simp; have := HN.out; omega)).mono ?_
                rw [show [xs].flatten = xs from by simp, HXX.out]
                rintro e w6 ⟨rfl, hBX⟩
                have HBd := hide (HB5.out.trans (hBX.mono HB5.out.size))
                clear hBX HPA
                dsimp only
                refine hK.out _ _ (HS.out _ (HB00.out.trans (HBd.out.mono (Nat.le_of_eq HS0E.out)))) (fun hHeld => ?_)
                clear hK K
                try simp only [Act.put, List.setIfInBounds_toArray, List.set_cons_zero, List.set_cons_succ]
                refine wpAnyH_take (i := 9) (oi := { dst := some 32, op := Op.binOp BinOp.eql 25 (Operand.tmp 30) (Operand.tmp 31) 25, type := 4, pos := "law.go:37", after := #[{ on := 7, ground := Ground.data }, { on := 8, ground := Ground.data }], guard := none }) (v := ?_) rfl (by kernel_rfl) (by kernel_rfl) (by kernel_rfl) (fun _ _ _ h => h) (Or.inl ⟨by rfl, ?_⟩) hHeld ?_
                rotate_left
                · intro w hSw; (try dsimp only at hSw); go_simp; first | done | with_reducible rfl
                try simp only [Act.put, List.setIfInBounds_toArray, List.set_cons_zero, List.set_cons_succ]
                refine wpAnyH_take (i := 10) (oi := { dst := some 33, op := Op.move (Operand.tmp 32), type := 4, pos := "law.go:37", after := #[{ on := 9, ground := Ground.data }, { on := 7, ground := Ground.chain }], guard := none }) (v := ?_) rfl (by kernel_rfl) (by kernel_rfl) (by kernel_rfl) (fun _ _ _ h => h) (Or.inl ⟨by rfl, ?_⟩) hHeld ?_
                rotate_left
                · intro w hSw; (try dsimp only at hSw); go_simp; first | done | with_reducible rfl
                try simp only [Act.put, List.setIfInBounds_toArray, List.set_cons_zero, List.set_cons_succ]
                refine wpAnyH_ready (rs := [11]) (by kernel_rfl) (by simp) ?_
                refine AllReadyH.cons (o := { dst := some 34, op := Op.call { callee := Callee.value (Operand.func 8), args := #[], argTypes := #[] }, type := 4, pos := "law.go:37", after := #[{ on := 10, ground := Ground.chain }, { on := 10, ground := Ground.guard }], guard := some (10, true) }) rfl (fun K hK => ?_) AllReadyH.nil
                clear hHeld
                go_simp
                refine (awake_any _).mono ?_
                rintro e w7 ⟨rfl, hBX⟩
                have HBe := hide (HBd.out.trans (hBX.mono HBd.out.size))
                clear hBX HBd
                dsimp only
                refine hK.out _ _ (HS.out _ (HB00.out.trans (HBe.out.mono (Nat.le_of_eq HS0E.out)))) (fun hHeld => ?_)
                clear hK K
                try simp only [Act.put, List.setIfInBounds_toArray, List.set_cons_zero, List.set_cons_succ]
                refine wpAnyH_take (i := 12) (oi := { dst := some 35, op := Op.pick (Operand.tmp 33) (Operand.tmp 34) (Operand.const (Value.bool false)), type := 4, pos := "law.go:37", after := #[{ on := 10, ground := Ground.data }, { on := 11, ground := Ground.data }], guard := none }) (v := ?_) rfl (by kernel_rfl) (by kernel_rfl) (by kernel_rfl) (fun _ _ _ h => h) (Or.inl ⟨by rfl, ?_⟩) hHeld ?_
                rotate_left
                · intro w hSw; (try dsimp only at hSw); go_simp; first | done | with_reducible rfl
                try simp only [Act.put, List.setIfInBounds_toArray, List.set_cons_zero, List.set_cons_succ]
                refine wpAnyH_take (i := 13) (oi := { dst := some 4, op := Op.assign (Operand.tmp 35), type := 4, pos := "law.go:37", after := #[{ on := 12, ground := Ground.data }, { on := 11, ground := Ground.chain }, { on := 0, ground := Ground.phase }, { on := 1, ground := Ground.phase }, { on := 2, ground := Ground.phase }, { on := 3, ground := Ground.phase }, { on := 4, ground := Ground.phase }, { on := 5, ground := Ground.phase }, { on := 6, ground := Ground.phase }, { on := 7, ground := Ground.phase }, { on := 8, ground := Ground.phase }, { on := 9, ground := Ground.phase }, { on := 10, ground := Ground.phase }, { on := 11, ground := Ground.phase }, { on := 12, ground := Ground.phase }], guard := none }) (v := ?_) rfl (by kernel_rfl) (by kernel_rfl) (by kernel_rfl) (fun _ _ _ h => h) (Or.inl ⟨by rfl, ?_⟩) hHeld ?_
                rotate_left
                · intro w hSw; (try dsimp only at hSw); go_simp; first | done | with_reducible rfl
                try simp only [Act.put, List.setIfInBounds_toArray, List.set_cons_zero, List.set_cons_succ]
                refine wpAnyH_done (by kernel_rfl) ?_ _
                go_wp2_with fail
                go_ret
                exact ⟨rfl, HBW.out.trans ((HB00.out.trans (HBe.out.mono (Nat.le_of_eq HS0E.out))).mono HBW.out.size)⟩
    · by_cases h64 : m = 64
      · subst h64
        clear hb2 hlt hr HXE hl HXX0 HEQ hm hkm
        generalize (Value.agg (cellsOf .u8 X)) = d9
        go_wp2_with fail
        refine (awake_any _).mono ?_
        rintro e w3 ⟨rfl, hB⟩
        have HB3 := hide (below_through hB HBW.out)
        clear hB HBW
        go_wp2_with fail
        go_ret
        exact ⟨rfl, HB3.out⟩
      · have hne : ((m : Int) == 64) = false := by rw [beq_eq_false_iff_ne]; omega
        generalize (Value.agg (cellsOf .u8 X)) = d9
        have HR := hide hr
        have HLT := hide hlt
        clear hb2 hlt hr HXE hl hm hkm
        go_wp2_with fail
        have HP1 := hide ((Below.refl w2.heap.size w2).alloc (Nat.le_refl _) (.cells #[.slice ko m kc] 22))
        have HC := hide (of_any [k] w2.heap.size 0 1 _ (parts_one ((cell_of_row _ _ 0 _ _ _ (heap_alloc_new w2 (.cells #[.slice ko m kc] 22))).trans rfl) (by simp) (HK.out.below (HBW.out.trans (HP1.out.mono HBW.out.size)))) (by simp) (by simp) (by simp; have := HM.out; omega))
        refine HC.out.mono ?_
        rw [show [k].flatten = k from by simp]
        rintro e w3 ⟨rfl, hB3⟩
        have HB3 := hide (HP1.out.trans (hB3.mono HP1.out.size))
        clear hB3 HC HP1
        obtain ⟨Y, hY⟩ : ∃ Y, Y = sumS k := ⟨_, rfl⟩
        have HYL : Hid (Y.length = 32) := hide (by rw [hY]; exact length_sumS k)
        have HXX : Hid (cellsOf .u8 (macS Y xs) = CX.toArray) := hide (by rw [hY, macS_sum k xs (by have := HM.out; omega)]; exact HXX0.out)
        rw [← hY]
        clear hY HXX0 hne
        go_wp2_with (first
          | (with_reducible refine wpList_alloc_row rfl 25 rfl (cellsOf .u8 zeros32) zero36 ?_)
          | (with_reducible refine wpList_store_blk rfl 25 (.tmp 6) (.tmp 42) rfl w3.heap.size .u8 Y rfl rfl _ _ (Blk.new w3 25 .u8 zeros32) (sz36 Y HYL.out) (zl32 HYL.out) ?_))
        intro w4 hb4 hz4 hB4 hk4
        have HB4 := hide ((HB3.out.alloc HB3.out.size (.cells (cellsOf .u8 zeros32) 25)).trans (hB4 _ HB3.out.size))
        have HY4 := hide hb4
        clear hB4 hk4 hz4 hb4 HB3
        generalize w3.heap.size = g6 at HY4 ⊢
        have HS : Hid (∀ W, Below w4.heap.size w4 W → W.rangeAt g 0 CX) := hide (fun W hb q v hv => ((HB4.out.trans (hb.mono HB4.out.size)).cell (p := ⟨g, 0 + q, none⟩) HLT.out).trans (HR.out q v hv))
        have HXD : Hid (∀ W, Below w4.heap.size w4 W → SlAt W (.slice ao n cap) xs) := hide (fun W hb => HX.out.below (HBW.out.trans ((HB4.out.trans (hb.mono HB4.out.size)).mono HBW.out.size)))
        have heq := HEQ.out
        clear HEQ HR HLT
        generalize (Value.agg (cellsOf .u8 Y)) = d8
        go_wp2_with fail
        refine wp_region_held_drew (S := fun w' => w'.rangeAt g 0 CX) (by kernel_rfl) (HS.out _ (Below.refl _ _).drew) (fun hHeld => ?_)
        refine wpAnyH_take (i := 0) (oi := { dst := some 43, op := Op.slice 25 (Operand.tmp 6) none none none, type := 22, pos := "law.go:43", after := #[], guard := none }) (v := ?_) rfl (by kernel_rfl) (by kernel_rfl) (by kernel_rfl) (fun _ _ _ h => h) (Or.inl ⟨by rfl, ?_⟩) hHeld ?_
        rotate_left
        · intro w hSw; (try dsimp only at hSw); go_simp; first | done | with_reducible rfl
        try simp only [Act.put, List.setIfInBounds_toArray, List.set_cons_zero, List.set_cons_succ]
        refine wpAnyH_take (i := 1) (oi := { dst := some 44, op := Op.move (Operand.tmp 1), type := 22, pos := "law.go:43", after := #[], guard := none }) (v := ?_) rfl (by kernel_rfl) (by kernel_rfl) (by kernel_rfl) (fun _ _ _ h => h) (Or.inl ⟨by rfl, ?_⟩) hHeld ?_
        rotate_left
        · intro w hSw; (try dsimp only at hSw); go_simp; first | done | with_reducible rfl
        try simp only [Act.put, List.setIfInBounds_toArray, List.set_cons_zero, List.set_cons_succ]
        refine wpAnyH_take (i := 4) (oi := { dst := some 47, op := Op.load 25 (Operand.tmp 5), type := 25, pos := "law.go:43", after := #[], guard := none }) (v := .agg CX.toArray) rfl (by kernel_rfl) (by kernel_rfl) (by kernel_rfl) (fun _ _ _ h => h) (yieldsIf_load_mid (by rfl) _ _ rfl g 0 rfl CX _ (fun w hS => hS) under32 rfl HIX.out) hHeld ?_
        try simp only [Act.put, List.setIfInBounds_toArray, List.set_cons_zero, List.set_cons_succ]
        refine wpAnyH_ready (rs := [2]) (by kernel_rfl) (by simp) ?_
        refine AllReadyH.cons (o := { dst := some 45, op := Op.buildSlice 36 1 #[(0, Operand.tmp 44)], type := 36, pos := "law.go:43", after := #[{ on := 1, ground := Ground.data }], guard := none }) rfl (fun K hK => ?_) AllReadyH.nil
        clear hHeld
        go_simp
        have HBa := hide (((Below.refl w4.heap.size w4).alloc (Nat.le_refl _) (.cells #[.slice ao n cap] 22)).drew)
        have hpa := parts_one (b := w4.heap.size) ((cell_of_row _ _ 0 _ _ _ (heap_alloc_new w4 (.cells #[.slice ao n cap] 22))).trans rfl) (by simp) (HXD.out _ ((Below.refl w4.heap.size w4).alloc (Nat.le_refl _) (.cells #[.slice ao n cap] 22)))
        have HPA := hide (hpa.below (Below.refl _ _).drew)
        clear hpa
        have HYD := hide (slAt_blk (HY4.out.alloc (.cells #[.slice ao n cap] 22)).drew HYL.out)
        generalize (w4.alloc (.cells #[.slice ao n cap] 22)).drew = w5 at HBa HPA HYD ⊢
        generalize w4.heap.size = g5 at HPA ⊢
        refine hK.out _ _ (HS.out _ HBa.out) (fun hHeld => ?_)
        clear hK K
        try simp only [Act.put, List.setIfInBounds_toArray, List.set_cons_zero, List.set_cons_succ]
        refine wpAnyH_ready (rs := [3]) (by kernel_rfl) (by simp) ?_
        refine AllReadyH.cons (o := { dst := some 46, op := Op.call { callee := Callee.value (Operand.func 9), args := #[Operand.tmp 43, Operand.tmp 45], argTypes := #[22, 36] }, type := 25, pos := "law.go:43", after := #[{ on := 0, ground := Ground.data }, { on := 2, ground := Ground.data }], guard := none }) rfl (fun K hK => ?_) AllReadyH.nil
        clear hHeld
        go_simp
        refine (macOf_any Y _ _ g5 0 1 w5 HYD.out (by rw [HYL.out]; omega) HPA.out (by simp) (by simp) (by simp; have := HN.out; omega)).mono ?_
        rw [show [xs].flatten = xs from by simp, HXX.out]
        rintro e w6 ⟨rfl, hBX⟩
        have HBb := hide (HBa.out.trans (hBX.mono HBa.out.size))
        clear hBX HPA HYD HBa
        dsimp only
        refine hK.out _ _ (HS.out _ HBb.out) (fun hHeld => ?_)
        clear hK K
        try simp only [Act.put, List.setIfInBounds_toArray, List.set_cons_zero, List.set_cons_succ]
        refine wpAnyH_take (i := 5) (oi := { dst := some 48, op := Op.binOp BinOp.eql 25 (Operand.tmp 46) (Operand.tmp 47) 25, type := 4, pos := "law.go:43", after := #[{ on := 3, ground := Ground.data }, { on := 4, ground := Ground.data }], guard := none }) (v := ?_) rfl (by kernel_rfl) (by kernel_rfl) (by kernel_rfl) (fun _ _ _ h => h) (Or.inl ⟨by rfl, ?_⟩) hHeld ?_
        rotate_left
        · intro w hSw; (try dsimp only at hSw); go_simp; first | done | with_reducible rfl
        try simp only [Act.put, List.setIfInBounds_toArray, List.set_cons_zero, List.set_cons_succ]
        refine wpAnyH_take (i := 6) (oi := { dst := some 49, op := Op.move (Operand.tmp 48), type := 4, pos := "law.go:43", after := #[{ on := 5, ground := Ground.data }, { on := 3, ground := Ground.chain }], guard := none }) (v := ?_) rfl (by kernel_rfl) (by kernel_rfl) (by kernel_rfl) (fun _ _ _ h => h) (Or.inl ⟨by rfl, ?_⟩) hHeld ?_
        rotate_left
        · intro w hSw; (try dsimp only at hSw); go_simp; first | done | with_reducible rfl
        try simp only [Act.put, List.setIfInBounds_toArray, List.set_cons_zero, List.set_cons_succ]
        refine wpAnyH_ready (rs := [7]) (by kernel_rfl) (by simp) ?_
        refine AllReadyH.cons (o := { dst := some 50, op := Op.call { callee := Callee.value (Operand.func 8), args := #[], argTypes := #[] }, type := 4, pos := "law.go:43", after := #[{ on := 6, ground := Ground.chain }, { on := 6, ground := Ground.guard }], guard := some (6, true) }) rfl (fun K hK => ?_) AllReadyH.nil
        clear hHeld
        go_simp
        refine (awake_any _).mono ?_
        rintro e w7 ⟨rfl, hBX⟩
        have HBe := hide (HBb.out.trans (hBX.mono HBb.out.size))
        clear hBX HBb
        dsimp only
        refine hK.out _ _ (HS.out _ HBe.out) (fun hHeld => ?_)
        clear hK K
        try simp only [Act.put, List.setIfInBounds_toArray, List.set_cons_zero, List.set_cons_succ]
        refine wpAnyH_take (i := 8) (oi := { dst := some 51, op := Op.pick (Operand.tmp 49) (Operand.tmp 50) (Operand.const (Value.bool false)), type := 4, pos := "law.go:43", after := #[{ on := 6, ground := Ground.data }, { on := 7, ground := Ground.data }], guard := none }) (v := ?_) rfl (by kernel_rfl) (by kernel_rfl) (by kernel_rfl) (fun _ _ _ h => h) (Or.inl ⟨by rfl, ?_⟩) hHeld ?_
        rotate_left
        · intro w hSw; (try dsimp only at hSw); go_simp; first | done | with_reducible rfl
        try simp only [Act.put, List.setIfInBounds_toArray, List.set_cons_zero, List.set_cons_succ]
        refine wpAnyH_take (i := 9) (oi := { dst := some 4, op := Op.assign (Operand.tmp 51), type := 4, pos := "law.go:43", after := #[{ on := 8, ground := Ground.data }, { on := 7, ground := Ground.chain }, { on := 0, ground := Ground.phase }, { on := 1, ground := Ground.phase }, { on := 2, ground := Ground.phase }, { on := 3, ground := Ground.phase }, { on := 4, ground := Ground.phase }, { on := 5, ground := Ground.phase }, { on := 6, ground := Ground.phase }, { on := 7, ground := Ground.phase }, { on := 8, ground := Ground.phase }], guard := none }) (v := ?_) rfl (by kernel_rfl) (by kernel_rfl) (by kernel_rfl) (fun _ _ _ h => h) (Or.inl ⟨by rfl, ?_⟩) hHeld ?_
        rotate_left
        · intro w hSw; (try dsimp only at hSw); go_simp; first | done | with_reducible rfl
        try simp only [Act.put, List.setIfInBounds_toArray, List.set_cons_zero, List.set_cons_succ]
        refine wpAnyH_done (by kernel_rfl) ?_ _
        go_wp2_with fail
        go_ret
        exact ⟨rfl, HBW.out.trans ((HB4.out.trans (HBe.out.mono HB4.out.size)).mono HBW.out.size)⟩
end Go.Proofs.Ytjfidelegmjnkaa
