/- The law MacParts: its walk. -/
import Derived.Test.YtjfidelegmjnkaaProg
import Derived.Test.YtjfidelegmjnkaaMacEqualLaw
import Derived.Deep.RegionHeld3
import Derived.Deep.MidRow
namespace Go.Proofs.Ytjfidelegmjnkaa
open Go.RowKit

theorem clampA (c : Int) (n : Nat) : ∃ i : Nat, i ≤ n ∧ (if 0 < (if (n : Int) < c then (n : Int) else c) then (if (n : Int) < c then (n : Int) else c) else 0) = (i : Int) := by
  refine ⟨(if 0 < (if (n : Int) < c then (n : Int) else c) then (if (n : Int) < c then (n : Int) else c) else 0).toNat, ?_, ?_⟩ <;> (repeat' split) <;> omega
theorem clampB (c : Int) (n i : Nat) (h : i ≤ n) : ∃ j : Nat, i ≤ j ∧ j ≤ n ∧ (if (i : Int) < (if (n : Int) < c then (n : Int) else c) then (if (n : Int) < c then (n : Int) else c) else (i : Int)) = (j : Int) := by
  refine ⟨(if (i : Int) < (if (n : Int) < c then (n : Int) else c) then (if (n : Int) < c then (n : Int) else c) else (i : Int)).toNat, ?_, ?_, ?_⟩ <;> (repeat' split) <;> omega

theorem slAt_nil (w : World) : SlAt w (.slice none 0 0) [] := ⟨none, 0, rfl, fun _ => ⟨rfl, rfl⟩, Nat.le_refl _, fun ad h => by cases h⟩

theorem cut_flat (xs : List Int) (i j : Nat) (hij : i ≤ j) (_hj : j ≤ xs.length) : [xs.take i, (xs.drop i).take (j - i), [], (xs.drop j).take (xs.length - j)].flatten = xs := by
  have e1 : xs.take i ++ (xs.drop i).take (j - i) = xs.take j := by rw [← List.take_add, show i + (j - i) = j by omega]
  have e2 : (xs.drop j).take (xs.length - j) = xs.drop j := List.take_of_length_le (by simp)
  simp only [List.flatten_cons, List.flatten_nil, List.append_nil, List.nil_append]
  rw [e2, ← List.append_assoc, e1, List.take_append_drop]

set_option maxRecDepth 100000 in
set_option maxHeartbeats 2000000 in
theorem mparts_walk (k xs : List Int) (one two : Int) (kv v : Value) (w : World) (hk : SlAt w kv k) (_kb : ∀ x ∈ k, 0 ≤ x ∧ x < 256) (hkm : k.length ≤ maxLen) (hx : SlAt w v xs) (_xb : ∀ x ∈ xs, 0 ≤ x ∧ x < 256) (hm : xs.length ≤ maxLen) :
    Calls Try.prog 6 #[kv, v, .int .i64 one, .int .i64 two] w (LawPost w) := by
  obtain ⟨ao, cap, rfl⟩ := hx.len
  obtain ⟨ko, kc, rfl⟩ := hk.len
  have HX := hide hx
  have HK := hide hk
  obtain ⟨n, hn⟩ : ∃ n, n = xs.length := ⟨_, rfl⟩
  obtain ⟨m, hm0⟩ : ∃ n, n = k.length := ⟨_, rfl⟩
  have HN := hide hn
  have HM := hide hm0
  rw [← hn] at HX hm ⊢
  rw [← hm0] at HK hkm ⊢
  unfold maxLen at hm hkm
  clear hx hk hn hm0
  go_enter Try.func6, Try.ntmps6
  by_cases hbig : 1000 < m ∨ 1000 < n
  · have hb1 : ¬ 1000 < m → 1000 < n := fun h => hbig.resolve_left h
    by_cases h4 : 1000 < m
    all_goals first | have h5 := hb1 h4 | skip
    all_goals
      clear hb1 hbig
      go_wp2_with fail
      refine (awake_any _).mono ?_
      rintro e w1 ⟨rfl, hB⟩
      go_wp2_with fail
      go_ret
      exact ⟨rfl, hB⟩
  · have h4 : ¬ 1000 < m := fun h => hbig (.inl h)
    have h5 : ¬ 1000 < n := fun h => hbig (.inr h)
    clear hbig
    go_upto_region 4 with (fail)
    obtain ⟨i, hi, ei⟩ := clampA one n
    rw [ei]
    generalize (if (n : Int) < one then (n : Int) else one) = d0
    clear ei
    go_upto_region 5 with (fail)
    obtain ⟨j, hij, hj, ej⟩ := clampB two n i hi
    rw [ej]
    generalize (if (n : Int) < two then (n : Int) else two) = d1
    clear ej
    go_wp2_with fail
    have HB0 := hide ((Below.refl w.heap.size w).alloc (Nat.le_refl _) (.cells #[.slice ao n cap] 22))
    have HC := hide (macOf_any k _ [xs] w.heap.size 0 1 _ (HK.out.below HB0.out) (by have := HM.out; omega) (parts_one ((cell_of_row _ _ 0 _ _ _ (heap_alloc_new w (.cells #[.slice ao n cap] 22))).trans rfl) (by simp) (HX.out.below HB0.out)) (by simp) (by simp) (by simp; have := HN.out; omega))
    refine HC.out.mono ?_
    rw [show [xs].flatten = xs from by simp]
    rintro e w1 ⟨rfl, hB1⟩
    have HB1 := hide (below_through hB1 HB0.out)
    clear hB1 HC HB0
    obtain ⟨X, hXX⟩ : ∃ X, X = macS k xs := ⟨_, rfl⟩
    have hl : Hid (X.length = 32) := hide (by rw [hXX]; exact length_macS _ _)
    rw [← hXX]
    have HXE := hide hXX
    clear hXX
    go_wp2_with (first
      | (with_reducible refine wpList_alloc_row rfl 25 rfl (cellsOf .u8 zeros32) zero36 ?_)
      | (with_reducible refine wpList_store_blk rfl 25 (.tmp 11) (.tmp 35) rfl w1.heap.size .u8 X rfl rfl _ _ (Blk.new w1 25 .u8 zeros32) (sz36 X hl.out) (zl32 hl.out) ?_))
    intro w2 hb2 hz2 hB2 hk2
    have HB2 := hide ((HB1.out.alloc HB1.out.size (.cells (cellsOf .u8 zeros32) 25)).trans (hB2 _ HB1.out.size))
    clear hB2 hk2 HB1 hz2
    have hlt := hb2.lt
    generalize w1.heap.size = g at hb2 hlt ⊢
    have hr := blk_range hb2
    have HIX := hide (size_row32 (C := X.map (Value.int .u8)) (by rw [List.length_map, hl.out]))
    have heq : ∀ w, (Op.equalIn 10000 25 (.agg (X.map (Value.int .u8)).toArray) (.agg (X.map (Value.int .u8)).toArray)).run Try.prog w = .ok true w := eq36 _ X rfl hl.out
    have HXX : Hid (cellsOf .u8 (macS k xs) = (X.map (Value.int .u8)).toArray) := hide (by rw [← HXE.out]; rfl)
    generalize X.map (Value.int .u8) = CX at hr HIX heq HXX
    have HS : Hid (∀ W, Below w2.heap.size w2 W → W.rangeAt g 0 CX) := hide (fun W hb q v hv => (hb.cell (p := ⟨g, 0 + q, none⟩) hlt).trans (hr q v hv))
    clear hb2 hlt hr HXE hl
    have HXD : Hid (∀ W, Below w2.heap.size w2 W → SlAt W (.slice ao n cap) xs) := hide (fun W hb => HX.out.below (HB2.out.trans (hb.mono HB2.out.size)))
    have HKD : Hid (∀ W, Below w2.heap.size w2 W → SlAt W (.slice ko m kc) k) := hide (fun W hb => HK.out.below (HB2.out.trans (hb.mono HB2.out.size)))
    have hnc : n ≤ cap := HX.out.le.1
    have hcut1 : ∀ w, (Instr.sliceAt 22 (.slice ao n cap) none (some (.int .i64 i)) none).run Try.prog w = .ok (.slice ao i cap) w := fun w => run_cut_h (P := Try.prog) (t := 22) (e := 5) Try.underlying22 size5 ao n cap i (by omega) w
    have hcut2 : ∀ w, (Instr.sliceAt 22 (.slice ao n cap) (some (.int .i64 i)) (some (.int .i64 j)) none).run Try.prog w = .ok (sl ao i (j - i) cap) w := fun w => run_cut_lh2 (P := Try.prog) (t := 22) (e := 5) Try.underlying22 size5 ao n cap i j hij (by omega) w
    have hcut3 : ∀ w, (Instr.sliceAt 22 (.slice ao n cap) (some (.int .i64 j)) none none).run Try.prog w = .ok (sl ao j (n - j) cap) w := fun w => run_cut_l (P := Try.prog) (t := 22) (e := 5) Try.underlying22 size5 ao n cap j hj w
    have HS1 : Hid (∀ W, Below w2.heap.size w2 W → SlAt W (.slice ao i cap) (xs.take i)) := hide (fun W hb => (HXD.out W hb).front' hi)
    have HS2 : Hid (∀ W, Below w2.heap.size w2 W → SlAt W (sl ao i (j - i) cap) ((xs.drop i).take (j - i))) := hide (fun W hb => (HXD.out W hb).cut (by omega))
    have HS3 : Hid (∀ W, Below w2.heap.size w2 W → SlAt W (sl ao j (n - j) cap) ((xs.drop j).take (n - j))) := hide (fun W hb => (HXD.out W hb).cut (by omega))
    have HFL : Hid ([xs.take i, (xs.drop i).take (j - i), [], (xs.drop j).take (n - j)].flatten = xs) := hide (by rw [HN.out] at hj ⊢; exact cut_flat xs i j hij hj)
    obtain ⟨a2, e2⟩ := sl_len ao i (j - i) cap
    obtain ⟨a3, e3⟩ := sl_len ao j (n - j) cap
    rw [e2] at hcut2 HS2
    rw [e3] at hcut3 HS3
    clear e2 e3
    generalize (i : Int) = ix at hcut1 hcut2 ⊢
    generalize (j : Int) = jx at hcut2 hcut3 ⊢
    clear hm hkm
    go_wp2_with fail
    refine wp_region_held_drew (S := fun w' => w'.rangeAt g 0 CX) (by kernel_rfl) (HS.out _ (Below.refl _ _).drew) (fun hHeld => ?_)
    refine wpAnyH_take (i := 0) (oi := { dst := some 36, op := Op.move (Operand.tmp 0), type := 22, pos := "law.go:54", after := #[], guard := none }) (v := ?_) rfl (by kernel_rfl) (by kernel_rfl) (by kernel_rfl) (fun _ _ _ h => h) (Or.inl ⟨by rfl, ?_⟩) hHeld ?_
    rotate_left
    · intro w hSw; (try dsimp only at hSw); go_simp; first | done | with_reducible rfl
    try simp only [Act.put, List.setIfInBounds_toArray, List.set_cons_zero, List.set_cons_succ]
    refine wpAnyH_take (i := 1) (oi := { dst := some 37, op := Op.move (Operand.tmp 1), type := 22, pos := "law.go:54", after := #[], guard := none }) (v := ?_) rfl (by kernel_rfl) (by kernel_rfl) (by kernel_rfl) (fun _ _ _ h => h) (Or.inl ⟨by rfl, ?_⟩) hHeld ?_
    rotate_left
    · intro w hSw; (try dsimp only at hSw); go_simp; first | done | with_reducible rfl
    try simp only [Act.put, List.setIfInBounds_toArray, List.set_cons_zero, List.set_cons_succ]
    refine wpAnyH_take (i := 2) (oi := { dst := some 38, op := Op.move (Operand.tmp 9), type := 3, pos := "law.go:54", after := #[], guard := none }) (v := ?_) rfl (by kernel_rfl) (by kernel_rfl) (by kernel_rfl) (fun _ _ _ h => h) (Or.inl ⟨by rfl, ?_⟩) hHeld ?_
    rotate_left
    · intro w hSw; (try dsimp only at hSw); go_simp; first | done | with_reducible rfl
    try simp only [Act.put, List.setIfInBounds_toArray, List.set_cons_zero, List.set_cons_succ]
    refine wpAnyH_take (i := 3) (oi := { dst := some 39, op := Op.slice 22 (Operand.tmp 37) none (some (Operand.tmp 38)) none, type := 22, pos := "law.go:54", after := #[{ on := 1, ground := Ground.data }, { on := 2, ground := Ground.data }], guard := none }) (v := ?_) rfl (by kernel_rfl) (by kernel_rfl) (by kernel_rfl) (fun _ _ _ h => h) (Or.inl ⟨by rfl, ?_⟩) hHeld ?_
    rotate_left
    · intro w hSw; (try dsimp only at hSw); go_simp; first | done | with_reducible rfl
    try simp only [Act.put, List.setIfInBounds_toArray, List.set_cons_zero, List.set_cons_succ]
    refine wpAnyH_take (i := 4) (oi := { dst := some 40, op := Op.move (Operand.tmp 1), type := 22, pos := "law.go:54", after := #[], guard := none }) (v := ?_) rfl (by kernel_rfl) (by kernel_rfl) (by kernel_rfl) (fun _ _ _ h => h) (Or.inl ⟨by rfl, ?_⟩) hHeld ?_
    rotate_left
    · intro w hSw; (try dsimp only at hSw); go_simp; first | done | with_reducible rfl
    try simp only [Act.put, List.setIfInBounds_toArray, List.set_cons_zero, List.set_cons_succ]
    refine wpAnyH_take (i := 5) (oi := { dst := some 41, op := Op.move (Operand.tmp 9), type := 3, pos := "law.go:54", after := #[], guard := none }) (v := ?_) rfl (by kernel_rfl) (by kernel_rfl) (by kernel_rfl) (fun _ _ _ h => h) (Or.inl ⟨by rfl, ?_⟩) hHeld ?_
    rotate_left
    · intro w hSw; (try dsimp only at hSw); go_simp; first | done | with_reducible rfl
    try simp only [Act.put, List.setIfInBounds_toArray, List.set_cons_zero, List.set_cons_succ]
    refine wpAnyH_take (i := 6) (oi := { dst := some 42, op := Op.move (Operand.tmp 10), type := 3, pos := "law.go:54", after := #[], guard := none }) (v := ?_) rfl (by kernel_rfl) (by kernel_rfl) (by kernel_rfl) (fun _ _ _ h => h) (Or.inl ⟨by rfl, ?_⟩) hHeld ?_
    rotate_left
    · intro w hSw; (try dsimp only at hSw); go_simp; first | done | with_reducible rfl
    try simp only [Act.put, List.setIfInBounds_toArray, List.set_cons_zero, List.set_cons_succ]
    refine wpAnyH_take (i := 7) (oi := { dst := some 43, op := Op.slice 22 (Operand.tmp 40) (some (Operand.tmp 41)) (some (Operand.tmp 42)) none, type := 22, pos := "law.go:54", after := #[{ on := 4, ground := Ground.data }, { on := 5, ground := Ground.data }, { on := 6, ground := Ground.data }], guard := none }) (v := ?_) rfl (by kernel_rfl) (by kernel_rfl) (by kernel_rfl) (fun _ _ _ h => h) (Or.inl ⟨by rfl, ?_⟩) hHeld ?_
    rotate_left
    · intro w hSw; (try dsimp only at hSw); go_simp; first | done | with_reducible rfl
    try simp only [Act.put, List.setIfInBounds_toArray, List.set_cons_zero, List.set_cons_succ]
    refine wpAnyH_take (i := 8) (oi := { dst := some 44, op := Op.move (Operand.tmp 1), type := 22, pos := "law.go:54", after := #[], guard := none }) (v := ?_) rfl (by kernel_rfl) (by kernel_rfl) (by kernel_rfl) (fun _ _ _ h => h) (Or.inl ⟨by rfl, ?_⟩) hHeld ?_
    rotate_left
    · intro w hSw; (try dsimp only at hSw); go_simp; first | done | with_reducible rfl
    try simp only [Act.put, List.setIfInBounds_toArray, List.set_cons_zero, List.set_cons_succ]
    refine wpAnyH_take (i := 9) (oi := { dst := some 45, op := Op.move (Operand.tmp 10), type := 3, pos := "law.go:54", after := #[], guard := none }) (v := ?_) rfl (by kernel_rfl) (by kernel_rfl) (by kernel_rfl) (fun _ _ _ h => h) (Or.inl ⟨by rfl, ?_⟩) hHeld ?_
    rotate_left
    · intro w hSw; (try dsimp only at hSw); go_simp; first | done | with_reducible rfl
    try simp only [Act.put, List.setIfInBounds_toArray, List.set_cons_zero, List.set_cons_succ]
    refine wpAnyH_take (i := 10) (oi := { dst := some 46, op := Op.slice 22 (Operand.tmp 44) (some (Operand.tmp 45)) none none, type := 22, pos := "law.go:54", after := #[{ on := 8, ground := Ground.data }, { on := 9, ground := Ground.data }], guard := none }) (v := ?_) rfl (by kernel_rfl) (by kernel_rfl) (by kernel_rfl) (fun _ _ _ h => h) (Or.inl ⟨by rfl, ?_⟩) hHeld ?_
    rotate_left
    · intro w hSw; (try dsimp only at hSw); go_simp; first | done | with_reducible rfl
    try simp only [Act.put, List.setIfInBounds_toArray, List.set_cons_zero, List.set_cons_succ]
    refine wpAnyH_take (i := 13) (oi := { dst := some 49, op := Op.load 25 (Operand.tmp 11), type := 25, pos := "law.go:54", after := #[], guard := none }) (v := .agg CX.toArray) rfl (by kernel_rfl) (by kernel_rfl) (by kernel_rfl) (fun _ _ _ h => h) (yieldsIf_load_mid (by rfl) _ _ rfl g 0 rfl CX _ (fun w hS => hS) under32 rfl HIX.out) hHeld ?_
    try simp only [Act.put, List.setIfInBounds_toArray, List.set_cons_zero, List.set_cons_succ]
    clear hcut1 hcut2 hcut3
    refine wpAnyH_ready (rs := [11]) (by kernel_rfl) (by simp) ?_
    refine AllReadyH.cons (o := { dst := some 47, op := Op.buildSlice 36 4 #[(0, Operand.tmp 39), (1, Operand.tmp 43), (2, Operand.const (Value.slice none 0 0)), (3, Operand.tmp 46)], type := 36, pos := "law.go:54", after := #[{ on := 3, ground := Ground.data }, { on := 7, ground := Ground.data }, { on := 10, ground := Ground.data }], guard := none }) rfl (fun K hK => ?_) AllReadyH.nil
    clear hHeld
    go_simp
    have HBa := hide (((Below.refl w2.heap.size w2).alloc (Nat.le_refl _) (.cells #[.slice ao i cap, .slice a2 (j - i) (cap - i), .slice none 0 0, .slice a3 (n - j) (cap - j)] 22)).drew)
    have hpa := parts_four (t := 22) (HS1.out w2 (Below.refl _ _)) (HS2.out w2 (Below.refl _ _)) (slAt_nil w2) (HS3.out w2 (Below.refl _ _))
    have HPA := hide (hpa.below (Below.refl _ _).drew)
    clear hpa HS1 HS2 HS3
    generalize (w2.alloc (.cells #[.slice ao i cap, .slice a2 (j - i) (cap - i), .slice none 0 0, .slice a3 (n - j) (cap - j)] 22)).drew = w3 at HBa HPA ⊢
    generalize w2.heap.size = g3 at HPA ⊢
    refine hK.out _ _ (HS.out _ HBa.out) (fun hHeld => ?_)
    clear hK K
    try simp only [Act.put, List.setIfInBounds_toArray, List.set_cons_zero, List.set_cons_succ]
    refine wpAnyH_ready (rs := [12]) (by kernel_rfl) (by simp) ?_
    refine AllReadyH.cons (o := { dst := some 48, op := Op.call { callee := Callee.value (Operand.func 9), args := #[Operand.tmp 36, Operand.tmp 47], argTypes := #[22, 36] }, type := 25, pos := "law.go:54", after := #[{ on := 0, ground := Ground.data }, { on := 11, ground := Ground.data }], guard := none }) rfl (fun K hK => ?_) AllReadyH.nil
    clear hHeld
    go_simp
    refine (macOf_any k _ _ g3 0 4 w3 (HKD.out _ HBa.out) (by have := HM.out; omega) HPA.out (by simp) (by simp) (by rw [HFL.out]; have := HN.out; omega)).mono ?_
    rw [HFL.out, HXX.out]
    rintro e w4 ⟨rfl, hBX⟩
    have HBb := hide (HBa.out.trans (hBX.mono HBa.out.size))
    clear hBX HPA HBa
    dsimp only
    refine hK.out _ _ (HS.out _ HBb.out) (fun hHeld => ?_)
    clear hK K
    try simp only [Act.put, List.setIfInBounds_toArray, List.set_cons_zero, List.set_cons_succ]
    refine wpAnyH_take (i := 14) (oi := { dst := some 50, op := Op.binOp BinOp.eql 25 (Operand.tmp 48) (Operand.tmp 49) 25, type := 4, pos := "law.go:54", after := #[{ on := 12, ground := Ground.data }, { on := 13, ground := Ground.data }], guard := none }) (v := ?_) rfl (by kernel_rfl) (by kernel_rfl) (by kernel_rfl) (fun _ _ _ h => h) (Or.inl ⟨by rfl, ?_⟩) hHeld ?_
    rotate_left
    · intro w hSw; (try dsimp only at hSw); go_simp; first | done | with_reducible rfl
    try simp only [Act.put, List.setIfInBounds_toArray, List.set_cons_zero, List.set_cons_succ]
    refine wpAnyH_take (i := 15) (oi := { dst := some 51, op := Op.move (Operand.tmp 50), type := 4, pos := "law.go:54", after := #[{ on := 14, ground := Ground.data }, { on := 12, ground := Ground.chain }], guard := none }) (v := ?_) rfl (by kernel_rfl) (by kernel_rfl) (by kernel_rfl) (fun _ _ _ h => h) (Or.inl ⟨by rfl, ?_⟩) hHeld ?_
    rotate_left
    · intro w hSw; (try dsimp only at hSw); go_simp; first | done | with_reducible rfl
    try simp only [Act.put, List.setIfInBounds_toArray, List.set_cons_zero, List.set_cons_succ]
    refine wpAnyH_take (i := 16) (oi := { dst := some 52, op := Op.move (Operand.tmp 0), type := 22, pos := "law.go:54", after := #[{ on := 15, ground := Ground.guard }], guard := some (15, true) }) (v := ?_) rfl (by kernel_rfl) (by kernel_rfl) (by kernel_rfl) (fun _ _ _ h => h) (Or.inl ⟨by rfl, ?_⟩) hHeld ?_
    rotate_left
    · intro w hSw; (try dsimp only at hSw); go_simp; first | done | with_reducible rfl
    try simp only [Act.put, List.setIfInBounds_toArray, List.set_cons_zero, List.set_cons_succ]
    refine wpAnyH_take (i := 17) (oi := { dst := some 53, op := Op.move (Operand.tmp 1), type := 22, pos := "law.go:54", after := #[{ on := 15, ground := Ground.guard }], guard := some (15, true) }) (v := ?_) rfl (by kernel_rfl) (by kernel_rfl) (by kernel_rfl) (fun _ _ _ h => h) (Or.inl ⟨by rfl, ?_⟩) hHeld ?_
    rotate_left
    · intro w hSw; (try dsimp only at hSw); go_simp; first | done | with_reducible rfl
    try simp only [Act.put, List.setIfInBounds_toArray, List.set_cons_zero, List.set_cons_succ]
    refine wpAnyH_take (i := 20) (oi := { dst := some 56, op := Op.load 25 (Operand.tmp 11), type := 25, pos := "law.go:54", after := #[{ on := 15, ground := Ground.guard }], guard := some (15, true) }) (v := .agg CX.toArray) rfl (by kernel_rfl) (by kernel_rfl) (by kernel_rfl) (fun _ _ _ h => h) (yieldsIf_load_mid (by rfl) _ _ rfl g 0 rfl CX _ (fun w hS => hS) under32 rfl HIX.out) hHeld ?_
    try simp only [Act.put, List.setIfInBounds_toArray, List.set_cons_zero, List.set_cons_succ]
    refine wpAnyH_ready (rs := [18]) (by kernel_rfl) (by simp) ?_
    refine AllReadyH.cons (o := { dst := some 54, op := Op.buildSlice 36 2 #[(0, Operand.const (Value.slice none 0 0)), (1, Operand.tmp 53)], type := 36, pos := "law.go:54", after := #[{ on := 17, ground := Ground.data }, { on := 15, ground := Ground.guard }], guard := some (15, true) }) rfl (fun K hK => ?_) AllReadyH.nil
    clear hHeld
    go_simp
    have HBc := hide (HBb.out.alloc HBb.out.size (.cells #[.slice none 0 0, .slice ao n cap] 22))
    have hpa := parts_built (t := 22) (w := w4) rfl (slAt_nil w4) (HXD.out _ HBb.out)
    have HPA := hide hpa
    clear hpa
    generalize w4.alloc (.cells #[.slice none 0 0, .slice ao n cap] 22) = w5 at HBc HPA ⊢
    generalize w4.heap.size = g5 at HPA ⊢
    refine hK.out _ _ (HS.out _ HBc.out) (fun hHeld => ?_)
    clear hK K
    try simp only [Act.put, List.setIfInBounds_toArray, List.set_cons_zero, List.set_cons_succ]
    refine wpAnyH_ready (rs := [19]) (by kernel_rfl) (by simp) ?_
    refine AllReadyH.cons (o := { dst := some 55, op := Op.call { callee := Callee.value (Operand.func 9), args := #[Operand.tmp 52, Operand.tmp 54], argTypes := #[22, 36] }, type := 25, pos := "law.go:54", after := #[{ on := 16, ground := Ground.data }, { on := 18, ground := Ground.data }, { on := 15, ground := Ground.chain }, { on := 15, ground := Ground.guard }], guard := some (15, true) }) rfl (fun K hK => ?_) AllReadyH.nil
    clear hHeld
    go_simp
    refine (macOf_any k _ _ g5 0 2 w5 (HKD.out _ HBc.out) (by have := HM.out; omega) HPA.out (by simp) (by simp) (by simp; have := HN.out; omega)).mono ?_
    rw [show ([[], xs] : List (List Int)).flatten = xs from by simp, HXX.out]
    rintro e w6 ⟨rfl, hBX⟩
    have HBd := hide (HBc.out.trans (hBX.mono HBc.out.size))
    clear hBX HPA HBc HBb
    dsimp only
    refine hK.out _ _ (HS.out _ HBd.out) (fun hHeld => ?_)
    clear hK K
    try simp only [Act.put, List.setIfInBounds_toArray, List.set_cons_zero, List.set_cons_succ]
    refine wpAnyH_take (i := 21) (oi := { dst := some 57, op := Op.binOp BinOp.eql 25 (Operand.tmp 55) (Operand.tmp 56) 25, type := 4, pos := "law.go:54", after := #[{ on := 19, ground := Ground.data }, { on := 20, ground := Ground.data }, { on := 15, ground := Ground.guard }], guard := some (15, true) }) (v := ?_) rfl (by kernel_rfl) (by kernel_rfl) (by kernel_rfl) (fun _ _ _ h => h) (Or.inl ⟨by rfl, ?_⟩) hHeld ?_
    rotate_left
    · intro w hSw; (try dsimp only at hSw); go_simp; first | done | with_reducible rfl
    try simp only [Act.put, List.setIfInBounds_toArray, List.set_cons_zero, List.set_cons_succ]
    refine wpAnyH_take (i := 22) (oi := { dst := some 58, op := Op.pick (Operand.tmp 51) (Operand.tmp 57) (Operand.const (Value.bool false)), type := 4, pos := "law.go:54", after := #[{ on := 15, ground := Ground.data }, { on := 21, ground := Ground.data }], guard := none }) (v := ?_) rfl (by kernel_rfl) (by kernel_rfl) (by kernel_rfl) (fun _ _ _ h => h) (Or.inl ⟨by rfl, ?_⟩) hHeld ?_
    rotate_left
    · intro w hSw; (try dsimp only at hSw); go_simp; first | done | with_reducible rfl
    try simp only [Act.put, List.setIfInBounds_toArray, List.set_cons_zero, List.set_cons_succ]
    refine wpAnyH_take (i := 23) (oi := { dst := some 59, op := Op.move (Operand.tmp 58), type := 4, pos := "law.go:54", after := #[{ on := 22, ground := Ground.data }, { on := 19, ground := Ground.chain }], guard := none }) (v := ?_) rfl (by kernel_rfl) (by kernel_rfl) (by kernel_rfl) (fun _ _ _ h => h) (Or.inl ⟨by rfl, ?_⟩) hHeld ?_
    rotate_left
    · intro w hSw; (try dsimp only at hSw); go_simp; first | done | with_reducible rfl
    try simp only [Act.put, List.setIfInBounds_toArray, List.set_cons_zero, List.set_cons_succ]
    refine wpAnyH_ready (rs := [24]) (by kernel_rfl) (by simp) ?_
    refine AllReadyH.cons (o := { dst := some 60, op := Op.call { callee := Callee.value (Operand.func 8), args := #[], argTypes := #[] }, type := 4, pos := "law.go:54", after := #[{ on := 23, ground := Ground.chain }, { on := 23, ground := Ground.guard }], guard := some (23, true) }) rfl (fun K hK => ?_) AllReadyH.nil
    clear hHeld
    go_simp
    refine (awake_any _).mono ?_
    rintro e w7 ⟨rfl, hBX⟩
    have HBe := hide (HBd.out.trans (hBX.mono HBd.out.size))
    clear hBX HBd
    dsimp only
    refine hK.out _ _ (HS.out _ HBe.out) (fun hHeld => ?_)
    clear hK K
    try simp only [Act.put, List.setIfInBounds_toArray, List.set_cons_zero, List.set_cons_succ]
    refine wpAnyH_take (i := 25) (oi := { dst := some 61, op := Op.pick (Operand.tmp 59) (Operand.tmp 60) (Operand.const (Value.bool false)), type := 4, pos := "law.go:54", after := #[{ on := 23, ground := Ground.data }, { on := 24, ground := Ground.data }], guard := none }) (v := ?_) rfl (by kernel_rfl) (by kernel_rfl) (by kernel_rfl) (fun _ _ _ h => h) (Or.inl ⟨by rfl, ?_⟩) hHeld ?_
    rotate_left
    · intro w hSw; (try dsimp only at hSw); go_simp; first | done | with_reducible rfl
    try simp only [Act.put, List.setIfInBounds_toArray, List.set_cons_zero, List.set_cons_succ]
    refine wpAnyH_take (i := 26) (oi := { dst := some 8, op := Op.assign (Operand.tmp 61), type := 4, pos := "law.go:54", after := #[{ on := 25, ground := Ground.data }, { on := 24, ground := Ground.chain }, { on := 0, ground := Ground.phase }, { on := 1, ground := Ground.phase }, { on := 2, ground := Ground.phase }, { on := 3, ground := Ground.phase }, { on := 4, ground := Ground.phase }, { on := 5, ground := Ground.phase }, { on := 6, ground := Ground.phase }, { on := 7, ground := Ground.phase }, { on := 8, ground := Ground.phase }, { on := 9, ground := Ground.phase }, { on := 10, ground := Ground.phase }, { on := 11, ground := Ground.phase }, { on := 12, ground := Ground.phase }, { on := 13, ground := Ground.phase }, { on := 14, ground := Ground.phase }, { on := 15, ground := Ground.phase }, { on := 16, ground := Ground.phase }, { on := 17, ground := Ground.phase }, { on := 18, ground := Ground.phase }, { on := 19, ground := Ground.phase }, { on := 20, ground := Ground.phase }, { on := 21, ground := Ground.phase }, { on := 22, ground := Ground.phase }, { on := 23, ground := Ground.phase }, { on := 24, ground := Ground.phase }, { on := 25, ground := Ground.phase }], guard := none }) (v := ?_) rfl (by kernel_rfl) (by kernel_rfl) (by kernel_rfl) (fun _ _ _ h => h) (Or.inl ⟨by rfl, ?_⟩) hHeld ?_
    rotate_left
    · intro w hSw; (try dsimp only at hSw); go_simp; first | done | with_reducible rfl
    try simp only [Act.put, List.setIfInBounds_toArray, List.set_cons_zero, List.set_cons_succ]
    refine wpAnyH_done (by kernel_rfl) ?_ _
    go_wp2_with fail
    go_ret
    exact ⟨rfl, HB2.out.trans (HBe.out.mono HB2.out.size)⟩
end Go.Proofs.Ytjfidelegmjnkaa
