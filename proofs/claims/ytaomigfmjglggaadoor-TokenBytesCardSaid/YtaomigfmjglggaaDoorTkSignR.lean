/- A token's mac by a ring: the document's. -/
import Derived.Test.YtaomigfmjglggaaDoorTkV
namespace Go.Proofs.YtaomigfmjglggaaDoor
open Go.RowKit

theorem pow128T : (18446744073709551616 : Nat) ≤ 128 ^ 10 := by decide
theorem uintF_rangeT : ∀ (n x : Nat), x < 128 ^ (n + 1) → ∀ b ∈ uintF n x, 0 ≤ b ∧ b < 256
  | 0, x, h, b, hb => by
    simp only [uintF, List.mem_singleton] at hb
    subst hb
    omega
  | n + 1, x, h, b, hb => by
    rw [uintF] at hb
    split at hb
    · simp only [List.mem_singleton] at hb
      subst hb
      omega
    · rcases List.mem_cons.1 hb with rfl | hb
      · omega
      · exact uintF_rangeT n (x / 128) (by rw [Nat.pow_succ] at h; omega) b hb
theorem uintS_rangeT (x : Nat) (hx : x < 18446744073709551616) : ∀ b ∈ uintS x, 0 ≤ b ∧ b < 256 := uintF_rangeT 9 x (Nat.lt_of_lt_of_le hx pow128T)
theorem putS_rangeT (l : List Nat) (h : ∀ x ∈ l, x < 18446744073709551616) : ∀ b ∈ putS l, 0 ≤ b ∧ b < 256 := fun b hb => by
  rw [putS, List.mem_flatten] at hb
  obtain ⟨r, hr, hb⟩ := hb
  obtain ⟨x, hx, rfl⟩ := List.mem_map.1 hr
  exact uintS_rangeT x (h x hx) b hb
theorem textS_rangeT (s : ByteArray) (h : s.size < 18446744073709551616) : ∀ b ∈ textS s, 0 ≤ b ∧ b < 256 := fun b hb => by
  rw [textS] at hb
  rcases List.mem_append.1 hb with hb | hb
  · exact uintS_rangeT _ h b hb
  · exact bytesOf_range s b hb
theorem saidS_range {t : Tk} (ho : t.ok) (hm : mayT t = true) : ∀ x ∈ saidS t, 0 ≤ x ∧ x < 256 := by
  obtain ⟨h1, h2, _, _, _, h4, _, _, _⟩ := mayT_parts hm
  intro x hx
  unfold saidS at hx
  rcases List.mem_append.1 hx with hx | hx
  · rcases List.mem_append.1 hx with hx | hx
    · rcases List.mem_append.1 hx with hx | hx
      · rcases List.mem_append.1 hx with hx | hx
        · rcases List.mem_append.1 hx with hx | hx
          · simp at hx
            omega
          · exact textS_rangeT _ (by omega) x hx
        · exact textS_rangeT _ (by omega) x hx
      · refine putS_rangeT _ (fun y hy => ?_) x hx
        simp at hy
        rcases hy with rfl | rfl
        · exact ho.uid
        · omega
    · rw [u32_four _ ho.addr] at hx
      simp at hx
      rcases hx with rfl | rfl | rfl | rfl <;> omega
  · refine putS_rangeT _ (fun y hy => ?_) x hx
    simp at hy
    rcases hy with rfl | rfl | rfl
    · exact ho.born
    · exact ho.til
    · exact ho.key
theorem derS_range (k : List Int) (s : ByteArray) (n : Nat) : ∀ x ∈ derS k s n, 0 ≤ x ∧ x < 256 := by
  intro x hx
  rw [derS, macS] at hx
  exact sumS_range _ x hx

set_option maxRecDepth 100000 in
set_option maxHeartbeats 2000000 in
theorem sign_any (k : List Int) (rv : Value) (o n : Nat) (t : Tk) (w : World) (hm : mayT t = true) (ho : t.ok) (hk : SlAt w rv k) (hkb : ∀ x ∈ k, 0 ≤ x ∧ x < 256) (hl : k.length ≤ 64) :
    Calls Tryd.prog 36 #[.agg (ringA rv o n), .agg (tkA t)] w (fun e w' => e = .returned (.agg (cellsOf .u8 (sigS k t))) ∧ Below w.heap.size w w') := by
  have HM := hide hm
  have HO := hide ho
  have hmac := hide ho.mac
  have HB := hide ((((Below.refl w.heap.size w).alloc (Nat.le_refl _) (.cells (ringA rv o n) 25)).alloc (by simp) (.cells (tkA t) 31)).alloc (by simp; omega) (.cells (cellsOf .u8 zeros32) 29))
  have HK := hide (hk.below HB.out)
  have HR := hide (((RBox.new w rv o n).alloc (.cells (tkA t) 31)).alloc (.cells (cellsOf .u8 zeros32) 29))
  have hx1 := (TBox.new (w.alloc (.cells (ringA rv o n) 25)) t).alloc (.cells (cellsOf .u8 zeros32) 29)
  have hx2 := Blk.new ((w.alloc (.cells (ringA rv o n) 25)).alloc (.cells (tkA t) 31)) 29 .u8 zeros32
  have e1 : (w.alloc (.cells (ringA rv o n) 25)).heap.size = w.heap.size + 1 := by simp
  have e2 : ((w.alloc (.cells (ringA rv o n) 25)).alloc (.cells (tkA t) 31)).heap.size = w.heap.size + 1 + 1 := by simp
  rw [e1] at hx1
  rw [e2] at hx2
  have HX := hide hx1
  have HZ := hide hx2
  have HL := hide (saidS_len hm)
  have HLR := hide (saidS_range ho hm)
  have HDR := hide (derS_range k caB t.key)
  obtain ⟨R, hR⟩ : ∃ R, sigS k t = R := ⟨_, rfl⟩
  have HG : ∀ _ : True, macS (derS k caB t.key) (saidS t) = R := fun _ => hR
  have HGL : Hid (R.length = 32) := hide (by rw [← hR]; exact length_sigS k t)
  rw [hR]
  clear hR
  have HD := hide (length_derS k caB t.key)
  have hkey := hide ho.key
  have hcaB : (⟨#[99, 97]⟩ : ByteArray) = caB := rfl
  clear hx1 hx2 e1 e2 hm ho hk
  go_enter Tryd.func36, Tryd.ntmps36
  go_wp2_with (with_reducible refine wpList_alloc_row rfl 29 rfl (cellsOf .u8 zeros32) zero36 ?_)
  unfold ringA at *
  obtain ⟨W3, hW3⟩ : ∃ W3, W3 = ((w.alloc (.cells #[rv, .int .u64 o, .int .u64 n] 25)).alloc (.cells (tkA t) 31)).alloc (.cells (cellsOf .u8 zeros32) 29) := ⟨_, rfl⟩
  rw [← hW3] at HB HK HR HX HZ ⊢
  clear hW3
  have HB3 := hide HB.out.drew
  have HK3 : Hid (SlAt W3.drew rv k) := HK
  have HR3 := hide HR.out.drew
  have HX3 := hide HX.out.drew
  have HZ3 := hide HZ.out.drew
  clear HB HK HR HX HZ
  refine wp_region_held_drew (S := fun w' => RBox w' w.heap.size rv o n ∧ TBox w' (w.heap.size + 1) t) (by kernel_rfl) ⟨HR3.out, HX3.out⟩ (fun hHeld => ?_)
  refine wpAnyH_take (i := 0) (oi := { dst := some 5, op := Op.fieldAddr 25 (Operand.tmp 2) 0, type := 0, pos := "ref.go:46", after := #[], guard := none }) (v := ?_) rfl (by kernel_rfl) (by kernel_rfl) (by kernel_rfl) (fun _ _ _ h => h) (Or.inl ⟨by rfl, ?_⟩) hHeld ?_
  rotate_left
  · intro w hSw; (try dsimp only at hSw); go_simp; first | done | with_reducible rfl
  try simp only [Act.put, List.setIfInBounds_toArray, List.set_cons_zero, List.set_cons_succ]
  refine wpAnyH_take (i := 1) (oi := { dst := some 6, op := Op.load 22 (Operand.tmp 5), type := 22, pos := "ref.go:46", after := #[{ on := 0, ground := Ground.data }], guard := none }) (v := ?_) rfl (by kernel_rfl) (by kernel_rfl) (by kernel_rfl) (fun _ _ _ h => h) (Or.inl ⟨by rfl, ?_⟩) hHeld ?_
  rotate_left
  · intro w hSw; (try dsimp only at hSw); have e0 := hSw.1.c0; have e7 := hSw.2.c7; go_simp; first | done | with_reducible rfl
  try simp only [Act.put, List.setIfInBounds_toArray, List.set_cons_zero, List.set_cons_succ]
  refine wpAnyH_take (i := 2) (oi := { dst := some 7, op := Op.fieldAddr 31 (Operand.tmp 3) 6, type := 0, pos := "ref.go:46", after := #[], guard := none }) (v := ?_) rfl (by kernel_rfl) (by kernel_rfl) (by kernel_rfl) (fun _ _ _ h => h) (Or.inl ⟨by rfl, ?_⟩) hHeld ?_
  rotate_left
  · intro w hSw; (try dsimp only at hSw); go_simp; first | done | with_reducible rfl
  try simp only [Act.put, List.setIfInBounds_toArray, List.set_cons_zero, List.set_cons_succ]
  refine wpAnyH_take (i := 3) (oi := { dst := some 8, op := Op.load 23 (Operand.tmp 7), type := 23, pos := "ref.go:46", after := #[{ on := 2, ground := Ground.data }], guard := none }) (v := ?_) rfl (by kernel_rfl) (by kernel_rfl) (by kernel_rfl) (fun _ _ _ h => h) (Or.inl ⟨by rfl, ?_⟩) hHeld ?_
  rotate_left
  · intro w hSw; (try dsimp only at hSw); have e0 := hSw.1.c0; have e7 := hSw.2.c7; go_simp; first | done | with_reducible rfl
  try simp only [Act.put, List.setIfInBounds_toArray, List.set_cons_zero, List.set_cons_succ]
  refine wpAnyH_take (i := 5) (oi := { dst := some 10, op := Op.load 31 (Operand.tmp 3), type := 31, pos := "ref.go:46", after := #[], guard := none }) (v := .agg (tkA t)) rfl (by kernel_rfl) (by kernel_rfl) (by kernel_rfl) (fun _ _ _ h => h) (yields_tk (by rfl) _ rfl (w.heap.size + 1) rfl t hmac.out (fun _ h => h.2)) hHeld ?_
  try simp only [Act.put, List.setIfInBounds_toArray, List.set_cons_zero, List.set_cons_succ]
  refine wpAnyH_ready (rs := [4]) (by kernel_rfl) (by simp) ?_
  refine AllReadyH.cons (o := { dst := some 9, op := Op.call { callee := Callee.value (Operand.func 51), args := #[Operand.tmp 6, Operand.const (Value.string { data := #[99, 97] }), Operand.tmp 8], argTypes := #[22, 9, 23] }, type := 22, pos := "ref.go:46", after := #[{ on := 1, ground := Ground.data }, { on := 3, ground := Ground.data }], guard := none }) rfl (fun K hK => ?_) AllReadyH.nil
  clear hHeld
  go_simp
  refine (deriveR_any k caB t.key rv _ hkey.out HK3.out hkb (by omega) (by decide)).mono ?_
  rintro e W4 ⟨kv, rfl, hs, hB⟩
  have HB4 := hide (HB3.out.trans (hB.mono HB3.out.size))
  have HK4 := hide (HK3.out.below hB)
  have HR4 := hide (HR3.out.next hB)
  have HX4 := hide (HX3.out.next hB)
  have HZ4 := hide (blk_through hB HZ3.out)
  clear HB3 HK3 HR3 HX3 HZ3 
  have HY4 := hide hs
  clear hs hB
  refine hK.out _ _ (⟨HR4.out, HX4.out⟩) (fun hHeld => ?_)
  clear hK K
  try simp only [Act.put, List.setIfInBounds_toArray, List.set_cons_zero, List.set_cons_succ]
  refine wpAnyH_ready (rs := [6]) (by kernel_rfl) (by simp) ?_
  refine AllReadyH.cons (o := { dst := some 11, op := Op.call { callee := Callee.value (Operand.func 39), args := #[Operand.tmp 10], argTypes := #[31] }, type := 22, pos := "ref.go:46", after := #[{ on := 5, ground := Ground.data }, { on := 4, ground := Ground.chain }], guard := none }) rfl (fun K hK => ?_) AllReadyH.nil
  clear hHeld
  go_simp
  refine (saidR_any t HO.out HM.out _).mono ?_
  rintro e W5 ⟨sv, rfl, hs, hB0⟩
  have hB := (((Below.refl W4.heap.size W4).alloc (Nat.le_refl _) (.cells (tkA t) 31)).trans (hB0.mono (Nat.le_succ _)))
  have HB5 := hide (HB4.out.trans (hB.mono HB4.out.size))
  have HK5 := hide (HK4.out.below hB)
  have HR5 := hide (HR4.out.next hB)
  have HX5 := hide (HX4.out.next hB)
  have HZ5 := hide (blk_through hB HZ4.out)
  have HY5 := hide (HY4.out.below hB)
  clear HB4 HK4 HR4 HX4 HZ4 HY4
  have HS5 := hide hs.slAt
  clear hs hB hB0
  refine hK.out _ _ (⟨HR5.out, HX5.out⟩) (fun hHeld => ?_)
  clear hK K
  try simp only [Act.put, List.setIfInBounds_toArray, List.set_cons_zero, List.set_cons_succ]
  refine wpAnyH_ready (rs := [7]) (by kernel_rfl) (by simp) ?_
  refine AllReadyH.cons (o := { dst := some 12, op := Op.call { callee := Callee.value (Operand.func 50), args := #[Operand.tmp 9, Operand.tmp 11], argTypes := #[22, 22] }, type := 29, pos := "ref.go:46", after := #[{ on := 4, ground := Ground.data }, { on := 6, ground := Ground.data }, { on := 6, ground := Ground.chain }], guard := none }) rfl (fun K hK => ?_) AllReadyH.nil
  clear hHeld
  go_simp
  refine (macR_any (derS k caB t.key) (saidS t) kv sv _ HY5.out HDR.out (by rw [HD.out]; omega) HS5.out HLR.out (by have := HL.out; omega)).mono ?_
  rw [HG trivial]
  rintro e W6 ⟨rfl, hB⟩
  have HB6 := hide (HB5.out.trans (hB.mono HB5.out.size))
  have HK6 := hide (HK5.out.below hB)
  have HR6 := hide (HR5.out.next hB)
  have HX6 := hide (HX5.out.next hB)
  have HZ6 := hide (blk_through hB HZ5.out)
  clear HB5 HK5 HR5 HX5 HZ5 
  clear hB HY5 HS5 HG
  refine hK.out _ _ (⟨HR6.out, HX6.out⟩) (fun hHeld => ?_)
  clear hK K
  try simp only [Act.put, List.setIfInBounds_toArray, List.set_cons_zero, List.set_cons_succ]
  refine wpAnyH_ready (rs := [8]) (by kernel_rfl) (by simp) ?_
  refine AllReadyH.cons (o := { dst := none, op := Op.store 29 (Operand.tmp 4) (Operand.tmp 12), type := 0, pos := "ref.go:46", after := #[{ on := 7, ground := Ground.data }, { on := 7, ground := Ground.chain }, { on := 0, ground := Ground.phase }, { on := 1, ground := Ground.phase }, { on := 2, ground := Ground.phase }, { on := 3, ground := Ground.phase }, { on := 4, ground := Ground.phase }, { on := 5, ground := Ground.phase }, { on := 6, ground := Ground.phase }, { on := 7, ground := Ground.phase }], guard := none }) rfl (fun K hK => ?_) AllReadyH.nil
  clear hHeld
  rw [if_pos (by rfl)]
  refine wp_store_row _ _ _ rfl (w.heap.size + 1 + 1) (cellsOf .u8 R) rfl rfl _ _ HZ6.out.row (sz36 _ HGL.out) (szZ32 _ HGL.out) (oneCell_cellsOf _ _) ?_
  have HZ7 := hide (HZ6.out.setRow R)
  have HB7 := hide (below_setRow HB6.out (g := w.heap.size + 1 + 1) (by omega) (cellsOf .u8 R))
  have HR7 : Hid (RBox (W6.setRow (w.heap.size + 1 + 1) (cellsOf .u8 R)) w.heap.size rv o n) := hide ((_root_.Go.setRow_other _ _ _ _ (by omega)).trans HR6.out)
  have HX7 : Hid (TBox (W6.setRow (w.heap.size + 1 + 1) (cellsOf .u8 R)) (w.heap.size + 1) t) := hide ((_root_.Go.setRow_other _ _ _ _ (by omega)).trans HX6.out)
  clear HB6 HK6 HR6 HX6 HZ6
  refine hK.out _ _ (⟨HR7.out, HX7.out⟩) (fun hHeld => ?_)
  clear hK K
  try simp only [Act.put]
  refine wpAnyH_done (by kernel_rfl) ?_ _
  clear hHeld
  go_wp2_with fail
  refine bodyPost_ret (v := .agg (cellsOf .u8 R)) (results_cell_row rfl _ _ (w.heap.size + 1 + 1) _ _ (0, 0) _ rfl HZ7.out.row Tryd.underlying29 rfl (sz36 _ HGL.out)) rfl ?_
  exact ⟨rfl, HB7.out⟩
end Go.Proofs.YtaomigfmjglggaaDoor
