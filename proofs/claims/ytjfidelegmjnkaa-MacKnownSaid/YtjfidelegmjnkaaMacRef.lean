/- The document's Of of layer 2. -/
import Derived.Test.YtjfidelegmjnkaaProg
import Derived.Test.YtjfidelegmjnkaaMac
import Derived.Test.YtjfidelegmjnkaaRefOf
import Derived.Test.YtjfidelegmjnkaaRow
import Derived.Test.YtjfidelegmjnkaaMacEq
import Derived.Lib.SmallJoins
import Derived.Deep.DeepCutAuto
import Derived.Deep.LoopGhost
namespace Go.Proofs.Ytjfidelegmjnkaa
open Go.RowKit

theorem turnB_range (y : Int) (l : List Int) (hy : 0 ≤ y ∧ y < 256) (hl : ∀ x ∈ l, 0 ≤ x ∧ x < 256) : ∀ x ∈ turnB y l, 0 ≤ x ∧ x < 256 := by
  intro x hx
  obtain ⟨z, hz, rfl⟩ := List.mem_map.1 hx
  obtain ⟨m, hm, e, _⟩ := (u8_range z y (hl z hz) hy).1
  rw [e]; omega

theorem turnB_succ (y : Int) (l : List Int) (i : Nat) (h : i < l.length) : turnB y (l.take (i + 1)) = turnB y (l.take i) ++ [bits BinOp.xor IntKind.u8 (nth l i) y] := by
  rw [List.take_succ_eq_append_getElem h, turnB, turnB, List.map_append, nth, List.getD, List.getElem?_eq_getElem h]
  rfl

theorem Row.cellB {W : World} {B g n c : Nat} {xs : List Int} (h : Row W B (.slice (some ⟨g, 0, none⟩) n c) xs) (i : Nat) (hi : i < xs.length) : W.cell? ⟨g, i, none⟩ = some (.int .u8 (nth xs i)) := by
  obtain ⟨ao, cap, hv, _, _, ha⟩ := h.slAt
  injection hv with e1 e2 e3
  have := (ha _ e1.symm i hi).2.2
  rwa [addr_plain', Nat.zero_add] at this

theorem keyS_range (k : List Int) (hk : ∀ x ∈ k, 0 ≤ x ∧ x < 256) : ∀ x ∈ keyS k, 0 ≤ x ∧ x < 256 := by
  intro x hx
  rw [keyS, List.mem_append] at hx
  rcases hx with hx | hx
  · rw [keyX] at hx
    split at hx
    · exact sumS_range _ x hx
    · exact hk x hx
  · have := (List.mem_replicate.1 hx).2
    omega

set_option maxRecDepth 100000 in
set_option maxHeartbeats 1000000 in
theorem macR_any (k xs : List Int) (kv v : Value) (w : World) (hk : SlAt w kv k) (hkb : ∀ x ∈ k, 0 ≤ x ∧ x < 256) (hkl : k.length ≤ 10000) (hx : SlAt w v xs) (hxb : ∀ x ∈ xs, 0 ≤ x ∧ x < 256) (hl : xs.length ≤ 10000) :
    Calls Try.prog 11 #[kv, v] w (fun e w' => e = .returned (.agg (cellsOf .u8 (macS k xs))) ∧ Below w.heap.size w w') := by
  obtain ⟨R, hR⟩ : ∃ R, R = macS k xs := ⟨_, rfl⟩
  have HRE := hide hR
  have HR : Hid (R.length = 32) := hide (by rw [hR]; exact length_macS _ _)
  rw [← hR]
  clear hR
  have HKB := hide hkb
  have HXB := hide hxb
  have HK := hide hk
  have HX := hide hx
  obtain ⟨ao, cap, rfl⟩ := hx.len
  obtain ⟨ko, kc, rfl⟩ := hk.len
  clear hk hx hkb hxb
  have hal2 : Try.prog.arrayLen 25 = 32 := by kernel_rfl
  go_enter Try.func11, Try.ntmps11
  have hB0 : Below w.heap.size w (w.alloc (.cells (cellsOf .u8 zeros32) 25)) := (Below.refl _ _).alloc (Nat.le_refl _) _
  have hr0 := Row.empty (w.alloc (.cells (cellsOf .u8 zeros32) 25))
  rw [show (w.alloc (.cells (cellsOf .u8 zeros32) 25)).heap.size = w.heap.size + 1 from by simp] at hr0
  obtain ⟨v5, w2, hrun, hrow, hp⟩ := append_row _ _ _ [] hr0 (.slice ko k.length kc) k (HK.out.below (hB0.alloc hB0.size _)) (by simp; omega) (by simp)
  have HRUN := hide hrun
  have HB2 : Hid (Below w.heap.size w w2) := hide (hp.below _ _ (hB0.alloc hB0.size _) (by simp; omega) (fun x hx => by simp [Value.ownBlock] at hx; omega))
  have Hb2 : Hid (Blk w2 w.heap.size 25 .u8 zeros32) := hide (hp.blk _ _ _ _ ((Blk.new w 25 .u8 zeros32).alloc _) (fun x hx => by simp [Value.ownBlock] at hx; omega)).1
  have HS2 : Hid (w.heap.size + 1 ≤ w2.heap.size) := hide (Nat.le_trans (by simp) hp.size)
  rw [List.nil_append] at hrow
  have HROW : Hid (Row w2 (w.heap.size + 1) v5 k) := hide hrow
  clear hrun hrow hp hB0 hr0
  go_upto_if 16 with (first
    | (with_reducible refine wpList_alloc_row rfl 25 rfl (cellsOf .u8 zeros32) zero36 ?_)
    | (at_builtin; with_reducible refine wpList_append_run rfl (.tmp 11) (.tmp 12) 22 22 22 rfl rfl (.slice (some ⟨w.heap.size + 1, 0, none⟩) 0 0) (.slice ko k.length kc) v5 w2 rfl rfl HRUN.out ?_; obtain ⟨ao5, cap5, hv5⟩ := HROW.out.slAt.len; subst hv5))
  obtain ⟨m, hm⟩ : ∃ m, m = k.length := ⟨_, rfl⟩
  have HM := hide hm
  clear HRUN
  rw [← hm] at HROW HK hkl ⊢
  clear hm
  go_cut [5, 6] (fun s5 _ W => Row W (w.heap.size + 1) s5 (keyX k) ∧ Blk W w.heap.size 25 .u8 zeros32 ∧ Below w.heap.size w W ∧ w.heap.size + 1 ≤ W.heap.size)
  case first =>
    by_cases hbig : 64 < m
    · have hX : keyX k = sumS k := by rw [keyX, if_pos (by rw [← HM.out]; exact hbig)]
      go_wp2_with fail
      refine (ofR_any k (.slice ao5 m cap5) w2 HROW.out.slAt HKB.out (by rw [← HM.out]; omega)).mono ?_
      rintro e w3 ⟨rfl, hBX⟩
      have HB3 := hide (below_through hBX HB2.out)
      have Hb3 := hide (blk_through hBX Hb2.out)
      have HS3 : Hid (w.heap.size + 1 ≤ w3.heap.size) := hide (Nat.le_trans HS2.out hBX.size)
      obtain ⟨Y, hY⟩ : ∃ Y, Y = sumS k := ⟨_, rfl⟩
      have HY : Hid (Y.length = 32) := hide (by rw [hY]; exact length_sumS _)
      rw [← hY] at hX ⊢
      have HKX := hide hX
      clear hBX HB2 Hb2 HS2 HROW hY hX
      go_wp2_with (first
        | (with_reducible refine wpList_alloc_row rfl 25 rfl (cellsOf .u8 zeros32) zero36 ?_)
        | (with_reducible refine wpList_store_blk rfl 25 (.tmp 6) (.tmp 18) rfl w3.heap.size .u8 Y rfl rfl _ _ (Blk.new w3 25 .u8 zeros32) (sz36 Y HY.out) (zl32 HY.out) ?_))
      intro w4 hb4 hz4 hB4 hk4
      have HB4 : Hid (Below w.heap.size w w4) := hide ((HB3.out.alloc HB3.out.size (.cells (cellsOf .u8 zeros32) 25)).trans (hB4 _ HB3.out.size))
      have Hb4 : Hid (Blk w4 w.heap.size 25 .u8 zeros32) := hide ((Hb3.out.alloc (.cells (cellsOf .u8 zeros32) 25)).kept hk4 (Nat.ne_of_lt Hb3.out.lt))
      have HS4 : Hid (w.heap.size + 1 ≤ w4.heap.size) := hide (by rw [hz4]; have := HS3.out; simp; omega)
      have HY4 := hide hb4
      clear hb4 hz4 hB4 hk4 HB3 Hb3
      generalize w3.heap.size = g6 at HY4 ⊢
      have hr0 := Row.empty w4
      obtain ⟨v7, w5, hrun, hrow, hp⟩ := append_row _ _ _ [] hr0 (.slice (some ⟨g6, 0, none⟩) 32 32) Y (slAt_blkN (HY4.out.alloc _) HY.out) (by rw [HY.out]; simp) (by simp)
      have HB5 : Hid (Below w.heap.size w w5) := hide (hp.below _ _ (HB4.out.alloc HB4.out.size _) (by have := HS4.out; simp; omega) (fun x hx => by simp [Value.ownBlock] at hx; have := HS4.out; omega))
      have Hb5 : Hid (Blk w5 w.heap.size 25 .u8 zeros32) := hide (hp.blk _ _ _ _ (Hb4.out.alloc _) (fun x hx => by simp [Value.ownBlock] at hx; have := HS4.out; omega)).1
      have HS5 : Hid (w.heap.size + 1 ≤ w5.heap.size) := hide (by have := HS4.out; have := hp.size; simp at this; omega)
      rw [List.nil_append] at hrow
      have HROW5 : Hid (Row w5 (w.heap.size + 1) v7 Y) := hide (hrow.base HS4.out)
      clear hr0 hrow hp HB4 Hb4 HS4 HY4
      go_wp2_with (first
        | (at_builtin; with_reducible refine wpList_append_run rfl (.tmp 19) (.tmp 20) 22 22 22 rfl rfl (.slice (some ⟨w4.heap.size, 0, none⟩) 0 0) (.slice (some ⟨g6, 0, none⟩) 32 32) v7 w5 rfl rfl hrun ?_))
      go_meet
      exact ⟨by rw [HKX.out]; exact HROW5.out, Hb5.out, HB5.out, HS5.out⟩
    · have hX : keyX k = k := by rw [keyX, if_neg (by rw [← HM.out]; exact hbig)]
      go_wp2_with fail
      go_meet
      exact ⟨by rw [hX]; exact HROW.out, Hb2.out, HB2.out, HS2.out⟩
  case rest =>
    revert u6 u11 u12 u13 u14 u15 u16 u17 u18 u19 u20 u21 u22 u23 u24 u25 u26 u27 u28 u29 u30 u31 u32 u33 u34 u35 u36 u37 u38 u39 u40 u41 u42 u43 u44 u45 u46 u47 u48 u49 u50 u51 u52 u53 u54 u55
    intro d6 d11 d12 d13 d14 d15 d16 d17 d18 d19 d20 d21 d22 d23 d24 d25 d26 d27 d28 d29 d30 d31 d32 d33 d34 d35 d36 d37 d38 d39 d40 d41 d42 d43 d44 d45 d46 d47 d48 d49 d50 d51 d52 d53 d54 d55
    obtain ⟨h5, hb, hB, hsz⟩ := hcut
    clear HROW HB2 Hb2 HS2 w2
    have hX5 : (keyX k).length ≤ 64 := length_keyX k
    obtain ⟨L, hL⟩ : ∃ L, L = keyS k := ⟨_, rfl⟩
    obtain ⟨X5, hX⟩ : ∃ X5, X5 = keyX k := ⟨_, rfl⟩
    have HKR : Hid (∀ x ∈ L, 0 ≤ x ∧ x < 256) := hide (by rw [hL]; exact keyS_range k HKB.out)
    rw [← hX] at h5 hX5
    have HKL := hide hL
    have HKX := hide hX
    have HX5 := hide hX5
    clear hX5 hL hX
    revert u5
    intro d5 h5
    go_wp2_with fail
    go_loopg [5] (64 - X5.length) (fun g s wr => ∃ j : Nat, g = 64 - (X5.length + j) ∧ X5.length + j ≤ 64 ∧ Row wr (w.heap.size + 1) s (X5 ++ List.replicate j 0) ∧ Blk wr w.heap.size 25 .u8 zeros32 ∧ Below w.heap.size w wr ∧ w.heap.size + 1 ≤ wr.heap.size)
    case atStart => exact ⟨0, rfl, HX5.out, by simpa using h5, hb, hB, hsz⟩
    case round =>
      clear h5 hb hB hsz
      obtain ⟨j, hg, hj, h5, hb, hB, hsz⟩ := hrel
      obtain ⟨q, hq⟩ : ∃ q, q = (X5 ++ List.replicate j 0).length := ⟨_, rfl⟩
      have hqe : q = X5.length + j := by rw [hq]; simp
      obtain ⟨a6, c6, hv⟩ := h5.slAt.len
      rw [← hq] at hv
      subst hv
      have HQ := hide hqe
      by_cases hlt : q < 64
      · obtain ⟨v7, w7, hrun, hrow, hp⟩ := append_row _ _ _ _ (h5.alloc (.cells #[.int .u8 0] 5)) (.slice (some ⟨wr.heap.size, 0, none⟩) 1 1) [0] (slAt_blkN (Blk.new wr 5 .u8 [0]) rfl) (by rw [← hq]; simp; omega) (by simp; omega)
        rw [List.append_assoc, show List.replicate j (0 : Int) ++ [0] = List.replicate (j + 1) 0 from by rw [List.replicate_succ']] at hrow
        have HB7 : Hid (Below w.heap.size w w7) := hide (hp.below _ _ (hB.alloc hB.size _) (by simp; omega) (fun x hx => by have := h5.ge hx; omega))
        have Hb7 : Hid (Blk w7 w.heap.size 25 .u8 zeros32) := hide (hp.blk _ _ _ _ (hb.alloc _) (fun x hx => by have := h5.ge hx; omega)).1
        have HS7 : Hid (w.heap.size + 1 ≤ w7.heap.size) := hide (by have := hp.size; simp at this; omega)
        have HROW := hide hrow
        obtain ⟨a7, c7, hv7⟩ := hrow.slAt.len
        have hl7 : (X5 ++ List.replicate (j + 1) 0).length = q + 1 := by simp; omega
        rw [hl7] at hv7
        subst hv7
        clear hrow hp h5 hb hB hqe hq hl7
        go_wp2_with (first
          | (at_builtin; with_reducible refine wpList_append_run rfl (.tmp 25) (.tmp 26) 22 22 22 rfl rfl (.slice a6 q c6) (.slice (some ⟨wr.heap.size, 0, none⟩) 1 1) (.slice a7 (q + 1) c7) w7 rfl rfl hrun ?_))
        go_roundg (64 - (X5.length + (j + 1)))
        case rel => exact ⟨j + 1, rfl, by have := HQ.out; omega, HROW.out, Hb7.out, HB7.out, HS7.out⟩
        case measure => have := HQ.out; omega
      · have hq64 : q = 64 := by omega
        subst hq64
        have hLe : X5 ++ List.replicate j 0 = L := by rw [HKL.out, keyS, ← HKX.out, show j = 64 - X5.length from by have := HQ.out; omega]
        rw [hLe] at h5
        rw [hLe] at hq
        have HL := hide hq
        clear hq hLe hqe HQ HX5 HKX hlt
        obtain ⟨g5, c5, hv5⟩ := Joins.ownsRow_form h5 (by rw [← HL.out]; omega)
        rw [← HL.out] at hv5
        injection hv5 with e1 e2 e3
        subst e1
        subst e3
        go_wp2_with fail
        clear hg hj
        go_loopg [7, 8, 9] 64 (fun g s7 s8 s9 wr => ∃ i : Nat, i + g = 64 ∧ s9 = .int .i64 i ∧ Row wr (w.heap.size + 1) s7 (turnB 54 (L.take i)) ∧ Row wr (w.heap.size + 1) s8 (turnB 92 (L.take i)) ∧ Row wr (w.heap.size + 1) (.slice (some ⟨g5, 0, none⟩) 64 c6) L ∧
            Apart s7 s8 ∧ Apart (.slice (some ⟨g5, 0, none⟩) 64 c6) s7 ∧ Apart (.slice (some ⟨g5, 0, none⟩) 64 c6) s8 ∧ Blk wr w.heap.size 25 .u8 zeros32 ∧ Below w.heap.size w wr ∧ w.heap.size + 1 ≤ wr.heap.size)
        case atStart => exact ⟨0, rfl, rfl, Row.nil _ _, Row.nil _ _, h5, Apart.nil _, Apart.nil _, Apart.nil _, hb, hB, hsz⟩
        case round =>
          clear h5 hb hB hsz
          obtain ⟨i, hg, rfl, h7, h8, h5, a78, a57, a58, hb, hB, hsz⟩ := hrel
          by_cases hg0 : gk = 0
          · have hi : i = 64 := by omega
            subst hi
            rw [List.take_of_length_le (by rw [← HL.out]; exact Nat.le_refl _)] at h7 h8
            clear hg hg0 a57 a58
            obtain ⟨v10, w10, hrun, hrow, hp⟩ := append_row _ _ _ _ h7 (.slice ao xs.length cap) xs (HX.out.below hB) (by rw [length_turnB, ← HL.out]; omega) hsz
            obtain ⟨h8', _⟩ := hp.row _ _ _ h8 a78.symm
            have Hb10 := hide (hp.blk _ _ _ _ hb (fun x hx => by have := h7.ge hx; omega)).1
            have HB10 := hide (hp.below _ _ hB hB.size (fun x hx => by have := h7.ge hx; omega))
            have HS10 : Hid (w.heap.size + 1 ≤ w10.heap.size) := hide (Nat.le_trans hsz hp.size)
            have HC := hide (ofR_any (turnB 54 L ++ xs) v10 w10 hrow.slAt (fun x hx => (List.mem_append.1 hx).elim (turnB_range 54 L (by omega) HKR.out x) (HXB.out x)) (by rw [List.length_append, length_turnB, ← HL.out]; omega))
            have H8 := hide h8'
            have HRUN := hide hrun
            obtain ⟨Y, hY⟩ : ∃ Y, Y = sumS (turnB 54 L ++ xs) := ⟨_, rfl⟩
            have HY : Hid (Y.length = 32) := hide (by rw [hY]; exact length_sumS _)
            have HYR : Hid (∀ x ∈ Y, 0 ≤ x ∧ x < 256) := hide (by rw [hY]; exact sumS_range _)
            rw [← hY] at HC
            have HYE := hide hY
            clear hrun hrow hp h8' h7 h8 h5 a78 hb hB hsz hY
            go_wp2_with (first
              | (at_builtin; with_reducible refine wpList_append_run rfl (.tmp 48) (.tmp 49) 22 22 22 rfl rfl u7 (.slice ao xs.length cap) v10 w10 rfl rfl HRUN.out ?_))
            refine HC.out.mono ?_
            rintro e w11 ⟨rfl, hBX⟩
            have Hb11 := hide (blk_through hBX Hb10.out)
            have HB11 := hide (below_through hBX HB10.out)
            have HS11 : Hid (w.heap.size + 1 ≤ w11.heap.size) := hide (Nat.le_trans HS10.out hBX.size)
            have H811 := hide (H8.out.below hBX)
            clear hBX Hb10 HB10 HS10 H8 HC HRUN
            go_wp2_with (first
              | (with_reducible refine wpList_alloc_row rfl 25 rfl (cellsOf .u8 zeros32) zero36 ?_)
              | (with_reducible refine wpList_store_blk rfl 25 (.tmp 10) (.tmp 51) rfl w11.heap.size .u8 Y rfl rfl _ _ (Blk.new w11 25 .u8 zeros32) (sz36 Y HY.out) (zl32 HY.out) ?_))
            intro w12 hb12 hz12 hB12 hk12
            have HB12 : Hid (Below w.heap.size w w12) := hide ((HB11.out.alloc HB11.out.size (.cells (cellsOf .u8 zeros32) 25)).trans (hB12 _ HB11.out.size))
            have Hb12 : Hid (Blk w12 w.heap.size 25 .u8 zeros32) := hide ((Hb11.out.alloc (.cells (cellsOf .u8 zeros32) 25)).kept hk12 (Nat.ne_of_lt Hb11.out.lt))
            have HS12 : Hid (w.heap.size + 1 ≤ w12.heap.size) := hide (by rw [hz12]; have := HS11.out; simp; omega)
            have h812 : Row w12 (w.heap.size + 1) u8 (turnB 92 L) := ownsRow_below H811.out ((Below.refl w11.heap.size w11).alloc (Nat.le_refl _) (.cells (cellsOf .u8 zeros32) 25) |>.trans (hB12 _ (Nat.le_refl _)))
            obtain ⟨v14, w14, hrun, hrow, hp⟩ := append_row _ _ _ _ h812 (.slice (some ⟨w11.heap.size, 0, none⟩) 32 32) Y (slAt_blkN hb12 HY.out) (by rw [length_turnB, ← HL.out, HY.out]; omega) HS12.out
            have Hb14 := hide (hp.blk _ _ _ _ Hb12.out (fun x hx => by have := h812.ge hx; omega)).1
            have HB14 := hide (hp.below _ _ HB12.out HB12.out.size (fun x hx => by have := h812.ge hx; omega))
            have HC := hide (ofR_any (turnB 92 L ++ Y) v14 w14 hrow.slAt (fun x hx => (List.mem_append.1 hx).elim (turnB_range 92 L (by omega) HKR.out x) (HYR.out x)) (by rw [List.length_append, length_turnB, ← HL.out, HY.out]; omega))
            have HRF : Hid (sumS (turnB 92 L ++ Y) = R) := hide (by rw [HRE.out, macS, ← HKL.out, ← HYE.out])
            rw [HRF.out] at HC
            have HRUN := hide hrun
            clear hrun hrow hp h812 hb12 hz12 hB12 hk12 HB11 Hb11 HS11 H811 HB12 Hb12 HS12 HRF HYE
            generalize w11.heap.size = g10 at HRUN ⊢
            go_wp2_with (first
              | (at_builtin; with_reducible refine wpList_append_run rfl (.tmp 52) (.tmp 53) 22 22 22 rfl rfl u8 (.slice (some ⟨g10, 0, none⟩) 32 32) v14 w14 rfl rfl HRUN.out ?_))
            refine HC.out.mono ?_
            rintro e w15 ⟨rfl, hBX⟩
            have hb15 := blk_through hBX Hb14.out
            have hB15 := below_through hBX HB14.out
            clear hBX Hb14 HB14 HC HRUN
            go_wp2_with (first
              | (with_reducible refine wpList_store_row rfl 25 (.tmp 4) (.tmp 55) rfl w.heap.size _ rfl rfl _ _ hb15.row (sz36 _ HR.out) (szZ32 _ HR.out) (oneCell_cellsOf _ _) ?_))
            refine bodyPost_ret (v := .agg (cellsOf .u8 R)) (results_cell_row rfl _ _ w.heap.size _ _ (0, 0) _ rfl (hb15.setRow R).row Try.underlying25 rfl (sz36 _ HR.out)) rfl ?_
            exact ⟨rfl, below_setRow hB15 (Nat.le_refl _) _⟩
          · have hi : i < 64 := by omega
            have hil : i < L.length := by rw [← HL.out]; exact hi
            obtain ⟨y7, hy7⟩ : ∃ y, y = bits BinOp.xor IntKind.u8 (nth L i) 54 := ⟨_, rfl⟩
            obtain ⟨y8, hy8⟩ : ∃ y, y = bits BinOp.xor IntKind.u8 (nth L i) 92 := ⟨_, rfl⟩
            have e7 : turnB 54 (L.take i) ++ [y7] = turnB 54 (L.take (i + 1)) := by rw [hy7]; exact (turnB_succ 54 L i hil).symm
            have e8 : turnB 92 (L.take i) ++ [y8] = turnB 92 (L.take (i + 1)) := by rw [hy8]; exact (turnB_succ 92 L i hil).symm
            have hl54 : (turnB 54 (L.take i)).length ≤ 64 := by rw [length_turnB, List.length_take]; omega
            have hl92 : (turnB 92 (L.take i)).length ≤ 64 := by rw [length_turnB, List.length_take]; omega
            obtain ⟨v7, w7, hrun7, hrow7, hp7⟩ := append_row _ _ _ _ (h7.alloc (.cells #[.int .u8 y7] 5)) (.slice (some ⟨wr.heap.size, 0, none⟩) 1 1) [y7] (slAt_blkN (Blk.new wr 5 .u8 [y7]) rfl) (by simp; omega) (by simp; omega)
            obtain ⟨h8', a87'⟩ := hp7.row _ _ _ (h8.alloc _) a78.symm
            obtain ⟨h5', a57'⟩ := hp7.row _ _ _ (h5.alloc _) a57
            have hb7 := (hp7.blk _ _ _ _ (hb.alloc _) (fun x hx => by have := h7.ge hx; omega)).1
            have hB7 := hp7.below _ _ (hB.alloc hB.size _) (by simp; omega) (fun x hx => by have := h7.ge hx; omega)
            have hs7 : w.heap.size + 1 ≤ w7.heap.size := by have := hp7.size; simp at this; omega
            obtain ⟨v8, w8, hrun8, hrow8, hp8⟩ := append_row _ _ _ _ (h8'.alloc (.cells #[.int .u8 y8] 5)) (.slice (some ⟨w7.heap.size, 0, none⟩) 1 1) [y8] (slAt_blkN (Blk.new w7 5 .u8 [y8]) rfl) (by simp; omega) (by simp; omega)
            obtain ⟨h7'', a78''⟩ := hp8.row _ _ _ (hrow7.alloc _) a87'.symm
            obtain ⟨h5'', a58''⟩ := hp8.row _ _ _ (h5'.alloc _) a58
            have hb8 := (hp8.blk _ _ _ _ (hb7.alloc _) (fun x hx => by have := h8'.ge hx; omega)).1
            have hB8 := hp8.below _ _ (hB7.alloc hB7.size _) (by simp; omega) (fun x hx => by have := h8'.ge hx; omega)
            have hs8 : w.heap.size + 1 ≤ w8.heap.size := by have := hp8.size; simp at this; omega
            have hc1 := h5.cellB i hil
            have hc2 := h5'.cellB i hil
            rw [e7] at h7''
            rw [e8] at hrow8
            have H := hide (And.intro h7'' (And.intro hrow8 (And.intro h5'' (And.intro a78'' (And.intro a57' (And.intro a58'' (And.intro hb8 (And.intro hB8 hs8))))))))
            have HR7 := hide hrun7
            have HR8 := hide hrun8
            rw [hy7] at HR7
            rw [hy8] at HR8
            clear e7 e8 hl54 hl92 hrun7 hrow7 hp7 h8' a87' h5' a57' hb7 hB7 hs7 hrun8 hrow8 hp8 h7'' a78'' h5'' a58'' hb8 hB8 hs8 hy7 hy8 h7 h8 h5 a78 a57 a58 hb hB
            go_wp2_with (first
              | (at_builtin; with_reducible refine wpList_append_run rfl (.tmp 32) (.tmp 38) 22 22 22 rfl rfl u7 (.slice (some ⟨wr.heap.size, 0, none⟩) 1 1) v7 w7 rfl rfl HR7.out ?_)
              | (at_builtin; with_reducible refine wpList_append_run rfl (.tmp 40) (.tmp 46) 22 22 22 rfl rfl u8 (.slice (some ⟨w7.heap.size, 0, none⟩) 1 1) v8 w8 rfl rfl HR8.out ?_))
            go_roundg (gk - 1)
            case rel => obtain ⟨b1, b2, b3, b4, b5, b6, b7, b8, b9⟩ := H.out; exact ⟨i + 1, by omega, by go_num, b1, b2, b3, b4, b5, b6, b7, b8, b9⟩
            case measure => omega
end Go.Proofs.Ytjfidelegmjnkaa
