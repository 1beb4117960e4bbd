/- The document's reader: front, Uint, Text, End. -/
import Derived.Test.YtdlhengfhmkpdaaDoorCdFront
import Derived.Deep.RegionHeld3
import Derived.Deep.MidRow
namespace Go.Proofs.YtdlhengfhmkpdaaDoor
open Go.RowKit

theorem str_toListR (a b : ByteArray) (h : a.toList = b.toList) : a = b := by
  rw [ByteArray.toList_eq, ByteArray.toList_eq] at h
  have h2 := Array.toList_inj.1 h
  cases a; cases b; simp_all
theorem and127b : ∀ a : Fin 256, bits BinOp.and IntKind.u8 (a.val : Int) 127 = ((a.val % 128 : Nat) : Int) := by decide +kernel

set_option maxRecDepth 100000 in
set_option maxHeartbeats 4000000 in
theorem frontM_any (W : World) (B : Nat) (F : Nat → Prop) (g : Nat) (bs : List Int) (bad : Bool) (h : RdM W B F g bs bad) (hr : ∀ x ∈ bs, 0 ≤ x ∧ x < 256) (hb : bs.length ≤ 140737488355328) :
    Calls Tryd.prog 69 #[.pointer (some ⟨g, 0, none⟩)] W (fun e w' => e = .returned (.tuple #[.int .u64 ((frontS bs).1 : Nat), .int .i64 ((frontS bs).2 : Nat)]) ∧ Below W.heap.size W w') := by
  obtain ⟨ao, cap, hg, hs, hv, c0, c1, f0, f1⟩ := h.cells
  have HGL : Hid (g < W.heap.size) := hide (h.ge g h.own).2
  have HC0 := hide c0
  have HS := hide hs
  have HRG := hide hr
  obtain ⟨l, hl⟩ : ∃ l, bs.length = l := ⟨_, rfl⟩
  rw [hl] at HC0 HS hb
  have HL := tuck hl
  clear h hr hg hs hv c0 c1 f0 f1 hl
  go_enter Tryd.func69, Tryd.ntmps69
  go_wp2_with fail
  go_loopw [4] (fun i wr => ∃ n : Nat, 1 ≤ n ∧ n ≤ 11 ∧ i = .int .i64 n ∧ Hid (∀ j, 1 ≤ j → j < n → j ≤ bs.length → uintS (valL (bs.take j)) ≠ bs.take j) ∧ Hid (Below W.heap.size W wr))
    (fun i _ => 11 - (intOf i).toNat)
  case atStart => exact ⟨1, by omega, by omega, rfl, hide (fun j h1 h2 _ => by omega), hide (Below.refl _ _)⟩
  case round =>
    obtain ⟨n, hn1, hn11, rfl, HNO, HB⟩ := hrel
    have hc0 : wr.cell? ⟨g, 0, none⟩ = some (.slice ao l cap) := (HB.out.cell (p := ⟨g, 0, none⟩) HGL.out).trans HC0.out
    by_cases hlt : n ≤ 10 ∧ n ≤ l
    · have hi1 : (n : Int) ≤ 10 := by omega
      have hi2 : (n : Int) ≤ (l : Int) := by omega
      have hnl : n ≤ bs.length := by rw [HL.out]; exact hlt.2
      have HNL := tuck hnl
      have hn10 : n ≤ 10 := hlt.1
      have hnl2 : Tuck (n ≤ l) := tuck hlt.2
      have HTL : Tuck ((bs.take n).length = n) := tuck (by simp; omega)
      have HTR : Hid (∀ x ∈ bs.take n, 0 ≤ x ∧ x < 256) := hide (fun x hx => HRG.out x (List.mem_of_mem_take hx))
      clear hlt hnl
      obtain ⟨T, hT⟩ : ∃ T, bs.take n = T := ⟨_, rfl⟩
      have HT := tuck hT
      rw [hT] at HTL HTR
      clear hT
      go_wp2_with fail
      generalize wr = wo at HB hc0 ⊢
      go_loopw [5, 6] (fun a i wr => ∃ m : Nat, m ≤ n ∧ i = .int .i64 ((n : Int) - 1 - (m : Int)) ∧ a = .int .u64 (valL (T.drop (n - m)) : Nat) ∧ wr = wo)
        (fun _ i _ => (intOf i + 1).toNat)
      case atStart => exact ⟨0, by omega, by simp, by rw [List.drop_eq_nil_of_le (by have := HTL.out; omega)]; rfl, rfl⟩
      case round =>
        obtain ⟨m, hm, rfl, rfl, rfl⟩ := hrel
        by_cases hlm : m < n
        · obtain ⟨j, hj⟩ : ∃ j : Nat, j = n - 1 - m := ⟨_, rfl⟩
          have hji : (n : Int) - 1 - (m : Int) = (j : Int) := by omega
          have hjn : j < n := by omega
          have hjl : j < l := by have := hnl2.out; omega
          obtain ⟨ad, rfl, hsp, hcell⟩ := (HS.out.below HB.out).cellK (i := j) hjl
          have hbt : nth T j = nth bs j := by
            rw [← HT.out]
            simp [nth, List.getD, List.getElem?_take, hjn]
          have hbr := nth_range HTR.out j
          obtain ⟨b, hbn⟩ : ∃ b : Nat, nth T j = b := ⟨(nth T j).toNat, by omega⟩
          rw [← hbt, hbn] at hcell
          have hb2 : b < 256 := by omega
          have hand := and127b ⟨b, hb2⟩
          have HVS : Tuck (valL (T.drop (n - (m + 1))) = (valL (T.drop (n - m)) * 128 + b % 128) % 18446744073709551616) := tuck (by
            rw [show n - (m + 1) = j by omega, List.drop_eq_getElem_cons (by rw [HTL.out]; exact hjn), valL, show j + 1 = n - m by omega]
            have : T[j]'(by rw [HTL.out]; exact hjn) = (b : Int) := by rw [← hbn]; simp [nth, List.getD, HTL.out, hjn]
            rw [this]
            rfl)
          have hxl := valL_lt (T.drop (n - m))
          generalize valL (T.drop (n - m)) = x at HVS hxl ⊢
          have hwb : IntKind.u64.wrap ((b % 128 : Nat) : Int) = ((b % 128 : Nat) : Int) := IntWalk.u64_in _ (by omega)
          obtain ⟨c, hc⟩ : ∃ c, b % 128 = c := ⟨_, rfl⟩
          rw [hc] at hand hwb HVS
          rw [hji]
          have HJ := tuck hj
          have hmn : m < n := hlm
          have hjp : 0 ≤ (j : Int) := by omega
          clear hbt hbr hbn hc hj hji
          go_wp2_with fail
          go_roundw
          case rel => exact ⟨m + 1, by omega, (by have := HJ.out; rw [show (n : Int) - 1 - ((m + 1 : Nat) : Int) = (j : Int) - 1 by omega]), (by rw [HVS.out]; simp only [IntKind.wrap_u64]; congr 1; omega), (by first | trivial | rfl | simp)⟩
          case measure => have := HJ.out; first | (simp [intOf]; done) | (simp [intOf]; omega)
        · obtain rfl : m = n := by omega
          have hTn : T.drop (m - m) = T := by simp
          rw [hTn] at *
          have hxl := valL_lt T
          have HSH := hide (shortR_any (valL T) hxl wr.drew)
          obtain ⟨x, hx⟩ : ∃ x, valL T = x := ⟨_, rfl⟩
          have HX := tuck hx
          rw [hx] at HSH ⊢
          have d0 := hide (show wr.drew.cell? ⟨g, 0, none⟩ = _ from hc0)
          have HSd := hide (show SlAt wr.drew _ _ from HS.out.below HB.out.drew)
          have HBd := hide (show Below W.heap.size W wr.drew from HB.out.drew)
          have HGd : Hid (g < wr.drew.heap.size) := hide (Nat.lt_of_lt_of_le HGL.out HB.out.size)
          have hcut := run_cut_hk (P := Tryd.prog) .i64 Tryd.underlying22 size5 ao l cap m (by have := HS.out.le.1; have := hnl2.out; omega)
          clear hTn hx
          have HEQ : Hid (((strOfNums (uintS x)).toList == (strOfNums (List.take m bs)).toList) = decide (uintS x = List.take m bs)) := hide (by
            by_cases hxt : uintS x = List.take m bs
            · rw [hxt]; simp
            · have h1 : ¬ (strOfNums (uintS x)).toList = (strOfNums (List.take m bs)).toList := fun h => hxt (strOfNums_inj _ _ (uintS_range x (by rw [← HX.out]; exact hxl)) (by rw [HT.out]; exact HTR.out) (str_toListR _ _ h))
              rw [decide_eq_false hxt]
              simpa using h1)
          go_wp2_with fail
          refine wp_region_held_drew (S := fun w' => w'.cell? ⟨g, 0, none⟩ = some (.slice ao l cap) ∧ SlAt w' (.slice ao l cap) bs) (by kernel_rfl) ⟨d0.out, HSd.out⟩ (fun hHeld => ?_)
          refine wpAnyH_take (i := 0) (oi := { dst := some 38, op := Op.move (Operand.tmp 5), type := 31, pos := "ref.go:52", after := #[], guard := none }) (v := ?_) rfl (by kernel_rfl) (by kernel_rfl) (by kernel_rfl) (fun _ _ _ h => h) (Or.inl ⟨by rfl, ?_⟩) hHeld ?_
          rotate_left
          · intro w hSw; (try dsimp only at hSw); go_simp; first | done | with_reducible rfl
          try simp only [Act.put, List.setIfInBounds_toArray, List.set_cons_zero, List.set_cons_succ]
          refine wpAnyH_take (i := 3) (oi := { dst := some 41, op := Op.move (Operand.tmp 0), type := 28, pos := "ref.go:52", after := #[], guard := none }) (v := ?_) rfl (by kernel_rfl) (by kernel_rfl) (by kernel_rfl) (fun _ _ _ h => h) (Or.inl ⟨by rfl, ?_⟩) hHeld ?_
          rotate_left
          · intro w hSw; (try dsimp only at hSw); go_simp; first | done | with_reducible rfl
          try simp only [Act.put, List.setIfInBounds_toArray, List.set_cons_zero, List.set_cons_succ]
          refine wpAnyH_take (i := 4) (oi := { dst := some 42, op := Op.nilCheck (Operand.tmp 41), type := 0, pos := "ref.go:52", after := #[{ on := 3, ground := Ground.data }], guard := none }) (v := ?_) rfl (by kernel_rfl) (by kernel_rfl) (by kernel_rfl) (fun _ _ _ h => h) (Or.inl ⟨by rfl, ?_⟩) hHeld ?_
          rotate_left
          · intro w hSw; (try dsimp only at hSw); go_simp; first | done | with_reducible rfl
          try simp only [Act.put, List.setIfInBounds_toArray, List.set_cons_zero, List.set_cons_succ]
          refine wpAnyH_take (i := 5) (oi := { dst := some 43, op := Op.fieldAddr 30 (Operand.tmp 42) 0, type := 0, pos := "ref.go:52", after := #[{ on := 4, ground := Ground.data }], guard := none }) (v := ?_) rfl (by kernel_rfl) (by kernel_rfl) (by kernel_rfl) (fun _ _ _ h => h) (Or.inl ⟨by rfl, ?_⟩) hHeld ?_
          rotate_left
          · intro w hSw; (try dsimp only at hSw); go_simp; first | done | with_reducible rfl
          try simp only [Act.put, List.setIfInBounds_toArray, List.set_cons_zero, List.set_cons_succ]
          refine wpAnyH_take (i := 6) (oi := { dst := some 44, op := Op.load 22 (Operand.tmp 43), type := 22, pos := "ref.go:52", after := #[{ on := 5, ground := Ground.data }], guard := none }) (v := ?_) rfl (by kernel_rfl) (by kernel_rfl) (by kernel_rfl) (fun _ _ _ h => h) (Or.inl ⟨by rfl, ?_⟩) hHeld ?_
          rotate_left
          · intro w hSw; (try dsimp only at hSw); (have c6 := hSw.1); go_simp; first | done | with_reducible rfl
          try simp only [Act.put, List.setIfInBounds_toArray, List.set_cons_zero, List.set_cons_succ]
          refine wpAnyH_take (i := 7) (oi := { dst := some 45, op := Op.move (Operand.tmp 4), type := 3, pos := "ref.go:52", after := #[], guard := none }) (v := ?_) rfl (by kernel_rfl) (by kernel_rfl) (by kernel_rfl) (fun _ _ _ h => h) (Or.inl ⟨by rfl, ?_⟩) hHeld ?_
          rotate_left
          · intro w hSw; (try dsimp only at hSw); go_simp; first | done | with_reducible rfl
          try simp only [Act.put, List.setIfInBounds_toArray, List.set_cons_zero, List.set_cons_succ]
          refine wpAnyH_take (i := 8) (oi := { dst := some 46, op := Op.slice 22 (Operand.tmp 44) none (some (Operand.tmp 45)) none, type := 22, pos := "ref.go:52", after := #[{ on := 6, ground := Ground.data }, { on := 7, ground := Ground.data }], guard := none }) (v := ?_) rfl (by kernel_rfl) (by kernel_rfl) (by kernel_rfl) (fun _ _ _ h => h) (Or.inl ⟨by rfl, ?_⟩) hHeld ?_
          rotate_left
          · intro w hSw; (try dsimp only at hSw); go_simp; first | done | with_reducible rfl
          try simp only [Act.put, List.setIfInBounds_toArray, List.set_cons_zero, List.set_cons_succ]
          refine wpAnyH_take (i := 9) (oi := { dst := some 47, op := Op.convert 22 9 (Operand.tmp 46), type := 9, pos := "ref.go:52", after := #[{ on := 8, ground := Ground.data }], guard := none }) (v := ?_) rfl (by kernel_rfl) (by kernel_rfl) (by kernel_rfl) (fun _ _ _ h => h) (Or.inl ⟨by rfl, ?_⟩) hHeld ?_
          rotate_left
          · intro w hSw; (try dsimp only at hSw); (have hcw := (hSw.2.front' (m := m) hnl2.out).string (P := Tryd.prog) 22 5 9 Tryd.underlying22 Tryd.underlying5 Tryd.underlying9); go_simp; first | done | with_reducible rfl
          try simp only [Act.put, List.setIfInBounds_toArray, List.set_cons_zero, List.set_cons_succ]
          refine wpAnyH_ready (rs := [1]) (by kernel_rfl) (by simp) ?_
          refine AllReadyH.cons (o := { dst := some 39, op := Op.call { callee := Callee.value (Operand.func 91), args := #[Operand.tmp 38], argTypes := #[31] }, type := 22, pos := "ref.go:52", after := #[{ on := 0, ground := Ground.data }], guard := none }) rfl (fun K hK => ?_) AllReadyH.nil
          clear hHeld
          go_simp
          refine HSH.out.mono ?_
          rintro e z1 ⟨vc, rfl, hrowc, hB⟩
          have HB1 := hide (HBd.out.trans (hB.mono HBd.out.size))
          have hstc := hrowc.str
          obtain ⟨ac, cc, hvc⟩ := hrowc.slAt.len
          subst hvc
          have hcel := (hB.cell (p := ⟨g, 0, none⟩) HGd.out).trans d0.out
          have HSz := hide (HSd.out.below hB)
          dsimp only
          refine hK.out _ _ (⟨(hB.cell (p := ⟨g, 0, none⟩) HGd.out).trans d0.out, HSd.out.below hB⟩) (fun hHeld => ?_)
          clear hK K
          try simp only [Act.put, List.setIfInBounds_toArray, List.set_cons_zero, List.set_cons_succ]
          refine wpAnyH_ready (rs := [2]) (by kernel_rfl) (by simp) ?_
          refine AllReadyH.cons (o := { dst := some 40, op := Op.convert 22 9 (Operand.tmp 39), type := 9, pos := "ref.go:52", after := #[{ on := 1, ground := Ground.data }], guard := none }) rfl (fun K hK => ?_) AllReadyH.nil
          clear hHeld
          go_simp
          refine hK.out _ _ (⟨hcel, HSz.out⟩) (fun hHeld => ?_)
          clear hK K
          try simp only [Act.put, List.setIfInBounds_toArray, List.set_cons_zero, List.set_cons_succ]
          refine wpAnyH_take (i := 10) (oi := { dst := some 48, op := Op.binOp BinOp.eql 9 (Operand.tmp 40) (Operand.tmp 47) 9, type := 4, pos := "ref.go:52", after := #[{ on := 2, ground := Ground.data }, { on := 9, ground := Ground.data }], guard := none }) (v := ?_) rfl (by kernel_rfl) (by kernel_rfl) (by kernel_rfl) (fun _ _ _ h => h) (Or.inl ⟨by rfl, ?_⟩) hHeld ?_
          rotate_left
          · intro w hSw; (try dsimp only at hSw); go_simp; first | done | with_reducible rfl
          try simp only [Act.put, List.setIfInBounds_toArray, List.set_cons_zero, List.set_cons_succ]
          refine wpAnyH_done (by kernel_rfl) ?_ _
          have HBz := hide (HBd.out.trans (hB.mono HBd.out.size))
          rw [HEQ.out]
          clear hcel hstc hrowc hHeld HEQ
          by_cases heq : uintS x = List.take m bs
          · rw [decide_eq_true heq]
            have HHIT : Tuck (frontS bs = (x, m)) := tuck (by
              have h := front_hit bs m HNL.out (by rw [HT.out, HX.out, ← HT.out]; exact heq)
              rw [HT.out, HX.out] at h
              exact h)
            clear heq
            go_wp2_with fail
            try simp only [Exit.inBlock, Exit.then]
            refine bodyPost_ret (results_tmp2 rfl _ _ _) rfl ?_
            rw [HHIT.out]
            exact ⟨rfl, HBz.out⟩
          · rw [decide_eq_false heq]
            have HNO2 : Hid (∀ j, 1 ≤ j → j < m + 1 → j ≤ bs.length → uintS (valL (bs.take j)) ≠ bs.take j) := hide (fun j h1 h2 h3 => by
              by_cases hj : j = m
              · subst hj
                rw [HT.out, HX.out, ← HT.out]
                exact heq
              · exact HNO.out j h1 (by omega) h3)
            clear heq
            go_wp2_with fail
            go_roundw
            case rel => exact ⟨m + 1, by omega, by omega, by go_num, HNO2, HBz⟩
            case measure => first | (simp [intOf]; done) | (simp [intOf]; omega)
    · have HMISS : Tuck (frontS bs = (0, 0)) := tuck (front_miss bs HRG.out (fun j h1 h2 h3 => HNO.out j h1 (by have := HL.out; omega) h3))
      by_cases h10 : n ≤ 10
      · have hd1 : (n : Int) ≤ 10 := by omega
        have hd2 : ¬ (n : Int) ≤ (l : Int) := by omega
        clear hlt
        go_wp2_with fail
        try simp only [Exit.inBlock, Exit.then]
        refine bodyPost_ret (results_tmp2 rfl _ _ _) rfl ?_
        rw [HMISS.out]
        exact ⟨rfl, HB.out⟩
      · have hd1 : ¬ (n : Int) ≤ 10 := by omega
        clear hlt
        go_wp2_with fail
        try simp only [Exit.inBlock, Exit.then]
        refine bodyPost_ret (results_tmp2 rfl _ _ _) rfl ?_
        rw [HMISS.out]
        exact ⟨rfl, HB.out⟩
end Go.Proofs.YtdlhengfhmkpdaaDoor
