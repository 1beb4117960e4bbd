/- The law CodeOneForm, walked. -/
import Derived.Test.YtjcdmffjpkckoaaDoorCdForm
import Derived.Test.YtjcdmffjpkckoaaDoorCdAwake
import Derived.Deep.RegionHeld3
import Derived.Deep.MidRow
namespace Go.Proofs.YtjcdmffjpkckoaaDoor
open Go.RowKit

theorem Rd.drew {W : World} {B g : Nat} {F : Nat → Prop} {bs : List Int} {st : Bool} (h : Rd W B F g bs st) : Rd W.drew B F g bs st := h.keep (Keep.drew (fun _ => False) W) (fun _ _ => id)
theorem fieldS_0 (f : Fld) (h : f.kd = 0) : fieldS f = [((f.n % 256 : Nat) : Int)] := by rw [fieldS, if_pos h]
theorem fieldS_1 (f : Fld) (h0 : ¬ f.kd = 0) (h : f.kd = 1) : fieldS f = u32S (f.n % 4294967296) := by rw [fieldS, if_neg h0, if_pos h]
theorem fieldS_2 (f : Fld) (h0 : ¬ f.kd = 0) (h1 : ¬ f.kd = 1) (h : f.kd = 2) : fieldS f = uintS f.n := by rw [fieldS, if_neg h0, if_neg h1, if_pos h]
theorem fieldS_3 (f : Fld) (h0 : ¬ f.kd = 0) (h1 : ¬ f.kd = 1) (h2 : ¬ f.kd = 2) (h : f.kd = 3) : fieldS f = textS f.s := by rw [fieldS, if_neg h0, if_neg h1, if_neg h2, if_pos h]
theorem fieldS_4 (f : Fld) (h0 : ¬ f.kd = 0) (h1 : ¬ f.kd = 1) (h2 : ¬ f.kd = 2) (h3 : ¬ f.kd = 3) : fieldS f = bytesOf f.s := by rw [fieldS, if_neg h0, if_neg h1, if_neg h2, if_neg h3]

theorem size_str' (yt ys : List Int) {rest : List Int} (hr : ∀ x ∈ ys, 0 ≤ x ∧ x < 256) (h : textS (strOfNums yt) ++ rest = ys) : (strOfNums yt).size ≤ ys.length := by
  rw [← h, textS, List.length_append, List.length_append, length_bytesOf]
  omega

set_option maxRecDepth 100000 in
set_option maxHeartbeats 8000000 in
theorem oneform_walk (bs : List Int) (l : List Fld) (sv lv : Value) (w : World) (ht : Tab w) (hbs : SlAt w sv bs) (hbr : ∀ x ∈ bs, 0 ≤ x ∧ x < 256) (_ : bs.length ≤ maxLen) (hlv : FAt w lv l) (hl : ∀ f ∈ l, f.ok) :
    Calls Tryd.prog 7 #[sv, lv] w (LawPost w) := by
  have h2 := ht.two
  obtain ⟨ab, cb, rfl⟩ := hbs.len
  obtain ⟨al, capl, rfl⟩ := hlv.len
  have HL := hide (long_any l _ w hlv hl)
  have HAW0 := hide (awake_any w ht)
  have HBS := hide hbs
  have HF := hide hlv
  have HBR := hide hbr
  have HOK := hide hl
  obtain ⟨n, hn⟩ : ∃ n, n = l.length := ⟨_, rfl⟩
  obtain ⟨nb, hnb⟩ : ∃ nb, nb = bs.length := ⟨_, rfl⟩
  have HN := tuck hn
  have HNB := tuck hnb
  rw [← hn] at HF HL ⊢
  rw [← hnb] at HBS ⊢
  clear hbs hlv hbr hl hn
  by_cases hlong : 1000 < cnt l
  · rw [decide_eq_true hlong] at HL
    clear hlong hnb
    go_enter Tryd.func7, Tryd.ntmps7
    go_wp2_with fail
    refine HL.out.mono ?_
    rintro e w ⟨rfl, rfl⟩
    go_wp2_with fail
    refine HAW0.out.mono ?_
    rintro e w1 ⟨rfl, hB⟩
    go_wp2_with fail
    go_ret
    exact ⟨rfl, hB⟩
  rw [decide_eq_false hlong] at HL
  have hn1000 : n ≤ 1000 := by have := cnt_len l; have := HN.out; omega
  have HSZ : Hid (∀ f ∈ l, f.s.size ≤ 100000000) := hide (fun f hf => by have := size_in l f hf; omega)
  clear hlong
  by_cases hbig : 20000 < nb
  · have hbi : (nb : Int) > 20000 := by omega
    clear hnb
    go_enter Tryd.func7, Tryd.ntmps7
    go_wp2_with fail
    refine HL.out.mono ?_
    rintro e w ⟨rfl, rfl⟩
    go_wp2_with fail
    refine HAW0.out.mono ?_
    rintro e w1 ⟨rfl, hB⟩
    go_wp2_with fail
    go_ret
    exact ⟨rfl, hB⟩
  have hbi : ¬ (nb : Int) > 20000 := by omega
  have HNR := hide (newReader_any _ bs w HBS.out (by omega))
  clear hnb
  go_enter Tryd.func7, Tryd.ntmps7
  go_wp2_with fail
  refine HL.out.mono ?_
  rintro e w ⟨rfl, rfl⟩
  go_wp2_with fail
  refine HNR.out.mono ?_
  rintro e w1 ⟨gr, rfl, hB1, hR1⟩
  have HR1 := hide hR1
  have HB1 := hide hB1
  clear hR1 hB1 HNR HL HAW0
  go_wp2_with fail
  refine (newWriter_iv w1).mono ?_
  rintro e w2 ⟨gw, rfl, hB2, hW2⟩
  obtain ⟨lo, hlo⟩ : ∃ lo, lo = w1.heap.size := ⟨_, rfl⟩
  obtain ⟨Fr, hFr⟩ : ∃ Fr : Nat → Prop, Fr = fun k => w.heap.size ≤ k ∧ k < w1.heap.size := ⟨_, rfl⟩
  have HFR : Hid (∀ k, Fr k → w.heap.size ≤ k ∧ k < lo) := hide (by rw [hFr, hlo]; exact fun k h => h)
  obtain ⟨B0, hB0⟩ : ∃ B0, B0 = w.heap.size := ⟨_, rfl⟩
  have HR2 := hide (show Rd w2 B0 Fr gr bs false by rw [hFr, hB0]; exact HR1.out.keep (Keep.of_below hB2 : Keep (fun _ => False) w1 w2) (fun _ _ => id))
  have HW2 := hide (show Wr w2 lo (iv lo w2.heap.size) gw [] by rw [hlo]; exact hW2)
  have HB2 := hide (HB1.out.trans (hB2.mono HB1.out.size))
  have hlo2 : w.heap.size ≤ lo := by rw [hlo]; exact HB1.out.size
  clear hlo hFr hB0 hB2 hW2 HR1 HB1
  go_wp2_with fail
  go_loopw [7] (fun i wr => ∃ k : Nat, k ≤ n ∧ i = .int .i64 k ∧ ∃ xs ys, Tuck (xs ++ ys = bs) ∧ Hid (Rd wr B0 Fr gr ys false) ∧ Hid (Wr wr lo (iv lo wr.heap.size) gw xs) ∧ Hid (Below w.heap.size w wr))
    (fun i _ => n - (intOf i).toNat)
  case atStart => exact ⟨0, by omega, rfl, [], bs, tuck rfl, HR2, HW2, HB2⟩
  case round =>
    clear HR2 HW2 HB2
    obtain ⟨k, hk, rfl, xs, ys, HEQ, HR, HW, HBr⟩ := hrel
    by_cases hlt : k < n
    · obtain ⟨fb, fo, rfl, hfb, e0, e1, e2, e3, e4⟩ := (HF.out.below HBr.out).at hlt
      have hkl : k < l.length := by rw [← HN.out]; exact hlt
      have hmem : l.getD k default ∈ l := by simp [List.getD, hkl]
      have HOKf := hide (HOK.out _ hmem)
      have HSZf := hide (HSZ.out _ hmem)
      clear hmem hkl
      generalize l.getD k default = f at e0 e1 e2 e3 e4 HOKf HSZf
      have HKD := hide (fun W => kind_any f W)
      unfold Fld.val at HKD
      have HYR : Hid (∀ x ∈ ys, 0 ≤ x ∧ x < 256) := hide (fun x hx => HBR.out x (by rw [← HEQ.out]; exact List.mem_append_right _ hx))
      have HYL : Tuck (ys.length ≤ 20000) := tuck (by have := congrArg List.length HEQ.out; simp at this; have := HNB.out; omega)
      have HXL : Tuck (xs.length ≤ 20000) := tuck (by have := congrArg List.length HEQ.out; simp at this; have := HNB.out; omega)
      go_wp2_with fail
      refine (HKD.out _).mono ?_
      rintro e u1 ⟨rfl, hBk⟩
      have hB1 : Below wr.heap.size wr u1 := ((Below.refl wr.heap.size wr).alloc (Nat.le_refl _) (.cells f.cells.toArray 32)).trans (hBk.mono (by simp))
      have HROW : Hid (u1.heap[wr.heap.size]? = some (.cells f.cells.toArray 32 (0, 0))) := hide ((hBk.block _ (by simp)).trans (heap_alloc_new _ _))
      have c1 : u1.cell? ⟨wr.heap.size, 1, none⟩ = some (.int .i64 f.most) := (cell_of_row u1 _ 1 _ _ _ HROW.out).trans rfl
      have HRu := hide (HR.out.keep (Keep.of_below hB1 : Keep (fun _ => False) wr u1) (fun _ _ => id))
      have HWu := hide (HW.out.keep (Keep.of_below hB1 : Keep (fun _ => False) wr u1) (fun _ _ => id))
      have HBu := hide (HBr.out.trans (hB1.mono HBr.out.size))
      have HTu := hide (ht.below HBu.out h2)
      have HSu : Hid (wr.heap.size < u1.heap.size) := hide (Array.getElem?_eq_some_iff.1 HROW.out).1
      clear hBk hB1 HKD e0 e1 e2 e3 e4
      obtain ⟨kd, hkd⟩ : ∃ kd, f.kd = kd := ⟨_, rfl⟩
      rw [hkd]
      have hkdU : True := trivial
      by_cases hc0 : kd = 0
      · have h0 : f.kd = 0 := by rw [hkd]; exact hc0
        have HD0 := hide h0
        clear h0
        have HA := hide (r8_go u1 B0 Fr gr ys HRu.out)
        skip
        go_wp2_with fail
        refine HA.out.mono ?_
        intro e u2 hp
        clear HA
        cases hr : cut8 ys with
        | none =>
          obtain ⟨hK, _, rfl, hN⟩ := hp.none hr
          clear hp hr
          have HS2 := hide hK.size
          have hrow2 : u2.heap[wr.heap.size]? = some (.cells f.cells.toArray 32 (0, 0)) := (hK.block _ HSu.out (fun h => by have := HFR.out _ h; have := HW.out.hB; omega)).trans HROW.out
          have hcc : u2.cell? ⟨wr.heap.size, 3, none⟩ = some (.int .u64 (f.n : Nat)) := (cell_of_row u2 _ 3 _ _ _ hrow2).trans rfl
          have hff := frozen_of_row u2 wr.heap.size 3 _ _ hrow2
          have HW2 := hide (HWu.out.keep hK (fun k h1 h2 => by simp only [iv] at h1; have := HFR.out k h2; omega))
          have HB2 := hide (hK.through HBu.out (fun k h => (HFR.out k h).1) HBu.out.size)
          have hKs : Keep (fun k => k = wr.heap.size) u2 (u2.setCell ⟨wr.heap.size, 3, none⟩ (.int .u64 0)) := Keep.set _ _ _ rfl
          have HR3 := hide (hN.keep hKs (fun k h1 h2 => by have := HFR.out k h1; have := HW.out.hB; omega))
          have HW3 := hide (HW2.out.keep hKs (fun k h1 h2 => by simp only [iv] at h1; omega))
          have HB3 := hide (hKs.through HB2.out (fun k h => by rw [h]; exact HBr.out.size) HB2.out.size)
          clear hK hN hKs hrow2 HW2 HB2
          go_wp2_with fail
          refine (err_any _ _ _ _ _ _ HR3.out).mono ?_
          rintro e u3 ⟨rfl, rfl⟩
          rw [show errOf true = 2 from rfl]
          clear hcc hff
          have hly5 : ys.length ≤ 20000 := by have := congrArg List.length HEQ.out; simp at this; have := HNB.out; omega
          have hlx5 : xs.length ≤ 20000 := by have := congrArg List.length HEQ.out; simp at this; have := HNB.out; omega
          have HTK : Tuck (bs.take xs.length = xs) := tuck (by rw [← HEQ.out, List.take_left' rfl])
          have hsum : xs.length + ys.length = nb := by have := congrArg List.length HEQ.out; simp at this; have := HNB.out; omega
          go_wp2_with fail
          refine (bytes_any _ _ _ _ _ HW3.out (by omega)).mono ?_
          rintro e z1 ⟨vc, rfl, hrowc, hBz⟩
          have HRz := hide (HR3.out.keep (Keep.of_below hBz : Keep (fun _ => False) _ z1) (fun _ _ => id))
          have HBz := hide (HB3.out.trans (hBz.mono HB3.out.size))
          obtain ⟨aoc, capc, hvc⟩ := hrowc.slAt.len
          obtain ⟨lx, hlx⟩ : ∃ lx, xs.length = lx := ⟨_, rfl⟩
          obtain ⟨ly, hly⟩ : ∃ ly, ys.length = ly := ⟨_, rfl⟩
          rw [hlx] at hvc HTK hsum hlx5
          rw [hly] at hsum hly5
          subst hvc
          have HSc := hide (show SlAt z1.drew _ _ from hrowc.slAt)
          have HSb := hide (HBS.out.below (show Below w.heap.size w z1.drew from HBz.out.drew))
          have HLEFT := hide (left_any z1.drew _ _ _ _ _ HRz.out.drew)
          rw [hly] at HLEFT
          have HAW := hide (awake_any z1.drew (ht.below HBz.out.drew h2))
          have hsi : (lx : Int) + (ly : Int) = (nb : Int) := by omega
          have hwi : IntKind.i64.wrap ((nb : Int)) = nb := IntWalk.i64_in _ (by omega)
          have hcut := run_cut_hk (P := Tryd.prog) .i64 Tryd.underlying28 size5 ab nb cb lx (by have := HSb.out.le.1; omega)
          have hlxn : lx ≤ nb := by omega
          clear hrowc hBz hlx hly hsum hly5 hlx5
          go_wp2_with fail
          refine wp_region_held_drew (S := fun w' => SlAt w' (.slice ab nb cb) bs ∧ SlAt w' (.slice aoc lx capc) xs) (by kernel_rfl) ⟨HSb.out, HSc.out⟩ (fun hHeld => ?_)
          refine wpAnyH_take (i := 0) (oi := { dst := some 71, op := Op.move (Operand.tmp 9), type := 28, pos := "outright.go:92", after := #[], guard := none }) (v := ?_) rfl (by kernel_rfl) (by kernel_rfl) (by kernel_rfl) (fun _ _ _ h => h) (Or.inl ⟨by rfl, ?_⟩) hHeld ?_
          rotate_left
          · intro w hSw; (try dsimp only at hSw); go_simp; first | done | with_reducible rfl
          try simp only [Act.put, List.setIfInBounds_toArray, List.set_cons_zero, List.set_cons_succ]
          refine wpAnyH_take (i := 1) (oi := { dst := some 72, op := Op.call { callee := Callee.builtin Builtin.len, args := #[Operand.tmp 71], argTypes := #[28] }, type := 3, pos := "outright.go:92", after := #[{ on := 0, ground := Ground.data }], guard := none }) (v := ?_) rfl (by kernel_rfl) (by kernel_rfl) (by kernel_rfl) (fun _ _ _ h => h) (Or.inl ⟨by rfl, ?_⟩) hHeld ?_
          rotate_left
          · intro w hSw; (try dsimp only at hSw); go_simp; first | done | with_reducible rfl
          try simp only [Act.put, List.setIfInBounds_toArray, List.set_cons_zero, List.set_cons_succ]
          refine wpAnyH_take (i := 2) (oi := { dst := some 73, op := Op.move (Operand.tmp 5), type := 38, pos := "outright.go:92", after := #[], guard := none }) (v := ?_) rfl (by kernel_rfl) (by kernel_rfl) (by kernel_rfl) (fun _ _ _ h => h) (Or.inl ⟨by rfl, ?_⟩) hHeld ?_
          rotate_left
          · intro w hSw; (try dsimp only at hSw); go_simp; first | done | with_reducible rfl
          try simp only [Act.put, List.setIfInBounds_toArray, List.set_cons_zero, List.set_cons_succ]
          refine wpAnyH_take (i := 5) (oi := { dst := some 76, op := Op.move (Operand.tmp 0), type := 28, pos := "outright.go:92", after := #[], guard := none }) (v := ?_) rfl (by kernel_rfl) (by kernel_rfl) (by kernel_rfl) (fun _ _ _ h => h) (Or.inl ⟨by rfl, ?_⟩) hHeld ?_
          rotate_left
          · intro w hSw; (try dsimp only at hSw); go_simp; first | done | with_reducible rfl
          try simp only [Act.put, List.setIfInBounds_toArray, List.set_cons_zero, List.set_cons_succ]
          refine wpAnyH_take (i := 6) (oi := { dst := some 77, op := Op.call { callee := Callee.builtin Builtin.len, args := #[Operand.tmp 76], argTypes := #[28] }, type := 3, pos := "outright.go:92", after := #[{ on := 5, ground := Ground.data }], guard := none }) (v := ?_) rfl (by kernel_rfl) (by kernel_rfl) (by kernel_rfl) (fun _ _ _ h => h) (Or.inl ⟨by rfl, ?_⟩) hHeld ?_
          rotate_left
          · intro w hSw; (try dsimp only at hSw); go_simp; first | done | with_reducible rfl
          try simp only [Act.put, List.setIfInBounds_toArray, List.set_cons_zero, List.set_cons_succ]
          refine wpAnyH_ready (rs := [3]) (by kernel_rfl) (by simp) ?_
          refine AllReadyH.cons (o := { dst := some 74, op := Op.call { callee := Callee.value (Operand.func 31), args := #[Operand.tmp 73], argTypes := #[38] }, type := 3, pos := "outright.go:92", after := #[{ on := 2, ground := Ground.data }], guard := none }) rfl (fun K hK => ?_) AllReadyH.nil
          clear hHeld
          go_simp
          refine HLEFT.out.mono ?_
          rintro e z2 ⟨rfl, rfl⟩
          dsimp only
          refine hK.out _ _ (⟨HSb.out, HSc.out⟩) (fun hHeld => ?_)
          clear hK K
          try simp only [Act.put, List.setIfInBounds_toArray, List.set_cons_zero, List.set_cons_succ]
          refine wpAnyH_take (i := 4) (oi := { dst := some 75, op := Op.binOp BinOp.add 3 (Operand.tmp 72) (Operand.tmp 74) 3, type := 3, pos := "outright.go:92", after := #[{ on := 1, ground := Ground.data }, { on := 3, ground := Ground.data }], guard := none }) (v := ?_) rfl (by kernel_rfl) (by kernel_rfl) (by kernel_rfl) (fun _ _ _ h => h) (Or.inl ⟨by rfl, ?_⟩) hHeld ?_
          rotate_left
          · intro w hSw; (try dsimp only at hSw); go_simp; first | done | with_reducible rfl
          try simp only [Act.put, List.setIfInBounds_toArray, List.set_cons_zero, List.set_cons_succ]
          refine wpAnyH_take (i := 7) (oi := { dst := some 78, op := Op.binOp BinOp.eql 3 (Operand.tmp 75) (Operand.tmp 77) 3, type := 4, pos := "outright.go:92", after := #[{ on := 4, ground := Ground.data }, { on := 6, ground := Ground.data }], guard := none }) (v := ?_) rfl (by kernel_rfl) (by kernel_rfl) (by kernel_rfl) (fun _ _ _ h => h) (Or.inl ⟨by rfl, ?_⟩) hHeld ?_
          rotate_left
          · intro w hSw; (try dsimp only at hSw); go_simp; first | done | with_reducible rfl
          try simp only [Act.put, List.setIfInBounds_toArray, List.set_cons_zero, List.set_cons_succ]
          refine wpAnyH_take (i := 8) (oi := { dst := some 79, op := Op.move (Operand.tmp 78), type := 4, pos := "outright.go:92", after := #[{ on := 7, ground := Ground.data }, { on := 3, ground := Ground.chain }], guard := none }) (v := ?_) rfl (by kernel_rfl) (by kernel_rfl) (by kernel_rfl) (fun _ _ _ h => h) (Or.inl ⟨by rfl, ?_⟩) hHeld ?_
          rotate_left
          · intro w hSw; (try dsimp only at hSw); go_simp; first | done | with_reducible rfl
          try simp only [Act.put, List.setIfInBounds_toArray, List.set_cons_zero, List.set_cons_succ]
          refine wpAnyH_take (i := 9) (oi := { dst := some 80, op := Op.move (Operand.tmp 0), type := 28, pos := "outright.go:92", after := #[{ on := 8, ground := Ground.guard }], guard := some (8, true) }) (v := ?_) rfl (by kernel_rfl) (by kernel_rfl) (by kernel_rfl) (fun _ _ _ h => h) (Or.inl ⟨by rfl, ?_⟩) hHeld ?_
          rotate_left
          · intro w hSw; (try dsimp only at hSw); go_simp; first | done | with_reducible rfl
          try simp only [Act.put, List.setIfInBounds_toArray, List.set_cons_zero, List.set_cons_succ]
          refine wpAnyH_take (i := 10) (oi := { dst := some 81, op := Op.move (Operand.tmp 9), type := 28, pos := "outright.go:92", after := #[{ on := 8, ground := Ground.guard }], guard := some (8, true) }) (v := ?_) rfl (by kernel_rfl) (by kernel_rfl) (by kernel_rfl) (fun _ _ _ h => h) (Or.inl ⟨by rfl, ?_⟩) hHeld ?_
          rotate_left
          · intro w hSw; (try dsimp only at hSw); go_simp; first | done | with_reducible rfl
          try simp only [Act.put, List.setIfInBounds_toArray, List.set_cons_zero, List.set_cons_succ]
          refine wpAnyH_take (i := 11) (oi := { dst := some 82, op := Op.call { callee := Callee.builtin Builtin.len, args := #[Operand.tmp 81], argTypes := #[28] }, type := 3, pos := "outright.go:92", after := #[{ on := 10, ground := Ground.data }, { on := 8, ground := Ground.guard }], guard := some (8, true) }) (v := ?_) rfl (by kernel_rfl) (by kernel_rfl) (by kernel_rfl) (fun _ _ _ h => h) (Or.inl ⟨by rfl, ?_⟩) hHeld ?_
          rotate_left
          · intro w hSw; (try dsimp only at hSw); go_simp; first | done | with_reducible rfl
          try simp only [Act.put, List.setIfInBounds_toArray, List.set_cons_zero, List.set_cons_succ]
          refine wpAnyH_take (i := 12) (oi := { dst := some 83, op := Op.slice 28 (Operand.tmp 80) none (some (Operand.tmp 82)) none, type := 28, pos := "outright.go:92", after := #[{ on := 9, ground := Ground.data }, { on := 11, ground := Ground.data }, { on := 8, ground := Ground.guard }], guard := some (8, true) }) (v := ?_) rfl (by kernel_rfl) (by kernel_rfl) (by kernel_rfl) (fun _ _ _ h => h) (Or.inl ⟨by rfl, ?_⟩) hHeld ?_
          rotate_left
          · intro w hSw; (try dsimp only at hSw); go_simp; first | done | with_reducible rfl
          try simp only [Act.put, List.setIfInBounds_toArray, List.set_cons_zero, List.set_cons_succ]
          refine wpAnyH_take (i := 13) (oi := { dst := some 84, op := Op.convert 28 9 (Operand.tmp 83), type := 9, pos := "outright.go:92", after := #[{ on := 12, ground := Ground.data }, { on := 8, ground := Ground.guard }], guard := some (8, true) }) (v := ?_) rfl (by kernel_rfl) (by kernel_rfl) (by kernel_rfl) (fun _ _ _ h => h) (Or.inl ⟨by rfl, ?_⟩) hHeld ?_
          rotate_left
          · intro w hSw; (try dsimp only at hSw); (have hcb := (hSw.1.front' (m := lx) hlxn).string (P := Tryd.prog) 28 5 9 Tryd.underlying28 Tryd.underlying5 Tryd.underlying9); (rw [HTK.out] at hcb); go_simp; first | done | with_reducible rfl
          try simp only [Act.put, List.setIfInBounds_toArray, List.set_cons_zero, List.set_cons_succ]
          refine wpAnyH_take (i := 14) (oi := { dst := some 85, op := Op.move (Operand.tmp 9), type := 28, pos := "outright.go:92", after := #[{ on := 8, ground := Ground.guard }], guard := some (8, true) }) (v := ?_) rfl (by kernel_rfl) (by kernel_rfl) (by kernel_rfl) (fun _ _ _ h => h) (Or.inl ⟨by rfl, ?_⟩) hHeld ?_
          rotate_left
          · intro w hSw; (try dsimp only at hSw); go_simp; first | done | with_reducible rfl
          try simp only [Act.put, List.setIfInBounds_toArray, List.set_cons_zero, List.set_cons_succ]
          refine wpAnyH_take (i := 15) (oi := { dst := some 86, op := Op.convert 28 9 (Operand.tmp 85), type := 9, pos := "outright.go:92", after := #[{ on := 14, ground := Ground.data }, { on := 8, ground := Ground.guard }], guard := some (8, true) }) (v := ?_) rfl (by kernel_rfl) (by kernel_rfl) (by kernel_rfl) (fun _ _ _ h => h) (Or.inl ⟨by rfl, ?_⟩) hHeld ?_
          rotate_left
          · intro w hSw; (try dsimp only at hSw); (have hca := hSw.2.string (P := Tryd.prog) 28 5 9 Tryd.underlying28 Tryd.underlying5 Tryd.underlying9); go_simp; first | done | with_reducible rfl
          try simp only [Act.put, List.setIfInBounds_toArray, List.set_cons_zero, List.set_cons_succ]
          refine wpAnyH_take (i := 16) (oi := { dst := some 87, op := Op.binOp BinOp.eql 9 (Operand.tmp 84) (Operand.tmp 86) 9, type := 4, pos := "outright.go:92", after := #[{ on := 13, ground := Ground.data }, { on := 15, ground := Ground.data }, { on := 8, ground := Ground.guard }], guard := some (8, true) }) (v := ?_) rfl (by kernel_rfl) (by kernel_rfl) (by kernel_rfl) (fun _ _ _ h => h) (Or.inl ⟨by rfl, ?_⟩) hHeld ?_
          rotate_left
          · intro w hSw; (try dsimp only at hSw); go_simp; first | done | with_reducible rfl
          try simp only [Act.put, List.setIfInBounds_toArray, List.set_cons_zero, List.set_cons_succ]
          refine wpAnyH_take (i := 17) (oi := { dst := some 88, op := Op.pick (Operand.tmp 79) (Operand.tmp 87) (Operand.const (Value.bool false)), type := 4, pos := "outright.go:92", after := #[{ on := 8, ground := Ground.data }, { on := 16, ground := Ground.data }], guard := none }) (v := ?_) rfl (by kernel_rfl) (by kernel_rfl) (by kernel_rfl) (fun _ _ _ h => h) (Or.inl ⟨by rfl, ?_⟩) hHeld ?_
          rotate_left
          · intro w hSw; (try dsimp only at hSw); go_simp; first | done | with_reducible rfl
          try simp only [Act.put, List.setIfInBounds_toArray, List.set_cons_zero, List.set_cons_succ]
          refine wpAnyH_take (i := 18) (oi := { dst := some 89, op := Op.move (Operand.tmp 88), type := 4, pos := "outright.go:92", after := #[{ on := 17, ground := Ground.data }, { on := 8, ground := Ground.chain }], guard := none }) (v := ?_) rfl (by kernel_rfl) (by kernel_rfl) (by kernel_rfl) (fun _ _ _ h => h) (Or.inl ⟨by rfl, ?_⟩) hHeld ?_
          rotate_left
          · intro w hSw; (try dsimp only at hSw); go_simp; first | done | with_reducible rfl
          try simp only [Act.put, List.setIfInBounds_toArray, List.set_cons_zero, List.set_cons_succ]
          refine wpAnyH_ready (rs := [19]) (by kernel_rfl) (by simp) ?_
          refine AllReadyH.cons (o := { dst := some 90, op := Op.call { callee := Callee.value (Operand.func 12), args := #[], argTypes := #[] }, type := 4, pos := "outright.go:92", after := #[{ on := 18, ground := Ground.chain }, { on := 18, ground := Ground.guard }], guard := some (18, true) }) rfl (fun K hK => ?_) AllReadyH.nil
          clear hHeld
          go_simp
          refine HAW.out.mono ?_
          rintro e z3 ⟨rfl, hB3⟩
          have HB3 := hide hB3
          dsimp only
          refine hK.out _ _ (⟨HSb.out.below hB3, HSc.out.below hB3⟩) (fun hHeld => ?_)
          clear hK K
          try simp only [Act.put, List.setIfInBounds_toArray, List.set_cons_zero, List.set_cons_succ]
          refine wpAnyH_take (i := 20) (oi := { dst := some 91, op := Op.pick (Operand.tmp 89) (Operand.tmp 90) (Operand.const (Value.bool false)), type := 4, pos := "outright.go:92", after := #[{ on := 18, ground := Ground.data }, { on := 19, ground := Ground.data }], guard := none }) (v := ?_) rfl (by kernel_rfl) (by kernel_rfl) (by kernel_rfl) (fun _ _ _ h => h) (Or.inl ⟨by rfl, ?_⟩) hHeld ?_
          rotate_left
          · intro w hSw; (try dsimp only at hSw); go_simp; first | done | with_reducible rfl
          try simp only [Act.put, List.setIfInBounds_toArray, List.set_cons_zero, List.set_cons_succ]
          refine wpAnyH_take (i := 21) (oi := { dst := some 4, op := Op.assign (Operand.tmp 91), type := 4, pos := "outright.go:92", after := #[{ on := 20, ground := Ground.data }, { on := 19, ground := Ground.chain }, { on := 0, ground := Ground.phase }, { on := 1, ground := Ground.phase }, { on := 2, ground := Ground.phase }, { on := 3, ground := Ground.phase }, { on := 4, ground := Ground.phase }, { on := 5, ground := Ground.phase }, { on := 6, ground := Ground.phase }, { on := 7, ground := Ground.phase }, { on := 8, ground := Ground.phase }, { on := 9, ground := Ground.phase }, { on := 10, ground := Ground.phase }, { on := 11, ground := Ground.phase }, { on := 12, ground := Ground.phase }, { on := 13, ground := Ground.phase }, { on := 14, ground := Ground.phase }, { on := 15, ground := Ground.phase }, { on := 16, ground := Ground.phase }, { on := 17, ground := Ground.phase }, { on := 18, ground := Ground.phase }, { on := 19, ground := Ground.phase }, { on := 20, ground := Ground.phase }], guard := none }) (v := ?_) rfl (by kernel_rfl) (by kernel_rfl) (by kernel_rfl) (fun _ _ _ h => h) (Or.inl ⟨by rfl, ?_⟩) hHeld ?_
          rotate_left
          · intro w hSw; (try dsimp only at hSw); go_simp; first | done | with_reducible rfl
          try simp only [Act.put, List.setIfInBounds_toArray, List.set_cons_zero, List.set_cons_succ]
          refine wpAnyH_done (by kernel_rfl) ?_ _
          go_wp2_with fail
          go_ret
          exact ⟨rfl, HBz.out.drew.trans (HB3.out.mono HBz.out.size)⟩
        | some rest =>
          obtain ⟨hK, _, v, rfl, hf, hN⟩ := hp.some hr
          clear hp
          obtain ⟨y0, yt, rfl⟩ : ∃ y0 yt, ys = y0 :: yt := by cases ys with | nil => simp [cut8] at hr | cons a t => exact ⟨a, t, rfl⟩
          obtain rfl : yt = rest := by simpa [cut8] using hr
          have hy0 := HYR.out y0 (List.mem_cons_self ..)
          obtain ⟨vn, rfl⟩ : ∃ vn : Nat, y0 = vn := ⟨y0.toNat, by omega⟩
          have hv1 : vn < 256 := by omega
          obtain rfl : v = .int .u8 (vn : Nat) := hf
          have hwv : IntKind.u64.wrap (vn : Int) = vn := IntWalk.u64_in _ (by omega)
          have HFM : Tuck (fieldS (⟨f.kind, f.most, f.more, vn, f.s⟩ : Fld) ++ yt = ((vn : Int) :: yt)) := tuck (by rw [fieldS_0 (⟨f.kind, f.most, f.more, vn, f.s⟩ : Fld) HD0.out]; show [((vn % 256 : Nat) : Int)] ++ yt = (vn : Int) :: yt; rw [Nat.mod_eq_of_lt hv1]; rfl)
          have HS2 := hide hK.size
          have hrow2 : u2.heap[wr.heap.size]? = some (.cells f.cells.toArray 32 (0, 0)) := (hK.block _ HSu.out (fun h => by have := HFR.out _ h; have := HW.out.hB; omega)).trans HROW.out
          have hcc : u2.cell? ⟨wr.heap.size, 3, none⟩ = some (.int .u64 (f.n : Nat)) := (cell_of_row u2 _ 3 _ _ _ hrow2).trans rfl
          have hff := frozen_of_row u2 wr.heap.size 3 _ _ hrow2
          have HW2 := hide (HWu.out.keep hK (fun k h1 h2 => by simp only [iv] at h1; have := HFR.out k h2; omega))
          have HB2 := hide (hK.through HBu.out (fun k h => (HFR.out k h).1) HBu.out.size)
          have hKs : Keep (fun k => k = wr.heap.size) u2 (u2.setCell ⟨wr.heap.size, 3, none⟩ (.int .u64 (vn : Nat))) := Keep.set _ _ _ rfl
          have HR3 := hide (hN.keep hKs (fun k h1 h2 => by have := HFR.out k h1; have := HW.out.hB; omega))
          have HW3 := hide (HW2.out.keep hKs (fun k h1 h2 => by simp only [iv] at h1; omega))
          have HB3 := hide (hKs.through HB2.out (fun k h => by rw [h]; exact HBr.out.size) HB2.out.size)
          have hrow3 : (u2.setCell ⟨wr.heap.size, 3, none⟩ (.int .u64 (vn : Nat))).heap[wr.heap.size]? = some (.cells (⟨f.kind, f.most, f.more, vn, f.s⟩ : Fld).cells.toArray 32 (0, 0)) := by rw [heap_setCell_same u2 wr.heap.size 3 _ _ _ hrow2]; rfl
          have HT3 := hide (ht.below HB3.out h2)
          have HWA := hide (write_any (⟨f.kind, f.most, f.more, vn, f.s⟩ : Fld) ⟨by show vn < _; omega, HOKf.out.2⟩ _ lo (iv lo wr.heap.size) gw xs HT3.out (by omega) HW3.out (by show xs.length + 10 + f.s.size ≤ _; have := HXL.out; have := HSZf.out; omega))
          unfold Fld.val at HWA
          dsimp only at HWA
          have q0 : (u2.setCell ⟨wr.heap.size, 3, none⟩ (.int .u64 (vn : Nat))).cell? ⟨wr.heap.size, 0, none⟩ = some (.int .i64 f.kind) := (cell_of_row _ _ 0 _ _ _ hrow3).trans rfl
          have q1 : (u2.setCell ⟨wr.heap.size, 3, none⟩ (.int .u64 (vn : Nat))).cell? ⟨wr.heap.size, 1, none⟩ = some (.int .i64 f.most) := (cell_of_row _ _ 1 _ _ _ hrow3).trans rfl
          have q2 : (u2.setCell ⟨wr.heap.size, 3, none⟩ (.int .u64 (vn : Nat))).cell? ⟨wr.heap.size, 2, none⟩ = some (.int .i64 f.more) := (cell_of_row _ _ 2 _ _ _ hrow3).trans rfl
          have q3 : (u2.setCell ⟨wr.heap.size, 3, none⟩ (.int .u64 (vn : Nat))).cell? ⟨wr.heap.size, 3, none⟩ = some (.int .u64 (vn : Nat)) := (cell_of_row _ _ 3 _ _ _ hrow3).trans rfl
          have q4 : (u2.setCell ⟨wr.heap.size, 3, none⟩ (.int .u64 (vn : Nat))).cell? ⟨wr.heap.size, 4, none⟩ = some (.string f.s) := (cell_of_row _ _ 4 _ _ _ hrow3).trans rfl
          have HU3 : Hid (∀ U, U = u2.setCell ⟨wr.heap.size, 3, none⟩ (.int .u64 (vn : Nat)) → True) := hide (fun _ _ => trivial)
          clear hK hN hKs hrow2 hrow3 HW2 HB2 hr HU3
          go_wp2_with fail
          refine (err_any _ _ _ _ _ _ HR3.out).mono ?_
          rintro e u3 ⟨rfl, rfl⟩
          rw [show errOf false = 0 from rfl]
          clear hcc hff
          go_wp2_with fail
          refine HWA.out.mono ?_
          intro e u4 hp
          obtain ⟨rfl, hK4, hN4⟩ := hp
          have hs34 : wr.heap.size ≤ u4.heap.size := Nat.le_trans (Nat.le_of_lt HSu.out) (Nat.le_trans HS2.out (by have := hK4.size; simpa using this))
          have HW4 := hide (hN4.mono (G := iv lo u4.heap.size) (fun k h => by rcases h with h | h; exact ⟨h.1, Nat.lt_of_lt_of_le h.2 hs34⟩; exact ⟨Nat.le_trans (Nat.le_trans HW.out.hB (Nat.le_of_lt (Nat.lt_of_lt_of_le HSu.out HS2.out))) (by simpa using h.1), h.2⟩) (fun k h => h))
          have HR4 := hide (HR3.out.keep hK4 (fun k h1 h2 => by simp only [iv] at h2; have := HFR.out k h1; omega))
          have HB4 := hide (hK4.through HB3.out (fun k h => by simp only [iv] at h; omega) HB3.out.size)
          have HEQ4 : Tuck ((xs ++ fieldS (⟨f.kind, f.most, f.more, vn, f.s⟩ : Fld)) ++ yt = bs) := tuck (by rw [List.append_assoc, HFM.out, HEQ.out])
          clear hK4 hN4 HR3 HW3 HB3 HWA q0 q1 q2 q3 q4 hs34
          go_wp2_with fail
          go_roundw
          case rel => exact ⟨k + 1, by omega, by go_num, _, _, HEQ4, HR4, HW4, HB4⟩
          case measure => simp [intOf]; omega
      by_cases hc1 : kd = 1
      · have h0 : ¬ f.kd = 0 := by rw [hkd]; exact hc0
        have h1 : f.kd = 1 := by rw [hkd]; exact hc1
        have HD0 := hide h0
        clear h0
        have HD1 := hide h1
        clear h1
        have HA := hide (r32_go u1 B0 Fr gr ys HRu.out HTu.out HYR.out)
        skip
        go_wp2_with fail
        refine HA.out.mono ?_
        intro e u2 hp
        clear HA
        cases hr : cut32 ys with
        | none =>
          obtain ⟨hK, _, rfl, hN⟩ := hp.none hr
          clear hp hr
          have HS2 := hide hK.size
          have hrow2 : u2.heap[wr.heap.size]? = some (.cells f.cells.toArray 32 (0, 0)) := (hK.block _ HSu.out (fun h => by have := HFR.out _ h; have := HW.out.hB; omega)).trans HROW.out
          have hcc : u2.cell? ⟨wr.heap.size, 3, none⟩ = some (.int .u64 (f.n : Nat)) := (cell_of_row u2 _ 3 _ _ _ hrow2).trans rfl
          have hff := frozen_of_row u2 wr.heap.size 3 _ _ hrow2
          have HW2 := hide (HWu.out.keep hK (fun k h1 h2 => by simp only [iv] at h1; have := HFR.out k h2; omega))
          have HB2 := hide (hK.through HBu.out (fun k h => (HFR.out k h).1) HBu.out.size)
          have hKs : Keep (fun k => k = wr.heap.size) u2 (u2.setCell ⟨wr.heap.size, 3, none⟩ (.int .u64 0)) := Keep.set _ _ _ rfl
          have HR3 := hide (hN.keep hKs (fun k h1 h2 => by have := HFR.out k h1; have := HW.out.hB; omega))
          have HW3 := hide (HW2.out.keep hKs (fun k h1 h2 => by simp only [iv] at h1; omega))
          have HB3 := hide (hKs.through HB2.out (fun k h => by rw [h]; exact HBr.out.size) HB2.out.size)
          clear hK hN hKs hrow2 HW2 HB2
          go_wp2_with fail
          refine (err_any _ _ _ _ _ _ HR3.out).mono ?_
          rintro e u3 ⟨rfl, rfl⟩
          rw [show errOf true = 2 from rfl]
          clear hcc hff
          have hly5 : ys.length ≤ 20000 := by have := congrArg List.length HEQ.out; simp at this; have := HNB.out; omega
          have hlx5 : xs.length ≤ 20000 := by have := congrArg List.length HEQ.out; simp at this; have := HNB.out; omega
          have HTK : Tuck (bs.take xs.length = xs) := tuck (by rw [← HEQ.out, List.take_left' rfl])
          have hsum : xs.length + ys.length = nb := by have := congrArg List.length HEQ.out; simp at this; have := HNB.out; omega
          go_wp2_with fail
          refine (bytes_any _ _ _ _ _ HW3.out (by omega)).mono ?_
          rintro e z1 ⟨vc, rfl, hrowc, hBz⟩
          have HRz := hide (HR3.out.keep (Keep.of_below hBz : Keep (fun _ => False) _ z1) (fun _ _ => id))
          have HBz := hide (HB3.out.trans (hBz.mono HB3.out.size))
          obtain ⟨aoc, capc, hvc⟩ := hrowc.slAt.len
          obtain ⟨lx, hlx⟩ : ∃ lx, xs.length = lx := ⟨_, rfl⟩
          obtain ⟨ly, hly⟩ : ∃ ly, ys.length = ly := ⟨_, rfl⟩
          rw [hlx] at hvc HTK hsum hlx5
          rw [hly] at hsum hly5
          subst hvc
          have HSc := hide (show SlAt z1.drew _ _ from hrowc.slAt)
          have HSb := hide (HBS.out.below (show Below w.heap.size w z1.drew from HBz.out.drew))
          have HLEFT := hide (left_any z1.drew _ _ _ _ _ HRz.out.drew)
          rw [hly] at HLEFT
          have HAW := hide (awake_any z1.drew (ht.below HBz.out.drew h2))
          have hsi : (lx : Int) + (ly : Int) = (nb : Int) := by omega
          have hwi : IntKind.i64.wrap ((nb : Int)) = nb := IntWalk.i64_in _ (by omega)
          have hcut := run_cut_hk (P := Tryd.prog) .i64 Tryd.underlying28 size5 ab nb cb lx (by have := HSb.out.le.1; omega)
          have hlxn : lx ≤ nb := by omega
          clear hrowc hBz hlx hly hsum hly5 hlx5
          go_wp2_with fail
          refine wp_region_held_drew (S := fun w' => SlAt w' (.slice ab nb cb) bs ∧ SlAt w' (.slice aoc lx capc) xs) (by kernel_rfl) ⟨HSb.out, HSc.out⟩ (fun hHeld => ?_)
          refine wpAnyH_take (i := 0) (oi := { dst := some 71, op := Op.move (Operand.tmp 9), type := 28, pos := "outright.go:92", after := #[], guard := none }) (v := ?_) rfl (by kernel_rfl) (by kernel_rfl) (by kernel_rfl) (fun _ _ _ h => h) (Or.inl ⟨by rfl, ?_⟩) hHeld ?_
          rotate_left
          · intro w hSw; (try dsimp only at hSw); go_simp; first | done | with_reducible rfl
          try simp only [Act.put, List.setIfInBounds_toArray, List.set_cons_zero, List.set_cons_succ]
          refine wpAnyH_take (i := 1) (oi := { dst := some 72, op := Op.call { callee := Callee.builtin Builtin.len, args := #[Operand.tmp 71], argTypes := #[28] }, type := 3, pos := "outright.go:92", after := #[{ on := 0, ground := Ground.data }], guard := none }) (v := ?_) rfl (by kernel_rfl) (by kernel_rfl) (by kernel_rfl) (fun _ _ _ h => h) (Or.inl ⟨by rfl, ?_⟩) hHeld ?_
          rotate_left
          · intro w hSw; (try dsimp only at hSw); go_simp; first | done | with_reducible rfl
          try simp only [Act.put, List.setIfInBounds_toArray, List.set_cons_zero, List.set_cons_succ]
          refine wpAnyH_take (i := 2) (oi := { dst := some 73, op := Op.move (Operand.tmp 5), type := 38, pos := "outright.go:92", after := #[], guard := none }) (v := ?_) rfl (by kernel_rfl) (by kernel_rfl) (by kernel_rfl) (fun _ _ _ h => h) (Or.inl ⟨by rfl, ?_⟩) hHeld ?_
          rotate_left
          · intro w hSw; (try dsimp only at hSw); go_simp; first | done | with_reducible rfl
          try simp only [Act.put, List.setIfInBounds_toArray, List.set_cons_zero, List.set_cons_succ]
          refine wpAnyH_take (i := 5) (oi := { dst := some 76, op := Op.move (Operand.tmp 0), type := 28, pos := "outright.go:92", after := #[], guard := none }) (v := ?_) rfl (by kernel_rfl) (by kernel_rfl) (by kernel_rfl) (fun _ _ _ h => h) (Or.inl ⟨by rfl, ?_⟩) hHeld ?_
          rotate_left
          · intro w hSw; (try dsimp only at hSw); go_simp; first | done | with_reducible rfl
          try simp only [Act.put, List.setIfInBounds_toArray, List.set_cons_zero, List.set_cons_succ]
          refine wpAnyH_take (i := 6) (oi := { dst := some 77, op := Op.call { callee := Callee.builtin Builtin.len, args := #[Operand.tmp 76], argTypes := #[28] }, type := 3, pos := "outright.go:92", after := #[{ on := 5, ground := Ground.data }], guard := none }) (v := ?_) rfl (by kernel_rfl) (by kernel_rfl) (by kernel_rfl) (fun _ _ _ h => h) (Or.inl ⟨by rfl, ?_⟩) hHeld ?_
          rotate_left
          · intro w hSw; (try dsimp only at hSw); go_simp; first | done | with_reducible rfl
          try simp only [Act.put, List.setIfInBounds_toArray, List.set_cons_zero, List.set_cons_succ]
          refine wpAnyH_ready (rs := [3]) (by kernel_rfl) (by simp) ?_
          refine AllReadyH.cons (o := { dst := some 74, op := Op.call { callee := Callee.value (Operand.func 31), args := #[Operand.tmp 73], argTypes := #[38] }, type := 3, pos := "outright.go:92", after := #[{ on := 2, ground := Ground.data }], guard := none }) rfl (fun K hK => ?_) AllReadyH.nil
          clear hHeld
          go_simp
          refine HLEFT.out.mono ?_
          rintro e z2 ⟨rfl, rfl⟩
          dsimp only
          refine hK.out _ _ (⟨HSb.out, HSc.out⟩) (fun hHeld => ?_)
          clear hK K
          try simp only [Act.put, List.setIfInBounds_toArray, List.set_cons_zero, List.set_cons_succ]
          refine wpAnyH_take (i := 4) (oi := { dst := some 75, op := Op.binOp BinOp.add 3 (Operand.tmp 72) (Operand.tmp 74) 3, type := 3, pos := "outright.go:92", after := #[{ on := 1, ground := Ground.data }, { on := 3, ground := Ground.data }], guard := none }) (v := ?_) rfl (by kernel_rfl) (by kernel_rfl) (by kernel_rfl) (fun _ _ _ h => h) (Or.inl ⟨by rfl, ?_⟩) hHeld ?_
          rotate_left
          · intro w hSw; (try dsimp only at hSw); go_simp; first | done | with_reducible rfl
          try simp only [Act.put, List.setIfInBounds_toArray, List.set_cons_zero, List.set_cons_succ]
          refine wpAnyH_take (i := 7) (oi := { dst := some 78, op := Op.binOp BinOp.eql 3 (Operand.tmp 75) (Operand.tmp 77) 3, type := 4, pos := "outright.go:92", after := #[{ on := 4, ground := Ground.data }, { on := 6, ground := Ground.data }], guard := none }) (v := ?_) rfl (by kernel_rfl) (by kernel_rfl) (by kernel_rfl) (fun _ _ _ h => h) (Or.inl ⟨by rfl, ?_⟩) hHeld ?_
          rotate_left
          · intro w hSw; (try dsimp only at hSw); go_simp; first | done | with_reducible rfl
          try simp only [Act.put, List.setIfInBounds_toArray, List.set_cons_zero, List.set_cons_succ]
          refine wpAnyH_take (i := 8) (oi := { dst := some 79, op := Op.move (Operand.tmp 78), type := 4, pos := "outright.go:92", after := #[{ on := 7, ground := Ground.data }, { on := 3, ground := Ground.chain }], guard := none }) (v := ?_) rfl (by kernel_rfl) (by kernel_rfl) (by kernel_rfl) (fun _ _ _ h => h) (Or.inl ⟨by rfl, ?_⟩) hHeld ?_
          rotate_left
          · intro w hSw; (try dsimp only at hSw); go_simp; first | done | with_reducible rfl
          try simp only [Act.put, List.setIfInBounds_toArray, List.set_cons_zero, List.set_cons_succ]
          refine wpAnyH_take (i := 9) (oi := { dst := some 80, op := Op.move (Operand.tmp 0), type := 28, pos := "outright.go:92", after := #[{ on := 8, ground := Ground.guard }], guard := some (8, true) }) (v := ?_) rfl (by kernel_rfl) (by kernel_rfl) (by kernel_rfl) (fun _ _ _ h => h) (Or.inl ⟨by rfl, ?_⟩) hHeld ?_
          rotate_left
          · intro w hSw; (try dsimp only at hSw); go_simp; first | done | with_reducible rfl
          try simp only [Act.put, List.setIfInBounds_toArray, List.set_cons_zero, List.set_cons_succ]
          refine wpAnyH_take (i := 10) (oi := { dst := some 81, op := Op.move (Operand.tmp 9), type := 28, pos := "outright.go:92", after := #[{ on := 8, ground := Ground.guard }], guard := some (8, true) }) (v := ?_) rfl (by kernel_rfl) (by kernel_rfl) (by kernel_rfl) (fun _ _ _ h => h) (Or.inl ⟨by rfl, ?_⟩) hHeld ?_
          rotate_left
          · intro w hSw; (try dsimp only at hSw); go_simp; first | done | with_reducible rfl
          try simp only [Act.put, List.setIfInBounds_toArray, List.set_cons_zero, List.set_cons_succ]
          refine wpAnyH_take (i := 11) (oi := { dst := some 82, op := Op.call { callee := Callee.builtin Builtin.len, args := #[Operand.tmp 81], argTypes := #[28] }, type := 3, pos := "outright.go:92", after := #[{ on := 10, ground := Ground.data }, { on := 8, ground := Ground.guard }], guard := some (8, true) }) (v := ?_) rfl (by kernel_rfl) (by kernel_rfl) (by kernel_rfl) (fun _ _ _ h => h) (Or.inl ⟨by rfl, ?_⟩) hHeld ?_
          rotate_left
          · intro w hSw; (try dsimp only at hSw); go_simp; first | done | with_reducible rfl
          try simp only [Act.put, List.setIfInBounds_toArray, List.set_cons_zero, List.set_cons_succ]
          refine wpAnyH_take (i := 12) (oi := { dst := some 83, op := Op.slice 28 (Operand.tmp 80) none (some (Operand.tmp 82)) none, type := 28, pos := "outright.go:92", after := #[{ on := 9, ground := Ground.data }, { on := 11, ground := Ground.data }, { on := 8, ground := Ground.guard }], guard := some (8, true) }) (v := ?_) rfl (by kernel_rfl) (by kernel_rfl) (by kernel_rfl) (fun _ _ _ h => h) (Or.inl ⟨by rfl, ?_⟩) hHeld ?_
          rotate_left
          · intro w hSw; (try dsimp only at hSw); go_simp; first | done | with_reducible rfl
          try simp only [Act.put, List.setIfInBounds_toArray, List.set_cons_zero, List.set_cons_succ]
          refine wpAnyH_take (i := 13) (oi := { dst := some 84, op := Op.convert 28 9 (Operand.tmp 83), type := 9, pos := "outright.go:92", after := #[{ on := 12, ground := Ground.data }, { on := 8, ground := Ground.guard }], guard := some (8, true) }) (v := ?_) rfl (by kernel_rfl) (by kernel_rfl) (by kernel_rfl) (fun _ _ _ h => h) (Or.inl ⟨by rfl, ?_⟩) hHeld ?_
          rotate_left
          · intro w hSw; (try dsimp only at hSw); (have hcb := (hSw.1.front' (m := lx) hlxn).string (P := Tryd.prog) 28 5 9 Tryd.underlying28 Tryd.underlying5 Tryd.underlying9); (rw [HTK.out] at hcb); go_simp; first | done | with_reducible rfl
          try simp only [Act.put, List.setIfInBounds_toArray, List.set_cons_zero, List.set_cons_succ]
          refine wpAnyH_take (i := 14) (oi := { dst := some 85, op := Op.move (Operand.tmp 9), type := 28, pos := "outright.go:92", after := #[{ on := 8, ground := Ground.guard }], guard := some (8, true) }) (v := ?_) rfl (by kernel_rfl) (by kernel_rfl) (by kernel_rfl) (fun _ _ _ h => h) (Or.inl ⟨by rfl, ?_⟩) hHeld ?_
          rotate_left
          · intro w hSw; (try dsimp only at hSw); go_simp; first | done | with_reducible rfl
          try simp only [Act.put, List.setIfInBounds_toArray, List.set_cons_zero, List.set_cons_succ]
          refine wpAnyH_take (i := 15) (oi := { dst := some 86, op := Op.convert 28 9 (Operand.tmp 85), type := 9, pos := "outright.go:92", after := #[{ on := 14, ground := Ground.data }, { on := 8, ground := Ground.guard }], guard := some (8, true) }) (v := ?_) rfl (by kernel_rfl) (by kernel_rfl) (by kernel_rfl) (fun _ _ _ h => h) (Or.inl ⟨by rfl, ?_⟩) hHeld ?_
          rotate_left
          · intro w hSw; (try dsimp only at hSw); (have hca := hSw.2.string (P := Tryd.prog) 28 5 9 Tryd.underlying28 Tryd.underlying5 Tryd.underlying9); go_simp; first | done | with_reducible rfl
          try simp only [Act.put, List.setIfInBounds_toArray, List.set_cons_zero, List.set_cons_succ]
          refine wpAnyH_take (i := 16) (oi := { dst := some 87, op := Op.binOp BinOp.eql 9 (Operand.tmp 84) (Operand.tmp 86) 9, type := 4, pos := "outright.go:92", after := #[{ on := 13, ground := Ground.data }, { on := 15, ground := Ground.data }, { on := 8, ground := Ground.guard }], guard := some (8, true) }) (v := ?_) rfl (by kernel_rfl) (by kernel_rfl) (by kernel_rfl) (fun _ _ _ h => h) (Or.inl ⟨by rfl, ?_⟩) hHeld ?_
          rotate_left
          · intro w hSw; (try dsimp only at hSw); go_simp; first | done | with_reducible rfl
          try simp only [Act.put, List.setIfInBounds_toArray, List.set_cons_zero, List.set_cons_succ]
          refine wpAnyH_take (i := 17) (oi := { dst := some 88, op := Op.pick (Operand.tmp 79) (Operand.tmp 87) (Operand.const (Value.bool false)), type := 4, pos := "outright.go:92", after := #[{ on := 8, ground := Ground.data }, { on := 16, ground := Ground.data }], guard := none }) (v := ?_) rfl (by kernel_rfl) (by kernel_rfl) (by kernel_rfl) (fun _ _ _ h => h) (Or.inl ⟨by rfl, ?_⟩) hHeld ?_
          rotate_left
          · intro w hSw; (try dsimp only at hSw); go_simp; first | done | with_reducible rfl
          try simp only [Act.put, List.setIfInBounds_toArray, List.set_cons_zero, List.set_cons_succ]
          refine wpAnyH_take (i := 18) (oi := { dst := some 89, op := Op.move (Operand.tmp 88), type := 4, pos := "outright.go:92", after := #[{ on := 17, ground := Ground.data }, { on := 8, ground := Ground.chain }], guard := none }) (v := ?_) rfl (by kernel_rfl) (by kernel_rfl) (by kernel_rfl) (fun _ _ _ h => h) (Or.inl ⟨by rfl, ?_⟩) hHeld ?_
          rotate_left
          · intro w hSw; (try dsimp only at hSw); go_simp; first | done | with_reducible rfl
          try simp only [Act.put, List.setIfInBounds_toArray, List.set_cons_zero, List.set_cons_succ]
          refine wpAnyH_ready (rs := [19]) (by kernel_rfl) (by simp) ?_
          refine AllReadyH.cons (o := { dst := some 90, op := Op.call { callee := Callee.value (Operand.func 12), args := #[], argTypes := #[] }, type := 4, pos := "outright.go:92", after := #[{ on := 18, ground := Ground.chain }, { on := 18, ground := Ground.guard }], guard := some (18, true) }) rfl (fun K hK => ?_) AllReadyH.nil
          clear hHeld
          go_simp
          refine HAW.out.mono ?_
          rintro e z3 ⟨rfl, hB3⟩
          have HB3 := hide hB3
          dsimp only
          refine hK.out _ _ (⟨HSb.out.below hB3, HSc.out.below hB3⟩) (fun hHeld => ?_)
          clear hK K
          try simp only [Act.put, List.setIfInBounds_toArray, List.set_cons_zero, List.set_cons_succ]
          refine wpAnyH_take (i := 20) (oi := { dst := some 91, op := Op.pick (Operand.tmp 89) (Operand.tmp 90) (Operand.const (Value.bool false)), type := 4, pos := "outright.go:92", after := #[{ on := 18, ground := Ground.data }, { on := 19, ground := Ground.data }], guard := none }) (v := ?_) rfl (by kernel_rfl) (by kernel_rfl) (by kernel_rfl) (fun _ _ _ h => h) (Or.inl ⟨by rfl, ?_⟩) hHeld ?_
          rotate_left
          · intro w hSw; (try dsimp only at hSw); go_simp; first | done | with_reducible rfl
          try simp only [Act.put, List.setIfInBounds_toArray, List.set_cons_zero, List.set_cons_succ]
          refine wpAnyH_take (i := 21) (oi := { dst := some 4, op := Op.assign (Operand.tmp 91), type := 4, pos := "outright.go:92", after := #[{ on := 20, ground := Ground.data }, { on := 19, ground := Ground.chain }, { on := 0, ground := Ground.phase }, { on := 1, ground := Ground.phase }, { on := 2, ground := Ground.phase }, { on := 3, ground := Ground.phase }, { on := 4, ground := Ground.phase }, { on := 5, ground := Ground.phase }, { on := 6, ground := Ground.phase }, { on := 7, ground := Ground.phase }, { on := 8, ground := Ground.phase }, { on := 9, ground := Ground.phase }, { on := 10, ground := Ground.phase }, { on := 11, ground := Ground.phase }, { on := 12, ground := Ground.phase }, { on := 13, ground := Ground.phase }, { on := 14, ground := Ground.phase }, { on := 15, ground := Ground.phase }, { on := 16, ground := Ground.phase }, { on := 17, ground := Ground.phase }, { on := 18, ground := Ground.phase }, { on := 19, ground := Ground.phase }, { on := 20, ground := Ground.phase }], guard := none }) (v := ?_) rfl (by kernel_rfl) (by kernel_rfl) (by kernel_rfl) (fun _ _ _ h => h) (Or.inl ⟨by rfl, ?_⟩) hHeld ?_
          rotate_left
          · intro w hSw; (try dsimp only at hSw); go_simp; first | done | with_reducible rfl
          try simp only [Act.put, List.setIfInBounds_toArray, List.set_cons_zero, List.set_cons_succ]
          refine wpAnyH_done (by kernel_rfl) ?_ _
          go_wp2_with fail
          go_ret
          exact ⟨rfl, HBz.out.drew.trans (HB3.out.mono HBz.out.size)⟩
        | some rest =>
          obtain ⟨hK, _, v, rfl, hf, hN⟩ := hp.some hr
          clear hp
          have hlen : 4 ≤ ys.length := by rcases Nat.lt_or_ge ys.length 4 with h | h; rw [cut32, if_pos h] at hr; cases hr; exact h
          obtain rfl : ys.drop 4 = rest := by rw [cut32, if_neg (by omega)] at hr; injection hr
          obtain ⟨hv1, hv2⟩ := u32S_form ys HYR.out hlen
          obtain ⟨vn, hvn⟩ : ∃ vn, u32V ys 4 = vn := ⟨_, rfl⟩
          rw [hvn] at hf hv1 hv2
          obtain rfl : v = .int .u32 (vn : Nat) := hf
          have hwv : IntKind.u64.wrap (vn : Int) = vn := IntWalk.u64_in _ (by omega)
          have HFM : Tuck (fieldS (⟨f.kind, f.most, f.more, vn, f.s⟩ : Fld) ++ (ys.drop 4) = ys) := tuck (by rw [fieldS_1 (⟨f.kind, f.most, f.more, vn, f.s⟩ : Fld) HD0.out HD1.out]; show u32S (vn % 4294967296) ++ ys.drop 4 = ys; rw [Nat.mod_eq_of_lt hv1]; exact hv2)
          have HS2 := hide hK.size
          have hrow2 : u2.heap[wr.heap.size]? = some (.cells f.cells.toArray 32 (0, 0)) := (hK.block _ HSu.out (fun h => by have := HFR.out _ h; have := HW.out.hB; omega)).trans HROW.out
          have hcc : u2.cell? ⟨wr.heap.size, 3, none⟩ = some (.int .u64 (f.n : Nat)) := (cell_of_row u2 _ 3 _ _ _ hrow2).trans rfl
          have hff := frozen_of_row u2 wr.heap.size 3 _ _ hrow2
          have HW2 := hide (HWu.out.keep hK (fun k h1 h2 => by simp only [iv] at h1; have := HFR.out k h2; omega))
          have HB2 := hide (hK.through HBu.out (fun k h => (HFR.out k h).1) HBu.out.size)
          have hKs : Keep (fun k => k = wr.heap.size) u2 (u2.setCell ⟨wr.heap.size, 3, none⟩ (.int .u64 (vn : Nat))) := Keep.set _ _ _ rfl
          have HR3 := hide (hN.keep hKs (fun k h1 h2 => by have := HFR.out k h1; have := HW.out.hB; omega))
          have HW3 := hide (HW2.out.keep hKs (fun k h1 h2 => by simp only [iv] at h1; omega))
          have HB3 := hide (hKs.through HB2.out (fun k h => by rw [h]; exact HBr.out.size) HB2.out.size)
          have hrow3 : (u2.setCell ⟨wr.heap.size, 3, none⟩ (.int .u64 (vn : Nat))).heap[wr.heap.size]? = some (.cells (⟨f.kind, f.most, f.more, vn, f.s⟩ : Fld).cells.toArray 32 (0, 0)) := by rw [heap_setCell_same u2 wr.heap.size 3 _ _ _ hrow2]; rfl
          have HT3 := hide (ht.below HB3.out h2)
          have HWA := hide (write_any (⟨f.kind, f.most, f.more, vn, f.s⟩ : Fld) ⟨by show vn < _; omega, HOKf.out.2⟩ _ lo (iv lo wr.heap.size) gw xs HT3.out (by omega) HW3.out (by show xs.length + 10 + f.s.size ≤ _; have := HXL.out; have := HSZf.out; omega))
          unfold Fld.val at HWA
          dsimp only at HWA
          have q0 : (u2.setCell ⟨wr.heap.size, 3, none⟩ (.int .u64 (vn : Nat))).cell? ⟨wr.heap.size, 0, none⟩ = some (.int .i64 f.kind) := (cell_of_row _ _ 0 _ _ _ hrow3).trans rfl
          have q1 : (u2.setCell ⟨wr.heap.size, 3, none⟩ (.int .u64 (vn : Nat))).cell? ⟨wr.heap.size, 1, none⟩ = some (.int .i64 f.most) := (cell_of_row _ _ 1 _ _ _ hrow3).trans rfl
          have q2 : (u2.setCell ⟨wr.heap.size, 3, none⟩ (.int .u64 (vn : Nat))).cell? ⟨wr.heap.size, 2, none⟩ = some (.int .i64 f.more) := (cell_of_row _ _ 2 _ _ _ hrow3).trans rfl
          have q3 : (u2.setCell ⟨wr.heap.size, 3, none⟩ (.int .u64 (vn : Nat))).cell? ⟨wr.heap.size, 3, none⟩ = some (.int .u64 (vn : Nat)) := (cell_of_row _ _ 3 _ _ _ hrow3).trans rfl
          have q4 : (u2.setCell ⟨wr.heap.size, 3, none⟩ (.int .u64 (vn : Nat))).cell? ⟨wr.heap.size, 4, none⟩ = some (.string f.s) := (cell_of_row _ _ 4 _ _ _ hrow3).trans rfl
          have HU3 : Hid (∀ U, U = u2.setCell ⟨wr.heap.size, 3, none⟩ (.int .u64 (vn : Nat)) → True) := hide (fun _ _ => trivial)
          clear hK hN hKs hrow2 hrow3 HW2 HB2 hr HU3
          go_wp2_with fail
          refine (err_any _ _ _ _ _ _ HR3.out).mono ?_
          rintro e u3 ⟨rfl, rfl⟩
          rw [show errOf false = 0 from rfl]
          clear hcc hff
          go_wp2_with fail
          refine HWA.out.mono ?_
          intro e u4 hp
          obtain ⟨rfl, hK4, hN4⟩ := hp
          have hs34 : wr.heap.size ≤ u4.heap.size := Nat.le_trans (Nat.le_of_lt HSu.out) (Nat.le_trans HS2.out (by have := hK4.size; simpa using this))
          have HW4 := hide (hN4.mono (G := iv lo u4.heap.size) (fun k h => by rcases h with h | h; exact ⟨h.1, Nat.lt_of_lt_of_le h.2 hs34⟩; exact ⟨Nat.le_trans (Nat.le_trans HW.out.hB (Nat.le_of_lt (Nat.lt_of_lt_of_le HSu.out HS2.out))) (by simpa using h.1), h.2⟩) (fun k h => h))
          have HR4 := hide (HR3.out.keep hK4 (fun k h1 h2 => by simp only [iv] at h2; have := HFR.out k h1; omega))
          have HB4 := hide (hK4.through HB3.out (fun k h => by simp only [iv] at h; omega) HB3.out.size)
          have HEQ4 : Tuck ((xs ++ fieldS (⟨f.kind, f.most, f.more, vn, f.s⟩ : Fld)) ++ (ys.drop 4) = bs) := tuck (by rw [List.append_assoc, HFM.out, HEQ.out])
          clear hK4 hN4 HR3 HW3 HB3 HWA q0 q1 q2 q3 q4 hs34
          go_wp2_with fail
          go_roundw
          case rel => exact ⟨k + 1, by omega, by go_num, _, _, HEQ4, HR4, HW4, HB4⟩
          case measure => simp [intOf]; omega
      by_cases hc2 : kd = 2
      · have h0 : ¬ f.kd = 0 := by rw [hkd]; exact hc0
        have h1 : ¬ f.kd = 1 := by rw [hkd]; exact hc1
        have h2' : f.kd = 2 := by rw [hkd]; exact hc2
        have HD0 := hide h0
        clear h0
        have HD1 := hide h1
        clear h1
        have HD2 := hide h2'
        clear h2'
        have HA := hide (ru_go u1 B0 Fr gr ys HRu.out HTu.out HYR.out)
        skip
        go_wp2_with fail
        refine HA.out.mono ?_
        intro e u2 hp
        clear HA
        cases hr : (cutUS ys).map (·.2) with
        | none =>
          obtain ⟨hK, _, rfl, hN⟩ := hp.none hr
          clear hp hr
          have HS2 := hide hK.size
          have hrow2 : u2.heap[wr.heap.size]? = some (.cells f.cells.toArray 32 (0, 0)) := (hK.block _ HSu.out (fun h => by have := HFR.out _ h; have := HW.out.hB; omega)).trans HROW.out
          have hcc : u2.cell? ⟨wr.heap.size, 3, none⟩ = some (.int .u64 (f.n : Nat)) := (cell_of_row u2 _ 3 _ _ _ hrow2).trans rfl
          have hff := frozen_of_row u2 wr.heap.size 3 _ _ hrow2
          have HW2 := hide (HWu.out.keep hK (fun k h1 h2 => by simp only [iv] at h1; have := HFR.out k h2; omega))
          have HB2 := hide (hK.through HBu.out (fun k h => (HFR.out k h).1) HBu.out.size)
          have hKs : Keep (fun k => k = wr.heap.size) u2 (u2.setCell ⟨wr.heap.size, 3, none⟩ (.int .u64 0)) := Keep.set _ _ _ rfl
          have HR3 := hide (hN.keep hKs (fun k h1 h2 => by have := HFR.out k h1; have := HW.out.hB; omega))
          have HW3 := hide (HW2.out.keep hKs (fun k h1 h2 => by simp only [iv] at h1; omega))
          have HB3 := hide (hKs.through HB2.out (fun k h => by rw [h]; exact HBr.out.size) HB2.out.size)
          clear hK hN hKs hrow2 HW2 HB2
          go_wp2_with fail
          refine (err_any _ _ _ _ _ _ HR3.out).mono ?_
          rintro e u3 ⟨rfl, rfl⟩
          rw [show errOf true = 2 from rfl]
          clear hcc hff
          have hly5 : ys.length ≤ 20000 := by have := congrArg List.length HEQ.out; simp at this; have := HNB.out; omega
          have hlx5 : xs.length ≤ 20000 := by have := congrArg List.length HEQ.out; simp at this; have := HNB.out; omega
          have HTK : Tuck (bs.take xs.length = xs) := tuck (by rw [← HEQ.out, List.take_left' rfl])
          have hsum : xs.length + ys.length = nb := by have := congrArg List.length HEQ.out; simp at this; have := HNB.out; omega
          go_wp2_with fail
          refine (bytes_any _ _ _ _ _ HW3.out (by omega)).mono ?_
          rintro e z1 ⟨vc, rfl, hrowc, hBz⟩
          have HRz := hide (HR3.out.keep (Keep.of_below hBz : Keep (fun _ => False) _ z1) (fun _ _ => id))
          have HBz := hide (HB3.out.trans (hBz.mono HB3.out.size))
          obtain ⟨aoc, capc, hvc⟩ := hrowc.slAt.len
          obtain ⟨lx, hlx⟩ : ∃ lx, xs.length = lx := ⟨_, rfl⟩
          obtain ⟨ly, hly⟩ : ∃ ly, ys.length = ly := ⟨_, rfl⟩
          rw [hlx] at hvc HTK hsum hlx5
          rw [hly] at hsum hly5
          subst hvc
          have HSc := hide (show SlAt z1.drew _ _ from hrowc.slAt)
          have HSb := hide (HBS.out.below (show Below w.heap.size w z1.drew from HBz.out.drew))
          have HLEFT := hide (left_any z1.drew _ _ _ _ _ HRz.out.drew)
          rw [hly] at HLEFT
          have HAW := hide (awake_any z1.drew (ht.below HBz.out.drew h2))
          have hsi : (lx : Int) + (ly : Int) = (nb : Int) := by omega
          have hwi : IntKind.i64.wrap ((nb : Int)) = nb := IntWalk.i64_in _ (by omega)
          have hcut := run_cut_hk (P := Tryd.prog) .i64 Tryd.underlying28 size5 ab nb cb lx (by have := HSb.out.le.1; omega)
          have hlxn : lx ≤ nb := by omega
          clear hrowc hBz hlx hly hsum hly5 hlx5
          go_wp2_with fail
          refine wp_region_held_drew (S := fun w' => SlAt w' (.slice ab nb cb) bs ∧ SlAt w' (.slice aoc lx capc) xs) (by kernel_rfl) ⟨HSb.out, HSc.out⟩ (fun hHeld => ?_)
          refine wpAnyH_take (i := 0) (oi := { dst := some 71, op := Op.move (Operand.tmp 9), type := 28, pos := "outright.go:92", after := #[], guard := none }) (v := ?_) rfl (by kernel_rfl) (by kernel_rfl) (by kernel_rfl) (fun _ _ _ h => h) (Or.inl ⟨by rfl, ?_⟩) hHeld ?_
          rotate_left
          · intro w hSw; (try dsimp only at hSw); go_simp; first | done | with_reducible rfl
          try simp only [Act.put, List.setIfInBounds_toArray, List.set_cons_zero, List.set_cons_succ]
          refine wpAnyH_take (i := 1) (oi := { dst := some 72, op := Op.call { callee := Callee.builtin Builtin.len, args := #[Operand.tmp 71], argTypes := #[28] }, type := 3, pos := "outright.go:92", after := #[{ on := 0, ground := Ground.data }], guard := none }) (v := ?_) rfl (by kernel_rfl) (by kernel_rfl) (by kernel_rfl) (fun _ _ _ h => h) (Or.inl ⟨by rfl, ?_⟩) hHeld ?_
          rotate_left
          · intro w hSw; (try dsimp only at hSw); go_simp; first | done | with_reducible rfl
          try simp only [Act.put, List.setIfInBounds_toArray, List.set_cons_zero, List.set_cons_succ]
          refine wpAnyH_take (i := 2) (oi := { dst := some 73, op := Op.move (Operand.tmp 5), type := 38, pos := "outright.go:92", after := #[], guard := none }) (v := ?_) rfl (by kernel_rfl) (by kernel_rfl) (by kernel_rfl) (fun _ _ _ h => h) (Or.inl ⟨by rfl, ?_⟩) hHeld ?_
          rotate_left
          · intro w hSw; (try dsimp only at hSw); go_simp; first | done | with_reducible rfl
          try simp only [Act.put, List.setIfInBounds_toArray, List.set_cons_zero, List.set_cons_succ]
          refine wpAnyH_take (i := 5) (oi := { dst := some 76, op := Op.move (Operand.tmp 0), type := 28, pos := "outright.go:92", after := #[], guard := none }) (v := ?_) rfl (by kernel_rfl) (by kernel_rfl) (by kernel_rfl) (fun _ _ _ h => h) (Or.inl ⟨by rfl, ?_⟩) hHeld ?_
          rotate_left
          · intro w hSw; (try dsimp only at hSw); go_simp; first | done | with_reducible rfl
          try simp only [Act.put, List.setIfInBounds_toArray, List.set_cons_zero, List.set_cons_succ]
          refine wpAnyH_take (i := 6) (oi := { dst := some 77, op := Op.call { callee := Callee.builtin Builtin.len, args := #[Operand.tmp 76], argTypes := #[28] }, type := 3, pos := "outright.go:92", after := #[{ on := 5, ground := Ground.data }], guard := none }) (v := ?_) rfl (by kernel_rfl) (by kernel_rfl) (by kernel_rfl) (fun _ _ _ h => h) (Or.inl ⟨by rfl, ?_⟩) hHeld ?_
          rotate_left
          · intro w hSw; (try dsimp only at hSw); go_simp; first | done | with_reducible rfl
          try simp only [Act.put, List.setIfInBounds_toArray, List.set_cons_zero, List.set_cons_succ]
          refine wpAnyH_ready (rs := [3]) (by kernel_rfl) (by simp) ?_
          refine AllReadyH.cons (o := { dst := some 74, op := Op.call { callee := Callee.value (Operand.func 31), args := #[Operand.tmp 73], argTypes := #[38] }, type := 3, pos := "outright.go:92", after := #[{ on := 2, ground := Ground.data }], guard := none }) rfl (fun K hK => ?_) AllReadyH.nil
          clear hHeld
          go_simp
          refine HLEFT.out.mono ?_
          rintro e z2 ⟨rfl, rfl⟩
          dsimp only
          refine hK.out _ _ (⟨HSb.out, HSc.out⟩) (fun hHeld => ?_)
          clear hK K
          try simp only [Act.put, List.setIfInBounds_toArray, List.set_cons_zero, List.set_cons_succ]
          refine wpAnyH_take (i := 4) (oi := { dst := some 75, op := Op.binOp BinOp.add 3 (Operand.tmp 72) (Operand.tmp 74) 3, type := 3, pos := "outright.go:92", after := #[{ on := 1, ground := Ground.data }, { on := 3, ground := Ground.data }], guard := none }) (v := ?_) rfl (by kernel_rfl) (by kernel_rfl) (by kernel_rfl) (fun _ _ _ h => h) (Or.inl ⟨by rfl, ?_⟩) hHeld ?_
          rotate_left
          · intro w hSw; (try dsimp only at hSw); go_simp; first | done | with_reducible rfl
          try simp only [Act.put, List.setIfInBounds_toArray, List.set_cons_zero, List.set_cons_succ]
          refine wpAnyH_take (i := 7) (oi := { dst := some 78, op := Op.binOp BinOp.eql 3 (Operand.tmp 75) (Operand.tmp 77) 3, type := 4, pos := "outright.go:92", after := #[{ on := 4, ground := Ground.data }, { on := 6, ground := Ground.data }], guard := none }) (v := ?_) rfl (by kernel_rfl) (by kernel_rfl) (by kernel_rfl) (fun _ _ _ h => h) (Or.inl ⟨by rfl, ?_⟩) hHeld ?_
          rotate_left
          · intro w hSw; (try dsimp only at hSw); go_simp; first | done | with_reducible rfl
          try simp only [Act.put, List.setIfInBounds_toArray, List.set_cons_zero, List.set_cons_succ]
          refine wpAnyH_take (i := 8) (oi := { dst := some 79, op := Op.move (Operand.tmp 78), type := 4, pos := "outright.go:92", after := #[{ on := 7, ground := Ground.data }, { on := 3, ground := Ground.chain }], guard := none }) (v := ?_) rfl (by kernel_rfl) (by kernel_rfl) (by kernel_rfl) (fun _ _ _ h => h) (Or.inl ⟨by rfl, ?_⟩) hHeld ?_
          rotate_left
          · intro w hSw; (try dsimp only at hSw); go_simp; first | done | with_reducible rfl
          try simp only [Act.put, List.setIfInBounds_toArray, List.set_cons_zero, List.set_cons_succ]
          refine wpAnyH_take (i := 9) (oi := { dst := some 80, op := Op.move (Operand.tmp 0), type := 28, pos := "outright.go:92", after := #[{ on := 8, ground := Ground.guard }], guard := some (8, true) }) (v := ?_) rfl (by kernel_rfl) (by kernel_rfl) (by kernel_rfl) (fun _ _ _ h => h) (Or.inl ⟨by rfl, ?_⟩) hHeld ?_
          rotate_left
          · intro w hSw; (try dsimp only at hSw); go_simp; first | done | with_reducible rfl
          try simp only [Act.put, List.setIfInBounds_toArray, List.set_cons_zero, List.set_cons_succ]
          refine wpAnyH_take (i := 10) (oi := { dst := some 81, op := Op.move (Operand.tmp 9), type := 28, pos := "outright.go:92", after := #[{ on := 8, ground := Ground.guard }], guard := some (8, true) }) (v := ?_) rfl (by kernel_rfl) (by kernel_rfl) (by kernel_rfl) (fun _ _ _ h => h) (Or.inl ⟨by rfl, ?_⟩) hHeld ?_
          rotate_left
          · intro w hSw; (try dsimp only at hSw); go_simp; first | done | with_reducible rfl
          try simp only [Act.put, List.setIfInBounds_toArray, List.set_cons_zero, List.set_cons_succ]
          refine wpAnyH_take (i := 11) (oi := { dst := some 82, op := Op.call { callee := Callee.builtin Builtin.len, args := #[Operand.tmp 81], argTypes := #[28] }, type := 3, pos := "outright.go:92", after := #[{ on := 10, ground := Ground.data }, { on := 8, ground := Ground.guard }], guard := some (8, true) }) (v := ?_) rfl (by kernel_rfl) (by kernel_rfl) (by kernel_rfl) (fun _ _ _ h => h) (Or.inl ⟨by rfl, ?_⟩) hHeld ?_
          rotate_left
          · intro w hSw; (try dsimp only at hSw); go_simp; first | done | with_reducible rfl
          try simp only [Act.put, List.setIfInBounds_toArray, List.set_cons_zero, List.set_cons_succ]
          refine wpAnyH_take (i := 12) (oi := { dst := some 83, op := Op.slice 28 (Operand.tmp 80) none (some (Operand.tmp 82)) none, type := 28, pos := "outright.go:92", after := #[{ on := 9, ground := Ground.data }, { on := 11, ground := Ground.data }, { on := 8, ground := Ground.guard }], guard := some (8, true) }) (v := ?_) rfl (by kernel_rfl) (by kernel_rfl) (by kernel_rfl) (fun _ _ _ h => h) (Or.inl ⟨by rfl, ?_⟩) hHeld ?_
          rotate_left
          · intro w hSw; (try dsimp only at hSw); go_simp; first | done | with_reducible rfl
          try simp only [Act.put, List.setIfInBounds_toArray, List.set_cons_zero, List.set_cons_succ]
          refine wpAnyH_take (i := 13) (oi := { dst := some 84, op := Op.convert 28 9 (Operand.tmp 83), type := 9, pos := "outright.go:92", after := #[{ on := 12, ground := Ground.data }, { on := 8, ground := Ground.guard }], guard := some (8, true) }) (v := ?_) rfl (by kernel_rfl) (by kernel_rfl) (by kernel_rfl) (fun _ _ _ h => h) (Or.inl ⟨by rfl, ?_⟩) hHeld ?_
          rotate_left
          · intro w hSw; (try dsimp only at hSw); (have hcb := (hSw.1.front' (m := lx) hlxn).string (P := Tryd.prog) 28 5 9 Tryd.underlying28 Tryd.underlying5 Tryd.underlying9); (rw [HTK.out] at hcb); go_simp; first | done | with_reducible rfl
          try simp only [Act.put, List.setIfInBounds_toArray, List.set_cons_zero, List.set_cons_succ]
          refine wpAnyH_take (i := 14) (oi := { dst := some 85, op := Op.move (Operand.tmp 9), type := 28, pos := "outright.go:92", after := #[{ on := 8, ground := Ground.guard }], guard := some (8, true) }) (v := ?_) rfl (by kernel_rfl) (by kernel_rfl) (by kernel_rfl) (fun _ _ _ h => h) (Or.inl ⟨by rfl, ?_⟩) hHeld ?_
          rotate_left
          · intro w hSw; (try dsimp only at hSw); go_simp; first | done | with_reducible rfl
          try simp only [Act.put, List.setIfInBounds_toArray, List.set_cons_zero, List.set_cons_succ]
          refine wpAnyH_take (i := 15) (oi := { dst := some 86, op := Op.convert 28 9 (Operand.tmp 85), type := 9, pos := "outright.go:92", after := #[{ on := 14, ground := Ground.data }, { on := 8, ground := Ground.guard }], guard := some (8, true) }) (v := ?_) rfl (by kernel_rfl) (by kernel_rfl) (by kernel_rfl) (fun _ _ _ h => h) (Or.inl ⟨by rfl, ?_⟩) hHeld ?_
          rotate_left
          · intro w hSw; (try dsimp only at hSw); (have hca := hSw.2.string (P := Tryd.prog) 28 5 9 Tryd.underlying28 Tryd.underlying5 Tryd.underlying9); go_simp; first | done | with_reducible rfl
          try simp only [Act.put, List.setIfInBounds_toArray, List.set_cons_zero, List.set_cons_succ]
          refine wpAnyH_take (i := 16) (oi := { dst := some 87, op := Op.binOp BinOp.eql 9 (Operand.tmp 84) (Operand.tmp 86) 9, type := 4, pos := "outright.go:92", after := #[{ on := 13, ground := Ground.data }, { on := 15, ground := Ground.data }, { on := 8, ground := Ground.guard }], guard := some (8, true) }) (v := ?_) rfl (by kernel_rfl) (by kernel_rfl) (by kernel_rfl) (fun _ _ _ h => h) (Or.inl ⟨by rfl, ?_⟩) hHeld ?_
          rotate_left
          · intro w hSw; (try dsimp only at hSw); go_simp; first | done | with_reducible rfl
          try simp only [Act.put, List.setIfInBounds_toArray, List.set_cons_zero, List.set_cons_succ]
          refine wpAnyH_take (i := 17) (oi := { dst := some 88, op := Op.pick (Operand.tmp 79) (Operand.tmp 87) (Operand.const (Value.bool false)), type := 4, pos := "outright.go:92", after := #[{ on := 8, ground := Ground.data }, { on := 16, ground := Ground.data }], guard := none }) (v := ?_) rfl (by kernel_rfl) (by kernel_rfl) (by kernel_rfl) (fun _ _ _ h => h) (Or.inl ⟨by rfl, ?_⟩) hHeld ?_
          rotate_left
          · intro w hSw; (try dsimp only at hSw); go_simp; first | done | with_reducible rfl
          try simp only [Act.put, List.setIfInBounds_toArray, List.set_cons_zero, List.set_cons_succ]
          refine wpAnyH_take (i := 18) (oi := { dst := some 89, op := Op.move (Operand.tmp 88), type := 4, pos := "outright.go:92", after := #[{ on := 17, ground := Ground.data }, { on := 8, ground := Ground.chain }], guard := none }) (v := ?_) rfl (by kernel_rfl) (by kernel_rfl) (by kernel_rfl) (fun _ _ _ h => h) (Or.inl ⟨by rfl, ?_⟩) hHeld ?_
          rotate_left
          · intro w hSw; (try dsimp only at hSw); go_simp; first | done | with_reducible rfl
          try simp only [Act.put, List.setIfInBounds_toArray, List.set_cons_zero, List.set_cons_succ]
          refine wpAnyH_ready (rs := [19]) (by kernel_rfl) (by simp) ?_
          refine AllReadyH.cons (o := { dst := some 90, op := Op.call { callee := Callee.value (Operand.func 12), args := #[], argTypes := #[] }, type := 4, pos := "outright.go:92", after := #[{ on := 18, ground := Ground.chain }, { on := 18, ground := Ground.guard }], guard := some (18, true) }) rfl (fun K hK => ?_) AllReadyH.nil
          clear hHeld
          go_simp
          refine HAW.out.mono ?_
          rintro e z3 ⟨rfl, hB3⟩
          have HB3 := hide hB3
          dsimp only
          refine hK.out _ _ (⟨HSb.out.below hB3, HSc.out.below hB3⟩) (fun hHeld => ?_)
          clear hK K
          try simp only [Act.put, List.setIfInBounds_toArray, List.set_cons_zero, List.set_cons_succ]
          refine wpAnyH_take (i := 20) (oi := { dst := some 91, op := Op.pick (Operand.tmp 89) (Operand.tmp 90) (Operand.const (Value.bool false)), type := 4, pos := "outright.go:92", after := #[{ on := 18, ground := Ground.data }, { on := 19, ground := Ground.data }], guard := none }) (v := ?_) rfl (by kernel_rfl) (by kernel_rfl) (by kernel_rfl) (fun _ _ _ h => h) (Or.inl ⟨by rfl, ?_⟩) hHeld ?_
          rotate_left
          · intro w hSw; (try dsimp only at hSw); go_simp; first | done | with_reducible rfl
          try simp only [Act.put, List.setIfInBounds_toArray, List.set_cons_zero, List.set_cons_succ]
          refine wpAnyH_take (i := 21) (oi := { dst := some 4, op := Op.assign (Operand.tmp 91), type := 4, pos := "outright.go:92", after := #[{ on := 20, ground := Ground.data }, { on := 19, ground := Ground.chain }, { on := 0, ground := Ground.phase }, { on := 1, ground := Ground.phase }, { on := 2, ground := Ground.phase }, { on := 3, ground := Ground.phase }, { on := 4, ground := Ground.phase }, { on := 5, ground := Ground.phase }, { on := 6, ground := Ground.phase }, { on := 7, ground := Ground.phase }, { on := 8, ground := Ground.phase }, { on := 9, ground := Ground.phase }, { on := 10, ground := Ground.phase }, { on := 11, ground := Ground.phase }, { on := 12, ground := Ground.phase }, { on := 13, ground := Ground.phase }, { on := 14, ground := Ground.phase }, { on := 15, ground := Ground.phase }, { on := 16, ground := Ground.phase }, { on := 17, ground := Ground.phase }, { on := 18, ground := Ground.phase }, { on := 19, ground := Ground.phase }, { on := 20, ground := Ground.phase }], guard := none }) (v := ?_) rfl (by kernel_rfl) (by kernel_rfl) (by kernel_rfl) (fun _ _ _ h => h) (Or.inl ⟨by rfl, ?_⟩) hHeld ?_
          rotate_left
          · intro w hSw; (try dsimp only at hSw); go_simp; first | done | with_reducible rfl
          try simp only [Act.put, List.setIfInBounds_toArray, List.set_cons_zero, List.set_cons_succ]
          refine wpAnyH_done (by kernel_rfl) ?_ _
          go_wp2_with fail
          go_ret
          exact ⟨rfl, HBz.out.drew.trans (HB3.out.mono HBz.out.size)⟩
        | some rest =>
          obtain ⟨hK, _, v, rfl, hf, hN⟩ := hp.some hr
          clear hp
          obtain ⟨y, hy⟩ : ∃ y, cutUS ys = some y := by cases h : cutUS ys with | none => rw [h] at hr; cases hr | some y => exact ⟨y, rfl⟩
          obtain ⟨vn, yr⟩ := y
          obtain ⟨hv1, hv2⟩ := cutUS_form ys vn yr HYR.out hy
          rw [hy] at hr hf
          obtain rfl : yr = rest := by injection hr
          obtain rfl : v = .int .u64 (vn : Nat) := hf
          have HFM : Tuck (fieldS (⟨f.kind, f.most, f.more, vn, f.s⟩ : Fld) ++ yr = ys) := tuck (by rw [fieldS_2 (⟨f.kind, f.most, f.more, vn, f.s⟩ : Fld) HD0.out HD1.out HD2.out]; exact hv2)
          have HS2 := hide hK.size
          have hrow2 : u2.heap[wr.heap.size]? = some (.cells f.cells.toArray 32 (0, 0)) := (hK.block _ HSu.out (fun h => by have := HFR.out _ h; have := HW.out.hB; omega)).trans HROW.out
          have hcc : u2.cell? ⟨wr.heap.size, 3, none⟩ = some (.int .u64 (f.n : Nat)) := (cell_of_row u2 _ 3 _ _ _ hrow2).trans rfl
          have hff := frozen_of_row u2 wr.heap.size 3 _ _ hrow2
          have HW2 := hide (HWu.out.keep hK (fun k h1 h2 => by simp only [iv] at h1; have := HFR.out k h2; omega))
          have HB2 := hide (hK.through HBu.out (fun k h => (HFR.out k h).1) HBu.out.size)
          have hKs : Keep (fun k => k = wr.heap.size) u2 (u2.setCell ⟨wr.heap.size, 3, none⟩ (.int .u64 (vn : Nat))) := Keep.set _ _ _ rfl
          have HR3 := hide (hN.keep hKs (fun k h1 h2 => by have := HFR.out k h1; have := HW.out.hB; omega))
          have HW3 := hide (HW2.out.keep hKs (fun k h1 h2 => by simp only [iv] at h1; omega))
          have HB3 := hide (hKs.through HB2.out (fun k h => by rw [h]; exact HBr.out.size) HB2.out.size)
          have hrow3 : (u2.setCell ⟨wr.heap.size, 3, none⟩ (.int .u64 (vn : Nat))).heap[wr.heap.size]? = some (.cells (⟨f.kind, f.most, f.more, vn, f.s⟩ : Fld).cells.toArray 32 (0, 0)) := by rw [heap_setCell_same u2 wr.heap.size 3 _ _ _ hrow2]; rfl
          have HT3 := hide (ht.below HB3.out h2)
          have HWA := hide (write_any (⟨f.kind, f.most, f.more, vn, f.s⟩ : Fld) ⟨hv1, HOKf.out.2⟩ _ lo (iv lo wr.heap.size) gw xs HT3.out (by omega) HW3.out (by show xs.length + 10 + f.s.size ≤ _; have := HXL.out; have := HSZf.out; omega))
          unfold Fld.val at HWA
          dsimp only at HWA
          have q0 : (u2.setCell ⟨wr.heap.size, 3, none⟩ (.int .u64 (vn : Nat))).cell? ⟨wr.heap.size, 0, none⟩ = some (.int .i64 f.kind) := (cell_of_row _ _ 0 _ _ _ hrow3).trans rfl
          have q1 : (u2.setCell ⟨wr.heap.size, 3, none⟩ (.int .u64 (vn : Nat))).cell? ⟨wr.heap.size, 1, none⟩ = some (.int .i64 f.most) := (cell_of_row _ _ 1 _ _ _ hrow3).trans rfl
          have q2 : (u2.setCell ⟨wr.heap.size, 3, none⟩ (.int .u64 (vn : Nat))).cell? ⟨wr.heap.size, 2, none⟩ = some (.int .i64 f.more) := (cell_of_row _ _ 2 _ _ _ hrow3).trans rfl
          have q3 : (u2.setCell ⟨wr.heap.size, 3, none⟩ (.int .u64 (vn : Nat))).cell? ⟨wr.heap.size, 3, none⟩ = some (.int .u64 (vn : Nat)) := (cell_of_row _ _ 3 _ _ _ hrow3).trans rfl
          have q4 : (u2.setCell ⟨wr.heap.size, 3, none⟩ (.int .u64 (vn : Nat))).cell? ⟨wr.heap.size, 4, none⟩ = some (.string f.s) := (cell_of_row _ _ 4 _ _ _ hrow3).trans rfl
          have HU3 : Hid (∀ U, U = u2.setCell ⟨wr.heap.size, 3, none⟩ (.int .u64 (vn : Nat)) → True) := hide (fun _ _ => trivial)
          clear hK hN hKs hrow2 hrow3 HW2 HB2 hr HU3
          go_wp2_with fail
          refine (err_any _ _ _ _ _ _ HR3.out).mono ?_
          rintro e u3 ⟨rfl, rfl⟩
          rw [show errOf false = 0 from rfl]
          clear hcc hff
          go_wp2_with fail
          refine HWA.out.mono ?_
          intro e u4 hp
          obtain ⟨rfl, hK4, hN4⟩ := hp
          have hs34 : wr.heap.size ≤ u4.heap.size := Nat.le_trans (Nat.le_of_lt HSu.out) (Nat.le_trans HS2.out (by have := hK4.size; simpa using this))
          have HW4 := hide (hN4.mono (G := iv lo u4.heap.size) (fun k h => by rcases h with h | h; exact ⟨h.1, Nat.lt_of_lt_of_le h.2 hs34⟩; exact ⟨Nat.le_trans (Nat.le_trans HW.out.hB (Nat.le_of_lt (Nat.lt_of_lt_of_le HSu.out HS2.out))) (by simpa using h.1), h.2⟩) (fun k h => h))
          have HR4 := hide (HR3.out.keep hK4 (fun k h1 h2 => by simp only [iv] at h2; have := HFR.out k h1; omega))
          have HB4 := hide (hK4.through HB3.out (fun k h => by simp only [iv] at h; omega) HB3.out.size)
          have HEQ4 : Tuck ((xs ++ fieldS (⟨f.kind, f.most, f.more, vn, f.s⟩ : Fld)) ++ yr = bs) := tuck (by rw [List.append_assoc, HFM.out, HEQ.out])
          clear hK4 hN4 HR3 HW3 HB3 HWA q0 q1 q2 q3 q4 hs34
          go_wp2_with fail
          go_roundw
          case rel => exact ⟨k + 1, by omega, by go_num, _, _, HEQ4, HR4, HW4, HB4⟩
          case measure => simp [intOf]; omega
      by_cases hc3 : kd = 3
      · have h0 : ¬ f.kd = 0 := by rw [hkd]; exact hc0
        have h1 : ¬ f.kd = 1 := by rw [hkd]; exact hc1
        have h2' : ¬ f.kd = 2 := by rw [hkd]; exact hc2
        have h3 : f.kd = 3 := by rw [hkd]; exact hc3
        have HD0 := hide h0
        clear h0
        have HD1 := hide h1
        clear h1
        have HD2 := hide h2'
        clear h2'
        have HD3 := hide h3
        clear h3
        have HA := hide (rt_go f.most u1 B0 Fr gr ys HRu.out (by have := HOKf.out.2.2.2; omega) HTu.out HYR.out (by have := HYL.out; omega))
        skip
        go_wp2_with fail
        refine HA.out.mono ?_
        intro e u2 hp
        clear HA
        cases hr : (cutTS f.most ys).map (·.2) with
        | none =>
          obtain ⟨hK, _, rfl, hN⟩ := hp.none hr
          clear hp hr
          have HS2 := hide hK.size
          have hrow2 : u2.heap[wr.heap.size]? = some (.cells f.cells.toArray 32 (0, 0)) := (hK.block _ HSu.out (fun h => by have := HFR.out _ h; have := HW.out.hB; omega)).trans HROW.out
          have hcc : u2.cell? ⟨wr.heap.size, 4, none⟩ = some (.string f.s) := (cell_of_row u2 _ 4 _ _ _ hrow2).trans rfl
          have hff := frozen_of_row u2 wr.heap.size 4 _ _ hrow2
          have HW2 := hide (HWu.out.keep hK (fun k h1 h2 => by simp only [iv] at h1; have := HFR.out k h2; omega))
          have HB2 := hide (hK.through HBu.out (fun k h => (HFR.out k h).1) HBu.out.size)
          have hKs : Keep (fun k => k = wr.heap.size) u2 (u2.setCell ⟨wr.heap.size, 4, none⟩ (.string ⟨#[]⟩)) := Keep.set _ _ _ rfl
          have HR3 := hide (hN.keep hKs (fun k h1 h2 => by have := HFR.out k h1; have := HW.out.hB; omega))
          have HW3 := hide (HW2.out.keep hKs (fun k h1 h2 => by simp only [iv] at h1; omega))
          have HB3 := hide (hKs.through HB2.out (fun k h => by rw [h]; exact HBr.out.size) HB2.out.size)
          clear hK hN hKs hrow2 HW2 HB2
          go_wp2_with fail
          refine (err_any _ _ _ _ _ _ HR3.out).mono ?_
          rintro e u3 ⟨rfl, rfl⟩
          rw [show errOf true = 2 from rfl]
          clear hcc hff
          have hly5 : ys.length ≤ 20000 := by have := congrArg List.length HEQ.out; simp at this; have := HNB.out; omega
          have hlx5 : xs.length ≤ 20000 := by have := congrArg List.length HEQ.out; simp at this; have := HNB.out; omega
          have HTK : Tuck (bs.take xs.length = xs) := tuck (by rw [← HEQ.out, List.take_left' rfl])
          have hsum : xs.length + ys.length = nb := by have := congrArg List.length HEQ.out; simp at this; have := HNB.out; omega
          go_wp2_with fail
          refine (bytes_any _ _ _ _ _ HW3.out (by omega)).mono ?_
          rintro e z1 ⟨vc, rfl, hrowc, hBz⟩
          have HRz := hide (HR3.out.keep (Keep.of_below hBz : Keep (fun _ => False) _ z1) (fun _ _ => id))
          have HBz := hide (HB3.out.trans (hBz.mono HB3.out.size))
          obtain ⟨aoc, capc, hvc⟩ := hrowc.slAt.len
          obtain ⟨lx, hlx⟩ : ∃ lx, xs.length = lx := ⟨_, rfl⟩
          obtain ⟨ly, hly⟩ : ∃ ly, ys.length = ly := ⟨_, rfl⟩
          rw [hlx] at hvc HTK hsum hlx5
          rw [hly] at hsum hly5
          subst hvc
          have HSc := hide (show SlAt z1.drew _ _ from hrowc.slAt)
          have HSb := hide (HBS.out.below (show Below w.heap.size w z1.drew from HBz.out.drew))
          have HLEFT := hide (left_any z1.drew _ _ _ _ _ HRz.out.drew)
          rw [hly] at HLEFT
          have HAW := hide (awake_any z1.drew (ht.below HBz.out.drew h2))
          have hsi : (lx : Int) + (ly : Int) = (nb : Int) := by omega
          have hwi : IntKind.i64.wrap ((nb : Int)) = nb := IntWalk.i64_in _ (by omega)
          have hcut := run_cut_hk (P := Tryd.prog) .i64 Tryd.underlying28 size5 ab nb cb lx (by have := HSb.out.le.1; omega)
          have hlxn : lx ≤ nb := by omega
          clear hrowc hBz hlx hly hsum hly5 hlx5
          go_wp2_with fail
          refine wp_region_held_drew (S := fun w' => SlAt w' (.slice ab nb cb) bs ∧ SlAt w' (.slice aoc lx capc) xs) (by kernel_rfl) ⟨HSb.out, HSc.out⟩ (fun hHeld => ?_)
          refine wpAnyH_take (i := 0) (oi := { dst := some 71, op := Op.move (Operand.tmp 9), type := 28, pos := "outright.go:92", after := #[], guard := none }) (v := ?_) rfl (by kernel_rfl) (by kernel_rfl) (by kernel_rfl) (fun _ _ _ h => h) (Or.inl ⟨by rfl, ?_⟩) hHeld ?_
          rotate_left
          · intro w hSw; (try dsimp only at hSw); go_simp; first | done | with_reducible rfl
          try simp only [Act.put, List.setIfInBounds_toArray, List.set_cons_zero, List.set_cons_succ]
          refine wpAnyH_take (i := 1) (oi := { dst := some 72, op := Op.call { callee := Callee.builtin Builtin.len, args := #[Operand.tmp 71], argTypes := #[28] }, type := 3, pos := "outright.go:92", after := #[{ on := 0, ground := Ground.data }], guard := none }) (v := ?_) rfl (by kernel_rfl) (by kernel_rfl) (by kernel_rfl) (fun _ _ _ h => h) (Or.inl ⟨by rfl, ?_⟩) hHeld ?_
          rotate_left
          · intro w hSw; (try dsimp only at hSw); go_simp; first | done | with_reducible rfl
          try simp only [Act.put, List.setIfInBounds_toArray, List.set_cons_zero, List.set_cons_succ]
          refine wpAnyH_take (i := 2) (oi := { dst := some 73, op := Op.move (Operand.tmp 5), type := 38, pos := "outright.go:92", after := #[], guard := none }) (v := ?_) rfl (by kernel_rfl) (by kernel_rfl) (by kernel_rfl) (fun _ _ _ h => h) (Or.inl ⟨by rfl, ?_⟩) hHeld ?_
          rotate_left
          · intro w hSw; (try dsimp only at hSw); go_simp; first | done | with_reducible rfl
          try simp only [Act.put, List.setIfInBounds_toArray, List.set_cons_zero, List.set_cons_succ]
          refine wpAnyH_take (i := 5) (oi := { dst := some 76, op := Op.move (Operand.tmp 0), type := 28, pos := "outright.go:92", after := #[], guard := none }) (v := ?_) rfl (by kernel_rfl) (by kernel_rfl) (by kernel_rfl) (fun _ _ _ h => h) (Or.inl ⟨by rfl, ?_⟩) hHeld ?_
          rotate_left
          · intro w hSw; (try dsimp only at hSw); go_simp; first | done | with_reducible rfl
          try simp only [Act.put, List.setIfInBounds_toArray, List.set_cons_zero, List.set_cons_succ]
          refine wpAnyH_take (i := 6) (oi := { dst := some 77, op := Op.call { callee := Callee.builtin Builtin.len, args := #[Operand.tmp 76], argTypes := #[28] }, type := 3, pos := "outright.go:92", after := #[{ on := 5, ground := Ground.data }], guard := none }) (v := ?_) rfl (by kernel_rfl) (by kernel_rfl) (by kernel_rfl) (fun _ _ _ h => h) (Or.inl ⟨by rfl, ?_⟩) hHeld ?_
          rotate_left
          · intro w hSw; (try dsimp only at hSw); go_simp; first | done | with_reducible rfl
          try simp only [Act.put, List.setIfInBounds_toArray, List.set_cons_zero, List.set_cons_succ]
          refine wpAnyH_ready (rs := [3]) (by kernel_rfl) (by simp) ?_
          refine AllReadyH.cons (o := { dst := some 74, op := Op.call { callee := Callee.value (Operand.func 31), args := #[Operand.tmp 73], argTypes := #[38] }, type := 3, pos := "outright.go:92", after := #[{ on := 2, ground := Ground.data }], guard := none }) rfl (fun K hK => ?_) AllReadyH.nil
          clear hHeld
          go_simp
          refine HLEFT.out.mono ?_
          rintro e z2 ⟨rfl, rfl⟩
          dsimp only
          refine hK.out _ _ (⟨HSb.out, HSc.out⟩) (fun hHeld => ?_)
          clear hK K
          try simp only [Act.put, List.setIfInBounds_toArray, List.set_cons_zero, List.set_cons_succ]
          refine wpAnyH_take (i := 4) (oi := { dst := some 75, op := Op.binOp BinOp.add 3 (Operand.tmp 72) (Operand.tmp 74) 3, type := 3, pos := "outright.go:92", after := #[{ on := 1, ground := Ground.data }, { on := 3, ground := Ground.data }], guard := none }) (v := ?_) rfl (by kernel_rfl) (by kernel_rfl) (by kernel_rfl) (fun _ _ _ h => h) (Or.inl ⟨by rfl, ?_⟩) hHeld ?_
          rotate_left
          · intro w hSw; (try dsimp only at hSw); go_simp; first | done | with_reducible rfl
          try simp only [Act.put, List.setIfInBounds_toArray, List.set_cons_zero, List.set_cons_succ]
          refine wpAnyH_take (i := 7) (oi := { dst := some 78, op := Op.binOp BinOp.eql 3 (Operand.tmp 75) (Operand.tmp 77) 3, type := 4, pos := "outright.go:92", after := #[{ on := 4, ground := Ground.data }, { on := 6, ground := Ground.data }], guard := none }) (v := ?_) rfl (by kernel_rfl) (by kernel_rfl) (by kernel_rfl) (fun _ _ _ h => h) (Or.inl ⟨by rfl, ?_⟩) hHeld ?_
          rotate_left
          · intro w hSw; (try dsimp only at hSw); go_simp; first | done | with_reducible rfl
          try simp only [Act.put, List.setIfInBounds_toArray, List.set_cons_zero, List.set_cons_succ]
          refine wpAnyH_take (i := 8) (oi := { dst := some 79, op := Op.move (Operand.tmp 78), type := 4, pos := "outright.go:92", after := #[{ on := 7, ground := Ground.data }, { on := 3, ground := Ground.chain }], guard := none }) (v := ?_) rfl (by kernel_rfl) (by kernel_rfl) (by kernel_rfl) (fun _ _ _ h => h) (Or.inl ⟨by rfl, ?_⟩) hHeld ?_
          rotate_left
          · intro w hSw; (try dsimp only at hSw); go_simp; first | done | with_reducible rfl
          try simp only [Act.put, List.setIfInBounds_toArray, List.set_cons_zero, List.set_cons_succ]
          refine wpAnyH_take (i := 9) (oi := { dst := some 80, op := Op.move (Operand.tmp 0), type := 28, pos := "outright.go:92", after := #[{ on := 8, ground := Ground.guard }], guard := some (8, true) }) (v := ?_) rfl (by kernel_rfl) (by kernel_rfl) (by kernel_rfl) (fun _ _ _ h => h) (Or.inl ⟨by rfl, ?_⟩) hHeld ?_
          rotate_left
          · intro w hSw; (try dsimp only at hSw); go_simp; first | done | with_reducible rfl
          try simp only [Act.put, List.setIfInBounds_toArray, List.set_cons_zero, List.set_cons_succ]
          refine wpAnyH_take (i := 10) (oi := { dst := some 81, op := Op.move (Operand.tmp 9), type := 28, pos := "outright.go:92", after := #[{ on := 8, ground := Ground.guard }], guard := some (8, true) }) (v := ?_) rfl (by kernel_rfl) (by kernel_rfl) (by kernel_rfl) (fun _ _ _ h => h) (Or.inl ⟨by rfl, ?_⟩) hHeld ?_
          rotate_left
          · intro w hSw; (try dsimp only at hSw); go_simp; first | done | with_reducible rfl
          try simp only [Act.put, List.setIfInBounds_toArray, List.set_cons_zero, List.set_cons_succ]
          refine wpAnyH_take (i := 11) (oi := { dst := some 82, op := Op.call { callee := Callee.builtin Builtin.len, args := #[Operand.tmp 81], argTypes := #[28] }, type := 3, pos := "outright.go:92", after := #[{ on := 10, ground := Ground.data }, { on := 8, ground := Ground.guard }], guard := some (8, true) }) (v := ?_) rfl (by kernel_rfl) (by kernel_rfl) (by kernel_rfl) (fun _ _ _ h => h) (Or.inl ⟨by rfl, ?_⟩) hHeld ?_
          rotate_left
          · intro w hSw; (try dsimp only at hSw); go_simp; first | done | with_reducible rfl
          try simp only [Act.put, List.setIfInBounds_toArray, List.set_cons_zero, List.set_cons_succ]
          refine wpAnyH_take (i := 12) (oi := { dst := some 83, op := Op.slice 28 (Operand.tmp 80) none (some (Operand.tmp 82)) none, type := 28, pos := "outright.go:92", after := #[{ on := 9, ground := Ground.data }, { on := 11, ground := Ground.data }, { on := 8, ground := Ground.guard }], guard := some (8, true) }) (v := ?_) rfl (by kernel_rfl) (by kernel_rfl) (by kernel_rfl) (fun _ _ _ h => h) (Or.inl ⟨by rfl, ?_⟩) hHeld ?_
          rotate_left
          · intro w hSw; (try dsimp only at hSw); go_simp; first | done | with_reducible rfl
          try simp only [Act.put, List.setIfInBounds_toArray, List.set_cons_zero, List.set_cons_succ]
          refine wpAnyH_take (i := 13) (oi := { dst := some 84, op := Op.convert 28 9 (Operand.tmp 83), type := 9, pos := "outright.go:92", after := #[{ on := 12, ground := Ground.data }, { on := 8, ground := Ground.guard }], guard := some (8, true) }) (v := ?_) rfl (by kernel_rfl) (by kernel_rfl) (by kernel_rfl) (fun _ _ _ h => h) (Or.inl ⟨by rfl, ?_⟩) hHeld ?_
          rotate_left
          · intro w hSw; (try dsimp only at hSw); (have hcb := (hSw.1.front' (m := lx) hlxn).string (P := Tryd.prog) 28 5 9 Tryd.underlying28 Tryd.underlying5 Tryd.underlying9); (rw [HTK.out] at hcb); go_simp; first | done | with_reducible rfl
          try simp only [Act.put, List.setIfInBounds_toArray, List.set_cons_zero, List.set_cons_succ]
          refine wpAnyH_take (i := 14) (oi := { dst := some 85, op := Op.move (Operand.tmp 9), type := 28, pos := "outright.go:92", after := #[{ on := 8, ground := Ground.guard }], guard := some (8, true) }) (v := ?_) rfl (by kernel_rfl) (by kernel_rfl) (by kernel_rfl) (fun _ _ _ h => h) (Or.inl ⟨by rfl, ?_⟩) hHeld ?_
          rotate_left
          · intro w hSw; (try dsimp only at hSw); go_simp; first | done | with_reducible rfl
          try simp only [Act.put, List.setIfInBounds_toArray, List.set_cons_zero, List.set_cons_succ]
          refine wpAnyH_take (i := 15) (oi := { dst := some 86, op := Op.convert 28 9 (Operand.tmp 85), type := 9, pos := "outright.go:92", after := #[{ on := 14, ground := Ground.data }, { on := 8, ground := Ground.guard }], guard := some (8, true) }) (v := ?_) rfl (by kernel_rfl) (by kernel_rfl) (by kernel_rfl) (fun _ _ _ h => h) (Or.inl ⟨by rfl, ?_⟩) hHeld ?_
          rotate_left
          · intro w hSw; (try dsimp only at hSw); (have hca := hSw.2.string (P := Tryd.prog) 28 5 9 Tryd.underlying28 Tryd.underlying5 Tryd.underlying9); go_simp; first | done | with_reducible rfl
          try simp only [Act.put, List.setIfInBounds_toArray, List.set_cons_zero, List.set_cons_succ]
          refine wpAnyH_take (i := 16) (oi := { dst := some 87, op := Op.binOp BinOp.eql 9 (Operand.tmp 84) (Operand.tmp 86) 9, type := 4, pos := "outright.go:92", after := #[{ on := 13, ground := Ground.data }, { on := 15, ground := Ground.data }, { on := 8, ground := Ground.guard }], guard := some (8, true) }) (v := ?_) rfl (by kernel_rfl) (by kernel_rfl) (by kernel_rfl) (fun _ _ _ h => h) (Or.inl ⟨by rfl, ?_⟩) hHeld ?_
          rotate_left
          · intro w hSw; (try dsimp only at hSw); go_simp; first | done | with_reducible rfl
          try simp only [Act.put, List.setIfInBounds_toArray, List.set_cons_zero, List.set_cons_succ]
          refine wpAnyH_take (i := 17) (oi := { dst := some 88, op := Op.pick (Operand.tmp 79) (Operand.tmp 87) (Operand.const (Value.bool false)), type := 4, pos := "outright.go:92", after := #[{ on := 8, ground := Ground.data }, { on := 16, ground := Ground.data }], guard := none }) (v := ?_) rfl (by kernel_rfl) (by kernel_rfl) (by kernel_rfl) (fun _ _ _ h => h) (Or.inl ⟨by rfl, ?_⟩) hHeld ?_
          rotate_left
          · intro w hSw; (try dsimp only at hSw); go_simp; first | done | with_reducible rfl
          try simp only [Act.put, List.setIfInBounds_toArray, List.set_cons_zero, List.set_cons_succ]
          refine wpAnyH_take (i := 18) (oi := { dst := some 89, op := Op.move (Operand.tmp 88), type := 4, pos := "outright.go:92", after := #[{ on := 17, ground := Ground.data }, { on := 8, ground := Ground.chain }], guard := none }) (v := ?_) rfl (by kernel_rfl) (by kernel_rfl) (by kernel_rfl) (fun _ _ _ h => h) (Or.inl ⟨by rfl, ?_⟩) hHeld ?_
          rotate_left
          · intro w hSw; (try dsimp only at hSw); go_simp; first | done | with_reducible rfl
          try simp only [Act.put, List.setIfInBounds_toArray, List.set_cons_zero, List.set_cons_succ]
          refine wpAnyH_ready (rs := [19]) (by kernel_rfl) (by simp) ?_
          refine AllReadyH.cons (o := { dst := some 90, op := Op.call { callee := Callee.value (Operand.func 12), args := #[], argTypes := #[] }, type := 4, pos := "outright.go:92", after := #[{ on := 18, ground := Ground.chain }, { on := 18, ground := Ground.guard }], guard := some (18, true) }) rfl (fun K hK => ?_) AllReadyH.nil
          clear hHeld
          go_simp
          refine HAW.out.mono ?_
          rintro e z3 ⟨rfl, hB3⟩
          have HB3 := hide hB3
          dsimp only
          refine hK.out _ _ (⟨HSb.out.below hB3, HSc.out.below hB3⟩) (fun hHeld => ?_)
          clear hK K
          try simp only [Act.put, List.setIfInBounds_toArray, List.set_cons_zero, List.set_cons_succ]
          refine wpAnyH_take (i := 20) (oi := { dst := some 91, op := Op.pick (Operand.tmp 89) (Operand.tmp 90) (Operand.const (Value.bool false)), type := 4, pos := "outright.go:92", after := #[{ on := 18, ground := Ground.data }, { on := 19, ground := Ground.data }], guard := none }) (v := ?_) rfl (by kernel_rfl) (by kernel_rfl) (by kernel_rfl) (fun _ _ _ h => h) (Or.inl ⟨by rfl, ?_⟩) hHeld ?_
          rotate_left
          · intro w hSw; (try dsimp only at hSw); go_simp; first | done | with_reducible rfl
          try simp only [Act.put, List.setIfInBounds_toArray, List.set_cons_zero, List.set_cons_succ]
          refine wpAnyH_take (i := 21) (oi := { dst := some 4, op := Op.assign (Operand.tmp 91), type := 4, pos := "outright.go:92", after := #[{ on := 20, ground := Ground.data }, { on := 19, ground := Ground.chain }, { on := 0, ground := Ground.phase }, { on := 1, ground := Ground.phase }, { on := 2, ground := Ground.phase }, { on := 3, ground := Ground.phase }, { on := 4, ground := Ground.phase }, { on := 5, ground := Ground.phase }, { on := 6, ground := Ground.phase }, { on := 7, ground := Ground.phase }, { on := 8, ground := Ground.phase }, { on := 9, ground := Ground.phase }, { on := 10, ground := Ground.phase }, { on := 11, ground := Ground.phase }, { on := 12, ground := Ground.phase }, { on := 13, ground := Ground.phase }, { on := 14, ground := Ground.phase }, { on := 15, ground := Ground.phase }, { on := 16, ground := Ground.phase }, { on := 17, ground := Ground.phase }, { on := 18, ground := Ground.phase }, { on := 19, ground := Ground.phase }, { on := 20, ground := Ground.phase }], guard := none }) (v := ?_) rfl (by kernel_rfl) (by kernel_rfl) (by kernel_rfl) (fun _ _ _ h => h) (Or.inl ⟨by rfl, ?_⟩) hHeld ?_
          rotate_left
          · intro w hSw; (try dsimp only at hSw); go_simp; first | done | with_reducible rfl
          try simp only [Act.put, List.setIfInBounds_toArray, List.set_cons_zero, List.set_cons_succ]
          refine wpAnyH_done (by kernel_rfl) ?_ _
          go_wp2_with fail
          go_ret
          exact ⟨rfl, HBz.out.drew.trans (HB3.out.mono HBz.out.size)⟩
        | some rest =>
          obtain ⟨hK, _, v, rfl, hf, hN⟩ := hp.some hr
          clear hp
          obtain ⟨y, hy⟩ : ∃ y, cutTS f.most ys = some y := by cases h : cutTS f.most ys with | none => rw [h] at hr; cases hr | some y => exact ⟨y, rfl⟩
          obtain ⟨yt, yr⟩ := y
          obtain ⟨hv2, hv3⟩ := cutTS_form f.most ys yt yr HYR.out hy
          rw [hy] at hr hf
          obtain rfl : yr = rest := by injection hr
          have hsz := size_str' yt ys HYR.out hv2
          simp only [Option.map_some, Option.getD_some] at hf
          obtain ⟨vs, hvs⟩ : ∃ vs, strOfNums yt = vs := ⟨_, rfl⟩
          rw [hvs] at hf hv2 hsz
          subst hf
          have HFM : Tuck (fieldS (⟨f.kind, f.most, f.more, f.n, vs⟩ : Fld) ++ yr = ys) := tuck (by rw [fieldS_3 (⟨f.kind, f.most, f.more, f.n, vs⟩ : Fld) HD0.out HD1.out HD2.out HD3.out]; exact hv2)
          have HS2 := hide hK.size
          have hrow2 : u2.heap[wr.heap.size]? = some (.cells f.cells.toArray 32 (0, 0)) := (hK.block _ HSu.out (fun h => by have := HFR.out _ h; have := HW.out.hB; omega)).trans HROW.out
          have hcc : u2.cell? ⟨wr.heap.size, 4, none⟩ = some (.string f.s) := (cell_of_row u2 _ 4 _ _ _ hrow2).trans rfl
          have hff := frozen_of_row u2 wr.heap.size 4 _ _ hrow2
          have HW2 := hide (HWu.out.keep hK (fun k h1 h2 => by simp only [iv] at h1; have := HFR.out k h2; omega))
          have HB2 := hide (hK.through HBu.out (fun k h => (HFR.out k h).1) HBu.out.size)
          have hKs : Keep (fun k => k = wr.heap.size) u2 (u2.setCell ⟨wr.heap.size, 4, none⟩ (.string vs)) := Keep.set _ _ _ rfl
          have HR3 := hide (hN.keep hKs (fun k h1 h2 => by have := HFR.out k h1; have := HW.out.hB; omega))
          have HW3 := hide (HW2.out.keep hKs (fun k h1 h2 => by simp only [iv] at h1; omega))
          have HB3 := hide (hKs.through HB2.out (fun k h => by rw [h]; exact HBr.out.size) HB2.out.size)
          have hrow3 : (u2.setCell ⟨wr.heap.size, 4, none⟩ (.string vs)).heap[wr.heap.size]? = some (.cells (⟨f.kind, f.most, f.more, f.n, vs⟩ : Fld).cells.toArray 32 (0, 0)) := by rw [heap_setCell_same u2 wr.heap.size 4 _ _ _ hrow2]; rfl
          have HT3 := hide (ht.below HB3.out h2)
          have HWA := hide (write_any (⟨f.kind, f.most, f.more, f.n, vs⟩ : Fld) ⟨HOKf.out.1, by show vs.size ≤ maxLen; have := HYL.out; unfold maxLen; omega, HOKf.out.2.2⟩ _ lo (iv lo wr.heap.size) gw xs HT3.out (by omega) HW3.out (by show xs.length + 10 + vs.size ≤ _; have := HXL.out; have := HYL.out; omega))
          unfold Fld.val at HWA
          dsimp only at HWA
          have q0 : (u2.setCell ⟨wr.heap.size, 4, none⟩ (.string vs)).cell? ⟨wr.heap.size, 0, none⟩ = some (.int .i64 f.kind) := (cell_of_row _ _ 0 _ _ _ hrow3).trans rfl
          have q1 : (u2.setCell ⟨wr.heap.size, 4, none⟩ (.string vs)).cell? ⟨wr.heap.size, 1, none⟩ = some (.int .i64 f.most) := (cell_of_row _ _ 1 _ _ _ hrow3).trans rfl
          have q2 : (u2.setCell ⟨wr.heap.size, 4, none⟩ (.string vs)).cell? ⟨wr.heap.size, 2, none⟩ = some (.int .i64 f.more) := (cell_of_row _ _ 2 _ _ _ hrow3).trans rfl
          have q3 : (u2.setCell ⟨wr.heap.size, 4, none⟩ (.string vs)).cell? ⟨wr.heap.size, 3, none⟩ = some (.int .u64 (f.n : Nat)) := (cell_of_row _ _ 3 _ _ _ hrow3).trans rfl
          have q4 : (u2.setCell ⟨wr.heap.size, 4, none⟩ (.string vs)).cell? ⟨wr.heap.size, 4, none⟩ = some (.string vs) := (cell_of_row _ _ 4 _ _ _ hrow3).trans rfl
          have HU3 : Hid (∀ U, U = u2.setCell ⟨wr.heap.size, 4, none⟩ (.string vs) → True) := hide (fun _ _ => trivial)
          clear hK hN hKs hrow2 hrow3 HW2 HB2 hr HU3
          go_wp2_with fail
          refine (err_any _ _ _ _ _ _ HR3.out).mono ?_
          rintro e u3 ⟨rfl, rfl⟩
          rw [show errOf false = 0 from rfl]
          clear hcc hff
          go_wp2_with fail
          refine HWA.out.mono ?_
          intro e u4 hp
          obtain ⟨rfl, hK4, hN4⟩ := hp
          have hs34 : wr.heap.size ≤ u4.heap.size := Nat.le_trans (Nat.le_of_lt HSu.out) (Nat.le_trans HS2.out (by have := hK4.size; simpa using this))
          have HW4 := hide (hN4.mono (G := iv lo u4.heap.size) (fun k h => by rcases h with h | h; exact ⟨h.1, Nat.lt_of_lt_of_le h.2 hs34⟩; exact ⟨Nat.le_trans (Nat.le_trans HW.out.hB (Nat.le_of_lt (Nat.lt_of_lt_of_le HSu.out HS2.out))) (by simpa using h.1), h.2⟩) (fun k h => h))
          have HR4 := hide (HR3.out.keep hK4 (fun k h1 h2 => by simp only [iv] at h2; have := HFR.out k h1; omega))
          have HB4 := hide (hK4.through HB3.out (fun k h => by simp only [iv] at h; omega) HB3.out.size)
          have HEQ4 : Tuck ((xs ++ fieldS (⟨f.kind, f.most, f.more, f.n, vs⟩ : Fld)) ++ yr = bs) := tuck (by rw [List.append_assoc, HFM.out, HEQ.out])
          clear hK4 hN4 HR3 HW3 HB3 HWA q0 q1 q2 q3 q4 hs34
          go_wp2_with fail
          go_roundw
          case rel => exact ⟨k + 1, by omega, by go_num, _, _, HEQ4, HR4, HW4, HB4⟩
          case measure => simp [intOf]; omega
      · have h0 : ¬ f.kd = 0 := by rw [hkd]; exact hc0
        have h1 : ¬ f.kd = 1 := by rw [hkd]; exact hc1
        have h2' : ¬ f.kd = 2 := by rw [hkd]; exact hc2
        have h3 : ¬ f.kd = 3 := by rw [hkd]; exact hc3
        have HD0 := hide h0
        clear h0
        have HD1 := hide h1
        clear h1
        have HD2 := hide h2'
        clear h2'
        have HD3 := hide h3
        clear h3
        have HA := hide (rr_go f.most u1 B0 Fr gr ys HRu.out (by have := HYL.out; omega))
        skip
        go_wp2_with fail
        refine HA.out.mono ?_
        intro e u2 hp
        clear HA
        cases hr : cutRS f.most ys with
        | none =>
          obtain ⟨hK, _, rfl, hN⟩ := hp.none hr
          clear hp hr
          have HS2 := hide hK.size
          have hrow2 : u2.heap[wr.heap.size]? = some (.cells f.cells.toArray 32 (0, 0)) := (hK.block _ HSu.out (fun h => by have := HFR.out _ h; have := HW.out.hB; omega)).trans HROW.out
          have hcc : u2.cell? ⟨wr.heap.size, 4, none⟩ = some (.string f.s) := (cell_of_row u2 _ 4 _ _ _ hrow2).trans rfl
          have hff := frozen_of_row u2 wr.heap.size 4 _ _ hrow2
          have HW2 := hide (HWu.out.keep hK (fun k h1 h2 => by simp only [iv] at h1; have := HFR.out k h2; omega))
          have HB2 := hide (hK.through HBu.out (fun k h => (HFR.out k h).1) HBu.out.size)
          have hst0 := (nil_slAt u2).string (P := Tryd.prog) 28 5 9 Tryd.underlying28 Tryd.underlying5 Tryd.underlying9
          rw [show strOfNums [] = (⟨#[]⟩ : ByteArray) from by decide] at hst0
          have hKs : Keep (fun k => k = wr.heap.size) u2 (u2.setCell ⟨wr.heap.size, 4, none⟩ (.string ⟨#[]⟩)) := Keep.set _ _ _ rfl
          have HR3 := hide (hN.keep hKs (fun k h1 h2 => by have := HFR.out k h1; have := HW.out.hB; omega))
          have HW3 := hide (HW2.out.keep hKs (fun k h1 h2 => by simp only [iv] at h1; omega))
          have HB3 := hide (hKs.through HB2.out (fun k h => by rw [h]; exact HBr.out.size) HB2.out.size)
          clear hK hN hKs hrow2 HW2 HB2
          go_wp2_with fail
          refine (err_any _ _ _ _ _ _ HR3.out).mono ?_
          rintro e u3 ⟨rfl, rfl⟩
          rw [show errOf true = 2 from rfl]
          clear hcc hff
          have hly5 : ys.length ≤ 20000 := by have := congrArg List.length HEQ.out; simp at this; have := HNB.out; omega
          have hlx5 : xs.length ≤ 20000 := by have := congrArg List.length HEQ.out; simp at this; have := HNB.out; omega
          have HTK : Tuck (bs.take xs.length = xs) := tuck (by rw [← HEQ.out, List.take_left' rfl])
          have hsum : xs.length + ys.length = nb := by have := congrArg List.length HEQ.out; simp at this; have := HNB.out; omega
          go_wp2_with fail
          refine (bytes_any _ _ _ _ _ HW3.out (by omega)).mono ?_
          rintro e z1 ⟨vc, rfl, hrowc, hBz⟩
          have HRz := hide (HR3.out.keep (Keep.of_below hBz : Keep (fun _ => False) _ z1) (fun _ _ => id))
          have HBz := hide (HB3.out.trans (hBz.mono HB3.out.size))
          obtain ⟨aoc, capc, hvc⟩ := hrowc.slAt.len
          obtain ⟨lx, hlx⟩ : ∃ lx, xs.length = lx := ⟨_, rfl⟩
          obtain ⟨ly, hly⟩ : ∃ ly, ys.length = ly := ⟨_, rfl⟩
          rw [hlx] at hvc HTK hsum hlx5
          rw [hly] at hsum hly5
          subst hvc
          have HSc := hide (show SlAt z1.drew _ _ from hrowc.slAt)
          have HSb := hide (HBS.out.below (show Below w.heap.size w z1.drew from HBz.out.drew))
          have HLEFT := hide (left_any z1.drew _ _ _ _ _ HRz.out.drew)
          rw [hly] at HLEFT
          have HAW := hide (awake_any z1.drew (ht.below HBz.out.drew h2))
          have hsi : (lx : Int) + (ly : Int) = (nb : Int) := by omega
          have hwi : IntKind.i64.wrap ((nb : Int)) = nb := IntWalk.i64_in _ (by omega)
          have hcut := run_cut_hk (P := Tryd.prog) .i64 Tryd.underlying28 size5 ab nb cb lx (by have := HSb.out.le.1; omega)
          have hlxn : lx ≤ nb := by omega
          clear hrowc hBz hlx hly hsum hly5 hlx5
          go_wp2_with fail
          refine wp_region_held_drew (S := fun w' => SlAt w' (.slice ab nb cb) bs ∧ SlAt w' (.slice aoc lx capc) xs) (by kernel_rfl) ⟨HSb.out, HSc.out⟩ (fun hHeld => ?_)
          refine wpAnyH_take (i := 0) (oi := { dst := some 71, op := Op.move (Operand.tmp 9), type := 28, pos := "outright.go:92", after := #[], guard := none }) (v := ?_) rfl (by kernel_rfl) (by kernel_rfl) (by kernel_rfl) (fun _ _ _ h => h) (Or.inl ⟨by rfl, ?_⟩) hHeld ?_
          rotate_left
          · intro w hSw; (try dsimp only at hSw); go_simp; first | done | with_reducible rfl
          try simp only [Act.put, List.setIfInBounds_toArray, List.set_cons_zero, List.set_cons_succ]
          refine wpAnyH_take (i := 1) (oi := { dst := some 72, op := Op.call { callee := Callee.builtin Builtin.len, args := #[Operand.tmp 71], argTypes := #[28] }, type := 3, pos := "outright.go:92", after := #[{ on := 0, ground := Ground.data }], guard := none }) (v := ?_) rfl (by kernel_rfl) (by kernel_rfl) (by kernel_rfl) (fun _ _ _ h => h) (Or.inl ⟨by rfl, ?_⟩) hHeld ?_
          rotate_left
          · intro w hSw; (try dsimp only at hSw); go_simp; first | done | with_reducible rfl
          try simp only [Act.put, List.setIfInBounds_toArray, List.set_cons_zero, List.set_cons_succ]
          refine wpAnyH_take (i := 2) (oi := { dst := some 73, op := Op.move (Operand.tmp 5), type := 38, pos := "outright.go:92", after := #[], guard := none }) (v := ?_) rfl (by kernel_rfl) (by kernel_rfl) (by kernel_rfl) (fun _ _ _ h => h) (Or.inl ⟨by rfl, ?_⟩) hHeld ?_
          rotate_left
          · intro w hSw; (try dsimp only at hSw); go_simp; first | done | with_reducible rfl
          try simp only [Act.put, List.setIfInBounds_toArray, List.set_cons_zero, List.set_cons_succ]
          refine wpAnyH_take (i := 5) (oi := { dst := some 76, op := Op.move (Operand.tmp 0), type := 28, pos := "outright.go:92", after := #[], guard := none }) (v := ?_) rfl (by kernel_rfl) (by kernel_rfl) (by kernel_rfl) (fun _ _ _ h => h) (Or.inl ⟨by rfl, ?_⟩) hHeld ?_
          rotate_left
          · intro w hSw; (try dsimp only at hSw); go_simp; first | done | with_reducible rfl
          try simp only [Act.put, List.setIfInBounds_toArray, List.set_cons_zero, List.set_cons_succ]
          refine wpAnyH_take (i := 6) (oi := { dst := some 77, op := Op.call { callee := Callee.builtin Builtin.len, args := #[Operand.tmp 76], argTypes := #[28] }, type := 3, pos := "outright.go:92", after := #[{ on := 5, ground := Ground.data }], guard := none }) (v := ?_) rfl (by kernel_rfl) (by kernel_rfl) (by kernel_rfl) (fun _ _ _ h => h) (Or.inl ⟨by rfl, ?_⟩) hHeld ?_
          rotate_left
          · intro w hSw; (try dsimp only at hSw); go_simp; first | done | with_reducible rfl
          try simp only [Act.put, List.setIfInBounds_toArray, List.set_cons_zero, List.set_cons_succ]
          refine wpAnyH_ready (rs := [3]) (by kernel_rfl) (by simp) ?_
          refine AllReadyH.cons (o := { dst := some 74, op := Op.call { callee := Callee.value (Operand.func 31), args := #[Operand.tmp 73], argTypes := #[38] }, type := 3, pos := "outright.go:92", after := #[{ on := 2, ground := Ground.data }], guard := none }) rfl (fun K hK => ?_) AllReadyH.nil
          clear hHeld
          go_simp
          refine HLEFT.out.mono ?_
          rintro e z2 ⟨rfl, rfl⟩
          dsimp only
          refine hK.out _ _ (⟨HSb.out, HSc.out⟩) (fun hHeld => ?_)
          clear hK K
          try simp only [Act.put, List.setIfInBounds_toArray, List.set_cons_zero, List.set_cons_succ]
          refine wpAnyH_take (i := 4) (oi := { dst := some 75, op := Op.binOp BinOp.add 3 (Operand.tmp 72) (Operand.tmp 74) 3, type := 3, pos := "outright.go:92", after := #[{ on := 1, ground := Ground.data }, { on := 3, ground := Ground.data }], guard := none }) (v := ?_) rfl (by kernel_rfl) (by kernel_rfl) (by kernel_rfl) (fun _ _ _ h => h) (Or.inl ⟨by rfl, ?_⟩) hHeld ?_
          rotate_left
          · intro w hSw; (try dsimp only at hSw); go_simp; first | done | with_reducible rfl
          try simp only [Act.put, List.setIfInBounds_toArray, List.set_cons_zero, List.set_cons_succ]
          refine wpAnyH_take (i := 7) (oi := { dst := some 78, op := Op.binOp BinOp.eql 3 (Operand.tmp 75) (Operand.tmp 77) 3, type := 4, pos := "outright.go:92", after := #[{ on := 4, ground := Ground.data }, { on := 6, ground := Ground.data }], guard := none }) (v := ?_) rfl (by kernel_rfl) (by kernel_rfl) (by kernel_rfl) (fun _ _ _ h => h) (Or.inl ⟨by rfl, ?_⟩) hHeld ?_
          rotate_left
          · intro w hSw; (try dsimp only at hSw); go_simp; first | done | with_reducible rfl
          try simp only [Act.put, List.setIfInBounds_toArray, List.set_cons_zero, List.set_cons_succ]
          refine wpAnyH_take (i := 8) (oi := { dst := some 79, op := Op.move (Operand.tmp 78), type := 4, pos := "outright.go:92", after := #[{ on := 7, ground := Ground.data }, { on := 3, ground := Ground.chain }], guard := none }) (v := ?_) rfl (by kernel_rfl) (by kernel_rfl) (by kernel_rfl) (fun _ _ _ h => h) (Or.inl ⟨by rfl, ?_⟩) hHeld ?_
          rotate_left
          · intro w hSw; (try dsimp only at hSw); go_simp; first | done | with_reducible rfl
          try simp only [Act.put, List.setIfInBounds_toArray, List.set_cons_zero, List.set_cons_succ]
          refine wpAnyH_take (i := 9) (oi := { dst := some 80, op := Op.move (Operand.tmp 0), type := 28, pos := "outright.go:92", after := #[{ on := 8, ground := Ground.guard }], guard := some (8, true) }) (v := ?_) rfl (by kernel_rfl) (by kernel_rfl) (by kernel_rfl) (fun _ _ _ h => h) (Or.inl ⟨by rfl, ?_⟩) hHeld ?_
          rotate_left
          · intro w hSw; (try dsimp only at hSw); go_simp; first | done | with_reducible rfl
          try simp only [Act.put, List.setIfInBounds_toArray, List.set_cons_zero, List.set_cons_succ]
          refine wpAnyH_take (i := 10) (oi := { dst := some 81, op := Op.move (Operand.tmp 9), type := 28, pos := "outright.go:92", after := #[{ on := 8, ground := Ground.guard }], guard := some (8, true) }) (v := ?_) rfl (by kernel_rfl) (by kernel_rfl) (by kernel_rfl) (fun _ _ _ h => h) (Or.inl ⟨by rfl, ?_⟩) hHeld ?_
          rotate_left
          · intro w hSw; (try dsimp only at hSw); go_simp; first | done | with_reducible rfl
          try simp only [Act.put, List.setIfInBounds_toArray, List.set_cons_zero, List.set_cons_succ]
          refine wpAnyH_take (i := 11) (oi := { dst := some 82, op := Op.call { callee := Callee.builtin Builtin.len, args := #[Operand.tmp 81], argTypes := #[28] }, type := 3, pos := "outright.go:92", after := #[{ on := 10, ground := Ground.data }, { on := 8, ground := Ground.guard }], guard := some (8, true) }) (v := ?_) rfl (by kernel_rfl) (by kernel_rfl) (by kernel_rfl) (fun _ _ _ h => h) (Or.inl ⟨by rfl, ?_⟩) hHeld ?_
          rotate_left
          · intro w hSw; (try dsimp only at hSw); go_simp; first | done | with_reducible rfl
          try simp only [Act.put, List.setIfInBounds_toArray, List.set_cons_zero, List.set_cons_succ]
          refine wpAnyH_take (i := 12) (oi := { dst := some 83, op := Op.slice 28 (Operand.tmp 80) none (some (Operand.tmp 82)) none, type := 28, pos := "outright.go:92", after := #[{ on := 9, ground := Ground.data }, { on := 11, ground := Ground.data }, { on := 8, ground := Ground.guard }], guard := some (8, true) }) (v := ?_) rfl (by kernel_rfl) (by kernel_rfl) (by kernel_rfl) (fun _ _ _ h => h) (Or.inl ⟨by rfl, ?_⟩) hHeld ?_
          rotate_left
          · intro w hSw; (try dsimp only at hSw); go_simp; first | done | with_reducible rfl
          try simp only [Act.put, List.setIfInBounds_toArray, List.set_cons_zero, List.set_cons_succ]
          refine wpAnyH_take (i := 13) (oi := { dst := some 84, op := Op.convert 28 9 (Operand.tmp 83), type := 9, pos := "outright.go:92", after := #[{ on := 12, ground := Ground.data }, { on := 8, ground := Ground.guard }], guard := some (8, true) }) (v := ?_) rfl (by kernel_rfl) (by kernel_rfl) (by kernel_rfl) (fun _ _ _ h => h) (Or.inl ⟨by rfl, ?_⟩) hHeld ?_
          rotate_left
          · intro w hSw; (try dsimp only at hSw); (have hcb := (hSw.1.front' (m := lx) hlxn).string (P := Tryd.prog) 28 5 9 Tryd.underlying28 Tryd.underlying5 Tryd.underlying9); (rw [HTK.out] at hcb); go_simp; first | done | with_reducible rfl
          try simp only [Act.put, List.setIfInBounds_toArray, List.set_cons_zero, List.set_cons_succ]
          refine wpAnyH_take (i := 14) (oi := { dst := some 85, op := Op.move (Operand.tmp 9), type := 28, pos := "outright.go:92", after := #[{ on := 8, ground := Ground.guard }], guard := some (8, true) }) (v := ?_) rfl (by kernel_rfl) (by kernel_rfl) (by kernel_rfl) (fun _ _ _ h => h) (Or.inl ⟨by rfl, ?_⟩) hHeld ?_
          rotate_left
          · intro w hSw; (try dsimp only at hSw); go_simp; first | done | with_reducible rfl
          try simp only [Act.put, List.setIfInBounds_toArray, List.set_cons_zero, List.set_cons_succ]
          refine wpAnyH_take (i := 15) (oi := { dst := some 86, op := Op.convert 28 9 (Operand.tmp 85), type := 9, pos := "outright.go:92", after := #[{ on := 14, ground := Ground.data }, { on := 8, ground := Ground.guard }], guard := some (8, true) }) (v := ?_) rfl (by kernel_rfl) (by kernel_rfl) (by kernel_rfl) (fun _ _ _ h => h) (Or.inl ⟨by rfl, ?_⟩) hHeld ?_
          rotate_left
          · intro w hSw; (try dsimp only at hSw); (have hca := hSw.2.string (P := Tryd.prog) 28 5 9 Tryd.underlying28 Tryd.underlying5 Tryd.underlying9); go_simp; first | done | with_reducible rfl
          try simp only [Act.put, List.setIfInBounds_toArray, List.set_cons_zero, List.set_cons_succ]
          refine wpAnyH_take (i := 16) (oi := { dst := some 87, op := Op.binOp BinOp.eql 9 (Operand.tmp 84) (Operand.tmp 86) 9, type := 4, pos := "outright.go:92", after := #[{ on := 13, ground := Ground.data }, { on := 15, ground := Ground.data }, { on := 8, ground := Ground.guard }], guard := some (8, true) }) (v := ?_) rfl (by kernel_rfl) (by kernel_rfl) (by kernel_rfl) (fun _ _ _ h => h) (Or.inl ⟨by rfl, ?_⟩) hHeld ?_
          rotate_left
          · intro w hSw; (try dsimp only at hSw); go_simp; first | done | with_reducible rfl
          try simp only [Act.put, List.setIfInBounds_toArray, List.set_cons_zero, List.set_cons_succ]
          refine wpAnyH_take (i := 17) (oi := { dst := some 88, op := Op.pick (Operand.tmp 79) (Operand.tmp 87) (Operand.const (Value.bool false)), type := 4, pos := "outright.go:92", after := #[{ on := 8, ground := Ground.data }, { on := 16, ground := Ground.data }], guard := none }) (v := ?_) rfl (by kernel_rfl) (by kernel_rfl) (by kernel_rfl) (fun _ _ _ h => h) (Or.inl ⟨by rfl, ?_⟩) hHeld ?_
          rotate_left
          · intro w hSw; (try dsimp only at hSw); go_simp; first | done | with_reducible rfl
          try simp only [Act.put, List.setIfInBounds_toArray, List.set_cons_zero, List.set_cons_succ]
          refine wpAnyH_take (i := 18) (oi := { dst := some 89, op := Op.move (Operand.tmp 88), type := 4, pos := "outright.go:92", after := #[{ on := 17, ground := Ground.data }, { on := 8, ground := Ground.chain }], guard := none }) (v := ?_) rfl (by kernel_rfl) (by kernel_rfl) (by kernel_rfl) (fun _ _ _ h => h) (Or.inl ⟨by rfl, ?_⟩) hHeld ?_
          rotate_left
          · intro w hSw; (try dsimp only at hSw); go_simp; first | done | with_reducible rfl
          try simp only [Act.put, List.setIfInBounds_toArray, List.set_cons_zero, List.set_cons_succ]
          refine wpAnyH_ready (rs := [19]) (by kernel_rfl) (by simp) ?_
          refine AllReadyH.cons (o := { dst := some 90, op := Op.call { callee := Callee.value (Operand.func 12), args := #[], argTypes := #[] }, type := 4, pos := "outright.go:92", after := #[{ on := 18, ground := Ground.chain }, { on := 18, ground := Ground.guard }], guard := some (18, true) }) rfl (fun K hK => ?_) AllReadyH.nil
          clear hHeld
          go_simp
          refine HAW.out.mono ?_
          rintro e z3 ⟨rfl, hB3⟩
          have HB3 := hide hB3
          dsimp only
          refine hK.out _ _ (⟨HSb.out.below hB3, HSc.out.below hB3⟩) (fun hHeld => ?_)
          clear hK K
          try simp only [Act.put, List.setIfInBounds_toArray, List.set_cons_zero, List.set_cons_succ]
          refine wpAnyH_take (i := 20) (oi := { dst := some 91, op := Op.pick (Operand.tmp 89) (Operand.tmp 90) (Operand.const (Value.bool false)), type := 4, pos := "outright.go:92", after := #[{ on := 18, ground := Ground.data }, { on := 19, ground := Ground.data }], guard := none }) (v := ?_) rfl (by kernel_rfl) (by kernel_rfl) (by kernel_rfl) (fun _ _ _ h => h) (Or.inl ⟨by rfl, ?_⟩) hHeld ?_
          rotate_left
          · intro w hSw; (try dsimp only at hSw); go_simp; first | done | with_reducible rfl
          try simp only [Act.put, List.setIfInBounds_toArray, List.set_cons_zero, List.set_cons_succ]
          refine wpAnyH_take (i := 21) (oi := { dst := some 4, op := Op.assign (Operand.tmp 91), type := 4, pos := "outright.go:92", after := #[{ on := 20, ground := Ground.data }, { on := 19, ground := Ground.chain }, { on := 0, ground := Ground.phase }, { on := 1, ground := Ground.phase }, { on := 2, ground := Ground.phase }, { on := 3, ground := Ground.phase }, { on := 4, ground := Ground.phase }, { on := 5, ground := Ground.phase }, { on := 6, ground := Ground.phase }, { on := 7, ground := Ground.phase }, { on := 8, ground := Ground.phase }, { on := 9, ground := Ground.phase }, { on := 10, ground := Ground.phase }, { on := 11, ground := Ground.phase }, { on := 12, ground := Ground.phase }, { on := 13, ground := Ground.phase }, { on := 14, ground := Ground.phase }, { on := 15, ground := Ground.phase }, { on := 16, ground := Ground.phase }, { on := 17, ground := Ground.phase }, { on := 18, ground := Ground.phase }, { on := 19, ground := Ground.phase }, { on := 20, ground := Ground.phase }], guard := none }) (v := ?_) rfl (by kernel_rfl) (by kernel_rfl) (by kernel_rfl) (fun _ _ _ h => h) (Or.inl ⟨by rfl, ?_⟩) hHeld ?_
          rotate_left
          · intro w hSw; (try dsimp only at hSw); go_simp; first | done | with_reducible rfl
          try simp only [Act.put, List.setIfInBounds_toArray, List.set_cons_zero, List.set_cons_succ]
          refine wpAnyH_done (by kernel_rfl) ?_ _
          go_wp2_with fail
          go_ret
          exact ⟨rfl, HBz.out.drew.trans (HB3.out.mono HBz.out.size)⟩
        | some rest =>
          obtain ⟨hK, _, v, rfl, hf, hN⟩ := hp.some hr
          clear hp
          have hm0 : 0 ≤ f.most ∧ f.most ≤ (ys.length : Int) := by rw [cutRS] at hr; split at hr; cases hr; omega
          obtain rfl : ys.drop f.most.toNat = rest := by rw [cutRS, if_neg (by omega)] at hr; injection hr
          have hst := hf.str
          obtain ⟨vao, vcap, rfl⟩ := hf.slAt.len
          have hbo := bytesOf_str (ys.take f.most.toNat) (fun x hx => HYR.out x (List.mem_of_mem_take hx))
          have hsz : (strOfNums (ys.take f.most.toNat)).size ≤ ys.length := by rw [size_str _ (fun x hx => HYR.out x (List.mem_of_mem_take hx))]; simp; omega
          obtain ⟨vl, hvl⟩ : ∃ vl, (ys.take f.most.toNat).length = vl := ⟨_, rfl⟩
          rw [hvl] at hst
          obtain ⟨vs, hvs⟩ : ∃ vs, strOfNums (ys.take f.most.toNat) = vs := ⟨_, rfl⟩
          rw [hvs] at hst hbo hsz
          rw [hvl]
          clear hf hvl
          have HFM : Tuck (fieldS (⟨f.kind, f.most, f.more, f.n, vs⟩ : Fld) ++ (ys.drop f.most.toNat) = ys) := tuck (by rw [fieldS_4 (⟨f.kind, f.most, f.more, f.n, vs⟩ : Fld) HD0.out HD1.out HD2.out HD3.out]; show bytesOf vs ++ _ = _; rw [hbo, List.take_append_drop])
          have HS2 := hide hK.size
          have hrow2 : u2.heap[wr.heap.size]? = some (.cells f.cells.toArray 32 (0, 0)) := (hK.block _ HSu.out (fun h => by have := HFR.out _ h; have := HW.out.hB; omega)).trans HROW.out
          have hcc : u2.cell? ⟨wr.heap.size, 4, none⟩ = some (.string f.s) := (cell_of_row u2 _ 4 _ _ _ hrow2).trans rfl
          have hff := frozen_of_row u2 wr.heap.size 4 _ _ hrow2
          have HW2 := hide (HWu.out.keep hK (fun k h1 h2 => by simp only [iv] at h1; have := HFR.out k h2; omega))
          have HB2 := hide (hK.through HBu.out (fun k h => (HFR.out k h).1) HBu.out.size)
          have hKs : Keep (fun k => k = wr.heap.size) u2 (u2.setCell ⟨wr.heap.size, 4, none⟩ (.string vs)) := Keep.set _ _ _ rfl
          have HR3 := hide (hN.keep hKs (fun k h1 h2 => by have := HFR.out k h1; have := HW.out.hB; omega))
          have HW3 := hide (HW2.out.keep hKs (fun k h1 h2 => by simp only [iv] at h1; omega))
          have HB3 := hide (hKs.through HB2.out (fun k h => by rw [h]; exact HBr.out.size) HB2.out.size)
          have hrow3 : (u2.setCell ⟨wr.heap.size, 4, none⟩ (.string vs)).heap[wr.heap.size]? = some (.cells (⟨f.kind, f.most, f.more, f.n, vs⟩ : Fld).cells.toArray 32 (0, 0)) := by rw [heap_setCell_same u2 wr.heap.size 4 _ _ _ hrow2]; rfl
          have HT3 := hide (ht.below HB3.out h2)
          have HWA := hide (write_any (⟨f.kind, f.most, f.more, f.n, vs⟩ : Fld) ⟨HOKf.out.1, by show vs.size ≤ maxLen; have := HYL.out; unfold maxLen; omega, HOKf.out.2.2⟩ _ lo (iv lo wr.heap.size) gw xs HT3.out (by omega) HW3.out (by show xs.length + 10 + vs.size ≤ _; have := HXL.out; have := HYL.out; omega))
          unfold Fld.val at HWA
          dsimp only at HWA
          have q0 : (u2.setCell ⟨wr.heap.size, 4, none⟩ (.string vs)).cell? ⟨wr.heap.size, 0, none⟩ = some (.int .i64 f.kind) := (cell_of_row _ _ 0 _ _ _ hrow3).trans rfl
          have q1 : (u2.setCell ⟨wr.heap.size, 4, none⟩ (.string vs)).cell? ⟨wr.heap.size, 1, none⟩ = some (.int .i64 f.most) := (cell_of_row _ _ 1 _ _ _ hrow3).trans rfl
          have q2 : (u2.setCell ⟨wr.heap.size, 4, none⟩ (.string vs)).cell? ⟨wr.heap.size, 2, none⟩ = some (.int .i64 f.more) := (cell_of_row _ _ 2 _ _ _ hrow3).trans rfl
          have q3 : (u2.setCell ⟨wr.heap.size, 4, none⟩ (.string vs)).cell? ⟨wr.heap.size, 3, none⟩ = some (.int .u64 (f.n : Nat)) := (cell_of_row _ _ 3 _ _ _ hrow3).trans rfl
          have q4 : (u2.setCell ⟨wr.heap.size, 4, none⟩ (.string vs)).cell? ⟨wr.heap.size, 4, none⟩ = some (.string vs) := (cell_of_row _ _ 4 _ _ _ hrow3).trans rfl
          have HU3 : Hid (∀ U, U = u2.setCell ⟨wr.heap.size, 4, none⟩ (.string vs) → True) := hide (fun _ _ => trivial)
          clear hK hN hKs hrow2 hrow3 HW2 HB2 hr HU3
          go_wp2_with fail
          refine (err_any _ _ _ _ _ _ HR3.out).mono ?_
          rintro e u3 ⟨rfl, rfl⟩
          rw [show errOf false = 0 from rfl]
          clear hcc hff
          go_wp2_with fail
          refine HWA.out.mono ?_
          intro e u4 hp
          obtain ⟨rfl, hK4, hN4⟩ := hp
          have hs34 : wr.heap.size ≤ u4.heap.size := Nat.le_trans (Nat.le_of_lt HSu.out) (Nat.le_trans HS2.out (by have := hK4.size; simpa using this))
          have HW4 := hide (hN4.mono (G := iv lo u4.heap.size) (fun k h => by rcases h with h | h; exact ⟨h.1, Nat.lt_of_lt_of_le h.2 hs34⟩; exact ⟨Nat.le_trans (Nat.le_trans HW.out.hB (Nat.le_of_lt (Nat.lt_of_lt_of_le HSu.out HS2.out))) (by simpa using h.1), h.2⟩) (fun k h => h))
          have HR4 := hide (HR3.out.keep hK4 (fun k h1 h2 => by simp only [iv] at h2; have := HFR.out k h1; omega))
          have HB4 := hide (hK4.through HB3.out (fun k h => by simp only [iv] at h; omega) HB3.out.size)
          have HEQ4 : Tuck ((xs ++ fieldS (⟨f.kind, f.most, f.more, f.n, vs⟩ : Fld)) ++ (ys.drop f.most.toNat) = bs) := tuck (by rw [List.append_assoc, HFM.out, HEQ.out])
          clear hK4 hN4 HR3 HW3 HB3 HWA q0 q1 q2 q3 q4 hs34
          go_wp2_with fail
          go_roundw
          case rel => exact ⟨k + 1, by omega, by go_num, _, _, HEQ4, HR4, HW4, HB4⟩
          case measure => simp [intOf]; omega
    · obtain rfl : k = n := by omega
      have hly5 : ys.length ≤ 20000 := by have := congrArg List.length HEQ.out; simp at this; have := HNB.out; omega
      have hlx5 : xs.length ≤ 20000 := by have := congrArg List.length HEQ.out; simp at this; have := HNB.out; omega
      have HTK : Tuck (bs.take xs.length = xs) := tuck (by rw [← HEQ.out, List.take_left' rfl])
      have hsum : xs.length + ys.length = nb := by have := congrArg List.length HEQ.out; simp at this; have := HNB.out; omega
      go_wp2_with fail
      refine (bytes_any _ _ _ _ _ HW.out (by omega)).mono ?_
      rintro e z1 ⟨vc, rfl, hrowc, hBz⟩
      have HRz := hide (HR.out.keep (Keep.of_below hBz : Keep (fun _ => False) _ z1) (fun _ _ => id))
      have HBz := hide (HBr.out.trans (hBz.mono HBr.out.size))
      obtain ⟨aoc, capc, hvc⟩ := hrowc.slAt.len
      obtain ⟨lx, hlx⟩ : ∃ lx, xs.length = lx := ⟨_, rfl⟩
      obtain ⟨ly, hly⟩ : ∃ ly, ys.length = ly := ⟨_, rfl⟩
      rw [hlx] at hvc HTK hsum hlx5
      rw [hly] at hsum hly5
      subst hvc
      have HSc := hide (show SlAt z1.drew _ _ from hrowc.slAt)
      have HSb := hide (HBS.out.below (show Below w.heap.size w z1.drew from HBz.out.drew))
      have HLEFT := hide (left_any z1.drew _ _ _ _ _ HRz.out.drew)
      rw [hly] at HLEFT
      have HAW := hide (awake_any z1.drew (ht.below HBz.out.drew h2))
      have hsi : (lx : Int) + (ly : Int) = (nb : Int) := by omega
      have hwi : IntKind.i64.wrap ((nb : Int)) = nb := IntWalk.i64_in _ (by omega)
      have hcut := run_cut_hk (P := Tryd.prog) .i64 Tryd.underlying28 size5 ab nb cb lx (by have := HSb.out.le.1; omega)
      have hlxn : lx ≤ nb := by omega
      clear hrowc hBz hlx hly hsum hly5 hlx5
      go_wp2_with fail
      refine wp_region_held_drew (S := fun w' => SlAt w' (.slice ab nb cb) bs ∧ SlAt w' (.slice aoc lx capc) xs) (by kernel_rfl) ⟨HSb.out, HSc.out⟩ (fun hHeld => ?_)
      refine wpAnyH_take (i := 0) (oi := { dst := some 71, op := Op.move (Operand.tmp 9), type := 28, pos := "outright.go:92", after := #[], guard := none }) (v := ?_) rfl (by kernel_rfl) (by kernel_rfl) (by kernel_rfl) (fun _ _ _ h => h) (Or.inl ⟨by rfl, ?_⟩) hHeld ?_
      rotate_left
      · intro w hSw; (try dsimp only at hSw); go_simp; first | done | with_reducible rfl
      try simp only [Act.put, List.setIfInBounds_toArray, List.set_cons_zero, List.set_cons_succ]
      refine wpAnyH_take (i := 1) (oi := { dst := some 72, op := Op.call { callee := Callee.builtin Builtin.len, args := #[Operand.tmp 71], argTypes := #[28] }, type := 3, pos := "outright.go:92", after := #[{ on := 0, ground := Ground.data }], guard := none }) (v := ?_) rfl (by kernel_rfl) (by kernel_rfl) (by kernel_rfl) (fun _ _ _ h => h) (Or.inl ⟨by rfl, ?_⟩) hHeld ?_
      rotate_left
      · intro w hSw; (try dsimp only at hSw); go_simp; first | done | with_reducible rfl
      try simp only [Act.put, List.setIfInBounds_toArray, List.set_cons_zero, List.set_cons_succ]
      refine wpAnyH_take (i := 2) (oi := { dst := some 73, op := Op.move (Operand.tmp 5), type := 38, pos := "outright.go:92", after := #[], guard := none }) (v := ?_) rfl (by kernel_rfl) (by kernel_rfl) (by kernel_rfl) (fun _ _ _ h => h) (Or.inl ⟨by rfl, ?_⟩) hHeld ?_
      rotate_left
      · intro w hSw; (try dsimp only at hSw); go_simp; first | done | with_reducible rfl
      try simp only [Act.put, List.setIfInBounds_toArray, List.set_cons_zero, List.set_cons_succ]
      refine wpAnyH_take (i := 5) (oi := { dst := some 76, op := Op.move (Operand.tmp 0), type := 28, pos := "outright.go:92", after := #[], guard := none }) (v := ?_) rfl (by kernel_rfl) (by kernel_rfl) (by kernel_rfl) (fun _ _ _ h => h) (Or.inl ⟨by rfl, ?_⟩) hHeld ?_
      rotate_left
      · intro w hSw; (try dsimp only at hSw); go_simp; first | done | with_reducible rfl
      try simp only [Act.put, List.setIfInBounds_toArray, List.set_cons_zero, List.set_cons_succ]
      refine wpAnyH_take (i := 6) (oi := { dst := some 77, op := Op.call { callee := Callee.builtin Builtin.len, args := #[Operand.tmp 76], argTypes := #[28] }, type := 3, pos := "outright.go:92", after := #[{ on := 5, ground := Ground.data }], guard := none }) (v := ?_) rfl (by kernel_rfl) (by kernel_rfl) (by kernel_rfl) (fun _ _ _ h => h) (Or.inl ⟨by rfl, ?_⟩) hHeld ?_
      rotate_left
      · intro w hSw; (try dsimp only at hSw); go_simp; first | done | with_reducible rfl
      try simp only [Act.put, List.setIfInBounds_toArray, List.set_cons_zero, List.set_cons_succ]
      refine wpAnyH_ready (rs := [3]) (by kernel_rfl) (by simp) ?_
      refine AllReadyH.cons (o := { dst := some 74, op := Op.call { callee := Callee.value (Operand.func 31), args := #[Operand.tmp 73], argTypes := #[38] }, type := 3, pos := "outright.go:92", after := #[{ on := 2, ground := Ground.data }], guard := none }) rfl (fun K hK => ?_) AllReadyH.nil
      clear hHeld
      go_simp
      refine HLEFT.out.mono ?_
      rintro e z2 ⟨rfl, rfl⟩
      dsimp only
      refine hK.out _ _ (⟨HSb.out, HSc.out⟩) (fun hHeld => ?_)
      clear hK K
      try simp only [Act.put, List.setIfInBounds_toArray, List.set_cons_zero, List.set_cons_succ]
      refine wpAnyH_take (i := 4) (oi := { dst := some 75, op := Op.binOp BinOp.add 3 (Operand.tmp 72) (Operand.tmp 74) 3, type := 3, pos := "outright.go:92", after := #[{ on := 1, ground := Ground.data }, { on := 3, ground := Ground.data }], guard := none }) (v := ?_) rfl (by kernel_rfl) (by kernel_rfl) (by kernel_rfl) (fun _ _ _ h => h) (Or.inl ⟨by rfl, ?_⟩) hHeld ?_
      rotate_left
      · intro w hSw; (try dsimp only at hSw); go_simp; first | done | with_reducible rfl
      try simp only [Act.put, List.setIfInBounds_toArray, List.set_cons_zero, List.set_cons_succ]
      refine wpAnyH_take (i := 7) (oi := { dst := some 78, op := Op.binOp BinOp.eql 3 (Operand.tmp 75) (Operand.tmp 77) 3, type := 4, pos := "outright.go:92", after := #[{ on := 4, ground := Ground.data }, { on := 6, ground := Ground.data }], guard := none }) (v := ?_) rfl (by kernel_rfl) (by kernel_rfl) (by kernel_rfl) (fun _ _ _ h => h) (Or.inl ⟨by rfl, ?_⟩) hHeld ?_
      rotate_left
      · intro w hSw; (try dsimp only at hSw); go_simp; first | done | with_reducible rfl
      try simp only [Act.put, List.setIfInBounds_toArray, List.set_cons_zero, List.set_cons_succ]
      refine wpAnyH_take (i := 8) (oi := { dst := some 79, op := Op.move (Operand.tmp 78), type := 4, pos := "outright.go:92", after := #[{ on := 7, ground := Ground.data }, { on := 3, ground := Ground.chain }], guard := none }) (v := ?_) rfl (by kernel_rfl) (by kernel_rfl) (by kernel_rfl) (fun _ _ _ h => h) (Or.inl ⟨by rfl, ?_⟩) hHeld ?_
      rotate_left
      · intro w hSw; (try dsimp only at hSw); go_simp; first | done | with_reducible rfl
      try simp only [Act.put, List.setIfInBounds_toArray, List.set_cons_zero, List.set_cons_succ]
      refine wpAnyH_take (i := 9) (oi := { dst := some 80, op := Op.move (Operand.tmp 0), type := 28, pos := "outright.go:92", after := #[{ on := 8, ground := Ground.guard }], guard := some (8, true) }) (v := ?_) rfl (by kernel_rfl) (by kernel_rfl) (by kernel_rfl) (fun _ _ _ h => h) (Or.inl ⟨by rfl, ?_⟩) hHeld ?_
      rotate_left
      · intro w hSw; (try dsimp only at hSw); go_simp; first | done | with_reducible rfl
      try simp only [Act.put, List.setIfInBounds_toArray, List.set_cons_zero, List.set_cons_succ]
      refine wpAnyH_take (i := 10) (oi := { dst := some 81, op := Op.move (Operand.tmp 9), type := 28, pos := "outright.go:92", after := #[{ on := 8, ground := Ground.guard }], guard := some (8, true) }) (v := ?_) rfl (by kernel_rfl) (by kernel_rfl) (by kernel_rfl) (fun _ _ _ h => h) (Or.inl ⟨by rfl, ?_⟩) hHeld ?_
      rotate_left
      · intro w hSw; (try dsimp only at hSw); go_simp; first | done | with_reducible rfl
      try simp only [Act.put, List.setIfInBounds_toArray, List.set_cons_zero, List.set_cons_succ]
      refine wpAnyH_take (i := 11) (oi := { dst := some 82, op := Op.call { callee := Callee.builtin Builtin.len, args := #[Operand.tmp 81], argTypes := #[28] }, type := 3, pos := "outright.go:92", after := #[{ on := 10, ground := Ground.data }, { on := 8, ground := Ground.guard }], guard := some (8, true) }) (v := ?_) rfl (by kernel_rfl) (by kernel_rfl) (by kernel_rfl) (fun _ _ _ h => h) (Or.inl ⟨by rfl, ?_⟩) hHeld ?_
      rotate_left
      · intro w hSw; (try dsimp only at hSw); go_simp; first | done | with_reducible rfl
      try simp only [Act.put, List.setIfInBounds_toArray, List.set_cons_zero, List.set_cons_succ]
      refine wpAnyH_take (i := 12) (oi := { dst := some 83, op := Op.slice 28 (Operand.tmp 80) none (some (Operand.tmp 82)) none, type := 28, pos := "outright.go:92", after := #[{ on := 9, ground := Ground.data }, { on := 11, ground := Ground.data }, { on := 8, ground := Ground.guard }], guard := some (8, true) }) (v := ?_) rfl (by kernel_rfl) (by kernel_rfl) (by kernel_rfl) (fun _ _ _ h => h) (Or.inl ⟨by rfl, ?_⟩) hHeld ?_
      rotate_left
      · intro w hSw; (try dsimp only at hSw); go_simp; first | done | with_reducible rfl
      try simp only [Act.put, List.setIfInBounds_toArray, List.set_cons_zero, List.set_cons_succ]
      refine wpAnyH_take (i := 13) (oi := { dst := some 84, op := Op.convert 28 9 (Operand.tmp 83), type := 9, pos := "outright.go:92", after := #[{ on := 12, ground := Ground.data }, { on := 8, ground := Ground.guard }], guard := some (8, true) }) (v := ?_) rfl (by kernel_rfl) (by kernel_rfl) (by kernel_rfl) (fun _ _ _ h => h) (Or.inl ⟨by rfl, ?_⟩) hHeld ?_
      rotate_left
      · intro w hSw; (try dsimp only at hSw); (have hcb := (hSw.1.front' (m := lx) hlxn).string (P := Tryd.prog) 28 5 9 Tryd.underlying28 Tryd.underlying5 Tryd.underlying9); (rw [HTK.out] at hcb); go_simp; first | done | with_reducible rfl
      try simp only [Act.put, List.setIfInBounds_toArray, List.set_cons_zero, List.set_cons_succ]
      refine wpAnyH_take (i := 14) (oi := { dst := some 85, op := Op.move (Operand.tmp 9), type := 28, pos := "outright.go:92", after := #[{ on := 8, ground := Ground.guard }], guard := some (8, true) }) (v := ?_) rfl (by kernel_rfl) (by kernel_rfl) (by kernel_rfl) (fun _ _ _ h => h) (Or.inl ⟨by rfl, ?_⟩) hHeld ?_
      rotate_left
      · intro w hSw; (try dsimp only at hSw); go_simp; first | done | with_reducible rfl
      try simp only [Act.put, List.setIfInBounds_toArray, List.set_cons_zero, List.set_cons_succ]
      refine wpAnyH_take (i := 15) (oi := { dst := some 86, op := Op.convert 28 9 (Operand.tmp 85), type := 9, pos := "outright.go:92", after := #[{ on := 14, ground := Ground.data }, { on := 8, ground := Ground.guard }], guard := some (8, true) }) (v := ?_) rfl (by kernel_rfl) (by kernel_rfl) (by kernel_rfl) (fun _ _ _ h => h) (Or.inl ⟨by rfl, ?_⟩) hHeld ?_
      rotate_left
      · intro w hSw; (try dsimp only at hSw); (have hca := hSw.2.string (P := Tryd.prog) 28 5 9 Tryd.underlying28 Tryd.underlying5 Tryd.underlying9); go_simp; first | done | with_reducible rfl
      try simp only [Act.put, List.setIfInBounds_toArray, List.set_cons_zero, List.set_cons_succ]
      refine wpAnyH_take (i := 16) (oi := { dst := some 87, op := Op.binOp BinOp.eql 9 (Operand.tmp 84) (Operand.tmp 86) 9, type := 4, pos := "outright.go:92", after := #[{ on := 13, ground := Ground.data }, { on := 15, ground := Ground.data }, { on := 8, ground := Ground.guard }], guard := some (8, true) }) (v := ?_) rfl (by kernel_rfl) (by kernel_rfl) (by kernel_rfl) (fun _ _ _ h => h) (Or.inl ⟨by rfl, ?_⟩) hHeld ?_
      rotate_left
      · intro w hSw; (try dsimp only at hSw); go_simp; first | done | with_reducible rfl
      try simp only [Act.put, List.setIfInBounds_toArray, List.set_cons_zero, List.set_cons_succ]
      refine wpAnyH_take (i := 17) (oi := { dst := some 88, op := Op.pick (Operand.tmp 79) (Operand.tmp 87) (Operand.const (Value.bool false)), type := 4, pos := "outright.go:92", after := #[{ on := 8, ground := Ground.data }, { on := 16, ground := Ground.data }], guard := none }) (v := ?_) rfl (by kernel_rfl) (by kernel_rfl) (by kernel_rfl) (fun _ _ _ h => h) (Or.inl ⟨by rfl, ?_⟩) hHeld ?_
      rotate_left
      · intro w hSw; (try dsimp only at hSw); go_simp; first | done | with_reducible rfl
      try simp only [Act.put, List.setIfInBounds_toArray, List.set_cons_zero, List.set_cons_succ]
      refine wpAnyH_take (i := 18) (oi := { dst := some 89, op := Op.move (Operand.tmp 88), type := 4, pos := "outright.go:92", after := #[{ on := 17, ground := Ground.data }, { on := 8, ground := Ground.chain }], guard := none }) (v := ?_) rfl (by kernel_rfl) (by kernel_rfl) (by kernel_rfl) (fun _ _ _ h => h) (Or.inl ⟨by rfl, ?_⟩) hHeld ?_
      rotate_left
      · intro w hSw; (try dsimp only at hSw); go_simp; first | done | with_reducible rfl
      try simp only [Act.put, List.setIfInBounds_toArray, List.set_cons_zero, List.set_cons_succ]
      refine wpAnyH_ready (rs := [19]) (by kernel_rfl) (by simp) ?_
      refine AllReadyH.cons (o := { dst := some 90, op := Op.call { callee := Callee.value (Operand.func 12), args := #[], argTypes := #[] }, type := 4, pos := "outright.go:92", after := #[{ on := 18, ground := Ground.chain }, { on := 18, ground := Ground.guard }], guard := some (18, true) }) rfl (fun K hK => ?_) AllReadyH.nil
      clear hHeld
      go_simp
      refine HAW.out.mono ?_
      rintro e z3 ⟨rfl, hB3⟩
      have HB3 := hide hB3
      dsimp only
      refine hK.out _ _ (⟨HSb.out.below hB3, HSc.out.below hB3⟩) (fun hHeld => ?_)
      clear hK K
      try simp only [Act.put, List.setIfInBounds_toArray, List.set_cons_zero, List.set_cons_succ]
      refine wpAnyH_take (i := 20) (oi := { dst := some 91, op := Op.pick (Operand.tmp 89) (Operand.tmp 90) (Operand.const (Value.bool false)), type := 4, pos := "outright.go:92", after := #[{ on := 18, ground := Ground.data }, { on := 19, ground := Ground.data }], guard := none }) (v := ?_) rfl (by kernel_rfl) (by kernel_rfl) (by kernel_rfl) (fun _ _ _ h => h) (Or.inl ⟨by rfl, ?_⟩) hHeld ?_
      rotate_left
      · intro w hSw; (try dsimp only at hSw); go_simp; first | done | with_reducible rfl
      try simp only [Act.put, List.setIfInBounds_toArray, List.set_cons_zero, List.set_cons_succ]
      refine wpAnyH_take (i := 21) (oi := { dst := some 4, op := Op.assign (Operand.tmp 91), type := 4, pos := "outright.go:92", after := #[{ on := 20, ground := Ground.data }, { on := 19, ground := Ground.chain }, { on := 0, ground := Ground.phase }, { on := 1, ground := Ground.phase }, { on := 2, ground := Ground.phase }, { on := 3, ground := Ground.phase }, { on := 4, ground := Ground.phase }, { on := 5, ground := Ground.phase }, { on := 6, ground := Ground.phase }, { on := 7, ground := Ground.phase }, { on := 8, ground := Ground.phase }, { on := 9, ground := Ground.phase }, { on := 10, ground := Ground.phase }, { on := 11, ground := Ground.phase }, { on := 12, ground := Ground.phase }, { on := 13, ground := Ground.phase }, { on := 14, ground := Ground.phase }, { on := 15, ground := Ground.phase }, { on := 16, ground := Ground.phase }, { on := 17, ground := Ground.phase }, { on := 18, ground := Ground.phase }, { on := 19, ground := Ground.phase }, { on := 20, ground := Ground.phase }], guard := none }) (v := ?_) rfl (by kernel_rfl) (by kernel_rfl) (by kernel_rfl) (fun _ _ _ h => h) (Or.inl ⟨by rfl, ?_⟩) hHeld ?_
      rotate_left
      · intro w hSw; (try dsimp only at hSw); go_simp; first | done | with_reducible rfl
      try simp only [Act.put, List.setIfInBounds_toArray, List.set_cons_zero, List.set_cons_succ]
      refine wpAnyH_done (by kernel_rfl) ?_ _
      go_wp2_with fail
      go_ret
      exact ⟨rfl, HBz.out.drew.trans (HB3.out.mono HBz.out.size)⟩
end Go.Proofs.YtjcdmffjpkckoaaDoor
