/- The document's Sum of layer 1: its contract. -/
import Derived.Test.YteocienbfhgmjaaRefOf
import Derived.Test.YteocienbfhgmjaaRt5
import Derived.Deep.RegionHeld3
namespace Go.Proofs.Yteocienbfhgmjaa
open Go.RowKit

/-- An append whose run is known, as the walk of a drawn region meets it. -/
theorem wp_append_run {P : Program} {o : Oper} {a : Act} {w : World} {K : Act → World → Prop} {Q : Exit → Act → World → Prop} (s x : Operand) (t tn ty : TypeId) (hop : o.op = Op.call { callee := Callee.builtin Builtin.append, args := #[s, x], argTypes := #[t, tn] })
    (hty : o.type = ty) (vs vx v : Value) (w' : World) (hs : a.eval s = vs) (hx : a.eval x = vx) (hrun : (Builtin.append_ #[t, tn] ty #[vs, vx]).run P w = .ok v w')
    (h : K (a.put o.dst v) w') : o.wp P a w K Q := by
  subst hty
  unfold Oper.wp
  simp [execOp, hop, resolve, invoke, builtin, hs, hx, hrun, Result.andThen]
  exact h

set_option maxRecDepth 100000 in
set_option maxHeartbeats 2000000 in
theorem sumR_any (sv X : List Int) (rv : Value) (n : Nat) (w : World) (hh : sv.length = 8) (hX : SlAt w rv X) (hb : ∀ x ∈ X, 0 ≤ x ∧ x < 256) (hl : X.length ≤ 100000) :
    Calls Try.prog 27 #[.agg (cellsOf .u32 sv), rv, .int .u64 n] w (fun e w' => e = .returned (.agg (cellsOf .u8 (outS (stAt sv (X ++ endS n) ((X ++ endS n).length / 64))))) ∧ Below w.heap.size w w') := by
  obtain ⟨i0, hi, hz0, hz1, hz2⟩ := info_parts Try.info5
  have HI := hide hi
  have HZI0 := hide hz0
  have HZI1 := hide hz1
  have HZI2 := hide hz2
  have HX := hide hX
  have HH := hide hh
  have HXL : Hid (X.length ≤ 140737488355328) := hide (by omega)
  have HEL : Hid (0 + X.length + (endS n).length ≤ 140737488355328) := hide (by have := endS_le n; omega)
  have HLE : Hid ((X ++ endS n).length ≤ 1000000) := hide (by rw [List.length_append]; have := endS_le n; omega)
  have HBYE : Hid (∀ x ∈ X ++ endS n, 0 ≤ x ∧ x < 256) := hide (fun x hx => (List.mem_append.1 hx).elim (hb x) (endS_bytes n x))
  obtain ⟨st, hst⟩ : ∃ st, st = stAt sv (X ++ endS n) ((X ++ endS n).length / 64) := ⟨_, rfl⟩
  have HL8 : Hid (st.length = 8) := hide (by rw [hst]; exact length_stAt _ _ hh _)
  have HST := hide hst
  clear hi hz0 hz1 hz2 hX hh hb hl hst
  go_enter Try.func27, Try.ntmps27
  go_wp2_with (first | (with_reducible refine wpList_alloc_row rfl 36 rfl (cellsOf .u8 zeros32) zero36 ?_))
  have hB0 : Below w.heap.size w ((w.alloc (.cells (cellsOf .u32 sv) 24)).alloc (.cells (cellsOf .u8 zeros32) 36)) := ((Below.refl _ _).alloc (Nat.le_refl _) _).alloc (by simp) _
  have hb0 : Blk ((w.alloc (.cells (cellsOf .u32 sv) 24)).alloc (.cells (cellsOf .u8 zeros32) 36)) w.heap.size 24 .u32 sv := heap_alloc2_old _ _ _
  have hb1 : Blk ((w.alloc (.cells (cellsOf .u32 sv) 24)).alloc (.cells (cellsOf .u8 zeros32) 36)) (w.heap.size + 1) 36 .u8 zeros32 := heap_alloc2_new _ _ _
  have hbs : w.heap.size + 2 ≤ ((w.alloc (.cells (cellsOf .u32 sv) 24)).alloc (.cells (cellsOf .u8 zeros32) 36)).heap.size := by simp
  generalize ((w.alloc (.cells (cellsOf .u32 sv) 24)).alloc (.cells (cellsOf .u8 zeros32) 36)) = w0 at hB0 hb0 hb1 hbs ⊢
  refine wp_region_held_drew (S := fun _ => True) (by kernel_rfl) trivial (fun hHeld => ?_)
  have HB0 := hide hB0.drew
  have H00 : Hid (Blk w0.drew w.heap.size 24 .u32 sv) := hide hb0
  have HZ0 : Hid (Blk w0.drew (w.heap.size + 1) 36 .u8 zeros32) := hide hb1
  have hbs0 : w.heap.size + 2 ≤ w0.drew.heap.size := hbs
  clear hB0 hb0 hb1 hbs
  generalize w0.drew = W0 at HB0 H00 HZ0 hbs0 ⊢
  refine wpAnyH_take (i := 2) (oi := { dst := some 10, op := Op.move (Operand.tmp 1), type := 28, pos := "ref.go:191", after := #[], guard := none }) (v := ?_) rfl (by kernel_rfl) (by kernel_rfl) (by kernel_rfl) (fun _ _ _ h => h) (Or.inl ⟨by rfl, ?_⟩) hHeld ?_
  rotate_left
  · intro w hSw; (try dsimp only at hSw); go_simp; first | done | with_reducible rfl
  try simp only [Act.put, List.setIfInBounds_toArray, List.set_cons_zero, List.set_cons_succ]
  refine wpAnyH_take (i := 4) (oi := { dst := some 12, op := Op.move (Operand.tmp 2), type := 29, pos := "ref.go:191", after := #[], guard := none }) (v := ?_) rfl (by kernel_rfl) (by kernel_rfl) (by kernel_rfl) (fun _ _ _ h => h) (Or.inl ⟨by rfl, ?_⟩) hHeld ?_
  rotate_left
  · intro w hSw; (try dsimp only at hSw); go_simp; first | done | with_reducible rfl
  try simp only [Act.put, List.setIfInBounds_toArray, List.set_cons_zero, List.set_cons_succ]
  refine wpAnyH_ready (rs := [0, 1]) (by kernel_rfl) (by simp) ?_
  refine (AllReadyH.cons (o := { dst := some 8, op := Op.load 24 (Operand.tmp 3), type := 24, pos := "ref.go:191", after := #[], guard := none }) rfl (fun K hK => ?_) (AllReadyH.cons (o := { dst := some 9, op := Op.buildSlice 28 0 #[], type := 28, pos := "ref.go:191", after := #[], guard := none }) rfl (fun K hK => ?_) AllReadyH.nil))
  · rw [if_pos (by rfl)]
    refine wp_load_row _ _ rfl w.heap.size rfl _ _ (0, 0) _ H00.out.row Try.underlying24 rfl (sz24 sv HH.out) ?_
    have HB1 := HB0
    have H01 := H00
    have HZ1 := HZ0
    refine hK.out _ _ trivial (fun hHeld => ?_)
    clear hK K
    try simp only [Act.put, List.setIfInBounds_toArray, List.set_cons_zero, List.set_cons_succ]
    have hbs1 := hbs0
    refine wpAnyH_ready (rs := [1]) (by kernel_rfl) (by simp) ?_
    refine (AllReadyH.cons (o := { dst := some 9, op := Op.buildSlice 28 0 #[], type := 28, pos := "ref.go:191", after := #[], guard := none }) rfl (fun K hK => ?_) AllReadyH.nil)
    · go_simp
      have HB2 := hide (HB1.out.alloc HB1.out.size (.cells #[] 5))
      have H02 := hide (H01.out.alloc (.cells #[] 5))
      have HZ2 := hide (HZ1.out.alloc (.cells #[] 5))
      have HO2 := hide (own_empty W0 5)
      have hbs : w.heap.size + 2 ≤ W0.heap.size := hbs1
      have hbs2 : w.heap.size + 2 ≤ (W0.alloc (.cells #[] 5)).heap.size := by simp; omega
      have hbl : W0.heap.size ≤ (W0.alloc (.cells #[] 5)).heap.size := by simp
      generalize W0.alloc (.cells #[] 5) = W2 at HB2 H02 HZ2 HO2 hbs2 hbl ⊢
      generalize W0.heap.size = bs at HO2 hbs hbl ⊢
      refine hK.out _ _ trivial (fun hHeld => ?_)
      clear hK K
      try simp only [Act.put, List.setIfInBounds_toArray, List.set_cons_zero, List.set_cons_succ]
      refine wpAnyH_ready (rs := [3]) (by kernel_rfl) (by simp) ?_
      refine (AllReadyH.cons (o := { dst := some 11, op := Op.call { callee := Callee.builtin Builtin.append, args := #[Operand.tmp 9, Operand.tmp 10], argTypes := #[28, 28] }, type := 28, pos := "ref.go:191", after := #[{ on := 1, ground := Ground.data }, { on := 2, ground := Ground.data }], guard := none }) rfl (fun K hK => ?_) AllReadyH.nil)
      · rw [if_pos (by rfl)]
        obtain ⟨v1, W3, hrun, hown, hgr, hat⟩ := append_sl (P := Try.prog) (w := W2) (t := 28) (e := 5) Try.underlying28 HI.out HZI0.out HZI1.out HZI2.out bs (.slice (some ⟨bs, 0, none⟩) 0 0) 0 [] HO2.out rv X (HX.out.below HB2.out) (by rw [Nat.zero_add]; exact HXL.out) hbl 28
        refine wp_append_run (.tmp 9) (.tmp 10) 28 28 28 rfl rfl _ _ v1 W3 rfl rfl hrun ?_
        have hrw : ∀ k, (Value.slice (some ⟨bs, 0, none⟩) 0 0).ownBlock = some k → bs ≤ k := fun k e => by simp [Value.ownBlock] at e; omega
        have HB3 := hide (HB2.out.grown hgr HB2.out.size (fun k e => by have := hrw k e; omega))
        have H03 : Hid (Blk W3 w.heap.size 24 .u32 sv) := hide ((hgr.block w.heap.size H02.out.lt (fun e => by have := hrw _ e.symm; omega)).trans H02.out)
        have HZ3 : Hid (Blk W3 (w.heap.size + 1) 36 .u8 zeros32) := hide ((hgr.block (w.heap.size + 1) HZ2.out.lt (fun e => by have := hrw _ e.symm; omega)).trans HZ2.out)
        have hbs3 : w.heap.size + 2 ≤ W3.heap.size := Nat.le_trans hbs2 hgr.size
        replace hbl := Nat.le_trans hbl hgr.size
        have HO3 := hide hown
        clear hrun hown hgr hat hrw
        refine hK.out _ _ trivial (fun hHeld => ?_)
        clear hK K
        try simp only [Act.put, List.setIfInBounds_toArray, List.set_cons_zero, List.set_cons_succ]
        refine wpAnyH_ready (rs := [5]) (by kernel_rfl) (by simp) ?_
        refine (AllReadyH.cons (o := { dst := some 13, op := Op.call { callee := Callee.value (Operand.func 19), args := #[Operand.tmp 12], argTypes := #[29] }, type := 28, pos := "ref.go:191", after := #[{ on := 4, ground := Ground.data }, { on := 3, ground := Ground.chain }], guard := none }) rfl (fun K hK => ?_) AllReadyH.nil)
        · go_simp
          refine (end_ref n W3).mono ?_
          rintro e W4 ⟨ap, rfl, hsl, hBX⟩
          have HB4 := hide (below_through hBX HB3.out)
          have H04 := hide (blk_through hBX H03.out)
          have HZ4 := hide (blk_through hBX HZ3.out)
          have HO4 := hide (ownsRow_below HO3.out hBX)
          have hbs4 : w.heap.size + 2 ≤ W4.heap.size := Nat.le_trans hbs3 hBX.size
          replace hbl := Nat.le_trans hbl hBX.size
          have HE4 := hide hsl
          clear hBX hsl
          dsimp only
          refine hK.out _ _ trivial (fun hHeld => ?_)
          clear hK K
          try simp only [Act.put, List.setIfInBounds_toArray, List.set_cons_zero, List.set_cons_succ]
          refine wpAnyH_ready (rs := [6]) (by kernel_rfl) (by simp) ?_
          refine (AllReadyH.cons (o := { dst := some 14, op := Op.call { callee := Callee.builtin Builtin.append, args := #[Operand.tmp 11, Operand.tmp 13], argTypes := #[28, 28] }, type := 28, pos := "ref.go:191", after := #[{ on := 3, ground := Ground.data }, { on := 5, ground := Ground.data }, { on := 5, ground := Ground.chain }], guard := none }) rfl (fun K hK => ?_) AllReadyH.nil)
          · rw [if_pos (by rfl)]
            obtain ⟨v2, W5, hrun, hown, hgr, hat⟩ := append_sl (P := Try.prog) (w := W4) (t := 28) (e := 5) Try.underlying28 HI.out HZI0.out HZI1.out HZI2.out bs v1 (0 + X.length) ([] ++ X) HO4.out _ (endS n) HE4.out HEL.out hbl 28
            refine wp_append_run (.tmp 11) (.tmp 13) 28 28 28 rfl rfl _ _ v2 W5 rfl rfl hrun ?_
            have hrw : ∀ k, v1.ownBlock = some k → bs ≤ k := own_block_le HO4.out
            have HB5 := hide (HB4.out.grown hgr HB4.out.size (fun k e => by have := hrw k e; omega))
            have H05 : Hid (Blk W5 w.heap.size 24 .u32 sv) := hide ((hgr.block w.heap.size H04.out.lt (fun e => by have := hrw _ e.symm; omega)).trans H04.out)
            have HZ5 : Hid (Blk W5 (w.heap.size + 1) 36 .u8 zeros32) := hide ((hgr.block (w.heap.size + 1) HZ4.out.lt (fun e => by have := hrw _ e.symm; omega)).trans HZ4.out)
            have hbs5 : w.heap.size + 2 ≤ W5.heap.size := Nat.le_trans hbs4 hgr.size
            have HO5 := hide hown
            clear hrun hown hgr hat hrw
            refine hK.out _ _ trivial (fun hHeld => ?_)
            clear hK K
            try simp only [Act.put, List.setIfInBounds_toArray, List.set_cons_zero, List.set_cons_succ]
            refine wpAnyH_ready (rs := [7]) (by kernel_rfl) (by simp) ?_
            refine (AllReadyH.cons (o := { dst := some 15, op := Op.call { callee := Callee.value (Operand.func 24), args := #[Operand.tmp 8, Operand.tmp 14], argTypes := #[24, 28] }, type := 43, pos := "ref.go:191", after := #[{ on := 0, ground := Ground.data }, { on := 6, ground := Ground.data }, { on := 6, ground := Ground.chain }], guard := none }) rfl (fun K hK => ?_) AllReadyH.nil)
            · go_simp
              have hsl : SlAt W5 v2 (X ++ endS n) := by have := slAt_ownV HO5.out; rwa [List.nil_append] at this
              refine (blocks_ref sv (X ++ endS n) v2 W5 HH.out hsl HBYE.out HLE.out).mono ?_
              rintro e W6 ⟨bv, rfl, _, hBX⟩
              have HB6 := hide (below_through hBX HB5.out)
              have H06 := hide (blk_through hBX H05.out)
              have HZ6 := hide (blk_through hBX HZ5.out)
              clear hBX hsl
              rw [← HST.out]
              dsimp only
              refine hK.out _ _ trivial (fun hHeld => ?_)
              clear hK K
              try simp only [Act.put, List.setIfInBounds_toArray, List.set_cons_zero, List.set_cons_succ]
              refine wpAnyH_take (i := 8) (oi := { dst := some 7, op := Op.move (Operand.tmp 15), type := 43, pos := "ref.go:191", after := #[{ on := 7, ground := Ground.data }], guard := none }) (v := ?_) rfl (by kernel_rfl) (by kernel_rfl) (by kernel_rfl) (fun _ _ _ h => h) (Or.inl ⟨by rfl, ?_⟩) hHeld ?_
              rotate_left
              · intro w hSw; (try dsimp only at hSw); go_simp; first | done | with_reducible rfl
              try simp only [Act.put, List.setIfInBounds_toArray, List.set_cons_zero, List.set_cons_succ]
              refine wpAnyH_take (i := 9) (oi := { dst := some 16, op := Op.extract (Operand.tmp 7) 0, type := 24, pos := "ref.go:191", after := #[{ on := 8, ground := Ground.data }], guard := none }) (v := ?_) rfl (by kernel_rfl) (by kernel_rfl) (by kernel_rfl) (fun _ _ _ h => h) (Or.inl ⟨by rfl, ?_⟩) hHeld ?_
              rotate_left
              · intro w hSw; (try dsimp only at hSw); go_simp; first | done | with_reducible rfl
              try simp only [Act.put, List.setIfInBounds_toArray, List.set_cons_zero, List.set_cons_succ]
              refine wpAnyH_take (i := 10) (oi := { dst := some 17, op := Op.extract (Operand.tmp 7) 1, type := 28, pos := "ref.go:191", after := #[{ on := 8, ground := Ground.data }, { on := 11, ground := Ground.gcOnly Departure.lateStores }], guard := none }) (v := ?_) rfl (by kernel_rfl) (by kernel_rfl) (by kernel_rfl) (fun _ _ _ h => h) (Or.inl ⟨by rfl, ?_⟩) hHeld ?_
              rotate_left
              · intro w hSw; (try dsimp only at hSw); go_simp; first | done | with_reducible rfl
              try simp only [Act.put, List.setIfInBounds_toArray, List.set_cons_zero, List.set_cons_succ]
              refine wpAnyH_ready (rs := [11]) (by kernel_rfl) (by simp) ?_
              refine AllReadyH.cons (o := { dst := none, op := Op.store 24 (Operand.tmp 3) (Operand.tmp 16), type := 0, pos := "ref.go:191", after := #[{ on := 9, ground := Ground.data }, { on := 7, ground := Ground.chain }, { on := 0, ground := Ground.phase }, { on := 1, ground := Ground.phase }, { on := 2, ground := Ground.phase }, { on := 3, ground := Ground.phase }, { on := 4, ground := Ground.phase }, { on := 5, ground := Ground.phase }, { on := 6, ground := Ground.phase }, { on := 7, ground := Ground.phase }, { on := 8, ground := Ground.phase }, { on := 9, ground := Ground.phase }, { on := 10, ground := Ground.textOnly Departure.lateStores }], guard := none }) rfl (fun K hK => ?_) AllReadyH.nil
              rw [if_pos (by rfl)]
              refine wp_store_row _ _ _ rfl w.heap.size (cellsOf .u32 st) rfl rfl _ _ H06.out.row (sz24 st HL8.out) (szEq _ _ (HH.out.trans HL8.out.symm)) (oneCell_cellsOf _ _) ?_
              refine hK.out _ _ trivial (fun hHeld => ?_)
              clear hK K
              try simp only [Act.put]
              refine wpAnyH_done (by kernel_rfl) ?_ _
              have hB6 := below_setRow HB6.out (Nat.le_refl _) (cellsOf .u32 st)
              have hr6 := H06.out.setRow st
              have hz6 := HZ6.out.rowOther w.heap.size (cellsOf .u32 st) (by omega)
              generalize W6.setRow w.heap.size (cellsOf .u32 st) = W9 at hB6 hr6 hz6 ⊢
              go_wp2_with (first | (with_reducible refine wpList_load_row rfl 24 (.tmp 3) rfl w.heap.size rfl _ _ (0, 0) _ hr6.row Try.underlying24 rfl (sz24 st HL8.out) ?_))
              refine (out_ref st _ HL8).mono ?_
              rintro e WA ⟨rfl, hBX⟩
              have hB7 := below_through hBX hB6
              have hz7 := blk_through hBX hz6
              clear hBX hB6 hz6 hr6
              go_wp2_with (first | (with_reducible refine wpList_store_row rfl 36 (.tmp 6) (.tmp 19) rfl (w.heap.size + 1) _ rfl rfl _ _ hz7.row (sz36 _ (length_outS _)) (szZ32 _ (length_outS _)) (oneCell_cellsOf _ _) ?_))
              refine bodyPost_ret (v := .agg (cellsOf .u8 (outS st))) (results_cell_row rfl _ _ (w.heap.size + 1) _ _ (0, 0) _ rfl (hz7.setRow (outS st)).row Try.underlying36 rfl (sz36 _ (length_outS _))) rfl ?_
              exact ⟨by rw [HST.out], below_setRow hB7 (by omega) _⟩
  · go_simp
    have HB1 := hide (HB0.out.alloc HB0.out.size (.cells #[] 5))
    have H01 := hide (H00.out.alloc (.cells #[] 5))
    have HZ1 := hide (HZ0.out.alloc (.cells #[] 5))
    have HO1 := hide (own_empty W0 5)
    have hbs : w.heap.size + 2 ≤ W0.heap.size := hbs0
    have hbs1 : w.heap.size + 2 ≤ (W0.alloc (.cells #[] 5)).heap.size := by simp; omega
    have hbl : W0.heap.size ≤ (W0.alloc (.cells #[] 5)).heap.size := by simp
    generalize W0.alloc (.cells #[] 5) = W1 at HB1 H01 HZ1 HO1 hbs1 hbl ⊢
    generalize W0.heap.size = bs at HO1 hbs hbl ⊢
    refine hK.out _ _ trivial (fun hHeld => ?_)
    clear hK K
    try simp only [Act.put, List.setIfInBounds_toArray, List.set_cons_zero, List.set_cons_succ]
    refine wpAnyH_ready (rs := [0, 3]) (by kernel_rfl) (by simp) ?_
    refine (AllReadyH.cons (o := { dst := some 8, op := Op.load 24 (Operand.tmp 3), type := 24, pos := "ref.go:191", after := #[], guard := none }) rfl (fun K hK => ?_) (AllReadyH.cons (o := { dst := some 11, op := Op.call { callee := Callee.builtin Builtin.append, args := #[Operand.tmp 9, Operand.tmp 10], argTypes := #[28, 28] }, type := 28, pos := "ref.go:191", after := #[{ on := 1, ground := Ground.data }, { on := 2, ground := Ground.data }], guard := none }) rfl (fun K hK => ?_) AllReadyH.nil))
    · rw [if_pos (by rfl)]
      refine wp_load_row _ _ rfl w.heap.size rfl _ _ (0, 0) _ H01.out.row Try.underlying24 rfl (sz24 sv HH.out) ?_
      have HB2 := HB1
      have H02 := H01
      have HZ2 := HZ1
      have HO2 := HO1
      refine hK.out _ _ trivial (fun hHeld => ?_)
      clear hK K
      try simp only [Act.put, List.setIfInBounds_toArray, List.set_cons_zero, List.set_cons_succ]
      have hbs2 := hbs1
      refine wpAnyH_ready (rs := [3]) (by kernel_rfl) (by simp) ?_
      refine (AllReadyH.cons (o := { dst := some 11, op := Op.call { callee := Callee.builtin Builtin.append, args := #[Operand.tmp 9, Operand.tmp 10], argTypes := #[28, 28] }, type := 28, pos := "ref.go:191", after := #[{ on := 1, ground := Ground.data }, { on := 2, ground := Ground.data }], guard := none }) rfl (fun K hK => ?_) AllReadyH.nil)
      · rw [if_pos (by rfl)]
        obtain ⟨v1, W3, hrun, hown, hgr, hat⟩ := append_sl (P := Try.prog) (w := W1) (t := 28) (e := 5) Try.underlying28 HI.out HZI0.out HZI1.out HZI2.out bs (.slice (some ⟨bs, 0, none⟩) 0 0) 0 [] HO2.out rv X (HX.out.below HB2.out) (by rw [Nat.zero_add]; exact HXL.out) hbl 28
        refine wp_append_run (.tmp 9) (.tmp 10) 28 28 28 rfl rfl _ _ v1 W3 rfl rfl hrun ?_
        have hrw : ∀ k, (Value.slice (some ⟨bs, 0, none⟩) 0 0).ownBlock = some k → bs ≤ k := fun k e => by simp [Value.ownBlock] at e; omega
        have HB3 := hide (HB2.out.grown hgr HB2.out.size (fun k e => by have := hrw k e; omega))
        have H03 : Hid (Blk W3 w.heap.size 24 .u32 sv) := hide ((hgr.block w.heap.size H02.out.lt (fun e => by have := hrw _ e.symm; omega)).trans H02.out)
        have HZ3 : Hid (Blk W3 (w.heap.size + 1) 36 .u8 zeros32) := hide ((hgr.block (w.heap.size + 1) HZ2.out.lt (fun e => by have := hrw _ e.symm; omega)).trans HZ2.out)
        have hbs3 : w.heap.size + 2 ≤ W3.heap.size := Nat.le_trans hbs2 hgr.size
        replace hbl := Nat.le_trans hbl hgr.size
        have HO3 := hide hown
        clear hrun hown hgr hat hrw
        refine hK.out _ _ trivial (fun hHeld => ?_)
        clear hK K
        try simp only [Act.put, List.setIfInBounds_toArray, List.set_cons_zero, List.set_cons_succ]
        refine wpAnyH_ready (rs := [5]) (by kernel_rfl) (by simp) ?_
        refine (AllReadyH.cons (o := { dst := some 13, op := Op.call { callee := Callee.value (Operand.func 19), args := #[Operand.tmp 12], argTypes := #[29] }, type := 28, pos := "ref.go:191", after := #[{ on := 4, ground := Ground.data }, { on := 3, ground := Ground.chain }], guard := none }) rfl (fun K hK => ?_) AllReadyH.nil)
        · go_simp
          refine (end_ref n W3).mono ?_
          rintro e W4 ⟨ap, rfl, hsl, hBX⟩
          have HB4 := hide (below_through hBX HB3.out)
          have H04 := hide (blk_through hBX H03.out)
          have HZ4 := hide (blk_through hBX HZ3.out)
          have HO4 := hide (ownsRow_below HO3.out hBX)
          have hbs4 : w.heap.size + 2 ≤ W4.heap.size := Nat.le_trans hbs3 hBX.size
          replace hbl := Nat.le_trans hbl hBX.size
          have HE4 := hide hsl
          clear hBX hsl
          dsimp only
          refine hK.out _ _ trivial (fun hHeld => ?_)
          clear hK K
          try simp only [Act.put, List.setIfInBounds_toArray, List.set_cons_zero, List.set_cons_succ]
          refine wpAnyH_ready (rs := [6]) (by kernel_rfl) (by simp) ?_
          refine (AllReadyH.cons (o := { dst := some 14, op := Op.call { callee := Callee.builtin Builtin.append, args := #[Operand.tmp 11, Operand.tmp 13], argTypes := #[28, 28] }, type := 28, pos := "ref.go:191", after := #[{ on := 3, ground := Ground.data }, { on := 5, ground := Ground.data }, { on := 5, ground := Ground.chain }], guard := none }) rfl (fun K hK => ?_) AllReadyH.nil)
          · rw [if_pos (by rfl)]
            obtain ⟨v2, W5, hrun, hown, hgr, hat⟩ := append_sl (P := Try.prog) (w := W4) (t := 28) (e := 5) Try.underlying28 HI.out HZI0.out HZI1.out HZI2.out bs v1 (0 + X.length) ([] ++ X) HO4.out _ (endS n) HE4.out HEL.out hbl 28
            refine wp_append_run (.tmp 11) (.tmp 13) 28 28 28 rfl rfl _ _ v2 W5 rfl rfl hrun ?_
            have hrw : ∀ k, v1.ownBlock = some k → bs ≤ k := own_block_le HO4.out
            have HB5 := hide (HB4.out.grown hgr HB4.out.size (fun k e => by have := hrw k e; omega))
            have H05 : Hid (Blk W5 w.heap.size 24 .u32 sv) := hide ((hgr.block w.heap.size H04.out.lt (fun e => by have := hrw _ e.symm; omega)).trans H04.out)
            have HZ5 : Hid (Blk W5 (w.heap.size + 1) 36 .u8 zeros32) := hide ((hgr.block (w.heap.size + 1) HZ4.out.lt (fun e => by have := hrw _ e.symm; omega)).trans HZ4.out)
            have hbs5 : w.heap.size + 2 ≤ W5.heap.size := Nat.le_trans hbs4 hgr.size
            have HO5 := hide hown
            clear hrun hown hgr hat hrw
            refine hK.out _ _ trivial (fun hHeld => ?_)
            clear hK K
            try simp only [Act.put, List.setIfInBounds_toArray, List.set_cons_zero, List.set_cons_succ]
            refine wpAnyH_ready (rs := [7]) (by kernel_rfl) (by simp) ?_
            refine (AllReadyH.cons (o := { dst := some 15, op := Op.call { callee := Callee.value (Operand.func 24), args := #[Operand.tmp 8, Operand.tmp 14], argTypes := #[24, 28] }, type := 43, pos := "ref.go:191", after := #[{ on := 0, ground := Ground.data }, { on := 6, ground := Ground.data }, { on := 6, ground := Ground.chain }], guard := none }) rfl (fun K hK => ?_) AllReadyH.nil)
            · go_simp
              have hsl : SlAt W5 v2 (X ++ endS n) := by have := slAt_ownV HO5.out; rwa [List.nil_append] at this
              refine (blocks_ref sv (X ++ endS n) v2 W5 HH.out hsl HBYE.out HLE.out).mono ?_
              rintro e W6 ⟨bv, rfl, _, hBX⟩
              have HB6 := hide (below_through hBX HB5.out)
              have H06 := hide (blk_through hBX H05.out)
              have HZ6 := hide (blk_through hBX HZ5.out)
              clear hBX hsl
              rw [← HST.out]
              dsimp only
              refine hK.out _ _ trivial (fun hHeld => ?_)
              clear hK K
              try simp only [Act.put, List.setIfInBounds_toArray, List.set_cons_zero, List.set_cons_succ]
              refine wpAnyH_take (i := 8) (oi := { dst := some 7, op := Op.move (Operand.tmp 15), type := 43, pos := "ref.go:191", after := #[{ on := 7, ground := Ground.data }], guard := none }) (v := ?_) rfl (by kernel_rfl) (by kernel_rfl) (by kernel_rfl) (fun _ _ _ h => h) (Or.inl ⟨by rfl, ?_⟩) hHeld ?_
              rotate_left
              · intro w hSw; (try dsimp only at hSw); go_simp; first | done | with_reducible rfl
              try simp only [Act.put, List.setIfInBounds_toArray, List.set_cons_zero, List.set_cons_succ]
              refine wpAnyH_take (i := 9) (oi := { dst := some 16, op := Op.extract (Operand.tmp 7) 0, type := 24, pos := "ref.go:191", after := #[{ on := 8, ground := Ground.data }], guard := none }) (v := ?_) rfl (by kernel_rfl) (by kernel_rfl) (by kernel_rfl) (fun _ _ _ h => h) (Or.inl ⟨by rfl, ?_⟩) hHeld ?_
              rotate_left
              · intro w hSw; (try dsimp only at hSw); go_simp; first | done | with_reducible rfl
              try simp only [Act.put, List.setIfInBounds_toArray, List.set_cons_zero, List.set_cons_succ]
              refine wpAnyH_take (i := 10) (oi := { dst := some 17, op := Op.extract (Operand.tmp 7) 1, type := 28, pos := "ref.go:191", after := #[{ on := 8, ground := Ground.data }, { on := 11, ground := Ground.gcOnly Departure.lateStores }], guard := none }) (v := ?_) rfl (by kernel_rfl) (by kernel_rfl) (by kernel_rfl) (fun _ _ _ h => h) (Or.inl ⟨by rfl, ?_⟩) hHeld ?_
              rotate_left
              · intro w hSw; (try dsimp only at hSw); go_simp; first | done | with_reducible rfl
              try simp only [Act.put, List.setIfInBounds_toArray, List.set_cons_zero, List.set_cons_succ]
              refine wpAnyH_ready (rs := [11]) (by kernel_rfl) (by simp) ?_
              refine AllReadyH.cons (o := { dst := none, op := Op.store 24 (Operand.tmp 3) (Operand.tmp 16), type := 0, pos := "ref.go:191", after := #[{ on := 9, ground := Ground.data }, { on := 7, ground := Ground.chain }, { on := 0, ground := Ground.phase }, { on := 1, ground := Ground.phase }, { on := 2, ground := Ground.phase }, { on := 3, ground := Ground.phase }, { on := 4, ground := Ground.phase }, { on := 5, ground := Ground.phase }, { on := 6, ground := Ground.phase }, { on := 7, ground := Ground.phase }, { on := 8, ground := Ground.phase }, { on := 9, ground := Ground.phase }, { on := 10, ground := Ground.textOnly Departure.lateStores }], guard := none }) rfl (fun K hK => ?_) AllReadyH.nil
              rw [if_pos (by rfl)]
              refine wp_store_row _ _ _ rfl w.heap.size (cellsOf .u32 st) rfl rfl _ _ H06.out.row (sz24 st HL8.out) (szEq _ _ (HH.out.trans HL8.out.symm)) (oneCell_cellsOf _ _) ?_
              refine hK.out _ _ trivial (fun hHeld => ?_)
              clear hK K
              try simp only [Act.put]
              refine wpAnyH_done (by kernel_rfl) ?_ _
              have hB6 := below_setRow HB6.out (Nat.le_refl _) (cellsOf .u32 st)
              have hr6 := H06.out.setRow st
              have hz6 := HZ6.out.rowOther w.heap.size (cellsOf .u32 st) (by omega)
              generalize W6.setRow w.heap.size (cellsOf .u32 st) = W9 at hB6 hr6 hz6 ⊢
              go_wp2_with (first | (with_reducible refine wpList_load_row rfl 24 (.tmp 3) rfl w.heap.size rfl _ _ (0, 0) _ hr6.row Try.underlying24 rfl (sz24 st HL8.out) ?_))
              refine (out_ref st _ HL8).mono ?_
              rintro e WA ⟨rfl, hBX⟩
              have hB7 := below_through hBX hB6
              have hz7 := blk_through hBX hz6
              clear hBX hB6 hz6 hr6
              go_wp2_with (first | (with_reducible refine wpList_store_row rfl 36 (.tmp 6) (.tmp 19) rfl (w.heap.size + 1) _ rfl rfl _ _ hz7.row (sz36 _ (length_outS _)) (szZ32 _ (length_outS _)) (oneCell_cellsOf _ _) ?_))
              refine bodyPost_ret (v := .agg (cellsOf .u8 (outS st))) (results_cell_row rfl _ _ (w.heap.size + 1) _ _ (0, 0) _ rfl (hz7.setRow (outS st)).row Try.underlying36 rfl (sz36 _ (length_outS _))) rfl ?_
              exact ⟨by rw [HST.out], below_setRow hB7 (by omega) _⟩
    · rw [if_pos (by rfl)]
      obtain ⟨v1, W2, hrun, hown, hgr, hat⟩ := append_sl (P := Try.prog) (w := W1) (t := 28) (e := 5) Try.underlying28 HI.out HZI0.out HZI1.out HZI2.out bs (.slice (some ⟨bs, 0, none⟩) 0 0) 0 [] HO1.out rv X (HX.out.below HB1.out) (by rw [Nat.zero_add]; exact HXL.out) hbl 28
      refine wp_append_run (.tmp 9) (.tmp 10) 28 28 28 rfl rfl _ _ v1 W2 rfl rfl hrun ?_
      have hrw : ∀ k, (Value.slice (some ⟨bs, 0, none⟩) 0 0).ownBlock = some k → bs ≤ k := fun k e => by simp [Value.ownBlock] at e; omega
      have HB2 := hide (HB1.out.grown hgr HB1.out.size (fun k e => by have := hrw k e; omega))
      have H02 : Hid (Blk W2 w.heap.size 24 .u32 sv) := hide ((hgr.block w.heap.size H01.out.lt (fun e => by have := hrw _ e.symm; omega)).trans H01.out)
      have HZ2 : Hid (Blk W2 (w.heap.size + 1) 36 .u8 zeros32) := hide ((hgr.block (w.heap.size + 1) HZ1.out.lt (fun e => by have := hrw _ e.symm; omega)).trans HZ1.out)
      have hbs2 : w.heap.size + 2 ≤ W2.heap.size := Nat.le_trans hbs1 hgr.size
      replace hbl := Nat.le_trans hbl hgr.size
      have HO2 := hide hown
      clear hrun hown hgr hat hrw
      refine hK.out _ _ trivial (fun hHeld => ?_)
      clear hK K
      try simp only [Act.put, List.setIfInBounds_toArray, List.set_cons_zero, List.set_cons_succ]
      refine wpAnyH_ready (rs := [0, 5]) (by kernel_rfl) (by simp) ?_
      refine (AllReadyH.cons (o := { dst := some 8, op := Op.load 24 (Operand.tmp 3), type := 24, pos := "ref.go:191", after := #[], guard := none }) rfl (fun K hK => ?_) (AllReadyH.cons (o := { dst := some 13, op := Op.call { callee := Callee.value (Operand.func 19), args := #[Operand.tmp 12], argTypes := #[29] }, type := 28, pos := "ref.go:191", after := #[{ on := 4, ground := Ground.data }, { on := 3, ground := Ground.chain }], guard := none }) rfl (fun K hK => ?_) AllReadyH.nil))
      · rw [if_pos (by rfl)]
        refine wp_load_row _ _ rfl w.heap.size rfl _ _ (0, 0) _ H02.out.row Try.underlying24 rfl (sz24 sv HH.out) ?_
        have HB3 := HB2
        have H03 := H02
        have HZ3 := HZ2
        have HO3 := HO2
        refine hK.out _ _ trivial (fun hHeld => ?_)
        clear hK K
        try simp only [Act.put, List.setIfInBounds_toArray, List.set_cons_zero, List.set_cons_succ]
        have hbs3 := hbs2
        refine wpAnyH_ready (rs := [5]) (by kernel_rfl) (by simp) ?_
        refine (AllReadyH.cons (o := { dst := some 13, op := Op.call { callee := Callee.value (Operand.func 19), args := #[Operand.tmp 12], argTypes := #[29] }, type := 28, pos := "ref.go:191", after := #[{ on := 4, ground := Ground.data }, { on := 3, ground := Ground.chain }], guard := none }) rfl (fun K hK => ?_) AllReadyH.nil)
        · go_simp
          refine (end_ref n W2).mono ?_
          rintro e W4 ⟨ap, rfl, hsl, hBX⟩
          have HB4 := hide (below_through hBX HB3.out)
          have H04 := hide (blk_through hBX H03.out)
          have HZ4 := hide (blk_through hBX HZ3.out)
          have HO4 := hide (ownsRow_below HO3.out hBX)
          have hbs4 : w.heap.size + 2 ≤ W4.heap.size := Nat.le_trans hbs3 hBX.size
          replace hbl := Nat.le_trans hbl hBX.size
          have HE4 := hide hsl
          clear hBX hsl
          dsimp only
          refine hK.out _ _ trivial (fun hHeld => ?_)
          clear hK K
          try simp only [Act.put, List.setIfInBounds_toArray, List.set_cons_zero, List.set_cons_succ]
          refine wpAnyH_ready (rs := [6]) (by kernel_rfl) (by simp) ?_
          refine (AllReadyH.cons (o := { dst := some 14, op := Op.call { callee := Callee.builtin Builtin.append, args := #[Operand.tmp 11, Operand.tmp 13], argTypes := #[28, 28] }, type := 28, pos := "ref.go:191", after := #[{ on := 3, ground := Ground.data }, { on := 5, ground := Ground.data }, { on := 5, ground := Ground.chain }], guard := none }) rfl (fun K hK => ?_) AllReadyH.nil)
          · rw [if_pos (by rfl)]
            obtain ⟨v2, W5, hrun, hown, hgr, hat⟩ := append_sl (P := Try.prog) (w := W4) (t := 28) (e := 5) Try.underlying28 HI.out HZI0.out HZI1.out HZI2.out bs v1 (0 + X.length) ([] ++ X) HO4.out _ (endS n) HE4.out HEL.out hbl 28
            refine wp_append_run (.tmp 11) (.tmp 13) 28 28 28 rfl rfl _ _ v2 W5 rfl rfl hrun ?_
            have hrw : ∀ k, v1.ownBlock = some k → bs ≤ k := own_block_le HO4.out
            have HB5 := hide (HB4.out.grown hgr HB4.out.size (fun k e => by have := hrw k e; omega))
            have H05 : Hid (Blk W5 w.heap.size 24 .u32 sv) := hide ((hgr.block w.heap.size H04.out.lt (fun e => by have := hrw _ e.symm; omega)).trans H04.out)
            have HZ5 : Hid (Blk W5 (w.heap.size + 1) 36 .u8 zeros32) := hide ((hgr.block (w.heap.size + 1) HZ4.out.lt (fun e => by have := hrw _ e.symm; omega)).trans HZ4.out)
            have hbs5 : w.heap.size + 2 ≤ W5.heap.size := Nat.le_trans hbs4 hgr.size
            have HO5 := hide hown
            clear hrun hown hgr hat hrw
            refine hK.out _ _ trivial (fun hHeld => ?_)
            clear hK K
            try simp only [Act.put, List.setIfInBounds_toArray, List.set_cons_zero, List.set_cons_succ]
            refine wpAnyH_ready (rs := [7]) (by kernel_rfl) (by simp) ?_
            refine (AllReadyH.cons (o := { dst := some 15, op := Op.call { callee := Callee.value (Operand.func 24), args := #[Operand.tmp 8, Operand.tmp 14], argTypes := #[24, 28] }, type := 43, pos := "ref.go:191", after := #[{ on := 0, ground := Ground.data }, { on := 6, ground := Ground.data }, { on := 6, ground := Ground.chain }], guard := none }) rfl (fun K hK => ?_) AllReadyH.nil)
            · go_simp
              have hsl : SlAt W5 v2 (X ++ endS n) := by have := slAt_ownV HO5.out; rwa [List.nil_append] at this
              refine (blocks_ref sv (X ++ endS n) v2 W5 HH.out hsl HBYE.out HLE.out).mono ?_
              rintro e W6 ⟨bv, rfl, _, hBX⟩
              have HB6 := hide (below_through hBX HB5.out)
              have H06 := hide (blk_through hBX H05.out)
              have HZ6 := hide (blk_through hBX HZ5.out)
              clear hBX hsl
              rw [← HST.out]
              dsimp only
              refine hK.out _ _ trivial (fun hHeld => ?_)
              clear hK K
              try simp only [Act.put, List.setIfInBounds_toArray, List.set_cons_zero, List.set_cons_succ]
              refine wpAnyH_take (i := 8) (oi := { dst := some 7, op := Op.move (Operand.tmp 15), type := 43, pos := "ref.go:191", after := #[{ on := 7, ground := Ground.data }], guard := none }) (v := ?_) rfl (by kernel_rfl) (by kernel_rfl) (by kernel_rfl) (fun _ _ _ h => h) (Or.inl ⟨by rfl, ?_⟩) hHeld ?_
              rotate_left
              · intro w hSw; (try dsimp only at hSw); go_simp; first | done | with_reducible rfl
              try simp only [Act.put, List.setIfInBounds_toArray, List.set_cons_zero, List.set_cons_succ]
              refine wpAnyH_take (i := 9) (oi := { dst := some 16, op := Op.extract (Operand.tmp 7) 0, type := 24, pos := "ref.go:191", after := #[{ on := 8, ground := Ground.data }], guard := none }) (v := ?_) rfl (by kernel_rfl) (by kernel_rfl) (by kernel_rfl) (fun _ _ _ h => h) (Or.inl ⟨by rfl, ?_⟩) hHeld ?_
              rotate_left
              · intro w hSw; (try dsimp only at hSw); go_simp; first | done | with_reducible rfl
              try simp only [Act.put, List.setIfInBounds_toArray, List.set_cons_zero, List.set_cons_succ]
              refine wpAnyH_take (i := 10) (oi := { dst := some 17, op := Op.extract (Operand.tmp 7) 1, type := 28, pos := "ref.go:191", after := #[{ on := 8, ground := Ground.data }, { on := 11, ground := Ground.gcOnly Departure.lateStores }], guard := none }) (v := ?_) rfl (by kernel_rfl) (by kernel_rfl) (by kernel_rfl) (fun _ _ _ h => h) (Or.inl ⟨by rfl, ?_⟩) hHeld ?_
              rotate_left
              · intro w hSw; (try dsimp only at hSw); go_simp; first | done | with_reducible rfl
              try simp only [Act.put, List.setIfInBounds_toArray, List.set_cons_zero, List.set_cons_succ]
              refine wpAnyH_ready (rs := [11]) (by kernel_rfl) (by simp) ?_
              refine AllReadyH.cons (o := { dst := none, op := Op.store 24 (Operand.tmp 3) (Operand.tmp 16), type := 0, pos := "ref.go:191", after := #[{ on := 9, ground := Ground.data }, { on := 7, ground := Ground.chain }, { on := 0, ground := Ground.phase }, { on := 1, ground := Ground.phase }, { on := 2, ground := Ground.phase }, { on := 3, ground := Ground.phase }, { on := 4, ground := Ground.phase }, { on := 5, ground := Ground.phase }, { on := 6, ground := Ground.phase }, { on := 7, ground := Ground.phase }, { on := 8, ground := Ground.phase }, { on := 9, ground := Ground.phase }, { on := 10, ground := Ground.textOnly Departure.lateStores }], guard := none }) rfl (fun K hK => ?_) AllReadyH.nil
              rw [if_pos (by rfl)]
              refine wp_store_row _ _ _ rfl w.heap.size (cellsOf .u32 st) rfl rfl _ _ H06.out.row (sz24 st HL8.out) (szEq _ _ (HH.out.trans HL8.out.symm)) (oneCell_cellsOf _ _) ?_
              refine hK.out _ _ trivial (fun hHeld => ?_)
              clear hK K
              try simp only [Act.put]
              refine wpAnyH_done (by kernel_rfl) ?_ _
              have hB6 := below_setRow HB6.out (Nat.le_refl _) (cellsOf .u32 st)
              have hr6 := H06.out.setRow st
              have hz6 := HZ6.out.rowOther w.heap.size (cellsOf .u32 st) (by omega)
              generalize W6.setRow w.heap.size (cellsOf .u32 st) = W9 at hB6 hr6 hz6 ⊢
              go_wp2_with (first | (with_reducible refine wpList_load_row rfl 24 (.tmp 3) rfl w.heap.size rfl _ _ (0, 0) _ hr6.row Try.underlying24 rfl (sz24 st HL8.out) ?_))
              refine (out_ref st _ HL8).mono ?_
              rintro e WA ⟨rfl, hBX⟩
              have hB7 := below_through hBX hB6
              have hz7 := blk_through hBX hz6
              clear hBX hB6 hz6 hr6
              go_wp2_with (first | (with_reducible refine wpList_store_row rfl 36 (.tmp 6) (.tmp 19) rfl (w.heap.size + 1) _ rfl rfl _ _ hz7.row (sz36 _ (length_outS _)) (szZ32 _ (length_outS _)) (oneCell_cellsOf _ _) ?_))
              refine bodyPost_ret (v := .agg (cellsOf .u8 (outS st))) (results_cell_row rfl _ _ (w.heap.size + 1) _ _ (0, 0) _ rfl (hz7.setRow (outS st)).row Try.underlying36 rfl (sz36 _ (length_outS _))) rfl ?_
              exact ⟨by rw [HST.out], below_setRow hB7 (by omega) _⟩
      · go_simp
        refine (end_ref n W2).mono ?_
        rintro e W3 ⟨ap, rfl, hsl, hBX⟩
        have HB3 := hide (below_through hBX HB2.out)
        have H03 := hide (blk_through hBX H02.out)
        have HZ3 := hide (blk_through hBX HZ2.out)
        have HO3 := hide (ownsRow_below HO2.out hBX)
        have hbs3 : w.heap.size + 2 ≤ W3.heap.size := Nat.le_trans hbs2 hBX.size
        replace hbl := Nat.le_trans hbl hBX.size
        have HE3 := hide hsl
        clear hBX hsl
        dsimp only
        refine hK.out _ _ trivial (fun hHeld => ?_)
        clear hK K
        try simp only [Act.put, List.setIfInBounds_toArray, List.set_cons_zero, List.set_cons_succ]
        refine wpAnyH_ready (rs := [0, 6]) (by kernel_rfl) (by simp) ?_
        refine (AllReadyH.cons (o := { dst := some 8, op := Op.load 24 (Operand.tmp 3), type := 24, pos := "ref.go:191", after := #[], guard := none }) rfl (fun K hK => ?_) (AllReadyH.cons (o := { dst := some 14, op := Op.call { callee := Callee.builtin Builtin.append, args := #[Operand.tmp 11, Operand.tmp 13], argTypes := #[28, 28] }, type := 28, pos := "ref.go:191", after := #[{ on := 3, ground := Ground.data }, { on := 5, ground := Ground.data }, { on := 5, ground := Ground.chain }], guard := none }) rfl (fun K hK => ?_) AllReadyH.nil))
        · rw [if_pos (by rfl)]
          refine wp_load_row _ _ rfl w.heap.size rfl _ _ (0, 0) _ H03.out.row Try.underlying24 rfl (sz24 sv HH.out) ?_
          have HB4 := HB3
          have H04 := H03
          have HZ4 := HZ3
          have HO4 := HO3
          have HE4 := HE3
          refine hK.out _ _ trivial (fun hHeld => ?_)
          clear hK K
          try simp only [Act.put, List.setIfInBounds_toArray, List.set_cons_zero, List.set_cons_succ]
          have hbs4 := hbs3
          refine wpAnyH_ready (rs := [6]) (by kernel_rfl) (by simp) ?_
          refine (AllReadyH.cons (o := { dst := some 14, op := Op.call { callee := Callee.builtin Builtin.append, args := #[Operand.tmp 11, Operand.tmp 13], argTypes := #[28, 28] }, type := 28, pos := "ref.go:191", after := #[{ on := 3, ground := Ground.data }, { on := 5, ground := Ground.data }, { on := 5, ground := Ground.chain }], guard := none }) rfl (fun K hK => ?_) AllReadyH.nil)
          · rw [if_pos (by rfl)]
            obtain ⟨v2, W5, hrun, hown, hgr, hat⟩ := append_sl (P := Try.prog) (w := W3) (t := 28) (e := 5) Try.underlying28 HI.out HZI0.out HZI1.out HZI2.out bs v1 (0 + X.length) ([] ++ X) HO4.out _ (endS n) HE4.out HEL.out hbl 28
            refine wp_append_run (.tmp 11) (.tmp 13) 28 28 28 rfl rfl _ _ v2 W5 rfl rfl hrun ?_
            have hrw : ∀ k, v1.ownBlock = some k → bs ≤ k := own_block_le HO4.out
            have HB5 := hide (HB4.out.grown hgr HB4.out.size (fun k e => by have := hrw k e; omega))
            have H05 : Hid (Blk W5 w.heap.size 24 .u32 sv) := hide ((hgr.block w.heap.size H04.out.lt (fun e => by have := hrw _ e.symm; omega)).trans H04.out)
            have HZ5 : Hid (Blk W5 (w.heap.size + 1) 36 .u8 zeros32) := hide ((hgr.block (w.heap.size + 1) HZ4.out.lt (fun e => by have := hrw _ e.symm; omega)).trans HZ4.out)
            have hbs5 : w.heap.size + 2 ≤ W5.heap.size := Nat.le_trans hbs4 hgr.size
            have HO5 := hide hown
            clear hrun hown hgr hat hrw
            refine hK.out _ _ trivial (fun hHeld => ?_)
            clear hK K
            try simp only [Act.put, List.setIfInBounds_toArray, List.set_cons_zero, List.set_cons_succ]
            refine wpAnyH_ready (rs := [7]) (by kernel_rfl) (by simp) ?_
            refine (AllReadyH.cons (o := { dst := some 15, op := Op.call { callee := Callee.value (Operand.func 24), args := #[Operand.tmp 8, Operand.tmp 14], argTypes := #[24, 28] }, type := 43, pos := "ref.go:191", after := #[{ on := 0, ground := Ground.data }, { on := 6, ground := Ground.data }, { on := 6, ground := Ground.chain }], guard := none }) rfl (fun K hK => ?_) AllReadyH.nil)
            · go_simp
              have hsl : SlAt W5 v2 (X ++ endS n) := by have := slAt_ownV HO5.out; rwa [List.nil_append] at this
              refine (blocks_ref sv (X ++ endS n) v2 W5 HH.out hsl HBYE.out HLE.out).mono ?_
              rintro e W6 ⟨bv, rfl, _, hBX⟩
              have HB6 := hide (below_through hBX HB5.out)
              have H06 := hide (blk_through hBX H05.out)
              have HZ6 := hide (blk_through hBX HZ5.out)
              clear hBX hsl
              rw [← HST.out]
              dsimp only
              refine hK.out _ _ trivial (fun hHeld => ?_)
              clear hK K
              try simp only [Act.put, List.setIfInBounds_toArray, List.set_cons_zero, List.set_cons_succ]
              refine wpAnyH_take (i := 8) (oi := { dst := some 7, op := Op.move (Operand.tmp 15), type := 43, pos := "ref.go:191", after := #[{ on := 7, ground := Ground.data }], guard := none }) (v := ?_) rfl (by kernel_rfl) (by kernel_rfl) (by kernel_rfl) (fun _ _ _ h => h) (Or.inl ⟨by rfl, ?_⟩) hHeld ?_
              rotate_left
              · intro w hSw; (try dsimp only at hSw); go_simp; first | done | with_reducible rfl
              try simp only [Act.put, List.setIfInBounds_toArray, List.set_cons_zero, List.set_cons_succ]
              refine wpAnyH_take (i := 9) (oi := { dst := some 16, op := Op.extract (Operand.tmp 7) 0, type := 24, pos := "ref.go:191", after := #[{ on := 8, ground := Ground.data }], guard := none }) (v := ?_) rfl (by kernel_rfl) (by kernel_rfl) (by kernel_rfl) (fun _ _ _ h => h) (Or.inl ⟨by rfl, ?_⟩) hHeld ?_
              rotate_left
              · intro w hSw; (try dsimp only at hSw); go_simp; first | done | with_reducible rfl
              try simp only [Act.put, List.setIfInBounds_toArray, List.set_cons_zero, List.set_cons_succ]
              refine wpAnyH_take (i := 10) (oi := { dst := some 17, op := Op.extract (Operand.tmp 7) 1, type := 28, pos := "ref.go:191", after := #[{ on := 8, ground := Ground.data }, { on := 11, ground := Ground.gcOnly Departure.lateStores }], guard := none }) (v := ?_) rfl (by kernel_rfl) (by kernel_rfl) (by kernel_rfl) (fun _ _ _ h => h) (Or.inl ⟨by rfl, ?_⟩) hHeld ?_
              rotate_left
              · intro w hSw; (try dsimp only at hSw); go_simp; first | done | with_reducible rfl
              try simp only [Act.put, List.setIfInBounds_toArray, List.set_cons_zero, List.set_cons_succ]
              refine wpAnyH_ready (rs := [11]) (by kernel_rfl) (by simp) ?_
              refine AllReadyH.cons (o := { dst := none, op := Op.store 24 (Operand.tmp 3) (Operand.tmp 16), type := 0, pos := "ref.go:191", after := #[{ on := 9, ground := Ground.data }, { on := 7, ground := Ground.chain }, { on := 0, ground := Ground.phase }, { on := 1, ground := Ground.phase }, { on := 2, ground := Ground.phase }, { on := 3, ground := Ground.phase }, { on := 4, ground := Ground.phase }, { on := 5, ground := Ground.phase }, { on := 6, ground := Ground.phase }, { on := 7, ground := Ground.phase }, { on := 8, ground := Ground.phase }, { on := 9, ground := Ground.phase }, { on := 10, ground := Ground.textOnly Departure.lateStores }], guard := none }) rfl (fun K hK => ?_) AllReadyH.nil
              rw [if_pos (by rfl)]
              refine wp_store_row _ _ _ rfl w.heap.size (cellsOf .u32 st) rfl rfl _ _ H06.out.row (sz24 st HL8.out) (szEq _ _ (HH.out.trans HL8.out.symm)) (oneCell_cellsOf _ _) ?_
              refine hK.out _ _ trivial (fun hHeld => ?_)
              clear hK K
              try simp only [Act.put]
              refine wpAnyH_done (by kernel_rfl) ?_ _
              have hB6 := below_setRow HB6.out (Nat.le_refl _) (cellsOf .u32 st)
              have hr6 := H06.out.setRow st
              have hz6 := HZ6.out.rowOther w.heap.size (cellsOf .u32 st) (by omega)
              generalize W6.setRow w.heap.size (cellsOf .u32 st) = W9 at hB6 hr6 hz6 ⊢
              go_wp2_with (first | (with_reducible refine wpList_load_row rfl 24 (.tmp 3) rfl w.heap.size rfl _ _ (0, 0) _ hr6.row Try.underlying24 rfl (sz24 st HL8.out) ?_))
              refine (out_ref st _ HL8).mono ?_
              rintro e WA ⟨rfl, hBX⟩
              have hB7 := below_through hBX hB6
              have hz7 := blk_through hBX hz6
              clear hBX hB6 hz6 hr6
              go_wp2_with (first | (with_reducible refine wpList_store_row rfl 36 (.tmp 6) (.tmp 19) rfl (w.heap.size + 1) _ rfl rfl _ _ hz7.row (sz36 _ (length_outS _)) (szZ32 _ (length_outS _)) (oneCell_cellsOf _ _) ?_))
              refine bodyPost_ret (v := .agg (cellsOf .u8 (outS st))) (results_cell_row rfl _ _ (w.heap.size + 1) _ _ (0, 0) _ rfl (hz7.setRow (outS st)).row Try.underlying36 rfl (sz36 _ (length_outS _))) rfl ?_
              exact ⟨by rw [HST.out], below_setRow hB7 (by omega) _⟩
        · rw [if_pos (by rfl)]
          obtain ⟨v2, W4, hrun, hown, hgr, hat⟩ := append_sl (P := Try.prog) (w := W3) (t := 28) (e := 5) Try.underlying28 HI.out HZI0.out HZI1.out HZI2.out bs v1 (0 + X.length) ([] ++ X) HO3.out _ (endS n) HE3.out HEL.out hbl 28
          refine wp_append_run (.tmp 11) (.tmp 13) 28 28 28 rfl rfl _ _ v2 W4 rfl rfl hrun ?_
          have hrw : ∀ k, v1.ownBlock = some k → bs ≤ k := own_block_le HO3.out
          have HB4 := hide (HB3.out.grown hgr HB3.out.size (fun k e => by have := hrw k e; omega))
          have H04 : Hid (Blk W4 w.heap.size 24 .u32 sv) := hide ((hgr.block w.heap.size H03.out.lt (fun e => by have := hrw _ e.symm; omega)).trans H03.out)
          have HZ4 : Hid (Blk W4 (w.heap.size + 1) 36 .u8 zeros32) := hide ((hgr.block (w.heap.size + 1) HZ3.out.lt (fun e => by have := hrw _ e.symm; omega)).trans HZ3.out)
          have hbs4 : w.heap.size + 2 ≤ W4.heap.size := Nat.le_trans hbs3 hgr.size
          have HO4 := hide hown
          clear hrun hown hgr hat hrw
          refine hK.out _ _ trivial (fun hHeld => ?_)
          clear hK K
          try simp only [Act.put, List.setIfInBounds_toArray, List.set_cons_zero, List.set_cons_succ]
          refine wpAnyH_ready (rs := [0]) (by kernel_rfl) (by simp) ?_
          refine (AllReadyH.cons (o := { dst := some 8, op := Op.load 24 (Operand.tmp 3), type := 24, pos := "ref.go:191", after := #[], guard := none }) rfl (fun K hK => ?_) AllReadyH.nil)
          · rw [if_pos (by rfl)]
            refine wp_load_row _ _ rfl w.heap.size rfl _ _ (0, 0) _ H04.out.row Try.underlying24 rfl (sz24 sv HH.out) ?_
            have HB5 := HB4
            have H05 := H04
            have HZ5 := HZ4
            have HO5 := HO4
            refine hK.out _ _ trivial (fun hHeld => ?_)
            clear hK K
            try simp only [Act.put, List.setIfInBounds_toArray, List.set_cons_zero, List.set_cons_succ]
            have hbs5 := hbs4
            refine wpAnyH_ready (rs := [7]) (by kernel_rfl) (by simp) ?_
            refine (AllReadyH.cons (o := { dst := some 15, op := Op.call { callee := Callee.value (Operand.func 24), args := #[Operand.tmp 8, Operand.tmp 14], argTypes := #[24, 28] }, type := 43, pos := "ref.go:191", after := #[{ on := 0, ground := Ground.data }, { on := 6, ground := Ground.data }, { on := 6, ground := Ground.chain }], guard := none }) rfl (fun K hK => ?_) AllReadyH.nil)
            · go_simp
              have hsl : SlAt W4 v2 (X ++ endS n) := by have := slAt_ownV HO5.out; rwa [List.nil_append] at this
              refine (blocks_ref sv (X ++ endS n) v2 W4 HH.out hsl HBYE.out HLE.out).mono ?_
              rintro e W6 ⟨bv, rfl, _, hBX⟩
              have HB6 := hide (below_through hBX HB5.out)
              have H06 := hide (blk_through hBX H05.out)
              have HZ6 := hide (blk_through hBX HZ5.out)
              clear hBX hsl
              rw [← HST.out]
              dsimp only
              refine hK.out _ _ trivial (fun hHeld => ?_)
              clear hK K
              try simp only [Act.put, List.setIfInBounds_toArray, List.set_cons_zero, List.set_cons_succ]
              refine wpAnyH_take (i := 8) (oi := { dst := some 7, op := Op.move (Operand.tmp 15), type := 43, pos := "ref.go:191", after := #[{ on := 7, ground := Ground.data }], guard := none }) (v := ?_) rfl (by kernel_rfl) (by kernel_rfl) (by kernel_rfl) (fun _ _ _ h => h) (Or.inl ⟨by rfl, ?_⟩) hHeld ?_
              rotate_left
              · intro w hSw; (try dsimp only at hSw); go_simp; first | done | with_reducible rfl
              try simp only [Act.put, List.setIfInBounds_toArray, List.set_cons_zero, List.set_cons_succ]
              refine wpAnyH_take (i := 9) (oi := { dst := some 16, op := Op.extract (Operand.tmp 7) 0, type := 24, pos := "ref.go:191", after := #[{ on := 8, ground := Ground.data }], guard := none }) (v := ?_) rfl (by kernel_rfl) (by kernel_rfl) (by kernel_rfl) (fun _ _ _ h => h) (Or.inl ⟨by rfl, ?_⟩) hHeld ?_
              rotate_left
              · intro w hSw; (try dsimp only at hSw); go_simp; first | done | with_reducible rfl
              try simp only [Act.put, List.setIfInBounds_toArray, List.set_cons_zero, List.set_cons_succ]
              refine wpAnyH_take (i := 10) (oi := { dst := some 17, op := Op.extract (Operand.tmp 7) 1, type := 28, pos := "ref.go:191", after := #[{ on := 8, ground := Ground.data }, { on := 11, ground := Ground.gcOnly Departure.lateStores }], guard := none }) (v := ?_) rfl (by kernel_rfl) (by kernel_rfl) (by kernel_rfl) (fun _ _ _ h => h) (Or.inl ⟨by rfl, ?_⟩) hHeld ?_
              rotate_left
              · intro w hSw; (try dsimp only at hSw); go_simp; first | done | with_reducible rfl
              try simp only [Act.put, List.setIfInBounds_toArray, List.set_cons_zero, List.set_cons_succ]
              refine wpAnyH_ready (rs := [11]) (by kernel_rfl) (by simp) ?_
              refine AllReadyH.cons (o := { dst := none, op := Op.store 24 (Operand.tmp 3) (Operand.tmp 16), type := 0, pos := "ref.go:191", after := #[{ on := 9, ground := Ground.data }, { on := 7, ground := Ground.chain }, { on := 0, ground := Ground.phase }, { on := 1, ground := Ground.phase }, { on := 2, ground := Ground.phase }, { on := 3, ground := Ground.phase }, { on := 4, ground := Ground.phase }, { on := 5, ground := Ground.phase }, { on := 6, ground := Ground.phase }, { on := 7, ground := Ground.phase }, { on := 8, ground := Ground.phase }, { on := 9, ground := Ground.phase }, { on := 10, ground := Ground.textOnly Departure.lateStores }], guard := none }) rfl (fun K hK => ?_) AllReadyH.nil
              rw [if_pos (by rfl)]
              refine wp_store_row _ _ _ rfl w.heap.size (cellsOf .u32 st) rfl rfl _ _ H06.out.row (sz24 st HL8.out) (szEq _ _ (HH.out.trans HL8.out.symm)) (oneCell_cellsOf _ _) ?_
              refine hK.out _ _ trivial (fun hHeld => ?_)
              clear hK K
              try simp only [Act.put]
              refine wpAnyH_done (by kernel_rfl) ?_ _
              have hB6 := below_setRow HB6.out (Nat.le_refl _) (cellsOf .u32 st)
              have hr6 := H06.out.setRow st
              have hz6 := HZ6.out.rowOther w.heap.size (cellsOf .u32 st) (by omega)
              generalize W6.setRow w.heap.size (cellsOf .u32 st) = W9 at hB6 hr6 hz6 ⊢
              go_wp2_with (first | (with_reducible refine wpList_load_row rfl 24 (.tmp 3) rfl w.heap.size rfl _ _ (0, 0) _ hr6.row Try.underlying24 rfl (sz24 st HL8.out) ?_))
              refine (out_ref st _ HL8).mono ?_
              rintro e WA ⟨rfl, hBX⟩
              have hB7 := below_through hBX hB6
              have hz7 := blk_through hBX hz6
              clear hBX hB6 hz6 hr6
              go_wp2_with (first | (with_reducible refine wpList_store_row rfl 36 (.tmp 6) (.tmp 19) rfl (w.heap.size + 1) _ rfl rfl _ _ hz7.row (sz36 _ (length_outS _)) (szZ32 _ (length_outS _)) (oneCell_cellsOf _ _) ?_))
              refine bodyPost_ret (v := .agg (cellsOf .u8 (outS st))) (results_cell_row rfl _ _ (w.heap.size + 1) _ _ (0, 0) _ rfl (hz7.setRow (outS st)).row Try.underlying36 rfl (sz36 _ (length_outS _))) rfl ?_
              exact ⟨by rw [HST.out], below_setRow hB7 (by omega) _⟩
end Go.Proofs.Yteocienbfhgmjaa
