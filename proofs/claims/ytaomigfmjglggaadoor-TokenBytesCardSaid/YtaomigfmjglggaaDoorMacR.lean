/- The document's Blocks of layer 1: the state behind all whole blocks, and what is left. The document's Of and Sum of layer 1. Package mac: Equal. The document's Of of layer 2. Package mac: eightBytes, Derive; the document's Derive. The document's Derive of layer 2. -/
import Derived.Test.YtaomigfmjglggaaDoorProg
import Derived.Test.YtaomigfmjglggaaDoorRefBlock
import Derived.Test.YtaomigfmjglggaaDoorBase
import Derived.Test.YtaomigfmjglggaaDoorSumW
import Derived.Deep.RegionHeld3
import Derived.Deep.MidRow
import Derived.Test.YtaomigfmjglggaaDoorRefS
import Derived.Test.YtaomigfmjglggaaDoorMacA
import Derived.Test.YtaomigfmjglggaaDoorOf
import Derived.Test.YtaomigfmjglggaaDoorMacPl
import Derived.Test.YtaomigfmjglggaaDoorSpread
import Derived.Laws.BitsLemmas
import Derived.Lib.SmallJoins
import Derived.Deep.DeepCutAuto
import Derived.Deep.LoopGhost
namespace Go.Proofs.YtaomigfmjglggaaDoor
open Go.RowKit

theorem under26 : Tryd.prog.underlying 141 = some (.array 64 28) := Tryd.underlying141

theorem rangeAt_setRow {w : World} {g g' : Nat} {C : List Value} {cs : Array Value} (h : w.rangeAt g 0 C) (hne : g ≠ g') : (w.setRow g' cs).rangeAt g 0 C := fun j v hv => by
  have h2 := h j v hv
  unfold World.cell? at h2 ⊢
  rw [_root_.Go.setRow_other w g' g cs hne]
  exact h2

theorem blk_rangeK {w : World} {g : Nat} {t : TypeId} {k : IntKind} {l : List Int} (h : Blk w g t k l) : w.rangeAt g 0 (l.map (Value.int k)) := fun j v hv => by
  have hj : j < l.length := by
    rcases Nat.lt_or_ge j l.length with h | h
    · exact h
    · simp [h] at hv
  rw [Nat.zero_add, h.cell j hj]
  simp [hj] at hv
  simp [nth, List.getD, hj, hv]

/-- Behind the document's Blocks: the state behind the whole blocks, and a slice that reads as what is left. -/
def RefPost (sv X : List Int) (w : World) (e : Ending) (w' : World) : Prop :=
  ∃ bv, e = .returned (.tuple #[.agg (cellsOf .u32 (stAt sv X (X.length / 64))), bv]) ∧ SlAt w' bv (leftS X) ∧ Below w.heap.size w w'

set_option maxRecDepth 100000 in
set_option maxHeartbeats 1000000 in
theorem blocks_ref (sv X : List Int) (v : Value) (w : World) (hh : sv.length = 8) (hX : SlAt w v X) (hb : ∀ x ∈ X, 0 ≤ x ∧ x < 256) (_hl : X.length ≤ 1000000) :
    Calls Tryd.prog 93 #[.agg (cellsOf .u32 sv), v] w (RefPost sv X w) := by
  obtain ⟨n, hn⟩ : ∃ n, n = X.length := ⟨_, rfl⟩
  obtain ⟨ao, cap, rfl⟩ := hX.len
  have HX := hide hX
  have HN := hide hn
  have HH := hide hh
  have HBY := hide hb
  rw [← hn] at HX ⊢
  clear hX hn hh hb
  go_enter Tryd.func93, Tryd.ntmps93
  go_wp2_with (first | (with_reducible refine wpList_alloc_row rfl 124 rfl (cellsOf .u32 zeros8) zero24 ?_))
  have hB0 : Below w.heap.size w ((w.alloc (.cells (cellsOf .u32 sv) 124)).alloc (.cells (cellsOf .u32 zeros8) 124)) := ((Below.refl _ _).alloc (Nat.le_refl _) _).alloc (by simp) _
  have hb0 : Blk ((w.alloc (.cells (cellsOf .u32 sv) 124)).alloc (.cells (cellsOf .u32 zeros8) 124)) w.heap.size 124 .u32 sv := heap_alloc2_old _ _ _
  have hb1 : Blk ((w.alloc (.cells (cellsOf .u32 sv) 124)).alloc (.cells (cellsOf .u32 zeros8) 124)) (w.heap.size + 1) 124 .u32 zeros8 := heap_alloc2_new _ _ _
  generalize ((w.alloc (.cells (cellsOf .u32 sv) 124)).alloc (.cells (cellsOf .u32 zeros8) 124)) = w0 at hB0 hb0 hb1 ⊢
  refine (table_ref _).mono ?_
  rintro e w1 ⟨rfl, hBX⟩
  have hb0' := blk_through hBX hb0
  have hb1' := blk_through hBX hb1
  have hB1 := below_through hBX hB0
  clear hBX hb0 hb1 hB0 w0
  go_wp2_with (first | (with_reducible refine wpList_alloc_row rfl 141 rfl (cellsOf .u32 zeros64) zero26 ?_) | (with_reducible refine wpList_store_row rfl 141 (.tmp 6) (.tmp 7) rfl w1.heap.size (cellsOf .u32 keysS) rfl rfl _ _ (heap_alloc_new _ _) (sz26 keysS rfl) (szEq zeros64 keysS rfl) (oneCell_cellsOf _ _) ?_))
  obtain ⟨W2, hW2⟩ : ∃ W2, W2 = (w1.alloc (.cells (cellsOf .u32 zeros64) 141)).setRow w1.heap.size (cellsOf .u32 keysS) := ⟨_, rfl⟩
  have hc0 : Blk W2 w.heap.size 124 .u32 sv := by rw [hW2]; exact (hb0'.alloc _).rowOther _ _ (Nat.ne_of_lt hb0'.lt)
  have hc1 : Blk W2 (w.heap.size + 1) 124 .u32 zeros8 := by rw [hW2]; exact (hb1'.alloc _).rowOther _ _ (Nat.ne_of_lt hb1'.lt)
  have hc2 : Blk W2 w1.heap.size 141 .u32 keysS := by rw [hW2]; exact (Blk.new w1 _ .u32 zeros64).setRow keysS
  have hcB : Below w.heap.size w W2 := by rw [hW2]; exact below_setRow (hB1.alloc hB1.size _) hB1.size _
  have hgg : w.heap.size + 1 < w1.heap.size := hb1'.lt
  rw [← hW2]
  clear hW2 hb0' hb1' hB1
  generalize w1.heap.size = g2 at hc2 hgg ⊢
  simp only [Act.put, List.setIfInBounds_toArray, List.set_cons_zero, List.set_cons_succ]
  go_loopw [1] (fun b wr => ∃ (m q : Nat) (aq : Option Addr) (cq : Nat), q + 64 * m = n ∧ b = .slice aq q cq ∧ SlAt w (.slice aq q cq) (X.drop (64 * m)) ∧ Blk wr w.heap.size 124 .u32 (stAt sv X m) ∧ Blk wr (w.heap.size + 1) 124 .u32 zeros8 ∧ Blk wr g2 141 .u32 keysS ∧ Below w.heap.size w wr)
    (fun b _ => match b with | .slice _ q _ => q | _ => 0)
  case atStart => exact ⟨0, n, ao, cap, by omega, rfl, HX.out, hc0, hc1, hc2, hcB⟩
  case round =>
    obtain ⟨m, q, aq, cq, hq, rfl, hsl, h0, h1, h2, hB⟩ := hrel
    clear hc0 hc1 hc2 hcB
    by_cases hlt : 64 ≤ q
    · have hqc : q ≤ cq := hsl.le.1
      have hcut1 : ∀ w, (Instr.sliceAt 22 (.slice aq q cq) none (some (.int .i64 64)) none).run Tryd.prog w = .ok (.slice aq 64 cq) w := fun w => run_cut_h (P := Tryd.prog) (t := 22) (e := 5) Tryd.underlying22 size5 aq q cq 64 (by omega) w
      have HCUT2 : Hid (∀ w, (Instr.sliceAt 22 (.slice aq q cq) (some (.int .i64 64)) none none).run Tryd.prog w = .ok (sl aq 64 (q - 64) cq) w) := hide (fun w => run_cut_l (P := Tryd.prog) (t := 22) (e := 5) Tryd.underlying22 size5 aq q cq 64 hlt w)
      obtain ⟨st, hst⟩ : ∃ st, st = stAt sv X m := ⟨_, rfl⟩
      rw [← hst] at h0
      have HSTE := hide hst
      have HST : Hid (st.length = 8) := hide (by rw [hst]; exact length_stAt _ _ HH.out _)
      obtain ⟨bl, hbl⟩ : ∃ bl, bl = (X.drop (64 * m)).take 64 := ⟨_, rfl⟩
      have HBLE := hide hbl
      have HTK : Hid ((takeS st keysS bl).length = 8) := hide ((length_takeS _ _ _).trans HST.out)
      have HBL64 : Hid (bl.length = 64) := hide (by have := HN.out; rw [hbl]; simp; omega)
      have HBLB : Hid (∀ x ∈ bl, 0 ≤ x ∧ x < 256) := hide (fun x hx => HBY.out x (by rw [hbl] at hx; exact List.mem_of_mem_drop (List.mem_of_mem_take hx)))
      obtain ⟨KL, hK⟩ : ∃ KL, KL = keysS.map (Value.int .u32) := ⟨_, rfl⟩
      have HINF : Hid ((Tryd.prog.info? 141).map (·.size) = some KL.length) := hide (by rw [hK, List.length_map]; exact size26)
      have HSL := hide hsl
      have HXd : Hid (SlAt wr.drew (.slice aq q cq) (X.drop (64 * m))) := hide (hsl.below hB.drew)
      have H0d : Hid (Blk wr.drew w.heap.size 124 .u32 st) := hide h0
      have H1d : Hid (Blk wr.drew (w.heap.size + 1) 124 .u32 zeros8) := hide h1
      have H2d : Hid (Blk wr.drew g2 141 .u32 keysS) := hide h2
      have HBd : Hid (Below w.heap.size w wr.drew) := hide hB.drew
      have HK : Hid (wr.drew.rangeAt g2 0 KL) := hide (by rw [hK]; exact blk_rangeK H2d.out)
      have hg2d : g2 < wr.drew.heap.size := h2.lt
      have hne : g2 ≠ w.heap.size := by omega
      have HBL0 := block_ref st keysS bl (.slice aq 64 cq) wr.drew HST (hide rfl) HBL64 HBLB (by rw [hbl]; exact HXd.out.front' hlt)
      have hKA : cellsOf .u32 keysS = KL.toArray := by rw [hK]; rfl
      rw [hKA] at HBL0
      have HBL := hide HBL0
      clear HBL0 hKA hK hsl h0 h1 h2 hB hst hbl
      go_wp2_with fail
      refine wp_region_held_drew (S := fun w' => w'.rangeAt g2 0 KL) (by kernel_rfl) (fun j v hv => HK.out j v hv) (fun hHeld => ?_)
      refine wpAnyH_take (i := 1) (oi := { dst := some 12, op := Op.move (Operand.tmp 1), type := 22, pos := "ref.go:177", after := #[], guard := none }) (v := ?_) rfl (by kernel_rfl) (by kernel_rfl) (by kernel_rfl) (fun _ _ _ h => h) (Or.inl ⟨by rfl, ?_⟩) hHeld ?_
      rotate_left
      · intro w hSw; (try dsimp only at hSw); go_simp; first | done | with_reducible rfl
      try simp only [Act.put, List.setIfInBounds_toArray, List.set_cons_zero, List.set_cons_succ]
      refine wpAnyH_take (i := 2) (oi := { dst := some 13, op := Op.slice 22 (Operand.tmp 12) none (some (Operand.const (Value.int IntKind.i64 64))) none, type := 22, pos := "ref.go:177", after := #[{ on := 1, ground := Ground.data }], guard := none }) (v := ?_) rfl (by kernel_rfl) (by kernel_rfl) (by kernel_rfl) (fun _ _ _ h => h) (Or.inl ⟨by rfl, ?_⟩) hHeld ?_
      rotate_left
      · intro w hSw; (try dsimp only at hSw); go_simp; first | done | with_reducible rfl
      try simp only [Act.put, List.setIfInBounds_toArray, List.set_cons_zero, List.set_cons_succ]
      refine wpAnyH_take (i := 3) (oi := { dst := some 14, op := Op.load 141 (Operand.tmp 6), type := 141, pos := "ref.go:177", after := #[], guard := none }) (v := .agg KL.toArray) rfl (by kernel_rfl) (by kernel_rfl) (by kernel_rfl) (fun _ _ _ h => h) (yieldsIf_load_mid (by rfl) _ _ rfl g2 0 rfl KL _ (fun w hS => hS) under26 rfl HINF.out) hHeld ?_
      try simp only [Act.put, List.setIfInBounds_toArray, List.set_cons_zero, List.set_cons_succ]
      refine wpAnyH_ready (rs := [0]) (by kernel_rfl) (by simp) ?_
      refine AllReadyH.cons (o := { dst := some 11, op := Op.load 124 (Operand.tmp 2), type := 124, pos := "ref.go:177", after := #[], guard := none }) rfl (fun K hK => ?_) AllReadyH.nil
      clear hHeld
      rw [if_pos (by rfl)]
      refine wp_load_row _ _ rfl w.heap.size rfl _ _ (0, 0) _ H0d.out.row Tryd.underlying124 rfl (sz24 _ HST.out) ?_
      refine hK.out _ _ (HK.out) (fun hHeld => ?_)
      clear hK K
      try simp only [Act.put, List.setIfInBounds_toArray, List.set_cons_zero, List.set_cons_succ]
      refine wpAnyH_ready (rs := [4]) (by kernel_rfl) (by simp) ?_
      refine AllReadyH.cons (o := { dst := some 15, op := Op.call { callee := Callee.value (Operand.func 107), args := #[Operand.tmp 11, Operand.tmp 13, Operand.tmp 14], argTypes := #[124, 22, 141] }, type := 124, pos := "ref.go:177", after := #[{ on := 0, ground := Ground.data }, { on := 2, ground := Ground.data }, { on := 3, ground := Ground.data }], guard := none }) rfl (fun K hK => ?_) AllReadyH.nil
      clear hHeld
      go_simp
      refine (HBL.out).mono ?_
      rintro e wB ⟨rfl, hBX⟩
      have HKB : Hid (wB.rangeAt g2 0 KL) := hide (fun j v hv => (hBX.cell (p := ⟨g2, 0 + j, none⟩) hg2d).trans (HK.out j v hv))
      have H0B := hide (blk_through hBX H0d.out)
      have H1B := hide (blk_through hBX H1d.out)
      have H2B := hide (blk_through hBX H2d.out)
      have HBB := hide (below_through hBX HBd.out)
      clear hBX
      dsimp only
      refine hK.out _ _ (HKB.out) (fun hHeld => ?_)
      clear hK K
      try simp only [Act.put, List.setIfInBounds_toArray, List.set_cons_zero, List.set_cons_succ]
      refine wpAnyH_ready (rs := [5]) (by kernel_rfl) (by simp) ?_
      refine AllReadyH.cons (o := { dst := none, op := Op.store 124 (Operand.tmp 2) (Operand.tmp 15), type := 0, pos := "ref.go:177", after := #[{ on := 4, ground := Ground.data }, { on := 4, ground := Ground.chain }, { on := 0, ground := Ground.phase }, { on := 1, ground := Ground.phase }, { on := 2, ground := Ground.phase }, { on := 3, ground := Ground.phase }, { on := 4, ground := Ground.phase }], guard := none }) rfl (fun K hK => ?_) AllReadyH.nil
      clear hHeld
      rw [if_pos (by rfl)]
      refine wp_store_row _ _ _ rfl w.heap.size (cellsOf .u32 (takeS st keysS bl)) rfl rfl _ _ H0B.out.row (sz24 _ HTK.out) (szEq _ _ (HST.out.trans HTK.out.symm)) (oneCell_cellsOf _ _) ?_
      refine hK.out _ _ (rangeAt_setRow HKB.out hne) (fun hHeld => ?_)
      clear hK K
      try simp only [Act.put]
      refine wpAnyH_done (by kernel_rfl) ?_ _
      clear hcut1
      obtain ⟨b2, hv2⟩ := sl_len aq 64 (q - 64) cq
      have hcut2 := HCUT2.out
      rw [hv2] at hcut2
      have HN2 : Hid (SlAt w (.slice b2 (q - 64) (cq - 64)) (X.drop (64 * (m + 1)))) := hide (by
        have h := HSL.out.cut (lo := 64) (m := q - 64) (by omega)
        rw [hv2, List.drop_drop, List.take_of_length_le (by have := HN.out; simp; omega), show 64 * m + 64 = 64 * (m + 1) by omega] at h
        exact h)
      have hw0 := H0B.out.setRow (takeS st keysS bl)
      have hw1 := H1B.out.rowOther w.heap.size (cellsOf .u32 (takeS st keysS bl)) (by omega)
      have hw2 := H2B.out.rowOther w.heap.size (cellsOf .u32 (takeS st keysS bl)) hne
      have hwB := below_setRow HBB.out (Nat.le_refl _) (cellsOf .u32 (takeS st keysS bl))
      have HW0 : Hid (Blk (wB.setRow w.heap.size (cellsOf .u32 (takeS st keysS bl))) w.heap.size 124 .u32 (stAt sv X (m + 1))) := hide (by rw [stAt, ← HSTE.out, ← HBLE.out]; exact hw0)
      have HW1 := hide hw1
      have HW2 := hide hw2
      have HWB := hide hwB
      clear hw0 hw1 hw2 hwB hv2 HCUT2 HSL H0B H1B H2B HBB HKB
      go_wp2_with fail
      go_roundw
      case rel => exact ⟨m + 1, q - 64, b2, cq - 64, by omega, rfl, HN2.out, HW0.out, HW1.out, HW2.out, HWB.out⟩
      case measure => show q - 64 < q; omega
    · have hl8 := length_stAt sv X HH.out m
      have hm : m = n / 64 := by omega
      have HST : Hid (stAt sv X m = stAt sv X (X.length / 64)) := hide (by rw [hm, HN.out])
      have HL : Hid (X.drop (64 * m) = leftS X) := hide (by rw [leftS, hm, HN.out])
      have HSL := hide hsl
      obtain ⟨st, hst⟩ : ∃ st, st = stAt sv X m := ⟨_, rfl⟩
      rw [← hst] at h0 hl8 HST
      have HL8 := hide hl8
      clear hst hsl hl8 h2
      go_wp2_with (first | (with_reducible refine wpList_load_row rfl 124 (.tmp 2) rfl w.heap.size rfl _ _ (0, 0) _ h0.row Tryd.underlying124 rfl (sz24 st HL8.out) ?_) | (with_reducible refine wpList_store_row rfl 124 (.tmp 4) (.tmp 18) rfl (w.heap.size + 1) _ rfl rfl _ _ h1.row (sz24 st HL8.out) (szZ8 st HL8.out) (oneCell_cellsOf _ _) ?_))
      refine bodyPost_ret (results_cell_tmp rfl _ _ (w.heap.size + 1) _ _ (0, 0) _ rfl (h1.setRow st).row Tryd.underlying124 rfl (sz24 st HL8.out)) rfl ?_
      exact ⟨.slice aq q cq, by rw [HST.out]; rfl, by rw [← HL.out]; exact HSL.out.below (below_setRow hB (by omega) _), below_setRow hB (by omega) _⟩
end Go.Proofs.YtaomigfmjglggaaDoor
namespace Go.Proofs.YtaomigfmjglggaaDoor
open Go.RowKit

theorem endS_le (n : Nat) : (endS n).length ≤ 72 := by rw [length_endS]; unfold padZ; omega

set_option maxRecDepth 100000 in
set_option maxHeartbeats 1000000 in
theorem ofR_any (X : List Int) (v : Value) (w : World) (hX : SlAt w v X) (hb : ∀ x ∈ X, 0 ≤ x ∧ x < 256) (hl : X.length ≤ 100000) :
    Calls Tryd.prog 73 #[v] w (fun e w' => e = .returned (.agg (cellsOf .u8 (sumS X))) ∧ Below w.heap.size w w') := by
  obtain ⟨i0, hi, hz0, hz1, hz2⟩ := info_parts Tryd.info5
  obtain ⟨n, hn⟩ : ∃ n, n = X.length := ⟨_, rfl⟩
  obtain ⟨ao, cap, rfl⟩ := hX.len
  have HX := hide hX
  have HN := hide hn
  have HBY := hide hb
  rw [← hn] at HX hl ⊢
  clear hX hn hb
  have HI := hide hi
  have HZ0 := hide hz0
  have HZ1 := hide hz1
  have HZ2 := hide hz2
  clear hi hz0 hz1 hz2
  go_enter Tryd.func73, Tryd.ntmps73
  go_wp2_with (first | (with_reducible refine wpList_alloc_row rfl 29 rfl (cellsOf .u8 zeros32) zero36 ?_))
  have hB0 : Below w.heap.size w (w.alloc (.cells (cellsOf .u8 zeros32) 29)) := (Below.refl _ _).alloc (Nat.le_refl _) _
  have hb0 : Blk (w.alloc (.cells (cellsOf .u8 zeros32) 29)) w.heap.size 29 .u8 zeros32 := Blk.new _ _ _ _
  refine (begin_ref _).mono ?_
  rintro e w1 ⟨rfl, hBX⟩
  have HB1 := hide (below_through hBX hB0)
  have Hb1 := hide (blk_through hBX hb0)
  clear hBX hB0 hb0
  go_wp2_with (first
    | (at_builtin
       obtain ⟨v1, w2, hrun, hown, hgr, hat⟩ := append_sl (P := Tryd.prog) (w := w1.alloc (.cells #[] 5)) (t := 22) (e := 5) Tryd.underlying22 HI.out HZ0.out HZ1.out HZ2.out w1.heap.size (.slice (some ⟨w1.heap.size, 0, none⟩) 0 0) 0 [] (own_empty w1 _) (.slice ao n cap) X (HX.out.below (HB1.out.alloc HB1.out.size _)) (by rw [← HN.out]; omega) (by simp) 22
       refine wpList_append_run rfl (.tmp 7) (.tmp 8) 22 22 22 rfl rfl _ _ v1 w2 rfl rfl hrun ?_
       have HOWN := hide hown
       have HGR := hide hgr
       have HAT := hide hat
       clear hrun hown hgr hat))
  have hB2 : Below w.heap.size w w2 := (HB1.out.alloc HB1.out.size _).grown HGR.out (by have := HB1.out.size; simp; omega) (fun k e => by simp [Value.ownBlock] at e; rw [← e]; exact HB1.out.size)
  have hb2 : Blk w2 w.heap.size 29 .u8 zeros32 := (HGR.out.block w.heap.size (by have := Hb1.out.lt; simp; omega) (fun e => by simp [Value.ownBlock] at e; have := Hb1.out.lt; omega)).trans (Hb1.out.alloc _)
  have hs12 : w1.heap.size ≤ w2.heap.size := by have := HGR.out.size; simp at this; omega
  refine (end_ref n w2).mono ?_
  rintro e w3 ⟨ap, rfl, hsl, hBX⟩
  have HB3 := hide (below_through hBX hB2)
  have Hb3 := hide (blk_through hBX hb2)
  have HOWN3 := hide (ownsRow_below HOWN.out hBX)
  have HSL3 := hide hsl
  have hs13 : w1.heap.size ≤ w3.heap.size := Nat.le_trans hs12 hBX.size
  clear hBX hB2 hb2 hsl HOWN HGR hs12
  go_wp2_with (first
    | (at_builtin
       obtain ⟨v2, w4, hrun, hown, hgr, hat⟩ := append_sl (P := Tryd.prog) (w := w3) (t := 22) (e := 5) Tryd.underlying22 HI.out HZ0.out HZ1.out HZ2.out w1.heap.size v1 (0 + X.length) ([] ++ X) HOWN3.out _ (endS n) HSL3.out (by have := endS_le n; have := HN.out; omega) hs13 22
       refine wpList_append_run rfl (.tmp 9) (.tmp 13) 22 22 22 rfl rfl _ _ v2 w4 rfl rfl hrun ?_
       have HOWN4 := hide hown
       have HGR4 := hide hgr
       clear hrun hown hgr hat))
  have hrow1 : ∀ k, v1.ownBlock = some k → w1.heap.size ≤ k := fun k hk => by
    rcases HAT.out with e | e
    · rw [e] at hk; simp [Value.ownBlock] at hk; omega
    · rw [e] at hk; simp at hk; omega
  have hw1 : w.heap.size < w1.heap.size := Hb1.out.lt
  have hB4 : Below w.heap.size w w4 := HB3.out.grown HGR4.out HB3.out.size (fun k e => by have := hrow1 k e; omega)
  have hb4 : Blk w4 w.heap.size 29 .u8 zeros32 := (HGR4.out.block w.heap.size Hb3.out.lt (fun e => by have := hrow1 _ e.symm; omega)).trans Hb3.out
  have hsl4 : SlAt w4 v2 (X ++ endS n) := by have := slAt_ownV HOWN4.out; rwa [List.nil_append] at this
  have HBL := hide (blocks_ref firstS (X ++ endS n) v2 w4 rfl hsl4 (fun x hx => (List.mem_append.1 hx).elim (HBY.out x) (endS_bytes n x)) (by rw [List.length_append]; have := endS_le n; have := HN.out; omega))
  have HB4 := hide hB4
  have Hb4 := hide hb4
  clear hB4 hb4 hsl4 HOWN4 HGR4 HAT HOWN3 HSL3 HB3 Hb3 HB1 Hb1 hs13
  refine HBL.out.mono ?_
  rintro e w5 ⟨bv, rfl, _, hBX⟩
  have HB5 := hide (below_through hBX HB4.out)
  have Hb5 := hide (blk_through hBX Hb4.out)
  clear hBX HBL HB4 Hb4
  obtain ⟨st, hst⟩ : ∃ st, st = stAt firstS (X ++ endS n) ((X ++ endS n).length / 64) := ⟨_, rfl⟩
  have hl8 : st.length = 8 := by rw [hst]; exact length_stAt _ _ rfl _
  rw [← hst]
  have HST := hide hst
  have HL8 := hide hl8
  clear hst hl8
  go_wp2_with (first | (with_reducible refine wpList_alloc_row rfl 124 rfl (cellsOf .u32 zeros8) zero24 ?_) | (with_reducible refine wpList_store_row rfl 124 (.tmp 3) (.tmp 16) rfl w5.heap.size (cellsOf .u32 st) rfl rfl _ _ (heap_alloc_new _ _) (sz24 st HL8.out) (szZ8 st HL8.out) (oneCell_cellsOf _ _) ?_) | (with_reducible refine wpList_load_row rfl 124 (.tmp 3) rfl w5.heap.size rfl _ _ (0, 0) _ (setRow_heap _ _ _ _ _ _ (heap_alloc_new _ _)) Tryd.underlying124 rfl (sz24 st HL8.out) ?_))
  have hB6 : Below w.heap.size w ((w5.alloc (.cells (cellsOf .u32 zeros8) 124)).setRow w5.heap.size (cellsOf .u32 st)) := below_setRow (HB5.out.alloc HB5.out.size _) HB5.out.size _
  have hb6 : Blk ((w5.alloc (.cells (cellsOf .u32 zeros8) 124)).setRow w5.heap.size (cellsOf .u32 st)) w.heap.size 29 .u8 zeros32 := (Hb5.out.alloc _).rowOther _ _ (Nat.ne_of_lt Hb5.out.lt)
  refine (out_ref st _ (hide HL8.out)).mono ?_
  rintro e w7 ⟨rfl, hBX⟩
  have hB7 := below_through hBX hB6
  have hb7 := blk_through hBX hb6
  clear hBX hB6 hb6 HB5 Hb5
  go_wp2_with (first | (with_reducible refine wpList_store_row rfl 29 (.tmp 2) (.tmp 19) rfl w.heap.size _ rfl rfl _ _ hb7.row (sz36 _ (length_outS _)) (szZ32 _ (length_outS _)) (oneCell_cellsOf _ _) ?_))
  refine bodyPost_ret (v := .agg (cellsOf .u8 (outS st))) (results_cell_row rfl _ _ w.heap.size _ _ (0, 0) _ rfl (hb7.setRow (outS st)).row Tryd.underlying29 rfl (sz36 _ (length_outS _))) rfl ?_
  exact ⟨by rw [HST.out, sumS, ← HN.out], below_setRow hB7 (Nat.le_refl _) _⟩
end Go.Proofs.YtaomigfmjglggaaDoor
namespace Go.Proofs.YtaomigfmjglggaaDoor
open Go.RowKit

/-- What the first k bytes of two rows differ by, gathered. -/
def diffTo (a b : List Int) : Nat → Int
  | 0 => 0
  | k + 1 => bits BinOp.or IntKind.u8 (diffTo a b k) (bits BinOp.xor IntKind.u8 (nth a k) (nth b k))

theorem xor_zero (x y : Nat) : x ^^^ y = 0 ↔ x = y := by
  constructor
  · intro e
    have : x ^^^ (x ^^^ y) = x ^^^ 0 := by rw [e]
    rw [← Nat.xor_assoc, Nat.xor_self, Nat.zero_xor, Nat.xor_zero] at this
    exact this.symm
  · rintro rfl
    exact Nat.xor_self x

theorem u8_xor (x y : Nat) (hx : x < 256) (hy : y < 256) : bits BinOp.xor IntKind.u8 x y = ((x ^^^ y : Nat) : Int) := by
  have h := Nat.xor_lt_two_pow (n := 8) hx hy
  simp only [bits, BitVec.ofInt_natCast, BitVec.toNat_xor, BitVec.toNat_ofNat, show IntKind.u8.bits = 8 from rfl]
  rw [Nat.mod_eq_of_lt (a := x) (by omega), Nat.mod_eq_of_lt (a := y) (by omega)]
  exact wraps_u8 _ (by omega) (by omega)

theorem u8_range (a b : Int) (ha : 0 ≤ a ∧ a < 256) (hb : 0 ≤ b ∧ b < 256) :
    (∃ m : Nat, m < 256 ∧ bits BinOp.xor IntKind.u8 a b = m ∧ (m = 0 ↔ a = b)) ∧ (∃ m : Nat, m < 256 ∧ bits BinOp.or IntKind.u8 a b = m ∧ (m = 0 ↔ a = 0 ∧ b = 0)) := by
  obtain ⟨x, rfl⟩ : ∃ x : Nat, a = x := ⟨a.toNat, by omega⟩
  obtain ⟨y, rfl⟩ : ∃ y : Nat, b = y := ⟨b.toNat, by omega⟩
  have h := bits_nat .u8 8 (by decide) wraps_u8 x y (by omega) (by omega)
  refine ⟨⟨x ^^^ y, Nat.xor_lt_two_pow (n := 8) (by omega) (by omega), u8_xor x y (by omega) (by omega), ?_⟩, ⟨x ||| y, Nat.or_lt_two_pow (n := 8) (by omega) (by omega), h.2, ?_⟩⟩
  · rw [xor_zero]; omega
  · rw [Nat.or_eq_zero_iff]
    omega

theorem diffTo_spec (a b : List Int) (ha : ∀ i, i < 32 → 0 ≤ nth a i ∧ nth a i < 256) (hb : ∀ i, i < 32 → 0 ≤ nth b i ∧ nth b i < 256) :
    ∀ k, k ≤ 32 → (0 ≤ diffTo a b k ∧ diffTo a b k < 256) ∧ (diffTo a b k = 0 ↔ ∀ i, i < k → nth a i = nth b i)
  | 0, _ => by simp [diffTo]
  | k + 1, h => by
    obtain ⟨h1, h2⟩ := diffTo_spec a b ha hb k (by omega)
    obtain ⟨m, hm, e1, e2⟩ := (u8_range (nth a k) (nth b k) (ha k (by omega)) (hb k (by omega))).1
    obtain ⟨n, hn, f1, f2⟩ := (u8_range (diffTo a b k) m h1 (by omega)).2
    rw [diffTo, e1, f1]
    refine ⟨by omega, ?_⟩
    constructor
    · intro e i hi
      have h0 := f2.1 (by omega)
      rcases Nat.lt_succ_iff_lt_or_eq.1 hi with hi | rfl
      · exact h2.1 h0.1 i hi
      · exact e2.1 (by omega)
    · intro e
      have := f2.2 ⟨h2.2 (fun i hi => e i (by omega)), by have := e2.2 (e k (by omega)); omega⟩
      omega

/-- Whether two rows of 32 bytes are the same. -/
theorem diffTo_all (a b : List Int) (la : a.length = 32) (lb : b.length = 32) (ha : ∀ i, i < 32 → 0 ≤ nth a i ∧ nth a i < 256) (hb : ∀ i, i < 32 → 0 ≤ nth b i ∧ nth b i < 256) :
    (diffTo a b 32 == 0) = (a == b) := by
  have h := (diffTo_spec a b ha hb 32 (Nat.le_refl _)).2
  rw [Bool.eq_iff_iff, beq_iff_eq, beq_iff_eq, h]
  constructor
  · intro e
    apply List.ext_getElem (by omega)
    intro i h1 h2
    have := e i (by omega)
    simpa [nth, List.getD, h1, h2] using this
  · rintro rfl i _
    rfl

theorem heap4_0 (w : World) (a b c d : Obj) : ((((w.alloc a).alloc b).alloc c).alloc d).heap[w.heap.size]? = some a := by
  rw [Below.heap_alloc _ _ _ (by simp; omega), heap3_0]
theorem heap4_1 (w : World) (a b c d : Obj) : ((((w.alloc a).alloc b).alloc c).alloc d).heap[w.heap.size + 1]? = some b := by
  rw [Below.heap_alloc _ _ _ (by simp), heap3_1]
theorem heap4_2 (w : World) (a b c d : Obj) : ((((w.alloc a).alloc b).alloc c).alloc d).heap[w.heap.size + 1 + 1]? = some c := by
  rw [Below.heap_alloc _ _ _ (by simp), heap3_2]
theorem heap4_3 (w : World) (a b c d : Obj) : ((((w.alloc a).alloc b).alloc c).alloc d).heap[w.heap.size + 1 + 1 + 1]? = some d := by
  have := heap_alloc_new (((w.alloc a).alloc b).alloc c) d
  simpa using this

theorem size_one (x : Int) : (Tryd.prog.info? 103).map (·.size) = some (cellsOf .u8 [x]).size := by kernel_rfl

set_option maxRecDepth 100000 in
set_option maxHeartbeats 1000000 in
theorem equal_any (a b : List Int) (w : World) (la : Hid (a.length = 32)) (lb : Hid (b.length = 32)) :
    Calls Tryd.prog 52 #[.agg (cellsOf .u8 a), .agg (cellsOf .u8 b)] w (fun e w' => e = .returned (.bool (diffTo a b 32 == 0)) ∧ Below w.heap.size w w') := by
  go_enter Tryd.func52, Tryd.ntmps52
  go_wp2_with fail
  go_loopw [8] (fun i wr => ∃ k : Nat, k ≤ 32 ∧ i = .int .i64 k ∧ Blk wr w.heap.size 29 .u8 a ∧ Blk wr (w.heap.size + 1) 29 .u8 b ∧
      Blk wr (w.heap.size + 1 + 1) 103 .u8 [diffTo a b k] ∧ Blk wr (w.heap.size + 1 + 1 + 1) 103 .u8 [0] ∧ Below w.heap.size w wr)
    (fun i _ => 32 - (intOf i).toNat)
  case atStart => exact ⟨0, by omega, rfl, heap4_0 _ _ _ _ _, heap4_1 _ _ _ _ _, heap4_2 _ _ _ _ _, heap4_3 _ _ _ _ _, ((((Below.refl _ _).alloc (Nat.le_refl _) _).alloc (by simp) _).alloc (by simp; omega) _).alloc (by simp; omega) _⟩
  case round =>
    obtain ⟨k, hk, rfl, ha, hb, h5, h6, hB⟩ := hrel
    have hc5 := h5.cell 0 (by simp)
    rw [show nth [diffTo a b k] 0 = diffTo a b k from rfl] at hc5
    by_cases hlt : k < 32
    · have hca := ha.cell k (by rw [la.out]; exact hlt)
      have hcb := hb.cell k (by rw [lb.out]; exact hlt)
      have hf := h5.free 0
      have H5 := hide (h5.set 0 (diffTo a b (k + 1)))
      have HA := hide (ha.other ⟨w.heap.size + 1 + 1, 0, none⟩ (.int .u8 (diffTo a b (k + 1))) (by simp <;> omega))
      have HB' := hide (hb.other ⟨w.heap.size + 1 + 1, 0, none⟩ (.int .u8 (diffTo a b (k + 1))) (by simp <;> omega))
      have H6 := hide (h6.other ⟨w.heap.size + 1 + 1, 0, none⟩ (.int .u8 (diffTo a b (k + 1))) (by simp <;> omega))
      have HB := hide (hB.setCell (p := ⟨w.heap.size + 1 + 1, 0, none⟩) (by show w.heap.size ≤ w.heap.size + 1 + 1; omega) (.int .u8 (diffTo a b (k + 1))))
      clear ha hb h5 h6 hB
      go_wp2_with (go_region)
      go_roundw
      case rel => exact ⟨k + 1, by omega, by go_num, HA.out.drew, HB'.out.drew, H5.out.drew, H6.out.drew, HB.out.drew⟩
      case measure => simp [intOf]; omega
    · obtain rfl : k = 32 := by omega
      clear hc5
      have heq : ∀ w : World, (Op.equalIn 10000 103 (.agg (cellsOf .u8 [diffTo a b 32])) (.agg (cellsOf .u8 [0]))).run Tryd.prog w = .ok ([diffTo a b 32] == [0]) w := run_equalIn_cells (P := Tryd.prog) 9998 103 5 1 .u8 Tryd.underlying103 Tryd.underlying5 size5 [diffTo a b 32] [0] rfl rfl
      go_wp2_with (first | (with_reducible refine wpList_load_row rfl 103 (.tmp 5) rfl (w.heap.size + 1 + 1) rfl _ _ (0, 0) _ h5.row Tryd.underlying103 rfl (size_one _) ?_) | (with_reducible refine wpList_load_row rfl 103 (.tmp 6) rfl (w.heap.size + 1 + 1 + 1) rfl _ _ (0, 0) _ h6.row Tryd.underlying103 rfl (size_one _) ?_))
      go_ret
      exact ⟨by simp, hB⟩
end Go.Proofs.YtaomigfmjglggaaDoor
namespace Go.Proofs.YtaomigfmjglggaaDoor
open Go.RowKit

theorem turnB_range (y : Int) (l : List Int) (hy : 0 ≤ y ∧ y < 256) (hl : ∀ x ∈ l, 0 ≤ x ∧ x < 256) : ∀ x ∈ turnB y l, 0 ≤ x ∧ x < 256 := by
  intro x hx
  obtain ⟨z, hz, rfl⟩ := List.mem_map.1 hx
  obtain ⟨m, hm, e, _⟩ := (u8_range z y (hl z hz) hy).1
  rw [e]; omega

theorem turnB_succ (y : Int) (l : List Int) (i : Nat) (h : i < l.length) : turnB y (l.take (i + 1)) = turnB y (l.take i) ++ [bits BinOp.xor IntKind.u8 (nth l i) y] := by
  rw [List.take_succ_eq_append_getElem h, turnB, turnB, List.map_append, nth, List.getD, List.getElem?_eq_getElem h]
  rfl

theorem Row.cellB {W : World} {B g n c : Nat} {xs : List Int} (h : Row W B (.slice (some ⟨g, 0, none⟩) n c) xs) (i : Nat) (hi : i < xs.length) : W.cell? ⟨g, i, none⟩ = some (.int .u8 (nth xs i)) := by
  obtain ⟨ao, cap, hv, _, _, ha⟩ := h.slAt
  injection hv with e1 e2 e3
  have := (ha _ e1.symm i hi).2.2
  rwa [addr_plain', Nat.zero_add] at this

theorem keyS_range (k : List Int) (hk : ∀ x ∈ k, 0 ≤ x ∧ x < 256) : ∀ x ∈ keyS k, 0 ≤ x ∧ x < 256 := by
  intro x hx
  rw [keyS, List.mem_append] at hx
  rcases hx with hx | hx
  · rw [keyX] at hx
    split at hx
    · exact sumS_range _ x hx
    · exact hk x hx
  · have := (List.mem_replicate.1 hx).2
    omega

set_option maxRecDepth 100000 in
set_option maxHeartbeats 1000000 in
theorem macR_any (k xs : List Int) (kv v : Value) (w : World) (hk : SlAt w kv k) (hkb : ∀ x ∈ k, 0 ≤ x ∧ x < 256) (hkl : k.length ≤ 10000) (hx : SlAt w v xs) (hxb : ∀ x ∈ xs, 0 ≤ x ∧ x < 256) (hl : xs.length ≤ 10000) :
    Calls Tryd.prog 50 #[kv, v] w (fun e w' => e = .returned (.agg (cellsOf .u8 (macS k xs))) ∧ Below w.heap.size w w') := by
  obtain ⟨R, hR⟩ : ∃ R, R = macS k xs := ⟨_, rfl⟩
  have HRE := hide hR
  have HR : Hid (R.length = 32) := hide (by rw [hR]; exact length_macS _ _)
  rw [← hR]
  clear hR
  have HKB := hide hkb
  have HXB := hide hxb
  have HK := hide hk
  have HX := hide hx
  obtain ⟨ao, cap, rfl⟩ := hx.len
  obtain ⟨ko, kc, rfl⟩ := hk.len
  clear hk hx hkb hxb
  have hal2 : Tryd.prog.arrayLen 29 = 32 := by kernel_rfl
  go_enter Tryd.func50, Tryd.ntmps50
  have hB0 : Below w.heap.size w (w.alloc (.cells (cellsOf .u8 zeros32) 29)) := (Below.refl _ _).alloc (Nat.le_refl _) _
  have hr0 := Row.empty (w.alloc (.cells (cellsOf .u8 zeros32) 29))
  rw [show (w.alloc (.cells (cellsOf .u8 zeros32) 29)).heap.size = w.heap.size + 1 from by simp] at hr0
  obtain ⟨v5, w2, hrun, hrow, hp⟩ := append_row _ _ _ [] hr0 (.slice ko k.length kc) k (HK.out.below (hB0.alloc hB0.size _)) (by simp; omega) (by simp)
  have HRUN := hide hrun
  have HB2 : Hid (Below w.heap.size w w2) := hide (hp.below _ _ (hB0.alloc hB0.size _) (by simp; omega) (fun x hx => by simp [Value.ownBlock] at hx; omega))
  have Hb2 : Hid (Blk w2 w.heap.size 29 .u8 zeros32) := hide (hp.blk _ _ _ _ ((Blk.new w 29 .u8 zeros32).alloc _) (fun x hx => by simp [Value.ownBlock] at hx; omega)).1
  have HS2 : Hid (w.heap.size + 1 ≤ w2.heap.size) := hide (Nat.le_trans (by simp) hp.size)
  rw [List.nil_append] at hrow
  have HROW : Hid (Row w2 (w.heap.size + 1) v5 k) := hide hrow
  clear hrun hrow hp hB0 hr0
  go_upto_if 16 with (first
    | (with_reducible refine wpList_alloc_row rfl 29 rfl (cellsOf .u8 zeros32) zero36 ?_)
    | (at_builtin; with_reducible refine wpList_append_run rfl (.tmp 11) (.tmp 12) 22 22 22 rfl rfl (.slice (some ⟨w.heap.size + 1, 0, none⟩) 0 0) (.slice ko k.length kc) v5 w2 rfl rfl HRUN.out ?_; obtain ⟨ao5, cap5, hv5⟩ := HROW.out.slAt.len; subst hv5))
  obtain ⟨m, hm⟩ : ∃ m, m = k.length := ⟨_, rfl⟩
  have HM := hide hm
  clear HRUN
  rw [← hm] at HROW HK hkl ⊢
  clear hm
  go_cut [5, 6] (fun s5 _ W => Row W (w.heap.size + 1) s5 (keyX k) ∧ Blk W w.heap.size 29 .u8 zeros32 ∧ Below w.heap.size w W ∧ w.heap.size + 1 ≤ W.heap.size)
  case first =>
    by_cases hbig : 64 < m
    · have hX : keyX k = sumS k := by rw [keyX, if_pos (by rw [← HM.out]; exact hbig)]
      go_wp2_with fail
      refine (ofR_any k (.slice ao5 m cap5) w2 HROW.out.slAt HKB.out (by rw [← HM.out]; omega)).mono ?_
      rintro e w3 ⟨rfl, hBX⟩
      have HB3 := hide (below_through hBX HB2.out)
      have Hb3 := hide (blk_through hBX Hb2.out)
      have HS3 : Hid (w.heap.size + 1 ≤ w3.heap.size) := hide (Nat.le_trans HS2.out hBX.size)
      obtain ⟨Y, hY⟩ : ∃ Y, Y = sumS k := ⟨_, rfl⟩
      have HY : Hid (Y.length = 32) := hide (by rw [hY]; exact length_sumS _)
      rw [← hY] at hX ⊢
      have HKX := hide hX
      clear hBX HB2 Hb2 HS2 HROW hY hX
      go_wp2_with (first
        | (with_reducible refine wpList_alloc_row rfl 29 rfl (cellsOf .u8 zeros32) zero36 ?_)
        | (with_reducible refine wpList_store_blk rfl 29 (.tmp 6) (.tmp 18) rfl w3.heap.size .u8 Y rfl rfl _ _ (Blk.new w3 29 .u8 zeros32) (sz36 Y HY.out) (zl32 HY.out) ?_))
      intro w4 hb4 hz4 hB4 hk4
      have HB4 : Hid (Below w.heap.size w w4) := hide ((HB3.out.alloc HB3.out.size (.cells (cellsOf .u8 zeros32) 29)).trans (hB4 _ HB3.out.size))
      have Hb4 : Hid (Blk w4 w.heap.size 29 .u8 zeros32) := hide ((Hb3.out.alloc (.cells (cellsOf .u8 zeros32) 29)).kept hk4 (Nat.ne_of_lt Hb3.out.lt))
      have HS4 : Hid (w.heap.size + 1 ≤ w4.heap.size) := hide (by rw [hz4]; have := HS3.out; simp; omega)
      have HY4 := hide hb4
      clear hb4 hz4 hB4 hk4 HB3 Hb3
      generalize w3.heap.size = g6 at HY4 ⊢
      have hr0 := Row.empty w4
      obtain ⟨v7, w5, hrun, hrow, hp⟩ := append_row _ _ _ [] hr0 (.slice (some ⟨g6, 0, none⟩) 32 32) Y (slAt_blkN (HY4.out.alloc _) HY.out) (by rw [HY.out]; simp) (by simp)
      have HB5 : Hid (Below w.heap.size w w5) := hide (hp.below _ _ (HB4.out.alloc HB4.out.size _) (by have := HS4.out; simp; omega) (fun x hx => by simp [Value.ownBlock] at hx; have := HS4.out; omega))
      have Hb5 : Hid (Blk w5 w.heap.size 29 .u8 zeros32) := hide (hp.blk _ _ _ _ (Hb4.out.alloc _) (fun x hx => by simp [Value.ownBlock] at hx; have := HS4.out; omega)).1
      have HS5 : Hid (w.heap.size + 1 ≤ w5.heap.size) := hide (by have := HS4.out; have := hp.size; simp at this; omega)
      rw [List.nil_append] at hrow
      have HROW5 : Hid (Row w5 (w.heap.size + 1) v7 Y) := hide (hrow.base HS4.out)
      clear hr0 hrow hp HB4 Hb4 HS4 HY4
      go_wp2_with (first
        | (at_builtin; with_reducible refine wpList_append_run rfl (.tmp 19) (.tmp 20) 22 22 22 rfl rfl (.slice (some ⟨w4.heap.size, 0, none⟩) 0 0) (.slice (some ⟨g6, 0, none⟩) 32 32) v7 w5 rfl rfl hrun ?_))
      go_meet
      exact ⟨by rw [HKX.out]; exact HROW5.out, Hb5.out, HB5.out, HS5.out⟩
    · have hX : keyX k = k := by rw [keyX, if_neg (by rw [← HM.out]; exact hbig)]
      go_wp2_with fail
      go_meet
      exact ⟨by rw [hX]; exact HROW.out, Hb2.out, HB2.out, HS2.out⟩
  case rest =>
    revert u6 u11 u12 u13 u14 u15 u16 u17 u18 u19 u20 u21 u22 u23 u24 u25 u26 u27 u28 u29 u30 u31 u32 u33 u34 u35 u36 u37 u38 u39 u40 u41 u42 u43 u44 u45 u46 u47 u48 u49 u50 u51 u52 u53 u54 u55
    intro d6 d11 d12 d13 d14 d15 d16 d17 d18 d19 d20 d21 d22 d23 d24 d25 d26 d27 d28 d29 d30 d31 d32 d33 d34 d35 d36 d37 d38 d39 d40 d41 d42 d43 d44 d45 d46 d47 d48 d49 d50 d51 d52 d53 d54 d55
    obtain ⟨h5, hb, hB, hsz⟩ := hcut
    clear HROW HB2 Hb2 HS2 w2
    have hX5 : (keyX k).length ≤ 64 := length_keyX k
    obtain ⟨L, hL⟩ : ∃ L, L = keyS k := ⟨_, rfl⟩
    obtain ⟨X5, hX⟩ : ∃ X5, X5 = keyX k := ⟨_, rfl⟩
    have HKR : Hid (∀ x ∈ L, 0 ≤ x ∧ x < 256) := hide (by rw [hL]; exact keyS_range k HKB.out)
    rw [← hX] at h5 hX5
    have HKL := hide hL
    have HKX := hide hX
    have HX5 := hide hX5
    clear hX5 hL hX
    revert u5
    intro d5 h5
    go_wp2_with fail
    go_loopg [5] (64 - X5.length) (fun g s wr => ∃ j : Nat, g = 64 - (X5.length + j) ∧ X5.length + j ≤ 64 ∧ Row wr (w.heap.size + 1) s (X5 ++ List.replicate j 0) ∧ Blk wr w.heap.size 29 .u8 zeros32 ∧ Below w.heap.size w wr ∧ w.heap.size + 1 ≤ wr.heap.size)
    case atStart => exact ⟨0, rfl, HX5.out, by simpa using h5, hb, hB, hsz⟩
    case round =>
      clear h5 hb hB hsz
      obtain ⟨j, hg, hj, h5, hb, hB, hsz⟩ := hrel
      obtain ⟨q, hq⟩ : ∃ q, q = (X5 ++ List.replicate j 0).length := ⟨_, rfl⟩
      have hqe : q = X5.length + j := by rw [hq]; simp
      obtain ⟨a6, c6, hv⟩ := h5.slAt.len
      rw [← hq] at hv
      subst hv
      have HQ := hide hqe
      by_cases hlt : q < 64
      · obtain ⟨v7, w7, hrun, hrow, hp⟩ := append_row _ _ _ _ (h5.alloc (.cells #[.int .u8 0] 5)) (.slice (some ⟨wr.heap.size, 0, none⟩) 1 1) [0] (slAt_blkN (Blk.new wr 5 .u8 [0]) rfl) (by rw [← hq]; simp; omega) (by simp; omega)
        rw [List.append_assoc, show List.replicate j (0 : Int) ++ [0] = List.replicate (j + 1) 0 from by rw [List.replicate_succ']] at hrow
        have HB7 : Hid (Below w.heap.size w w7) := hide (hp.below _ _ (hB.alloc hB.size _) (by simp; omega) (fun x hx => by have := h5.ge hx; omega))
        have Hb7 : Hid (Blk w7 w.heap.size 29 .u8 zeros32) := hide (hp.blk _ _ _ _ (hb.alloc _) (fun x hx => by have := h5.ge hx; omega)).1
        have HS7 : Hid (w.heap.size + 1 ≤ w7.heap.size) := hide (by have := hp.size; simp at this; omega)
        have HROW := hide hrow
        obtain ⟨a7, c7, hv7⟩ := hrow.slAt.len
        have hl7 : (X5 ++ List.replicate (j + 1) 0).length = q + 1 := by simp; omega
        rw [hl7] at hv7
        subst hv7
        clear hrow hp h5 hb hB hqe hq hl7
        go_wp2_with (first
          | (at_builtin; with_reducible refine wpList_append_run rfl (.tmp 25) (.tmp 26) 22 22 22 rfl rfl (.slice a6 q c6) (.slice (some ⟨wr.heap.size, 0, none⟩) 1 1) (.slice a7 (q + 1) c7) w7 rfl rfl hrun ?_))
        go_roundg (64 - (X5.length + (j + 1)))
        case rel => exact ⟨j + 1, rfl, by have := HQ.out; omega, HROW.out, Hb7.out, HB7.out, HS7.out⟩
        case measure => have := HQ.out; omega
      · have hq64 : q = 64 := by omega
        subst hq64
        have hLe : X5 ++ List.replicate j 0 = L := by rw [HKL.out, keyS, ← HKX.out, show j = 64 - X5.length from by have := HQ.out; omega]
        rw [hLe] at h5
        rw [hLe] at hq
        have HL := hide hq
        clear hq hLe hqe HQ HX5 HKX hlt
        obtain ⟨g5, c5, hv5⟩ := Joins.ownsRow_form h5 (by rw [← HL.out]; omega)
        rw [← HL.out] at hv5
        injection hv5 with e1 e2 e3
        subst e1
        subst e3
        go_wp2_with fail
        clear hg hj
        go_loopg [7, 8, 9] 64 (fun g s7 s8 s9 wr => ∃ i : Nat, i + g = 64 ∧ s9 = .int .i64 i ∧ Row wr (w.heap.size + 1) s7 (turnB 54 (L.take i)) ∧ Row wr (w.heap.size + 1) s8 (turnB 92 (L.take i)) ∧ Row wr (w.heap.size + 1) (.slice (some ⟨g5, 0, none⟩) 64 c6) L ∧
            Apart s7 s8 ∧ Apart (.slice (some ⟨g5, 0, none⟩) 64 c6) s7 ∧ Apart (.slice (some ⟨g5, 0, none⟩) 64 c6) s8 ∧ Blk wr w.heap.size 29 .u8 zeros32 ∧ Below w.heap.size w wr ∧ w.heap.size + 1 ≤ wr.heap.size)
        case atStart => exact ⟨0, rfl, rfl, Row.nil _ _, Row.nil _ _, h5, Apart.nil _, Apart.nil _, Apart.nil _, hb, hB, hsz⟩
        case round =>
          clear h5 hb hB hsz
          obtain ⟨i, hg, rfl, h7, h8, h5, a78, a57, a58, hb, hB, hsz⟩ := hrel
          by_cases hg0 : gk = 0
          · have hi : i = 64 := by omega
            subst hi
            rw [List.take_of_length_le (by rw [← HL.out]; exact Nat.le_refl _)] at h7 h8
            clear hg hg0 a57 a58
            obtain ⟨v10, w10, hrun, hrow, hp⟩ := append_row _ _ _ _ h7 (.slice ao xs.length cap) xs (HX.out.below hB) (by rw [length_turnB, ← HL.out]; omega) hsz
            obtain ⟨h8', _⟩ := hp.row _ _ _ h8 a78.symm
            have Hb10 := hide (hp.blk _ _ _ _ hb (fun x hx => by have := h7.ge hx; omega)).1
            have HB10 := hide (hp.below _ _ hB hB.size (fun x hx => by have := h7.ge hx; omega))
            have HS10 : Hid (w.heap.size + 1 ≤ w10.heap.size) := hide (Nat.le_trans hsz hp.size)
            have HC := hide (ofR_any (turnB 54 L ++ xs) v10 w10 hrow.slAt (fun x hx => (List.mem_append.1 hx).elim (turnB_range 54 L (by omega) HKR.out x) (HXB.out x)) (by rw [List.length_append, length_turnB, ← HL.out]; omega))
            have H8 := hide h8'
            have HRUN := hide hrun
            obtain ⟨Y, hY⟩ : ∃ Y, Y = sumS (turnB 54 L ++ xs) := ⟨_, rfl⟩
            have HY : Hid (Y.length = 32) := hide (by rw [hY]; exact length_sumS _)
            have HYR : Hid (∀ x ∈ Y, 0 ≤ x ∧ x < 256) := hide (by rw [hY]; exact sumS_range _)
            rw [← hY] at HC
            have HYE := hide hY
            clear hrun hrow hp h8' h7 h8 h5 a78 hb hB hsz hY
            go_wp2_with (first
              | (at_builtin; with_reducible refine wpList_append_run rfl (.tmp 48) (.tmp 49) 22 22 22 rfl rfl u7 (.slice ao xs.length cap) v10 w10 rfl rfl HRUN.out ?_))
            refine HC.out.mono ?_
            rintro e w11 ⟨rfl, hBX⟩
            have Hb11 := hide (blk_through hBX Hb10.out)
            have HB11 := hide (below_through hBX HB10.out)
            have HS11 : Hid (w.heap.size + 1 ≤ w11.heap.size) := hide (Nat.le_trans HS10.out hBX.size)
            have H811 := hide (H8.out.below hBX)
            clear hBX Hb10 HB10 HS10 H8 HC HRUN
            go_wp2_with (first
              | (with_reducible refine wpList_alloc_row rfl 29 rfl (cellsOf .u8 zeros32) zero36 ?_)
              | (with_reducible refine wpList_store_blk rfl 29 (.tmp 10) (.tmp 51) rfl w11.heap.size .u8 Y rfl rfl _ _ (Blk.new w11 29 .u8 zeros32) (sz36 Y HY.out) (zl32 HY.out) ?_))
            intro w12 hb12 hz12 hB12 hk12
            have HB12 : Hid (Below w.heap.size w w12) := hide ((HB11.out.alloc HB11.out.size (.cells (cellsOf .u8 zeros32) 29)).trans (hB12 _ HB11.out.size))
            have Hb12 : Hid (Blk w12 w.heap.size 29 .u8 zeros32) := hide ((Hb11.out.alloc (.cells (cellsOf .u8 zeros32) 29)).kept hk12 (Nat.ne_of_lt Hb11.out.lt))
            have HS12 : Hid (w.heap.size + 1 ≤ w12.heap.size) := hide (by rw [hz12]; have := HS11.out; simp; omega)
            have h812 : Row w12 (w.heap.size + 1) u8 (turnB 92 L) := ownsRow_below H811.out ((Below.refl w11.heap.size w11).alloc (Nat.le_refl _) (.cells (cellsOf .u8 zeros32) 29) |>.trans (hB12 _ (Nat.le_refl _)))
            obtain ⟨v14, w14, hrun, hrow, hp⟩ := append_row _ _ _ _ h812 (.slice (some ⟨w11.heap.size, 0, none⟩) 32 32) Y (slAt_blkN hb12 HY.out) (by rw [length_turnB, ← HL.out, HY.out]; omega) HS12.out
            have Hb14 := hide (hp.blk _ _ _ _ Hb12.out (fun x hx => by have := h812.ge hx; omega)).1
            have HB14 := hide (hp.below _ _ HB12.out HB12.out.size (fun x hx => by have := h812.ge hx; omega))
            have HC := hide (ofR_any (turnB 92 L ++ Y) v14 w14 hrow.slAt (fun x hx => (List.mem_append.1 hx).elim (turnB_range 92 L (by omega) HKR.out x) (HYR.out x)) (by rw [List.length_append, length_turnB, ← HL.out, HY.out]; omega))
            have HRF : Hid (sumS (turnB 92 L ++ Y) = R) := hide (by rw [HRE.out, macS, ← HKL.out, ← HYE.out])
            rw [HRF.out] at HC
            have HRUN := hide hrun
            clear hrun hrow hp h812 hb12 hz12 hB12 hk12 HB11 Hb11 HS11 H811 HB12 Hb12 HS12 HRF HYE
            generalize w11.heap.size = g10 at HRUN ⊢
            go_wp2_with (first
              | (at_builtin; with_reducible refine wpList_append_run rfl (.tmp 52) (.tmp 53) 22 22 22 rfl rfl u8 (.slice (some ⟨g10, 0, none⟩) 32 32) v14 w14 rfl rfl HRUN.out ?_))
            refine HC.out.mono ?_
            rintro e w15 ⟨rfl, hBX⟩
            have hb15 := blk_through hBX Hb14.out
            have hB15 := below_through hBX HB14.out
            clear hBX Hb14 HB14 HC HRUN
            go_wp2_with (first
              | (with_reducible refine wpList_store_row rfl 29 (.tmp 4) (.tmp 55) rfl w.heap.size _ rfl rfl _ _ hb15.row (sz36 _ HR.out) (szZ32 _ HR.out) (oneCell_cellsOf _ _) ?_))
            refine bodyPost_ret (v := .agg (cellsOf .u8 R)) (results_cell_row rfl _ _ w.heap.size _ _ (0, 0) _ rfl (hb15.setRow R).row Tryd.underlying29 rfl (sz36 _ HR.out)) rfl ?_
            exact ⟨rfl, below_setRow hB15 (Nat.le_refl _) _⟩
          · have hi : i < 64 := by omega
            have hil : i < L.length := by rw [← HL.out]; exact hi
            obtain ⟨y7, hy7⟩ : ∃ y, y = bits BinOp.xor IntKind.u8 (nth L i) 54 := ⟨_, rfl⟩
            obtain ⟨y8, hy8⟩ : ∃ y, y = bits BinOp.xor IntKind.u8 (nth L i) 92 := ⟨_, rfl⟩
            have e7 : turnB 54 (L.take i) ++ [y7] = turnB 54 (L.take (i + 1)) := by rw [hy7]; exact (turnB_succ 54 L i hil).symm
            have e8 : turnB 92 (L.take i) ++ [y8] = turnB 92 (L.take (i + 1)) := by rw [hy8]; exact (turnB_succ 92 L i hil).symm
            have hl54 : (turnB 54 (L.take i)).length ≤ 64 := by rw [length_turnB, List.length_take]; omega
            have hl92 : (turnB 92 (L.take i)).length ≤ 64 := by rw [length_turnB, List.length_take]; omega
            obtain ⟨v7, w7, hrun7, hrow7, hp7⟩ := append_row _ _ _ _ (h7.alloc (.cells #[.int .u8 y7] 5)) (.slice (some ⟨wr.heap.size, 0, none⟩) 1 1) [y7] (slAt_blkN (Blk.new wr 5 .u8 [y7]) rfl) (by simp; omega) (by simp; omega)
            obtain ⟨h8', a87'⟩ := hp7.row _ _ _ (h8.alloc _) a78.symm
            obtain ⟨h5', a57'⟩ := hp7.row _ _ _ (h5.alloc _) a57
            have hb7 := (hp7.blk _ _ _ _ (hb.alloc _) (fun x hx => by have := h7.ge hx; omega)).1
            have hB7 := hp7.below _ _ (hB.alloc hB.size _) (by simp; omega) (fun x hx => by have := h7.ge hx; omega)
            have hs7 : w.heap.size + 1 ≤ w7.heap.size := by have := hp7.size; simp at this; omega
            obtain ⟨v8, w8, hrun8, hrow8, hp8⟩ := append_row _ _ _ _ (h8'.alloc (.cells #[.int .u8 y8] 5)) (.slice (some ⟨w7.heap.size, 0, none⟩) 1 1) [y8] (slAt_blkN (Blk.new w7 5 .u8 [y8]) rfl) (by simp; omega) (by simp; omega)
            obtain ⟨h7'', a78''⟩ := hp8.row _ _ _ (hrow7.alloc _) a87'.symm
            obtain ⟨h5'', a58''⟩ := hp8.row _ _ _ (h5'.alloc _) a58
            have hb8 := (hp8.blk _ _ _ _ (hb7.alloc _) (fun x hx => by have := h8'.ge hx; omega)).1
            have hB8 := hp8.below _ _ (hB7.alloc hB7.size _) (by simp; omega) (fun x hx => by have := h8'.ge hx; omega)
            have hs8 : w.heap.size + 1 ≤ w8.heap.size := by have := hp8.size; simp at this; omega
            have hc1 := h5.cellB i hil
            have hc2 := h5'.cellB i hil
            rw [e7] at h7''
            rw [e8] at hrow8
            have H := hide (And.intro h7'' (And.intro hrow8 (And.intro h5'' (And.intro a78'' (And.intro a57' (And.intro a58'' (And.intro hb8 (And.intro hB8 hs8))))))))
            have HR7 := hide hrun7
            have HR8 := hide hrun8
            rw [hy7] at HR7
            rw [hy8] at HR8
            clear e7 e8 hl54 hl92 hrun7 hrow7 hp7 h8' a87' h5' a57' hb7 hB7 hs7 hrun8 hrow8 hp8 h7'' a78'' h5'' a58'' hb8 hB8 hs8 hy7 hy8 h7 h8 h5 a78 a57 a58 hb hB
            go_wp2_with (first
              | (at_builtin; with_reducible refine wpList_append_run rfl (.tmp 32) (.tmp 38) 22 22 22 rfl rfl u7 (.slice (some ⟨wr.heap.size, 0, none⟩) 1 1) v7 w7 rfl rfl HR7.out ?_)
              | (at_builtin; with_reducible refine wpList_append_run rfl (.tmp 40) (.tmp 46) 22 22 22 rfl rfl u8 (.slice (some ⟨w7.heap.size, 0, none⟩) 1 1) v8 w8 rfl rfl HR8.out ?_))
            go_roundg (gk - 1)
            case rel => obtain ⟨b1, b2, b3, b4, b5, b6, b7, b8, b9⟩ := H.out; exact ⟨i + 1, by omega, by go_num, b1, b2, b3, b4, b5, b6, b7, b8, b9⟩
            case measure => omega
end Go.Proofs.YtaomigfmjglggaaDoor
namespace Go.Proofs.YtaomigfmjglggaaDoor
open Go.RowKit

/-- A number's k highest bytes. -/
def hiByte (n i : Nat) : Int := (n : Int) / 2 ^ (56 - 8 * i) % 256
def hiBytes (n k : Nat) : List Int := (List.range k).map (hiByte n)
theorem hiBytes_succ (n k : Nat) : hiBytes n (k + 1) = hiBytes n k ++ [hiByte n k] := by simp [hiBytes, List.range_succ]
theorem length_hiBytes (n k : Nat) : (hiBytes n k).length = k := by simp [hiBytes]
/-- The row of eight bytes, its first k laid. -/
def hiTo (n k : Nat) : List Int := hiBytes n k ++ List.replicate (8 - k) 0
theorem length_hiTo (n k : Nat) (h : k ≤ 8) : (hiTo n k).length = 8 := by rw [hiTo, List.length_append, length_hiBytes, List.length_replicate]; omega
theorem hiTo_succ (n k : Nat) (h : k < 8) : hiTo n (k + 1) = (hiTo n k).set k (hiByte n k) := by
  rw [hiTo, hiTo, List.set_append_right _ _ (by rw [length_hiBytes]; omega), length_hiBytes, Nat.sub_self, hiBytes_succ, show 8 - k = (8 - (k + 1)) + 1 from by omega, List.replicate_succ, List.set_cons_zero, List.append_assoc]
  rfl

set_option maxRecDepth 100000 in
set_option maxHeartbeats 300000 in
theorem eight_any (n : Nat) (w : World) (_hn : n < 18446744073709551616) : Calls Tryd.prog 92 #[.int .u64 n] w (fun e w' => ∃ g, e = .returned (.slice (some ⟨g, 0, none⟩) 8 8) ∧ SlAt w' (.slice (some ⟨g, 0, none⟩) 8 8) (hiBytes n 8) ∧ Below w.heap.size w w') := by
  obtain ⟨i0, hi, hz0, hz1, hz2⟩ := info_parts Tryd.info5
  have hmk : (Instr.makeSlice 22 (.int .i64 8) (.int .i64 8)).run Tryd.prog w = .ok (.slice (some ⟨w.heap.size, 0, none⟩) 8 8) (w.alloc (.cells (cellsOf .u8 (hiTo n 0)) 5)) := by
    have h := run_make (P := Tryd.prog) w 22 5 i0 (.int .u8 0) Tryd.underlying22 hi hz0 .i64 .i64 8 8 (by omega) (by omega) (by rw [hz2]; omega) (by omega)
    rw [hz1, show madeCells (Value.int .u8 0).cells (Int.toNat 8 * 1) = cellsOf .u8 (List.replicate 8 0) from by kernel_rfl, show List.replicate 8 (0 : Int) = hiTo n 0 from rfl] at h
    exact h
  clear hi hz0 hz1 hz2
  go_enter Tryd.func92, Tryd.ntmps92
  go_wp2_with fail
  clear hmk
  go_loopw [8] (fun i wr => ∃ k : Nat, k ≤ 8 ∧ i = .int .i64 k ∧ Blk wr w.heap.size 5 .u8 (hiTo n k) ∧ Below w.heap.size w wr)
    (fun i _ => 8 - (intOf i).toNat)
  case atStart => exact ⟨0, by omega, rfl, Blk.new w 5 .u8 (hiTo n 0), (Below.refl _ _).alloc (Nat.le_refl _) _⟩
  case round =>
    obtain ⟨k, hk, rfl, hw, hB⟩ := hrel
    by_cases hlt : k < 8
    · have hc := hw.cell k (by rw [length_hiTo n k hk]; exact hlt)
      have hf := hw.free k
      have Hs := hide (hw.set k (hiByte n k))
      have HB := hide (hB.setCell (p := ⟨w.heap.size, k, none⟩) (Nat.le_refl _) (.int .u8 (hiByte n k)))
      clear hw hB
      go_wp2_with fail
      go_roundw
      case rel => exact ⟨k + 1, by omega, by go_num, by rw [hiTo_succ n k hlt]; exact Hs.out, HB.out⟩
      case measure => simp [intOf]; omega
    · obtain rfl : k = 8 := by omega
      have HW := hide (slAt_blkN hw (n := 8) (length_hiTo n 8 hk))
      have hh : hiTo n 8 = hiBytes n 8 := by rw [hiTo]; simp
      rw [hh] at HW
      clear hw hh
      go_wp2_with fail
      go_ret
      exact ⟨_, rfl, HW.out, hB⟩

theorem parts_three {w : World} {t : TypeId} {s0 s1 s2 : Value} {x0 x1 x2 : List Int} (a0 : SlAt w s0 x0) (a1 : SlAt w s1 x1) (a2 : SlAt w s2 x2) : PartsAt (w.alloc (.cells #[s0, s1, s2] t)) w.heap.size 0 [x0, x1, x2] := by
  have hB : Below w.heap.size w (w.alloc (.cells #[s0, s1, s2] t)) := (Below.refl _ _).alloc (Nat.le_refl _) _
  refine ⟨by simp, fun i hi => ?_⟩
  have h : i = 0 ∨ i = 1 ∨ i = 2 := by simp at hi; omega
  rcases h with rfl | rfl | rfl
  · exact ⟨s0, (cell_of_row _ _ 0 _ _ _ (heap_alloc_new w _)).trans rfl, a0.below hB⟩
  · exact ⟨s1, (cell_of_row _ _ 1 _ _ _ (heap_alloc_new w _)).trans rfl, a1.below hB⟩
  · exact ⟨s2, (cell_of_row _ _ 2 _ _ _ (heap_alloc_new w _)).trans rfl, a2.below hB⟩

/-- What is derived. -/
def derS (k : List Int) (s : ByteArray) (n : Nat) : List Int := macS k (bytesOf s ++ 0 :: hiBytes n 8)
theorem length_derS (k : List Int) (s : ByteArray) (n : Nat) : (derS k s n).length = 32 := by rw [derS]; exact length_macS _ _

set_option maxRecDepth 100000 in
set_option maxHeartbeats 300000 in
theorem derive_any (k : List Int) (s : ByteArray) (n : Nat) (kv : Value) (w : World) (hn : n < 18446744073709551616) (hk : SlAt w kv k) (hl : k.length ≤ 10000) (hs : s.size ≤ 10000) :
    Calls Tryd.prog 72 #[kv, .string s, .int .u64 n] w (fun e w' => ∃ g, e = .returned (.slice (some ⟨g, 0, none⟩) 32 32) ∧ SlAt w' (.slice (some ⟨g, 0, none⟩) 32 32) (derS k s n) ∧ Below w.heap.size w w') := by
  have hal2 : Tryd.prog.arrayLen 29 = 32 := by kernel_rfl
  obtain ⟨ao, cap, rfl⟩ := hk.len
  obtain ⟨c1, w1, hcv, hst, hB1, hz1⟩ := str_bytes w s (by unfold maxLen; omega)
  have hK1 := hk.below hB1
  have HST := hide hst
  have HB1 := hide hB1
  have HK := hide hk
  obtain ⟨m, hm⟩ : ∃ m, m = s.size := ⟨_, rfl⟩
  have HM := hide hm
  rw [← hm] at hs hcv
  obtain ⟨R, hR⟩ : ∃ R, R = derS k s n := ⟨_, rfl⟩
  have HR : Hid (R.length = 32) := hide (by rw [hR]; exact length_derS _ _ _)
  rw [← hR]
  have HRE := hide hR
  clear hst hB1 hK1 hk hm hR hz1
  go_enter Tryd.func72, Tryd.ntmps72
  go_wp2_with fail
  refine (eight_any n _ hn).mono ?_
  rintro e w2 ⟨g2, rfl, hs2, hBX⟩
  have HB2 := hide (below_through hBX (HB1.out.alloc HB1.out.size _))
  have HZ2 := hide (blk_through hBX (Blk.new w1 5 .u8 [0]))
  have HS2 := hide hs2
  have HT2 : Hid (SlAt w2 (.slice (some ⟨w.heap.size, 0, none⟩) m c1) (bytesOf s)) := hide (by
    have := ((HST.out.alloc (.cells #[.int .u8 0] 5)).below hBX).slAt
    rwa [length_bytesOf, ← HM.out] at this)
  clear hBX hs2 HB1 HST hcv
  go_wp2_with fail
  have HP := hide (parts_three (t := 22) HT2.out (slAt_blkN (n := 1) HZ2.out rfl) HS2.out)
  have hof := macOf_any k (.slice ao k.length cap) [bytesOf s, [0], hiBytes n 8] w2.heap.size 0 3 _ (HK.out.below (HB2.out.alloc HB2.out.size (.cells #[.slice (some ⟨w.heap.size, 0, none⟩) m c1, .slice (some ⟨w1.heap.size, 0, none⟩) 1 1, .slice (some ⟨g2, 0, none⟩) 8 8] 22))) (by omega) HP.out (by simp) (by simp) (by simp [length_bytesOf, length_hiBytes]; have := HM.out; omega)
  rw [show [bytesOf s, [0], hiBytes n 8].flatten = bytesOf s ++ 0 :: hiBytes n 8 from by simp, show macS k (bytesOf s ++ 0 :: hiBytes n 8) = R from HRE.out.symm] at hof
  refine hof.mono ?_
  rintro e w3 ⟨rfl, hBX⟩
  have HB3 := hide (below_through hBX (HB2.out.alloc HB2.out.size _))
  clear hBX hof HP HB2 HZ2 HS2 HT2 HRE
  go_wp2_with (first
    | (with_reducible refine wpList_alloc_row rfl 29 rfl (cellsOf .u8 zeros32) zero36 ?_)
    | (with_reducible refine wpList_store_blk rfl 29 (.tmp 7) (.tmp 15) rfl w3.heap.size .u8 R rfl rfl _ _ (Blk.new w3 29 .u8 zeros32) (sz36 R HR.out) (zl32 HR.out) ?_))
  intro w4 hb4 hz4 hB4 hk4
  have HB4 := hide ((HB3.out.alloc HB3.out.size (.cells (cellsOf .u8 zeros32) 29)).trans (hB4 _ HB3.out.size))
  have HW4 := hide (slAt_blkN hb4 HR.out)
  clear hb4 hz4 hB4 hk4 HB3
  go_wp2_with fail
  go_ret
  exact ⟨_, rfl, HW4.out, HB4.out⟩

end Go.Proofs.YtaomigfmjglggaaDoor
namespace Go.Proofs.YtaomigfmjglggaaDoor
open Go.RowKit

theorem p56 : (2 : Int) ^ (56 - 8 * 0) = 72057594037927936 := by decide
theorem p48 : (2 : Int) ^ (56 - 8 * 1) = 281474976710656 := by decide
theorem p40 : (2 : Int) ^ (56 - 8 * 2) = 1099511627776 := by decide
theorem p32 : (2 : Int) ^ (56 - 8 * 3) = 4294967296 := by decide
theorem p24 : (2 : Int) ^ (56 - 8 * 4) = 16777216 := by decide
theorem p16 : (2 : Int) ^ (56 - 8 * 5) = 65536 := by decide
theorem p8 : (2 : Int) ^ (56 - 8 * 6) = 256 := by decide
theorem p0 : (2 : Int) ^ (56 - 8 * 7) = 1 := by decide

/-- The label's nought and the eight bytes of a number, as the document's text has them. -/
def tailS (n : Nat) : List Int := [0, (n : Int) / 72057594037927936, (n : Int) / 281474976710656 % 256, (n : Int) / 1099511627776 % 256, (n : Int) / 4294967296 % 256, (n : Int) / 16777216 % 256, (n : Int) / 65536 % 256, (n : Int) / 256 % 256, (n : Int) % 256]
theorem tailS_eq (n : Nat) (hn : n < 18446744073709551616) : tailS n = 0 :: hiBytes n 8 := by
  have e : hiBytes n 8 = [hiByte n 0, hiByte n 1, hiByte n 2, hiByte n 3, hiByte n 4, hiByte n 5, hiByte n 6, hiByte n 7] := rfl
  rw [e, tailS, hiByte, hiByte, hiByte, hiByte, hiByte, hiByte, hiByte, hiByte, p56, p48, p40, p32, p24, p16, p8, p0, Int.ediv_one, Int.emod_eq_of_lt (a := (n : Int) / 72057594037927936) (by omega) (by omega)]
theorem tailS_range (n : Nat) (hn : n < 18446744073709551616) : ∀ x ∈ tailS n, 0 ≤ x ∧ x < 256 := by
  intro x hx
  simp [tailS] at hx
  omega

set_option maxRecDepth 100000 in
set_option maxHeartbeats 300000 in
theorem deriveR_any (k : List Int) (s : ByteArray) (n : Nat) (kv : Value) (w : World) (hn : n < 18446744073709551616) (hk : SlAt w kv k) (hkb : ∀ x ∈ k, 0 ≤ x ∧ x < 256) (hl : k.length ≤ 9000) (hs : s.size ≤ 9000) :
    Calls Tryd.prog 51 #[kv, .string s, .int .u64 n] w (fun e w' => ∃ v, e = .returned v ∧ SlAt w' v (derS k s n) ∧ Below w.heap.size w w') := by
  have hal2 : Tryd.prog.arrayLen 29 = 32 := by kernel_rfl
  obtain ⟨ao, cap, rfl⟩ := hk.len
  obtain ⟨c1, w1, hcv, hst, hB1, hz1⟩ := str_bytes w s (by unfold maxLen; omega)
  have HST := hide hst
  have HB1 := hide hB1
  have HK := hide hk
  obtain ⟨m, hm⟩ : ∃ m, m = s.size := ⟨_, rfl⟩
  have HM := hide hm
  rw [← hm] at hs hcv
  obtain ⟨R, hR⟩ : ∃ R, R = derS k s n := ⟨_, rfl⟩
  have HR : Hid (R.length = 32) := hide (by rw [hR]; exact length_derS _ _ _)
  rw [← hR]
  have HRE := hide hR
  clear hst hB1 hk hm hR hz1
  go_enter Tryd.func51, Tryd.ntmps51
  obtain ⟨v2, w2, hrun, hsl, hbel⟩ := append_str _ _ _ w.heap.size _ (HST.out.alloc (.cells (cellsOf .u8 (tailS n)) 5)) (Nat.le_refl _) (.slice (some ⟨w1.heap.size, 0, none⟩) 9 9) (tailS n) (slAt_blkN (Blk.new w1 5 .u8 (tailS n)) rfl) (by rw [length_bytesOf, ← HM.out, show (tailS n).length = 9 from rfl]; omega)
  rw [length_bytesOf, ← HM.out, show cellsOf .u8 (tailS n) = #[.int .u8 0, .int .u8 ((n : Int) / 72057594037927936), .int .u8 ((n : Int) / 281474976710656 % 256), .int .u8 ((n : Int) / 1099511627776 % 256), .int .u8 ((n : Int) / 4294967296 % 256), .int .u8 ((n : Int) / 16777216 % 256), .int .u8 ((n : Int) / 65536 % 256), .int .u8 ((n : Int) / 256 % 256), .int .u8 ((n : Int) % 256)] from rfl] at hrun
  have HRUN := hide hrun
  have HB2 := hide (hbel _ (HB1.out.alloc HB1.out.size _))
  have HC := hide (macR_any k (bytesOf s ++ tailS n) (.slice ao k.length cap) v2 w2 (HK.out.below HB2.out) hkb (by omega) hsl (fun x hx => (List.mem_append.1 hx).elim (bytesOf_range s x) (tailS_range n hn x)) (by rw [List.length_append, length_bytesOf, ← HM.out, show (tailS n).length = 9 from rfl]; omega))
  rw [tailS_eq n hn, show macS k (bytesOf s ++ 0 :: hiBytes n 8) = R from HRE.out.symm] at HC
  clear hrun hsl hbel HB1 HST HRE hkb
  go_wp2_with (first
    | (at_builtin; with_reducible refine wpList_append_run rfl (.tmp 10) (.tmp 34) 22 22 22 rfl rfl (.slice (some ⟨w.heap.size, 0, none⟩) m c1) (.slice (some ⟨w1.heap.size, 0, none⟩) 9 9) v2 w2 rfl rfl HRUN.out ?_))
  refine HC.out.mono ?_
  rintro e w3 ⟨rfl, hBX⟩
  have HB3 := hide (below_through hBX HB2.out)
  clear hBX HC HB2 HRUN hcv
  go_wp2_with (first
    | (with_reducible refine wpList_alloc_row rfl 29 rfl (cellsOf .u8 zeros32) zero36 ?_)
    | (with_reducible refine wpList_store_blk rfl 29 (.tmp 8) (.tmp 38) rfl w3.heap.size .u8 R rfl rfl _ _ (Blk.new w3 29 .u8 zeros32) (sz36 R HR.out) (zl32 HR.out) ?_))
  intro w4 hb4 hz4 hB4 hk4
  have HB4 := hide ((HB3.out.alloc HB3.out.size (.cells (cellsOf .u8 zeros32) 29)).trans (hB4 _ HB3.out.size))
  obtain ⟨v5, w5, hrun, hrow, hp⟩ := append_row _ _ _ [] (Row.empty w4) (.slice (some ⟨w3.heap.size, 0, none⟩) 32 32) R (slAt_blkN (hb4.alloc _) HR.out) (by rw [HR.out]; simp) (by simp)
  have HB5 := hide (hp.below _ _ (HB4.out.alloc HB4.out.size _) (by have := HB4.out.size; simp; omega) (fun x hx => by simp [Value.ownBlock] at hx; have := HB4.out.size; omega))
  have HW5 : Hid (SlAt w5 v5 R) := hide (by have := hrow.slAt; rwa [List.nil_append] at this)
  have HRUN := hide hrun
  clear hb4 hz4 hB4 hk4 HB3 HB4 hrun hrow hp
  generalize w3.heap.size = g8 at HRUN ⊢
  go_wp2_with (first
    | (at_builtin; with_reducible refine wpList_append_run rfl (.tmp 39) (.tmp 40) 22 22 22 rfl rfl (.slice (some ⟨w4.heap.size, 0, none⟩) 0 0) (.slice (some ⟨g8, 0, none⟩) 32 32) v5 w5 rfl rfl HRUN.out ?_))
  go_ret
  exact ⟨_, rfl, HW5.out, HB5.out⟩
end Go.Proofs.YtaomigfmjglggaaDoor
