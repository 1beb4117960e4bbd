/- The document's Blocks of layer 1: the state behind all whole blocks, and what is left. -/
import Derived.Test.YtjfidelegmjnkaaProg
import Derived.Test.YtjfidelegmjnkaaRefBlock
import Derived.Test.YtjfidelegmjnkaaPl
import Derived.Test.YtjfidelegmjnkaaSumW
import Derived.Deep.RegionHeld3
import Derived.Deep.MidRow
namespace Go.Proofs.Ytjfidelegmjnkaa
open Go.RowKit

theorem under26 : Try.prog.underlying 55 = some (.array 64 43) := Try.underlying55

theorem rangeAt_setRow {w : World} {g g' : Nat} {C : List Value} {cs : Array Value} (h : w.rangeAt g 0 C) (hne : g ≠ g') : (w.setRow g' cs).rangeAt g 0 C := fun j v hv => by
  have h2 := h j v hv
  unfold World.cell? at h2 ⊢
  rw [_root_.Go.setRow_other w g' g cs hne]
  exact h2

theorem blk_rangeK {w : World} {g : Nat} {t : TypeId} {k : IntKind} {l : List Int} (h : Blk w g t k l) : w.rangeAt g 0 (l.map (Value.int k)) := fun j v hv => by
  have hj : j < l.length := by
    rcases Nat.lt_or_ge j l.length with h | h
    · exact h
    · simp [h] at hv
  rw [Nat.zero_add, h.cell j hj]
  simp [hj] at hv
  simp [nth, List.getD, hj, hv]

/-- Behind the document's Blocks: the state behind the whole blocks, and a slice that reads as what is left. -/
def RefPost (sv X : List Int) (w : World) (e : Ending) (w' : World) : Prop :=
  ∃ bv, e = .returned (.tuple #[.agg (cellsOf .u32 (stAt sv X (X.length / 64))), bv]) ∧ SlAt w' bv (leftS X) ∧ Below w.heap.size w w'

set_option maxRecDepth 100000 in
set_option maxHeartbeats 1000000 in
theorem blocks_ref (sv X : List Int) (v : Value) (w : World) (hh : sv.length = 8) (hX : SlAt w v X) (hb : ∀ x ∈ X, 0 ≤ x ∧ x < 256) (_hl : X.length ≤ 1000000) :
    Calls Try.prog 27 #[.agg (cellsOf .u32 sv), v] w (RefPost sv X w) := by
  obtain ⟨n, hn⟩ : ∃ n, n = X.length := ⟨_, rfl⟩
  obtain ⟨ao, cap, rfl⟩ := hX.len
  have HX := hide hX
  have HN := hide hn
  have HH := hide hh
  have HBY := hide hb
  rw [← hn] at HX ⊢
  clear hX hn hh hb
  go_enter Try.func27, Try.ntmps27
  go_wp2_with (first | (with_reducible refine wpList_alloc_row rfl 44 rfl (cellsOf .u32 zeros8) zero24 ?_))
  have hB0 : Below w.heap.size w ((w.alloc (.cells (cellsOf .u32 sv) 44)).alloc (.cells (cellsOf .u32 zeros8) 44)) := ((Below.refl _ _).alloc (Nat.le_refl _) _).alloc (by simp) _
  have hb0 : Blk ((w.alloc (.cells (cellsOf .u32 sv) 44)).alloc (.cells (cellsOf .u32 zeros8) 44)) w.heap.size 44 .u32 sv := heap_alloc2_old _ _ _
  have hb1 : Blk ((w.alloc (.cells (cellsOf .u32 sv) 44)).alloc (.cells (cellsOf .u32 zeros8) 44)) (w.heap.size + 1) 44 .u32 zeros8 := heap_alloc2_new _ _ _
  generalize ((w.alloc (.cells (cellsOf .u32 sv) 44)).alloc (.cells (cellsOf .u32 zeros8) 44)) = w0 at hB0 hb0 hb1 ⊢
  refine (table_ref _).mono ?_
  rintro e w1 ⟨rfl, hBX⟩
  have hb0' := blk_through hBX hb0
  have hb1' := blk_through hBX hb1
  have hB1 := below_through hBX hB0
  clear hBX hb0 hb1 hB0 w0
  go_wp2_with (first | (with_reducible refine wpList_alloc_row rfl 55 rfl (cellsOf .u32 zeros64) zero26 ?_) | (with_reducible refine wpList_store_row rfl 55 (.tmp 6) (.tmp 7) rfl w1.heap.size (cellsOf .u32 keysS) rfl rfl _ _ (heap_alloc_new _ _) (sz26 keysS rfl) (szEq zeros64 keysS rfl) (oneCell_cellsOf _ _) ?_))
  obtain ⟨W2, hW2⟩ : ∃ W2, W2 = (w1.alloc (.cells (cellsOf .u32 zeros64) 55)).setRow w1.heap.size (cellsOf .u32 keysS) := ⟨_, rfl⟩
  have hc0 : Blk W2 w.heap.size 44 .u32 sv := by rw [hW2]; exact (hb0'.alloc _).rowOther _ _ (Nat.ne_of_lt hb0'.lt)
  have hc1 : Blk W2 (w.heap.size + 1) 44 .u32 zeros8 := by rw [hW2]; exact (hb1'.alloc _).rowOther _ _ (Nat.ne_of_lt hb1'.lt)
  have hc2 : Blk W2 w1.heap.size 55 .u32 keysS := by rw [hW2]; exact (Blk.new w1 _ .u32 zeros64).setRow keysS
  have hcB : Below w.heap.size w W2 := by rw [hW2]; exact below_setRow (hB1.alloc hB1.size _) hB1.size _
  have hgg : w.heap.size + 1 < w1.heap.size := hb1'.lt
  rw [← hW2]
  clear hW2 hb0' hb1' hB1
  generalize w1.heap.size = g2 at hc2 hgg ⊢
  simp only [Act.put, List.setIfInBounds_toArray, List.set_cons_zero, List.set_cons_succ]
  go_loopw [1] (fun b wr => ∃ (m q : Nat) (aq : Option Addr) (cq : Nat), q + 64 * m = n ∧ b = .slice aq q cq ∧ SlAt w (.slice aq q cq) (X.drop (64 * m)) ∧ Blk wr w.heap.size 44 .u32 (stAt sv X m) ∧ Blk wr (w.heap.size + 1) 44 .u32 zeros8 ∧ Blk wr g2 55 .u32 keysS ∧ Below w.heap.size w wr)
    (fun b _ => match b with | .slice _ q _ => q | _ => 0)
  case atStart => exact ⟨0, n, ao, cap, by omega, rfl, HX.out, hc0, hc1, hc2, hcB⟩
  case round =>
    obtain ⟨m, q, aq, cq, hq, rfl, hsl, h0, h1, h2, hB⟩ := hrel
    clear hc0 hc1 hc2 hcB
    by_cases hlt : 64 ≤ q
    · have hqc : q ≤ cq := hsl.le.1
      have hcut1 : ∀ w, (Instr.sliceAt 22 (.slice aq q cq) none (some (.int .i64 64)) none).run Try.prog w = .ok (.slice aq 64 cq) w := fun w => run_cut_h (P := Try.prog) (t := 22) (e := 5) Try.underlying22 size5 aq q cq 64 (by omega) w
      have HCUT2 : Hid (∀ w, (Instr.sliceAt 22 (.slice aq q cq) (some (.int .i64 64)) none none).run Try.prog w = .ok (sl aq 64 (q - 64) cq) w) := hide (fun w => run_cut_l (P := Try.prog) (t := 22) (e := 5) Try.underlying22 size5 aq q cq 64 hlt w)
      obtain ⟨st, hst⟩ : ∃ st, st = stAt sv X m := ⟨_, rfl⟩
      rw [← hst] at h0
      have HSTE := hide hst
      have HST : Hid (st.length = 8) := hide (by rw [hst]; exact length_stAt _ _ HH.out _)
      obtain ⟨bl, hbl⟩ : ∃ bl, bl = (X.drop (64 * m)).take 64 := ⟨_, rfl⟩
      have HBLE := hide hbl
      have HTK : Hid ((takeS st keysS bl).length = 8) := hide ((length_takeS _ _ _).trans HST.out)
      have HBL64 : Hid (bl.length = 64) := hide (by have := HN.out; rw [hbl]; simp; omega)
      have HBLB : Hid (∀ x ∈ bl, 0 ≤ x ∧ x < 256) := hide (fun x hx => HBY.out x (by rw [hbl] at hx; exact List.mem_of_mem_drop (List.mem_of_mem_take hx)))
      obtain ⟨KL, hK⟩ : ∃ KL, KL = keysS.map (Value.int .u32) := ⟨_, rfl⟩
      have HINF : Hid ((Try.prog.info? 55).map (·.size) = some KL.length) := hide (by rw [hK, List.length_map]; exact size26)
      have HSL := hide hsl
      have HXd : Hid (SlAt wr.drew (.slice aq q cq) (X.drop (64 * m))) := hide (hsl.below hB.drew)
      have H0d : Hid (Blk wr.drew w.heap.size 44 .u32 st) := hide h0
      have H1d : Hid (Blk wr.drew (w.heap.size + 1) 44 .u32 zeros8) := hide h1
      have H2d : Hid (Blk wr.drew g2 55 .u32 keysS) := hide h2
      have HBd : Hid (Below w.heap.size w wr.drew) := hide hB.drew
      have HK : Hid (wr.drew.rangeAt g2 0 KL) := hide (by rw [hK]; exact blk_rangeK H2d.out)
      have hg2d : g2 < wr.drew.heap.size := h2.lt
      have hne : g2 ≠ w.heap.size := by omega
      have HBL0 := block_ref st keysS bl (.slice aq 64 cq) wr.drew HST (hide rfl) HBL64 HBLB (by rw [hbl]; exact HXd.out.front' hlt)
      have hKA : cellsOf .u32 keysS = KL.toArray := by rw [hK]; rfl
      rw [hKA] at HBL0
      have HBL := hide HBL0
      clear HBL0 hKA hK hsl h0 h1 h2 hB hst hbl
      go_wp2_with fail
      refine wp_region_held_drew (S := fun w' => w'.rangeAt g2 0 KL) (by kernel_rfl) (fun j v hv => HK.out j v hv) (fun hHeld => ?_)
      refine wpAnyH_take (i := 1) (oi := { dst := some 12, op := Op.move (Operand.tmp 1), type := 22, pos := "ref.go:177", after := #[], guard := none }) (v := ?_) rfl (by kernel_rfl) (by kernel_rfl) (by kernel_rfl) (fun _ _ _ h => h) (Or.inl ⟨by rfl, ?_⟩) hHeld ?_
      rotate_left
      · intro w hSw; (try dsimp only at hSw); go_simp; first | done | with_reducible rfl
      try simp only [Act.put, List.setIfInBounds_toArray, List.set_cons_zero, List.set_cons_succ]
      refine wpAnyH_take (i := 2) (oi := { dst := some 13, op := Op.slice 22 (Operand.tmp 12) none (some (Operand.const (Value.int IntKind.i64 64))) none, type := 22, pos := "ref.go:177", after := #[{ on := 1, ground := Ground.data }], guard := none }) (v := ?_) rfl (by kernel_rfl) (by kernel_rfl) (by kernel_rfl) (fun _ _ _ h => h) (Or.inl ⟨by rfl, ?_⟩) hHeld ?_
      rotate_left
      · intro w hSw; (try dsimp only at hSw); go_simp; first | done | with_reducible rfl
      try simp only [Act.put, List.setIfInBounds_toArray, List.set_cons_zero, List.set_cons_succ]
      refine wpAnyH_take (i := 3) (oi := { dst := some 14, op := Op.load 55 (Operand.tmp 6), type := 55, pos := "ref.go:177", after := #[], guard := none }) (v := .agg KL.toArray) rfl (by kernel_rfl) (by kernel_rfl) (by kernel_rfl) (fun _ _ _ h => h) (yieldsIf_load_mid (by rfl) _ _ rfl g2 0 rfl KL _ (fun w hS => hS) under26 rfl HINF.out) hHeld ?_
      try simp only [Act.put, List.setIfInBounds_toArray, List.set_cons_zero, List.set_cons_succ]
      refine wpAnyH_ready (rs := [0]) (by kernel_rfl) (by simp) ?_
      refine AllReadyH.cons (o := { dst := some 11, op := Op.load 44 (Operand.tmp 2), type := 44, pos := "ref.go:177", after := #[], guard := none }) rfl (fun K hK => ?_) AllReadyH.nil
      clear hHeld
      rw [if_pos (by rfl)]
      refine wp_load_row _ _ rfl w.heap.size rfl _ _ (0, 0) _ H0d.out.row Try.underlying44 rfl (sz24 _ HST.out) ?_
      refine hK.out _ _ (HK.out) (fun hHeld => ?_)
      clear hK K
      try simp only [Act.put, List.setIfInBounds_toArray, List.set_cons_zero, List.set_cons_succ]
      refine wpAnyH_ready (rs := [4]) (by kernel_rfl) (by simp) ?_
      refine AllReadyH.cons (o := { dst := some 15, op := Op.call { callee := Callee.value (Operand.func 39), args := #[Operand.tmp 11, Operand.tmp 13, Operand.tmp 14], argTypes := #[44, 22, 55] }, type := 44, pos := "ref.go:177", after := #[{ on := 0, ground := Ground.data }, { on := 2, ground := Ground.data }, { on := 3, ground := Ground.data }], guard := none }) rfl (fun K hK => ?_) AllReadyH.nil
      clear hHeld
      go_simp
      refine (HBL.out).mono ?_
      rintro e wB ⟨rfl, hBX⟩
      have HKB : Hid (wB.rangeAt g2 0 KL) := hide (fun j v hv => (hBX.cell (p := ⟨g2, 0 + j, none⟩) hg2d).trans (HK.out j v hv))
      have H0B := hide (blk_through hBX H0d.out)
      have H1B := hide (blk_through hBX H1d.out)
      have H2B := hide (blk_through hBX H2d.out)
      have HBB := hide (below_through hBX HBd.out)
      clear hBX
      dsimp only
      refine hK.out _ _ (HKB.out) (fun hHeld => ?_)
      clear hK K
      try simp only [Act.put, List.setIfInBounds_toArray, List.set_cons_zero, List.set_cons_succ]
      refine wpAnyH_ready (rs := [5]) (by kernel_rfl) (by simp) ?_
      refine AllReadyH.cons (o := { dst := none, op := Op.store 44 (Operand.tmp 2) (Operand.tmp 15), type := 0, pos := "ref.go:177", after := #[{ on := 4, ground := Ground.data }, { on := 4, ground := Ground.chain }, { on := 0, ground := Ground.phase }, { on := 1, ground := Ground.phase }, { on := 2, ground := Ground.phase }, { on := 3, ground := Ground.phase }, { on := 4, ground := Ground.phase }], guard := none }) rfl (fun K hK => ?_) AllReadyH.nil
      clear hHeld
      rw [if_pos (by rfl)]
      refine wp_store_row _ _ _ rfl w.heap.size (cellsOf .u32 (takeS st keysS bl)) rfl rfl _ _ H0B.out.row (sz24 _ HTK.out) (szEq _ _ (HST.out.trans HTK.out.symm)) (oneCell_cellsOf _ _) ?_
      refine hK.out _ _ (rangeAt_setRow HKB.out hne) (fun hHeld => ?_)
      clear hK K
      try simp only [Act.put]
      refine wpAnyH_done (by kernel_rfl) ?_ _
      clear hcut1
      obtain ⟨b2, hv2⟩ := sl_len aq 64 (q - 64) cq
      have hcut2 := HCUT2.out
      rw [hv2] at hcut2
      have HN2 : Hid (SlAt w (.slice b2 (q - 64) (cq - 64)) (X.drop (64 * (m + 1)))) := hide (by
        have h := HSL.out.cut (lo := 64) (m := q - 64) (by omega)
        rw [hv2, List.drop_drop, List.take_of_length_le (by have := HN.out; simp; omega), show 64 * m + 64 = 64 * (m + 1) by omega] at h
        exact h)
      have hw0 := H0B.out.setRow (takeS st keysS bl)
      have hw1 := H1B.out.rowOther w.heap.size (cellsOf .u32 (takeS st keysS bl)) (by omega)
      have hw2 := H2B.out.rowOther w.heap.size (cellsOf .u32 (takeS st keysS bl)) hne
      have hwB := below_setRow HBB.out (Nat.le_refl _) (cellsOf .u32 (takeS st keysS bl))
      have HW0 : Hid (Blk (wB.setRow w.heap.size (cellsOf .u32 (takeS st keysS bl))) w.heap.size 44 .u32 (stAt sv X (m + 1))) := hide (by rw [stAt, ← HSTE.out, ← HBLE.out]; exact hw0)
      have HW1 := hide hw1
      have HW2 := hide hw2
      have HWB := hide hwB
      clear hw0 hw1 hw2 hwB hv2 HCUT2 HSL H0B H1B H2B HBB HKB
      go_wp2_with fail
      go_roundw
      case rel => exact ⟨m + 1, q - 64, b2, cq - 64, by omega, rfl, HN2.out, HW0.out, HW1.out, HW2.out, HWB.out⟩
      case measure => show q - 64 < q; omega
    · have hl8 := length_stAt sv X HH.out m
      have hm : m = n / 64 := by omega
      have HST : Hid (stAt sv X m = stAt sv X (X.length / 64)) := hide (by rw [hm, HN.out])
      have HL : Hid (X.drop (64 * m) = leftS X) := hide (by rw [leftS, hm, HN.out])
      have HSL := hide hsl
      obtain ⟨st, hst⟩ : ∃ st, st = stAt sv X m := ⟨_, rfl⟩
      rw [← hst] at h0 hl8 HST
      have HL8 := hide hl8
      clear hst hsl hl8 h2
      go_wp2_with (first | (with_reducible refine wpList_load_row rfl 44 (.tmp 2) rfl w.heap.size rfl _ _ (0, 0) _ h0.row Try.underlying44 rfl (sz24 st HL8.out) ?_) | (with_reducible refine wpList_store_row rfl 44 (.tmp 4) (.tmp 18) rfl (w.heap.size + 1) _ rfl rfl _ _ h1.row (sz24 st HL8.out) (szZ8 st HL8.out) (oneCell_cellsOf _ _) ?_))
      refine bodyPost_ret (results_cell_tmp rfl _ _ (w.heap.size + 1) _ _ (0, 0) _ rfl (h1.setRow st).row Try.underlying44 rfl (sz24 st HL8.out)) rfl ?_
      exact ⟨.slice aq q cq, by rw [HST.out]; rfl, by rw [← HL.out]; exact HSL.out.below (below_setRow hB (by omega) _), below_setRow hB (by omega) _⟩
end Go.Proofs.Ytjfidelegmjnkaa
