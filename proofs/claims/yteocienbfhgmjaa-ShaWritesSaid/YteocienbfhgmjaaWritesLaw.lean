/- The law ShaWrites: its walk. -/
import Derived.Test.YteocienbfhgmjaaArgS
import Derived.Test.YteocienbfhgmjaaRefSum
import Derived.Test.YteocienbfhgmjaaPartsLaw
namespace Go.Proofs.Yteocienbfhgmjaa
open Go.RowKit

/-- 'var x T' in a drawn region. -/
theorem wp_alloc_row {P : Program} {o : Oper} {a : Act} {w : World} {K : Act → World → Prop} {Q : Exit → Act → World → Prop} (ty : TypeId) (ho : o.op = .alloc ty) (Z : Array Value)
    (hz : ∀ w : World, (zeroValue ty).run P w = .ok (.agg Z) w)
    (h : K (a.put o.dst (.pointer (some ⟨w.heap.size, 0, none⟩))) (w.alloc (.cells Z ty))) : o.wp P a w K Q := by
  unfold Oper.wp execOp
  simp [ho, Instr.alloc, hz, newVar, Value.cells]
  exact h

theorem own_block_lt {w : World} {base : Nat} {e : TypeId} {v : Value} {n : Nat} {xs : List Value} (h : w.ownsRow base e 1 v n xs) {k : Nat} (hk : v.ownBlock = some k) : k < w.heap.size := by
  rcases h.2 with ⟨rfl, rfl⟩ | ⟨g, c, cur, rfl, hb, hg, _⟩
  · simp [Value.ownBlock] at hk
  · simp [Value.ownBlock] at hk
    subst hk
    exact (Array.getElem?_eq_some_iff.1 hg).1

/-- A row of bytes of the call's own: a cell of it, and what is there when it is set. -/
theorem own_byte {w : World} {base : Nat} {aq : Option Addr} {cq n : Nat} {l : List Int} (h : w.ownsRow base 5 1 (.slice aq n cq) n (l.map (.int .u8))) {i : Nat} (hi : i < n) :
    ∃ g, aq = some ⟨g, 0, none⟩ ∧ base ≤ g ∧ n ≤ cq ∧ w.cell? ⟨g, i, none⟩ = some (.int .u8 (nth l i)) ∧ w.frozen? ⟨g, i, none⟩ = false ∧ (∃ cur, w.heap[g]? = some (.cells cur 5 (0, 0))) ∧
      ∀ v : Int, (w.setCell ⟨g, i, none⟩ (.int .u8 v)).ownsRow base 5 1 (.slice aq n cq) n ((l.set i v).map (.int .u8)) := by
  have hl := h.1
  simp at hl
  have h0 := h
  rcases h.2 with ⟨hv, hn⟩ | ⟨g, c, cur, hv, hb, hg, hc, hm, hcs, hcx⟩
  · omega
  · simp at hv
    obtain ⟨rfl, rfl⟩ := hv
    refine ⟨g, rfl, hb, hc, ?_, frozen_of_row w g i cur _ hg, ⟨cur, hg⟩, fun v => ?_⟩
    · have := h0.cellAt i (by omega)
      rw [this]
      simp [nth, List.getD, show i < l.length by omega]
    · refine ⟨by simp; omega, .inr ⟨g, cq, cur.setIfInBounds i (.int .u8 v), rfl, hb, ?_, hc, hm, by simpa using hcs, ?_⟩⟩
      · rw [heap_setCell_same w g i _ _ _ hg]
      · rw [Array.toList_setIfInBounds, List.map_set, ← hcx, List.take_set]

/-- Bytes do not lie in a block of words. -/
theorem slAt_setCells {w : World} {v : Value} {xs l : List Int} {g : Nat} {cs : Array Value} (h : SlAt w v xs) (hb : Blk w g 24 .u32 l) : SlAt (w.setRow g cs) v xs := by
  obtain ⟨ao, cap, hv, hn, hc, ha⟩ := h
  refine ⟨ao, cap, hv, hn, hc, fun ad had i hi => ?_⟩
  obtain ⟨h0, h1, h2⟩ := ha ad had i hi
  refine ⟨h0, by rw [size_setRow]; exact h1, ?_⟩
  obtain ⟨b, off, sp⟩ := ad
  cases h0
  rw [addr_plain] at h2 ⊢
  have hne : b ≠ g := fun e => by
    subst e
    rw [cell_of_row _ _ _ _ _ _ hb] at h2
    rcases Nat.lt_or_ge (off + i) l.length with hlt | hge
    · rw [get_cellsOf _ _ _ hlt] at h2
      simp at h2
    · rw [Array.getElem?_eq_none (by rw [size_cellsOf]; exact hge)] at h2
      cases h2
  unfold World.cell? at h2 ⊢
  rw [_root_.Go.setRow_other w g b cs hne]
  exact h2

set_option maxRecDepth 100000 in
set_option maxHeartbeats 2000000 in
theorem writes_walk (zs rest xs : List Int) (rv v : Value) (N : Nat) (w : World) (hz : zs.length = 8) (hr : SlAt w rv rest) (hrb : ∀ x ∈ rest, 0 ≤ x ∧ x < 256) (hrm : rest.length ≤ maxLen) (hx : SlAt w v xs) (hxb : ∀ x ∈ xs, 0 ≤ x ∧ x < 256) (hxm : xs.length ≤ maxLen) :
    Calls Try.prog 6 #[shaV zs rv N, v] w (LawPost w) := by
  obtain ⟨z0, z1, z2, z3, z4, z5, z6, z7, rfl⟩ := list8 hz
  obtain ⟨ra, rc, rfl⟩ := hr.len
  obtain ⟨ao, cap, rfl⟩ := hx.len
  have HR := hide hr
  have HX := hide hx
  have HRB := hide hrb
  have HXB := hide hxb
  obtain ⟨rn, hrn⟩ : ∃ n, n = rest.length := ⟨_, rfl⟩
  obtain ⟨n, hn⟩ : ∃ n, n = xs.length := ⟨_, rfl⟩
  have HRN := hide hrn
  have HN := hide hn
  rw [← hrn] at HR hrm ⊢
  rw [← hn] at HX hxm ⊢
  unfold maxLen at hrm hxm
  rw [show shaV [z0, z1, z2, z3, z4, z5, z6, z7] (.slice ra rn rc) N = .agg #[.int .u32 z0, .int .u32 z1, .int .u32 z2, .int .u32 z3, .int .u32 z4, .int .u32 z5, .int .u32 z6, .int .u32 z7, .slice ra rn rc, .int .u64 N] from rfl]
  clear hr hx hrb hxb hrn hn hz
  obtain ⟨i0, hi, hz0, hz1, hz2⟩ := info_parts Try.info5
  have HI := hide hi
  have HZI0 := hide hz0
  have HZI1 := hide hz1
  have HZI2 := hide hz2
  clear hi hz0 hz1 hz2
  go_enter Try.func6, Try.ntmps6
  have hB0 : Below w.heap.size w (w.alloc (.cells #[.int .u32 z0, .int .u32 z1, .int .u32 z2, .int .u32 z3, .int .u32 z4, .int .u32 z5, .int .u32 z6, .int .u32 z7, .slice ra rn rc, .int .u64 N] 41)) := (Below.refl _ _).alloc (Nat.le_refl _) _
  have HB0 := hide hB0
  clear hB0
  by_cases hbig : 2000 < n ∨ 2000 < rn
  · have hb1 : ¬ 2000 < n → 2000 < rn := fun h => hbig.resolve_left h
    by_cases h4 : 2000 < n
    · clear hb1 hbig
      go_wp2_with fail
      refine (awake_any _).mono ?_
      rintro e w1 ⟨rfl, hB⟩
      have hBF := below_through hB HB0.out
      clear hB
      go_wp2_with fail
      go_ret
      exact ⟨rfl, hBF⟩
    · have h5 := hb1 h4
      clear hb1 hbig
      go_wp2_with fail
      refine (awake_any _).mono ?_
      rintro e w1 ⟨rfl, hB⟩
      have hBF := below_through hB HB0.out
      clear hB
      go_wp2_with fail
      go_ret
      exact ⟨rfl, hBF⟩
  · have h4 : ¬ 2000 < n := fun h => hbig (.inl h)
    have h5 : ¬ 2000 < rn := fun h => hbig (.inr h)
    clear hbig
    go_upto_region 3 with (fail)
    have hrow : (w.alloc (.cells #[.int .u32 z0, .int .u32 z1, .int .u32 z2, .int .u32 z3, .int .u32 z4, .int .u32 z5, .int .u32 z6, .int .u32 z7, .slice ra rn rc, .int .u64 N] 41)).heap[w.heap.size]? = some (.cells #[.int .u32 z0, .int .u32 z1, .int .u32 z2, .int .u32 z3, .int .u32 z4, .int .u32 z5, .int .u32 z6, .int .u32 z7, .slice ra rn rc, .int .u64 N] 41 (0, 0)) := heap_alloc_new _ _
    generalize w.alloc (.cells #[.int .u32 z0, .int .u32 z1, .int .u32 z2, .int .u32 z3, .int .u32 z4, .int .u32 z5, .int .u32 z6, .int .u32 z7, .slice ra rn rc, .int .u64 N] 41) = w0 at hrow HB0 ⊢
    have hg0 : w.heap.size < w0.heap.size := (Array.getElem?_eq_some_iff.1 hrow).1
    have c0 : w0.cell? ⟨w.heap.size, 0, none⟩ = some (.int .u32 z0) := (cell_of_row _ _ 0 _ _ _ hrow).trans rfl
    have c1 : w0.cell? ⟨w.heap.size, 1, none⟩ = some (.int .u32 z1) := (cell_of_row _ _ 1 _ _ _ hrow).trans rfl
    have c2 : w0.cell? ⟨w.heap.size, 2, none⟩ = some (.int .u32 z2) := (cell_of_row _ _ 2 _ _ _ hrow).trans rfl
    have c3 : w0.cell? ⟨w.heap.size, 3, none⟩ = some (.int .u32 z3) := (cell_of_row _ _ 3 _ _ _ hrow).trans rfl
    have c4 : w0.cell? ⟨w.heap.size, 4, none⟩ = some (.int .u32 z4) := (cell_of_row _ _ 4 _ _ _ hrow).trans rfl
    have c5 : w0.cell? ⟨w.heap.size, 5, none⟩ = some (.int .u32 z5) := (cell_of_row _ _ 5 _ _ _ hrow).trans rfl
    have c6 : w0.cell? ⟨w.heap.size, 6, none⟩ = some (.int .u32 z6) := (cell_of_row _ _ 6 _ _ _ hrow).trans rfl
    have c7 : w0.cell? ⟨w.heap.size, 7, none⟩ = some (.int .u32 z7) := (cell_of_row _ _ 7 _ _ _ hrow).trans rfl
    have c8 : w0.cell? ⟨w.heap.size, 8, none⟩ = some (.slice ra rn rc) := (cell_of_row _ _ 8 _ _ _ hrow).trans rfl
    have c9 : w0.cell? ⟨w.heap.size, 9, none⟩ = some (.int .u64 N) := (cell_of_row _ _ 9 _ _ _ hrow).trans rfl
    have HROW := hide hrow
    have hcv := (HR.out.below HB0.out).string (P := Try.prog) 28 5 9 Try.underlying28 Try.underlying5 Try.underlying9
    clear hrow
    generalize hbx : decide (2000 < (n : Int)) = bx
    clear hbx
    go_wp2_with fail
    clear hcv
    have HW := hide (write_any [z0, z1, z2, z3, z4, z5, z6, z7] rest xs (.slice ra rn rc) (.slice ao n cap) N w0 rfl (HR.out.below HB0.out) (HX.out.below HB0.out) (by rw [← HRN.out, ← HN.out]; omega))
    refine HW.out.mono ?_
    rintro e w1 ⟨aq, rq, rfl, hown, hBX⟩
    have HB1 := hide (below_through hBX HB0.out)
    have HR1 := hide ((hBX.block w.heap.size hg0).trans HROW.out)
    have hg01 : w0.heap.size ≤ w1.heap.size := hBX.size
    have HOW := hide hown
    clear hBX hown HW c0 c1 c2 c3 c4 c5 c6 c7 c8 c9
    obtain ⟨q, hq⟩ : ∃ q, q = (rest ++ xs).length % 64 := ⟨_, rfl⟩
    rw [← hq] at HOW ⊢
    have HQ := hide hq
    clear hq
    obtain ⟨NN, hNN⟩ : ∃ NN : Int, NN = IntKind.u64.wrap ((N : Int) + (xs.length : Int)) := ⟨_, rfl⟩
    rw [← hNN]
    have HNN := hide hNN
    clear hNN
    obtain ⟨t0, t1, t2, t3, t4, t5, t6, t7, htk⟩ := list8 (length_stAt [z0, z1, z2, z3, z4, z5, z6, z7] (rest ++ xs) rfl ((rest ++ xs).length / 64))
    rw [htk]
    have HTK := hide htk
    clear htk
    rw [show shaV [t0, t1, t2, t3, t4, t5, t6, t7] (.slice aq q rq) NN = .agg #[.int .u32 t0, .int .u32 t1, .int .u32 t2, .int .u32 t3, .int .u32 t4, .int .u32 t5, .int .u32 t6, .int .u32 t7, .slice aq q rq, .int .u64 NN] from rfl]
    go_wp2_with (first | (refine wpList_store_row rfl 41 (.tmp 6) (.tmp 26) rfl w1.heap.size #[.int .u32 t0, .int .u32 t1, .int .u32 t2, .int .u32 t3, .int .u32 t4, .int .u32 t5, .int .u32 t6, .int .u32 t7, .slice aq q rq, .int .u64 NN] rfl rfl _ _ (heap_alloc_new _ _) size41 rfl (tenOne _ _ _ _ _ _ _ _ _ _ _ _) ?_))
    have hr6 : ((w1.alloc (.cells #[.int .u32 0, .int .u32 0, .int .u32 0, .int .u32 0, .int .u32 0, .int .u32 0, .int .u32 0, .int .u32 0, .slice none 0 0, .int .u64 0] 41)).setRow w1.heap.size #[.int .u32 t0, .int .u32 t1, .int .u32 t2, .int .u32 t3, .int .u32 t4, .int .u32 t5, .int .u32 t6, .int .u32 t7, .slice aq q rq, .int .u64 NN]).heap[w1.heap.size]? = some (.cells #[.int .u32 t0, .int .u32 t1, .int .u32 t2, .int .u32 t3, .int .u32 t4, .int .u32 t5, .int .u32 t6, .int .u32 t7, .slice aq q rq, .int .u64 NN] 41 (0, 0)) := setRow_heap _ _ _ _ _ _ (heap_alloc_new _ _)
    have hr0 : ((w1.alloc (.cells #[.int .u32 0, .int .u32 0, .int .u32 0, .int .u32 0, .int .u32 0, .int .u32 0, .int .u32 0, .int .u32 0, .slice none 0 0, .int .u64 0] 41)).setRow w1.heap.size #[.int .u32 t0, .int .u32 t1, .int .u32 t2, .int .u32 t3, .int .u32 t4, .int .u32 t5, .int .u32 t6, .int .u32 t7, .slice aq q rq, .int .u64 NN]).heap[w.heap.size]? = some (.cells #[.int .u32 z0, .int .u32 z1, .int .u32 z2, .int .u32 z3, .int .u32 z4, .int .u32 z5, .int .u32 z6, .int .u32 z7, .slice ra rn rc, .int .u64 N] 41 (0, 0)) := by
      have hlt : w.heap.size < w1.heap.size := (Array.getElem?_eq_some_iff.1 HR1.out).1
      rw [_root_.Go.setRow_other _ _ _ _ (Nat.ne_of_lt hlt), Below.heap_alloc _ _ _ hlt]
      exact HR1.out
    have hB2 : Below w.heap.size w ((w1.alloc (.cells #[.int .u32 0, .int .u32 0, .int .u32 0, .int .u32 0, .int .u32 0, .int .u32 0, .int .u32 0, .int .u32 0, .slice none 0 0, .int .u64 0] 41)).setRow w1.heap.size #[.int .u32 t0, .int .u32 t1, .int .u32 t2, .int .u32 t3, .int .u32 t4, .int .u32 t5, .int .u32 t6, .int .u32 t7, .slice aq q rq, .int .u64 NN]) := below_setRow (HB1.out.alloc HB1.out.size _) HB1.out.size _
    have how : ((w1.alloc (.cells #[.int .u32 0, .int .u32 0, .int .u32 0, .int .u32 0, .int .u32 0, .int .u32 0, .int .u32 0, .int .u32 0, .slice none 0 0, .int .u64 0] 41)).setRow w1.heap.size #[.int .u32 t0, .int .u32 t1, .int .u32 t2, .int .u32 t3, .int .u32 t4, .int .u32 t5, .int .u32 t6, .int .u32 t7, .slice aq q rq, .int .u64 NN]).ownsRow w0.heap.size 5 1 (.slice aq q rq) q (((rest ++ xs).drop (64 * ((rest ++ xs).length / 64))).map (.int .u8)) :=
      (HOW.out.alloc _).kept (row := some w1.heap.size) ⟨rfl, rfl, rfl, by rw [size_setRow]; exact Nat.le_refl _, fun k _ hk => _root_.Go.setRow_other _ _ k _ (fun e => hk (by rw [e]))⟩ (.inr (fun e => by have := own_block_lt HOW.out e; omega))
    have hg62 : w1.heap.size < ((w1.alloc (.cells #[.int .u32 0, .int .u32 0, .int .u32 0, .int .u32 0, .int .u32 0, .int .u32 0, .int .u32 0, .int .u32 0, .slice none 0 0, .int .u64 0] 41)).setRow w1.heap.size #[.int .u32 t0, .int .u32 t1, .int .u32 t2, .int .u32 t3, .int .u32 t4, .int .u32 t5, .int .u32 t6, .int .u32 t7, .slice aq q rq, .int .u64 NN]).heap.size := (Array.getElem?_eq_some_iff.1 hr6).1
    generalize ((w1.alloc (.cells #[.int .u32 0, .int .u32 0, .int .u32 0, .int .u32 0, .int .u32 0, .int .u32 0, .int .u32 0, .int .u32 0, .slice none 0 0, .int .u64 0] 41)).setRow w1.heap.size #[.int .u32 t0, .int .u32 t1, .int .u32 t2, .int .u32 t3, .int .u32 t4, .int .u32 t5, .int .u32 t6, .int .u32 t7, .slice aq q rq, .int .u64 NN]) = w2 at hr6 hr0 hB2 how hg62 ⊢
    generalize w1.heap.size = g6 at hr6 hg01 hg62 ⊢
    generalize w0.heap.size = b0 at how hg01 hg0 ⊢
    have HR6 := hide hr6
    have HR0w := hide hr0
    have HB2 := hide hB2
    have HOW2 := hide how
    clear hr6 hr0 hB2 how HOW HB0 HROW HR1 HB1
    simp only [Act.put]
    go_upto_region 5 with (fail)
    go_cut [7, 8] (fun s7 s8 W => ∃ (gy : Nat) (bv : Value), s7 = .pointer (some ⟨gy, 0, none⟩) ∧ s8 = bv ∧ Blk W gy 24 .u32 [t0, t1, t2, t3, t4, t5, t6, t7] ∧ SlAt W bv (leftS (rest ++ xs)) ∧ Below w2.heap.size w2 W)
    case first =>
      obtain ⟨W0, hW0⟩ : ∃ W0, W0 = w2.drew := ⟨_, rfl⟩
      have HW0 : Hid (Below w2.heap.size w2 W0 ∧ W0.heap.size = w2.heap.size) := hide (by rw [hW0]; exact ⟨(Below.refl _ _).drew, rfl⟩)
      have HR0 : Hid (SlAt W0 (.slice ra rn rc) rest) := hide (HR.out.below (HB2.out.trans (HW0.out.1.mono HB2.out.size)))
      have HX0 : Hid (SlAt W0 (.slice ao n cap) xs) := hide (HX.out.below (HB2.out.trans (HW0.out.1.mono HB2.out.size)))
      have HL1 : Hid (0 + rest.length ≤ 140737488355328) := hide (by rw [← HRN.out]; omega)
      have HL2 : Hid (0 + rest.length + xs.length ≤ 140737488355328) := hide (by rw [← HRN.out, ← HN.out]; omega)
      have HLE : Hid ((rest ++ xs).length ≤ 1000000) := hide (by rw [List.length_append, ← HRN.out, ← HN.out]; omega)
      have HBYE : Hid (∀ x ∈ rest ++ xs, 0 ≤ x ∧ x < 256) := hide (fun x hx => (List.mem_append.1 hx).elim (HRB.out x) (HXB.out x))
      have hgw : w.heap.size < W0.heap.size := by have := HW0.out.2; omega
      have HSA : Hid (∀ W, Below W0.heap.size W0 W → (fun w' => w'.cell? ⟨w.heap.size, 0, none⟩ = some (.int .u32 z0) ∧ w'.cell? ⟨w.heap.size, 1, none⟩ = some (.int .u32 z1) ∧ w'.cell? ⟨w.heap.size, 2, none⟩ = some (.int .u32 z2) ∧ w'.cell? ⟨w.heap.size, 3, none⟩ = some (.int .u32 z3) ∧ w'.cell? ⟨w.heap.size, 4, none⟩ = some (.int .u32 z4) ∧ w'.cell? ⟨w.heap.size, 5, none⟩ = some (.int .u32 z5) ∧ w'.cell? ⟨w.heap.size, 6, none⟩ = some (.int .u32 z6) ∧ w'.cell? ⟨w.heap.size, 7, none⟩ = some (.int .u32 z7) ∧ w'.cell? ⟨w.heap.size, 8, none⟩ = some (.slice ra rn rc) ∧ w'.cell? ⟨w.heap.size, 9, none⟩ = some (.int .u64 N)) W) := hide (fun W hb => by
        have hrw : W.heap[w.heap.size]? = some (.cells #[.int .u32 z0, .int .u32 z1, .int .u32 z2, .int .u32 z3, .int .u32 z4, .int .u32 z5, .int .u32 z6, .int .u32 z7, .slice ra rn rc, .int .u64 N] 41 (0, 0)) := (hb.block _ hgw).trans ((HW0.out.1.block _ (by have := HW0.out.2; omega)).trans HR0w.out)
        exact ⟨(cell_of_row _ _ 0 _ _ _ hrw).trans rfl, (cell_of_row _ _ 1 _ _ _ hrw).trans rfl, (cell_of_row _ _ 2 _ _ _ hrw).trans rfl, (cell_of_row _ _ 3 _ _ _ hrw).trans rfl, (cell_of_row _ _ 4 _ _ _ hrw).trans rfl, (cell_of_row _ _ 5 _ _ _ hrw).trans rfl, (cell_of_row _ _ 6 _ _ _ hrw).trans rfl, (cell_of_row _ _ 7 _ _ _ hrw).trans rfl, (cell_of_row _ _ 8 _ _ _ hrw).trans rfl, (cell_of_row _ _ 9 _ _ _ hrw).trans rfl⟩)
      have HB0 := hide (Below.refl W0.heap.size W0)
      obtain ⟨S0, hS0⟩ : ∃ s, s = W0.heap.size := ⟨_, rfl⟩
      have HS00 := hide hS0
      clear hS0
      have HS0 : (fun w' => w'.cell? ⟨w.heap.size, 0, none⟩ = some (.int .u32 z0) ∧ w'.cell? ⟨w.heap.size, 1, none⟩ = some (.int .u32 z1) ∧ w'.cell? ⟨w.heap.size, 2, none⟩ = some (.int .u32 z2) ∧ w'.cell? ⟨w.heap.size, 3, none⟩ = some (.int .u32 z3) ∧ w'.cell? ⟨w.heap.size, 4, none⟩ = some (.int .u32 z4) ∧ w'.cell? ⟨w.heap.size, 5, none⟩ = some (.int .u32 z5) ∧ w'.cell? ⟨w.heap.size, 6, none⟩ = some (.int .u32 z6) ∧ w'.cell? ⟨w.heap.size, 7, none⟩ = some (.int .u32 z7) ∧ w'.cell? ⟨w.heap.size, 8, none⟩ = some (.slice ra rn rc) ∧ w'.cell? ⟨w.heap.size, 9, none⟩ = some (.int .u64 N)) w2.drew := by rw [← hW0]; exact HSA.out _ HB0.out
      refine wp_region_held_drew (S := fun w' => w'.cell? ⟨w.heap.size, 0, none⟩ = some (.int .u32 z0) ∧ w'.cell? ⟨w.heap.size, 1, none⟩ = some (.int .u32 z1) ∧ w'.cell? ⟨w.heap.size, 2, none⟩ = some (.int .u32 z2) ∧ w'.cell? ⟨w.heap.size, 3, none⟩ = some (.int .u32 z3) ∧ w'.cell? ⟨w.heap.size, 4, none⟩ = some (.int .u32 z4) ∧ w'.cell? ⟨w.heap.size, 5, none⟩ = some (.int .u32 z5) ∧ w'.cell? ⟨w.heap.size, 6, none⟩ = some (.int .u32 z6) ∧ w'.cell? ⟨w.heap.size, 7, none⟩ = some (.int .u32 z7) ∧ w'.cell? ⟨w.heap.size, 8, none⟩ = some (.slice ra rn rc) ∧ w'.cell? ⟨w.heap.size, 9, none⟩ = some (.int .u64 N)) (by kernel_rfl) HS0 (fun hHeld => ?_)
      rw [← hW0] at hHeld ⊢
      clear hW0
      refine wpAnyH_take (i := 0) (oi := { dst := some 28, op := Op.fieldAddr 41 (Operand.tmp 2) 0, type := 0, pos := "law.go:51", after := #[], guard := none }) (v := ?_) rfl (by kernel_rfl) (by kernel_rfl) (by kernel_rfl) (fun _ _ _ h => h) (Or.inl ⟨by rfl, ?_⟩) hHeld ?_
      rotate_left
      · intro w hSw; (try dsimp only at hSw); go_simp; first | done | with_reducible rfl
      try simp only [Act.put, List.setIfInBounds_toArray, List.set_cons_zero, List.set_cons_succ]
      refine wpAnyH_take (i := 1) (oi := { dst := some 29, op := Op.load 24 (Operand.tmp 28), type := 24, pos := "law.go:51", after := #[{ on := 0, ground := Ground.data }], guard := none }) (v := ?_) rfl (by kernel_rfl) (by kernel_rfl) (by kernel_rfl) (fun _ _ _ h => h) (Or.inl ⟨by rfl, ?_⟩) hHeld ?_
      rotate_left
      · intro w hSw; (try dsimp only at hSw); go_simp; first | done | with_reducible rfl
      try simp only [Act.put, List.setIfInBounds_toArray, List.set_cons_zero, List.set_cons_succ]
      refine wpAnyH_take (i := 3) (oi := { dst := some 31, op := Op.fieldAddr 41 (Operand.tmp 2) 1, type := 0, pos := "law.go:51", after := #[], guard := none }) (v := ?_) rfl (by kernel_rfl) (by kernel_rfl) (by kernel_rfl) (fun _ _ _ h => h) (Or.inl ⟨by rfl, ?_⟩) hHeld ?_
      rotate_left
      · intro w hSw; (try dsimp only at hSw); go_simp; first | done | with_reducible rfl
      try simp only [Act.put, List.setIfInBounds_toArray, List.set_cons_zero, List.set_cons_succ]
      refine wpAnyH_take (i := 4) (oi := { dst := some 32, op := Op.load 28 (Operand.tmp 31), type := 28, pos := "law.go:51", after := #[{ on := 3, ground := Ground.data }], guard := none }) (v := ?_) rfl (by kernel_rfl) (by kernel_rfl) (by kernel_rfl) (fun _ _ _ h => h) (Or.inl ⟨by rfl, ?_⟩) hHeld ?_
      rotate_left
      · intro w hSw; (try dsimp only at hSw); go_simp; first | done | with_reducible rfl
      try simp only [Act.put, List.setIfInBounds_toArray, List.set_cons_zero, List.set_cons_succ]
      refine wpAnyH_take (i := 6) (oi := { dst := some 34, op := Op.move (Operand.tmp 1), type := 28, pos := "law.go:51", after := #[], guard := none }) (v := ?_) rfl (by kernel_rfl) (by kernel_rfl) (by kernel_rfl) (fun _ _ _ h => h) (Or.inl ⟨by rfl, ?_⟩) hHeld ?_
      rotate_left
      · intro w hSw; (try dsimp only at hSw); go_simp; first | done | with_reducible rfl
      try simp only [Act.put, List.setIfInBounds_toArray, List.set_cons_zero, List.set_cons_succ]
      refine wpAnyH_ready (rs := [2, 12]) (by kernel_rfl) (by simp) ?_
      refine (AllReadyH.cons (o := { dst := some 30, op := Op.buildSlice 28 0 #[], type := 28, pos := "law.go:51", after := #[], guard := none }) rfl (fun K hK => ?_) (AllReadyH.cons (o := { dst := some 7, op := Op.alloc 24, type := 0, pos := "law.go:51", after := #[], guard := none }) rfl (fun K hK => ?_) AllReadyH.nil))
      · go_simp
        have HO1 := hide (own_empty W0 5)
        have HB1 := hide (HB0.out.alloc HB0.out.size (.cells #[] 5))
        have hbs : S0 ≤ W0.heap.size := by rw [HS00.out]; exact HB0.out.size
        have hbl : W0.heap.size ≤ (W0.alloc (.cells #[] 5)).heap.size := by simp
        generalize W0.alloc (.cells #[] 5) = W1 at HB1 HO1 hbl ⊢
        generalize W0.heap.size = bs at HO1 hbs hbl ⊢
        refine hK.out _ _ (HSA.out _ HB1.out) (fun hHeld => ?_)
        clear hK K
        try simp only [Act.put, List.setIfInBounds_toArray, List.set_cons_zero, List.set_cons_succ]
        refine wpAnyH_ready (rs := [5, 12]) (by kernel_rfl) (by simp) ?_
        refine (AllReadyH.cons (o := { dst := some 33, op := Op.call { callee := Callee.builtin Builtin.append, args := #[Operand.tmp 30, Operand.tmp 32], argTypes := #[28, 28] }, type := 28, pos := "law.go:51", after := #[{ on := 2, ground := Ground.data }, { on := 4, ground := Ground.data }], guard := none }) rfl (fun K hK => ?_) (AllReadyH.cons (o := { dst := some 7, op := Op.alloc 24, type := 0, pos := "law.go:51", after := #[], guard := none }) rfl (fun K hK => ?_) AllReadyH.nil))
        · rw [if_pos (by rfl)]
          obtain ⟨v1, W2, hrun, hown, hgr, hat⟩ := append_sl (P := Try.prog) (w := W1) (t := 28) (e := 5) Try.underlying28 HI.out HZI0.out HZI1.out HZI2.out bs (.slice (some ⟨bs, 0, none⟩) 0 0) 0 [] HO1.out (.slice ra rn rc) rest (HR0.out.below HB1.out) HL1.out hbl 28
          refine wp_append_run (.tmp 30) (.tmp 32) 28 28 28 rfl rfl _ _ v1 W2 rfl rfl hrun ?_
          have hrw : ∀ k, Value.ownBlock (.slice (some ⟨bs, 0, none⟩) 0 0) = some k → bs ≤ k := own_block_le HO1.out
          have HB2 := hide (HB1.out.grown hgr HB1.out.size (fun k e => by have h1 := hrw k e; have h2 := HS00.out; omega))
          replace hbl := Nat.le_trans hbl hgr.size
          have HO2 := hide hown
          clear hrun hown hgr hat hrw
          refine hK.out _ _ (HSA.out _ HB2.out) (fun hHeld => ?_)
          clear hK K
          try simp only [Act.put, List.setIfInBounds_toArray, List.set_cons_zero, List.set_cons_succ]
          refine wpAnyH_ready (rs := [7, 12]) (by kernel_rfl) (by simp) ?_
          refine (AllReadyH.cons (o := { dst := some 35, op := Op.call { callee := Callee.builtin Builtin.append, args := #[Operand.tmp 33, Operand.tmp 34], argTypes := #[28, 28] }, type := 28, pos := "law.go:51", after := #[{ on := 5, ground := Ground.data }, { on := 6, ground := Ground.data }, { on := 5, ground := Ground.chain }], guard := none }) rfl (fun K hK => ?_) (AllReadyH.cons (o := { dst := some 7, op := Op.alloc 24, type := 0, pos := "law.go:51", after := #[], guard := none }) rfl (fun K hK => ?_) AllReadyH.nil))
          · rw [if_pos (by rfl)]
            obtain ⟨v2, W3, hrun, hown, hgr, hat⟩ := append_sl (P := Try.prog) (w := W2) (t := 28) (e := 5) Try.underlying28 HI.out HZI0.out HZI1.out HZI2.out bs v1 (0 + rest.length) ([] ++ rest) HO2.out (.slice ao n cap) xs (HX0.out.below HB2.out) HL2.out hbl 28
            refine wp_append_run (.tmp 33) (.tmp 34) 28 28 28 rfl rfl _ _ v2 W3 rfl rfl hrun ?_
            have hrw : ∀ k, Value.ownBlock v1 = some k → bs ≤ k := own_block_le HO2.out
            have HB3 := hide (HB2.out.grown hgr HB2.out.size (fun k e => by have h1 := hrw k e; have h2 := HS00.out; omega))
            replace hbl := Nat.le_trans hbl hgr.size
            have HO3 := hide hown
            clear hrun hown hgr hat hrw
            refine hK.out _ _ (HSA.out _ HB3.out) (fun hHeld => ?_)
            clear hK K
            try simp only [Act.put, List.setIfInBounds_toArray, List.set_cons_zero, List.set_cons_succ]
            refine wpAnyH_ready (rs := [8, 12]) (by kernel_rfl) (by simp) ?_
            refine (AllReadyH.cons (o := { dst := some 36, op := Op.call { callee := Callee.value (Operand.func 24), args := #[Operand.tmp 29, Operand.tmp 35], argTypes := #[24, 28] }, type := 43, pos := "law.go:51", after := #[{ on := 1, ground := Ground.data }, { on := 7, ground := Ground.data }, { on := 7, ground := Ground.chain }], guard := none }) rfl (fun K hK => ?_) (AllReadyH.cons (o := { dst := some 7, op := Op.alloc 24, type := 0, pos := "law.go:51", after := #[], guard := none }) rfl (fun K hK => ?_) AllReadyH.nil))
            · go_simp
              have hsl : SlAt W3 v2 (rest ++ xs) := by have := slAt_ownV HO3.out; rwa [List.nil_append] at this
              refine (blocks_ref [z0, z1, z2, z3, z4, z5, z6, z7] (rest ++ xs) v2 W3 rfl hsl HBYE.out HLE.out).mono ?_
              rintro e W4 ⟨bv, rfl, hbv, hBX⟩
              have HB4 := hide (HB3.out.trans (hBX.mono HB3.out.size))
              have HV4 := hide hbv
              clear hBX hsl hbv
              rw [HTK.out]
              dsimp only
              refine hK.out _ _ (HSA.out _ HB4.out) (fun hHeld => ?_)
              clear hK K
              try simp only [Act.put, List.setIfInBounds_toArray, List.set_cons_zero, List.set_cons_succ]
              refine wpAnyH_take (i := 9) (oi := { dst := some 27, op := Op.move (Operand.tmp 36), type := 43, pos := "law.go:51", after := #[{ on := 8, ground := Ground.data }], guard := none }) (v := ?_) rfl (by kernel_rfl) (by kernel_rfl) (by kernel_rfl) (fun _ _ _ h => h) (Or.inl ⟨by rfl, ?_⟩) hHeld ?_
              rotate_left
              · intro w hSw; (try dsimp only at hSw); go_simp; first | done | with_reducible rfl
              try simp only [Act.put, List.setIfInBounds_toArray, List.set_cons_zero, List.set_cons_succ]
              refine wpAnyH_take (i := 10) (oi := { dst := some 37, op := Op.extract (Operand.tmp 27) 0, type := 24, pos := "law.go:51", after := #[{ on := 9, ground := Ground.data }], guard := none }) (v := ?_) rfl (by kernel_rfl) (by kernel_rfl) (by kernel_rfl) (fun _ _ _ h => h) (Or.inl ⟨by rfl, ?_⟩) hHeld ?_
              rotate_left
              · intro w hSw; (try dsimp only at hSw); go_simp; first | done | with_reducible rfl
              try simp only [Act.put, List.setIfInBounds_toArray, List.set_cons_zero, List.set_cons_succ]
              refine wpAnyH_take (i := 11) (oi := { dst := some 38, op := Op.extract (Operand.tmp 27) 1, type := 28, pos := "law.go:51", after := #[{ on := 9, ground := Ground.data }, { on := 13, ground := Ground.gcOnly Departure.lateStores }], guard := none }) (v := ?_) rfl (by kernel_rfl) (by kernel_rfl) (by kernel_rfl) (fun _ _ _ h => h) (Or.inl ⟨by rfl, ?_⟩) hHeld ?_
              rotate_left
              · intro w hSw; (try dsimp only at hSw); go_simp; first | done | with_reducible rfl
              try simp only [Act.put, List.setIfInBounds_toArray, List.set_cons_zero, List.set_cons_succ]
              refine wpAnyH_ready (rs := [12]) (by kernel_rfl) (by simp) ?_
              refine (AllReadyH.cons (o := { dst := some 7, op := Op.alloc 24, type := 0, pos := "law.go:51", after := #[], guard := none }) rfl (fun K hK => ?_) AllReadyH.nil)
              · rw [if_pos (by rfl)]
                refine wp_alloc_row _ rfl (cellsOf .u32 zeros8) zero24 ?_
                have HB5 := hide (HB4.out.alloc HB4.out.size (.cells (cellsOf .u32 zeros8) 24))
                have AY5 := hide (Blk.new W4 24 .u32 zeros8)
                have HV5 := hide (HV4.out.below ((Below.refl W4.heap.size W4).alloc (Nat.le_refl _) (.cells (cellsOf .u32 zeros8) 24)))
                have hgy : S0 ≤ W4.heap.size := by rw [HS00.out]; exact HB4.out.size
                generalize W4.alloc (.cells (cellsOf .u32 zeros8) 24) = W5 at HB5 AY5 HV5 ⊢
                generalize W4.heap.size = gy at AY5 hgy ⊢
                refine hK.out _ _ (HSA.out _ HB5.out) (fun hHeld => ?_)
                clear hK K
                try simp only [Act.put, List.setIfInBounds_toArray, List.set_cons_zero, List.set_cons_succ]
                refine wpAnyH_ready (rs := [13]) (by kernel_rfl) (by simp) ?_
                refine (AllReadyH.cons (o := { dst := none, op := Op.store 24 (Operand.tmp 7) (Operand.tmp 37), type := 0, pos := "law.go:51", after := #[{ on := 12, ground := Ground.data }, { on := 10, ground := Ground.data }, { on := 8, ground := Ground.chain }, { on := 0, ground := Ground.phase }, { on := 1, ground := Ground.phase }, { on := 2, ground := Ground.phase }, { on := 3, ground := Ground.phase }, { on := 4, ground := Ground.phase }, { on := 5, ground := Ground.phase }, { on := 6, ground := Ground.phase }, { on := 7, ground := Ground.phase }, { on := 8, ground := Ground.phase }, { on := 9, ground := Ground.phase }, { on := 10, ground := Ground.phase }, { on := 11, ground := Ground.textOnly Departure.lateStores }, { on := 12, ground := Ground.phase }], guard := none }) rfl (fun K hK => ?_) AllReadyH.nil)
                · rw [if_pos (by rfl)]
                  refine wp_store_row _ _ _ rfl gy (cellsOf .u32 [t0, t1, t2, t3, t4, t5, t6, t7]) rfl rfl _ _ AY5.out.row (sz24 _ rfl) (szEq zeros8 _ rfl) (oneCell_cellsOf _ _) ?_
                  have HB6 := hide (below_setRow (g := gy) HB5.out (by have h2 := HS00.out; omega) (cellsOf .u32 [t0, t1, t2, t3, t4, t5, t6, t7]))
                  have AY6 := hide (AY5.out.setRow [t0, t1, t2, t3, t4, t5, t6, t7])
                  have HV6 : Hid (SlAt (W5.setRow gy (cellsOf .u32 [t0, t1, t2, t3, t4, t5, t6, t7])) bv (leftS (rest ++ xs))) := hide (slAt_setCells HV5.out AY5.out)
                  generalize W5.setRow gy (cellsOf .u32 [t0, t1, t2, t3, t4, t5, t6, t7]) = W6 at HB6 AY6 HV6 ⊢
                  refine hK.out _ _ (HSA.out _ HB6.out) (fun hHeld => ?_)
                  clear hK K
                  try simp only [Act.put]
                  refine wpAnyH_take (i := 14) (oi := { dst := some 8, op := Op.assign (Operand.tmp 38), type := 28, pos := "law.go:51", after := #[{ on := 11, ground := Ground.data }, { on := 13, ground := Ground.chain }, { on := 0, ground := Ground.phase }, { on := 1, ground := Ground.phase }, { on := 2, ground := Ground.phase }, { on := 3, ground := Ground.phase }, { on := 4, ground := Ground.phase }, { on := 5, ground := Ground.phase }, { on := 6, ground := Ground.phase }, { on := 7, ground := Ground.phase }, { on := 8, ground := Ground.phase }, { on := 9, ground := Ground.phase }, { on := 10, ground := Ground.phase }, { on := 11, ground := Ground.phase }, { on := 12, ground := Ground.phase }, { on := 13, ground := Ground.phase }], guard := none }) (v := ?_) rfl (by kernel_rfl) (by kernel_rfl) (by kernel_rfl) (fun _ _ _ h => h) (Or.inl ⟨by rfl, ?_⟩) hHeld ?_
                  rotate_left
                  · intro w hSw; (try dsimp only at hSw); go_simp; first | done | with_reducible rfl
                  try simp only [Act.put, List.setIfInBounds_toArray, List.set_cons_zero, List.set_cons_succ]
                  refine wpAnyH_done (by kernel_rfl) ?_ _
                  go_wp2_with fail
                  go_meet
                  exact ⟨gy, bv, rfl, rfl, AY6.out, HV6.out, HW0.out.1.trans (HB6.out.mono (Nat.le_of_eq HW0.out.2.symm))⟩
            · rw [if_pos (by rfl)]
              refine wp_alloc_row _ rfl (cellsOf .u32 zeros8) zero24 ?_
              have HB4 := hide (HB3.out.alloc HB3.out.size (.cells (cellsOf .u32 zeros8) 24))
              have AY4 := hide (Blk.new W3 24 .u32 zeros8)
              have HO4 := hide (HO3.out.alloc (.cells (cellsOf .u32 zeros8) 24))
              have NE4 : Value.ownBlock v2 ≠ some W3.heap.size := fun e => by have := HO3.out; have h2 := own_block_lt this e; omega
              replace hbl : bs ≤ (W3.alloc (.cells (cellsOf .u32 zeros8) 24)).heap.size := Nat.le_trans hbl (by simp)
              have hgy : S0 ≤ W3.heap.size := by rw [HS00.out]; exact HB3.out.size
              generalize W3.alloc (.cells (cellsOf .u32 zeros8) 24) = W4 at HB4 AY4 HO4 hbl ⊢
              generalize W3.heap.size = gy at AY4 hgy NE4 ⊢
              refine hK.out _ _ (HSA.out _ HB4.out) (fun hHeld => ?_)
              clear hK K
              try simp only [Act.put, List.setIfInBounds_toArray, List.set_cons_zero, List.set_cons_succ]
              refine wpAnyH_ready (rs := [8]) (by kernel_rfl) (by simp) ?_
              refine (AllReadyH.cons (o := { dst := some 36, op := Op.call { callee := Callee.value (Operand.func 24), args := #[Operand.tmp 29, Operand.tmp 35], argTypes := #[24, 28] }, type := 43, pos := "law.go:51", after := #[{ on := 1, ground := Ground.data }, { on := 7, ground := Ground.data }, { on := 7, ground := Ground.chain }], guard := none }) rfl (fun K hK => ?_) AllReadyH.nil)
              · go_simp
                have hsl : SlAt W4 v2 (rest ++ xs) := by have := slAt_ownV HO4.out; rwa [List.nil_append] at this
                refine (blocks_ref [z0, z1, z2, z3, z4, z5, z6, z7] (rest ++ xs) v2 W4 rfl hsl HBYE.out HLE.out).mono ?_
                rintro e W5 ⟨bv, rfl, hbv, hBX⟩
                have HB5 := hide (HB4.out.trans (hBX.mono HB4.out.size))
                have HV5 := hide hbv
                have AY5 := hide (blk_through hBX AY4.out)
                clear hBX hsl hbv
                rw [HTK.out]
                dsimp only
                refine hK.out _ _ (HSA.out _ HB5.out) (fun hHeld => ?_)
                clear hK K
                try simp only [Act.put, List.setIfInBounds_toArray, List.set_cons_zero, List.set_cons_succ]
                refine wpAnyH_take (i := 9) (oi := { dst := some 27, op := Op.move (Operand.tmp 36), type := 43, pos := "law.go:51", after := #[{ on := 8, ground := Ground.data }], guard := none }) (v := ?_) rfl (by kernel_rfl) (by kernel_rfl) (by kernel_rfl) (fun _ _ _ h => h) (Or.inl ⟨by rfl, ?_⟩) hHeld ?_
                rotate_left
                · intro w hSw; (try dsimp only at hSw); go_simp; first | done | with_reducible rfl
                try simp only [Act.put, List.setIfInBounds_toArray, List.set_cons_zero, List.set_cons_succ]
                refine wpAnyH_take (i := 10) (oi := { dst := some 37, op := Op.extract (Operand.tmp 27) 0, type := 24, pos := "law.go:51", after := #[{ on := 9, ground := Ground.data }], guard := none }) (v := ?_) rfl (by kernel_rfl) (by kernel_rfl) (by kernel_rfl) (fun _ _ _ h => h) (Or.inl ⟨by rfl, ?_⟩) hHeld ?_
                rotate_left
                · intro w hSw; (try dsimp only at hSw); go_simp; first | done | with_reducible rfl
                try simp only [Act.put, List.setIfInBounds_toArray, List.set_cons_zero, List.set_cons_succ]
                refine wpAnyH_take (i := 11) (oi := { dst := some 38, op := Op.extract (Operand.tmp 27) 1, type := 28, pos := "law.go:51", after := #[{ on := 9, ground := Ground.data }, { on := 13, ground := Ground.gcOnly Departure.lateStores }], guard := none }) (v := ?_) rfl (by kernel_rfl) (by kernel_rfl) (by kernel_rfl) (fun _ _ _ h => h) (Or.inl ⟨by rfl, ?_⟩) hHeld ?_
                rotate_left
                · intro w hSw; (try dsimp only at hSw); go_simp; first | done | with_reducible rfl
                try simp only [Act.put, List.setIfInBounds_toArray, List.set_cons_zero, List.set_cons_succ]
                refine wpAnyH_ready (rs := [13]) (by kernel_rfl) (by simp) ?_
                refine (AllReadyH.cons (o := { dst := none, op := Op.store 24 (Operand.tmp 7) (Operand.tmp 37), type := 0, pos := "law.go:51", after := #[{ on := 12, ground := Ground.data }, { on := 10, ground := Ground.data }, { on := 8, ground := Ground.chain }, { on := 0, ground := Ground.phase }, { on := 1, ground := Ground.phase }, { on := 2, ground := Ground.phase }, { on := 3, ground := Ground.phase }, { on := 4, ground := Ground.phase }, { on := 5, ground := Ground.phase }, { on := 6, ground := Ground.phase }, { on := 7, ground := Ground.phase }, { on := 8, ground := Ground.phase }, { on := 9, ground := Ground.phase }, { on := 10, ground := Ground.phase }, { on := 11, ground := Ground.textOnly Departure.lateStores }, { on := 12, ground := Ground.phase }], guard := none }) rfl (fun K hK => ?_) AllReadyH.nil)
                · rw [if_pos (by rfl)]
                  refine wp_store_row _ _ _ rfl gy (cellsOf .u32 [t0, t1, t2, t3, t4, t5, t6, t7]) rfl rfl _ _ AY5.out.row (sz24 _ rfl) (szEq zeros8 _ rfl) (oneCell_cellsOf _ _) ?_
                  have HB6 := hide (below_setRow (g := gy) HB5.out (by have h2 := HS00.out; omega) (cellsOf .u32 [t0, t1, t2, t3, t4, t5, t6, t7]))
                  have AY6 := hide (AY5.out.setRow [t0, t1, t2, t3, t4, t5, t6, t7])
                  have HV6 : Hid (SlAt (W5.setRow gy (cellsOf .u32 [t0, t1, t2, t3, t4, t5, t6, t7])) bv (leftS (rest ++ xs))) := hide (slAt_setCells HV5.out AY5.out)
                  generalize W5.setRow gy (cellsOf .u32 [t0, t1, t2, t3, t4, t5, t6, t7]) = W6 at HB6 AY6 HV6 ⊢
                  refine hK.out _ _ (HSA.out _ HB6.out) (fun hHeld => ?_)
                  clear hK K
                  try simp only [Act.put]
                  refine wpAnyH_take (i := 14) (oi := { dst := some 8, op := Op.assign (Operand.tmp 38), type := 28, pos := "law.go:51", after := #[{ on := 11, ground := Ground.data }, { on := 13, ground := Ground.chain }, { on := 0, ground := Ground.phase }, { on := 1, ground := Ground.phase }, { on := 2, ground := Ground.phase }, { on := 3, ground := Ground.phase }, { on := 4, ground := Ground.phase }, { on := 5, ground := Ground.phase }, { on := 6, ground := Ground.phase }, { on := 7, ground := Ground.phase }, { on := 8, ground := Ground.phase }, { on := 9, ground := Ground.phase }, { on := 10, ground := Ground.phase }, { on := 11, ground := Ground.phase }, { on := 12, ground := Ground.phase }, { on := 13, ground := Ground.phase }], guard := none }) (v := ?_) rfl (by kernel_rfl) (by kernel_rfl) (by kernel_rfl) (fun _ _ _ h => h) (Or.inl ⟨by rfl, ?_⟩) hHeld ?_
                  rotate_left
                  · intro w hSw; (try dsimp only at hSw); go_simp; first | done | with_reducible rfl
                  try simp only [Act.put, List.setIfInBounds_toArray, List.set_cons_zero, List.set_cons_succ]
                  refine wpAnyH_done (by kernel_rfl) ?_ _
                  go_wp2_with fail
                  go_meet
                  exact ⟨gy, bv, rfl, rfl, AY6.out, HV6.out, HW0.out.1.trans (HB6.out.mono (Nat.le_of_eq HW0.out.2.symm))⟩
          · rw [if_pos (by rfl)]
            refine wp_alloc_row _ rfl (cellsOf .u32 zeros8) zero24 ?_
            have HB3 := hide (HB2.out.alloc HB2.out.size (.cells (cellsOf .u32 zeros8) 24))
            have AY3 := hide (Blk.new W2 24 .u32 zeros8)
            have HO3 := hide (HO2.out.alloc (.cells (cellsOf .u32 zeros8) 24))
            have NE3 : Value.ownBlock v1 ≠ some W2.heap.size := fun e => by have := HO2.out; have h2 := own_block_lt this e; omega
            replace hbl : bs ≤ (W2.alloc (.cells (cellsOf .u32 zeros8) 24)).heap.size := Nat.le_trans hbl (by simp)
            have hgy : S0 ≤ W2.heap.size := by rw [HS00.out]; exact HB2.out.size
            generalize W2.alloc (.cells (cellsOf .u32 zeros8) 24) = W3 at HB3 AY3 HO3 hbl ⊢
            generalize W2.heap.size = gy at AY3 hgy NE3 ⊢
            refine hK.out _ _ (HSA.out _ HB3.out) (fun hHeld => ?_)
            clear hK K
            try simp only [Act.put, List.setIfInBounds_toArray, List.set_cons_zero, List.set_cons_succ]
            refine wpAnyH_ready (rs := [7]) (by kernel_rfl) (by simp) ?_
            refine (AllReadyH.cons (o := { dst := some 35, op := Op.call { callee := Callee.builtin Builtin.append, args := #[Operand.tmp 33, Operand.tmp 34], argTypes := #[28, 28] }, type := 28, pos := "law.go:51", after := #[{ on := 5, ground := Ground.data }, { on := 6, ground := Ground.data }, { on := 5, ground := Ground.chain }], guard := none }) rfl (fun K hK => ?_) AllReadyH.nil)
            · rw [if_pos (by rfl)]
              obtain ⟨v2, W4, hrun, hown, hgr, hat⟩ := append_sl (P := Try.prog) (w := W3) (t := 28) (e := 5) Try.underlying28 HI.out HZI0.out HZI1.out HZI2.out bs v1 (0 + rest.length) ([] ++ rest) HO3.out (.slice ao n cap) xs (HX0.out.below HB3.out) HL2.out hbl 28
              refine wp_append_run (.tmp 33) (.tmp 34) 28 28 28 rfl rfl _ _ v2 W4 rfl rfl hrun ?_
              have hrw : ∀ k, Value.ownBlock v1 = some k → bs ≤ k := own_block_le HO3.out
              have HB4 := hide (HB3.out.grown hgr HB3.out.size (fun k e => by have h1 := hrw k e; have h2 := HS00.out; omega))
              have AY4 : Hid (Blk W4 gy 24 .u32 zeros8) := hide ((hgr.block gy AY3.out.lt (fun e => NE3 e.symm)).trans AY3.out)
              have NE4 : v2.ownBlock ≠ some gy := fun e => hat.elim (fun h => NE3 (h ▸ e)) (fun h => by rw [h] at e; injection e with e; have := AY3.out.lt; omega)
              replace hbl := Nat.le_trans hbl hgr.size
              have HO4 := hide hown
              clear hrun hown hgr hat hrw
              refine hK.out _ _ (HSA.out _ HB4.out) (fun hHeld => ?_)
              clear hK K
              try simp only [Act.put, List.setIfInBounds_toArray, List.set_cons_zero, List.set_cons_succ]
              refine wpAnyH_ready (rs := [8]) (by kernel_rfl) (by simp) ?_
              refine (AllReadyH.cons (o := { dst := some 36, op := Op.call { callee := Callee.value (Operand.func 24), args := #[Operand.tmp 29, Operand.tmp 35], argTypes := #[24, 28] }, type := 43, pos := "law.go:51", after := #[{ on := 1, ground := Ground.data }, { on := 7, ground := Ground.data }, { on := 7, ground := Ground.chain }], guard := none }) rfl (fun K hK => ?_) AllReadyH.nil)
              · go_simp
                have hsl : SlAt W4 v2 (rest ++ xs) := by have := slAt_ownV HO4.out; rwa [List.nil_append] at this
                refine (blocks_ref [z0, z1, z2, z3, z4, z5, z6, z7] (rest ++ xs) v2 W4 rfl hsl HBYE.out HLE.out).mono ?_
                rintro e W5 ⟨bv, rfl, hbv, hBX⟩
                have HB5 := hide (HB4.out.trans (hBX.mono HB4.out.size))
                have HV5 := hide hbv
                have AY5 := hide (blk_through hBX AY4.out)
                clear hBX hsl hbv
                rw [HTK.out]
                dsimp only
                refine hK.out _ _ (HSA.out _ HB5.out) (fun hHeld => ?_)
                clear hK K
                try simp only [Act.put, List.setIfInBounds_toArray, List.set_cons_zero, List.set_cons_succ]
                refine wpAnyH_take (i := 9) (oi := { dst := some 27, op := Op.move (Operand.tmp 36), type := 43, pos := "law.go:51", after := #[{ on := 8, ground := Ground.data }], guard := none }) (v := ?_) rfl (by kernel_rfl) (by kernel_rfl) (by kernel_rfl) (fun _ _ _ h => h) (Or.inl ⟨by rfl, ?_⟩) hHeld ?_
                rotate_left
                · intro w hSw; (try dsimp only at hSw); go_simp; first | done | with_reducible rfl
                try simp only [Act.put, List.setIfInBounds_toArray, List.set_cons_zero, List.set_cons_succ]
                refine wpAnyH_take (i := 10) (oi := { dst := some 37, op := Op.extract (Operand.tmp 27) 0, type := 24, pos := "law.go:51", after := #[{ on := 9, ground := Ground.data }], guard := none }) (v := ?_) rfl (by kernel_rfl) (by kernel_rfl) (by kernel_rfl) (fun _ _ _ h => h) (Or.inl ⟨by rfl, ?_⟩) hHeld ?_
                rotate_left
                · intro w hSw; (try dsimp only at hSw); go_simp; first | done | with_reducible rfl
                try simp only [Act.put, List.setIfInBounds_toArray, List.set_cons_zero, List.set_cons_succ]
                refine wpAnyH_take (i := 11) (oi := { dst := some 38, op := Op.extract (Operand.tmp 27) 1, type := 28, pos := "law.go:51", after := #[{ on := 9, ground := Ground.data }, { on := 13, ground := Ground.gcOnly Departure.lateStores }], guard := none }) (v := ?_) rfl (by kernel_rfl) (by kernel_rfl) (by kernel_rfl) (fun _ _ _ h => h) (Or.inl ⟨by rfl, ?_⟩) hHeld ?_
                rotate_left
                · intro w hSw; (try dsimp only at hSw); go_simp; first | done | with_reducible rfl
                try simp only [Act.put, List.setIfInBounds_toArray, List.set_cons_zero, List.set_cons_succ]
                refine wpAnyH_ready (rs := [13]) (by kernel_rfl) (by simp) ?_
                refine (AllReadyH.cons (o := { dst := none, op := Op.store 24 (Operand.tmp 7) (Operand.tmp 37), type := 0, pos := "law.go:51", after := #[{ on := 12, ground := Ground.data }, { on := 10, ground := Ground.data }, { on := 8, ground := Ground.chain }, { on := 0, ground := Ground.phase }, { on := 1, ground := Ground.phase }, { on := 2, ground := Ground.phase }, { on := 3, ground := Ground.phase }, { on := 4, ground := Ground.phase }, { on := 5, ground := Ground.phase }, { on := 6, ground := Ground.phase }, { on := 7, ground := Ground.phase }, { on := 8, ground := Ground.phase }, { on := 9, ground := Ground.phase }, { on := 10, ground := Ground.phase }, { on := 11, ground := Ground.textOnly Departure.lateStores }, { on := 12, ground := Ground.phase }], guard := none }) rfl (fun K hK => ?_) AllReadyH.nil)
                · rw [if_pos (by rfl)]
                  refine wp_store_row _ _ _ rfl gy (cellsOf .u32 [t0, t1, t2, t3, t4, t5, t6, t7]) rfl rfl _ _ AY5.out.row (sz24 _ rfl) (szEq zeros8 _ rfl) (oneCell_cellsOf _ _) ?_
                  have HB6 := hide (below_setRow (g := gy) HB5.out (by have h2 := HS00.out; omega) (cellsOf .u32 [t0, t1, t2, t3, t4, t5, t6, t7]))
                  have AY6 := hide (AY5.out.setRow [t0, t1, t2, t3, t4, t5, t6, t7])
                  have HV6 : Hid (SlAt (W5.setRow gy (cellsOf .u32 [t0, t1, t2, t3, t4, t5, t6, t7])) bv (leftS (rest ++ xs))) := hide (slAt_setCells HV5.out AY5.out)
                  generalize W5.setRow gy (cellsOf .u32 [t0, t1, t2, t3, t4, t5, t6, t7]) = W6 at HB6 AY6 HV6 ⊢
                  refine hK.out _ _ (HSA.out _ HB6.out) (fun hHeld => ?_)
                  clear hK K
                  try simp only [Act.put]
                  refine wpAnyH_take (i := 14) (oi := { dst := some 8, op := Op.assign (Operand.tmp 38), type := 28, pos := "law.go:51", after := #[{ on := 11, ground := Ground.data }, { on := 13, ground := Ground.chain }, { on := 0, ground := Ground.phase }, { on := 1, ground := Ground.phase }, { on := 2, ground := Ground.phase }, { on := 3, ground := Ground.phase }, { on := 4, ground := Ground.phase }, { on := 5, ground := Ground.phase }, { on := 6, ground := Ground.phase }, { on := 7, ground := Ground.phase }, { on := 8, ground := Ground.phase }, { on := 9, ground := Ground.phase }, { on := 10, ground := Ground.phase }, { on := 11, ground := Ground.phase }, { on := 12, ground := Ground.phase }, { on := 13, ground := Ground.phase }], guard := none }) (v := ?_) rfl (by kernel_rfl) (by kernel_rfl) (by kernel_rfl) (fun _ _ _ h => h) (Or.inl ⟨by rfl, ?_⟩) hHeld ?_
                  rotate_left
                  · intro w hSw; (try dsimp only at hSw); go_simp; first | done | with_reducible rfl
                  try simp only [Act.put, List.setIfInBounds_toArray, List.set_cons_zero, List.set_cons_succ]
                  refine wpAnyH_done (by kernel_rfl) ?_ _
                  go_wp2_with fail
                  go_meet
                  exact ⟨gy, bv, rfl, rfl, AY6.out, HV6.out, HW0.out.1.trans (HB6.out.mono (Nat.le_of_eq HW0.out.2.symm))⟩
        · rw [if_pos (by rfl)]
          refine wp_alloc_row _ rfl (cellsOf .u32 zeros8) zero24 ?_
          have HB2 := hide (HB1.out.alloc HB1.out.size (.cells (cellsOf .u32 zeros8) 24))
          have AY2 := hide (Blk.new W1 24 .u32 zeros8)
          have HO2 := hide (HO1.out.alloc (.cells (cellsOf .u32 zeros8) 24))
          have NE2 : Value.ownBlock (.slice (some ⟨bs, 0, none⟩) 0 0) ≠ some W1.heap.size := fun e => by have := HO1.out; have h2 := own_block_lt this e; omega
          replace hbl : bs ≤ (W1.alloc (.cells (cellsOf .u32 zeros8) 24)).heap.size := Nat.le_trans hbl (by simp)
          have hgy : S0 ≤ W1.heap.size := by rw [HS00.out]; exact HB1.out.size
          generalize W1.alloc (.cells (cellsOf .u32 zeros8) 24) = W2 at HB2 AY2 HO2 hbl ⊢
          generalize W1.heap.size = gy at AY2 hgy NE2 ⊢
          refine hK.out _ _ (HSA.out _ HB2.out) (fun hHeld => ?_)
          clear hK K
          try simp only [Act.put, List.setIfInBounds_toArray, List.set_cons_zero, List.set_cons_succ]
          refine wpAnyH_ready (rs := [5]) (by kernel_rfl) (by simp) ?_
          refine (AllReadyH.cons (o := { dst := some 33, op := Op.call { callee := Callee.builtin Builtin.append, args := #[Operand.tmp 30, Operand.tmp 32], argTypes := #[28, 28] }, type := 28, pos := "law.go:51", after := #[{ on := 2, ground := Ground.data }, { on := 4, ground := Ground.data }], guard := none }) rfl (fun K hK => ?_) AllReadyH.nil)
          · rw [if_pos (by rfl)]
            obtain ⟨v1, W3, hrun, hown, hgr, hat⟩ := append_sl (P := Try.prog) (w := W2) (t := 28) (e := 5) Try.underlying28 HI.out HZI0.out HZI1.out HZI2.out bs (.slice (some ⟨bs, 0, none⟩) 0 0) 0 [] HO2.out (.slice ra rn rc) rest (HR0.out.below HB2.out) HL1.out hbl 28
            refine wp_append_run (.tmp 30) (.tmp 32) 28 28 28 rfl rfl _ _ v1 W3 rfl rfl hrun ?_
            have hrw : ∀ k, Value.ownBlock (.slice (some ⟨bs, 0, none⟩) 0 0) = some k → bs ≤ k := own_block_le HO2.out
            have HB3 := hide (HB2.out.grown hgr HB2.out.size (fun k e => by have h1 := hrw k e; have h2 := HS00.out; omega))
            have AY3 : Hid (Blk W3 gy 24 .u32 zeros8) := hide ((hgr.block gy AY2.out.lt (fun e => NE2 e.symm)).trans AY2.out)
            have NE3 : v1.ownBlock ≠ some gy := fun e => hat.elim (fun h => NE2 (h ▸ e)) (fun h => by rw [h] at e; injection e with e; have := AY2.out.lt; omega)
            replace hbl := Nat.le_trans hbl hgr.size
            have HO3 := hide hown
            clear hrun hown hgr hat hrw
            refine hK.out _ _ (HSA.out _ HB3.out) (fun hHeld => ?_)
            clear hK K
            try simp only [Act.put, List.setIfInBounds_toArray, List.set_cons_zero, List.set_cons_succ]
            refine wpAnyH_ready (rs := [7]) (by kernel_rfl) (by simp) ?_
            refine (AllReadyH.cons (o := { dst := some 35, op := Op.call { callee := Callee.builtin Builtin.append, args := #[Operand.tmp 33, Operand.tmp 34], argTypes := #[28, 28] }, type := 28, pos := "law.go:51", after := #[{ on := 5, ground := Ground.data }, { on := 6, ground := Ground.data }, { on := 5, ground := Ground.chain }], guard := none }) rfl (fun K hK => ?_) AllReadyH.nil)
            · rw [if_pos (by rfl)]
              obtain ⟨v2, W4, hrun, hown, hgr, hat⟩ := append_sl (P := Try.prog) (w := W3) (t := 28) (e := 5) Try.underlying28 HI.out HZI0.out HZI1.out HZI2.out bs v1 (0 + rest.length) ([] ++ rest) HO3.out (.slice ao n cap) xs (HX0.out.below HB3.out) HL2.out hbl 28
              refine wp_append_run (.tmp 33) (.tmp 34) 28 28 28 rfl rfl _ _ v2 W4 rfl rfl hrun ?_
              have hrw : ∀ k, Value.ownBlock v1 = some k → bs ≤ k := own_block_le HO3.out
              have HB4 := hide (HB3.out.grown hgr HB3.out.size (fun k e => by have h1 := hrw k e; have h2 := HS00.out; omega))
              have AY4 : Hid (Blk W4 gy 24 .u32 zeros8) := hide ((hgr.block gy AY3.out.lt (fun e => NE3 e.symm)).trans AY3.out)
              have NE4 : v2.ownBlock ≠ some gy := fun e => hat.elim (fun h => NE3 (h ▸ e)) (fun h => by rw [h] at e; injection e with e; have := AY3.out.lt; omega)
              replace hbl := Nat.le_trans hbl hgr.size
              have HO4 := hide hown
              clear hrun hown hgr hat hrw
              refine hK.out _ _ (HSA.out _ HB4.out) (fun hHeld => ?_)
              clear hK K
              try simp only [Act.put, List.setIfInBounds_toArray, List.set_cons_zero, List.set_cons_succ]
              refine wpAnyH_ready (rs := [8]) (by kernel_rfl) (by simp) ?_
              refine (AllReadyH.cons (o := { dst := some 36, op := Op.call { callee := Callee.value (Operand.func 24), args := #[Operand.tmp 29, Operand.tmp 35], argTypes := #[24, 28] }, type := 43, pos := "law.go:51", after := #[{ on := 1, ground := Ground.data }, { on := 7, ground := Ground.data }, { on := 7, ground := Ground.chain }], guard := none }) rfl (fun K hK => ?_) AllReadyH.nil)
              · go_simp
                have hsl : SlAt W4 v2 (rest ++ xs) := by have := slAt_ownV HO4.out; rwa [List.nil_append] at this
                refine (blocks_ref [z0, z1, z2, z3, z4, z5, z6, z7] (rest ++ xs) v2 W4 rfl hsl HBYE.out HLE.out).mono ?_
                rintro e W5 ⟨bv, rfl, hbv, hBX⟩
                have HB5 := hide (HB4.out.trans (hBX.mono HB4.out.size))
                have HV5 := hide hbv
                have AY5 := hide (blk_through hBX AY4.out)
                clear hBX hsl hbv
                rw [HTK.out]
                dsimp only
                refine hK.out _ _ (HSA.out _ HB5.out) (fun hHeld => ?_)
                clear hK K
                try simp only [Act.put, List.setIfInBounds_toArray, List.set_cons_zero, List.set_cons_succ]
                refine wpAnyH_take (i := 9) (oi := { dst := some 27, op := Op.move (Operand.tmp 36), type := 43, pos := "law.go:51", after := #[{ on := 8, ground := Ground.data }], guard := none }) (v := ?_) rfl (by kernel_rfl) (by kernel_rfl) (by kernel_rfl) (fun _ _ _ h => h) (Or.inl ⟨by rfl, ?_⟩) hHeld ?_
                rotate_left
                · intro w hSw; (try dsimp only at hSw); go_simp; first | done | with_reducible rfl
                try simp only [Act.put, List.setIfInBounds_toArray, List.set_cons_zero, List.set_cons_succ]
                refine wpAnyH_take (i := 10) (oi := { dst := some 37, op := Op.extract (Operand.tmp 27) 0, type := 24, pos := "law.go:51", after := #[{ on := 9, ground := Ground.data }], guard := none }) (v := ?_) rfl (by kernel_rfl) (by kernel_rfl) (by kernel_rfl) (fun _ _ _ h => h) (Or.inl ⟨by rfl, ?_⟩) hHeld ?_
                rotate_left
                · intro w hSw; (try dsimp only at hSw); go_simp; first | done | with_reducible rfl
                try simp only [Act.put, List.setIfInBounds_toArray, List.set_cons_zero, List.set_cons_succ]
                refine wpAnyH_take (i := 11) (oi := { dst := some 38, op := Op.extract (Operand.tmp 27) 1, type := 28, pos := "law.go:51", after := #[{ on := 9, ground := Ground.data }, { on := 13, ground := Ground.gcOnly Departure.lateStores }], guard := none }) (v := ?_) rfl (by kernel_rfl) (by kernel_rfl) (by kernel_rfl) (fun _ _ _ h => h) (Or.inl ⟨by rfl, ?_⟩) hHeld ?_
                rotate_left
                · intro w hSw; (try dsimp only at hSw); go_simp; first | done | with_reducible rfl
                try simp only [Act.put, List.setIfInBounds_toArray, List.set_cons_zero, List.set_cons_succ]
                refine wpAnyH_ready (rs := [13]) (by kernel_rfl) (by simp) ?_
                refine (AllReadyH.cons (o := { dst := none, op := Op.store 24 (Operand.tmp 7) (Operand.tmp 37), type := 0, pos := "law.go:51", after := #[{ on := 12, ground := Ground.data }, { on := 10, ground := Ground.data }, { on := 8, ground := Ground.chain }, { on := 0, ground := Ground.phase }, { on := 1, ground := Ground.phase }, { on := 2, ground := Ground.phase }, { on := 3, ground := Ground.phase }, { on := 4, ground := Ground.phase }, { on := 5, ground := Ground.phase }, { on := 6, ground := Ground.phase }, { on := 7, ground := Ground.phase }, { on := 8, ground := Ground.phase }, { on := 9, ground := Ground.phase }, { on := 10, ground := Ground.phase }, { on := 11, ground := Ground.textOnly Departure.lateStores }, { on := 12, ground := Ground.phase }], guard := none }) rfl (fun K hK => ?_) AllReadyH.nil)
                · rw [if_pos (by rfl)]
                  refine wp_store_row _ _ _ rfl gy (cellsOf .u32 [t0, t1, t2, t3, t4, t5, t6, t7]) rfl rfl _ _ AY5.out.row (sz24 _ rfl) (szEq zeros8 _ rfl) (oneCell_cellsOf _ _) ?_
                  have HB6 := hide (below_setRow (g := gy) HB5.out (by have h2 := HS00.out; omega) (cellsOf .u32 [t0, t1, t2, t3, t4, t5, t6, t7]))
                  have AY6 := hide (AY5.out.setRow [t0, t1, t2, t3, t4, t5, t6, t7])
                  have HV6 : Hid (SlAt (W5.setRow gy (cellsOf .u32 [t0, t1, t2, t3, t4, t5, t6, t7])) bv (leftS (rest ++ xs))) := hide (slAt_setCells HV5.out AY5.out)
                  generalize W5.setRow gy (cellsOf .u32 [t0, t1, t2, t3, t4, t5, t6, t7]) = W6 at HB6 AY6 HV6 ⊢
                  refine hK.out _ _ (HSA.out _ HB6.out) (fun hHeld => ?_)
                  clear hK K
                  try simp only [Act.put]
                  refine wpAnyH_take (i := 14) (oi := { dst := some 8, op := Op.assign (Operand.tmp 38), type := 28, pos := "law.go:51", after := #[{ on := 11, ground := Ground.data }, { on := 13, ground := Ground.chain }, { on := 0, ground := Ground.phase }, { on := 1, ground := Ground.phase }, { on := 2, ground := Ground.phase }, { on := 3, ground := Ground.phase }, { on := 4, ground := Ground.phase }, { on := 5, ground := Ground.phase }, { on := 6, ground := Ground.phase }, { on := 7, ground := Ground.phase }, { on := 8, ground := Ground.phase }, { on := 9, ground := Ground.phase }, { on := 10, ground := Ground.phase }, { on := 11, ground := Ground.phase }, { on := 12, ground := Ground.phase }, { on := 13, ground := Ground.phase }], guard := none }) (v := ?_) rfl (by kernel_rfl) (by kernel_rfl) (by kernel_rfl) (fun _ _ _ h => h) (Or.inl ⟨by rfl, ?_⟩) hHeld ?_
                  rotate_left
                  · intro w hSw; (try dsimp only at hSw); go_simp; first | done | with_reducible rfl
                  try simp only [Act.put, List.setIfInBounds_toArray, List.set_cons_zero, List.set_cons_succ]
                  refine wpAnyH_done (by kernel_rfl) ?_ _
                  go_wp2_with fail
                  go_meet
                  exact ⟨gy, bv, rfl, rfl, AY6.out, HV6.out, HW0.out.1.trans (HB6.out.mono (Nat.le_of_eq HW0.out.2.symm))⟩
      · rw [if_pos (by rfl)]
        refine wp_alloc_row _ rfl (cellsOf .u32 zeros8) zero24 ?_
        have HB1 := hide (HB0.out.alloc HB0.out.size (.cells (cellsOf .u32 zeros8) 24))
        have AY1 := hide (Blk.new W0 24 .u32 zeros8)
        have hgy : S0 ≤ W0.heap.size := by rw [HS00.out]; exact HB0.out.size
        generalize W0.alloc (.cells (cellsOf .u32 zeros8) 24) = W1 at HB1 AY1 ⊢
        generalize W0.heap.size = gy at AY1 hgy ⊢
        refine hK.out _ _ (HSA.out _ HB1.out) (fun hHeld => ?_)
        clear hK K
        try simp only [Act.put, List.setIfInBounds_toArray, List.set_cons_zero, List.set_cons_succ]
        refine wpAnyH_ready (rs := [2]) (by kernel_rfl) (by simp) ?_
        refine (AllReadyH.cons (o := { dst := some 30, op := Op.buildSlice 28 0 #[], type := 28, pos := "law.go:51", after := #[], guard := none }) rfl (fun K hK => ?_) AllReadyH.nil)
        · go_simp
          have HO2 := hide (own_empty W1 5)
          have HB2 := hide (HB1.out.alloc HB1.out.size (.cells #[] 5))
          have AY2 := hide (AY1.out.alloc (.cells #[] 5))
          have NE2 : (Value.slice (some ⟨W1.heap.size, 0, none⟩) 0 0).ownBlock ≠ some gy := fun e => by simp [Value.ownBlock] at e; have := AY1.out.lt; omega
          have hbs : S0 ≤ W1.heap.size := by rw [HS00.out]; exact HB1.out.size
          have hbl : W1.heap.size ≤ (W1.alloc (.cells #[] 5)).heap.size := by simp
          generalize W1.alloc (.cells #[] 5) = W2 at HB2 HO2 AY2 hbl ⊢
          generalize W1.heap.size = bs at HO2 NE2 hbs hbl ⊢
          refine hK.out _ _ (HSA.out _ HB2.out) (fun hHeld => ?_)
          clear hK K
          try simp only [Act.put, List.setIfInBounds_toArray, List.set_cons_zero, List.set_cons_succ]
          refine wpAnyH_ready (rs := [5]) (by kernel_rfl) (by simp) ?_
          refine (AllReadyH.cons (o := { dst := some 33, op := Op.call { callee := Callee.builtin Builtin.append, args := #[Operand.tmp 30, Operand.tmp 32], argTypes := #[28, 28] }, type := 28, pos := "law.go:51", after := #[{ on := 2, ground := Ground.data }, { on := 4, ground := Ground.data }], guard := none }) rfl (fun K hK => ?_) AllReadyH.nil)
          · rw [if_pos (by rfl)]
            obtain ⟨v1, W3, hrun, hown, hgr, hat⟩ := append_sl (P := Try.prog) (w := W2) (t := 28) (e := 5) Try.underlying28 HI.out HZI0.out HZI1.out HZI2.out bs (.slice (some ⟨bs, 0, none⟩) 0 0) 0 [] HO2.out (.slice ra rn rc) rest (HR0.out.below HB2.out) HL1.out hbl 28
            refine wp_append_run (.tmp 30) (.tmp 32) 28 28 28 rfl rfl _ _ v1 W3 rfl rfl hrun ?_
            have hrw : ∀ k, Value.ownBlock (.slice (some ⟨bs, 0, none⟩) 0 0) = some k → bs ≤ k := own_block_le HO2.out
            have HB3 := hide (HB2.out.grown hgr HB2.out.size (fun k e => by have h1 := hrw k e; have h2 := HS00.out; omega))
            have AY3 : Hid (Blk W3 gy 24 .u32 zeros8) := hide ((hgr.block gy AY2.out.lt (fun e => NE2 e.symm)).trans AY2.out)
            have NE3 : v1.ownBlock ≠ some gy := fun e => hat.elim (fun h => NE2 (h ▸ e)) (fun h => by rw [h] at e; injection e with e; have := AY2.out.lt; omega)
            replace hbl := Nat.le_trans hbl hgr.size
            have HO3 := hide hown
            clear hrun hown hgr hat hrw
            refine hK.out _ _ (HSA.out _ HB3.out) (fun hHeld => ?_)
            clear hK K
            try simp only [Act.put, List.setIfInBounds_toArray, List.set_cons_zero, List.set_cons_succ]
            refine wpAnyH_ready (rs := [7]) (by kernel_rfl) (by simp) ?_
            refine (AllReadyH.cons (o := { dst := some 35, op := Op.call { callee := Callee.builtin Builtin.append, args := #[Operand.tmp 33, Operand.tmp 34], argTypes := #[28, 28] }, type := 28, pos := "law.go:51", after := #[{ on := 5, ground := Ground.data }, { on := 6, ground := Ground.data }, { on := 5, ground := Ground.chain }], guard := none }) rfl (fun K hK => ?_) AllReadyH.nil)
            · rw [if_pos (by rfl)]
              obtain ⟨v2, W4, hrun, hown, hgr, hat⟩ := append_sl (P := Try.prog) (w := W3) (t := 28) (e := 5) Try.underlying28 HI.out HZI0.out HZI1.out HZI2.out bs v1 (0 + rest.length) ([] ++ rest) HO3.out (.slice ao n cap) xs (HX0.out.below HB3.out) HL2.out hbl 28
              refine wp_append_run (.tmp 33) (.tmp 34) 28 28 28 rfl rfl _ _ v2 W4 rfl rfl hrun ?_
              have hrw : ∀ k, Value.ownBlock v1 = some k → bs ≤ k := own_block_le HO3.out
              have HB4 := hide (HB3.out.grown hgr HB3.out.size (fun k e => by have h1 := hrw k e; have h2 := HS00.out; omega))
              have AY4 : Hid (Blk W4 gy 24 .u32 zeros8) := hide ((hgr.block gy AY3.out.lt (fun e => NE3 e.symm)).trans AY3.out)
              have NE4 : v2.ownBlock ≠ some gy := fun e => hat.elim (fun h => NE3 (h ▸ e)) (fun h => by rw [h] at e; injection e with e; have := AY3.out.lt; omega)
              replace hbl := Nat.le_trans hbl hgr.size
              have HO4 := hide hown
              clear hrun hown hgr hat hrw
              refine hK.out _ _ (HSA.out _ HB4.out) (fun hHeld => ?_)
              clear hK K
              try simp only [Act.put, List.setIfInBounds_toArray, List.set_cons_zero, List.set_cons_succ]
              refine wpAnyH_ready (rs := [8]) (by kernel_rfl) (by simp) ?_
              refine (AllReadyH.cons (o := { dst := some 36, op := Op.call { callee := Callee.value (Operand.func 24), args := #[Operand.tmp 29, Operand.tmp 35], argTypes := #[24, 28] }, type := 43, pos := "law.go:51", after := #[{ on := 1, ground := Ground.data }, { on := 7, ground := Ground.data }, { on := 7, ground := Ground.chain }], guard := none }) rfl (fun K hK => ?_) AllReadyH.nil)
              · go_simp
                have hsl : SlAt W4 v2 (rest ++ xs) := by have := slAt_ownV HO4.out; rwa [List.nil_append] at this
                refine (blocks_ref [z0, z1, z2, z3, z4, z5, z6, z7] (rest ++ xs) v2 W4 rfl hsl HBYE.out HLE.out).mono ?_
                rintro e W5 ⟨bv, rfl, hbv, hBX⟩
                have HB5 := hide (HB4.out.trans (hBX.mono HB4.out.size))
                have HV5 := hide hbv
                have AY5 := hide (blk_through hBX AY4.out)
                clear hBX hsl hbv
                rw [HTK.out]
                dsimp only
                refine hK.out _ _ (HSA.out _ HB5.out) (fun hHeld => ?_)
                clear hK K
                try simp only [Act.put, List.setIfInBounds_toArray, List.set_cons_zero, List.set_cons_succ]
                refine wpAnyH_take (i := 9) (oi := { dst := some 27, op := Op.move (Operand.tmp 36), type := 43, pos := "law.go:51", after := #[{ on := 8, ground := Ground.data }], guard := none }) (v := ?_) rfl (by kernel_rfl) (by kernel_rfl) (by kernel_rfl) (fun _ _ _ h => h) (Or.inl ⟨by rfl, ?_⟩) hHeld ?_
                rotate_left
                · intro w hSw; (try dsimp only at hSw); go_simp; first | done | with_reducible rfl
                try simp only [Act.put, List.setIfInBounds_toArray, List.set_cons_zero, List.set_cons_succ]
                refine wpAnyH_take (i := 10) (oi := { dst := some 37, op := Op.extract (Operand.tmp 27) 0, type := 24, pos := "law.go:51", after := #[{ on := 9, ground := Ground.data }], guard := none }) (v := ?_) rfl (by kernel_rfl) (by kernel_rfl) (by kernel_rfl) (fun _ _ _ h => h) (Or.inl ⟨by rfl, ?_⟩) hHeld ?_
                rotate_left
                · intro w hSw; (try dsimp only at hSw); go_simp; first | done | with_reducible rfl
                try simp only [Act.put, List.setIfInBounds_toArray, List.set_cons_zero, List.set_cons_succ]
                refine wpAnyH_take (i := 11) (oi := { dst := some 38, op := Op.extract (Operand.tmp 27) 1, type := 28, pos := "law.go:51", after := #[{ on := 9, ground := Ground.data }, { on := 13, ground := Ground.gcOnly Departure.lateStores }], guard := none }) (v := ?_) rfl (by kernel_rfl) (by kernel_rfl) (by kernel_rfl) (fun _ _ _ h => h) (Or.inl ⟨by rfl, ?_⟩) hHeld ?_
                rotate_left
                · intro w hSw; (try dsimp only at hSw); go_simp; first | done | with_reducible rfl
                try simp only [Act.put, List.setIfInBounds_toArray, List.set_cons_zero, List.set_cons_succ]
                refine wpAnyH_ready (rs := [13]) (by kernel_rfl) (by simp) ?_
                refine (AllReadyH.cons (o := { dst := none, op := Op.store 24 (Operand.tmp 7) (Operand.tmp 37), type := 0, pos := "law.go:51", after := #[{ on := 12, ground := Ground.data }, { on := 10, ground := Ground.data }, { on := 8, ground := Ground.chain }, { on := 0, ground := Ground.phase }, { on := 1, ground := Ground.phase }, { on := 2, ground := Ground.phase }, { on := 3, ground := Ground.phase }, { on := 4, ground := Ground.phase }, { on := 5, ground := Ground.phase }, { on := 6, ground := Ground.phase }, { on := 7, ground := Ground.phase }, { on := 8, ground := Ground.phase }, { on := 9, ground := Ground.phase }, { on := 10, ground := Ground.phase }, { on := 11, ground := Ground.textOnly Departure.lateStores }, { on := 12, ground := Ground.phase }], guard := none }) rfl (fun K hK => ?_) AllReadyH.nil)
                · rw [if_pos (by rfl)]
                  refine wp_store_row _ _ _ rfl gy (cellsOf .u32 [t0, t1, t2, t3, t4, t5, t6, t7]) rfl rfl _ _ AY5.out.row (sz24 _ rfl) (szEq zeros8 _ rfl) (oneCell_cellsOf _ _) ?_
                  have HB6 := hide (below_setRow (g := gy) HB5.out (by have h2 := HS00.out; omega) (cellsOf .u32 [t0, t1, t2, t3, t4, t5, t6, t7]))
                  have AY6 := hide (AY5.out.setRow [t0, t1, t2, t3, t4, t5, t6, t7])
                  have HV6 : Hid (SlAt (W5.setRow gy (cellsOf .u32 [t0, t1, t2, t3, t4, t5, t6, t7])) bv (leftS (rest ++ xs))) := hide (slAt_setCells HV5.out AY5.out)
                  generalize W5.setRow gy (cellsOf .u32 [t0, t1, t2, t3, t4, t5, t6, t7]) = W6 at HB6 AY6 HV6 ⊢
                  refine hK.out _ _ (HSA.out _ HB6.out) (fun hHeld => ?_)
                  clear hK K
                  try simp only [Act.put]
                  refine wpAnyH_take (i := 14) (oi := { dst := some 8, op := Op.assign (Operand.tmp 38), type := 28, pos := "law.go:51", after := #[{ on := 11, ground := Ground.data }, { on := 13, ground := Ground.chain }, { on := 0, ground := Ground.phase }, { on := 1, ground := Ground.phase }, { on := 2, ground := Ground.phase }, { on := 3, ground := Ground.phase }, { on := 4, ground := Ground.phase }, { on := 5, ground := Ground.phase }, { on := 6, ground := Ground.phase }, { on := 7, ground := Ground.phase }, { on := 8, ground := Ground.phase }, { on := 9, ground := Ground.phase }, { on := 10, ground := Ground.phase }, { on := 11, ground := Ground.phase }, { on := 12, ground := Ground.phase }, { on := 13, ground := Ground.phase }], guard := none }) (v := ?_) rfl (by kernel_rfl) (by kernel_rfl) (by kernel_rfl) (fun _ _ _ h => h) (Or.inl ⟨by rfl, ?_⟩) hHeld ?_
                  rotate_left
                  · intro w hSw; (try dsimp only at hSw); go_simp; first | done | with_reducible rfl
                  try simp only [Act.put, List.setIfInBounds_toArray, List.set_cons_zero, List.set_cons_succ]
                  refine wpAnyH_done (by kernel_rfl) ?_ _
                  go_wp2_with fail
                  go_meet
                  exact ⟨gy, bv, rfl, rfl, AY6.out, HV6.out, HW0.out.1.trans (HB6.out.mono (Nat.le_of_eq HW0.out.2.symm))⟩
    case rest =>
      obtain ⟨gy, bv, rfl, rfl, hay, hbv, hB3⟩ := hcut
      obtain ⟨lb, lc, hu⟩ := hbv.len
      subst hu
      obtain ⟨lq, hlq⟩ : ∃ m, m = (leftS (rest ++ xs)).length := ⟨_, rfl⟩
      rw [← hlq] at hbv ⊢
      clear hlq
      have hgc : w.heap.size < w2.heap.size := by omega
      have hr6 := (hB3.block g6 hg62).trans HR6.out
      have hr0 := (hB3.block w.heap.size hgc).trans HR0w.out
      have HBc := hide (HB2.out.trans (hB3.mono HB2.out.size))
      have HOc := hide (ownsRow_below HOW2.out hB3)
      have hcr := (HR.out.below HBc.out).string (P := Try.prog) 28 5 9 Try.underlying28 Try.underlying5 Try.underlying9
      have hcx := (slAt_own HOc.out).string (P := Try.prog) 28 5 9 Try.underlying28 Try.underlying5 Try.underlying9
      rw [leftS_drop] at hcx
      have hcl := hbv.string (P := Try.prog) 28 5 9 Try.underlying28 Try.underlying5 Try.underlying9
      have hNw : IntKind.u64.wrap ((N : Int) + (n : Int)) = NN := by rw [HNN.out, HN.out]
      have heq : ∀ w, (Op.equalIn 10000 24 (.agg #[.int .u32 t0, .int .u32 t1, .int .u32 t2, .int .u32 t3, .int .u32 t4, .int .u32 t5, .int .u32 t6, .int .u32 t7]) (.agg #[.int .u32 t0, .int .u32 t1, .int .u32 t2, .int .u32 t3, .int .u32 t4, .int .u32 t5, .int .u32 t6, .int .u32 t7])).run Try.prog w = .ok true w := eqAgg 8 24 23 Try.underlying24 Try.underlying23 size23 [t0, t1, t2, t3, t4, t5, t6, t7] rfl
      have c0 : wc.cell? ⟨w.heap.size, 0, none⟩ = some (.int .u32 z0) := (cell_of_row _ _ 0 _ _ _ hr0).trans rfl
      have c1 : wc.cell? ⟨w.heap.size, 1, none⟩ = some (.int .u32 z1) := (cell_of_row _ _ 1 _ _ _ hr0).trans rfl
      have c2 : wc.cell? ⟨w.heap.size, 2, none⟩ = some (.int .u32 z2) := (cell_of_row _ _ 2 _ _ _ hr0).trans rfl
      have c3 : wc.cell? ⟨w.heap.size, 3, none⟩ = some (.int .u32 z3) := (cell_of_row _ _ 3 _ _ _ hr0).trans rfl
      have c4 : wc.cell? ⟨w.heap.size, 4, none⟩ = some (.int .u32 z4) := (cell_of_row _ _ 4 _ _ _ hr0).trans rfl
      have c5 : wc.cell? ⟨w.heap.size, 5, none⟩ = some (.int .u32 z5) := (cell_of_row _ _ 5 _ _ _ hr0).trans rfl
      have c6 : wc.cell? ⟨w.heap.size, 6, none⟩ = some (.int .u32 z6) := (cell_of_row _ _ 6 _ _ _ hr0).trans rfl
      have c7 : wc.cell? ⟨w.heap.size, 7, none⟩ = some (.int .u32 z7) := (cell_of_row _ _ 7 _ _ _ hr0).trans rfl
      have c8 : wc.cell? ⟨w.heap.size, 8, none⟩ = some (.slice ra rn rc) := (cell_of_row _ _ 8 _ _ _ hr0).trans rfl
      have c9 : wc.cell? ⟨w.heap.size, 9, none⟩ = some (.int .u64 N) := (cell_of_row _ _ 9 _ _ _ hr0).trans rfl
      have d0 : wc.cell? ⟨g6, 0, none⟩ = some (.int .u32 t0) := (cell_of_row _ _ 0 _ _ _ hr6).trans rfl
      have d1 : wc.cell? ⟨g6, 1, none⟩ = some (.int .u32 t1) := (cell_of_row _ _ 1 _ _ _ hr6).trans rfl
      have d2 : wc.cell? ⟨g6, 2, none⟩ = some (.int .u32 t2) := (cell_of_row _ _ 2 _ _ _ hr6).trans rfl
      have d3 : wc.cell? ⟨g6, 3, none⟩ = some (.int .u32 t3) := (cell_of_row _ _ 3 _ _ _ hr6).trans rfl
      have d4 : wc.cell? ⟨g6, 4, none⟩ = some (.int .u32 t4) := (cell_of_row _ _ 4 _ _ _ hr6).trans rfl
      have d5 : wc.cell? ⟨g6, 5, none⟩ = some (.int .u32 t5) := (cell_of_row _ _ 5 _ _ _ hr6).trans rfl
      have d6 : wc.cell? ⟨g6, 6, none⟩ = some (.int .u32 t6) := (cell_of_row _ _ 6 _ _ _ hr6).trans rfl
      have d7 : wc.cell? ⟨g6, 7, none⟩ = some (.int .u32 t7) := (cell_of_row _ _ 7 _ _ _ hr6).trans rfl
      have d8 : wc.cell? ⟨g6, 8, none⟩ = some (.slice aq q rq) := (cell_of_row _ _ 8 _ _ _ hr6).trans rfl
      have d9 : wc.cell? ⟨g6, 9, none⟩ = some (.int .u64 NN) := (cell_of_row _ _ 9 _ _ _ hr6).trans rfl
      have e0 : wc.cell? ⟨gy, 0, none⟩ = some (.int .u32 t0) := hay.cell 0 (by simp)
      have e1 : wc.cell? ⟨gy, 1, none⟩ = some (.int .u32 t1) := hay.cell 1 (by simp)
      have e2 : wc.cell? ⟨gy, 2, none⟩ = some (.int .u32 t2) := hay.cell 2 (by simp)
      have e3 : wc.cell? ⟨gy, 3, none⟩ = some (.int .u32 t3) := hay.cell 3 (by simp)
      have e4 : wc.cell? ⟨gy, 4, none⟩ = some (.int .u32 t4) := hay.cell 4 (by simp)
      have e5 : wc.cell? ⟨gy, 5, none⟩ = some (.int .u32 t5) := hay.cell 5 (by simp)
      have e6 : wc.cell? ⟨gy, 6, none⟩ = some (.int .u32 t6) := hay.cell 6 (by simp)
      have e7 : wc.cell? ⟨gy, 7, none⟩ = some (.int .u32 t7) := hay.cell 7 (by simp)
      have HR6c := hide hr6
      have HR0c := hide hr0
      clear hr6 hr0 hay hbv hB3 HR6 HR0w HB2 HOW2
      generalize strOfNums (leftS (rest ++ xs)) = lstr at hcx hcl
      go_wp2_with fail
      clear hcx hcl heq hNw c0 d0 c1 d1 c2 d2 c3 d3 c4 d4 c5 d5 c6 d6 c7 d7 c8 d8 c9 d9 e0 e1 e2 e3 e4 e5 e6 e7
      clear hcr
      obtain ⟨rstr, hrstr⟩ : ∃ r, r = strOfNums rest := ⟨_, rfl⟩
      rw [← hrstr]
      have hRS : Hid (strOfNums rest = rstr) := hide hrstr.symm
      clear hrstr
      have HL0 : Hid ((leftS (rest ++ xs)).length = q) := hide (by have h := HOc.out.1; rw [List.length_map, leftS_drop] at h; omega)
      rw [leftS_drop] at HOc
      have hq64 : q < 64 := by rw [HQ.out]; exact Nat.mod_lt _ (by omega)
      go_loopw [9] (fun i wr => ∃ (k : Nat) (l : List Int), k ≤ q ∧ i = .int .i64 (k : Int) ∧ wr.ownsRow b0 5 1 (.slice aq q rq) q (l.map (.int .u8)) ∧ wr.heap[g6]? = some (.cells #[.int .u32 t0, .int .u32 t1, .int .u32 t2, .int .u32 t3, .int .u32 t4, .int .u32 t5, .int .u32 t6, .int .u32 t7, .slice aq q rq, .int .u64 NN] 41 (0, 0)) ∧ wr.heap[w.heap.size]? = some (.cells #[.int .u32 z0, .int .u32 z1, .int .u32 z2, .int .u32 z3, .int .u32 z4, .int .u32 z5, .int .u32 z6, .int .u32 z7, .slice ra rn rc, .int .u64 N] 41 (0, 0)) ∧ Below w.heap.size w wr) (fun i _ => q - (intOf i).toNat)
      case atStart => exact ⟨0, _, Nat.zero_le _, rfl, HOc.out, HR6c.out, HR0c.out, HBc.out⟩
      case round =>
        obtain ⟨k, l, hk, rfl, hown, hr6, hr0, hB⟩ := hrel
        clear HOc HR6c HR0c HBc
        have hd8 : wr.cell? ⟨g6, 8, none⟩ = some (.slice aq q rq) := (cell_of_row _ _ 8 _ _ _ hr6).trans rfl
        by_cases hlt : k < q
        · obtain ⟨g, rfl, hgb, hqc, hcl, hfr, ⟨cur, hcur⟩, hset⟩ := own_byte hown hlt
          obtain ⟨x, hx⟩ : ∃ x, x = IntKind.u8.wrap (nth l k + 1) := ⟨_, rfl⟩
          have hg6' : g6 ≠ g := fun e => by
            rw [e, hcur] at hr6
            injection hr6 with h1
            injection h1 with _ h2
            exact absurd h2 (by decide)
          have HO2 := hide (hset x)
          have H6 := hide ((Below.heap_setCell wr ⟨g, k, none⟩ (.int .u8 x) g6 hg6').trans hr6)
          have H0 := hide ((Below.heap_setCell wr ⟨g, k, none⟩ (.int .u8 x) w.heap.size (by show w.heap.size ≠ g; omega)).trans hr0)
          have HB := hide (hB.setCell (p := ⟨g, k, none⟩) (by show w.heap.size ≤ g; omega) (.int .u8 x))
          have HX8 := hide hx
          clear hown hr6 hr0 hB hset hcur hx
          go_wp2_with fail
          rw [show (nth l k + 1) % 256 = x by rw [HX8.out, IntKind.wrap_u8]]
          go_roundw
          case rel => exact ⟨k + 1, l.set k x, by omega, by go_num, HO2.out, H6.out, H0.out, HB.out⟩
          case measure => simp [intOf] <;> omega
        · have HOF := hide (HR.out.below hB)
          have hg0w : w.heap.size < wr.heap.size := (Array.getElem?_eq_some_iff.1 hr0).1
          have hcr := HOF.out.string (P := Try.prog) 28 5 9 Try.underlying28 Try.underlying5 Try.underlying9
          rw [hRS.out] at hcr
          have hc8 : wr.cell? ⟨w.heap.size, 8, none⟩ = some (.slice ra rn rc) := (cell_of_row _ _ 8 _ _ _ hr0).trans rfl
          have HR0 := hide hr0
          have HB := hide hB
          clear hown hr6 hr0 hB
          go_wp2_with fail
          refine (new_any _).mono ?_
          rintro e w5 ⟨rfl, hBX⟩
          have HB5 := hide (below_through hBX HB.out)
          have hR5 := (hBX.block w.heap.size hg0w).trans HR0.out
          have hg5 : w.heap.size < w5.heap.size := (Array.getElem?_eq_some_iff.1 hR5).1
          have HR5 := hide hR5
          clear hBX hR5 HB HR0 hcr hc8 HOF hg0w
          rw [show shaV firstS (.slice none 0 0) 0 = .agg #[.int .u32 1779033703, .int .u32 3144134277, .int .u32 1013904242, .int .u32 2773480762, .int .u32 1359893119, .int .u32 2600822924, .int .u32 528734635, .int .u32 1541459225, .slice none 0 0, .int .u64 0] from rfl]
          go_wp2_with (first | (refine wpList_store_row rfl 41 (.tmp 10) (.tmp 88) rfl w5.heap.size #[.int .u32 1779033703, .int .u32 3144134277, .int .u32 1013904242, .int .u32 2773480762, .int .u32 1359893119, .int .u32 2600822924, .int .u32 528734635, .int .u32 1541459225, .slice none 0 0, .int .u64 0] rfl rfl _ _ (heap_alloc_new _ _) size41 rfl newOne ?_))
          have hry : ((w5.alloc (.cells #[.int .u32 0, .int .u32 0, .int .u32 0, .int .u32 0, .int .u32 0, .int .u32 0, .int .u32 0, .int .u32 0, .slice none 0 0, .int .u64 0] 41)).setRow w5.heap.size #[.int .u32 1779033703, .int .u32 3144134277, .int .u32 1013904242, .int .u32 2773480762, .int .u32 1359893119, .int .u32 2600822924, .int .u32 528734635, .int .u32 1541459225, .slice none 0 0, .int .u64 0]).heap[w5.heap.size]? = some (.cells #[.int .u32 1779033703, .int .u32 3144134277, .int .u32 1013904242, .int .u32 2773480762, .int .u32 1359893119, .int .u32 2600822924, .int .u32 528734635, .int .u32 1541459225, .slice none 0 0, .int .u64 0] 41 (0, 0)) := setRow_heap _ _ _ _ _ _ (heap_alloc_new _ _)
          have hrs : ((w5.alloc (.cells #[.int .u32 0, .int .u32 0, .int .u32 0, .int .u32 0, .int .u32 0, .int .u32 0, .int .u32 0, .int .u32 0, .slice none 0 0, .int .u64 0] 41)).setRow w5.heap.size #[.int .u32 1779033703, .int .u32 3144134277, .int .u32 1013904242, .int .u32 2773480762, .int .u32 1359893119, .int .u32 2600822924, .int .u32 528734635, .int .u32 1541459225, .slice none 0 0, .int .u64 0]).heap[w.heap.size]? = some (.cells #[.int .u32 z0, .int .u32 z1, .int .u32 z2, .int .u32 z3, .int .u32 z4, .int .u32 z5, .int .u32 z6, .int .u32 z7, .slice ra rn rc, .int .u64 N] 41 (0, 0)) := by
            rw [_root_.Go.setRow_other _ _ _ _ (Nat.ne_of_lt hg5), Below.heap_alloc _ _ _ hg5]
            exact HR5.out
          have hB6 : Below w.heap.size w ((w5.alloc (.cells #[.int .u32 0, .int .u32 0, .int .u32 0, .int .u32 0, .int .u32 0, .int .u32 0, .int .u32 0, .int .u32 0, .slice none 0 0, .int .u64 0] 41)).setRow w5.heap.size #[.int .u32 1779033703, .int .u32 3144134277, .int .u32 1013904242, .int .u32 2773480762, .int .u32 1359893119, .int .u32 2600822924, .int .u32 528734635, .int .u32 1541459225, .slice none 0 0, .int .u64 0]) := below_setRow (HB5.out.alloc HB5.out.size _) HB5.out.size _
          generalize ((w5.alloc (.cells #[.int .u32 0, .int .u32 0, .int .u32 0, .int .u32 0, .int .u32 0, .int .u32 0, .int .u32 0, .int .u32 0, .slice none 0 0, .int .u64 0] 41)).setRow w5.heap.size #[.int .u32 1779033703, .int .u32 3144134277, .int .u32 1013904242, .int .u32 2773480762, .int .u32 1359893119, .int .u32 2600822924, .int .u32 528734635, .int .u32 1541459225, .slice none 0 0, .int .u64 0]) = w6 at hry hrs hB6 ⊢
          generalize w5.heap.size = gn at hry ⊢
          have hgs := (Array.getElem?_eq_some_iff.1 hrs).1
          have hgn := (Array.getElem?_eq_some_iff.1 hry).1
          have HRY := hide hry
          have HRS2 := hide hrs
          have HB6 := hide hB6
          clear hry hrs hB6 HB5 HR5
          obtain ⟨T, hT⟩ : ∃ T, T = outS (stAt [z0, z1, z2, z3, z4, z5, z6, z7] (rest ++ endS N) ((rest ++ endS N).length / 64)) := ⟨_, rfl⟩
          have HTL : Hid (T.length = 32) := hide (by rw [hT]; exact length_outS _)
          have HT := hide hT
          clear hT
          have heq36 : ∀ w, (Op.equalIn 10000 36 (.agg (cellsOf .u8 T)) (.agg (cellsOf .u8 T))).run Try.prog w = .ok true w := eq36 _ T rfl HTL.out
          have heq24 : ∀ w, (Op.equalIn 10000 24 (.agg #[.int .u32 1779033703, .int .u32 3144134277, .int .u32 1013904242, .int .u32 2773480762, .int .u32 1359893119, .int .u32 2600822924, .int .u32 528734635, .int .u32 1541459225]) (.agg #[.int .u32 1779033703, .int .u32 3144134277, .int .u32 1013904242, .int .u32 2773480762, .int .u32 1359893119, .int .u32 2600822924, .int .u32 528734635, .int .u32 1541459225])).run Try.prog w = .ok true w := eqAgg 8 24 23 Try.underlying24 Try.underlying23 size23 firstS rfl
          have HSU : Hid (∀ W, Below w6.heap.size w6 W → Calls Try.prog 26 #[.agg #[.int .u32 z0, .int .u32 z1, .int .u32 z2, .int .u32 z3, .int .u32 z4, .int .u32 z5, .int .u32 z6, .int .u32 z7, .slice ra rn rc, .int .u64 N]] W (fun e w' => e = .returned (.agg (cellsOf .u8 T)) ∧ Below W.heap.size W w')) := hide (fun W hb => by
            have h := sum_any [z0, z1, z2, z3, z4, z5, z6, z7] rest (.slice ra rn rc) N W rfl (HR.out.below (HB6.out.trans (hb.mono HB6.out.size))) (by rw [← HRN.out]; omega)
            rw [← HT.out] at h
            exact h)
          have HSR : Hid (∀ W, Below w6.heap.size w6 W → Calls Try.prog 27 #[.agg #[.int .u32 z0, .int .u32 z1, .int .u32 z2, .int .u32 z3, .int .u32 z4, .int .u32 z5, .int .u32 z6, .int .u32 z7], .slice ra rn rc, .int .u64 N] W (fun e w' => e = .returned (.agg (cellsOf .u8 T)) ∧ Below W.heap.size W w')) := hide (fun W hb => by
            have h := sumR_any [z0, z1, z2, z3, z4, z5, z6, z7] rest (.slice ra rn rc) N W rfl (HR.out.below (HB6.out.trans (hb.mono HB6.out.size))) HRB.out (by rw [← HRN.out]; omega)
            rw [← HT.out] at h
            exact h)
          have HSA2 : Hid (∀ W, Below w6.heap.size w6 W → (fun w' => w'.cell? ⟨w.heap.size, 0, none⟩ = some (.int .u32 z0) ∧ w'.cell? ⟨w.heap.size, 1, none⟩ = some (.int .u32 z1) ∧ w'.cell? ⟨w.heap.size, 2, none⟩ = some (.int .u32 z2) ∧ w'.cell? ⟨w.heap.size, 3, none⟩ = some (.int .u32 z3) ∧ w'.cell? ⟨w.heap.size, 4, none⟩ = some (.int .u32 z4) ∧ w'.cell? ⟨w.heap.size, 5, none⟩ = some (.int .u32 z5) ∧ w'.cell? ⟨w.heap.size, 6, none⟩ = some (.int .u32 z6) ∧ w'.cell? ⟨w.heap.size, 7, none⟩ = some (.int .u32 z7) ∧ w'.cell? ⟨w.heap.size, 8, none⟩ = some (.slice ra rn rc) ∧ w'.cell? ⟨w.heap.size, 9, none⟩ = some (.int .u64 N) ∧ w'.cell? ⟨gn, 0, none⟩ = some (.int .u32 1779033703) ∧ w'.cell? ⟨gn, 1, none⟩ = some (.int .u32 3144134277) ∧ w'.cell? ⟨gn, 2, none⟩ = some (.int .u32 1013904242) ∧ w'.cell? ⟨gn, 3, none⟩ = some (.int .u32 2773480762) ∧ w'.cell? ⟨gn, 4, none⟩ = some (.int .u32 1359893119) ∧ w'.cell? ⟨gn, 5, none⟩ = some (.int .u32 2600822924) ∧ w'.cell? ⟨gn, 6, none⟩ = some (.int .u32 528734635) ∧ w'.cell? ⟨gn, 7, none⟩ = some (.int .u32 1541459225) ∧ w'.cell? ⟨gn, 8, none⟩ = some (.slice none 0 0) ∧ w'.cell? ⟨gn, 9, none⟩ = some (.int .u64 0)) W) := hide (fun W hb => by
            have hrw : W.heap[w.heap.size]? = some (.cells #[.int .u32 z0, .int .u32 z1, .int .u32 z2, .int .u32 z3, .int .u32 z4, .int .u32 z5, .int .u32 z6, .int .u32 z7, .slice ra rn rc, .int .u64 N] 41 (0, 0)) := (hb.block _ hgs).trans HRS2.out
            have hrn : W.heap[gn]? = some (.cells #[.int .u32 1779033703, .int .u32 3144134277, .int .u32 1013904242, .int .u32 2773480762, .int .u32 1359893119, .int .u32 2600822924, .int .u32 528734635, .int .u32 1541459225, .slice none 0 0, .int .u64 0] 41 (0, 0)) := (hb.block _ hgn).trans HRY.out
            exact ⟨(cell_of_row _ _ 0 _ _ _ hrw).trans rfl, (cell_of_row _ _ 1 _ _ _ hrw).trans rfl, (cell_of_row _ _ 2 _ _ _ hrw).trans rfl, (cell_of_row _ _ 3 _ _ _ hrw).trans rfl, (cell_of_row _ _ 4 _ _ _ hrw).trans rfl, (cell_of_row _ _ 5 _ _ _ hrw).trans rfl, (cell_of_row _ _ 6 _ _ _ hrw).trans rfl, (cell_of_row _ _ 7 _ _ _ hrw).trans rfl, (cell_of_row _ _ 8 _ _ _ hrw).trans rfl, (cell_of_row _ _ 9 _ _ _ hrw).trans rfl, (cell_of_row _ _ 0 _ _ _ hrn).trans rfl, (cell_of_row _ _ 1 _ _ _ hrn).trans rfl, (cell_of_row _ _ 2 _ _ _ hrn).trans rfl, (cell_of_row _ _ 3 _ _ _ hrn).trans rfl, (cell_of_row _ _ 4 _ _ _ hrn).trans rfl, (cell_of_row _ _ 5 _ _ _ hrn).trans rfl, (cell_of_row _ _ 6 _ _ _ hrn).trans rfl, (cell_of_row _ _ 7 _ _ _ hrn).trans rfl, (cell_of_row _ _ 8 _ _ _ hrn).trans rfl, (cell_of_row _ _ 9 _ _ _ hrn).trans rfl⟩)
          try simp only [Act.put]
          refine wp_region_held_drew (S := fun w' => w'.cell? ⟨w.heap.size, 0, none⟩ = some (.int .u32 z0) ∧ w'.cell? ⟨w.heap.size, 1, none⟩ = some (.int .u32 z1) ∧ w'.cell? ⟨w.heap.size, 2, none⟩ = some (.int .u32 z2) ∧ w'.cell? ⟨w.heap.size, 3, none⟩ = some (.int .u32 z3) ∧ w'.cell? ⟨w.heap.size, 4, none⟩ = some (.int .u32 z4) ∧ w'.cell? ⟨w.heap.size, 5, none⟩ = some (.int .u32 z5) ∧ w'.cell? ⟨w.heap.size, 6, none⟩ = some (.int .u32 z6) ∧ w'.cell? ⟨w.heap.size, 7, none⟩ = some (.int .u32 z7) ∧ w'.cell? ⟨w.heap.size, 8, none⟩ = some (.slice ra rn rc) ∧ w'.cell? ⟨w.heap.size, 9, none⟩ = some (.int .u64 N) ∧ w'.cell? ⟨gn, 0, none⟩ = some (.int .u32 1779033703) ∧ w'.cell? ⟨gn, 1, none⟩ = some (.int .u32 3144134277) ∧ w'.cell? ⟨gn, 2, none⟩ = some (.int .u32 1013904242) ∧ w'.cell? ⟨gn, 3, none⟩ = some (.int .u32 2773480762) ∧ w'.cell? ⟨gn, 4, none⟩ = some (.int .u32 1359893119) ∧ w'.cell? ⟨gn, 5, none⟩ = some (.int .u32 2600822924) ∧ w'.cell? ⟨gn, 6, none⟩ = some (.int .u32 528734635) ∧ w'.cell? ⟨gn, 7, none⟩ = some (.int .u32 1541459225) ∧ w'.cell? ⟨gn, 8, none⟩ = some (.slice none 0 0) ∧ w'.cell? ⟨gn, 9, none⟩ = some (.int .u64 0)) (by kernel_rfl) (HSA2.out _ (Below.refl _ _).drew) (fun hHeld => ?_)
          refine wpAnyH_take (i := 0) (oi := { dst := some 89, op := Op.load 41 (Operand.tmp 2), type := 41, pos := "law.go:62", after := #[], guard := none }) (v := ?_) rfl (by kernel_rfl) (by kernel_rfl) (by kernel_rfl) (fun _ _ _ h => h) (Or.inl ⟨by rfl, ?_⟩) hHeld ?_
          rotate_left
          · intro w hSw; (try dsimp only at hSw); go_simp; first | done | with_reducible rfl
          try simp only [Act.put, List.setIfInBounds_toArray, List.set_cons_zero, List.set_cons_succ]
          refine wpAnyH_take (i := 2) (oi := { dst := some 91, op := Op.fieldAddr 41 (Operand.tmp 2) 0, type := 0, pos := "law.go:62", after := #[], guard := none }) (v := ?_) rfl (by kernel_rfl) (by kernel_rfl) (by kernel_rfl) (fun _ _ _ h => h) (Or.inl ⟨by rfl, ?_⟩) hHeld ?_
          rotate_left
          · intro w hSw; (try dsimp only at hSw); go_simp; first | done | with_reducible rfl
          try simp only [Act.put, List.setIfInBounds_toArray, List.set_cons_zero, List.set_cons_succ]
          refine wpAnyH_take (i := 3) (oi := { dst := some 92, op := Op.load 24 (Operand.tmp 91), type := 24, pos := "law.go:62", after := #[{ on := 2, ground := Ground.data }], guard := none }) (v := ?_) rfl (by kernel_rfl) (by kernel_rfl) (by kernel_rfl) (fun _ _ _ h => h) (Or.inl ⟨by rfl, ?_⟩) hHeld ?_
          rotate_left
          · intro w hSw; (try dsimp only at hSw); go_simp; first | done | with_reducible rfl
          try simp only [Act.put, List.setIfInBounds_toArray, List.set_cons_zero, List.set_cons_succ]
          refine wpAnyH_take (i := 4) (oi := { dst := some 93, op := Op.fieldAddr 41 (Operand.tmp 2) 1, type := 0, pos := "law.go:62", after := #[], guard := none }) (v := ?_) rfl (by kernel_rfl) (by kernel_rfl) (by kernel_rfl) (fun _ _ _ h => h) (Or.inl ⟨by rfl, ?_⟩) hHeld ?_
          rotate_left
          · intro w hSw; (try dsimp only at hSw); go_simp; first | done | with_reducible rfl
          try simp only [Act.put, List.setIfInBounds_toArray, List.set_cons_zero, List.set_cons_succ]
          refine wpAnyH_take (i := 5) (oi := { dst := some 94, op := Op.load 28 (Operand.tmp 93), type := 28, pos := "law.go:62", after := #[{ on := 4, ground := Ground.data }], guard := none }) (v := ?_) rfl (by kernel_rfl) (by kernel_rfl) (by kernel_rfl) (fun _ _ _ h => h) (Or.inl ⟨by rfl, ?_⟩) hHeld ?_
          rotate_left
          · intro w hSw; (try dsimp only at hSw); go_simp; first | done | with_reducible rfl
          try simp only [Act.put, List.setIfInBounds_toArray, List.set_cons_zero, List.set_cons_succ]
          refine wpAnyH_take (i := 6) (oi := { dst := some 95, op := Op.fieldAddr 41 (Operand.tmp 2) 2, type := 0, pos := "law.go:62", after := #[], guard := none }) (v := ?_) rfl (by kernel_rfl) (by kernel_rfl) (by kernel_rfl) (fun _ _ _ h => h) (Or.inl ⟨by rfl, ?_⟩) hHeld ?_
          rotate_left
          · intro w hSw; (try dsimp only at hSw); go_simp; first | done | with_reducible rfl
          try simp only [Act.put, List.setIfInBounds_toArray, List.set_cons_zero, List.set_cons_succ]
          refine wpAnyH_take (i := 7) (oi := { dst := some 96, op := Op.load 29 (Operand.tmp 95), type := 29, pos := "law.go:62", after := #[{ on := 6, ground := Ground.data }], guard := none }) (v := ?_) rfl (by kernel_rfl) (by kernel_rfl) (by kernel_rfl) (fun _ _ _ h => h) (Or.inl ⟨by rfl, ?_⟩) hHeld ?_
          rotate_left
          · intro w hSw; (try dsimp only at hSw); go_simp; first | done | with_reducible rfl
          try simp only [Act.put, List.setIfInBounds_toArray, List.set_cons_zero, List.set_cons_succ]
          refine wpAnyH_ready (rs := [1]) (by kernel_rfl) (by simp) ?_
          refine AllReadyH.cons (o := { dst := some 90, op := Op.call { callee := Callee.value (Operand.func 26), args := #[Operand.tmp 89], argTypes := #[41] }, type := 36, pos := "law.go:62", after := #[{ on := 0, ground := Ground.data }], guard := none }) rfl (fun K hK => ?_) AllReadyH.nil
          clear hHeld
          go_simp
          refine (HSU.out _ (Below.refl _ _).drew).mono ?_
          rintro e ws ⟨rfl, hBX⟩
          have HBs := hide ((Below.refl w6.heap.size w6).drew.trans hBX)
          clear hBX
          dsimp only
          refine hK.out _ _ (HSA2.out _ HBs.out) (fun hHeld => ?_)
          clear hK K
          try simp only [Act.put, List.setIfInBounds_toArray, List.set_cons_zero, List.set_cons_succ]
          refine wpAnyH_ready (rs := [8]) (by kernel_rfl) (by simp) ?_
          refine AllReadyH.cons (o := { dst := some 97, op := Op.call { callee := Callee.value (Operand.func 27), args := #[Operand.tmp 92, Operand.tmp 94, Operand.tmp 96], argTypes := #[24, 28, 29] }, type := 36, pos := "law.go:62", after := #[{ on := 3, ground := Ground.data }, { on := 5, ground := Ground.data }, { on := 7, ground := Ground.data }, { on := 1, ground := Ground.chain }], guard := none }) rfl (fun K hK => ?_) AllReadyH.nil
          clear hHeld
          go_simp
          refine (HSR.out _ HBs.out).mono ?_
          rintro e wr2 ⟨rfl, hBX⟩
          have HBr := hide (HBs.out.trans (hBX.mono HBs.out.size))
          clear hBX
          dsimp only
          refine hK.out _ _ (HSA2.out _ HBr.out) (fun hHeld => ?_)
          clear hK K
          try simp only [Act.put, List.setIfInBounds_toArray, List.set_cons_zero, List.set_cons_succ]
          refine wpAnyH_take (i := 9) (oi := { dst := some 98, op := Op.binOp BinOp.eql 36 (Operand.tmp 90) (Operand.tmp 97) 36, type := 4, pos := "law.go:62", after := #[{ on := 1, ground := Ground.data }, { on := 8, ground := Ground.data }], guard := none }) (v := ?_) rfl (by kernel_rfl) (by kernel_rfl) (by kernel_rfl) (fun _ _ _ h => h) (Or.inl ⟨by rfl, ?_⟩) hHeld ?_
          rotate_left
          · intro w hSw; (try dsimp only at hSw); go_simp; first | done | with_reducible rfl
          try simp only [Act.put, List.setIfInBounds_toArray, List.set_cons_zero, List.set_cons_succ]
          refine wpAnyH_take (i := 10) (oi := { dst := some 99, op := Op.move (Operand.tmp 98), type := 4, pos := "law.go:62", after := #[{ on := 9, ground := Ground.data }, { on := 8, ground := Ground.chain }], guard := none }) (v := ?_) rfl (by kernel_rfl) (by kernel_rfl) (by kernel_rfl) (fun _ _ _ h => h) (Or.inl ⟨by rfl, ?_⟩) hHeld ?_
          rotate_left
          · intro w hSw; (try dsimp only at hSw); go_simp; first | done | with_reducible rfl
          try simp only [Act.put, List.setIfInBounds_toArray, List.set_cons_zero, List.set_cons_succ]
          refine wpAnyH_take (i := 11) (oi := { dst := some 100, op := Op.fieldAddr 41 (Operand.tmp 10) 0, type := 0, pos := "law.go:62", after := #[{ on := 10, ground := Ground.guard }], guard := some (10, true) }) (v := ?_) rfl (by kernel_rfl) (by kernel_rfl) (by kernel_rfl) (fun _ _ _ h => h) (Or.inl ⟨by rfl, ?_⟩) hHeld ?_
          rotate_left
          · intro w hSw; (try dsimp only at hSw); go_simp; first | done | with_reducible rfl
          try simp only [Act.put, List.setIfInBounds_toArray, List.set_cons_zero, List.set_cons_succ]
          refine wpAnyH_take (i := 12) (oi := { dst := some 101, op := Op.load 24 (Operand.tmp 100), type := 24, pos := "law.go:62", after := #[{ on := 11, ground := Ground.data }, { on := 10, ground := Ground.guard }], guard := some (10, true) }) (v := ?_) rfl (by kernel_rfl) (by kernel_rfl) (by kernel_rfl) (fun _ _ _ h => h) (Or.inl ⟨by rfl, ?_⟩) hHeld ?_
          rotate_left
          · intro w hSw; (try dsimp only at hSw); go_simp; first | done | with_reducible rfl
          try simp only [Act.put, List.setIfInBounds_toArray, List.set_cons_zero, List.set_cons_succ]
          refine wpAnyH_ready (rs := [13]) (by kernel_rfl) (by simp) ?_
          refine AllReadyH.cons (o := { dst := some 102, op := Op.call { callee := Callee.value (Operand.func 13), args := #[], argTypes := #[] }, type := 24, pos := "law.go:62", after := #[{ on := 10, ground := Ground.chain }, { on := 10, ground := Ground.guard }], guard := some (10, true) }) rfl (fun K hK => ?_) AllReadyH.nil
          clear hHeld
          go_simp
          refine (firstR _).mono ?_
          rintro e wf ⟨rfl, hBX⟩
          have HBf := hide (HBr.out.trans (hBX.mono HBr.out.size))
          clear hBX
          rw [firstLit]
          dsimp only
          refine hK.out _ _ (HSA2.out _ HBf.out) (fun hHeld => ?_)
          clear hK K
          try simp only [Act.put, List.setIfInBounds_toArray, List.set_cons_zero, List.set_cons_succ]
          refine wpAnyH_take (i := 14) (oi := { dst := some 103, op := Op.binOp BinOp.eql 24 (Operand.tmp 101) (Operand.tmp 102) 24, type := 4, pos := "law.go:62", after := #[{ on := 12, ground := Ground.data }, { on := 13, ground := Ground.data }, { on := 10, ground := Ground.guard }], guard := some (10, true) }) (v := ?_) rfl (by kernel_rfl) (by kernel_rfl) (by kernel_rfl) (fun _ _ _ h => h) (Or.inl ⟨by rfl, ?_⟩) hHeld ?_
          rotate_left
          · intro w hSw; (try dsimp only at hSw); go_simp; first | done | with_reducible rfl
          try simp only [Act.put, List.setIfInBounds_toArray, List.set_cons_zero, List.set_cons_succ]
          refine wpAnyH_take (i := 15) (oi := { dst := some 104, op := Op.pick (Operand.tmp 99) (Operand.tmp 103) (Operand.const (Value.bool false)), type := 4, pos := "law.go:62", after := #[{ on := 10, ground := Ground.data }, { on := 14, ground := Ground.data }], guard := none }) (v := ?_) rfl (by kernel_rfl) (by kernel_rfl) (by kernel_rfl) (fun _ _ _ h => h) (Or.inl ⟨by rfl, ?_⟩) hHeld ?_
          rotate_left
          · intro w hSw; (try dsimp only at hSw); go_simp; first | done | with_reducible rfl
          try simp only [Act.put, List.setIfInBounds_toArray, List.set_cons_zero, List.set_cons_succ]
          refine wpAnyH_take (i := 16) (oi := { dst := some 105, op := Op.move (Operand.tmp 104), type := 4, pos := "law.go:62", after := #[{ on := 15, ground := Ground.data }, { on := 13, ground := Ground.chain }], guard := none }) (v := ?_) rfl (by kernel_rfl) (by kernel_rfl) (by kernel_rfl) (fun _ _ _ h => h) (Or.inl ⟨by rfl, ?_⟩) hHeld ?_
          rotate_left
          · intro w hSw; (try dsimp only at hSw); go_simp; first | done | with_reducible rfl
          try simp only [Act.put, List.setIfInBounds_toArray, List.set_cons_zero, List.set_cons_succ]
          refine wpAnyH_take (i := 17) (oi := { dst := some 106, op := Op.fieldAddr 41 (Operand.tmp 10) 1, type := 0, pos := "law.go:62", after := #[{ on := 16, ground := Ground.guard }], guard := some (16, true) }) (v := ?_) rfl (by kernel_rfl) (by kernel_rfl) (by kernel_rfl) (fun _ _ _ h => h) (Or.inl ⟨by rfl, ?_⟩) hHeld ?_
          rotate_left
          · intro w hSw; (try dsimp only at hSw); go_simp; first | done | with_reducible rfl
          try simp only [Act.put, List.setIfInBounds_toArray, List.set_cons_zero, List.set_cons_succ]
          refine wpAnyH_take (i := 18) (oi := { dst := some 107, op := Op.load 28 (Operand.tmp 106), type := 28, pos := "law.go:62", after := #[{ on := 17, ground := Ground.data }, { on := 16, ground := Ground.guard }], guard := some (16, true) }) (v := ?_) rfl (by kernel_rfl) (by kernel_rfl) (by kernel_rfl) (fun _ _ _ h => h) (Or.inl ⟨by rfl, ?_⟩) hHeld ?_
          rotate_left
          · intro w hSw; (try dsimp only at hSw); go_simp; first | done | with_reducible rfl
          try simp only [Act.put, List.setIfInBounds_toArray, List.set_cons_zero, List.set_cons_succ]
          refine wpAnyH_take (i := 19) (oi := { dst := some 108, op := Op.call { callee := Callee.builtin Builtin.len, args := #[Operand.tmp 107], argTypes := #[28] }, type := 3, pos := "law.go:62", after := #[{ on := 18, ground := Ground.data }, { on := 16, ground := Ground.guard }], guard := some (16, true) }) (v := ?_) rfl (by kernel_rfl) (by kernel_rfl) (by kernel_rfl) (fun _ _ _ h => h) (Or.inl ⟨by rfl, ?_⟩) hHeld ?_
          rotate_left
          · intro w hSw; (try dsimp only at hSw); go_simp; first | done | with_reducible rfl
          try simp only [Act.put, List.setIfInBounds_toArray, List.set_cons_zero, List.set_cons_succ]
          refine wpAnyH_take (i := 20) (oi := { dst := some 109, op := Op.binOp BinOp.eql 3 (Operand.tmp 108) (Operand.const (Value.int IntKind.i64 0)) 3, type := 4, pos := "law.go:62", after := #[{ on := 19, ground := Ground.data }, { on := 16, ground := Ground.guard }], guard := some (16, true) }) (v := ?_) rfl (by kernel_rfl) (by kernel_rfl) (by kernel_rfl) (fun _ _ _ h => h) (Or.inl ⟨by rfl, ?_⟩) hHeld ?_
          rotate_left
          · intro w hSw; (try dsimp only at hSw); go_simp; first | done | with_reducible rfl
          try simp only [Act.put, List.setIfInBounds_toArray, List.set_cons_zero, List.set_cons_succ]
          refine wpAnyH_take (i := 21) (oi := { dst := some 110, op := Op.pick (Operand.tmp 105) (Operand.tmp 109) (Operand.const (Value.bool false)), type := 4, pos := "law.go:62", after := #[{ on := 16, ground := Ground.data }, { on := 20, ground := Ground.data }], guard := none }) (v := ?_) rfl (by kernel_rfl) (by kernel_rfl) (by kernel_rfl) (fun _ _ _ h => h) (Or.inl ⟨by rfl, ?_⟩) hHeld ?_
          rotate_left
          · intro w hSw; (try dsimp only at hSw); go_simp; first | done | with_reducible rfl
          try simp only [Act.put, List.setIfInBounds_toArray, List.set_cons_zero, List.set_cons_succ]
          refine wpAnyH_take (i := 22) (oi := { dst := some 111, op := Op.move (Operand.tmp 110), type := 4, pos := "law.go:62", after := #[{ on := 21, ground := Ground.data }, { on := 16, ground := Ground.chain }], guard := none }) (v := ?_) rfl (by kernel_rfl) (by kernel_rfl) (by kernel_rfl) (fun _ _ _ h => h) (Or.inl ⟨by rfl, ?_⟩) hHeld ?_
          rotate_left
          · intro w hSw; (try dsimp only at hSw); go_simp; first | done | with_reducible rfl
          try simp only [Act.put, List.setIfInBounds_toArray, List.set_cons_zero, List.set_cons_succ]
          refine wpAnyH_take (i := 23) (oi := { dst := some 112, op := Op.fieldAddr 41 (Operand.tmp 10) 2, type := 0, pos := "law.go:62", after := #[{ on := 22, ground := Ground.guard }], guard := some (22, true) }) (v := ?_) rfl (by kernel_rfl) (by kernel_rfl) (by kernel_rfl) (fun _ _ _ h => h) (Or.inl ⟨by rfl, ?_⟩) hHeld ?_
          rotate_left
          · intro w hSw; (try dsimp only at hSw); go_simp; first | done | with_reducible rfl
          try simp only [Act.put, List.setIfInBounds_toArray, List.set_cons_zero, List.set_cons_succ]
          refine wpAnyH_take (i := 24) (oi := { dst := some 113, op := Op.load 29 (Operand.tmp 112), type := 29, pos := "law.go:62", after := #[{ on := 23, ground := Ground.data }, { on := 22, ground := Ground.guard }], guard := some (22, true) }) (v := ?_) rfl (by kernel_rfl) (by kernel_rfl) (by kernel_rfl) (fun _ _ _ h => h) (Or.inl ⟨by rfl, ?_⟩) hHeld ?_
          rotate_left
          · intro w hSw; (try dsimp only at hSw); go_simp; first | done | with_reducible rfl
          try simp only [Act.put, List.setIfInBounds_toArray, List.set_cons_zero, List.set_cons_succ]
          refine wpAnyH_take (i := 25) (oi := { dst := some 114, op := Op.binOp BinOp.eql 29 (Operand.tmp 113) (Operand.const (Value.int IntKind.u64 0)) 29, type := 4, pos := "law.go:62", after := #[{ on := 24, ground := Ground.data }, { on := 22, ground := Ground.guard }], guard := some (22, true) }) (v := ?_) rfl (by kernel_rfl) (by kernel_rfl) (by kernel_rfl) (fun _ _ _ h => h) (Or.inl ⟨by rfl, ?_⟩) hHeld ?_
          rotate_left
          · intro w hSw; (try dsimp only at hSw); go_simp; first | done | with_reducible rfl
          try simp only [Act.put, List.setIfInBounds_toArray, List.set_cons_zero, List.set_cons_succ]
          refine wpAnyH_take (i := 26) (oi := { dst := some 115, op := Op.pick (Operand.tmp 111) (Operand.tmp 114) (Operand.const (Value.bool false)), type := 4, pos := "law.go:62", after := #[{ on := 22, ground := Ground.data }, { on := 25, ground := Ground.data }], guard := none }) (v := ?_) rfl (by kernel_rfl) (by kernel_rfl) (by kernel_rfl) (fun _ _ _ h => h) (Or.inl ⟨by rfl, ?_⟩) hHeld ?_
          rotate_left
          · intro w hSw; (try dsimp only at hSw); go_simp; first | done | with_reducible rfl
          try simp only [Act.put, List.setIfInBounds_toArray, List.set_cons_zero, List.set_cons_succ]
          refine wpAnyH_take (i := 27) (oi := { dst := some 116, op := Op.move (Operand.tmp 115), type := 4, pos := "law.go:62", after := #[{ on := 26, ground := Ground.data }, { on := 22, ground := Ground.chain }], guard := none }) (v := ?_) rfl (by kernel_rfl) (by kernel_rfl) (by kernel_rfl) (fun _ _ _ h => h) (Or.inl ⟨by rfl, ?_⟩) hHeld ?_
          rotate_left
          · intro w hSw; (try dsimp only at hSw); go_simp; first | done | with_reducible rfl
          try simp only [Act.put, List.setIfInBounds_toArray, List.set_cons_zero, List.set_cons_succ]
          refine wpAnyH_ready (rs := [28]) (by kernel_rfl) (by simp) ?_
          refine AllReadyH.cons (o := { dst := some 117, op := Op.call { callee := Callee.value (Operand.func 16), args := #[], argTypes := #[] }, type := 4, pos := "law.go:62", after := #[{ on := 27, ground := Ground.chain }, { on := 27, ground := Ground.guard }], guard := some (27, true) }) rfl (fun K hK => ?_) AllReadyH.nil
          clear hHeld
          go_simp
          refine (awake_any _).mono ?_
          rintro e wa ⟨rfl, hBX⟩
          have HBa := hide (HBf.out.trans (hBX.mono HBf.out.size))
          clear hBX
          dsimp only
          refine hK.out _ _ (HSA2.out _ HBa.out) (fun hHeld => ?_)
          clear hK K
          try simp only [Act.put, List.setIfInBounds_toArray, List.set_cons_zero, List.set_cons_succ]
          refine wpAnyH_take (i := 29) (oi := { dst := some 118, op := Op.pick (Operand.tmp 116) (Operand.tmp 117) (Operand.const (Value.bool false)), type := 4, pos := "law.go:62", after := #[{ on := 27, ground := Ground.data }, { on := 28, ground := Ground.data }], guard := none }) (v := ?_) rfl (by kernel_rfl) (by kernel_rfl) (by kernel_rfl) (fun _ _ _ h => h) (Or.inl ⟨by rfl, ?_⟩) hHeld ?_
          rotate_left
          · intro w hSw; (try dsimp only at hSw); go_simp; first | done | with_reducible rfl
          try simp only [Act.put, List.setIfInBounds_toArray, List.set_cons_zero, List.set_cons_succ]
          refine wpAnyH_take (i := 30) (oi := { dst := some 4, op := Op.assign (Operand.tmp 118), type := 4, pos := "law.go:62", after := #[{ on := 29, ground := Ground.data }, { on := 28, ground := Ground.chain }, { on := 0, ground := Ground.phase }, { on := 1, ground := Ground.phase }, { on := 2, ground := Ground.phase }, { on := 3, ground := Ground.phase }, { on := 4, ground := Ground.phase }, { on := 5, ground := Ground.phase }, { on := 6, ground := Ground.phase }, { on := 7, ground := Ground.phase }, { on := 8, ground := Ground.phase }, { on := 9, ground := Ground.phase }, { on := 10, ground := Ground.phase }, { on := 11, ground := Ground.phase }, { on := 12, ground := Ground.phase }, { on := 13, ground := Ground.phase }, { on := 14, ground := Ground.phase }, { on := 15, ground := Ground.phase }, { on := 16, ground := Ground.phase }, { on := 17, ground := Ground.phase }, { on := 18, ground := Ground.phase }, { on := 19, ground := Ground.phase }, { on := 20, ground := Ground.phase }, { on := 21, ground := Ground.phase }, { on := 22, ground := Ground.phase }, { on := 23, ground := Ground.phase }, { on := 24, ground := Ground.phase }, { on := 25, ground := Ground.phase }, { on := 26, ground := Ground.phase }, { on := 27, ground := Ground.phase }, { on := 28, ground := Ground.phase }, { on := 29, ground := Ground.phase }], guard := none }) (v := ?_) rfl (by kernel_rfl) (by kernel_rfl) (by kernel_rfl) (fun _ _ _ h => h) (Or.inl ⟨by rfl, ?_⟩) hHeld ?_
          rotate_left
          · intro w hSw; (try dsimp only at hSw); go_simp; first | done | with_reducible rfl
          try simp only [Act.put, List.setIfInBounds_toArray, List.set_cons_zero, List.set_cons_succ]
          refine wpAnyH_done (by kernel_rfl) ?_ _
          go_wp2_with fail
          go_ret
          exact ⟨rfl, HB6.out.trans (HBa.out.mono HB6.out.size)⟩
end Go.Proofs.Yteocienbfhgmjaa
