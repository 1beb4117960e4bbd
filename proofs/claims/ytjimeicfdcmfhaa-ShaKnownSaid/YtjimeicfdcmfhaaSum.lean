/- New, Write, Sum of package sha: their contracts. -/
import Derived.Test.YtjimeicfdcmfhaaProg
import Derived.Test.YtjimeicfdcmfhaaSumW
import Derived.Test.YtjimeicfdcmfhaaFirst
import Derived.Test.YtjimeicfdcmfhaaBlocks
import Derived.Test.YtjimeicfdcmfhaaPl
import Derived.Test.YtjimeicfdcmfhaaSpread
import Derived.Test.YtjimeicfdcmfhaaTake
import Derived.WalkKit
import Derived.WalkSpells
import Derived.WalkLawsBesides
import Derived.Test.YtjimeicfdcmfhaaCat
import Derived.Deep.RegionHeld3
namespace Go.Proofs.Ytjimeicfdcmfhaa
open Go.RowKit

/-- A Sha's value: its state, its rest, how many bytes it has. -/
def shaV (h : List Int) (rest : Value) (n : Int) : Value := .agg (cellsOf .u32 h ++ #[rest, .int .u64 n])


theorem newOne : (#[.int .u32 0x6a09e667, .int .u32 0xbb67ae85, .int .u32 0x3c6ef372, .int .u32 0xa54ff53a, .int .u32 0x510e527f, .int .u32 0x9b05688c, .int .u32 0x1f83d9ab, .int .u32 0x5be0cd19, .slice none 0 0, .int .u64 0] : Array Value).all (·.oneCell') = true := by simp [Value.oneCell']
theorem size41 : (Try.prog.info? 27).map (·.size) = some 10 := by kernel_rfl

set_option maxRecDepth 100000 in
set_option maxHeartbeats 1000000 in
theorem new_any (w : World) : Calls Try.prog 4 #[] w (fun e w' => e = .returned (shaV firstS (.slice none 0 0) 0) ∧ Below w.heap.size w w') := by
  go_enter Try.func4, Try.ntmps4
  go_wp2_with fail
  refine (first_any _).mono ?_
  rw [firstLit]
  rintro e w1 ⟨rfl, hB1⟩
  have hb : w1.heap[w.heap.size]? = some (.cells #[.int .u32 0, .int .u32 0, .int .u32 0, .int .u32 0, .int .u32 0, .int .u32 0, .int .u32 0, .int .u32 0, .slice none 0 0, .int .u64 0] 27) := (hB1.block _ (by simp)).trans (heap_alloc_new _ _)
  have hB0 : Below w.heap.size w w1 := ((Below.refl _ _).alloc (Nat.le_refl _) _).trans (hB1.mono (by simp))
  clear hB1
  go_wp2_with (refine wpList_store_row rfl 27 (.tmp 0) (.tmp 2) rfl w.heap.size #[.int .u32 0x6a09e667, .int .u32 0xbb67ae85, .int .u32 0x3c6ef372, .int .u32 0xa54ff53a, .int .u32 0x510e527f, .int .u32 0x9b05688c, .int .u32 0x1f83d9ab, .int .u32 0x5be0cd19, .slice none 0 0, .int .u64 0] rfl rfl _ _ hb size41 rfl newOne ?_)
  refine bodyPost_ret (results_cell_row rfl _ _ w.heap.size _ #[.int .u32 0x6a09e667, .int .u32 0xbb67ae85, .int .u32 0x3c6ef372, .int .u32 0xa54ff53a, .int .u32 0x510e527f, .int .u32 0x9b05688c, .int .u32 0x1f83d9ab, .int .u32 0x5be0cd19, .slice none 0 0, .int .u64 0] (0, 0) _ rfl (setRow_heap _ _ _ _ _ _ hb) Try.underlying27 rfl size41) rfl ?_
  exact ⟨rfl, below_setRow hB0 (Nat.le_refl _) _⟩
theorem tenOne (b0 b1 b2 b3 b4 b5 b6 b7 n : Int) (ap : Option Addr) (q cap : Nat) : (#[.int .u32 b0, .int .u32 b1, .int .u32 b2, .int .u32 b3, .int .u32 b4, .int .u32 b5, .int .u32 b6, .int .u32 b7, .slice ap q cap, .int .u64 n] : Array Value).all (·.oneCell') = true := by simp [Value.oneCell']

/-- Behind Write: the state, the rest in a row of the call's own, the number. -/
def WritePost (h X : List Int) (n : Int) (w : World) (e : Ending) (w' : World) : Prop :=
  ∃ ap cap, e = .returned (shaV (stAt h X (X.length / 64)) (.slice ap (X.length % 64) cap) n) ∧
    w'.ownsRow w.heap.size 5 1 (.slice ap (X.length % 64) cap) (X.length % 64) ((X.drop (64 * (X.length / 64))).map (.int .u8)) ∧ Below w.heap.size w w'

set_option maxRecDepth 100000 in
set_option maxHeartbeats 1000000 in
theorem write_any (h rest bs : List Int) (rv bv : Value) (N : Nat) (w : World) (hh : h.length = 8) (hr : SlAt w rv rest) (hb : SlAt w bv bs) (hl : rest.length + bs.length ≤ 140737488355328) :
    Calls Try.prog 5 #[shaV h rv N, bv] w (WritePost h (rest ++ bs) (IntKind.u64.wrap ((N : Int) + (bs.length : Int))) w) := by
  obtain ⟨a0, a1, a2, a3, a4, a5, a6, a7, rfl⟩ := list8 hh
  obtain ⟨ra, rc, rfl⟩ := hr.len
  obtain ⟨ba, bc, rfl⟩ := hb.len
  have HR := hide hr
  have HB := hide hb
  have HL := hide hl
  obtain ⟨m, hm⟩ : ∃ m, m = rest.length := ⟨_, rfl⟩
  obtain ⟨k, hk⟩ : ∃ k, k = bs.length := ⟨_, rfl⟩
  have hk2 : k ≤ 140737488355328 := by omega
  have HK := hide hk
  have HM := hide hm
  rw [← hm] at HR ⊢
  rw [← hk] at HB ⊢
  rw [show shaV [a0, a1, a2, a3, a4, a5, a6, a7] (.slice ra m rc) N = .agg #[.int .u32 a0, .int .u32 a1, .int .u32 a2, .int .u32 a3, .int .u32 a4, .int .u32 a5, .int .u32 a6, .int .u32 a7, .slice ra m rc, .int .u64 N] from rfl]
  clear hr hb hl hk hm hh
  go_enter Try.func5, Try.ntmps5
  go_wp2_with fail
  have hB0 : Below w.heap.size w (((w.alloc (.cells #[.int .u32 a0, .int .u32 a1, .int .u32 a2, .int .u32 a3, .int .u32 a4, .int .u32 a5, .int .u32 a6, .int .u32 a7, .slice ra m rc, .int .u64 N] 27)).alloc (.cells #[.int .u32 0, .int .u32 0, .int .u32 0, .int .u32 0, .int .u32 0, .int .u32 0, .int .u32 0, .int .u32 0, .slice none 0 0, .int .u64 0] 27)).alloc (.cells #[.slice ra m rc, .slice ba k bc] 24)) := (((Below.refl _ _).alloc (Nat.le_refl _) _).alloc (by simp) _).alloc (by simp; omega) _
  have hpa : PartsAt (((w.alloc (.cells #[.int .u32 a0, .int .u32 a1, .int .u32 a2, .int .u32 a3, .int .u32 a4, .int .u32 a5, .int .u32 a6, .int .u32 a7, .slice ra m rc, .int .u64 N] 27)).alloc (.cells #[.int .u32 0, .int .u32 0, .int .u32 0, .int .u32 0, .int .u32 0, .int .u32 0, .int .u32 0, .int .u32 0, .slice none 0 0, .int .u64 0] 27)).alloc (.cells #[.slice ra m rc, .slice ba k bc] 24)) (w.heap.size + 1 + 1) 0 [rest, bs] :=
    parts_two ((cell_of_row _ _ 0 _ _ _ (heap3_2 _ _ _ _)).trans rfl) ((cell_of_row _ _ 1 _ _ _ (heap3_2 _ _ _ _)).trans rfl) (by simp) (HR.out.below hB0) (HB.out.below hB0)
  have hfl : [rest, bs].flatten = rest ++ bs := by simp
  have hc := blocks_own [a0, a1, a2, a3, a4, a5, a6, a7] [rest, bs] (w.heap.size + 1 + 1) 0 2 (((w.alloc (.cells #[.int .u32 a0, .int .u32 a1, .int .u32 a2, .int .u32 a3, .int .u32 a4, .int .u32 a5, .int .u32 a6, .int .u32 a7, .slice ra m rc, .int .u64 N] 27)).alloc (.cells #[.int .u32 0, .int .u32 0, .int .u32 0, .int .u32 0, .int .u32 0, .int .u32 0, .int .u32 0, .int .u32 0, .slice none 0 0, .int .u64 0] 27)).alloc (.cells #[.slice ra m rc, .slice ba k bc] 24)) rfl hpa (by simp) (by rw [hfl, List.length_append]; exact HL.out)
  rw [hfl] at hc
  have HC := hide hc
  have h0n : (((w.alloc (.cells #[.int .u32 a0, .int .u32 a1, .int .u32 a2, .int .u32 a3, .int .u32 a4, .int .u32 a5, .int .u32 a6, .int .u32 a7, .slice ra m rc, .int .u64 N] 27)).alloc (.cells #[.int .u32 0, .int .u32 0, .int .u32 0, .int .u32 0, .int .u32 0, .int .u32 0, .int .u32 0, .int .u32 0, .slice none 0 0, .int .u64 0] 27)).alloc (.cells #[.slice ra m rc, .slice ba k bc] 24)).heap[w.heap.size]? = some (.cells #[.int .u32 a0, .int .u32 a1, .int .u32 a2, .int .u32 a3, .int .u32 a4, .int .u32 a5, .int .u32 a6, .int .u32 a7, .slice ra m rc, .int .u64 N] 27) := heap3_0 _ _ _ _
  have h1n : (((w.alloc (.cells #[.int .u32 a0, .int .u32 a1, .int .u32 a2, .int .u32 a3, .int .u32 a4, .int .u32 a5, .int .u32 a6, .int .u32 a7, .slice ra m rc, .int .u64 N] 27)).alloc (.cells #[.int .u32 0, .int .u32 0, .int .u32 0, .int .u32 0, .int .u32 0, .int .u32 0, .int .u32 0, .int .u32 0, .slice none 0 0, .int .u64 0] 27)).alloc (.cells #[.slice ra m rc, .slice ba k bc] 24)).heap[w.heap.size + 1]? = some (.cells #[.int .u32 0, .int .u32 0, .int .u32 0, .int .u32 0, .int .u32 0, .int .u32 0, .int .u32 0, .int .u32 0, .slice none 0 0, .int .u64 0] 27) := heap3_1 _ _ _ _
  have hsz : w.heap.size + 1 + 1 < (((w.alloc (.cells #[.int .u32 a0, .int .u32 a1, .int .u32 a2, .int .u32 a3, .int .u32 a4, .int .u32 a5, .int .u32 a6, .int .u32 a7, .slice ra m rc, .int .u64 N] 27)).alloc (.cells #[.int .u32 0, .int .u32 0, .int .u32 0, .int .u32 0, .int .u32 0, .int .u32 0, .int .u32 0, .int .u32 0, .slice none 0 0, .int .u64 0] 27)).alloc (.cells #[.slice ra m rc, .slice ba k bc] 24)).heap.size := by simp
  clear hc hpa hfl
  refine HC.out.mono ?_
  rintro e w1 ⟨ap, cap, rfl, hown, hB1⟩
  have hlt := hB1.size
  replace h0n := (hB1.block _ (by omega)).trans h0n
  replace h1n := (hB1.block _ (by omega)).trans h1n
  replace hB1 := hB0.trans (hB1.mono hB0.size)
  have hown2 := ownsRow_base hown (show w.heap.size + 1 + 1 ≤ _ from by omega)
  obtain ⟨st, hst⟩ : ∃ st, st = stAt [a0, a1, a2, a3, a4, a5, a6, a7] (rest ++ bs) ((rest ++ bs).length / 64) := ⟨_, rfl⟩
  have hl8 : st.length = 8 := by rw [hst]; exact length_stAt _ _ rfl _
  rw [← hst]
  have HST := hide hst
  obtain ⟨q, hq⟩ : ∃ q, q = (rest ++ bs).length % 64 := ⟨_, rfl⟩
  rw [← hq] at hown2 ⊢
  have HQ := hide hq
  have HOWN := hide hown2
  have hs1 : w.heap.size + 1 < w1.heap.size := by omega
  have hs0 : w.heap.size < w1.heap.size := by omega
  clear hst hq hown hown2 hB0 hsz hlt HC
  obtain ⟨b0, b1, b2, b3, b4, b5, b6, b7, rfl⟩ := list8 hl8
  clear hl8
  rw [show cellsOf .u32 [b0, b1, b2, b3, b4, b5, b6, b7] = #[.int .u32 b0, .int .u32 b1, .int .u32 b2, .int .u32 b3, .int .u32 b4, .int .u32 b5, .int .u32 b6, .int .u32 b7] from rfl]
  have cN : w1.cell? ⟨w.heap.size, 9, none⟩ = some (.int .u64 N) := (cell_of_row _ _ 9 _ _ _ h0n).trans rfl
  have H1 := hide ((Below.heap_alloc w1 (.cells #[.int .u32 b0, .int .u32 b1, .int .u32 b2, .int .u32 b3, .int .u32 b4, .int .u32 b5, .int .u32 b6, .int .u32 b7] 23) _ hs1).trans h1n)
  have HB1 := hide hB1
  clear h0n h1n hB1
  go_wp2_with (refine wpList_store_row rfl 27 (.tmp 4) (.tmp 25) rfl (w.heap.size + 1) #[.int .u32 b0, .int .u32 b1, .int .u32 b2, .int .u32 b3, .int .u32 b4, .int .u32 b5, .int .u32 b6, .int .u32 b7, .slice ap q cap, .int .u64 (IntKind.u64.wrap ((N : Int) + (k : Int)))] rfl rfl _ _ H1.out size41 rfl (tenOne _ _ _ _ _ _ _ _ _ _ _ _) ?_)
  refine bodyPost_ret (results_cell_row rfl _ _ (w.heap.size + 1) _ #[.int .u32 b0, .int .u32 b1, .int .u32 b2, .int .u32 b3, .int .u32 b4, .int .u32 b5, .int .u32 b6, .int .u32 b7, .slice ap q cap, .int .u64 (IntKind.u64.wrap ((N : Int) + (k : Int)))] (0, 0) _ rfl (setRow_heap _ _ _ _ _ _ H1.out) Try.underlying27 rfl size41) rfl ?_
  refine ⟨ap, cap, ?_, ?_, below_setRow (HB1.out.alloc HB1.out.size _) (by omega) _⟩
  · rw [← HQ.out, ← HST.out]; rfl
  · rw [← HQ.out]
    exact ownsRow_base (ownsRow_setRow (HOWN.out.alloc _) (by omega) _) (by omega)
set_option maxRecDepth 100000 in
set_option maxHeartbeats 1000000 in
theorem sum_any (h rest : List Int) (rv : Value) (N : Nat) (w : World) (hh : h.length = 8) (hr : SlAt w rv rest) (hl : rest.length ≤ 140737488355000) :
    Calls Try.prog 8 #[shaV h rv N] w (fun e w' => e = .returned (.agg (cellsOf .u8 (outS (stAt h (rest ++ endS N) ((rest ++ endS N).length / 64))))) ∧ Below w.heap.size w w') := by
  obtain ⟨a0, a1, a2, a3, a4, a5, a6, a7, rfl⟩ := list8 hh
  obtain ⟨ra, rc, rfl⟩ := hr.len
  have HR := hide hr
  obtain ⟨m, hm⟩ : ∃ m, m = rest.length := ⟨_, rfl⟩
  have HM := hide hm
  have HL : Hid ([rest, endS N].flatten.length ≤ 140737488355328) := hide (by
    have : padZ N ≤ 63 := by unfold padZ; omega
    simp [length_endS]; omega)
  rw [← hm] at HR ⊢
  rw [show shaV [a0, a1, a2, a3, a4, a5, a6, a7] (.slice ra m rc) N = .agg #[.int .u32 a0, .int .u32 a1, .int .u32 a2, .int .u32 a3, .int .u32 a4, .int .u32 a5, .int .u32 a6, .int .u32 a7, .slice ra m rc, .int .u64 N] from rfl]
  clear hr hl hm hh
  go_enter Try.func8, Try.ntmps8
  go_wp2_with (with_reducible refine wpList_alloc_row rfl 31 rfl (cellsOf .u8 zeros32) zero36 ?_)
  have hB0 : Below w.heap.size w ((w.alloc (.cells #[.int .u32 a0, .int .u32 a1, .int .u32 a2, .int .u32 a3, .int .u32 a4, .int .u32 a5, .int .u32 a6, .int .u32 a7, .slice ra m rc, .int .u64 N] 27)).alloc (.cells (cellsOf .u8 zeros32) 31)) := ((Below.refl _ _).alloc (Nat.le_refl _) _).alloc (by simp) _
  have hb0 : ((w.alloc (.cells #[.int .u32 a0, .int .u32 a1, .int .u32 a2, .int .u32 a3, .int .u32 a4, .int .u32 a5, .int .u32 a6, .int .u32 a7, .slice ra m rc, .int .u64 N] 27)).alloc (.cells (cellsOf .u8 zeros32) 31)).heap[w.heap.size]? = some (.cells #[.int .u32 a0, .int .u32 a1, .int .u32 a2, .int .u32 a3, .int .u32 a4, .int .u32 a5, .int .u32 a6, .int .u32 a7, .slice ra m rc, .int .u64 N] 27) := heap_alloc2_old _ _ _
  have hb1 : Blk ((w.alloc (.cells #[.int .u32 a0, .int .u32 a1, .int .u32 a2, .int .u32 a3, .int .u32 a4, .int .u32 a5, .int .u32 a6, .int .u32 a7, .slice ra m rc, .int .u64 N] 27)).alloc (.cells (cellsOf .u8 zeros32) 31)) (w.heap.size + 1) 31 .u8 zeros32 := heap_alloc2_new _ _ _
  obtain ⟨W0, hW0⟩ : ∃ W0, W0 = ((w.alloc (.cells #[.int .u32 a0, .int .u32 a1, .int .u32 a2, .int .u32 a3, .int .u32 a4, .int .u32 a5, .int .u32 a6, .int .u32 a7, .slice ra m rc, .int .u64 N] 27)).alloc (.cells (cellsOf .u8 zeros32) 31)) := ⟨_, rfl⟩
  rw [← hW0] at hB0 hb0 hb1 ⊢
  clear hW0
  have hs1 : w.heap.size + 1 < W0.heap.size := hb1.lt
  have c0 : W0.cell? ⟨w.heap.size, 0, none⟩ = some (.int .u32 a0) := (cell_of_row _ _ 0 _ _ _ hb0).trans rfl
  have c1 : W0.cell? ⟨w.heap.size, 1, none⟩ = some (.int .u32 a1) := (cell_of_row _ _ 1 _ _ _ hb0).trans rfl
  have c2 : W0.cell? ⟨w.heap.size, 2, none⟩ = some (.int .u32 a2) := (cell_of_row _ _ 2 _ _ _ hb0).trans rfl
  have c3 : W0.cell? ⟨w.heap.size, 3, none⟩ = some (.int .u32 a3) := (cell_of_row _ _ 3 _ _ _ hb0).trans rfl
  have c4 : W0.cell? ⟨w.heap.size, 4, none⟩ = some (.int .u32 a4) := (cell_of_row _ _ 4 _ _ _ hb0).trans rfl
  have c5 : W0.cell? ⟨w.heap.size, 5, none⟩ = some (.int .u32 a5) := (cell_of_row _ _ 5 _ _ _ hb0).trans rfl
  have c6 : W0.cell? ⟨w.heap.size, 6, none⟩ = some (.int .u32 a6) := (cell_of_row _ _ 6 _ _ _ hb0).trans rfl
  have c7 : W0.cell? ⟨w.heap.size, 7, none⟩ = some (.int .u32 a7) := (cell_of_row _ _ 7 _ _ _ hb0).trans rfl
  have c8 : W0.cell? ⟨w.heap.size, 8, none⟩ = some (.slice ra m rc) := (cell_of_row _ _ 8 _ _ _ hb0).trans rfl
  have c9 : W0.cell? ⟨w.heap.size, 9, none⟩ = some (.int .u64 N) := (cell_of_row _ _ 9 _ _ _ hb0).trans rfl
  have HB0 := hide hB0
  have HB1 := hide hb1
  clear hB0 hb0 hb1
  have hs0 : w.heap.size < W0.heap.size := by omega
  go_region_held3 (fun w' => w'.cell? ⟨w.heap.size, 0, none⟩ = some (.int .u32 a0) ∧ w'.cell? ⟨w.heap.size, 1, none⟩ = some (.int .u32 a1) ∧ w'.cell? ⟨w.heap.size, 2, none⟩ = some (.int .u32 a2) ∧ w'.cell? ⟨w.heap.size, 3, none⟩ = some (.int .u32 a3) ∧ w'.cell? ⟨w.heap.size, 4, none⟩ = some (.int .u32 a4) ∧ w'.cell? ⟨w.heap.size, 5, none⟩ = some (.int .u32 a5) ∧ w'.cell? ⟨w.heap.size, 6, none⟩ = some (.int .u32 a6) ∧ w'.cell? ⟨w.heap.size, 7, none⟩ = some (.int .u32 a7) ∧ w'.cell? ⟨w.heap.size, 8, none⟩ = some (.slice ra m rc) ∧ w'.cell? ⟨w.heap.size, 9, none⟩ = some (.int .u64 N))
   (go_keep)
   (first | (go_at_call 13; refine (end_sl N _).mono ?_; rintro e wB ⟨ap, rfl, hsl, hBA⟩; (have hBX : Below W0.heap.size W0 wB := (by first | exact (Below.refl _ _).drew.trans hBA | exact ((Below.refl _ _).drew.alloc (Nat.le_refl _) _).trans (hBA.mono (by simp)))); have hz1 : w.heap.size < wB.heap.size := Nat.lt_of_lt_of_le hs0 hBX.size; have d0 : wB.cell? ⟨w.heap.size, 0, none⟩ = some (.int .u32 a0) := (hBX.cell (p := ⟨w.heap.size, 0, none⟩) hs0).trans c0; have d1 : wB.cell? ⟨w.heap.size, 1, none⟩ = some (.int .u32 a1) := (hBX.cell (p := ⟨w.heap.size, 1, none⟩) hs0).trans c1; have d2 : wB.cell? ⟨w.heap.size, 2, none⟩ = some (.int .u32 a2) := (hBX.cell (p := ⟨w.heap.size, 2, none⟩) hs0).trans c2; have d3 : wB.cell? ⟨w.heap.size, 3, none⟩ = some (.int .u32 a3) := (hBX.cell (p := ⟨w.heap.size, 3, none⟩) hs0).trans c3; have d4 : wB.cell? ⟨w.heap.size, 4, none⟩ = some (.int .u32 a4) := (hBX.cell (p := ⟨w.heap.size, 4, none⟩) hs0).trans c4; have d5 : wB.cell? ⟨w.heap.size, 5, none⟩ = some (.int .u32 a5) := (hBX.cell (p := ⟨w.heap.size, 5, none⟩) hs0).trans c5; have d6 : wB.cell? ⟨w.heap.size, 6, none⟩ = some (.int .u32 a6) := (hBX.cell (p := ⟨w.heap.size, 6, none⟩) hs0).trans c6; have d7 : wB.cell? ⟨w.heap.size, 7, none⟩ = some (.int .u32 a7) := (hBX.cell (p := ⟨w.heap.size, 7, none⟩) hs0).trans c7; have d8 : wB.cell? ⟨w.heap.size, 8, none⟩ = some (.slice ra m rc) := (hBX.cell (p := ⟨w.heap.size, 8, none⟩) hs0).trans c8; have d9 : wB.cell? ⟨w.heap.size, 9, none⟩ = some (.int .u64 N) := (hBX.cell (p := ⟨w.heap.size, 9, none⟩) hs0).trans c9; have HBB := hide (HB0.out.trans (hBX.mono HB0.out.size)); have HZB := hide (HB1.out.below hBX HB1.out.lt); (try (have HA : Blk wB W0.heap.size 23 .u32 zeros8 := new8 (W := W0.drew) hBA; have hz2 := HA.lt)); clear hBA hBX) | (go_at_call 11; refine (blocks_own [a0, a1, a2, a3, a4, a5, a6, a7] [rest, endS N] _ 0 2 _ rfl (by first | exact parts_built (by simp) (HR.out.below HBB.out) hsl | exact (parts_built (by simp) (HR.out.below HBB.out) hsl).below ((Below.refl _ _).alloc (Nat.le_refl _) _) | exact parts_built (by simp) (HR.out.below (HBB.out.alloc HBB.out.size _)) (hsl.below ((Below.refl _ _).alloc (Nat.le_refl _) _))) (by simp) HL.out).mono ?_; rintro e wC ⟨aq, cq, rfl, hxx, hBC⟩; clear hxx; (have hBY : Below wB.heap.size wB wC := (by first | exact ((Below.refl _ _).alloc (Nat.le_refl _) _).trans (hBC.mono (by simp)) | exact (((Below.refl _ _).alloc (Nat.le_refl _) _).alloc (by simp) _).trans (hBC.mono (by simp; omega)))); have g0 : wC.cell? ⟨w.heap.size, 0, none⟩ = some (.int .u32 a0) := (hBY.cell (p := ⟨w.heap.size, 0, none⟩) hz1).trans d0; have g1 : wC.cell? ⟨w.heap.size, 1, none⟩ = some (.int .u32 a1) := (hBY.cell (p := ⟨w.heap.size, 1, none⟩) hz1).trans d1; have g2 : wC.cell? ⟨w.heap.size, 2, none⟩ = some (.int .u32 a2) := (hBY.cell (p := ⟨w.heap.size, 2, none⟩) hz1).trans d2; have g3 : wC.cell? ⟨w.heap.size, 3, none⟩ = some (.int .u32 a3) := (hBY.cell (p := ⟨w.heap.size, 3, none⟩) hz1).trans d3; have g4 : wC.cell? ⟨w.heap.size, 4, none⟩ = some (.int .u32 a4) := (hBY.cell (p := ⟨w.heap.size, 4, none⟩) hz1).trans d4; have g5 : wC.cell? ⟨w.heap.size, 5, none⟩ = some (.int .u32 a5) := (hBY.cell (p := ⟨w.heap.size, 5, none⟩) hz1).trans d5; have g6 : wC.cell? ⟨w.heap.size, 6, none⟩ = some (.int .u32 a6) := (hBY.cell (p := ⟨w.heap.size, 6, none⟩) hz1).trans d6; have g7 : wC.cell? ⟨w.heap.size, 7, none⟩ = some (.int .u32 a7) := (hBY.cell (p := ⟨w.heap.size, 7, none⟩) hz1).trans d7; have g8 : wC.cell? ⟨w.heap.size, 8, none⟩ = some (.slice ra m rc) := (hBY.cell (p := ⟨w.heap.size, 8, none⟩) hz1).trans d8; have g9 : wC.cell? ⟨w.heap.size, 9, none⟩ = some (.int .u64 N) := (hBY.cell (p := ⟨w.heap.size, 9, none⟩) hz1).trans d9; have HBC := hide (HBB.out.trans (hBY.mono HBB.out.size)); have HZC := hide (HZB.out.below hBY HZB.out.lt); have hz3 : w.heap.size + 1 < wC.heap.size := HZC.out.lt; have hz4 : w.heap.size + 1 < wB.heap.size := HZB.out.lt; obtain ⟨st, hst⟩ : ∃ st, st = stAt [a0, a1, a2, a3, a4, a5, a6, a7] [rest, endS N].flatten ([rest, endS N].flatten.length / 64) := ⟨_, rfl⟩; have hl8 : st.length = 8 := (by rw [hst]; exact length_stAt _ _ rfl _); rw [← hst]; have HST := hide hst; clear hst; obtain ⟨b0, b1, b2, b3, b4, b5, b6, b7, rfl⟩ := list8 hl8; clear hl8; rw [show cellsOf .u32 [b0, b1, b2, b3, b4, b5, b6, b7] = #[.int .u32 b0, .int .u32 b1, .int .u32 b2, .int .u32 b3, .int .u32 b4, .int .u32 b5, .int .u32 b6, .int .u32 b7] from rfl]; first | (have HA2 : Blk wC (W0.heap.size) 23 .u32 zeros8 := HA.below hBY HA.lt; have hg2 : w.heap.size ≠ W0.heap.size := (by omega); have hg3 : W0.heap.size ≠ w.heap.size := (by omega); have e0 : wC.cell? ⟨W0.heap.size, 0, none⟩ = some (.int .u32 0) := HA2.cell 0 (by decide); have e1 : wC.cell? ⟨W0.heap.size, 1, none⟩ = some (.int .u32 0) := HA2.cell 1 (by decide); have e2 : wC.cell? ⟨W0.heap.size, 2, none⟩ = some (.int .u32 0) := HA2.cell 2 (by decide); have e3 : wC.cell? ⟨W0.heap.size, 3, none⟩ = some (.int .u32 0) := HA2.cell 3 (by decide); have e4 : wC.cell? ⟨W0.heap.size, 4, none⟩ = some (.int .u32 0) := HA2.cell 4 (by decide); have e5 : wC.cell? ⟨W0.heap.size, 5, none⟩ = some (.int .u32 0) := HA2.cell 5 (by decide); have e6 : wC.cell? ⟨W0.heap.size, 6, none⟩ = some (.int .u32 0) := HA2.cell 6 (by decide); have e7 : wC.cell? ⟨W0.heap.size, 7, none⟩ = some (.int .u32 0) := HA2.cell 7 (by decide); have f0 : wC.frozen? ⟨W0.heap.size, 0, none⟩ = false := HA2.free 0; have f1 : wC.frozen? ⟨W0.heap.size, 1, none⟩ = false := HA2.free 1; have f2 : wC.frozen? ⟨W0.heap.size, 2, none⟩ = false := HA2.free 2; have f3 : wC.frozen? ⟨W0.heap.size, 3, none⟩ = false := HA2.free 3; have f4 : wC.frozen? ⟨W0.heap.size, 4, none⟩ = false := HA2.free 4; have f5 : wC.frozen? ⟨W0.heap.size, 5, none⟩ = false := HA2.free 5; have f6 : wC.frozen? ⟨W0.heap.size, 6, none⟩ = false := HA2.free 6; have f7 : wC.frozen? ⟨W0.heap.size, 7, none⟩ = false := HA2.free 7; clear HA2) | (have HA2 : Blk wC (wB.heap.size) 23 .u32 zeros8 := ((Blk.new wB _ _ zeros8).alloc _).below hBC (by simp <;> omega); have hg2 : w.heap.size ≠ wB.heap.size := (by omega); have hg3 : wB.heap.size ≠ w.heap.size := (by omega); have e0 : wC.cell? ⟨wB.heap.size, 0, none⟩ = some (.int .u32 0) := HA2.cell 0 (by decide); have e1 : wC.cell? ⟨wB.heap.size, 1, none⟩ = some (.int .u32 0) := HA2.cell 1 (by decide); have e2 : wC.cell? ⟨wB.heap.size, 2, none⟩ = some (.int .u32 0) := HA2.cell 2 (by decide); have e3 : wC.cell? ⟨wB.heap.size, 3, none⟩ = some (.int .u32 0) := HA2.cell 3 (by decide); have e4 : wC.cell? ⟨wB.heap.size, 4, none⟩ = some (.int .u32 0) := HA2.cell 4 (by decide); have e5 : wC.cell? ⟨wB.heap.size, 5, none⟩ = some (.int .u32 0) := HA2.cell 5 (by decide); have e6 : wC.cell? ⟨wB.heap.size, 6, none⟩ = some (.int .u32 0) := HA2.cell 6 (by decide); have e7 : wC.cell? ⟨wB.heap.size, 7, none⟩ = some (.int .u32 0) := HA2.cell 7 (by decide); have f0 : wC.frozen? ⟨wB.heap.size, 0, none⟩ = false := HA2.free 0; have f1 : wC.frozen? ⟨wB.heap.size, 1, none⟩ = false := HA2.free 1; have f2 : wC.frozen? ⟨wB.heap.size, 2, none⟩ = false := HA2.free 2; have f3 : wC.frozen? ⟨wB.heap.size, 3, none⟩ = false := HA2.free 3; have f4 : wC.frozen? ⟨wB.heap.size, 4, none⟩ = false := HA2.free 4; have f5 : wC.frozen? ⟨wB.heap.size, 5, none⟩ = false := HA2.free 5; have f6 : wC.frozen? ⟨wB.heap.size, 6, none⟩ = false := HA2.free 6; have f7 : wC.frozen? ⟨wB.heap.size, 7, none⟩ = false := HA2.free 7; clear HA2) | (have HA2 : Blk wC (wB.heap.size + 1) 23 .u32 zeros8 := (show Blk ((wB.alloc _).alloc (.cells (cellsOf .u32 zeros8) 23)) (wB.heap.size + 1) 23 .u32 zeros8 from heap_alloc2_new _ _ _).below hBC (by simp <;> omega); have hg2 : w.heap.size ≠ wB.heap.size + 1 := (by omega); have hg3 : wB.heap.size + 1 ≠ w.heap.size := (by omega); have e0 : wC.cell? ⟨wB.heap.size + 1, 0, none⟩ = some (.int .u32 0) := HA2.cell 0 (by decide); have e1 : wC.cell? ⟨wB.heap.size + 1, 1, none⟩ = some (.int .u32 0) := HA2.cell 1 (by decide); have e2 : wC.cell? ⟨wB.heap.size + 1, 2, none⟩ = some (.int .u32 0) := HA2.cell 2 (by decide); have e3 : wC.cell? ⟨wB.heap.size + 1, 3, none⟩ = some (.int .u32 0) := HA2.cell 3 (by decide); have e4 : wC.cell? ⟨wB.heap.size + 1, 4, none⟩ = some (.int .u32 0) := HA2.cell 4 (by decide); have e5 : wC.cell? ⟨wB.heap.size + 1, 5, none⟩ = some (.int .u32 0) := HA2.cell 5 (by decide); have e6 : wC.cell? ⟨wB.heap.size + 1, 6, none⟩ = some (.int .u32 0) := HA2.cell 6 (by decide); have e7 : wC.cell? ⟨wB.heap.size + 1, 7, none⟩ = some (.int .u32 0) := HA2.cell 7 (by decide); have f0 : wC.frozen? ⟨wB.heap.size + 1, 0, none⟩ = false := HA2.free 0; have f1 : wC.frozen? ⟨wB.heap.size + 1, 1, none⟩ = false := HA2.free 1; have f2 : wC.frozen? ⟨wB.heap.size + 1, 2, none⟩ = false := HA2.free 2; have f3 : wC.frozen? ⟨wB.heap.size + 1, 3, none⟩ = false := HA2.free 3; have f4 : wC.frozen? ⟨wB.heap.size + 1, 4, none⟩ = false := HA2.free 4; have f5 : wC.frozen? ⟨wB.heap.size + 1, 5, none⟩ = false := HA2.free 5; have f6 : wC.frozen? ⟨wB.heap.size + 1, 6, none⟩ = false := HA2.free 6; have f7 : wC.frozen? ⟨wB.heap.size + 1, 7, none⟩ = false := HA2.free 7; clear HA2) | skip))
  all_goals go_wp2_with fail
  all_goals
    refine (word_any [b0, b1, b2, b3, b4, b5, b6, b7] _ (hide rfl)).mono ?_
    rintro e wD ⟨rfl, hBD⟩
    have hZD : Blk wD (w.heap.size + 1) 31 .u8 zeros32 := blk_through hBD (by with_reducible (repeat (first | exact HZC.out | refine Blk.other ?_ _ _ ?_ | refine Blk.alloc ?_ _)); all_goals (simp; omega))
    have hBE : Below w.heap.size w wD := below_through hBD (by with_reducible (repeat (first | exact HBC.out | exact HBC.out.alloc HBC.out.size _ | refine Below.setCell ?_ ?_ _)); all_goals (simp; omega))
    clear hBD
    clear c0 c1 c2 c3 c4 c5 c6 c7 c8 c9 d0 d1 d2 d3 d4 d5 d6 d7 d8 d9 g0 g1 g2 g3 g4 g5 g6 g7 g8 g9
    try clear e0 e1 e2 e3 e4 e5 e6 e7 f0 f1 f2 f3 f4 f5 f6 f7
    go_wp2_with (with_reducible refine wpList_store_row rfl 31 (.tmp 2) (.tmp 18) rfl (w.heap.size + 1) _ rfl rfl _ _ hZD.row (sz36 _ (length_outS _)) (szZ32 _ (length_outS _)) (oneCell_cellsOf _ _) ?_)
    refine bodyPost_ret (v := .agg (cellsOf .u8 (outS [b0, b1, b2, b3, b4, b5, b6, b7]))) (results_cell_row rfl _ _ (w.heap.size + 1) _ _ (0, 0) _ rfl (hZD.setRow (outS [b0, b1, b2, b3, b4, b5, b6, b7])).row Try.underlying31 rfl (sz36 _ (length_outS _))) rfl ?_
    exact ⟨by rw [HST.out, show [rest, endS N].flatten = rest ++ endS N by simp], below_setRow hBE (by omega) _⟩
end Go.Proofs.Ytjimeicfdcmfhaa
