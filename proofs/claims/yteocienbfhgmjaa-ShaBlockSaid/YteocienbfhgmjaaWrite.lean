/- Write of package sha: its contract. -/
import Derived.Test.YteocienbfhgmjaaProg
import Derived.Test.YteocienbfhgmjaaNew
import Derived.Test.YteocienbfhgmjaaBlocks2
import Derived.Test.YteocienbfhgmjaaBlock
namespace Go.Proofs.Yteocienbfhgmjaa
open Go.RowKit

theorem parts_two {w : World} {b : Nat} {s1 s2 : Value} {x1 x2 : List Int} (h1 : w.cell? ⟨b, 0, none⟩ = some s1) (h2 : w.cell? ⟨b, 1, none⟩ = some s2) (hlt : b < w.heap.size) (a1 : SlAt w s1 x1) (a2 : SlAt w s2 x2) : PartsAt w b 0 [x1, x2] := by
  refine ⟨hlt, fun i hi => ?_⟩
  have h : i = 0 ∨ i = 1 := by simp at hi; omega
  rcases h with rfl | rfl
  · exact ⟨s1, h1, a1⟩
  · exact ⟨s2, h2, a2⟩

theorem ownsRow_setRow {w : World} {base : Nat} {e : TypeId} {size : Nat} {v : Value} {n : Nat} {xs : List Value} {g : Nat} (h : w.ownsRow base e size v n xs) (hg : g < base) (cs : Array Value) : (w.setRow g cs).ownsRow base e size v n xs :=
  h.kept (row := some g) ⟨rfl, rfl, rfl, by rw [size_setRow]; exact Nat.le_refl _, fun k _ hk => _root_.Go.setRow_other w g k cs (fun e => hk (by rw [e]))⟩ (.inr (fun e => by have := (h.lt g e).1; omega))

theorem tenOne (b0 b1 b2 b3 b4 b5 b6 b7 n : Int) (ap : Option Addr) (q cap : Nat) : (#[.int .u32 b0, .int .u32 b1, .int .u32 b2, .int .u32 b3, .int .u32 b4, .int .u32 b5, .int .u32 b6, .int .u32 b7, .slice ap q cap, .int .u64 n] : Array Value).all (·.oneCell') = true := by simp [Value.oneCell']

/-- Behind Write: the state, the rest in a row of the call's own, the number. -/
def WritePost (h X : List Int) (n : Int) (w : World) (e : Ending) (w' : World) : Prop :=
  ∃ ap cap, e = .returned (shaV (stAt h X (X.length / 64)) (.slice ap (X.length % 64) cap) n) ∧
    w'.ownsRow w.heap.size 5 1 (.slice ap (X.length % 64) cap) (X.length % 64) ((X.drop (64 * (X.length / 64))).map (.int .u8)) ∧ Below w.heap.size w w'

set_option maxRecDepth 100000 in
set_option maxHeartbeats 1000000 in
theorem write_any (h rest bs : List Int) (rv bv : Value) (N : Nat) (w : World) (hh : h.length = 8) (hr : SlAt w rv rest) (hb : SlAt w bv bs) (hl : rest.length + bs.length ≤ 140737488355328) :
    Calls Try.prog 23 #[shaV h rv N, bv] w (WritePost h (rest ++ bs) (IntKind.u64.wrap ((N : Int) + (bs.length : Int))) w) := by
  obtain ⟨a0, a1, a2, a3, a4, a5, a6, a7, rfl⟩ := list8 hh
  obtain ⟨ra, rc, rfl⟩ := hr.len
  obtain ⟨ba, bc, rfl⟩ := hb.len
  have HR := hide hr
  have HB := hide hb
  have HL := hide hl
  obtain ⟨m, hm⟩ : ∃ m, m = rest.length := ⟨_, rfl⟩
  obtain ⟨k, hk⟩ : ∃ k, k = bs.length := ⟨_, rfl⟩
  have hk2 : k ≤ 140737488355328 := by omega
  have HK := hide hk
  have HM := hide hm
  rw [← hm] at HR ⊢
  rw [← hk] at HB ⊢
  rw [show shaV [a0, a1, a2, a3, a4, a5, a6, a7] (.slice ra m rc) N = .agg #[.int .u32 a0, .int .u32 a1, .int .u32 a2, .int .u32 a3, .int .u32 a4, .int .u32 a5, .int .u32 a6, .int .u32 a7, .slice ra m rc, .int .u64 N] from rfl]
  clear hr hb hl hk hm hh
  go_enter Try.func23, Try.ntmps23
  go_wp2_with fail
  have hB0 : Below w.heap.size w (((w.alloc (.cells #[.int .u32 a0, .int .u32 a1, .int .u32 a2, .int .u32 a3, .int .u32 a4, .int .u32 a5, .int .u32 a6, .int .u32 a7, .slice ra m rc, .int .u64 N] 41)).alloc (.cells #[.int .u32 0, .int .u32 0, .int .u32 0, .int .u32 0, .int .u32 0, .int .u32 0, .int .u32 0, .int .u32 0, .slice none 0 0, .int .u64 0] 41)).alloc (.cells #[.slice ra m rc, .slice ba k bc] 28)) := (((Below.refl _ _).alloc (Nat.le_refl _) _).alloc (by simp) _).alloc (by simp; omega) _
  have hpa : PartsAt (((w.alloc (.cells #[.int .u32 a0, .int .u32 a1, .int .u32 a2, .int .u32 a3, .int .u32 a4, .int .u32 a5, .int .u32 a6, .int .u32 a7, .slice ra m rc, .int .u64 N] 41)).alloc (.cells #[.int .u32 0, .int .u32 0, .int .u32 0, .int .u32 0, .int .u32 0, .int .u32 0, .int .u32 0, .int .u32 0, .slice none 0 0, .int .u64 0] 41)).alloc (.cells #[.slice ra m rc, .slice ba k bc] 28)) (w.heap.size + 1 + 1) 0 [rest, bs] :=
    parts_two ((cell_of_row _ _ 0 _ _ _ (heap3_2 _ _ _ _)).trans rfl) ((cell_of_row _ _ 1 _ _ _ (heap3_2 _ _ _ _)).trans rfl) (by simp) (HR.out.below hB0) (HB.out.below hB0)
  have hfl : [rest, bs].flatten = rest ++ bs := by simp
  have hc := blocks_own [a0, a1, a2, a3, a4, a5, a6, a7] [rest, bs] (w.heap.size + 1 + 1) 0 2 (((w.alloc (.cells #[.int .u32 a0, .int .u32 a1, .int .u32 a2, .int .u32 a3, .int .u32 a4, .int .u32 a5, .int .u32 a6, .int .u32 a7, .slice ra m rc, .int .u64 N] 41)).alloc (.cells #[.int .u32 0, .int .u32 0, .int .u32 0, .int .u32 0, .int .u32 0, .int .u32 0, .int .u32 0, .int .u32 0, .slice none 0 0, .int .u64 0] 41)).alloc (.cells #[.slice ra m rc, .slice ba k bc] 28)) rfl hpa (by simp) (by rw [hfl, List.length_append]; exact HL.out)
  rw [hfl] at hc
  have HC := hide hc
  have h0n : (((w.alloc (.cells #[.int .u32 a0, .int .u32 a1, .int .u32 a2, .int .u32 a3, .int .u32 a4, .int .u32 a5, .int .u32 a6, .int .u32 a7, .slice ra m rc, .int .u64 N] 41)).alloc (.cells #[.int .u32 0, .int .u32 0, .int .u32 0, .int .u32 0, .int .u32 0, .int .u32 0, .int .u32 0, .int .u32 0, .slice none 0 0, .int .u64 0] 41)).alloc (.cells #[.slice ra m rc, .slice ba k bc] 28)).heap[w.heap.size]? = some (.cells #[.int .u32 a0, .int .u32 a1, .int .u32 a2, .int .u32 a3, .int .u32 a4, .int .u32 a5, .int .u32 a6, .int .u32 a7, .slice ra m rc, .int .u64 N] 41) := heap3_0 _ _ _ _
  have h1n : (((w.alloc (.cells #[.int .u32 a0, .int .u32 a1, .int .u32 a2, .int .u32 a3, .int .u32 a4, .int .u32 a5, .int .u32 a6, .int .u32 a7, .slice ra m rc, .int .u64 N] 41)).alloc (.cells #[.int .u32 0, .int .u32 0, .int .u32 0, .int .u32 0, .int .u32 0, .int .u32 0, .int .u32 0, .int .u32 0, .slice none 0 0, .int .u64 0] 41)).alloc (.cells #[.slice ra m rc, .slice ba k bc] 28)).heap[w.heap.size + 1]? = some (.cells #[.int .u32 0, .int .u32 0, .int .u32 0, .int .u32 0, .int .u32 0, .int .u32 0, .int .u32 0, .int .u32 0, .slice none 0 0, .int .u64 0] 41) := heap3_1 _ _ _ _
  have hsz : w.heap.size + 1 + 1 < (((w.alloc (.cells #[.int .u32 a0, .int .u32 a1, .int .u32 a2, .int .u32 a3, .int .u32 a4, .int .u32 a5, .int .u32 a6, .int .u32 a7, .slice ra m rc, .int .u64 N] 41)).alloc (.cells #[.int .u32 0, .int .u32 0, .int .u32 0, .int .u32 0, .int .u32 0, .int .u32 0, .int .u32 0, .int .u32 0, .slice none 0 0, .int .u64 0] 41)).alloc (.cells #[.slice ra m rc, .slice ba k bc] 28)).heap.size := by simp
  clear hc hpa hfl
  refine HC.out.mono ?_
  rintro e w1 ⟨ap, cap, rfl, hown, hB1⟩
  have hlt := hB1.size
  replace h0n := (hB1.block _ (by omega)).trans h0n
  replace h1n := (hB1.block _ (by omega)).trans h1n
  replace hB1 := hB0.trans (hB1.mono hB0.size)
  have hown2 := ownsRow_base hown (show w.heap.size + 1 + 1 ≤ _ from by omega)
  obtain ⟨st, hst⟩ : ∃ st, st = stAt [a0, a1, a2, a3, a4, a5, a6, a7] (rest ++ bs) ((rest ++ bs).length / 64) := ⟨_, rfl⟩
  have hl8 : st.length = 8 := by rw [hst]; exact length_stAt _ _ rfl _
  rw [← hst]
  have HST := hide hst
  obtain ⟨q, hq⟩ : ∃ q, q = (rest ++ bs).length % 64 := ⟨_, rfl⟩
  rw [← hq] at hown2 ⊢
  have HQ := hide hq
  have HOWN := hide hown2
  have hs1 : w.heap.size + 1 < w1.heap.size := by omega
  have hs0 : w.heap.size < w1.heap.size := by omega
  clear hst hq hown hown2 hB0 hsz hlt HC
  obtain ⟨b0, b1, b2, b3, b4, b5, b6, b7, rfl⟩ := list8 hl8
  clear hl8
  rw [show cellsOf .u32 [b0, b1, b2, b3, b4, b5, b6, b7] = #[.int .u32 b0, .int .u32 b1, .int .u32 b2, .int .u32 b3, .int .u32 b4, .int .u32 b5, .int .u32 b6, .int .u32 b7] from rfl]
  have cN : w1.cell? ⟨w.heap.size, 9, none⟩ = some (.int .u64 N) := (cell_of_row _ _ 9 _ _ _ h0n).trans rfl
  have H1 := hide ((Below.heap_alloc w1 (.cells #[.int .u32 b0, .int .u32 b1, .int .u32 b2, .int .u32 b3, .int .u32 b4, .int .u32 b5, .int .u32 b6, .int .u32 b7] 24) _ hs1).trans h1n)
  have HB1 := hide hB1
  clear h0n h1n hB1
  go_wp2_with (refine wpList_store_row rfl 41 (.tmp 4) (.tmp 25) rfl (w.heap.size + 1) #[.int .u32 b0, .int .u32 b1, .int .u32 b2, .int .u32 b3, .int .u32 b4, .int .u32 b5, .int .u32 b6, .int .u32 b7, .slice ap q cap, .int .u64 (IntKind.u64.wrap ((N : Int) + (k : Int)))] rfl rfl _ _ H1.out size41 rfl (tenOne _ _ _ _ _ _ _ _ _ _ _ _) ?_)
  refine bodyPost_ret (results_cell_row rfl _ _ (w.heap.size + 1) _ #[.int .u32 b0, .int .u32 b1, .int .u32 b2, .int .u32 b3, .int .u32 b4, .int .u32 b5, .int .u32 b6, .int .u32 b7, .slice ap q cap, .int .u64 (IntKind.u64.wrap ((N : Int) + (k : Int)))] (0, 0) _ rfl (setRow_heap _ _ _ _ _ _ H1.out) Try.underlying41 rfl size41) rfl ?_
  refine ⟨ap, cap, ?_, ?_, below_setRow (HB1.out.alloc HB1.out.size _) (by omega) _⟩
  · rw [← HQ.out, ← HST.out]; rfl
  · rw [← HQ.out]
    exact ownsRow_base (ownsRow_setRow (HOWN.out.alloc _) (by omega) _) (by omega)
end Go.Proofs.Yteocienbfhgmjaa
