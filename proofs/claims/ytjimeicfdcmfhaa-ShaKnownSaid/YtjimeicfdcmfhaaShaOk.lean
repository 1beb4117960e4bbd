/- The variable of a sum so far, as the laws hold it. -/
import Derived.Test.YtjimeicfdcmfhaaProg
import Derived.Test.YtjimeicfdcmfhaaSum
import Derived.Test.YtjimeicfdcmfhaaOf
import Derived.Test.YtjimeicfdcmfhaaGen
namespace Go.Proofs.Ytjimeicfdcmfhaa
open Go.RowKit

theorem shaC_size (h : List Int) (hl : h.length = 8) (rv nv : Value) : (cellsOf .u32 h ++ #[rv, nv]).size = 10 := by simp [size_cellsOf, hl]
theorem shaC_one (h : List Int) (ao : Option Addr) (n c : Nat) (m : Int) : (cellsOf .u32 h ++ #[Value.slice ao n c, Value.int .u64 m]).all (·.oneCell') = true := by
  rw [Array.all_append, oneCell_cellsOf]
  simp [Value.oneCell']
theorem sz41 {R : Array Value} (h : R.size = 10) : (Try.prog.info? 27).map (·.size) = some R.size := by rw [h]; exact size41
theorem szTen {R : Array Value} (h : R.size = 10) (x0 x1 x2 x3 x4 x5 x6 x7 x8 x9 : Value) : (#[x0, x1, x2, x3, x4, x5, x6, x7, x8, x9] : Array Value).size = R.size := h.symm

/-- What the sum so far is: its ten cells. -/
def ShaBlk (w : World) (g : Nat) (h : List Int) (rv : Value) (n : Nat) : Prop := w.heap[g]? = some (.cells (cellsOf .u32 h ++ #[rv, .int .u64 n]) 27 (0, 0))

/-- The variable of the sum so far holds what was written: the bytes A. -/
def ShaOk (w : World) (g : Nat) (A : List Int) : Prop := ∃ ap rc, ShaBlk w g (stAt firstS A (A.length / 64)) (.slice ap (A.length % 64) rc) A.length ∧ SlAt w (.slice ap (A.length % 64) rc) (leftS A)

theorem ShaOk.take {w : World} {g : Nat} {xs : List Int} {a : Nat} (h : ShaOk w g (xs.take a)) (ha : a ≤ xs.length) : ∃ h0 h1 h2 h3 h4 h5 h6 h7 ap rc, stAt firstS (xs.take a) (a / 64) = [h0, h1, h2, h3, h4, h5, h6, h7] ∧
    w.heap[g]? = some (.cells #[.int .u32 h0, .int .u32 h1, .int .u32 h2, .int .u32 h3, .int .u32 h4, .int .u32 h5, .int .u32 h6, .int .u32 h7, .slice ap (a % 64) rc, .int .u64 a] 27 (0, 0)) ∧ SlAt w (.slice ap (a % 64) rc) (leftS (xs.take a)) := by
  obtain ⟨ap, rc, hb, hs⟩ := h
  have hl : (xs.take a).length = a := by simp; omega
  rw [hl] at hb hs
  obtain ⟨h0, h1, h2, h3, h4, h5, h6, h7, hh⟩ := list8 (length_stAt firstS (xs.take a) rfl (a / 64))
  rw [hh] at hb
  exact ⟨h0, h1, h2, h3, h4, h5, h6, h7, ap, rc, hh, hb, hs⟩

theorem shaOk_next {w wB : World} {g2 a m : Nat} {xs : List Int} (ha : a + m ≤ xs.length) {hs tk : List Int} {aq : Option Addr} {q rq : Nat} {R : Array Value} {cs : Array Value} (hst : stAt firstS (xs.take a) (a / 64) = hs)
    (htk : tk = stAt hs (leftS (xs.take a) ++ (xs.drop a).take m) ((leftS (xs.take a) ++ (xs.drop a).take m).length / 64)) (hq : q = (leftS (xs.take a) ++ (xs.drop a).take m).length % 64)
    (hown : wB.ownsRow w.heap.size 5 1 (.slice aq q rq) q (((leftS (xs.take a) ++ (xs.drop a).take m).drop (64 * ((leftS (xs.take a) ++ (xs.drop a).take m).length / 64))).map (.int .u8)))
    (hR : R = cellsOf .u32 tk ++ #[.slice aq q rq, .int .u64 ((a + m : Nat) : Int)]) (hg : g2 < w.heap.size) (hrow : wB.heap[g2]? = some (.cells cs 27 (0, 0))) : ShaOk (wB.setRow g2 R) g2 (xs.take (a + m)) := by
  have hla : (xs.take a).length = a := by simp; omega
  have hlm : (xs.take (a + m)).length = a + m := by simp; omega
  have hcat : xs.take (a + m) = xs.take a ++ (xs.drop a).take m := List.take_add
  have hmod : q = (a + m) % 64 := by
    have hlm2 := hlm
    rw [hcat] at hlm2
    rw [hq, List.length_append, length_leftS, hla]
    rw [List.length_append, hla] at hlm2
    omega
  have hstn : stAt firstS (xs.take (a + m)) ((xs.take (a + m)).length / 64) = tk := by
    rw [hcat, stAt_more, hla, hst, htk]
  have hleft : leftS (xs.take (a + m)) = leftS (leftS (xs.take a) ++ (xs.drop a).take m) := by rw [hcat, leftS_more]
  refine ⟨aq, rq, ?_, ?_⟩
  · unfold ShaBlk
    rw [hstn, hlm, ← hmod, ← hR]
    exact setRow_heap _ _ _ _ _ _ hrow
  · rw [hlm, ← hmod, hleft]
    exact slAt_own (ownsRow_setRow hown hg R)

theorem sum_next {xs hs : List Int} {a n : Nat} (hn : n = xs.length) (ha : a ≤ n) (hst : stAt firstS (xs.take a) (a / 64) = hs) (X : List Int) (hX : X = leftS (xs.take a) ++ (xs.drop a).take (n - a)) :
    outS (stAt (stAt hs X (X.length / 64)) (X.drop (64 * (X.length / 64)) ++ endS n) ((X.drop (64 * (X.length / 64)) ++ endS n).length / 64)) = sumS xs := by
  have hla : (xs.take a).length = a := by simp; omega
  have hcat : xs = xs.take a ++ (xs.drop a).take (n - a) := by rw [← List.take_add, show a + (n - a) = xs.length by omega, List.take_length]
  have h1 := stAt_more firstS (xs.take a) ((xs.drop a).take (n - a))
  rw [← hcat, ← hX, hla, hst] at h1
  have h2 : leftS xs = X.drop (64 * (X.length / 64)) := by
    have := leftS_more (xs.take a) ((xs.drop a).take (n - a))
    rw [← hcat, ← hX] at this
    exact this
  have h3 := stAt_more firstS xs (endS n)
  rw [h1, h2, hn] at h3
  rw [sumS, h3, hn]
end Go.Proofs.Ytjimeicfdcmfhaa
