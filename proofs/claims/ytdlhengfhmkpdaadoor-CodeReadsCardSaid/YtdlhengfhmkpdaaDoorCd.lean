/- Package code: writers and readers in memory. -/
import Derived.Test.YtdlhengfhmkpdaaDoorKeep
namespace Go.Proofs.YtdlhengfhmkpdaaDoor
open Go.RowKit

/-- A writer at g that has the bytes xs; its blocks are of F, at B or above. -/
structure Wr (W : World) (B : Nat) (F : Nat → Prop) (g : Nat) (xs : List Int) : Prop where
  own : F g
  ge : ∀ k, F k → B ≤ k ∧ k < W.heap.size
  shape : (xs = [] ∧ W.heap[g]? = some (.cells #[.pointer none, .int .i64 0] 120 (0, 0))) ∨
    (∃ q v, q ≠ g ∧ F q ∧ W.heap[g]? = some (.cells #[.pointer (some ⟨q, 0, none⟩), .int .i64 xs.length] 120 (0, 0)) ∧ W.heap[q]? = some (.cells #[v] 22 (0, 0)) ∧ Row W B v xs ∧ ∀ k, v.ownBlock = some k → F k ∧ k ≠ g ∧ k ≠ q)

theorem Wr.keep {G F : Nat → Prop} {W W' : World} {B g : Nat} {xs : List Int} (h : Wr W B F g xs) (hk : Keep G W W') (hf : ∀ k, F k → ¬ G k) : Wr W' B F g xs := by
  refine ⟨h.own, fun k hF => ⟨(h.ge k hF).1, Nat.lt_of_lt_of_le (h.ge k hF).2 hk.size⟩, ?_⟩
  rcases h.shape with ⟨rfl, hg⟩ | ⟨q, v, hq, hFq, hg, hqq, hr, hv⟩
  · exact .inl ⟨rfl, (hk.block g (h.ge g h.own).2 (hf g h.own)).trans hg⟩
  · exact .inr ⟨q, v, hq, hFq, (hk.block g (h.ge g h.own).2 (hf g h.own)).trans hg, (hk.block q (h.ge q hFq).2 (hf q hFq)).trans hqq, hr.keep hk (fun k e => hf k (hv k e).1), hv⟩

/-- A reader at g that has not taken the bytes bs, stopped or not; its blocks are of F, at B or above. -/
structure Rd (W : World) (B : Nat) (F : Nat → Prop) (g : Nat) (bs : List Int) (st : Bool) : Prop where
  own : F g
  ge : ∀ k, F k → B ≤ k ∧ k < W.heap.size
  shape : ∃ v, W.heap[g]? = some (.cells #[v, .bool st] 84 (0, 0)) ∧ SlAt W v bs ∧ ∀ k, v.ownBlock = some k → F k ∧ k ≠ g

theorem Rd.keep {G F : Nat → Prop} {W W' : World} {B g : Nat} {bs : List Int} {st : Bool} (h : Rd W B F g bs st) (hk : Keep G W W') (hf : ∀ k, F k → ¬ G k) : Rd W' B F g bs st := by
  refine ⟨h.own, fun k hF => ⟨(h.ge k hF).1, Nat.lt_of_lt_of_le (h.ge k hF).2 hk.size⟩, ?_⟩
  obtain ⟨v, hg, hs, hv⟩ := h.shape
  exact ⟨v, (hk.block g (h.ge g h.own).2 (hf g h.own)).trans hg, hs.keep hk (fun k e => hf k (hv k e).1), hv⟩
end Go.Proofs.YtdlhengfhmkpdaaDoor
