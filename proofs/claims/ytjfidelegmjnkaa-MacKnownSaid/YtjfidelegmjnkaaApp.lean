/- Appending bytes that a slice reads as to a row of the call's own; over any program that has the type []byte. -/
import Derived.Test.YtjfidelegmjnkaaPl
import Derived.Test.YtjfidelegmjnkaaCat
import Derived.Maps.AppendAt
import Derived.OwnWalk
namespace Go.Proofs.Ytjfidelegmjnkaa
open Go.RowKit

theorem append_sl {P : Program} {w : World} {t e : TypeId} {i : TypeInfo} (ht : P.underlying t = some (.slice e)) (hi : P.info? e = some i) (hz : i.zero = some (.int .u8 0)) (h1 : i.size = 1) (h2 : i.bytes = 1)
    (base : Nat) (v : Value) (n : Nat) (xs : List Int) (hown : w.ownsRow base e 1 v n (xs.map (.int .u8))) (sv : Value) (ys : List Int) (hs : SlAt w sv ys) (hb : n + ys.length ≤ 140737488355328) (hbase : base ≤ w.heap.size) (ty : TypeId) :
    ∃ v' w', (Builtin.append_ #[t, t] ty #[v, sv]).run P w = .ok v' w' ∧ w'.ownsRow base e 1 v' (n + ys.length) ((xs ++ ys).map (.int .u8)) ∧ w.grownBy w' v.ownBlock ∧ (v'.ownBlock = v.ownBlock ∨ v'.ownBlock = some w.heap.size) := by
  obtain ⟨ao, cap, rfl, hn, _, ha⟩ := hs
  cases hao : ao with
  | none =>
    obtain ⟨rfl, rfl⟩ := hn hao
    refine ⟨v, w, ?_, by simpa using hown, World.grownBy.refl w _, .inl rfl⟩
    rcases hown.2 with ⟨rfl, rfl⟩ | ⟨g, c, cur, rfl, _, _, hnc, _⟩
    · simp [Builtin.append_, run_underlying ht, sizeOf, typeInfo, hi, Builtin.lenOf, Builtin.firstCells]
    · simp [Builtin.append_, run_underlying ht, sizeOf, typeInfo, hi, Builtin.lenOf, Builtin.firstCells, hnc, storeCells]
  | some ad =>
    obtain ⟨v', w', a1, a2, a3, _, a5⟩ := run_append_own_at (P := P) w base t ty e i (.int .u8 0) 1 1 ht hi hz h1 h2 rfl (by omega) v n (xs.map (.int .u8)) hown ad ys.length cap (ys.map (.int .u8)) (by simp) (slAt_news ha ad hao) (ints_oneCell _ _) (by unfold maxLen; omega) (by omega) hbase
    exact ⟨v', w', a1, by rw [List.map_append]; exact a2, a3, a5⟩

/-- An empty row of the call's own: 'append([]byte{}, ..)' begins with it. -/
theorem own_empty (w : World) (e : TypeId) : (w.alloc (.cells #[] e)).ownsRow w.heap.size e 1 (.slice (some ⟨w.heap.size, 0, none⟩) 0 0) 0 (([] : List Int).map (.int .u8)) :=
  ⟨rfl, .inr ⟨w.heap.size, 0, #[], rfl, Nat.le_refl _, heap_alloc_new _ _, Nat.le_refl _, by unfold maxLen; omega, rfl, rfl⟩⟩

theorem endS_bytes (n : Nat) : ∀ x ∈ endS n, 0 ≤ x ∧ x < 256 := by
  intro x hx
  simp [endS, endP, lenBytes] at hx
  rcases hx with rfl | ⟨_, rfl⟩ | ⟨k, _, rfl⟩
  · omega
  · omega
  · exact lenByte_range n k
end Go.Proofs.Ytjfidelegmjnkaa
