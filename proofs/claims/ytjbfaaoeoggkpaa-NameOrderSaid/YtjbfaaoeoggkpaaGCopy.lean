/- copy in a row of anything that has a fixed number of cells, onto itself too; no program is named here. -/
import Derived.Test.YtjbfaaoeoggkpaaGRow
import Derived.Laws.CopyOwn
namespace Go.Proofs.Ytjbfaaoeoggkpaa
open Go.RowKit

theorem run_copy_rowS {P : Program} (w : World) (dT sT ty elem : TypeId) (s g o dLen dCap : Nat) (a : Addr) (sLen sCap : Nat) (cur : Array Value) (t : TypeId) (cs : List Value)
    (hu : P.underlying dT = some (.slice elem)) (hs : (P.info? elem).map (·.size) = some s)
    (hg : w.heap[g]? = some (.cells cur t (0, 0))) (hn : cs.length = Nat.min sLen dLen * s)
    (hsrc : ∀ j v, cs[j]? = some v → w.cell? (a.add j) = some v) (hfit : o + cs.length ≤ cur.size) (h1 : ∀ v ∈ cs, v.oneCell' = true) :
    (Builtin.copy_ #[dT, sT] ty #[.slice (some ⟨g, o, none⟩) dLen dCap, .slice (some a) sLen sCap]).run P w =
      .ok (goInt (Nat.min sLen dLen)) (w.setRow g (cur.toList.take o ++ cs ++ cur.toList.drop (o + cs.length)).toArray) := by
  have hl := run_loadCells_list (P := P) w a cs hsrc
  have hst := run_storeCells_at P g o t cs 0 cur w hg (by simpa using hfit) h1
  cases hq : P.info? elem with
  | none => simp [hq] at hs
  | some i =>
    have hi : i.size = s := by simpa [hq] using hs
    simp [Builtin.copy_, run_underlying hu, Builtin.lenOf, Builtin.firstCells, sizeOf, typeInfo, hq, hi, ← hn, hl, hst]

theorem wpList_copy_ownS {P : Program} {w : World} {ops : Array Oper} {rest : List Oper} {o : Oper} {a : Act} {Q : Exit → Act → World → Prop} (hgd : o.guard = none) (d s : Operand) (dT sT : TypeId)
    (ho : o.op = .call { callee := .builtin .copy, args := #[d, s], argTypes := #[dT, sT] }) (elem : TypeId) (hu : P.underlying dT = some (.slice elem)) (z : Nat) (hsz : (P.info? elem).map (·.size) = some z)
    (g off dLen dCap : Nat) (ad : Addr) (sLen sCap : Nat) (hd : a.eval d = .slice (some ⟨g, off, none⟩) dLen dCap) (hs : a.eval s = .slice (some ad) sLen sCap)
    (cur : Array Value) (t : TypeId) (hg : w.heap[g]? = some (.cells cur t (0, 0))) (cs : List Value) (hn : cs.length = Nat.min sLen dLen * z)
    (hsrc : ∀ j v, cs[j]? = some v → w.cell? (ad.add j) = some v) (hfit : off + cs.length ≤ cur.size) (h1 : ∀ v ∈ cs, v.oneCell' = true)
    (h : wpList P ops Q rest (a.put o.dst (goInt (Nat.min sLen dLen))) (w.setRow g (cur.toList.take off ++ (cs ++ cur.toList.drop (off + cs.length))).toArray)) : wpList P ops Q (o :: rest) a w := by
  refine wpList_plain hgd fun K hK => ?_
  have hrun := run_copy_rowS (P := P) w dT sT o.type elem z g off dLen dCap ad sLen sCap cur t cs hu hsz hg hn hsrc hfit h1
  unfold Oper.wp
  simp [execOp, ho, resolve, invoke, builtin, hd, hs, hrun, Result.andThen]
  exact hK _ _ (by simpa using h)

section
variable {α : Type} {K : Kd α}
/-- A row whose end from k on is moved up by one place (the last thing falls out). -/
theorem GRow.shift {W : World} {B g c : Nat} {l : List α} {z : α} {cur : Array Value} (hB : B ≤ g) (hg : W.heap[g]? = some (.cells cur K.t (0, 0))) (hs : cur.size = c * K.s) (hl : l.length + 1 ≤ c) (hc : c ≤ maxLen)
    (ht : cur.toList.take ((l.length + 1) * K.s) = K.all (l ++ [z])) (k : Nat) (hk : k ≤ l.length) :
    GRow K (W.setRow g (cur.toList.take ((k + 1) * K.s) ++ (K.all (l.drop k) ++ cur.toList.drop ((k + 1) * K.s + (K.all (l.drop k)).length))).toArray) B (.slice (some ⟨g, 0, none⟩) (l.length + 1) c) ((l ++ [z]).take (k + 1) ++ l.drop k) := by
  have e1 : ((l ++ [z]).take (k + 1) ++ l.drop k).length = l.length + 1 := by simp; omega
  have e2 : (K.all (l.drop k)).length = (l.length - k) * K.s := by rw [Kd.all_length, List.length_drop]
  have e3 : cur.toList.take ((k + 1) * K.s) = K.all ((l ++ [z]).take (k + 1)) := by
    rw [← Kd.all_take (l ++ [z]) (k + 1) (by simp; omega), ← ht, List.take_take, Nat.min_eq_left (Nat.mul_le_mul_right _ (by omega))]
  have e4 : (k + 1) * K.s + (l.length - k) * K.s = (l.length + 1) * K.s := by rw [← Nat.add_mul]; congr 1; omega
  have e5 : (l.length + 1) * K.s ≤ c * K.s := Nat.mul_le_mul_right _ hl
  have e6 : (k + 1) * K.s ≤ (l.length + 1) * K.s := Nat.mul_le_mul_right _ (by omega)
  have h := GRow.of_block (K := K) (W := W.setRow g (cur.toList.take ((k + 1) * K.s) ++ (K.all (l.drop k) ++ cur.toList.drop ((k + 1) * K.s + (K.all (l.drop k)).length))).toArray) (B := B) (g := g) (c := c) (l := (l ++ [z]).take (k + 1) ++ l.drop k) hB (setRow_heap W g cur _ K.t _ hg) (by
      rw [List.size_toArray, List.length_append, List.length_append, List.length_take, List.length_drop, Array.length_toList, e2, e4]
      omega) (by rw [e1]; exact hl) hc (by
      rw [e1, Kd.all_append, e3, ← List.append_assoc]
      refine List.take_left' ?_
      rw [← Kd.all_append, Kd.all_length, e1])
  rw [e1] at h
  exact h
/-- One place of a row. -/
theorem GRow.put {W : World} {B g c : Nat} {l : List α} {cur : Array Value} (hB : B ≤ g) (hg : W.heap[g]? = some (.cells cur K.t (0, 0))) (hs : cur.size = c * K.s) (hl : l.length ≤ c) (hc : c ≤ maxLen)
    (ht : cur.toList.take (l.length * K.s) = K.all l) (k : Nat) (hk : k < l.length) (x : α) :
    GRow K (W.setRow g (cur.toList.take (k * K.s) ++ (K.cells x ++ cur.toList.drop (k * K.s + K.s))).toArray) B (.slice (some ⟨g, 0, none⟩) l.length c) (l.set k x) := by
  have e3 : cur.toList.take (k * K.s) = K.all (l.take k) := by
    rw [← Kd.all_take l k (by omega), ← ht, List.take_take, Nat.min_eq_left (Nat.mul_le_mul_right _ (by omega))]
  have e5 : l.length * K.s ≤ c * K.s := Nat.mul_le_mul_right _ hl
  have e6 : (k + 1) * K.s ≤ l.length * K.s := Nat.mul_le_mul_right _ hk
  have e7 : (k + 1) * K.s = k * K.s + K.s := Nat.succ_mul _ _
  have e8 : (cur.toList.drop (k * K.s + K.s)).take (l.length * K.s - (k * K.s + K.s)) = K.all (l.drop (k + 1)) := by
    rw [← List.drop_take, ht, ← e7]
    conv => lhs; rw [← List.take_append_drop (k + 1) l, Kd.all_append]
    exact List.drop_left' (by rw [Kd.all_length, List.length_take, Nat.min_eq_left (by omega)])
  have h := GRow.of_block (K := K) (W := W.setRow g (cur.toList.take (k * K.s) ++ (K.cells x ++ cur.toList.drop (k * K.s + K.s))).toArray) (B := B) (g := g) (c := c) (l := l.set k x) hB (setRow_heap W g cur _ K.t _ hg) (by
      rw [List.size_toArray, List.length_append, List.length_append, List.length_take, List.length_drop, Array.length_toList, K.len]
      omega) (by rw [List.length_set]; exact hl) hc (by
      have e9 : (K.all (l.take k)).length = k * K.s := by rw [Kd.all_length, List.length_take, Nat.min_eq_left (by omega)]
      have e10 := K.len x
      rw [List.length_set, List.set_eq_take_append_cons_drop, if_pos hk, Kd.all_append, e3]
      rw [show K.all (x :: l.drop (k + 1)) = K.cells x ++ K.all (l.drop (k + 1)) from rfl, ← e8]
      generalize K.all (l.take k) = A at *
      generalize K.cells x = X at *
      rw [List.take_append, List.take_of_length_le (i := l.length * K.s) (l := A) (by omega), List.take_append, List.take_of_length_le (l := X) (by omega), e9, e10, Nat.sub_sub])
  rw [List.length_set] at h
  exact h
end
end Go.Proofs.Ytjbfaaoeoggkpaa
