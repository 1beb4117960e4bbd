/- A row of names: all from a place on moved up by one, a name laid at that place. -/
import Derived.Test.YtjbfaaoeoggkpaaNmSort
import Derived.Test.YtjbfaaoeoggkpaaGCopy
import Derived.Test.YtjbfaaoeoggkpaaNmUniq
namespace Go.Proofs.Ytjbfaaoeoggkpaa
open Go.RowKit

theorem size_nm : (Try.prog.info? 23).map (·.size) = some 2 := by kernel_rfl
/-- 's[m:]'. -/
theorem run_cut_nm (g n cap m : Nat) (z : Int) (hz : z = m) (h : m ≤ n) (w : World) :
    (Instr.sliceAt 37 (.slice (some ⟨g, 0, none⟩) n cap) (some (.int .i64 z)) none none).run Try.prog w = .ok (.slice (some ⟨g, if cap = m then 0 else m * 2, none⟩) (n - m) (cap - m)) w := by
  subst hz
  have h1 : (0 : Int) ≤ (m : Int) ∧ (m : Int) ≤ (n : Int) := by omega
  simp [Instr.sliceAt, Instr.slice, run_underlying Try.underlying37, Instr.sliceBounds, run_sliceBound_if, run_sizeOf size_nm, h1]
  split
  · simp
  · simp [Addr.add]
    omega
theorem below_setRowN {B : Nat} (W : World) (g : Nat) (cs : Array Value) (hB : B ≤ g) : Below B W (W.setRow g cs) := by
  refine ⟨rfl, rfl, rfl, by simp [World.setRow], fun k hk => ?_⟩
  unfold World.setRow
  dsimp only
  rw [Array.getElem?_modify, if_neg (by omega)]
theorem setRow_same (cur : Array Value) (m : Nat) : (cur.toList.take m ++ ([] ++ cur.toList.drop (m + 0))).toArray = cur := by simp
theorem all_at (O : List Nm) (z : Nm) (k j : Nat) (hk : k ≤ O.length) (v : Value) (h : (KN.all (O.drop k))[j]? = some v) : (KN.all (O ++ [z]))[k * 2 + j]? = some v := by
  have hl : (KN.all (O.take k)).length = k * 2 := by rw [Kd.all_length, List.length_take, Nat.min_eq_left hk]; rfl
  have hj : j < (KN.all (O.drop k)).length := (List.getElem?_eq_some_iff.1 h).1
  rw [show O ++ [z] = O.take k ++ (O.drop k ++ [z]) by rw [← List.append_assoc, List.take_append_drop], Kd.all_append, Kd.all_append, List.getElem?_append_right (by omega), hl, show k * 2 + j - k * 2 = j by omega, List.getElem?_append_left hj, h]

/-- 'copy(out[k+1:], out[k:])'. -/
theorem move_run (W : World) (B g c : Nat) (O : List Nm) (z : Nm) (h : GRow KN W B (.slice (some ⟨g, 0, none⟩) (O.length + 1) c) (O ++ [z])) (k : Nat) (hk : k ≤ O.length) :
    ∃ W', (Builtin.copy_ #[37, 37] 3 #[.slice (some ⟨g, if c = k + 1 then 0 else (k + 1) * 2, none⟩) (O.length + 1 - (k + 1)) (c - (k + 1)), .slice (some ⟨g, if c = k then 0 else k * 2, none⟩) (O.length + 1 - k) (c - k)]).run Try.prog W = .ok (.int .i64 ((O.length - k : Nat) : Int)) W' ∧
      GRow KN W' B (.slice (some ⟨g, 0, none⟩) (O.length + 1) c) ((O ++ [z]).take (k + 1) ++ O.drop k) ∧ Below B W W' := by
  rcases h.block with ⟨h1, _⟩ | ⟨g', c', cur, e1, hB, hg, hs, hl, hc, ht⟩
  · cases h1
  · injection e1 with e1 _ e3
    injection e1 with e1
    injection e1 with e1 _ _
    subst e1 e3
    rw [List.length_append, List.length_singleton] at ht hl
    have hcell := fun j v (hj : (KN.all (O ++ [z]))[j]? = some v) => World.ownsRow.cells h (g := g) rfl j v hj
    have hmin : Nat.min (O.length + 1 - k) (O.length + 1 - (k + 1)) = O.length - k := by
      rw [Nat.add_sub_add_right]
      exact Nat.min_eq_right (by omega)
    have hlen : (KN.all (O.drop k)).length = (O.length - k) * 2 := by rw [Kd.all_length, List.length_drop]; rfl
    have hck : ¬ c = k := by omega
    rw [if_neg hck]
    refine ⟨W.setRow g (cur.toList.take ((k + 1) * 2) ++ (KN.all (O.drop k) ++ cur.toList.drop ((k + 1) * 2 + (KN.all (O.drop k)).length))).toArray, ?_, GRow.shift (K := KN) hB hg hs (by omega) hc ht k hk, below_setRowN W g _ hB⟩
    have hrun := run_copy_rowS (P := Try.prog) W 37 37 3 23 2 g (if c = k + 1 then 0 else (k + 1) * 2) (O.length + 1 - (k + 1)) (c - (k + 1)) ⟨g, k * 2, none⟩ (O.length + 1 - k) (c - k) cur KN.t (KN.all (O.drop k)) Try.underlying37 size_nm hg (by rw [hmin, hlen])
      (fun j v hj => by
        have h2 := hcell _ v (all_at O z k j hk v hj)
        rw [addr_plain'] at h2 ⊢
        rw [Nat.zero_add] at h2
        exact h2)
      (by rw [hlen, hs]; show _ ≤ c * 2; split <;> omega) (Kd.all_one1 _)
    rw [hrun, hmin]
    congr 1
    split
    · have hkL : k = O.length := by omega
      have he : KN.all (O.drop k) = [] := by rw [hkL, List.drop_length]; rfl
      rw [he]
      simp
    · rw [List.append_assoc]

theorem all_set : ∀ (M : List Nm) (k : Nat) (p q : ByteArray), ((KN.all M).set (k * 2) (.string p)).set (k * 2 + 1) (.string q) = KN.all (M.set k ⟨p, q⟩)
  | [], k, p, q => by simp [Kd.all]
  | m :: M, 0, p, q => by simp [Kd.all, KN]
  | m :: M, k + 1, p, q => by
    have ih := all_set M k p q
    have e1 : KN.all (m :: M) = .string m.ns :: .string m.sa :: KN.all M := rfl
    have e2 : KN.all ((m :: M).set (k + 1) ⟨p, q⟩) = .string m.ns :: .string m.sa :: KN.all (M.set k ⟨p, q⟩) := rfl
    rw [e1, e2, ← ih, show (k + 1) * 2 = k * 2 + 1 + 1 by omega]
    rfl
theorem move_list (O : List Nm) (z x : Nm) (k : Nat) (hk : k ≤ O.length) : (((O ++ [z]).take (k + 1)) ++ O.drop k).set k x = O.take k ++ x :: O.drop k := by
  have h1 : ∃ y, (O ++ [z]).take (k + 1) = O.take k ++ [y] := by
    by_cases h : k < O.length
    · refine ⟨O[k], ?_⟩
      rw [List.take_append_of_le_length (by omega), List.take_add_one, List.getElem?_eq_getElem h]
      rfl
    · refine ⟨z, ?_⟩
      have : k = O.length := by omega
      rw [this, List.take_of_length_le (by simp), List.take_length]
  obtain ⟨y, hy⟩ := h1
  have hl : (O.take k).length = k := by rw [List.length_take, Nat.min_eq_left hk]
  rw [hy, List.append_assoc, List.set_append_right _ _ (by omega), hl, Nat.sub_self]
  rfl
/-- 'out[k] = x'. -/
theorem put_run (W : World) (B g n c : Nat) (M : List Nm) (h : GRow KN W B (.slice (some ⟨g, 0, none⟩) n c) M) (hn : M.length = n) (k : Nat) (hk : k < n) (p q : ByteArray) :
    (∃ v, W.cell? ⟨g, k * 2, none⟩ = some v) ∧ (∃ v, W.cell? ⟨g, k * 2 + 1, none⟩ = some v) ∧ W.frozen? ⟨g, k * 2, none⟩ = false ∧ W.frozen? ⟨g, k * 2 + 1, none⟩ = false ∧
      GRow KN ((W.setCell ⟨g, k * 2, none⟩ (.string p)).setCell ⟨g, k * 2 + 1, none⟩ (.string q)) B (.slice (some ⟨g, 0, none⟩) n c) (M.set k ⟨p, q⟩) ∧ Below B W ((W.setCell ⟨g, k * 2, none⟩ (.string p)).setCell ⟨g, k * 2 + 1, none⟩ (.string q)) := by
  rcases h.block with ⟨h1, _⟩ | ⟨g', c', cur, e1, hB, hg, hs, hl, hc, ht⟩
  · cases h1
  · injection e1 with e1 _ e3
    injection e1 with e1
    injection e1 with e1 _ _
    subst e1 e3
    have hs2 : cur.size = c * 2 := hs
    have hh1 := heap_setCell_same W g (k * 2) _ _ (.string p) hg
    have hh2 := heap_setCell_same _ g (k * 2 + 1) _ _ (.string q) hh1
    refine ⟨⟨cur[k * 2]'(by omega), ?_⟩, ⟨cur[k * 2 + 1]'(by omega), ?_⟩, frozen_of_row W g _ _ _ hg, frozen_of_row W g _ _ _ hg, ?_, ?_⟩
    · rw [cell_of_row W g (k * 2) _ _ _ hg]; exact Array.getElem?_eq_getElem (by omega)
    · rw [cell_of_row W g (k * 2 + 1) _ _ _ hg]; exact Array.getElem?_eq_getElem (by omega)
    · have hlen : (M.set k ⟨p, q⟩).length = n := by rw [List.length_set, hn]
      have := GRow.of_block (K := KN) (l := M.set k ⟨p, q⟩) hB hh2 (by simp; exact hs2) (by rw [hlen]; omega) hc (by
        rw [hlen, ← all_set, ← ht, hn]
        simp [List.take_set])
      rw [hlen] at this
      exact this
    · exact ((Below.refl B W).setCell (p := ⟨g, k * 2, none⟩) hB _).setCell (p := ⟨g, k * 2 + 1, none⟩) hB _
end Go.Proofs.Ytjbfaaoeoggkpaa
