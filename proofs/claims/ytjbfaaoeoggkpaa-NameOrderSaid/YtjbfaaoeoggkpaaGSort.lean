/- slices.SortFunc's contract at a row of the call's own, of any kind of thing; no program is named here. -/
import Derived.Test.YtjbfaaoeoggkpaaGRow
import Derived.Shelf.SlSortCmp.WholeK
namespace Go.Proofs.Ytjbfaaoeoggkpaa
open Go.RowKit

section
variable {α : Type} [Inhabited α] {K : Kd α}
theorem getD_arr (l : List α) (i : Nat) (h : i < l.length) (d : α) : l.toArray[i]! = l.getD i d := by simp [List.getD, h]
theorem flat_g (l : List α) : Sort.flatK K.cells K.s l.toArray = (K.all l).toArray := by
  refine Sort.ext_get! (by simp [Kd.all_length]) fun t ht => ?_
  have ht2 : t < l.length * K.s := by simpa using ht
  have hd : t / K.s < l.length := by rw [Nat.div_lt_iff_lt_mul K.pos]; exact ht2
  have hm := Nat.mod_lt t K.pos
  rw [Sort.get_flatK _ _ _ t (by simpa using ht2)]
  have h := Kd.get_all (K := K) l (t / K.s) (t % K.s) hd hm
  rw [show t / K.s * K.s + t % K.s = t by rw [Nat.mul_comm]; exact Nat.div_add_mod t K.s] at h
  have h3 : t < (K.all l).length := by rw [Kd.all_length]; exact ht2
  rw [getD_arr l (t / K.s) hd K.dft]
  generalize l.getD (t / K.s) K.dft = c at *
  have h4 : t % K.s < (K.cells c).length := by rw [K.len]; exact hm
  rw [List.getElem?_eq_getElem h3, List.getElem?_eq_getElem h4] at h
  injection h with h
  rw [getElem!_pos (K.cells c) (t % K.s) h4, getElem!_pos (K.all l).toArray t (by simpa using h3)]
  simpa using h.symm
theorem put_take_g (cur F : Array Value) (h : F.size ≤ cur.size) : (Sort.putCells id 0 F cur).toList.take F.size = F.toList := by
  refine List.ext_getElem (by simp [Sort.putCells]; omega) fun i h1 h2 => ?_
  have hi : i < F.size := by simpa using h2
  rw [List.getElem_take]
  simp [Sort.putCells, hi]
/-- The row behind the sort: other things of the same number in its block. -/
theorem sort_g (W : World) (B g n cap m : Nat) (l l' : List α) (os : Array Obj) (h : GRow K W B (.slice (some ⟨g, 0, none⟩) n cap) l) (hn : l.length = n) (hl : l'.length = l.length) :
    GRow K (sortWorldK K.cells K.s W g 0 m l'.toArray os) B (.slice (some ⟨g, 0, none⟩) n cap) l' ∧ Keep (fun k => k = g) W (sortWorldK K.cells K.s W g 0 m l'.toArray os) := by
  have hf := flat_g (K := K) l'
  have hlen := Kd.all_length (K := K) l'
  obtain ⟨h1, h2 | ⟨g', cap', cur, e1, e2, e3, e4, e5, e6, e7⟩⟩ := h
  · cases h2.1
  · injection e1 with e1 e1' e1''
    injection e1 with e1
    injection e1 with e1 _ _
    subst e1 e1''
    have hlt : g < W.heap.size := (Array.getElem?_eq_some_iff.1 e3).1
    have hb : (sortWorldK K.cells K.s W g 0 m l'.toArray os).heap[g]? = some (.cells (Sort.putCells id 0 (K.all l').toArray cur) K.t (0, 0)) := by
      unfold sortWorldK Sort.putRowK Sort.putRow Sort.mapBlock Sort.grow
      rw [hf]
      dsimp only
      rw [Array.getElem?_append_left (by simpa using hlt), Array.getElem?_modify]
      simp [e3, Sort.onCells]
    refine ⟨⟨hlen, .inr ⟨g, cap, _, by rw [hl, hn], e2, hb, by rw [hl]; exact e4, e5, by simp [Sort.putCells]; exact e6, ?_⟩⟩, ?_⟩
    · have := put_take_g cur (K.all l').toArray (by rw [List.size_toArray, hlen, e6, hl]; exact Nat.mul_le_mul_right _ e4)
      rw [List.size_toArray, hlen] at this
      exact this
    · refine ⟨rfl, rfl, rfl, ?_, fun k hk hne => ?_⟩
      · unfold sortWorldK Sort.putRowK
        simp
      · unfold sortWorldK Sort.putRowK Sort.putRow Sort.mapBlock Sort.grow
        dsimp only
        rw [Array.getElem?_append_left (by simpa using hk), Array.getElem?_modify, if_neg (fun e => hne e.symm)]
        rfl
/-- What the sort asks of the row. -/
theorem holds_g {W : World} {B g n cap : Nat} {l : List α} (h : GRow K W B (.slice (some ⟨g, 0, none⟩) n cap) l) : Sort.HoldsK K.cells K.s W g 0 l.toArray := by
  intro j hj
  have hc := World.ownsRow.cells h (g := g) rfl
  rw [flat_g] at hj ⊢
  have hj2 : j < (K.all l).length := by simpa using hj
  have h3 := hc j _ (List.getElem?_eq_getElem hj2)
  rw [addr_plain'] at h3
  refine ⟨h3.trans ?_, ?_⟩
  · rw [getElem!_pos _ j hj]
    simp
  · obtain ⟨_, h2 | ⟨g', cap', cur, e1, e2, e3, _⟩⟩ := h
    · cases h2.1
    · injection e1 with e1 _ _
      injection e1 with e1
      injection e1 with e1 _ _
      subst e1
      exact frozen_of_row W g _ _ _ e3
theorem perm_g {d d' : Array α} (h : Sort.PermIn 0 d.size d d') : d'.toList.Perm d.toList := by
  obtain ⟨h1, _, h3⟩ := h
  have e1 : d.extract 0 d.size = d := by simp
  have e2 : d'.extract 0 d.size = d' := by rw [← h1]; simp
  rw [e1, e2] at h3
  exact h3
end
end Go.Proofs.Ytjbfaaoeoggkpaa
