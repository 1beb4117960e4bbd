/- A name's text, by cutting: what strings.CutPrefix and strings.Cut leave of it. No program is named here. -/
import Derived.Test.YtjbfaaoeoggkpaaNmTry
import Derived.Lib.IndexMore
import Derived.Lib.Strings
namespace Go.Proofs.Ytjbfaaoeoggkpaa

theorem pre_text (ns sa : List UInt8) : Lib.hasPrefix (textS ns sa) preS = true := by
  unfold Lib.hasPrefix textS
  rw [List.isPrefixOf_iff_prefix]
  exact List.prefix_append _ _
theorem pre_not {l : List UInt8} (h : Lib.hasPrefix l preS = false) : parseS l = none := parseS_none fun ns sa hx => by
  have h2 := pre_text ns sa
  rw [hx.2.2, h] at h2
  cases h2
theorem pre_drop {l : List UInt8} (h : Lib.hasPrefix l preS = true) : l = preS ++ l.drop 17 := by
  unfold Lib.hasPrefix at h
  rw [List.isPrefixOf_iff_prefix] at h
  obtain ⟨t, rfl⟩ := h
  rw [List.drop_left' preS_length]
theorem cut_text {ns sa : List UInt8} (h : labelS ns = true) : Lib.cut (ns ++ (midS ++ sa)) midS = (ns, sa, true) := by
  have hi : Lib.index (ns ++ (midS ++ sa)) midS = ns.length := by
    refine Lib.index_first (by simp) ?_ fun j hj => ?_
    · unfold Lib.occAt
      rw [List.drop_left' rfl, List.isPrefixOf_iff_prefix]
      exact List.prefix_append _ _
    · cases ho : Lib.occAt (ns ++ (midS ++ sa)) midS j with
      | false => rfl
      | true =>
        have h2 := Lib.occAt_head (c := 47) (t := [115, 97, 47]) rfl ho
        rw [List.getElem?_append_left hj] at h2
        exact absurd (List.mem_of_getElem? h2) (labelS_not h)
  unfold Lib.cut
  rw [hi, if_pos (by omega)]
  have e1 : ((ns.length : Nat) : Int).toNat = ns.length := by omega
  rw [e1, List.take_left' rfl, midS_length]
  have e2 : ns ++ (midS ++ sa) = (ns ++ midS) ++ sa := by simp
  rw [e2, List.drop_left' (by rw [List.length_append, midS_length])]
theorem cut_back {r a b : List UInt8} {f : Bool} (h : Lib.cut r midS = (a, b, f)) (hb : b ≠ []) : r = a ++ (midS ++ b) := by
  unfold Lib.cut at h
  rcases Lib.index_spec r midS with ⟨h1, _⟩ | ⟨i, h1, h2, h3, _⟩
  · rw [h1, if_neg (by omega)] at h
    injection h with _ h
    injection h with h _
    exact absurd h.symm hb
  · rw [h1, if_pos (by omega)] at h
    have e1 : ((i : Nat) : Int).toNat = i := by omega
    rw [e1, midS_length] at h
    injection h with ha h
    injection h with hb' _
    have hroom : i + 4 ≤ r.length := by
      rcases Lib.occAt_room h3 with h' | h'
      · rw [midS_length] at h'; exact h'
      · cases h'
    have h4 := Lib.occAt_iff_take r midS i (by rw [midS_length]; exact hroom)
    rw [h3, midS_length] at h4
    have h5 : (r.drop i).take 4 = midS := by simpa using h4.symm
    rw [← ha, ← hb', ← h5, ← List.drop_drop, List.take_append_drop, List.take_append_drop]
theorem cut_some {l a b : List UInt8} {f : Bool} (hp : Lib.hasPrefix l preS = true) (h : Lib.cut (l.drop 17) midS = (a, b, f)) (hl : (labelS a && labelS b) = true) : parseS l = some (a, b) := by
  rw [Bool.and_eq_true] at hl
  have hb : b ≠ [] := by
    rintro rfl
    have := (labelS_len hl.2).1
    simp at this
  refine parseS_some.2 ⟨hl.1, hl.2, ?_⟩
  unfold textS
  rw [← cut_back h hb]
  exact (pre_drop hp).symm
theorem cut_none {l a b : List UInt8} {f : Bool} (h : Lib.cut (l.drop 17) midS = (a, b, f)) (hl : (labelS a && labelS b) = false) : parseS l = none := parseS_none fun ns sa hx => by
  have h2 : l.drop 17 = ns ++ (midS ++ sa) := by
    rw [← hx.2.2]
    unfold textS
    rw [List.drop_left' preS_length]
  rw [h2, cut_text hx.1] at h
  injection h with h3 h4
  injection h4 with h4 _
  rw [← h3, ← h4, hx.1, hx.2.1] at hl
  cases hl
theorem cut_size {r : List UInt8} : (Lib.cut r midS).1.length ≤ r.length ∧ (Lib.cut r midS).2.1.length ≤ r.length := by
  unfold Lib.cut
  split
  · simp
    omega
  · simp
end Go.Proofs.Ytjbfaaoeoggkpaa
