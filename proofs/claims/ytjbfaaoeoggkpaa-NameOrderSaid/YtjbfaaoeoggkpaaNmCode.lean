/- May, Cmp, Print of the program. -/
import Derived.Test.YtjbfaaoeoggkpaaNmMay
import Derived.Laws.StructEq
namespace Go.Proofs.Ytjbfaaoeoggkpaa
open Go.RowKit Go.Lib

theorem less_cmp : ∀ a b : List UInt8, Op.bytesLess a b = decide (cmpL a b = -1)
  | [], [] => rfl
  | [], _ :: _ => rfl
  | _ :: _, [] => rfl
  | x :: a, y :: b => by
    rw [Op.bytesLess, cmpL, less_cmp a b]
    by_cases h1 : x.toNat < y.toNat
    · have : x < y := h1
      simp [h1, this]
    · by_cases h2 : y.toNat < x.toNat
      · have e1 : ¬ x < y := h1
        have e2 : ¬ x = y := fun e => by rw [e] at h2; omega
        simp [h1, h2, e1, e2]
      · have e2 : x = y := UInt8.toNat_inj.1 (by omega)
        subst e2
        have e1 : ¬ x < x := h1
        simp [h1, e1]
theorem eqs_true {s t : ByteArray} (h : s = t) : (s.toList == t.toList) = true := by rw [h]; exact beq_self_eq_true _
theorem eqs_false {s t : ByteArray} (h : s ≠ t) : (s.toList == t.toList) = false := beq_eq_false_iff_ne.2 fun e => h (bytes_ext (by rw [ByteArray.toList_eq, ByteArray.toList_eq] at e; exact e))

set_option maxRecDepth 100000 in
set_option maxHeartbeats 400000 in
theorem may_any (a : Nm) (h1 : a.ns.size ≤ 9223372036854775807) (h2 : a.sa.size ≤ 9223372036854775807) (w : World) : Calls Try.prog 11 #[.agg #[.string a.ns, .string a.sa]] w (fun e w' => e = .returned (.bool (mayN a)) ∧ Below w.heap.size w w') := by
  obtain ⟨s, t⟩ := a
  change s.size ≤ _ at h1
  change t.size ≤ _ at h2
  unfold mayN
  dsimp only
  have L1 := hideL (label_any s h1)
  have L2 := hideL (label_any t h2)
  have HX := hideL (NBox.new w s t)
  have HB := hideL ((Below.refl w.heap.size w).alloc (Nat.le_refl _) (.cells #[.string s, .string t] 23))
  obtain ⟨x, hx⟩ : ∃ x, labelS s.data.toList = x := ⟨_, rfl⟩
  obtain ⟨y, hy⟩ : ∃ x, labelS t.data.toList = x := ⟨_, rfl⟩
  rw [hx] at L1 ⊢
  rw [hy] at L2 ⊢
  clear hx hy
  cases x
  · go_enter Try.func11, Try.ntmps11
    go_wp2_with (go_at_call 9; refine (L1.out _).mono ?_; rintro e w2 ⟨rfl, hB2⟩)
    go_ret
    exact ⟨rfl, HB.out.trans (hB2.mono HB.out.size)⟩
  · go_enter Try.func11, Try.ntmps11
    go_wp2_with (go_at_call 9; first
      | (with_reducible refine (L1.out _).mono ?_; rintro e w2 ⟨rfl, hB2⟩; have hc := (HX.out.next hB2).c1)
      | (with_reducible refine (L2.out _).mono ?_; rintro e w3 ⟨rfl, hB3⟩))
    go_ret
    exact ⟨rfl, HB.out.trans ((hB2.trans (hB3.mono hB2.size)).mono HB.out.size)⟩

/-- What Cmp leaves: two boxes, of its own. -/
def CmpW (w : World) (a b : Nm) : World := (w.alloc (.cells #[.string a.ns, .string a.sa] 23)).alloc (.cells #[.string b.ns, .string b.sa] 23)
set_option maxRecDepth 100000 in
set_option maxHeartbeats 400000 in
theorem cmp_any (a b : Nm) (w : World) : Calls Try.prog 13 #[.agg #[.string a.ns, .string a.sa], .agg #[.string b.ns, .string b.sa]] w (fun e w' => e = .returned (.int .i64 (cmpN a b)) ∧ w' = CmpW w a b) := by
  obtain ⟨s, t⟩ := a
  obtain ⟨s2, t2⟩ := b
  unfold cmpN CmpW
  dsimp only
  by_cases hs : s = s2
  · subst hs
    have es := eqs_true (rfl : s = s)
    have ls : Op.bytesLess s.toList s.toList = false := by rw [less_cmp, cmpL_self]; rfl
    rw [if_pos (cmpL_self _)]
    by_cases ht : t = t2
    · subst ht
      have et := eqs_true (rfl : t = t)
      rw [cmpL_self]
      go_enter Try.func13, Try.ntmps13
      go_wp2_with fail
      go_ret
      exact ⟨rfl, rfl⟩
    · have et := eqs_false ht
      obtain ⟨v, hv⟩ : ∃ v, cmpL t.data.toList t2.data.toList = v := ⟨_, rfl⟩
      have hne : v ≠ 0 := fun h => ht (bytes_ext (cmpL_zero (hv.trans h)))
      have lt := less_cmp t.toList t2.toList
      rw [ByteArray.toList_eq, ByteArray.toList_eq, hv, ← ByteArray.toList_eq, ← ByteArray.toList_eq] at lt
      have hvals := cmpL_vals t.data.toList t2.data.toList
      rw [hv] at hvals ⊢
      clear hv
      rcases hvals with rfl | rfl | rfl
      · have lt' : Op.bytesLess t.toList t2.toList = true := lt
        clear lt hne ht
        go_enter Try.func13, Try.ntmps13
        go_wp2_with fail
        go_ret
        exact ⟨rfl, rfl⟩
      · exact absurd rfl hne
      · have lt' : Op.bytesLess t.toList t2.toList = false := lt
        clear lt hne ht
        go_enter Try.func13, Try.ntmps13
        go_wp2_with fail
        go_ret
        exact ⟨rfl, rfl⟩
  · have es := eqs_false hs
    obtain ⟨v, hv⟩ : ∃ v, cmpL s.data.toList s2.data.toList = v := ⟨_, rfl⟩
    have hne : v ≠ 0 := fun h => hs (bytes_ext (cmpL_zero (hv.trans h)))
    have lt := less_cmp s.toList s2.toList
    rw [ByteArray.toList_eq, ByteArray.toList_eq, hv, ← ByteArray.toList_eq, ← ByteArray.toList_eq] at lt
    have hvals := cmpL_vals s.data.toList s2.data.toList
    rw [hv] at hvals
    rw [hv, if_neg hne]
    clear hv
    rcases hvals with rfl | rfl | rfl
    · have lt' : Op.bytesLess s.toList s2.toList = true := lt
      clear lt hne hs
      go_enter Try.func13, Try.ntmps13
      go_wp2_with fail
      go_ret
      exact ⟨rfl, rfl⟩
    · exact absurd rfl hne
    · have lt' : Op.bytesLess s.toList s2.toList = false := lt
      clear lt hne hs
      go_enter Try.func13, Try.ntmps13
      go_wp2_with fail
      go_ret
      exact ⟨rfl, rfl⟩

/-- What Print answers. -/
def priV (a : Nm) : Value := .tuple #[.string (if mayN a = true then prN a else ByteArray.empty), .int .i64 (if mayN a = true then 0 else 1)]
theorem may_size {a : Nm} (h : mayN a = true) : a.ns.size ≤ 20 ∧ a.sa.size ≤ 20 := by
  unfold mayN at h
  rw [Bool.and_eq_true] at h
  have h1 := (labelS_len h.1).2
  have h2 := (labelS_len h.2).2
  rw [size_list] at h1 h2
  exact ⟨h1, h2⟩
set_option maxRecDepth 100000 in
set_option maxHeartbeats 400000 in
theorem print_any (a : Nm) (h1 : a.ns.size ≤ 9223372036854775807) (h2 : a.sa.size ≤ 9223372036854775807) (w : World) : Calls Try.prog 15 #[.agg #[.string a.ns, .string a.sa]] w (fun e w' => e = .returned (priV a) ∧ Below w.heap.size w w') := by
  have HM := may_any a h1 h2
  have HS := @may_size a
  unfold priV
  obtain ⟨m, hm⟩ : ∃ m, mayN a = m := ⟨_, rfl⟩
  rw [hm] at HM HS ⊢
  clear hm
  obtain ⟨s, t⟩ := a
  unfold prN
  dsimp only at HM HS h1 h2 ⊢
  have L1 := hideL HM
  have HX := hideL (NBox.new w s t)
  have HB := hideL ((Below.refl w.heap.size w).alloc (Nat.le_refl _) (.cells #[.string s, .string t] 23))
  clear HM
  cases m
  · go_enter Try.func15, Try.ntmps15
    go_wp2_with (go_at_call 11; refine (L1.out _).mono ?_; rintro e w2 ⟨rfl, hB2⟩)
    go_ret2
    exact ⟨rfl, HB.out.trans (hB2.mono HB.out.size)⟩
  · obtain ⟨h1, h2⟩ := HS rfl
    go_enter Try.func15, Try.ntmps15
    go_wp2_with (go_at_call 11; refine (L1.out _).mono ?_; rintro e w2 ⟨rfl, hB2⟩; have c0 := (HX.out.next hB2).c0; have c1 := (HX.out.next hB2).c1)
    go_ret2
    exact ⟨rfl, HB.out.trans (hB2.mono HB.out.size)⟩
end Go.Proofs.Ytjbfaaoeoggkpaa
