/- Sort of the program: sorted, each name once. -/
import Derived.Test.YtjbfaaoeoggkpaaNmSort
namespace Go.Proofs.Ytjbfaaoeoggkpaa
open Go.RowKit Go.Lib

/-- What stands in a sorted row's first k places, each once. -/
noncomputable def dd (l : List Nm) : Nat → List Nm
  | 0 => []
  | k + 1 => if k = 0 ∨ l.getD k KN.dft ≠ l.getD (k - 1) KN.dft then dd l k ++ [l.getD k KN.dft] else dd l k
theorem dd_length (l : List Nm) : ∀ k, (dd l k).length ≤ k
  | 0 => by simp [dd]
  | k + 1 => by
    have := dd_length l k
    rw [dd]
    split
    · simp; omega
    · omega
theorem le_get {l : List Nm} (h : LeN l) {i j : Nat} (hij : i < j) (hj : j < l.length) : cmpN (l.getD i KN.dft) (l.getD j KN.dft) ≤ 0 := by
  have h2 := List.pairwise_iff_getElem.1 h i j (by omega) hj hij
  simpa [List.getD, hj, show i < l.length by omega] using h2
theorem dd_spec {l : List Nm} (h : LeN l) : ∀ k, k ≤ l.length → Rises (dd l k) ∧ ∀ x, x ∈ dd l k ↔ ∃ i, i < k ∧ l.getD i KN.dft = x
  | 0, _ => ⟨List.Pairwise.nil, fun x => by simp [dd]⟩
  | k + 1, hk => by
    obtain ⟨h1, h2⟩ := dd_spec h k (by omega)
    rw [dd]
    split
    · rename_i hc
      refine ⟨?_, fun x => ?_⟩
      · unfold Rises
        rw [List.pairwise_append]
        refine ⟨h1, List.pairwise_singleton _ _, fun a ha b hb => ?_⟩
        rw [List.mem_singleton] at hb
        subst hb
        obtain ⟨i, hi, rfl⟩ := (h2 a).1 ha
        rcases hc with rfl | hc
        · omega
        · have h3 := le_get h (show k - 1 < k by omega) (show k < l.length by omega)
          have h4 : cmpN (l.getD (k - 1) KN.dft) (l.getD k KN.dft) = -1 := by
            rcases cmpN_vals (l.getD (k - 1) KN.dft) (l.getD k KN.dft) with h5 | h5 | h5
            · exact h5
            · exact absurd (cmpN_zero h5).symm hc
            · omega
          by_cases he : i = k - 1
          · rw [he]; exact h4
          · have h5 := le_get h (show i < k - 1 by omega) (show k - 1 < l.length by omega)
            rcases cmpN_vals (l.getD i KN.dft) (l.getD (k - 1) KN.dft) with h6 | h6 | h6
            · exact cmpN_trans h6 h4
            · rw [cmpN_zero h6]; exact h4
            · omega
      · rw [List.mem_append, List.mem_singleton, h2]
        constructor
        · rintro (⟨i, hi, rfl⟩ | rfl)
          · exact ⟨i, by omega, rfl⟩
          · exact ⟨k, by omega, rfl⟩
        · rintro ⟨i, hi, rfl⟩
          by_cases he : i = k
          · exact .inr (by rw [he])
          · exact .inl ⟨i, by omega, rfl⟩
    · rename_i hc
      refine ⟨h1, fun x => (h2 x).trans ⟨fun ⟨i, hi, e⟩ => ⟨i, by omega, e⟩, ?_⟩⟩
      rintro ⟨i, hi, rfl⟩
      by_cases he : i = k
      · have hk0 : k ≠ 0 := fun e => hc (.inl e)
        have hke : l.getD k KN.dft = l.getD (k - 1) KN.dft := Classical.byContradiction fun e => hc (.inr e)
        exact ⟨k - 1, by omega, by rw [he, hke]⟩
      · exact ⟨i, by omega, rfl⟩
theorem dd_sort {l m : List Nm} (h : LeN l) (hp : l.Perm m) : dd l l.length = sortN m := by
  obtain ⟨h1, h2⟩ := dd_spec h l.length (Nat.le_refl _)
  refine sortN_of h1 fun x => (h2 x).trans (Iff.trans ?_ (hp.mem_iff (a := x)))
  constructor
  · rintro ⟨i, hi, rfl⟩
    simp [List.getD, hi]
  · intro hx
    obtain ⟨i, hi, rfl⟩ := List.getElem_of_mem hx
    exact ⟨i, hi, by simp [List.getD, hi]⟩

theorem wpList_append_runN {P : Program} {ops : Array Oper} {rest : List Oper} {o : Oper} {a : Act} {w : World} {Q : Exit → Act → World → Prop} (hg : o.guard = none) (s x : Operand) (t tn ty : TypeId) (hop : o.op = Op.call { callee := Callee.builtin Builtin.append, args := #[s, x], argTypes := #[t, tn] })
    (hty : o.type = ty) (vs vx v : Value) (w' : World) (hs : a.eval s = vs) (hx : a.eval x = vx) (hrun : (Builtin.append_ #[t, tn] ty #[vs, vx]).run P w = .ok v w')
    (h : wpList P ops Q rest (a.put o.dst v) w') : wpList P ops Q (o :: rest) a w := by
  subst hty
  refine wpList_plain hg fun K hK => ?_
  unfold Oper.wp
  simp [execOp, hop, resolve, invoke, builtin, hs, hx, hrun, Result.andThen]
  exact hK _ _ h
/-- One name more, in a row of the call's own. -/
theorem append_nm (W : World) (B : Nat) (v : Value) (l : List Nm) (p q : ByteArray) (h : GRow KN W B v l) (hl : l.length ≤ 1000) (hB : B ≤ W.heap.size) :
    ∃ v' w', (Builtin.append_ #[37, 37] 37 #[v, .slice (some ⟨W.heap.size, 0, none⟩) 1 1]).run Try.prog (W.alloc (.cells #[.string p, .string q] 23)) = .ok v' w' ∧ GRow KN w' B v' (l ++ [⟨p, q⟩]) ∧ Below B W w' := by
  have hm : (1001 : Nat) ≤ maxLen := by decide
  have hbox : GAt KN (W.alloc (.cells #[.string p, .string q] 23)) (.slice (some ⟨W.heap.size, 0, none⟩) 1 1) [⟨p, q⟩] := GAt.box (K := KN) _ W.heap.size ⟨p, q⟩ (0, 0) (heap_alloc_new W _) 1 (Nat.le_refl _)
  obtain ⟨v', w', h1, h2, h3, _⟩ := append_g (K := KN) (P := Try.prog) 37 (.agg #[.string ByteArray.empty, .string ByteArray.empty]) 32 Try.underlying37 infoN rfl _ B v l (h.alloc _) _ [⟨p, q⟩] hbox (by simp; omega) (by simp; omega) (by simp; omega)
  refine ⟨v', w', h1, h2, ?_⟩
  exact ((Below.refl B W).alloc hB _).trans (h3.below (fun k hk => h.ge hk) (by simp; omega))

set_option maxRecDepth 100000 in
set_option maxHeartbeats 1000000 in
theorem sortP_any (v : Value) (l : List Nm) (w : World) (hv : GAt KN w v l) (hl : l.length ≤ 60) (h1 : ∀ n ∈ l, n.ns.size ≤ 1000 ∧ n.sa.size ≤ 1000) : Calls Try.prog 19 #[v] w (fun e w' => ∃ v', e = .returned v' ∧ GRow KN w' w.heap.size v' (sortN l) ∧ Below w.heap.size w w') := by
  obtain ⟨ao, cap, rfl⟩ := hv.len
  obtain ⟨n, hn⟩ : ∃ n, l.length = n := ⟨_, rfl⟩
  rw [hn] at hv hl ⊢
  have HB := hideL ((Below.refl w.heap.size w).alloc (Nat.le_refl _) (.cells #[.slice ao n cap] 37))
  have LV := hideL (values_any ao n cap)
  have LF := hideL (sortedFunc_any w.heap.size n cap ao l hn (by omega) (w.alloc (.cells #[.slice ao n cap] 37)) (by simp) (cell_of_row _ w.heap.size 0 _ _ _ (heap_alloc_new w _)) (hv.below HB.out))
  have HN := hideL hn
  clear hn hv
  go_enter Try.func19, Try.ntmps19
  go_wp2_with (first
    | (go_at_call 28; with_reducible refine (LV.out _).mono ?_; rintro e w2 ⟨rfl, rfl⟩)
    | (go_at_call 27; refine (LF.out).mono ?_; rintro e w2 ⟨v, l', rfl, hp, hs, hr, hB2⟩; have hA := hr.gAt; obtain ⟨ao2, cap2, rfl⟩ := hA.len; have hln : l'.length = n := hp.length_eq.trans HN.out; rw [hln] at hA ⊢; have HA := hideL hA; have HLN := hideL hln; have HD := hideL (dd_sort hs hp); rw [hln] at HD; have HZ := hideL (fun x (hx : x ∈ l') => h1 x ((hp.mem_iff (a := x)).1 hx)); have HW := hideL (HB.out.trans (hB2.mono HB.out.size)); clear hA hln hr hs hp hB2))
  clear LF LV HB HN h1
  go_loopw [12, 4] (fun i u wr => ∃ k : Nat, k ≤ n ∧ i = .int .i64 k ∧ GRow KN wr w2.heap.size u (dd l' k) ∧ Below w2.heap.size w2 wr) (fun i _ _ => n - (intOf i).toNat)
  case atStart => exact ⟨0, Nat.zero_le _, rfl, GRow.nil _ _, Below.refl _ _⟩
  case round =>
    obtain ⟨k, hk, rfl, hrow, hB⟩ := hrel
    by_cases hlt : k < n
    · have hlt' : (k : Int) < (n : Int) := by omega
      obtain ⟨b, o, hao, hbl, hcell⟩ := HA.out.at (k := k) hlt
      subst hao
      have hkl : k < l'.length := by rw [HLN.out]; exact hlt
      have hzz := HZ.out (l'.getD k KN.dft) (by simp [List.getD, hkl])
      have hd1 : dd l' (k + 1) = if k = 0 ∨ l'.getD k KN.dft ≠ l'.getD (k - 1) KN.dft then dd l' k ++ [l'.getD k KN.dft] else dd l' k := rfl
      have hprev : 0 < k → ∀ j, j < KN.s → w2.cell? ⟨b, o + (k - 1) * 2 + j, none⟩ = (KN.cells (l'.getD (k - 1) KN.dft))[j]? := fun h0 => by
        obtain ⟨b', o', hao, _, hc⟩ := HA.out.at (k := k - 1) (by omega)
        injection hao with hao
        injection hao with e1 e2 _
        subst e1 e2
        exact hc
      generalize hx : l'.getD k KN.dft = x at *
      obtain ⟨p, q⟩ := x
      dsimp only at hzz
      have LO := hideL (own_any ⟨p, q⟩ (by show p.size ≤ _; omega) (by show q.size ≤ _; omega))
      dsimp only at LO
      have d0 : wr.cell? ⟨b, o + k * 2, none⟩ = some (.string p) := (hB.cell (p := ⟨b, o + k * 2, none⟩) hbl).trans (hcell 0 (by decide))
      have d1 : wr.cell? ⟨b, o + k * 2 + 1, none⟩ = some (.string q) := (hB.cell (p := ⟨b, o + k * 2 + 1, none⟩) hbl).trans (hcell 1 (by decide))
      have HB1 := hideL ((Below.refl w2.heap.size wr).alloc hB.size (.cells #[.string p, .string q] 23))
      have HBd := hideL (hB.trans HB1.out).drew
      have HX := hideL (NBox.new wr p q)
      have x0 := HX.out.c0
      have x1 := HX.out.c1
      clear hx hkl hcell
      rcases Nat.eq_zero_or_pos k with rfl | hpos
      · have HS := hideL (show dd l' (0 + 1) = dd l' 0 ++ [⟨p, q⟩] from hd1.trans (if_pos (.inl rfl)))
        clear hd1 hprev
        rw [Nat.zero_mul, Nat.add_zero] at d0 d1
        go_wp2_with (first
          | (go_region)
          | (go_at_call 26; refine (LO.out _).mono ?_; rintro e w5 ⟨rfl, hB5⟩; obtain ⟨v6, w6, hrun, hr6, hB6⟩ := append_nm w5 w2.heap.size u4 (dd l' 0) p q ((hrow.alloc _).drew.below hB5) (by have := dd_length l' 0; omega) (Nat.le_trans HBd.out.size hB5.size); have HRUN := hideL hrun; clear hrun)
          | (at_builtin; with_reducible refine wpList_append_runN rfl (.tmp 28) (.tmp 31) 37 37 37 rfl rfl u4 (.slice (some ⟨w5.heap.size, 0, none⟩) 1 1) v6 w6 rfl rfl HRUN.out ?_))
        go_roundw
        case rel => exact ⟨0 + 1, by omega, by go_num, by rw [HS.out]; exact hr6, HBd.out.trans ((hB5.mono HBd.out.size).trans hB6)⟩
        case measure => simp [intOf]; omega
      · obtain ⟨m, rfl⟩ : ∃ m, k = m + 1 := ⟨k - 1, by omega⟩
        have hprev' := hprev hpos
        rw [Nat.add_sub_cancel] at hprev' hd1
        clear hprev
        generalize hy : l'.getD m KN.dft = y at *
        obtain ⟨p2, q2⟩ := y
        have HB1' := HB1.out
        have e0 : (wr.alloc (.cells #[.string p, .string q] 23)).cell? ⟨b, o + m * 2, none⟩ = some (.string p2) := ((hB.trans HB1').cell (p := ⟨b, o + m * 2, none⟩) hbl).trans (hprev' 0 (by decide))
        have e1 : (wr.alloc (.cells #[.string p, .string q] 23)).cell? ⟨b, o + m * 2 + 1, none⟩ = some (.string q2) := ((hB.trans HB1').cell (p := ⟨b, o + m * 2 + 1, none⟩) hbl).trans (hprev' 1 (by decide))
        clear HB1' hprev' hy
        have hk0 : (((m : Nat) : Int) + 1 == 0) = false := beq_eq_false_iff_ne.2 (by omega)
        have hmz : ¬ (((m : Nat) : Int) + 1 = 0) := by omega
        by_cases hp0 : p = p2
        · subst hp0
          have ep := eqs_true (rfl : p = p)
          by_cases hq0 : q = q2
          · subst hq0
            have eq0 := eqs_true (rfl : q = q)
            have HS := hideL (show dd l' (m + 1 + 1) = dd l' (m + 1) from hd1.trans (if_neg (by rintro (h | h); exact absurd h (by omega); exact h rfl)))
            clear hd1
            go_wp2_with (go_region)
            exact ⟨⟨m + 1 + 1, by omega, by go_num, by rw [HS.out]; exact (hrow.alloc _).drew, (hB.trans HB1.out).drew⟩, by simp [intOf]; omega⟩
          · have eq0 := eqs_false hq0
            have HS := hideL (show dd l' (m + 1 + 1) = dd l' (m + 1) ++ [⟨p, q⟩] from hd1.trans (if_pos (.inr (fun h => hq0 (by injection h)))))
            clear hd1
            go_wp2_with (first
              | (go_region)
              | (go_at_call 26; refine (LO.out _).mono ?_; rintro e w5 ⟨rfl, hB5⟩; obtain ⟨v6, w6, hrun, hr6, hB6⟩ := append_nm w5 w2.heap.size u4 (dd l' (m + 1)) p q ((hrow.alloc _).drew.below hB5) (by have := dd_length l' (m + 1); omega) (Nat.le_trans HBd.out.size hB5.size); have HRUN := hideL hrun; clear hrun)
              | (at_builtin; with_reducible refine wpList_append_runN rfl (.tmp 28) (.tmp 31) 37 37 37 rfl rfl u4 (.slice (some ⟨w5.heap.size, 0, none⟩) 1 1) v6 w6 rfl rfl HRUN.out ?_))
            go_roundw
            case rel => exact ⟨(m + 1) + 1, by omega, by go_num, by rw [HS.out]; exact hr6, HBd.out.trans ((hB5.mono HBd.out.size).trans hB6)⟩
            case measure => simp [intOf]; omega
        · have ep := eqs_false hp0
          have HS := hideL (show dd l' (m + 1 + 1) = dd l' (m + 1) ++ [⟨p, q⟩] from hd1.trans (if_pos (.inr (fun h => hp0 (by injection h)))))
          clear hd1
          go_wp2_with (first
            | (go_region)
            | (go_at_call 26; refine (LO.out _).mono ?_; rintro e w5 ⟨rfl, hB5⟩; obtain ⟨v6, w6, hrun, hr6, hB6⟩ := append_nm w5 w2.heap.size u4 (dd l' (m + 1)) p q ((hrow.alloc _).drew.below hB5) (by have := dd_length l' (m + 1); omega) (Nat.le_trans HBd.out.size hB5.size); have HRUN := hideL hrun; clear hrun)
            | (at_builtin; with_reducible refine wpList_append_runN rfl (.tmp 28) (.tmp 31) 37 37 37 rfl rfl u4 (.slice (some ⟨w5.heap.size, 0, none⟩) 1 1) v6 w6 rfl rfl HRUN.out ?_))
          go_roundw
          case rel => exact ⟨(m + 1) + 1, by omega, by go_num, by rw [HS.out]; exact hr6, HBd.out.trans ((hB5.mono HBd.out.size).trans hB6)⟩
          case measure => simp [intOf]; omega
    · obtain rfl : k = n := by omega
      have hlt' : ¬ (k : Int) < (k : Int) := by omega
      rw [HD.out] at hrow
      go_wp2_with fail
      go_ret
      exact ⟨_, rfl, hrow.base HW.out.size, HW.out.trans (hB.mono HW.out.size)⟩
end Go.Proofs.Ytjbfaaoeoggkpaa
