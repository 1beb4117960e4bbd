/- The document's MayAll, Any, Implies. -/
import Derived.Test.YtffbmkocmjpmeaaMtRef
namespace Go.Proofs.Ytffbmkocmjpmeaa
open Go.RowKit

set_option maxRecDepth 100000 in
set_option maxHeartbeats 400000 in
theorem mayAllR_any (v : Value) (l : List Tm) (w : World) (hv : GAt KT w v l) (hf : Fits l) (hm : l.length ≤ 9223372036854775807) : Calls Try.prog 13 #[v] w (fun e w' => e = .returned (.bool (mayAllM l)) ∧ Below w.heap.size w w') := by
  have HF := hideL hf
  obtain ⟨ao, cap, rfl⟩ := hv.len
  obtain ⟨n, hn⟩ : ∃ n, l.length = n := ⟨_, rfl⟩
  rw [hn] at hv hm ⊢
  have HN := hideL hn
  have HV := hideL hv
  obtain ⟨B, hB⟩ : ∃ b, l.all mayM = b := ⟨_, rfl⟩
  have HBB := hideL hB
  obtain ⟨R, hR⟩ : ∃ r, mayAllM l = r := ⟨_, rfl⟩
  rw [hR]
  have HR := hideL hR
  clear hB hv hn hf hR
  go_enter Try.func13, Try.ntmps13
  go_wp2_with fail
  go_loopw [3] (fun i wr => ∃ k : Nat, k ≤ n ∧ i = .int .i64 k ∧ Below w.heap.size w wr ∧ HidL ((l.drop k).all mayM = B)) (fun i _ => n - (intOf i).toNat)
  case atStart => exact ⟨0, Nat.zero_le _, rfl, Below.refl _ _, HBB⟩
  case round =>
    obtain ⟨k, hk, rfl, hb, hd⟩ := hrel
    obtain ⟨W, rfl⟩ : ∃ W, W = wr := ⟨_, rfl⟩
    by_cases hlt : k < n
    · have hlt' : (k : Int) < (n : Int) := by omega
      obtain ⟨b, o, hao, hbl, hcell⟩ := HV.out.at (k := k) hlt
      subst hao
      have hkl : k < l.length := by rw [HN.out]; exact hlt
      replace hd := hd.out
      rw [drop_at l k hkl, List.all_cons] at hd
      have hfit := HF.out.get hkl
      generalize l.getD k KT.dft = x at *
      have LC := hideL (fun W : World => mayR_any x hfit W)
      obtain ⟨y, hy⟩ : ∃ y, mayM x = y := ⟨_, rfl⟩
      rw [hy] at hd LC
      clear hy
      have HD := hideL hd
      clear hd hfit
      obtain ⟨p, q⟩ := x
      have d0 : W.cell? ⟨b, o + k * 2, none⟩ = some (.int .i64 p) := (hb.cell (p := ⟨b, o + k * 2, none⟩) hbl).trans (hcell 0 (by decide))
      have d1 : W.cell? ⟨b, o + k * 2 + 1, none⟩ = some (.string q) := (hb.cell (p := ⟨b, o + k * 2 + 1, none⟩) hbl).trans (hcell 1 (by decide))
      have HB := hideL hb
      clear hcell hbl hb
      cases y
      · have hBf : B = false := by rw [← HD.out]; rfl
        have hRf : R = false := by
          rw [← HR.out]
          unfold mayAllM
          rw [HBB.out, hBf, Bool.and_false]
        subst hRf
        clear HD hBf
        go_wp2_with (go_at_call 11; refine (LC.out _).mono ?_; rintro e w3 ⟨rfl, hB3⟩; have HB3 := hideL (HB.out.trans (hB3.mono HB.out.size)))
        go_ret
        exact ⟨rfl, HB3.out⟩
      · have HN2 := HD.out
        rw [Bool.true_and] at HN2
        have HNX := hideL HN2
        clear HD HN2
        go_wp2_with (go_at_call 11; refine (LC.out _).mono ?_; rintro e w3 ⟨rfl, hB3⟩; have HB3 := hideL (HB.out.trans (hB3.mono HB.out.size)))
        go_roundw
        case rel => exact ⟨k + 1, by omega, by go_num, HB3.out, HNX⟩
        case measure => simp [intOf]; omega
    · obtain rfl : k = n := by omega
      have hlt' : ¬ (k : Int) < (k : Int) := by omega
      replace hd := hd.out
      rw [List.drop_of_length_le (by rw [HN.out]; omega)] at hd
      have hBt : B = true := by rw [← hd]; rfl
      have HB := hideL hb
      clear hb hd
      have hR2 : R = decide (k ≤ 6) := by
        rw [← HR.out]
        unfold mayAllM
        rw [HBB.out, hBt, Bool.and_true, HN.out]
      clear hBt
      by_cases h6 : k ≤ 6
      · rw [decide_eq_true h6] at hR2
        subst hR2
        have h6' : (k : Int) ≤ 6 := by omega
        go_wp2_with fail
        go_ret
        exact ⟨rfl, HB.out⟩
      · rw [decide_eq_false h6] at hR2
        subst hR2
        have h6' : ¬ (k : Int) ≤ 6 := by omega
        go_wp2_with fail
        go_ret
        exact ⟨rfl, HB.out⟩
theorem any_cons {s : List UInt8} {a : Tm} {l : List Tm} : anyM s (a :: l) = (matM a s || anyM s l) := rfl
set_option maxRecDepth 100000 in
set_option maxHeartbeats 400000 in
theorem anyR_any (v : Value) (l : List Tm) (s : ByteArray) (hs : s.size ≤ 9223372036854775807) (w : World) (hv : GAt KT w v l) (hf : Fits l) (hm : l.length ≤ 9223372036854775807) : Calls Try.prog 17 #[.string s, v] w (fun e w' => e = .returned (.bool (anyM s.data.toList l)) ∧ Below w.heap.size w w') := by
  have HF := hideL hf
  obtain ⟨ao, cap, rfl⟩ := hv.len
  obtain ⟨n, hn⟩ : ∃ n, l.length = n := ⟨_, rfl⟩
  rw [hn] at hv hm ⊢
  have HN := hideL hn
  have HV := hideL hv
  obtain ⟨B, hB⟩ : ∃ b, anyM s.data.toList l = b := ⟨_, rfl⟩
  have HBB := hideL hB
  obtain ⟨R, hR⟩ : ∃ r, anyM s.data.toList l = r := ⟨_, rfl⟩
  rw [hR]
  have HR := hideL hR
  clear hB hv hn hf hR
  go_enter Try.func17, Try.ntmps17
  go_wp2_with fail
  go_loopw [5] (fun i wr => ∃ k : Nat, k ≤ n ∧ i = .int .i64 k ∧ Below w.heap.size w wr ∧ HidL (anyM s.data.toList (l.drop k) = B)) (fun i _ => n - (intOf i).toNat)
  case atStart => exact ⟨0, Nat.zero_le _, rfl, Below.refl _ _, HBB⟩
  case round =>
    obtain ⟨k, hk, rfl, hb, hd⟩ := hrel
    obtain ⟨W, rfl⟩ : ∃ W, W = wr := ⟨_, rfl⟩
    by_cases hlt : k < n
    · have hlt' : (k : Int) < (n : Int) := by omega
      obtain ⟨b, o, hao, hbl, hcell⟩ := HV.out.at (k := k) hlt
      subst hao
      have hkl : k < l.length := by rw [HN.out]; exact hlt
      replace hd := hd.out
      rw [drop_at l k hkl, any_cons] at hd
      have hfit := HF.out.get hkl
      generalize l.getD k KT.dft = x at *
      have LC := hideL (fun W : World => matchesR_any x s hfit hs W)
      obtain ⟨y, hy⟩ : ∃ y, matM x s.data.toList = y := ⟨_, rfl⟩
      rw [hy] at hd LC
      clear hy
      have HD := hideL hd
      clear hd hfit
      obtain ⟨p, q⟩ := x
      have d0 : W.cell? ⟨b, o + k * 2, none⟩ = some (.int .i64 p) := (hb.cell (p := ⟨b, o + k * 2, none⟩) hbl).trans (hcell 0 (by decide))
      have d1 : W.cell? ⟨b, o + k * 2 + 1, none⟩ = some (.string q) := (hb.cell (p := ⟨b, o + k * 2 + 1, none⟩) hbl).trans (hcell 1 (by decide))
      have HB := hideL hb
      clear hcell hbl hb
      cases y
      · have HN2 := HD.out
        rw [Bool.false_or] at HN2
        have HNX := hideL HN2
        clear HD HN2
        go_wp2_with (go_at_call 15; refine (LC.out _).mono ?_; rintro e w3 ⟨rfl, hB3⟩; have HB3 := hideL (HB.out.trans (hB3.mono HB.out.size)))
        go_roundw
        case rel => exact ⟨k + 1, by omega, by go_num, HB3.out, HNX⟩
        case measure => simp [intOf]; omega
      · have hBt : B = true := by rw [← HD.out]; rfl
        have hRt : R = true := by rw [← HR.out, HBB.out]; exact hBt
        subst hRt
        clear HD hBt
        go_wp2_with (go_at_call 15; refine (LC.out _).mono ?_; rintro e w3 ⟨rfl, hB3⟩; have HB3 := hideL (HB.out.trans (hB3.mono HB.out.size)))
        go_ret
        exact ⟨rfl, HB3.out⟩
    · obtain rfl : k = n := by omega
      have hlt' : ¬ (k : Int) < (k : Int) := by omega
      replace hd := hd.out
      rw [List.drop_of_length_le (by rw [HN.out]; omega)] at hd
      have hBf : B = false := by rw [← hd]; rfl
      have hRf : R = false := by rw [← HR.out, HBB.out]; exact hBf
      subst hRf
      have HB := hideL hb
      clear hb hd hBf
      go_wp2_with fail
      go_ret
      exact ⟨rfl, HB.out⟩
set_option maxRecDepth 100000 in
set_option maxHeartbeats 1000000 in
theorem impliesR_any (a b : Tm) (ha : a.t.size ≤ 9223372036854775807) (hb : b.t.size ≤ 9223372036854775807) (w : World) : Calls Try.prog 23 #[.agg #[.int .i64 a.k, .string a.t], .agg #[.int .i64 b.k, .string b.t]] w (fun e w' => e = .returned (.bool (impM a b)) ∧ Below w.heap.size w w') := by
  have LA := hideL (mayR_any a ha)
  have LB := hideL (mayR_any b hb)
  have LM := hideL (matchesR_any b a.t hb ha)
  unfold impM
  obtain ⟨ma, hma⟩ : ∃ m, mayM a = m := ⟨_, rfl⟩
  obtain ⟨mb, hmb⟩ : ∃ m, mayM b = m := ⟨_, rfl⟩
  obtain ⟨mm, hmm⟩ : ∃ m, matM b a.t.data.toList = m := ⟨_, rfl⟩
  rw [hma] at LA ⊢
  rw [hmb] at LB ⊢
  rw [hmm] at LM ⊢
  clear hma hmb hmm
  have HX0 := hideL ((TBox.new w a.k a.t).next ((Below.refl _ _).alloc (Nat.le_refl _) (.cells #[.int .i64 b.k, .string b.t] 23)))
  have HB0 := hideL (((Below.refl w.heap.size w).alloc (Nat.le_refl _) (.cells #[.int .i64 a.k, .string a.t] 23)).alloc (by simp) (.cells #[.int .i64 b.k, .string b.t] 23))
  have HY0 := TBox.new (w.alloc (.cells #[.int .i64 a.k, .string a.t] 23)) b.k b.t
  rw [World.size_alloc] at HY0
  replace HY0 := hideL HY0
  obtain ⟨ka, ta⟩ := a
  obtain ⟨kb, tb⟩ := b
  dsimp only at *
  cases ma
  · rw [if_neg (by decide)]
    go_enter Try.func23, Try.ntmps23
    go_wp2_with (first
      | (go_region)
      | (go_at_call 15; with_reducible refine (LM.out _).mono ?_; rintro e w4 ⟨rfl, hB4⟩; have HB4 := hideL (HB3.out.trans (hB4.mono HB3.out.size)); have e0 := (HX3.out.next hB4).c0; have e1 := (HX3.out.next hB4).c1; have f0 := (HY3.out.next hB4).c0; have f1 := (HY3.out.next hB4).c1)
      | (go_at_call 11; first
        | (with_reducible refine (LA.out _).mono ?_; rintro e w2 ⟨rfl, hB2⟩; have HB2 := hideL (HB0.out.trans (hB2.mono HB0.out.size)); have HX2 := hideL (HX0.out.next hB2); have HY2 := hideL (HY0.out.next hB2); have a0 := HX2.out.c0; have a1 := HX2.out.c1; have b0 := HY2.out.c0; have b1 := HY2.out.c1)
        | (with_reducible refine (LB.out _).mono ?_; rintro e w3 ⟨rfl, hB3⟩; have HB3 := hideL (HB2.out.trans (hB3.mono HB2.out.size)); have HX3 := hideL (HX2.out.next hB3); have HY3 := hideL (HY2.out.next hB3); have c0 := HX3.out.c0; have c1 := HX3.out.c1; have d0 := HY3.out.c0; have d1 := HY3.out.c1; have c2 := HX3.out.drew.c0; have c3 := HX3.out.drew.c1; have d2 := HY3.out.drew.c0; have d3 := HY3.out.drew.c1)))
    go_ret
    exact ⟨rfl, HB2.out⟩
  rw [if_pos rfl]
  cases mb
  · rw [if_neg (by decide)]
    go_enter Try.func23, Try.ntmps23
    go_wp2_with (first
      | (go_region)
      | (go_at_call 15; with_reducible refine (LM.out _).mono ?_; rintro e w4 ⟨rfl, hB4⟩; have HB4 := hideL (HB3.out.trans (hB4.mono HB3.out.size)); have e0 := (HX3.out.next hB4).c0; have e1 := (HX3.out.next hB4).c1; have f0 := (HY3.out.next hB4).c0; have f1 := (HY3.out.next hB4).c1)
      | (go_at_call 11; first
        | (with_reducible refine (LA.out _).mono ?_; rintro e w2 ⟨rfl, hB2⟩; have HB2 := hideL (HB0.out.trans (hB2.mono HB0.out.size)); have HX2 := hideL (HX0.out.next hB2); have HY2 := hideL (HY0.out.next hB2); have a0 := HX2.out.c0; have a1 := HX2.out.c1; have b0 := HY2.out.c0; have b1 := HY2.out.c1)
        | (with_reducible refine (LB.out _).mono ?_; rintro e w3 ⟨rfl, hB3⟩; have HB3 := hideL (HB2.out.trans (hB3.mono HB2.out.size)); have HX3 := hideL (HX2.out.next hB3); have HY3 := hideL (HY2.out.next hB3); have c0 := HX3.out.c0; have c1 := HX3.out.c1; have d0 := HY3.out.c0; have d1 := HY3.out.c1; have c2 := HX3.out.drew.c0; have c3 := HX3.out.drew.c1; have d2 := HY3.out.drew.c0; have d3 := HY3.out.drew.c1)))
    go_ret
    exact ⟨rfl, HB3.out⟩
  rw [if_pos rfl]
  by_cases k1 : ka = 1
  · subst k1
    rw [if_pos (.inl rfl)]
    by_cases k4 : kb = 4
    · subst k4
      rw [decide_eq_true rfl, Bool.or_true]
      cases mm
      · go_enter Try.func23, Try.ntmps23
        go_wp2_with (first
          | (go_region)
          | (go_at_call 15; with_reducible refine (LM.out _).mono ?_; rintro e w4 ⟨rfl, hB4⟩; have HB4 := hideL (HB3.out.trans (hB4.mono HB3.out.size)); have e0 := (HX3.out.next hB4).c0; have e1 := (HX3.out.next hB4).c1; have f0 := (HY3.out.next hB4).c0; have f1 := (HY3.out.next hB4).c1)
          | (go_at_call 11; first
            | (with_reducible refine (LA.out _).mono ?_; rintro e w2 ⟨rfl, hB2⟩; have HB2 := hideL (HB0.out.trans (hB2.mono HB0.out.size)); have HX2 := hideL (HX0.out.next hB2); have HY2 := hideL (HY0.out.next hB2); have a0 := HX2.out.c0; have a1 := HX2.out.c1; have b0 := HY2.out.c0; have b1 := HY2.out.c1)
            | (with_reducible refine (LB.out _).mono ?_; rintro e w3 ⟨rfl, hB3⟩; have HB3 := hideL (HB2.out.trans (hB3.mono HB2.out.size)); have HX3 := hideL (HX2.out.next hB3); have HY3 := hideL (HY2.out.next hB3); have c0 := HX3.out.c0; have c1 := HX3.out.c1; have d0 := HY3.out.c0; have d1 := HY3.out.c1; have c2 := HX3.out.drew.c0; have c3 := HX3.out.drew.c1; have d2 := HY3.out.drew.c0; have d3 := HY3.out.drew.c1)))
        go_ret
        exact ⟨rfl, HB4.out⟩
      · go_enter Try.func23, Try.ntmps23
        go_wp2_with (first
          | (go_region)
          | (go_at_call 15; with_reducible refine (LM.out _).mono ?_; rintro e w4 ⟨rfl, hB4⟩; have HB4 := hideL (HB3.out.trans (hB4.mono HB3.out.size)); have e0 := (HX3.out.next hB4).c0; have e1 := (HX3.out.next hB4).c1; have f0 := (HY3.out.next hB4).c0; have f1 := (HY3.out.next hB4).c1)
          | (go_at_call 11; first
            | (with_reducible refine (LA.out _).mono ?_; rintro e w2 ⟨rfl, hB2⟩; have HB2 := hideL (HB0.out.trans (hB2.mono HB0.out.size)); have HX2 := hideL (HX0.out.next hB2); have HY2 := hideL (HY0.out.next hB2); have a0 := HX2.out.c0; have a1 := HX2.out.c1; have b0 := HY2.out.c0; have b1 := HY2.out.c1)
            | (with_reducible refine (LB.out _).mono ?_; rintro e w3 ⟨rfl, hB3⟩; have HB3 := hideL (HB2.out.trans (hB3.mono HB2.out.size)); have HX3 := hideL (HX2.out.next hB3); have HY3 := hideL (HY2.out.next hB3); have c0 := HX3.out.c0; have c1 := HX3.out.c1; have d0 := HY3.out.c0; have d1 := HY3.out.c1; have c2 := HX3.out.drew.c0; have c3 := HX3.out.drew.c1; have d2 := HY3.out.drew.c0; have d3 := HY3.out.drew.c1)))
        go_ret
        exact ⟨rfl, HB4.out⟩
    · have k4' : (kb == 4) = false := beq_eq_false_iff_ne.2 k4
      rw [decide_eq_false k4, Bool.or_false]
      clear k4
      cases mm
      · go_enter Try.func23, Try.ntmps23
        go_wp2_with (first
          | (go_region)
          | (go_at_call 15; with_reducible refine (LM.out _).mono ?_; rintro e w4 ⟨rfl, hB4⟩; have HB4 := hideL (HB3.out.trans (hB4.mono HB3.out.size)); have e0 := (HX3.out.next hB4).c0; have e1 := (HX3.out.next hB4).c1; have f0 := (HY3.out.next hB4).c0; have f1 := (HY3.out.next hB4).c1)
          | (go_at_call 11; first
            | (with_reducible refine (LA.out _).mono ?_; rintro e w2 ⟨rfl, hB2⟩; have HB2 := hideL (HB0.out.trans (hB2.mono HB0.out.size)); have HX2 := hideL (HX0.out.next hB2); have HY2 := hideL (HY0.out.next hB2); have a0 := HX2.out.c0; have a1 := HX2.out.c1; have b0 := HY2.out.c0; have b1 := HY2.out.c1)
            | (with_reducible refine (LB.out _).mono ?_; rintro e w3 ⟨rfl, hB3⟩; have HB3 := hideL (HB2.out.trans (hB3.mono HB2.out.size)); have HX3 := hideL (HX2.out.next hB3); have HY3 := hideL (HY2.out.next hB3); have c0 := HX3.out.c0; have c1 := HX3.out.c1; have d0 := HY3.out.c0; have d1 := HY3.out.c1; have c2 := HX3.out.drew.c0; have c3 := HX3.out.drew.c1; have d2 := HY3.out.drew.c0; have d3 := HY3.out.drew.c1)))
        go_ret
        exact ⟨rfl, HB4.out⟩
      · go_enter Try.func23, Try.ntmps23
        go_wp2_with (first
          | (go_region)
          | (go_at_call 15; with_reducible refine (LM.out _).mono ?_; rintro e w4 ⟨rfl, hB4⟩; have HB4 := hideL (HB3.out.trans (hB4.mono HB3.out.size)); have e0 := (HX3.out.next hB4).c0; have e1 := (HX3.out.next hB4).c1; have f0 := (HY3.out.next hB4).c0; have f1 := (HY3.out.next hB4).c1)
          | (go_at_call 11; first
            | (with_reducible refine (LA.out _).mono ?_; rintro e w2 ⟨rfl, hB2⟩; have HB2 := hideL (HB0.out.trans (hB2.mono HB0.out.size)); have HX2 := hideL (HX0.out.next hB2); have HY2 := hideL (HY0.out.next hB2); have a0 := HX2.out.c0; have a1 := HX2.out.c1; have b0 := HY2.out.c0; have b1 := HY2.out.c1)
            | (with_reducible refine (LB.out _).mono ?_; rintro e w3 ⟨rfl, hB3⟩; have HB3 := hideL (HB2.out.trans (hB3.mono HB2.out.size)); have HX3 := hideL (HX2.out.next hB3); have HY3 := hideL (HY2.out.next hB3); have c0 := HX3.out.c0; have c1 := HX3.out.c1; have d0 := HY3.out.c0; have d1 := HY3.out.c1; have c2 := HX3.out.drew.c0; have c3 := HX3.out.drew.c1; have d2 := HY3.out.drew.c0; have d3 := HY3.out.drew.c1)))
        go_ret
        exact ⟨rfl, HB4.out⟩
  · have k1' : (ka == 1) = false := beq_eq_false_iff_ne.2 k1
    by_cases k4 : kb = 4
    · subst k4
      rw [if_pos (.inr rfl), decide_eq_true rfl, Bool.or_true]
      clear k1
      cases mm
      · go_enter Try.func23, Try.ntmps23
        go_wp2_with (first
          | (go_region)
          | (go_at_call 15; with_reducible refine (LM.out _).mono ?_; rintro e w4 ⟨rfl, hB4⟩; have HB4 := hideL (HB3.out.trans (hB4.mono HB3.out.size)); have e0 := (HX3.out.next hB4).c0; have e1 := (HX3.out.next hB4).c1; have f0 := (HY3.out.next hB4).c0; have f1 := (HY3.out.next hB4).c1)
          | (go_at_call 11; first
            | (with_reducible refine (LA.out _).mono ?_; rintro e w2 ⟨rfl, hB2⟩; have HB2 := hideL (HB0.out.trans (hB2.mono HB0.out.size)); have HX2 := hideL (HX0.out.next hB2); have HY2 := hideL (HY0.out.next hB2); have a0 := HX2.out.c0; have a1 := HX2.out.c1; have b0 := HY2.out.c0; have b1 := HY2.out.c1)
            | (with_reducible refine (LB.out _).mono ?_; rintro e w3 ⟨rfl, hB3⟩; have HB3 := hideL (HB2.out.trans (hB3.mono HB2.out.size)); have HX3 := hideL (HX2.out.next hB3); have HY3 := hideL (HY2.out.next hB3); have c0 := HX3.out.c0; have c1 := HX3.out.c1; have d0 := HY3.out.c0; have d1 := HY3.out.c1; have c2 := HX3.out.drew.c0; have c3 := HX3.out.drew.c1; have d2 := HY3.out.drew.c0; have d3 := HY3.out.drew.c1)))
        go_ret
        exact ⟨rfl, HB4.out⟩
      · go_enter Try.func23, Try.ntmps23
        go_wp2_with (first
          | (go_region)
          | (go_at_call 15; with_reducible refine (LM.out _).mono ?_; rintro e w4 ⟨rfl, hB4⟩; have HB4 := hideL (HB3.out.trans (hB4.mono HB3.out.size)); have e0 := (HX3.out.next hB4).c0; have e1 := (HX3.out.next hB4).c1; have f0 := (HY3.out.next hB4).c0; have f1 := (HY3.out.next hB4).c1)
          | (go_at_call 11; first
            | (with_reducible refine (LA.out _).mono ?_; rintro e w2 ⟨rfl, hB2⟩; have HB2 := hideL (HB0.out.trans (hB2.mono HB0.out.size)); have HX2 := hideL (HX0.out.next hB2); have HY2 := hideL (HY0.out.next hB2); have a0 := HX2.out.c0; have a1 := HX2.out.c1; have b0 := HY2.out.c0; have b1 := HY2.out.c1)
            | (with_reducible refine (LB.out _).mono ?_; rintro e w3 ⟨rfl, hB3⟩; have HB3 := hideL (HB2.out.trans (hB3.mono HB2.out.size)); have HX3 := hideL (HX2.out.next hB3); have HY3 := hideL (HY2.out.next hB3); have c0 := HX3.out.c0; have c1 := HX3.out.c1; have d0 := HY3.out.c0; have d1 := HY3.out.c1; have c2 := HX3.out.drew.c0; have c3 := HX3.out.drew.c1; have d2 := HY3.out.drew.c0; have d3 := HY3.out.drew.c1)))
        go_ret
        exact ⟨rfl, HB4.out⟩
    · have k4' : (kb == 4) = false := beq_eq_false_iff_ne.2 k4
      rw [if_neg (by omega)]
      clear k1 k4
      by_cases kk : ka = kb
      · subst kk
        rw [decide_eq_true rfl, Bool.true_and]
        go_enter Try.func23, Try.ntmps23
        go_wp2_with (first
          | (go_region)
          | (go_at_call 15; with_reducible refine (LM.out _).mono ?_; rintro e w4 ⟨rfl, hB4⟩; have HB4 := hideL (HB3.out.trans (hB4.mono HB3.out.size)); have e0 := (HX3.out.next hB4).c0; have e1 := (HX3.out.next hB4).c1; have f0 := (HY3.out.next hB4).c0; have f1 := (HY3.out.next hB4).c1)
          | (go_at_call 11; first
            | (with_reducible refine (LA.out _).mono ?_; rintro e w2 ⟨rfl, hB2⟩; have HB2 := hideL (HB0.out.trans (hB2.mono HB0.out.size)); have HX2 := hideL (HX0.out.next hB2); have HY2 := hideL (HY0.out.next hB2); have a0 := HX2.out.c0; have a1 := HX2.out.c1; have b0 := HY2.out.c0; have b1 := HY2.out.c1)
            | (with_reducible refine (LB.out _).mono ?_; rintro e w3 ⟨rfl, hB3⟩; have HB3 := hideL (HB2.out.trans (hB3.mono HB2.out.size)); have HX3 := hideL (HX2.out.next hB3); have HY3 := hideL (HY2.out.next hB3); have c0 := HX3.out.c0; have c1 := HX3.out.c1; have d0 := HY3.out.c0; have d1 := HY3.out.c1; have c2 := HX3.out.drew.c0; have c3 := HX3.out.drew.c1; have d2 := HY3.out.drew.c0; have d3 := HY3.out.drew.c1)))
        go_ret
        exact ⟨rfl, HB4.out⟩
      · have kk' : (ka == kb) = false := beq_eq_false_iff_ne.2 kk
        rw [decide_eq_false kk, Bool.false_and]
        clear kk
        go_enter Try.func23, Try.ntmps23
        go_wp2_with (first
          | (go_region)
          | (go_at_call 15; with_reducible refine (LM.out _).mono ?_; rintro e w4 ⟨rfl, hB4⟩; have HB4 := hideL (HB3.out.trans (hB4.mono HB3.out.size)); have e0 := (HX3.out.next hB4).c0; have e1 := (HX3.out.next hB4).c1; have f0 := (HY3.out.next hB4).c0; have f1 := (HY3.out.next hB4).c1)
          | (go_at_call 11; first
            | (with_reducible refine (LA.out _).mono ?_; rintro e w2 ⟨rfl, hB2⟩; have HB2 := hideL (HB0.out.trans (hB2.mono HB0.out.size)); have HX2 := hideL (HX0.out.next hB2); have HY2 := hideL (HY0.out.next hB2); have a0 := HX2.out.c0; have a1 := HX2.out.c1; have b0 := HY2.out.c0; have b1 := HY2.out.c1)
            | (with_reducible refine (LB.out _).mono ?_; rintro e w3 ⟨rfl, hB3⟩; have HB3 := hideL (HB2.out.trans (hB3.mono HB2.out.size)); have HX3 := hideL (HX2.out.next hB3); have HY3 := hideL (HY2.out.next hB3); have c0 := HX3.out.c0; have c1 := HX3.out.c1; have d0 := HY3.out.c0; have d1 := HY3.out.c1; have c2 := HX3.out.drew.c0; have c3 := HX3.out.drew.c1; have d2 := HY3.out.drew.c0; have d3 := HY3.out.drew.c1)))
        go_ret
        exact ⟨rfl, HB3.out⟩
end Go.Proofs.Ytffbmkocmjpmeaa
