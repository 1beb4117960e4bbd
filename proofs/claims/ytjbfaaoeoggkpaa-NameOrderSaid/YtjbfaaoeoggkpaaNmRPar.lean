/- The document's Parse. -/
import Derived.Test.YtjbfaaoeoggkpaaNmRef
namespace Go.Proofs.Ytjbfaaoeoggkpaa
open Go.RowKit Go.Lib

/-- The name whose text s is. -/
noncomputable def parN (s : ByteArray) : Option Nm := (parseS s.data.toList).map fun p => ⟨⟨p.1.toArray⟩, ⟨p.2.toArray⟩⟩
theorem parN_some {s : ByteArray} {n : Nm} (h : parseS s.data.toList = some (n.ns.data.toList, n.sa.data.toList)) : parN s = some n := by
  unfold parN
  rw [h]
  simp
theorem parN_none {s : ByteArray} (h : parseS s.data.toList = none) : parN s = none := by
  unfold parN
  rw [h]
  rfl
def parV (r : Option Nm) : Value := .tuple #[.agg #[.string (r.getD default).ns, .string (r.getD default).sa], .bool r.isSome]

theorem extract_list (s : ByteArray) (a b : Nat) : (s.extract a b).data.toList = (s.data.toList.drop a).take (b - a) := by
  rw [ByteArray.data_extract, Array.toList_extract, List.extract_eq_take_drop]
def atN (s : ByteArray) (a b : Nat) : Nm := ⟨s.extract a b, if b + 4 ≤ s.size then s.extract (b + 4) s.size else ⟨#[]⟩⟩
theorem atN_ns (s : ByteArray) (a b : Nat) : (atN s a b).ns.data.toList = nsAt s.data.toList a b := extract_list s a b
theorem atN_sa (s : ByteArray) (a b : Nat) : (atN s a b).sa.data.toList = saAt s.data.toList b := by
  unfold atN saAt
  rw [size_list]
  dsimp only
  split
  · rw [extract_list, List.take_of_length_le (by rw [List.length_drop, size_list]; omega)]
  · rfl
theorem hit_atN (s : ByteArray) (a b : Nat) : hitB s.data.toList a b = (mayN (atN s a b) && decide (textS (atN s a b).ns.data.toList (atN s a b).sa.data.toList = s.data.toList)) := by
  unfold hitB mayN
  rw [atN_ns, atN_sa]
theorem parN_hit {s : ByteArray} {a b : Nat} (h : hitB s.data.toList a b = true) : parN s = some (atN s a b) := by
  refine parN_some ?_
  rw [atN_ns, atN_sa]
  exact hit_some h

theorem NBox.frozen {W : World} {g : Nat} {s t : ByteArray} (h : NBox W g s t) (i : Nat) : W.frozen? ⟨g, i, none⟩ = false := frozen_of_row W g i _ _ h
theorem NBox.st {W : World} {g : Nat} {s t : ByteArray} (h : NBox W g s t) (x y : ByteArray) : NBox ((W.setCell ⟨g, 0, none⟩ (.string x)).setCell ⟨g, 1, none⟩ (.string y)) g x y := by
  have h1 := heap_setCell_same W g 0 _ _ (.string x) h
  exact heap_setCell_same _ g 1 _ _ (.string y) h1
theorem NBox.other {W : World} {g k o : Nat} {s t : ByteArray} {v : Value} (h : NBox W g s t) (hne : g ≠ k) : NBox (W.setCell ⟨k, o, none⟩ v) g s t := (heap_setCell_other W ⟨k, o, none⟩ g v hne).trans h

set_option maxRecDepth 100000 in
set_option maxHeartbeats 400000 in
theorem parseNR_any (s : ByteArray) (hs : s.size ≤ 9223372036854775807) (w : World) : Calls Try.prog 18 #[.string s] w (fun e w' => e = .returned (parV (parN s)) ∧ Below w.heap.size w w') := by
  have hsz := size_list s
  by_cases hlong : 100 < s.size
  · have h1 : (100 : Int) < s.size := by omega
    rw [parN_none (parse_len (by omega))]
    go_enter Try.func18, Try.ntmps18
    go_wp2_with fail
    have HXF := hideL (NBox.new w (⟨#[]⟩ : ByteArray) (⟨#[]⟩ : ByteArray))
    have HBF := hideL ((Below.refl w.heap.size w).alloc (Nat.le_refl _) (.cells #[.string (⟨#[]⟩ : ByteArray), .string (⟨#[]⟩ : ByteArray)] 23))
    generalize (w.alloc (.cells #[.string (⟨#[]⟩ : ByteArray), .string (⟨#[]⟩ : ByteArray)] 23)) = WF at *
    have r0 := HXF.out.c0
    have r1 := HXF.out.c1
    exact bodyPost_ret (v := parV none) (by simp [results, Try.results18, go_sem, r0, r1]; rfl) rfl ⟨rfl, HBF.out⟩
  have h1 : ¬ (100 : Int) < s.size := by omega
  have h1' : s.size ≤ 100 := by omega
  obtain ⟨V, hV⟩ : ∃ v, parN s = v := ⟨_, rfl⟩
  rw [hV]
  have HV := hideL hV
  clear hV
  have HX := hideL (NBox.new w ByteArray.empty ByteArray.empty)
  have HB := hideL ((Below.refl w.heap.size w).alloc (Nat.le_refl _) (.cells #[.string ByteArray.empty, .string ByteArray.empty] 23))
  go_enter Try.func18, Try.ntmps18
  go_wp2_with fail
  go_loopw [4] (fun i wr => ∃ a : Nat, a ≤ s.size + 1 ∧ i = .int .i64 a ∧ HidL (∀ i' k, i' < a → i' ≤ k → k ≤ s.size → hitB s.data.toList i' k = false) ∧ NBox wr w.heap.size ByteArray.empty ByteArray.empty ∧ Below w.heap.size w wr) (fun i _ => s.size + 1 - (intOf i).toNat)
  case atStart => exact ⟨0, by omega, rfl, ⟨fun _ _ h => absurd h (by omega)⟩, HX.out, HB.out⟩
  case round =>
    obtain ⟨a, ha, rfl, hall, hX, hB⟩ := hrel
    by_cases hlt : a ≤ s.size
    · have hlt' : (a : Int) ≤ s.size := by omega
      go_wp2_with fail
      go_loopw [5] (fun k W => ∃ b : Nat, a ≤ b ∧ b ≤ s.size + 1 ∧ k = .int .i64 b ∧ HidL (∀ k, a ≤ k → k < b → hitB s.data.toList a k = false) ∧ NBox W w.heap.size ByteArray.empty ByteArray.empty ∧ Below w.heap.size w W) (fun k _ => s.size + 1 - (intOf k).toNat)
      case atStart => exact ⟨a, Nat.le_refl _, ha, rfl, ⟨fun _ _ h => absurd h (by omega)⟩, hX, hB⟩
      case round =>
        clear hB hX
        obtain ⟨b, hab, hb, rfl, hone, hX, hB⟩ := hrel
        by_cases hltb : b ≤ s.size
        · have hltb' : (b : Int) ≤ s.size := by omega
          have hab' : (a : Int) ≤ b := by omega
          by_cases h4 : b + 4 ≤ s.size
          · have h4' : (b : Int) + 4 ≤ s.size := by omega
            have hat : atN s a b = ⟨s.extract a b, s.extract (b + 4) s.size⟩ := by unfold atN; rw [if_pos h4]
            have z1 : (s.extract a b).size ≤ 100 := by rw [ByteArray.size_extract]; omega
            have z2 : (s.extract (b + 4) s.size : ByteArray).size ≤ 100 := by rw [ByteArray.size_extract]; omega
            have hhit := hit_atN s a b
            rw [hat, ← prN_list] at hhit
            have LM := mayNR_any ⟨s.extract a b, s.extract (b + 4) s.size⟩ (Nat.le_trans z1 (by omega)) (Nat.le_trans z2 (by omega))
            have LP := printNR_any ⟨s.extract a b, s.extract (b + 4) s.size⟩ (Nat.le_trans z1 (by omega)) (Nat.le_trans z2 (by omega))
            have hpar := @parN_hit s a b
            rw [hat] at hpar
            have HNB := hideL (NBox.new wr (s.extract a b) (s.extract (b + 4) s.size))
            have HAB := hideL ((Below.refl wr.heap.size wr).alloc (Nat.le_refl _) (.cells #[.string (s.extract a b), .string (s.extract (b + 4) s.size)] 23))
            have hgx : w.heap.size ≤ wr.heap.size := hB.size
            generalize hmm : mayN ⟨s.extract a b, s.extract (b + 4) s.size⟩ = m at *
            generalize hpp : prN ⟨s.extract a b, s.extract (b + 4) s.size⟩ = pt at *
            have LM' := hideL LM
            have LP' := hideL LP
            have HPAR := hideL hpar
            have HHIT := hideL hhit
            clear LM LP hpar hhit hmm hpp hat z1 z2
            cases m with
            | false =>
              have hh : hitB s.data.toList a b = false := HHIT.out.trans rfl
              have HON := hideL (fun k (h1 : a ≤ k) (h2 : k < b + 1) => if hk : k < b then hone.out k h1 hk else (show k = b by omega) ▸ hh)
              clear hh
              go_wp2_with (go_at_call 12; with_reducible refine (LM'.out _).mono ?_; rintro e w2 ⟨rfl, hB2⟩)
              go_roundw
              case rel => exact ⟨b + 1, by omega, by omega, by go_num, HON, (hX.next HAB.out).next (hB2.mono (Nat.le_refl _)), hB.trans ((HAB.out.trans (hB2.mono HAB.out.size)).mono hgx)⟩
              case measure => simp [intOf]; omega
            | true =>
              by_cases hps : pt = s
              · have hv : V = some ⟨s.extract a b, s.extract (b + 4) s.size⟩ := HV.out.symm.trans (HPAR.out (HHIT.out.trans (by rw [hps]; simp)))
                subst hv
                have heq : (pt.toList == s.toList) = true := by rw [hps]; exact beq_self_eq_true _
                clear hps HX HB HV hall hone
                go_wp2_with (first
                  | (go_at_call 12; with_reducible refine (LM'.out _).mono ?_; rintro e w2 ⟨rfl, hB2⟩; have q0 := (HNB.out.next hB2).c0; have q1 := (HNB.out.next hB2).c1; have HX2 := hideL ((hX.next HAB.out).next hB2); have HN2 := hideL (HNB.out.next hB2); have HW2 := hideL (hB.trans ((HAB.out.trans (hB2.mono HAB.out.size)).mono hgx)))
                  | (go_at_call 16; with_reducible refine (LP'.out _).mono ?_; rintro e w3 ⟨rfl, hB3⟩; have p0 := (HN2.out.next hB3).c0; have p1 := (HN2.out.next hB3).c1; have HX3 := hideL (HX2.out.next hB3); have c0 := HX3.out.c0; have c1 := HX3.out.c1; have f0 := HX3.out.frozen 0; have f1 := HX3.out.frozen 1; have HW3 := hideL (HW2.out.trans (hB3.mono HW2.out.size))))
                have HXF := hideL (HX3.out.st (s.extract a b) (s.extract (b + 4) s.size))
                have HBF := hideL ((HW3.out.setCell (p := ⟨w.heap.size, 0, none⟩) (Nat.le_refl _) (.string (s.extract a b))).setCell (p := ⟨w.heap.size, 1, none⟩) (Nat.le_refl _) (.string (s.extract (b + 4) s.size)))
                clear c0 c1 f0 f1 p0 p1 q0 q1 hB2 hB3 HX2 HX3
                generalize (w3.setCell ⟨w.heap.size, 0, none⟩ (.string (s.extract a b))).setCell ⟨w.heap.size, 1, none⟩ (.string (s.extract (b + 4) s.size)) = WF at *
                have r0 := HXF.out.c0
                have r1 := HXF.out.c1
                exact bodyPost_ret (v := parV (some ⟨s.extract a b, s.extract (b + 4) s.size⟩)) (by simp [results, Try.results18, go_sem, r0, r1]; rfl) rfl ⟨rfl, HBF.out⟩
              · have hh : hitB s.data.toList a b = false := HHIT.out.trans (by rw [Bool.true_and]; exact decide_eq_false fun h => hps (bytes_ext h))
                have HON := hideL (fun k (h1 : a ≤ k) (h2 : k < b + 1) => if hk : k < b then hone.out k h1 hk else (show k = b by omega) ▸ hh)
                have heq : (pt.toList == s.toList) = false := beq_eq_false_iff_ne.2 fun h => hps (bytes_ext (by rw [ByteArray.toList_eq, ByteArray.toList_eq] at h; exact h))
                clear hps hh HX HB HV hone
                go_wp2_with (first
                  | (go_at_call 12; with_reducible refine (LM'.out _).mono ?_; rintro e w2 ⟨rfl, hB2⟩; have q0 := (HNB.out.next hB2).c0; have q1 := (HNB.out.next hB2).c1; have HX2 := hideL ((hX.next HAB.out).next hB2); have HW2 := hideL (hB.trans ((HAB.out.trans (hB2.mono HAB.out.size)).mono hgx)))
                  | (go_at_call 16; with_reducible refine (LP'.out _).mono ?_; rintro e w3 ⟨rfl, hB3⟩; have HX3 := hideL (HX2.out.next hB3); have HW3 := hideL (HW2.out.trans (hB3.mono HW2.out.size))))
                go_roundw
                case rel => exact ⟨b + 1, by omega, by omega, by go_num, HON, HX3.out, HW3.out⟩
                case measure => simp [intOf]; omega
          · have h4' : ¬ (b : Int) + 4 ≤ s.size := by omega
            have hat : atN s a b = ⟨s.extract a b, (⟨#[]⟩ : ByteArray)⟩ := by unfold atN; rw [if_neg h4]
            have z1 : (s.extract a b).size ≤ 100 := by rw [ByteArray.size_extract]; omega
            have z2 : ((⟨#[]⟩ : ByteArray) : ByteArray).size ≤ 100 := by show 0 ≤ 100; omega
            have hhit := hit_atN s a b
            rw [hat, ← prN_list] at hhit
            have LM := mayNR_any ⟨s.extract a b, (⟨#[]⟩ : ByteArray)⟩ (Nat.le_trans z1 (by omega)) (Nat.le_trans z2 (by omega))
            have LP := printNR_any ⟨s.extract a b, (⟨#[]⟩ : ByteArray)⟩ (Nat.le_trans z1 (by omega)) (Nat.le_trans z2 (by omega))
            have hpar := @parN_hit s a b
            rw [hat] at hpar
            have HNB := hideL (NBox.new wr (s.extract a b) ((⟨#[]⟩ : ByteArray)))
            have HAB := hideL ((Below.refl wr.heap.size wr).alloc (Nat.le_refl _) (.cells #[.string (s.extract a b), .string ((⟨#[]⟩ : ByteArray))] 23))
            have hgx : w.heap.size ≤ wr.heap.size := hB.size
            generalize hmm : mayN ⟨s.extract a b, (⟨#[]⟩ : ByteArray)⟩ = m at *
            generalize hpp : prN ⟨s.extract a b, (⟨#[]⟩ : ByteArray)⟩ = pt at *
            have LM' := hideL LM
            have LP' := hideL LP
            have HPAR := hideL hpar
            have HHIT := hideL hhit
            clear LM LP hpar hhit hmm hpp hat z1 z2
            cases m with
            | false =>
              have hh : hitB s.data.toList a b = false := HHIT.out.trans rfl
              have HON := hideL (fun k (h1 : a ≤ k) (h2 : k < b + 1) => if hk : k < b then hone.out k h1 hk else (show k = b by omega) ▸ hh)
              clear hh
              go_wp2_with (go_at_call 12; with_reducible refine (LM'.out _).mono ?_; rintro e w2 ⟨rfl, hB2⟩)
              go_roundw
              case rel => exact ⟨b + 1, by omega, by omega, by go_num, HON, (hX.next HAB.out).next (hB2.mono (Nat.le_refl _)), hB.trans ((HAB.out.trans (hB2.mono HAB.out.size)).mono hgx)⟩
              case measure => simp [intOf]; omega
            | true =>
              by_cases hps : pt = s
              · have hv : V = some ⟨s.extract a b, (⟨#[]⟩ : ByteArray)⟩ := HV.out.symm.trans (HPAR.out (HHIT.out.trans (by rw [hps]; simp)))
                subst hv
                have heq : (pt.toList == s.toList) = true := by rw [hps]; exact beq_self_eq_true _
                clear hps HX HB HV hall hone
                go_wp2_with (first
                  | (go_at_call 12; with_reducible refine (LM'.out _).mono ?_; rintro e w2 ⟨rfl, hB2⟩; have q0 := (HNB.out.next hB2).c0; have q1 := (HNB.out.next hB2).c1; have HX2 := hideL ((hX.next HAB.out).next hB2); have HN2 := hideL (HNB.out.next hB2); have HW2 := hideL (hB.trans ((HAB.out.trans (hB2.mono HAB.out.size)).mono hgx)))
                  | (go_at_call 16; with_reducible refine (LP'.out _).mono ?_; rintro e w3 ⟨rfl, hB3⟩; have p0 := (HN2.out.next hB3).c0; have p1 := (HN2.out.next hB3).c1; have HX3 := hideL (HX2.out.next hB3); have c0 := HX3.out.c0; have c1 := HX3.out.c1; have f0 := HX3.out.frozen 0; have f1 := HX3.out.frozen 1; have HW3 := hideL (HW2.out.trans (hB3.mono HW2.out.size))))
                have HXF := hideL (HX3.out.st (s.extract a b) ((⟨#[]⟩ : ByteArray)))
                have HBF := hideL ((HW3.out.setCell (p := ⟨w.heap.size, 0, none⟩) (Nat.le_refl _) (.string (s.extract a b))).setCell (p := ⟨w.heap.size, 1, none⟩) (Nat.le_refl _) (.string ((⟨#[]⟩ : ByteArray))))
                clear c0 c1 f0 f1 p0 p1 q0 q1 hB2 hB3 HX2 HX3
                generalize (w3.setCell ⟨w.heap.size, 0, none⟩ (.string (s.extract a b))).setCell ⟨w.heap.size, 1, none⟩ (.string ((⟨#[]⟩ : ByteArray))) = WF at *
                have r0 := HXF.out.c0
                have r1 := HXF.out.c1
                exact bodyPost_ret (v := parV (some ⟨s.extract a b, (⟨#[]⟩ : ByteArray)⟩)) (by simp [results, Try.results18, go_sem, r0, r1]; rfl) rfl ⟨rfl, HBF.out⟩
              · have hh : hitB s.data.toList a b = false := HHIT.out.trans (by rw [Bool.true_and]; exact decide_eq_false fun h => hps (bytes_ext h))
                have HON := hideL (fun k (h1 : a ≤ k) (h2 : k < b + 1) => if hk : k < b then hone.out k h1 hk else (show k = b by omega) ▸ hh)
                have heq : (pt.toList == s.toList) = false := beq_eq_false_iff_ne.2 fun h => hps (bytes_ext (by rw [ByteArray.toList_eq, ByteArray.toList_eq] at h; exact h))
                clear hps hh HX HB HV hone
                go_wp2_with (first
                  | (go_at_call 12; with_reducible refine (LM'.out _).mono ?_; rintro e w2 ⟨rfl, hB2⟩; have q0 := (HNB.out.next hB2).c0; have q1 := (HNB.out.next hB2).c1; have HX2 := hideL ((hX.next HAB.out).next hB2); have HW2 := hideL (hB.trans ((HAB.out.trans (hB2.mono HAB.out.size)).mono hgx)))
                  | (go_at_call 16; with_reducible refine (LP'.out _).mono ?_; rintro e w3 ⟨rfl, hB3⟩; have HX3 := hideL (HX2.out.next hB3); have HW3 := hideL (HW2.out.trans (hB3.mono HW2.out.size))))
                go_roundw
                case rel => exact ⟨b + 1, by omega, by omega, by go_num, HON, HX3.out, HW3.out⟩
                case measure => simp [intOf]; omega
        · obtain rfl : b = s.size + 1 := by omega
          have hltb' : ¬ ((s.size + 1 : Nat) : Int) ≤ s.size := by omega
          have HALL := hideL (fun i' k (h1 : i' < a + 1) (h2 : i' ≤ k) (h3 : k ≤ s.size) => if hk : i' < a then hall.out i' k hk h2 h3 else (show i' = a by omega) ▸ hone.out k (by omega) (by omega))
          go_wp2_with fail
          go_roundw
          case rel => exact ⟨a + 1, by omega, by go_num, HALL, hX, hB⟩
          case measure => simp [intOf]; omega
    · obtain rfl : a = s.size + 1 := by omega
      have hlt' : ¬ ((s.size + 1 : Nat) : Int) ≤ s.size := by omega
      have hn : parN s = none := parN_none (hit_none fun i k h1 h2 => hall.out i k (by omega) h1 (by omega))
      have hv : V = none := HV.out.symm.trans hn
      subst hv
      have d0 : wr.cell? ⟨w.heap.size, 0, none⟩ = some (.string ByteArray.empty) := hX.c0
      have d1 : wr.cell? ⟨w.heap.size, 1, none⟩ = some (.string ByteArray.empty) := hX.c1
      have f0 := hX.frozen 0
      have f1 := hX.frozen 1
      have HXF := hideL (hX.st ByteArray.empty ByteArray.empty)
      have HBF := hideL ((hB.setCell (p := ⟨w.heap.size, 0, none⟩) (Nat.le_refl _) (.string ByteArray.empty)).setCell (p := ⟨w.heap.size, 1, none⟩) (Nat.le_refl _) (.string ByteArray.empty))
      clear hX hB HX HB HV hall hn
      go_wp2_with fail
      change bodyPost _ _ _ _ _ ((wr.setCell ⟨w.heap.size, 0, none⟩ (.string ByteArray.empty)).setCell ⟨w.heap.size, 1, none⟩ (.string ByteArray.empty))
      clear d0 d1 f0 f1
      generalize (wr.setCell ⟨w.heap.size, 0, none⟩ (.string ByteArray.empty)).setCell ⟨w.heap.size, 1, none⟩ (.string ByteArray.empty) = WF at *
      have r0 := HXF.out.c0
      have r1 := HXF.out.c1
      exact bodyPost_ret (v := parV none) (by simp [results, Try.results18, go_sem, r0, r1]; rfl) rfl ⟨rfl, HBF.out⟩
end Go.Proofs.Ytjbfaaoeoggkpaa
