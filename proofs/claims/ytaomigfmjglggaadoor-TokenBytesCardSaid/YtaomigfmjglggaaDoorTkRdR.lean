/- The document's Read of a token, walked. -/
import Derived.Test.YtaomigfmjglggaaDoorTkRefM
namespace Go.Proofs.YtaomigfmjglggaaDoor
open Go.RowKit

theorem zero7 (w : World) : (zeroValue 70).run Tryd.prog w = .ok (.agg (cellsOf .u64 (List.replicate 7 0))) w := by kernel_rfl
theorem sz_u64 : (Tryd.prog.info? 23).map (·.size) = some 1 := by kernel_rfl
theorem sz_int : (Tryd.prog.info? 3).map (·.size) = some 1 := by kernel_rfl
theorem sz_u32 : (Tryd.prog.info? 28).map (·.size) = some 1 := by kernel_rfl
theorem sz_str : (Tryd.prog.info? 9).map (·.size) = some 1 := by kernel_rfl
/-- What the seven numbers are, when all were read. -/
theorem runR_form {bs : List Int} {p7 : List Int × Tk × List Int} (hf : Fine bs) (r7 : runR bs 7 = some p7) : ∃ (ns sa : ByteArray) (uid host addr born til key : Nat), p7.2.1 = ⟨ns, sa, 0, 0, addr, 0, 0, 0, List.replicate 32 0⟩ ∧ p7.2.2 = [(ns.size : Int), (sa.size : Int), (uid : Int), (host : Int), (born : Int), (til : Int), (key : Int)] ∧ ns.size ≤ 20 ∧ sa.size ≤ 20 ∧ uid < 18446744073709551616 ∧ host ≤ 9 ∧ addr < 4294967296 ∧ born < 18446744073709551616 ∧ til < 18446744073709551616 ∧ key < 18446744073709551616 ∧ Fine p7.1 := by
  obtain ⟨⟨q6, t6, l6⟩, r6, s6⟩ := runR_prev r7
  obtain ⟨⟨q5, t5, l5⟩, r5, s5⟩ := runR_prev r6
  obtain ⟨⟨q4, t4, l4⟩, r4, s4⟩ := runR_prev r5
  obtain ⟨⟨q3, t3, l3⟩, r3, s3⟩ := runR_prev r4
  obtain ⟨⟨q2, t2, l2⟩, r2, s2⟩ := runR_prev r3
  obtain ⟨⟨q1, t1, l1⟩, r1, s1⟩ := runR_prev r2
  obtain ⟨⟨q0, t0, l0⟩, r0, s0⟩ := runR_prev r1
  replace r0 : some (bs.drop 1, tk0, List.replicate 7 (0 : Int)) = some (q0, t0, l0) := r0
  injection r0 with r0
  injection r0 with e0 r0
  injection r0 with e1 e2
  subst e0 e1 e2
  obtain ⟨p7q, p7t, p7l⟩ := p7
  obtain ⟨ns, a1, b1, c1, f1, z1⟩ := step_of_text (by omega) (hf.drop 1) s0
  dsimp only at a1 b1 c1 f1
  obtain ⟨sa, a2, b2, c2, f2, z2⟩ := step_of_text (by omega) f1 s1
  dsimp only at a2 b2 c2 f2
  obtain ⟨uid, a3, b3, c3, f3, z3⟩ := step_of_num (by omega) (by omega) f2 s2
  dsimp only at a3 b3 c3 f3
  obtain ⟨host, addr, a4, b4, c4, f4, z4, y4⟩ := step_of_host f3 s3
  dsimp only at a4 b4 c4 f4
  obtain ⟨born, a5, b5, c5, f5, z5⟩ := step_of_num (by omega) (by omega) f4 s4
  dsimp only at a5 b5 c5 f5
  obtain ⟨til, a6, b6, c6, f6, z6⟩ := step_of_num (by omega) (by omega) f5 s5
  dsimp only at a6 b6 c6 f6
  obtain ⟨key, a7, b7, c7, f7, z7⟩ := step_of_num (by omega) (by omega) f6 s6
  dsimp only at a7 b7 c7 f7
  refine ⟨ns, sa, uid, host, addr, born, til, key, ?_, ?_, z1, z2, z3, z4, y4, z5, z6, z7, f7⟩
  · show p7t = _
    rw [b7, b6, b5, b4, b3, b2, b1]
    rfl
  · show p7l = _
    rw [c7, c6, c5, c4, c3, c2, c1]
    rfl
theorem mac_step (r : List Int) (h : r.length = 32) (j : Nat) (hj : j < 32) : (r.take j ++ List.replicate (32 - j) 0).set j (nth r j) = r.take (j + 1) ++ List.replicate (32 - (j + 1)) 0 := by
  have h1 : (r.take j).length = j := by rw [List.length_take]; omega
  rw [List.set_append_right _ _ (by omega), h1, Nat.sub_self, show 32 - j = (32 - (j + 1)) + 1 by omega, List.replicate_succ, List.set_cons_zero, List.take_succ_eq_append_getElem (by omega), List.append_assoc]
  simp [nth, List.getD, List.getElem?_eq_getElem (show j < r.length by omega)]
theorem tkC_mac (t : Tk) (j : Nat) (x : Int) : (tkC t).set (8 + j) (.int .u8 x) = tkC { t with mac := t.mac.set j x } := by
  rw [show 8 + j = j + 1 + 1 + 1 + 1 + 1 + 1 + 1 + 1 by omega]
  simp only [tkC, List.set_cons_succ, List.map_set]
/-- What the document's Read returns. -/
def RPost (w : World) (bs : List Int) (e : Ending) (w' : World) : Prop := e = .returned (.tuple #[.agg (tkA ((refS bs).getD tk0)), .bool (refS bs).isSome]) ∧ Below w.heap.size w w'
theorem rpost_none {w : World} {bs : List Int} (h : refS bs = none) {e : Ending} {w' : World} (he : e = .returned (.tuple #[.agg (tkA tk0), .bool false])) (hb : Below w.heap.size w w') : RPost w bs e w' := ⟨by rw [h]; exact he, hb⟩
theorem rpost_some {w : World} {bs : List Int} {t : Tk} (h : refS bs = some t) {e : Ending} {w' : World} (he : e = .returned (.tuple #[.agg (tkA t), .bool true])) (hb : Below w.heap.size w w') : RPost w bs e w' := ⟨by rw [h]; exact he, hb⟩

set_option maxRecDepth 100000 in
set_option maxHeartbeats 8000000 in
theorem refread_any (sv : Value) (bs : List Int) (w : World) (hs : SlAt w sv bs) (hf : Fine bs) : Calls Tryd.prog 27 #[sv] w (RPost w bs) := by
  obtain ⟨ao, cap, rfl⟩ := hs.len
  obtain ⟨q, hq⟩ : ∃ q, bs.length = q := ⟨_, rfl⟩
  have HQ := tuck hq
  rw [hq] at hs ⊢
  have HS := hide (fun (W : World) (h : Below w.heap.size w W) => hs.below h)
  have HF := hide hf
  have hql : q ≤ 140737488355328 := by rw [← hq]; exact hf.2
  have hqc : q ≤ cap := hs.le.1
  obtain ⟨W0, hW0⟩ : ∃ W0, W0 = (w.alloc (.cells (tkA tk0) 31)).alloc (.cells (tkA tk0) 31) := ⟨_, rfl⟩
  have e1 : (w.alloc (.cells (tkA tk0) 31)).heap.size = w.heap.size + 1 := by simp
  have HZ0 : Hid (TBox W0 w.heap.size tk0) := hide (by rw [hW0]; exact (TBox.new w tk0).alloc _)
  have HX0 : Hid (TBox W0 (w.heap.size + 1) tk0) := hide (by
    have h := TBox.new (w.alloc (.cells (tkA tk0) 31)) tk0
    rw [e1] at h
    rw [hW0]; exact h)
  have HB0 : Hid (Below w.heap.size w W0) := hide (by rw [hW0]; exact ((Below.refl _ _).alloc (Nat.le_refl _) _).alloc (by simp) _)
  have HS0 : Hid (W0.heap.size = w.heap.size + 2) := hide (by rw [hW0]; simp)
  have hal : Tryd.prog.arrayLen 70 = 7 := by kernel_rfl
  clear hs hf hq
  go_enter Tryd.func27, Tryd.ntmps27
  go_upto_region 2 with (with_reducible refine wpList_alloc_row rfl 31 rfl (tkA tk0) zeroTk ?_)
  rw [e1, ← hW0]
  clear hW0 e1
  by_cases hq0 : q < 1
  · have HRS := hide (refS_first (.inl (show bs.length < 1 by rw [HQ.out]; exact hq0)))
    have hi0 : (q : Int) < 1 := by omega
    have hi1 : decide ((q : Int) < 1) = true := by simpa using hi0
    go_wp2_with (first | (refine wpList_load_tk rfl (.tmp 4) rfl (w.heap.size + 1) rfl tk0 tk0_len HX0.out ?_) | (refine wpList_store_tk rfl (.tmp 2) (.tmp 21) rfl w.heap.size tk0 rfl rfl tk0 tk0_len tk0_len HZ0.out ?_))
    refine bodyPost_ret (results_tk2 rfl _ _ w.heap.size rfl _ rfl tk0 tk0_len HZ0.out.row) rfl (rpost_none HRS.out rfl (below_setRow HB0.out (Nat.le_refl _) _))
  have hi0 : ¬ (q : Int) < 1 := by omega
  have hi1 : decide ((q : Int) < 1) = false := by simpa using hi0
  have hi2 : decide (q < 1) = false := by simpa using hq0
  obtain ⟨ad, rfl, hsp, hc0⟩ := (HS.out W0 HB0.out).cellK (i := 0) (by omega)
  have HCEL := hide (fun (W : World) (hb : Below w.heap.size w W) (j : Nat) (hj : j < q) => (show W.cell? (ad.add j) = some (.int .u8 (nth bs j)) from by
    obtain ⟨ad', h1, _, h2⟩ := (HS.out W hb).cellK (i := j) hj
    injection h1 with h1
    rw [h1]; exact h2))
  have had0 := add_zero' ad hsp
  rw [had0] at hc0
  obtain ⟨x0, hx0⟩ : ∃ x0, nth bs 0 = x0 := ⟨_, rfl⟩
  rw [hx0] at hc0
  have HX0v := tuck hx0
  clear hx0
  by_cases hx1 : x0 = 1
  rotate_left
  · have HRS := hide (refS_first (bs := bs) (.inr (by rw [HX0v.out]; exact hx1)))
    have hj1 : decide (x0 = 1) = false := by simpa using hx1
    have hj2 : (x0 == 1) = false := by simpa using hx1
    go_wp2_with (first | (refine wpList_load_tk rfl (.tmp 4) rfl (w.heap.size + 1) rfl tk0 tk0_len HX0.out ?_) | (refine wpList_store_tk rfl (.tmp 2) (.tmp 21) rfl w.heap.size tk0 rfl rfl tk0 tk0_len tk0_len HZ0.out ?_))
    refine bodyPost_ret (results_tk2 rfl _ _ w.heap.size rfl _ rfl tk0 tk0_len HZ0.out.row) rfl (rpost_none HRS.out rfl (below_setRow HB0.out (Nat.le_refl _) _))
  subst hx1
  have HFST := hide (show ¬ (bs.length < 1 ∨ nth bs 0 ≠ 1) from fun h => h.elim (fun h => by rw [HQ.out] at h; omega) (fun h => h HX0v.out))
  go_upto_region 6 with (with_reducible refine wpList_alloc_row rfl 70 rfl (cellsOf .u64 (List.replicate 7 0)) zero7 ?_)
  rw [HS0.out]
  have HRR : Hid (RR w tk0 (List.replicate 7 0) (W0.alloc (.cells (cellsOf .u64 (List.replicate 7 0)) 70))) := hide ⟨HZ0.out.alloc _, HX0.out.alloc _, by have h := Blk.new W0 70 .u64 (List.replicate 7 0); rw [HS0.out] at h; exact h, HB0.out.alloc (by have := HS0.out; omega) _⟩
  generalize W0.alloc (.cells (cellsOf .u64 (List.replicate 7 0)) 70) = W1 at HRR ⊢
  clear HZ0 HX0 HB0 HS0 hc0 HX0v hi0 hi1 hi2
  go_wp2_with fail
  go_loopw [5, 7] (fun at_ i wr => ∃ (k a : Nat) (t : Tk) (l r : List Int), k ≤ 7 ∧ i = .int .i64 k ∧ at_ = .int .i64 a ∧ a ≤ q ∧ Hid (RR w t l wr) ∧ Tuck (runR bs k = some (r, t, l)) ∧ Tuck (bs.drop a = r) ∧ Tuck (l.length = 7) ∧ Tuck (t.mac = List.replicate 32 0)) (fun _ i _ => 7 - (intOf i).toNat)
  case atStart => exact ⟨0, 1, tk0, List.replicate 7 0, bs.drop 1, by omega, rfl, rfl, by omega, HRR, tuck rfl, tuck rfl, tuck rfl, tuck rfl⟩
  case round =>
    clear HRR
    obtain ⟨k, a, t, l, r, hk, rfl, rfl, ha, HRR, HRUN, HDR, HLL, HMZ⟩ := hrel
    have HTM := hide (show t.mac.length = 32 by rw [HMZ.out]; simp)
    have HRL := tuck (show r.length = q - a by rw [← HDR.out, List.length_drop, HQ.out])
    have HFR := hide (show Fine r by rw [← HDR.out]; exact HF.out.drop a)
    by_cases hk7 : k < 7
    · have hk7i : (k : Int) < 7 := by omega
      have hk7d : decide ((k : Int) < 7) = true := by simpa using hk7i
      have hcut := run_cut_l (P := Tryd.prog) Tryd.underlying22 size5 (some ad) q cap a ha wr
      have hsv := (HS.out wr HRR.out.b).cut (lo := a) (m := q - a) (by omega)
      rw [HDR.out, List.take_of_length_le (by rw [HRL.out]; exact Nat.le_refl _)] at hsv
      obtain ⟨SV, hSV⟩ : ∃ SV, sl (some ad) a (q - a) cap = SV := ⟨_, rfl⟩
      rw [hSV] at hcut hsv
      have HNB := hide (number_any SV r wr hsv HFR.out.1)
      clear hsv hSV
      cases hcu : cutUS r with
      | none =>
        have HRS := hide (refS_stop hk7 HRUN.out (step_cut hcu))
        rw [numS_none hcu] at HNB
        clear hcu
        go_wp2_with (first | (go_at_call 43; refine HNB.out.mono ?_; rintro e w2 ⟨rfl, rfl⟩; clear HNB hcut) | (refine wpList_build_tk0 rfl rfl ?_) | (refine wpList_store_tk rfl (.tmp 2) (.tmp 35) rfl w.heap.size tk0 rfl rfl tk0 tk0_len tk0_len HRR.out.z ?_))
        try simp only [Exit.inBlock, Exit.then]
        refine bodyPost_ret (results_tk2 rfl _ _ w.heap.size rfl _ rfl tk0 tk0_len HRR.out.z.row) rfl (rpost_none HRS.out rfl (below_setRow HRR.out.b (Nat.le_refl _) _))
      | some y =>
        obtain ⟨m, hnum, hm0, hml, hmd, hmr, hylt⟩ := numS_some HFR.out.1 hcu
        rw [hnum] at HNB
        obtain ⟨n, r1⟩ := y
        dsimp only at HNB hmd hmr hylt hnum
        obtain ⟨a2, ha2⟩ : ∃ a2, a + m = a2 := ⟨_, rfl⟩
        have hrl := HRL.out
        have hwa : IntKind.i64.wrap ((a : Int) + (m : Int)) = (a2 : Int) := by rw [IntWalk.i64_in _ (by omega)]; omega
        have HDR2 := tuck (show bs.drop a2 = r1 by rw [← ha2, ← List.drop_drop, HDR.out, hmd])
        have hle : a2 ≤ q := by omega
        have HR1L := tuck (show r1.length = q - a2 by omega)
        have hmz : decide ((m : Int) = 0) = false := by simpa using (show ¬ m = 0 by omega)
        have hmz2 : ((m : Int) == 0) = false := by simpa using (show ¬ m = 0 by omega)
        have hmz3 : decide (m = 0) = false := by simpa using (show ¬ m = 0 by omega)
        have HCU := tuck hcu
        have hnlt := hylt
        have hle64 : a2 < 9223372036854775808 := by omega
        clear hcu hnum hm0 hml hmd hmr ha2 hrl hylt
        by_cases hk2 : k < 2
        · have hki2 : (k : Int) < 2 := by omega
          have hki2d : decide ((k : Int) < 2) = true := by simpa using hki2
          have hki2e : decide (k < 2) = true := by simpa using hk2
          by_cases hn20 : 20 < n
          · have hni : (20 : Int) < (n : Int) := by omega
            have hnid : decide ((20 : Int) < (n : Int)) = true := by simpa using hni
            have hnie : decide (20 < n) = true := by simpa using hn20
            have HRS := hide (refS_stop hk7 HRUN.out (step_text_no hk2 HCU.out (.inl hn20)))
            clear hn20 hk2
            go_wp2_with (first | (go_at_call 43; refine HNB.out.mono ?_; rintro e w2 ⟨rfl, rfl⟩; clear HNB hcut) | (refine wpList_store_n rfl .u64 23 sz_u64 (.tmp 41) (.tmp 40) rfl (w.heap.size + 2) k rfl (n : Int) rfl (HRR.out.cellL HLL.out k hk7) (HRR.out.l.free k) (fun W => RR w t (l.set k (n : Int)) W) (HRR.out.setL k n) ?_; intro w3 hp; have HR3 := hide hp; clear hp HRR) | (refine wpList_build_tk0 rfl rfl ?_) | (refine wpList_store_tk rfl (.tmp 2) (.tmp 55) rfl w.heap.size tk0 rfl rfl tk0 tk0_len tk0_len HR3.out.z ?_))
            try simp only [Exit.inBlock, Exit.then]
            refine bodyPost_ret (results_tk2 rfl _ _ w.heap.size rfl _ rfl tk0 tk0_len HR3.out.z.row) rfl (rpost_none HRS.out rfl (below_setRow HR3.out.b (Nat.le_refl _) _))
          · have hni : ¬ (20 : Int) < (n : Int) := by omega
            have hnid : decide ((20 : Int) < (n : Int)) = false := by simpa using hni
            have hnie : decide (20 < n) = false := by simpa using hn20
            have hwn : IntKind.i64.wrap (n : Int) = (n : Int) := IntWalk.i64_in _ (by omega)
            obtain ⟨a3, ha3⟩ : ∃ a3, a2 + n = a3 := ⟨_, rfl⟩
            have hwb : IntKind.i64.wrap ((a2 : Int) + (n : Int)) = (a3 : Int) := by rw [IntWalk.i64_in _ (by omega)]; omega
            by_cases hq3 : q < a3
            · have hqi : (q : Int) < (a3 : Int) := by omega
              have hqid : decide ((q : Int) < (a3 : Int)) = true := by simpa using hqi
              have hqie : decide (q < a3) = true := by simpa using hq3
              have HRS := hide (refS_stop hk7 HRUN.out (step_text_no hk2 HCU.out (.inr (show r1.length < n by have := HR1L.out; omega))))
              clear hq3 hk2 hn20
              go_wp2_with (first | (go_at_call 43; refine HNB.out.mono ?_; rintro e w2 ⟨rfl, rfl⟩; clear HNB hcut) | (refine wpList_store_n rfl .u64 23 sz_u64 (.tmp 41) (.tmp 40) rfl (w.heap.size + 2) k rfl (n : Int) rfl (HRR.out.cellL HLL.out k hk7) (HRR.out.l.free k) (fun W => RR w t (l.set k (n : Int)) W) (HRR.out.setL k n) ?_; intro w3 hp; have HR3 := hide hp; clear hp HRR) | (refine wpList_build_tk0 rfl rfl ?_) | (refine wpList_store_tk rfl (.tmp 2) (.tmp 55) rfl w.heap.size tk0 rfl rfl tk0 tk0_len tk0_len HR3.out.z ?_))
              try simp only [Exit.inBlock, Exit.then]
              refine bodyPost_ret (results_tk2 rfl _ _ w.heap.size rfl _ rfl tk0 tk0_len HR3.out.z.row) rfl (rpost_none HRS.out rfl (below_setRow HR3.out.b (Nat.le_refl _) _))
            · have hqi : ¬ (q : Int) < (a3 : Int) := by omega
              have hqid : decide ((q : Int) < (a3 : Int)) = false := by simpa using hqi
              have hqie : decide (q < a3) = false := by simpa using hq3
              obtain ⟨SV2, hSV2⟩ : ∃ SV2, sl (some ad) a2 (a3 - a2) cap = SV2 := ⟨_, rfl⟩
              have HC2 := hide (fun W : World => (show _ from by have h := run_cut_lh2 (P := Tryd.prog) Tryd.underlying22 size5 (some ad) q cap a2 a3 (by omega) (by omega) W; rw [hSV2] at h; exact h))
              obtain ⟨S, hS⟩ : ∃ S, strOfNums (r1.take n) = S := ⟨_, rfl⟩
              have HSTR := hide (fun (W : World) (hb : Below w.heap.size w W) => (show (convert 22 9 SV2).run Tryd.prog W = .ok (.string S) W from by
                have h := ((HS.out W hb).cut (lo := a2) (m := a3 - a2) (by omega)).string (P := Tryd.prog) 22 5 9 Tryd.underlying22 Tryd.underlying5 Tryd.underlying9
                rw [hSV2, HDR2.out, show a3 - a2 = n by omega, hS] at h
                exact h))
              have hle3 : a3 ≤ q := by omega
              have HDR3 := tuck (show bs.drop a3 = r1.drop n by rw [← HDR2.out, List.drop_drop, ha3])
              clear hSV2
              by_cases hk0 : k = 0
              · have HNX := tuck (show runR bs (k + 1) = some (r1.drop n, { t with ns := S }, l.set k (n : Int)) from by
                  have h := runR_next HRUN.out (step_text_go hk2 HCU.out (fun h => h.elim hn20 (fun h => by have h1 := HR1L.out; dsimp only at h; omega)))
                  dsimp only at h
                  rw [if_pos hk0, hS] at h
                  exact h)
                have hk0d : decide ((k : Int) = 0) = true := by simpa using hk0
                have hk0b : ((k : Int) == 0) = true := by simpa using hk0
                have hk0c : decide (k = 0) = true := by simpa using hk0
                clear hk0 hk2 hn20 hq3 hS
                go_wp2_with (first | (go_at_call 43; refine HNB.out.mono ?_; rintro e w2 ⟨rfl, rfl⟩; clear HNB hcut) | (refine wpList_store_n rfl .u64 23 sz_u64 (.tmp 41) (.tmp 40) rfl (w.heap.size + 2) k rfl (n : Int) rfl (HRR.out.cellL HLL.out k hk7) (HRR.out.l.free k) (fun W => RR w t (l.set k (n : Int)) W) (HRR.out.setL k n) ?_; intro w3 hp; have HR3 := hide hp; have hcut2 := HC2.out w3; have hstr := HSTR.out w3 HR3.out.b; clear hp HRR) | (refine wpList_store_s rfl 9 sz_str (.tmp 72) (.tmp 70) rfl (w.heap.size + 1) 0 rfl S rfl (HR3.out.cellT HTM.out 0 (by omega)) (HR3.out.x.free 0) (fun W => RR w { t with ns := S } (l.set k (n : Int)) W) (HR3.out.setT 0 (.string S) rfl) ?_; intro w4 hp; have HR4 := hide hp; clear hp HR3))
                go_roundw
                case rel => exact ⟨k + 1, a3, { t with ns := S }, l.set k (n : Int), r1.drop n, by omega, by go_num, (by first | rfl | trivial), hle3, HR4, HNX, HDR3, tuck (by rw [List.length_set]; exact HLL.out), HMZ⟩
                case measure => simp [intOf]; omega
              · have HNX := tuck (show runR bs (k + 1) = some (r1.drop n, { t with sa := S }, l.set k (n : Int)) from by
                  have h := runR_next HRUN.out (step_text_go hk2 HCU.out (fun h => h.elim hn20 (fun h => by have h1 := HR1L.out; dsimp only at h; omega)))
                  dsimp only at h
                  rw [if_neg hk0, hS] at h
                  exact h)
                have hk0d : decide ((k : Int) = 0) = false := by simpa using hk0
                have hk0b : ((k : Int) == 0) = false := by simpa using hk0
                have hk0c : decide (k = 0) = false := by simpa using hk0
                clear hk0 hk2 hn20 hq3 hS
                go_wp2_with (first | (go_at_call 43; refine HNB.out.mono ?_; rintro e w2 ⟨rfl, rfl⟩; clear HNB hcut) | (refine wpList_store_n rfl .u64 23 sz_u64 (.tmp 41) (.tmp 40) rfl (w.heap.size + 2) k rfl (n : Int) rfl (HRR.out.cellL HLL.out k hk7) (HRR.out.l.free k) (fun W => RR w t (l.set k (n : Int)) W) (HRR.out.setL k n) ?_; intro w3 hp; have HR3 := hide hp; have hcut2 := HC2.out w3; have hstr := HSTR.out w3 HR3.out.b; clear hp HRR) | (refine wpList_store_s rfl 9 sz_str (.tmp 75) (.tmp 73) rfl (w.heap.size + 1) 1 rfl S rfl (HR3.out.cellT HTM.out 1 (by omega)) (HR3.out.x.free 1) (fun W => RR w { t with sa := S } (l.set k (n : Int)) W) (HR3.out.setT 1 (.string S) rfl) ?_; intro w4 hp; have HR4 := hide hp; clear hp HR3))
                go_roundw
                case rel => exact ⟨k + 1, a3, { t with sa := S }, l.set k (n : Int), r1.drop n, by omega, by go_num, (by first | rfl | trivial), hle3, HR4, HNX, HDR3, tuck (by rw [List.length_set]; exact HLL.out), HMZ⟩
                case measure => simp [intOf]; omega
        · have hki2 : ¬ (k : Int) < 2 := by omega
          have hki2d : decide ((k : Int) < 2) = false := by simpa using hki2
          have hki2e : decide (k < 2) = false := by simpa using hk2
          by_cases hk3 : k = 3
          · have hk3d : decide ((k : Int) = 3) = true := by simpa using (show (k : Int) = 3 by omega)
            have hk3b : ((k : Int) == 3) = true := by simpa using (show (k : Int) = 3 by omega)
            have hk3c : decide (k = 3) = true := by simpa using hk3
            by_cases hq3 : q < a2 + 4
            · have HRS := hide (refS_stop hk7 HRUN.out (by subst hk3; exact step_host_no HCU.out (.inl (show r1.length < 4 by have := HR1L.out; omega))))
              obtain ⟨a6, ha6⟩ : ∃ a6, a2 + 4 = a6 := ⟨_, rfl⟩
              have hw4 : IntKind.i64.wrap ((a2 : Int) + 4) = (a6 : Int) := by rw [IntWalk.i64_in _ (by omega)]; omega
              have hqi : (q : Int) < (a6 : Int) := by omega
              have hqid : decide ((q : Int) < (a6 : Int)) = true := by simpa using hqi
              have hqie : decide (q < a6) = true := by rw [← ha6]; simpa using hq3
              clear hq3 hk2 hk3 ha6
              go_wp2_with (first | (go_at_call 43; refine HNB.out.mono ?_; rintro e w2 ⟨rfl, rfl⟩; clear HNB hcut) | (refine wpList_store_n rfl .u64 23 sz_u64 (.tmp 41) (.tmp 40) rfl (w.heap.size + 2) k rfl (n : Int) rfl (HRR.out.cellL HLL.out k hk7) (HRR.out.l.free k) (fun W => RR w t (l.set k (n : Int)) W) (HRR.out.setL k n) ?_; intro w3 hp; have HR3 := hide hp; clear hp HRR) | (refine wpList_build_tk0 rfl rfl ?_) | (refine wpList_store_tk rfl (.tmp 2) (.tmp 87) rfl w.heap.size tk0 rfl rfl tk0 tk0_len tk0_len HR3.out.z ?_))
              try simp only [Exit.inBlock, Exit.then]
              refine bodyPost_ret (results_tk2 rfl _ _ w.heap.size rfl _ rfl tk0 tk0_len HR3.out.z.row) rfl (rpost_none HRS.out rfl (below_setRow HR3.out.b (Nat.le_refl _) _))
            · obtain ⟨a6, ha6⟩ : ∃ a6, a2 + 4 = a6 := ⟨_, rfl⟩
              have hw4 : IntKind.i64.wrap ((a2 : Int) + 4) = (a6 : Int) := by rw [IntWalk.i64_in _ (by omega)]; omega
              have hqi : ¬ (q : Int) < (a6 : Int) := by omega
              have hqid : decide ((q : Int) < (a6 : Int)) = false := by simpa using hqi
              have hqie : decide (q < a6) = false := by rw [← ha6]; simpa using hq3
              by_cases hn9 : 9 < n
              · have HRS := hide (refS_stop hk7 HRUN.out (by subst hk3; exact step_host_no HCU.out (.inr hn9)))
                have hni : (9 : Int) < (n : Int) := by omega
                have hnid : decide ((9 : Int) < (n : Int)) = true := by simpa using hni
                have hnie : decide (9 < n) = true := by simpa using hn9
                clear hq3 hk2 hk3 ha6 hn9
                go_wp2_with (first | (go_at_call 43; refine HNB.out.mono ?_; rintro e w2 ⟨rfl, rfl⟩; clear HNB hcut) | (refine wpList_store_n rfl .u64 23 sz_u64 (.tmp 41) (.tmp 40) rfl (w.heap.size + 2) k rfl (n : Int) rfl (HRR.out.cellL HLL.out k hk7) (HRR.out.l.free k) (fun W => RR w t (l.set k (n : Int)) W) (HRR.out.setL k n) ?_; intro w3 hp; have HR3 := hide hp; clear hp HRR) | (refine wpList_build_tk0 rfl rfl ?_) | (refine wpList_store_tk rfl (.tmp 2) (.tmp 87) rfl w.heap.size tk0 rfl rfl tk0 tk0_len tk0_len HR3.out.z ?_))
                try simp only [Exit.inBlock, Exit.then]
                refine bodyPost_ret (results_tk2 rfl _ _ w.heap.size rfl _ rfl tk0 tk0_len HR3.out.z.row) rfl (rpost_none HRS.out rfl (below_setRow HR3.out.b (Nat.le_refl _) _))
              · have hni : ¬ (9 : Int) < (n : Int) := by omega
                have hnid : decide ((9 : Int) < (n : Int)) = false := by simpa using hni
                have hnie : decide (9 < n) = false := by simpa using hn9
                have hle6 : a6 ≤ q := by omega
                obtain ⟨b0, q0, z0⟩ : ∃ b0 : Nat, nth bs a2 = b0 ∧ b0 < 256 := ⟨(nth bs a2).toNat, by have := nth_range HF.out.1 a2; omega, by have := nth_range HF.out.1 a2; omega⟩
                obtain ⟨b1, q1, z1⟩ : ∃ b1 : Nat, nth bs (a2 + 1) = b1 ∧ b1 < 256 := ⟨(nth bs (a2 + 1)).toNat, by have := nth_range HF.out.1 (a2 + 1); omega, by have := nth_range HF.out.1 (a2 + 1); omega⟩
                obtain ⟨b2, q2, z2⟩ : ∃ b2 : Nat, nth bs (a2 + 2) = b2 ∧ b2 < 256 := ⟨(nth bs (a2 + 2)).toNat, by have := nth_range HF.out.1 (a2 + 2); omega, by have := nth_range HF.out.1 (a2 + 2); omega⟩
                obtain ⟨b3, q3, z3⟩ : ∃ b3 : Nat, nth bs (a2 + 3) = b3 ∧ b3 < 256 := ⟨(nth bs (a2 + 3)).toNat, by have := nth_range HF.out.1 (a2 + 3); omega, by have := nth_range HF.out.1 (a2 + 3); omega⟩
                obtain ⟨c1, hc1⟩ : ∃ c1, a2 + 1 = c1 := ⟨_, rfl⟩
                obtain ⟨c2, hc2⟩ : ∃ c2, a2 + 2 = c2 := ⟨_, rfl⟩
                obtain ⟨c3, hc3⟩ : ∃ c3, a2 + 3 = c3 := ⟨_, rfl⟩
                have HUV := u32V_drop bs a2 b0 b1 b2 b3 q0 q1 q2 q3
                rw [HDR2.out] at HUV
                rw [hc1] at q1
                rw [hc2] at q2
                rw [hc3] at q3
                have hv1 : IntKind.i64.wrap ((a2 : Int) + 1) = (c1 : Int) := by rw [IntWalk.i64_in _ (by omega)]; omega
                have hv2 : IntKind.i64.wrap ((a2 : Int) + 2) = (c2 : Int) := by rw [IntWalk.i64_in _ (by omega)]; omega
                have hv3 : IntKind.i64.wrap ((a2 : Int) + 3) = (c3 : Int) := by rw [IntWalk.i64_in _ (by omega)]; omega
                have hu0 : (a2 : Int) < (q : Int) := by omega
                have hu1 : (c1 : Int) < (q : Int) := by omega
                have hu2 : (c2 : Int) < (q : Int) := by omega
                have hu3 : (c3 : Int) < (q : Int) := by omega
                have HB0 := hide (fun (W : World) (hb : Below w.heap.size w W) => (show W.cell? (ad.add a2) = some (.int .u8 (b0 : Int)) from by rw [HCEL.out W hb a2 (by omega), q0]))
                have HB1 := hide (fun (W : World) (hb : Below w.heap.size w W) => (show W.cell? (ad.add c1) = some (.int .u8 (b1 : Int)) from by rw [HCEL.out W hb c1 (by omega), q1]))
                have HB2 := hide (fun (W : World) (hb : Below w.heap.size w W) => (show W.cell? (ad.add c2) = some (.int .u8 (b2 : Int)) from by rw [HCEL.out W hb c2 (by omega), q2]))
                have HB3 := hide (fun (W : World) (hb : Below w.heap.size w W) => (show W.cell? (ad.add c3) = some (.int .u8 (b3 : Int)) from by rw [HCEL.out W hb c3 (by omega), q3]))
                obtain ⟨A4, hA4⟩ : ∃ A4, b0 + b1 * 256 + b2 * 65536 + b3 * 16777216 = A4 := ⟨_, rfl⟩
                have HV := hide (le4 b0 b1 b2 b3 z0 z1 z2 z3)
                rw [hA4] at HV HUV
                have HNX := tuck (show runR bs (k + 1) = some (r1.drop 4, { t with addr := A4 }, l.set k (n : Int)) from by
                  have h := runR_next HRUN.out (show stepR k (r, t, l) = _ from by subst hk3; exact step_host_go HCU.out (fun h => h.elim (fun h => by have h1 := HR1L.out; dsimp only at h; omega) hn9))
                  dsimp only at h
                  rw [HUV] at h
                  subst hk3
                  exact h)
                have HDR3 := tuck (show bs.drop a6 = r1.drop 4 by rw [← HDR2.out, List.drop_drop, ha6])
                clear hq3 hk2 hk3 ha6 hn9 q0 q1 q2 q3 z0 z1 z2 z3 hc1 hc2 hc3 HUV hA4
                go_upto_region 25 with (first | (go_at_call 43; refine HNB.out.mono ?_; rintro e w2 ⟨rfl, rfl⟩; clear HNB hcut) | (refine wpList_store_n rfl .u64 23 sz_u64 (.tmp 41) (.tmp 40) rfl (w.heap.size + 2) k rfl (n : Int) rfl (HRR.out.cellL HLL.out k hk7) (HRR.out.l.free k) (fun W => RR w t (l.set k (n : Int)) W) (HRR.out.setL k n) ?_; intro w3 hp; have HR3 := hide hp; clear hp HRR))
                have HR3d := hide (HR3.out.next ((Below.refl _ _).drew))
                refine wp_region_held_drew (S := fun W => Below w.heap.size w W) (by kernel_rfl) (HR3.out.b.drew) (fun hHeld => ?_)
                refine wpAnyH_take (i := 0) (oi := { dst := some 88, op := Op.move (Operand.tmp 0), type := 22, pos := "ref.go:125", after := #[], guard := none }) (v := ?_) rfl (by kernel_rfl) (by kernel_rfl) (by kernel_rfl) (fun _ _ _ h => h) (Or.inl ⟨by rfl, ?_⟩) hHeld ?_
                rotate_left
                · intro w hSw; (try dsimp only at hSw); go_simp; first | done | with_reducible rfl
                try simp only [Act.put, List.setIfInBounds_toArray, List.set_cons_zero, List.set_cons_succ]
                refine wpAnyH_take (i := 1) (oi := { dst := some 89, op := Op.move (Operand.tmp 5), type := 3, pos := "ref.go:125", after := #[], guard := none }) (v := ?_) rfl (by kernel_rfl) (by kernel_rfl) (by kernel_rfl) (fun _ _ _ h => h) (Or.inl ⟨by rfl, ?_⟩) hHeld ?_
                rotate_left
                · intro w hSw; (try dsimp only at hSw); go_simp; first | done | with_reducible rfl
                try simp only [Act.put, List.setIfInBounds_toArray, List.set_cons_zero, List.set_cons_succ]
                refine wpAnyH_take (i := 2) (oi := { dst := some 90, op := Op.indexAddr 22 (Operand.tmp 88) (Operand.tmp 89), type := 0, pos := "ref.go:125", after := #[{ on := 0, ground := Ground.data }, { on := 1, ground := Ground.data }], guard := none }) (v := ?_) rfl (by kernel_rfl) (by kernel_rfl) (by kernel_rfl) (fun _ _ _ h => h) (Or.inl ⟨by rfl, ?_⟩) hHeld ?_
                rotate_left
                · intro w hSw; (try dsimp only at hSw); go_simp; first | done | with_reducible rfl
                try simp only [Act.put, List.setIfInBounds_toArray, List.set_cons_zero, List.set_cons_succ]
                refine wpAnyH_take (i := 3) (oi := { dst := some 91, op := Op.load 5 (Operand.tmp 90), type := 5, pos := "ref.go:125", after := #[{ on := 2, ground := Ground.data }], guard := none }) (v := ?_) rfl (by kernel_rfl) (by kernel_rfl) (by kernel_rfl) (fun _ _ _ h => h) (Or.inl ⟨by rfl, ?_⟩) hHeld ?_
                rotate_left
                · intro w hSw; (try dsimp only at hSw); have e := HB0.out _ hSw; go_simp; first | done | with_reducible rfl
                try simp only [Act.put, List.setIfInBounds_toArray, List.set_cons_zero, List.set_cons_succ]
                refine wpAnyH_take (i := 4) (oi := { dst := some 92, op := Op.convert 5 28 (Operand.tmp 91), type := 28, pos := "ref.go:125", after := #[{ on := 3, ground := Ground.data }], guard := none }) (v := ?_) rfl (by kernel_rfl) (by kernel_rfl) (by kernel_rfl) (fun _ _ _ h => h) (Or.inl ⟨by rfl, ?_⟩) hHeld ?_
                rotate_left
                · intro w hSw; (try dsimp only at hSw); go_simp; first | done | with_reducible rfl
                try simp only [Act.put, List.setIfInBounds_toArray, List.set_cons_zero, List.set_cons_succ]
                refine wpAnyH_take (i := 5) (oi := { dst := some 93, op := Op.move (Operand.tmp 0), type := 22, pos := "ref.go:125", after := #[], guard := none }) (v := ?_) rfl (by kernel_rfl) (by kernel_rfl) (by kernel_rfl) (fun _ _ _ h => h) (Or.inl ⟨by rfl, ?_⟩) hHeld ?_
                rotate_left
                · intro w hSw; (try dsimp only at hSw); go_simp; first | done | with_reducible rfl
                try simp only [Act.put, List.setIfInBounds_toArray, List.set_cons_zero, List.set_cons_succ]
                refine wpAnyH_take (i := 6) (oi := { dst := some 94, op := Op.move (Operand.tmp 5), type := 3, pos := "ref.go:125", after := #[], guard := none }) (v := ?_) rfl (by kernel_rfl) (by kernel_rfl) (by kernel_rfl) (fun _ _ _ h => h) (Or.inl ⟨by rfl, ?_⟩) hHeld ?_
                rotate_left
                · intro w hSw; (try dsimp only at hSw); go_simp; first | done | with_reducible rfl
                try simp only [Act.put, List.setIfInBounds_toArray, List.set_cons_zero, List.set_cons_succ]
                refine wpAnyH_take (i := 7) (oi := { dst := some 95, op := Op.binOp BinOp.add 3 (Operand.tmp 94) (Operand.const (Value.int IntKind.i64 1)) 3, type := 3, pos := "ref.go:125", after := #[{ on := 6, ground := Ground.data }], guard := none }) (v := ?_) rfl (by kernel_rfl) (by kernel_rfl) (by kernel_rfl) (fun _ _ _ h => h) (Or.inl ⟨by rfl, ?_⟩) hHeld ?_
                rotate_left
                · intro w hSw; (try dsimp only at hSw); go_simp; first | done | with_reducible rfl
                try simp only [Act.put, List.setIfInBounds_toArray, List.set_cons_zero, List.set_cons_succ]
                refine wpAnyH_take (i := 8) (oi := { dst := some 96, op := Op.indexAddr 22 (Operand.tmp 93) (Operand.tmp 95), type := 0, pos := "ref.go:125", after := #[{ on := 5, ground := Ground.data }, { on := 7, ground := Ground.data }], guard := none }) (v := ?_) rfl (by kernel_rfl) (by kernel_rfl) (by kernel_rfl) (fun _ _ _ h => h) (Or.inl ⟨by rfl, ?_⟩) hHeld ?_
                rotate_left
                · intro w hSw; (try dsimp only at hSw); go_simp; first | done | with_reducible rfl
                try simp only [Act.put, List.setIfInBounds_toArray, List.set_cons_zero, List.set_cons_succ]
                refine wpAnyH_take (i := 9) (oi := { dst := some 97, op := Op.load 5 (Operand.tmp 96), type := 5, pos := "ref.go:125", after := #[{ on := 8, ground := Ground.data }], guard := none }) (v := ?_) rfl (by kernel_rfl) (by kernel_rfl) (by kernel_rfl) (fun _ _ _ h => h) (Or.inl ⟨by rfl, ?_⟩) hHeld ?_
                rotate_left
                · intro w hSw; (try dsimp only at hSw); have e := HB1.out _ hSw; go_simp; first | done | with_reducible rfl
                try simp only [Act.put, List.setIfInBounds_toArray, List.set_cons_zero, List.set_cons_succ]
                refine wpAnyH_take (i := 10) (oi := { dst := some 98, op := Op.convert 5 28 (Operand.tmp 97), type := 28, pos := "ref.go:125", after := #[{ on := 9, ground := Ground.data }], guard := none }) (v := ?_) rfl (by kernel_rfl) (by kernel_rfl) (by kernel_rfl) (fun _ _ _ h => h) (Or.inl ⟨by rfl, ?_⟩) hHeld ?_
                rotate_left
                · intro w hSw; (try dsimp only at hSw); go_simp; first | done | with_reducible rfl
                try simp only [Act.put, List.setIfInBounds_toArray, List.set_cons_zero, List.set_cons_succ]
                refine wpAnyH_take (i := 11) (oi := { dst := some 99, op := Op.binOp BinOp.shl 28 (Operand.tmp 98) (Operand.const (Value.int IntKind.u64 8)) 73, type := 28, pos := "ref.go:125", after := #[{ on := 10, ground := Ground.data }], guard := none }) (v := ?_) rfl (by kernel_rfl) (by kernel_rfl) (by kernel_rfl) (fun _ _ _ h => h) (Or.inl ⟨by rfl, ?_⟩) hHeld ?_
                rotate_left
                · intro w hSw; (try dsimp only at hSw); go_simp; first | done | with_reducible rfl
                try simp only [Act.put, List.setIfInBounds_toArray, List.set_cons_zero, List.set_cons_succ]
                refine wpAnyH_take (i := 12) (oi := { dst := some 100, op := Op.binOp BinOp.or 28 (Operand.tmp 92) (Operand.tmp 99) 28, type := 28, pos := "ref.go:125", after := #[{ on := 4, ground := Ground.data }, { on := 11, ground := Ground.data }], guard := none }) (v := ?_) rfl (by kernel_rfl) (by kernel_rfl) (by kernel_rfl) (fun _ _ _ h => h) (Or.inl ⟨by rfl, ?_⟩) hHeld ?_
                rotate_left
                · intro w hSw; (try dsimp only at hSw); go_simp; first | done | with_reducible rfl
                try simp only [Act.put, List.setIfInBounds_toArray, List.set_cons_zero, List.set_cons_succ]
                refine wpAnyH_take (i := 13) (oi := { dst := some 101, op := Op.move (Operand.tmp 0), type := 22, pos := "ref.go:125", after := #[], guard := none }) (v := ?_) rfl (by kernel_rfl) (by kernel_rfl) (by kernel_rfl) (fun _ _ _ h => h) (Or.inl ⟨by rfl, ?_⟩) hHeld ?_
                rotate_left
                · intro w hSw; (try dsimp only at hSw); go_simp; first | done | with_reducible rfl
                try simp only [Act.put, List.setIfInBounds_toArray, List.set_cons_zero, List.set_cons_succ]
                refine wpAnyH_take (i := 14) (oi := { dst := some 102, op := Op.move (Operand.tmp 5), type := 3, pos := "ref.go:125", after := #[], guard := none }) (v := ?_) rfl (by kernel_rfl) (by kernel_rfl) (by kernel_rfl) (fun _ _ _ h => h) (Or.inl ⟨by rfl, ?_⟩) hHeld ?_
                rotate_left
                · intro w hSw; (try dsimp only at hSw); go_simp; first | done | with_reducible rfl
                try simp only [Act.put, List.setIfInBounds_toArray, List.set_cons_zero, List.set_cons_succ]
                refine wpAnyH_take (i := 15) (oi := { dst := some 103, op := Op.binOp BinOp.add 3 (Operand.tmp 102) (Operand.const (Value.int IntKind.i64 2)) 3, type := 3, pos := "ref.go:125", after := #[{ on := 14, ground := Ground.data }], guard := none }) (v := ?_) rfl (by kernel_rfl) (by kernel_rfl) (by kernel_rfl) (fun _ _ _ h => h) (Or.inl ⟨by rfl, ?_⟩) hHeld ?_
                rotate_left
                · intro w hSw; (try dsimp only at hSw); go_simp; first | done | with_reducible rfl
                try simp only [Act.put, List.setIfInBounds_toArray, List.set_cons_zero, List.set_cons_succ]
                refine wpAnyH_take (i := 16) (oi := { dst := some 104, op := Op.indexAddr 22 (Operand.tmp 101) (Operand.tmp 103), type := 0, pos := "ref.go:125", after := #[{ on := 13, ground := Ground.data }, { on := 15, ground := Ground.data }], guard := none }) (v := ?_) rfl (by kernel_rfl) (by kernel_rfl) (by kernel_rfl) (fun _ _ _ h => h) (Or.inl ⟨by rfl, ?_⟩) hHeld ?_
                rotate_left
                · intro w hSw; (try dsimp only at hSw); go_simp; first | done | with_reducible rfl
                try simp only [Act.put, List.setIfInBounds_toArray, List.set_cons_zero, List.set_cons_succ]
                refine wpAnyH_take (i := 17) (oi := { dst := some 105, op := Op.load 5 (Operand.tmp 104), type := 5, pos := "ref.go:125", after := #[{ on := 16, ground := Ground.data }], guard := none }) (v := ?_) rfl (by kernel_rfl) (by kernel_rfl) (by kernel_rfl) (fun _ _ _ h => h) (Or.inl ⟨by rfl, ?_⟩) hHeld ?_
                rotate_left
                · intro w hSw; (try dsimp only at hSw); have e := HB2.out _ hSw; go_simp; first | done | with_reducible rfl
                try simp only [Act.put, List.setIfInBounds_toArray, List.set_cons_zero, List.set_cons_succ]
                refine wpAnyH_take (i := 18) (oi := { dst := some 106, op := Op.convert 5 28 (Operand.tmp 105), type := 28, pos := "ref.go:125", after := #[{ on := 17, ground := Ground.data }], guard := none }) (v := ?_) rfl (by kernel_rfl) (by kernel_rfl) (by kernel_rfl) (fun _ _ _ h => h) (Or.inl ⟨by rfl, ?_⟩) hHeld ?_
                rotate_left
                · intro w hSw; (try dsimp only at hSw); go_simp; first | done | with_reducible rfl
                try simp only [Act.put, List.setIfInBounds_toArray, List.set_cons_zero, List.set_cons_succ]
                refine wpAnyH_take (i := 19) (oi := { dst := some 107, op := Op.binOp BinOp.shl 28 (Operand.tmp 106) (Operand.const (Value.int IntKind.u64 16)) 73, type := 28, pos := "ref.go:125", after := #[{ on := 18, ground := Ground.data }], guard := none }) (v := ?_) rfl (by kernel_rfl) (by kernel_rfl) (by kernel_rfl) (fun _ _ _ h => h) (Or.inl ⟨by rfl, ?_⟩) hHeld ?_
                rotate_left
                · intro w hSw; (try dsimp only at hSw); go_simp; first | done | with_reducible rfl
                try simp only [Act.put, List.setIfInBounds_toArray, List.set_cons_zero, List.set_cons_succ]
                refine wpAnyH_take (i := 20) (oi := { dst := some 108, op := Op.binOp BinOp.or 28 (Operand.tmp 100) (Operand.tmp 107) 28, type := 28, pos := "ref.go:125", after := #[{ on := 12, ground := Ground.data }, { on := 19, ground := Ground.data }], guard := none }) (v := ?_) rfl (by kernel_rfl) (by kernel_rfl) (by kernel_rfl) (fun _ _ _ h => h) (Or.inl ⟨by rfl, ?_⟩) hHeld ?_
                rotate_left
                · intro w hSw; (try dsimp only at hSw); go_simp; first | done | with_reducible rfl
                try simp only [Act.put, List.setIfInBounds_toArray, List.set_cons_zero, List.set_cons_succ]
                refine wpAnyH_take (i := 21) (oi := { dst := some 109, op := Op.move (Operand.tmp 0), type := 22, pos := "ref.go:125", after := #[], guard := none }) (v := ?_) rfl (by kernel_rfl) (by kernel_rfl) (by kernel_rfl) (fun _ _ _ h => h) (Or.inl ⟨by rfl, ?_⟩) hHeld ?_
                rotate_left
                · intro w hSw; (try dsimp only at hSw); go_simp; first | done | with_reducible rfl
                try simp only [Act.put, List.setIfInBounds_toArray, List.set_cons_zero, List.set_cons_succ]
                refine wpAnyH_take (i := 22) (oi := { dst := some 110, op := Op.move (Operand.tmp 5), type := 3, pos := "ref.go:125", after := #[], guard := none }) (v := ?_) rfl (by kernel_rfl) (by kernel_rfl) (by kernel_rfl) (fun _ _ _ h => h) (Or.inl ⟨by rfl, ?_⟩) hHeld ?_
                rotate_left
                · intro w hSw; (try dsimp only at hSw); go_simp; first | done | with_reducible rfl
                try simp only [Act.put, List.setIfInBounds_toArray, List.set_cons_zero, List.set_cons_succ]
                refine wpAnyH_take (i := 23) (oi := { dst := some 111, op := Op.binOp BinOp.add 3 (Operand.tmp 110) (Operand.const (Value.int IntKind.i64 3)) 3, type := 3, pos := "ref.go:125", after := #[{ on := 22, ground := Ground.data }], guard := none }) (v := ?_) rfl (by kernel_rfl) (by kernel_rfl) (by kernel_rfl) (fun _ _ _ h => h) (Or.inl ⟨by rfl, ?_⟩) hHeld ?_
                rotate_left
                · intro w hSw; (try dsimp only at hSw); go_simp; first | done | with_reducible rfl
                try simp only [Act.put, List.setIfInBounds_toArray, List.set_cons_zero, List.set_cons_succ]
                refine wpAnyH_take (i := 24) (oi := { dst := some 112, op := Op.indexAddr 22 (Operand.tmp 109) (Operand.tmp 111), type := 0, pos := "ref.go:125", after := #[{ on := 21, ground := Ground.data }, { on := 23, ground := Ground.data }], guard := none }) (v := ?_) rfl (by kernel_rfl) (by kernel_rfl) (by kernel_rfl) (fun _ _ _ h => h) (Or.inl ⟨by rfl, ?_⟩) hHeld ?_
                rotate_left
                · intro w hSw; (try dsimp only at hSw); go_simp; first | done | with_reducible rfl
                try simp only [Act.put, List.setIfInBounds_toArray, List.set_cons_zero, List.set_cons_succ]
                refine wpAnyH_take (i := 25) (oi := { dst := some 113, op := Op.load 5 (Operand.tmp 112), type := 5, pos := "ref.go:125", after := #[{ on := 24, ground := Ground.data }], guard := none }) (v := ?_) rfl (by kernel_rfl) (by kernel_rfl) (by kernel_rfl) (fun _ _ _ h => h) (Or.inl ⟨by rfl, ?_⟩) hHeld ?_
                rotate_left
                · intro w hSw; (try dsimp only at hSw); have e := HB3.out _ hSw; go_simp; first | done | with_reducible rfl
                try simp only [Act.put, List.setIfInBounds_toArray, List.set_cons_zero, List.set_cons_succ]
                refine wpAnyH_take (i := 26) (oi := { dst := some 114, op := Op.convert 5 28 (Operand.tmp 113), type := 28, pos := "ref.go:125", after := #[{ on := 25, ground := Ground.data }], guard := none }) (v := ?_) rfl (by kernel_rfl) (by kernel_rfl) (by kernel_rfl) (fun _ _ _ h => h) (Or.inl ⟨by rfl, ?_⟩) hHeld ?_
                rotate_left
                · intro w hSw; (try dsimp only at hSw); go_simp; first | done | with_reducible rfl
                try simp only [Act.put, List.setIfInBounds_toArray, List.set_cons_zero, List.set_cons_succ]
                refine wpAnyH_take (i := 27) (oi := { dst := some 115, op := Op.binOp BinOp.shl 28 (Operand.tmp 114) (Operand.const (Value.int IntKind.u64 24)) 73, type := 28, pos := "ref.go:125", after := #[{ on := 26, ground := Ground.data }], guard := none }) (v := ?_) rfl (by kernel_rfl) (by kernel_rfl) (by kernel_rfl) (fun _ _ _ h => h) (Or.inl ⟨by rfl, ?_⟩) hHeld ?_
                rotate_left
                · intro w hSw; (try dsimp only at hSw); go_simp; first | done | with_reducible rfl
                try simp only [Act.put, List.setIfInBounds_toArray, List.set_cons_zero, List.set_cons_succ]
                refine wpAnyH_take (i := 28) (oi := { dst := some 116, op := Op.binOp BinOp.or 28 (Operand.tmp 108) (Operand.tmp 115) 28, type := 28, pos := "ref.go:125", after := #[{ on := 20, ground := Ground.data }, { on := 27, ground := Ground.data }], guard := none }) (v := ?_) rfl (by kernel_rfl) (by kernel_rfl) (by kernel_rfl) (fun _ _ _ h => h) (Or.inl ⟨by rfl, ?_⟩) hHeld ?_
                rotate_left
                · intro w hSw; (try dsimp only at hSw); go_simp; first | done | with_reducible rfl
                try simp only [Act.put, List.setIfInBounds_toArray, List.set_cons_zero, List.set_cons_succ]
                refine wpAnyH_take (i := 29) (oi := { dst := some 117, op := Op.fieldAddr 31 (Operand.tmp 4) 3, type := 0, pos := "ref.go:125", after := #[{ on := 0, ground := Ground.phase }, { on := 1, ground := Ground.phase }, { on := 2, ground := Ground.phase }, { on := 3, ground := Ground.phase }, { on := 4, ground := Ground.phase }, { on := 5, ground := Ground.phase }, { on := 6, ground := Ground.phase }, { on := 7, ground := Ground.phase }, { on := 8, ground := Ground.phase }, { on := 9, ground := Ground.phase }, { on := 10, ground := Ground.phase }, { on := 11, ground := Ground.phase }, { on := 12, ground := Ground.phase }, { on := 13, ground := Ground.phase }, { on := 14, ground := Ground.phase }, { on := 15, ground := Ground.phase }, { on := 16, ground := Ground.phase }, { on := 17, ground := Ground.phase }, { on := 18, ground := Ground.phase }, { on := 19, ground := Ground.phase }, { on := 20, ground := Ground.phase }, { on := 21, ground := Ground.phase }, { on := 22, ground := Ground.phase }, { on := 23, ground := Ground.phase }, { on := 24, ground := Ground.phase }, { on := 25, ground := Ground.phase }, { on := 26, ground := Ground.phase }, { on := 27, ground := Ground.phase }, { on := 28, ground := Ground.phase }], guard := none }) (v := ?_) rfl (by kernel_rfl) (by kernel_rfl) (by kernel_rfl) (fun _ _ _ h => h) (Or.inl ⟨by rfl, ?_⟩) hHeld ?_
                rotate_left
                · intro w hSw; (try dsimp only at hSw); go_simp; first | done | with_reducible rfl
                try simp only [Act.put, List.setIfInBounds_toArray, List.set_cons_zero, List.set_cons_succ]
                refine wpAnyH_ready (rs := [30]) (by kernel_rfl) (by simp) ?_
                refine AllReadyH.cons (o := { dst := none, op := Op.store 28 (Operand.tmp 117) (Operand.tmp 116), type := 0, pos := "ref.go:125", after := #[{ on := 29, ground := Ground.data }, { on := 28, ground := Ground.data }, { on := 0, ground := Ground.phase }, { on := 1, ground := Ground.phase }, { on := 2, ground := Ground.phase }, { on := 3, ground := Ground.phase }, { on := 4, ground := Ground.phase }, { on := 5, ground := Ground.phase }, { on := 6, ground := Ground.phase }, { on := 7, ground := Ground.phase }, { on := 8, ground := Ground.phase }, { on := 9, ground := Ground.phase }, { on := 10, ground := Ground.phase }, { on := 11, ground := Ground.phase }, { on := 12, ground := Ground.phase }, { on := 13, ground := Ground.phase }, { on := 14, ground := Ground.phase }, { on := 15, ground := Ground.phase }, { on := 16, ground := Ground.phase }, { on := 17, ground := Ground.phase }, { on := 18, ground := Ground.phase }, { on := 19, ground := Ground.phase }, { on := 20, ground := Ground.phase }, { on := 21, ground := Ground.phase }, { on := 22, ground := Ground.phase }, { on := 23, ground := Ground.phase }, { on := 24, ground := Ground.phase }, { on := 25, ground := Ground.phase }, { on := 26, ground := Ground.phase }, { on := 27, ground := Ground.phase }, { on := 28, ground := Ground.phase }], guard := none }) rfl (fun K hK => ?_) AllReadyH.nil
                clear hHeld
                rw [if_pos (by rfl)]
                refine wp_store_n .u32 28 sz_u32 _ _ rfl (w.heap.size + 1) 4 rfl ((A4 : Nat) : Int) (congrArg (Value.int .u32) HV.out) (HR3d.out.cellT HTM.out 4 (by omega)) (HR3d.out.x.free 4) ?_
                have HR4 := hide (HR3d.out.setT (u := { t with addr := A4 }) 4 (.int .u32 (A4 : Nat)) rfl)
                clear HR3d
                refine hK.out _ _ (HR4.out.b) (fun hHeld => ?_)
                clear hK K
                try simp only [Act.put]
                refine wpAnyH_done (by kernel_rfl) ?_ _
                clear hHeld
                go_wp2_with fail
                go_roundw
                case rel => exact ⟨k + 1, a6, { t with addr := A4 }, l.set k (n : Int), r1.drop 4, by omega, by go_num, (by first | rfl | trivial), hle6, HR4, HNX, HDR3, tuck (by rw [List.length_set]; exact HLL.out), HMZ⟩
                case measure => simp [intOf]; omega
          · have hk3d : decide ((k : Int) = 3) = false := by simpa using (show ¬ (k : Int) = 3 by omega)
            have hk3b : ((k : Int) == 3) = false := by simpa using (show ¬ (k : Int) = 3 by omega)
            have hk3c : decide (k = 3) = false := by simpa using hk3
            have HNX := tuck (show runR bs (k + 1) = some (r1, t, l.set k (n : Int)) from runR_next HRUN.out (step_num_go hk2 hk3 HCU.out))
            clear hk2 hk3
            go_wp2_with (first | (go_at_call 43; refine HNB.out.mono ?_; rintro e w2 ⟨rfl, rfl⟩; clear HNB hcut) | (refine wpList_store_n rfl .u64 23 sz_u64 (.tmp 41) (.tmp 40) rfl (w.heap.size + 2) k rfl (n : Int) rfl (HRR.out.cellL HLL.out k hk7) (HRR.out.l.free k) (fun W => RR w t (l.set k (n : Int)) W) (HRR.out.setL k n) ?_; intro w3 hp; have HR3 := hide hp; clear hp HRR))
            go_roundw
            case rel => exact ⟨k + 1, a2, t, l.set k (n : Int), r1, by omega, by go_num, (by first | rfl | trivial), hle, HR3, HNX, HDR2, tuck (by rw [List.length_set]; exact HLL.out), HMZ⟩
            case measure => simp [intOf]; omega
    · have hk7e : k = 7 := by omega
      have hk7i : ¬ (k : Int) < 7 := by omega
      have hk7d : decide ((k : Int) < 7) = false := by simpa using hk7i
      have HRUN7 := tuck (show runR bs 7 = some (r, t, l) from by rw [← hk7e]; exact HRUN.out)
      clear HRUN hk7 hk7e
      obtain ⟨ns, sa, uid, host, addr, born, til, key, f1, f2, g1, g2, g3, g4, g5, g6, g7, g8, g9⟩ := runR_form HF.out HRUN7.out
      dsimp only at f1 f2 g9
      subst f1 f2
      obtain ⟨m, hm⟩ : ∃ m, r.length = m := ⟨_, rfl⟩
      have HM := tuck hm
      have hmq : q - a = m := by rw [← hm]; exact HRL.out.symm
      clear hm
      have hws : IntKind.i64.wrap ((q : Int) - (a : Int)) = (m : Int) := by rw [IntWalk.i64_in _ (by omega)]; omega
      have hwh : IntKind.i64.wrap (host : Int) = (host : Int) := IntWalk.i64_in _ (by omega)
      have hl0 : wr.cell? ⟨w.heap.size + 2, 2, none⟩ = some (.int .u64 (uid : Int)) := HRR.out.l.cell 2 (by simp)
      have HFT := hide (show finT (r, (⟨ns, sa, 0, 0, addr, 0, 0, 0, List.replicate 32 0⟩ : Tk), [(ns.size : Int), (sa.size : Int), (uid : Int), (host : Int), (born : Int), (til : Int), (key : Int)]) = ⟨ns, sa, uid, (host : Nat), addr, born, til, key, r⟩ from by
        simp only [finT, nth, List.getD_cons_zero, List.getD_cons_succ, Int.toNat_natCast, hwh])
      have HOK := hide (fun h : r.length = 32 => (show Tk.ok ⟨ns, sa, uid, (host : Nat), addr, born, til, key, r⟩ from ⟨by dsimp only; omega, by dsimp only; omega, g3, by dsimp only; omega, by dsimp only; omega, g5, g6, g7, g8, h, g9.1⟩))
      clear g1 g2 g3 g4 g5 g6 g7 g8 g9 HTM HMZ HLL
      go_upto_region 32 with (first | (refine wpList_store_n rfl .u64 23 sz_u64 (.tmp 122) (.tmp 121) rfl (w.heap.size + 1) 2 rfl (uid : Int) rfl (HRR.out.cellT (by rfl) 2 (by omega)) (HRR.out.x.free 2) (fun W => RR w ⟨ns, sa, uid, 0, addr, 0, 0, 0, List.replicate 32 0⟩ [(ns.size : Int), (sa.size : Int), (uid : Int), (host : Int), (born : Int), (til : Int), (key : Int)] W) (HRR.out.setT 2 (.int .u64 (uid : Int)) rfl) ?_; intro w10 hp; have HS1 := hide hp; have hl1 : w10.cell? ⟨w.heap.size + 2, 3, none⟩ = some (.int .u64 (host : Int)) := hp.l.cell 3 (by simp); clear hp HRR hl0) | (refine wpList_store_n rfl .i64 3 sz_int (.tmp 126) (.tmp 125) rfl (w.heap.size + 1) 3 rfl (host : Int) rfl (HS1.out.cellT (by rfl) 3 (by omega)) (HS1.out.x.free 3) (fun W => RR w ⟨ns, sa, uid, (host : Nat), addr, 0, 0, 0, List.replicate 32 0⟩ [(ns.size : Int), (sa.size : Int), (uid : Int), (host : Int), (born : Int), (til : Int), (key : Int)] W) (HS1.out.setT 3 (.int .i64 (host : Int)) rfl) ?_; intro w11 hp; have HS2 := hide hp; have hl2 : w11.cell? ⟨w.heap.size + 2, 4, none⟩ = some (.int .u64 (born : Int)) := hp.l.cell 4 (by simp); clear hp HS1 hl1) | (refine wpList_store_n rfl .u64 23 sz_u64 (.tmp 129) (.tmp 128) rfl (w.heap.size + 1) 5 rfl (born : Int) rfl (HS2.out.cellT (by rfl) 5 (by omega)) (HS2.out.x.free 5) (fun W => RR w ⟨ns, sa, uid, (host : Nat), addr, born, 0, 0, List.replicate 32 0⟩ [(ns.size : Int), (sa.size : Int), (uid : Int), (host : Int), (born : Int), (til : Int), (key : Int)] W) (HS2.out.setT 5 (.int .u64 (born : Int)) rfl) ?_; intro w12 hp; have HS3 := hide hp; have hl3 : w12.cell? ⟨w.heap.size + 2, 5, none⟩ = some (.int .u64 (til : Int)) := hp.l.cell 5 (by simp); clear hp HS2 hl2) | (refine wpList_store_n rfl .u64 23 sz_u64 (.tmp 132) (.tmp 131) rfl (w.heap.size + 1) 6 rfl (til : Int) rfl (HS3.out.cellT (by rfl) 6 (by omega)) (HS3.out.x.free 6) (fun W => RR w ⟨ns, sa, uid, (host : Nat), addr, born, til, 0, List.replicate 32 0⟩ [(ns.size : Int), (sa.size : Int), (uid : Int), (host : Int), (born : Int), (til : Int), (key : Int)] W) (HS3.out.setT 6 (.int .u64 (til : Int)) rfl) ?_; intro w13 hp; have HS4 := hide hp; have hl4 : w13.cell? ⟨w.heap.size + 2, 6, none⟩ = some (.int .u64 (key : Int)) := hp.l.cell 6 (by simp); clear hp HS3 hl3) | (refine wpList_store_n rfl .u64 23 sz_u64 (.tmp 135) (.tmp 134) rfl (w.heap.size + 1) 7 rfl (key : Int) rfl (HS4.out.cellT (by rfl) 7 (by omega)) (HS4.out.x.free 7) (fun W => RR w ⟨ns, sa, uid, (host : Nat), addr, born, til, key, List.replicate 32 0⟩ [(ns.size : Int), (sa.size : Int), (uid : Int), (host : Int), (born : Int), (til : Int), (key : Int)] W) (HS4.out.setT 7 (.int .u64 (key : Int)) rfl) ?_; intro w14 hp; have HS5 := hide hp; clear hp HS4 hl4))
      by_cases hm32 : m = 32
      rotate_left
      · have HRS := hide (show refS bs = none from by rw [refS_end HFST.out HRUN7.out]; dsimp only; rw [if_pos (by rw [HM.out]; exact hm32)])
        have hmd : decide ((m : Int) = 32) = false := by simpa using (show ¬ (m : Int) = 32 by omega)
        have hmb : ((m : Int) == 32) = false := by simpa using (show ¬ (m : Int) = 32 by omega)
        have hmc : decide (m = 32) = false := by simpa using (show ¬ m = 32 by omega)
        have hme : (m == 32) = false := by simpa using (show ¬ m = 32 by omega)
        clear hm32 HRUN7 HFT HOK
        go_wp2_with (first | (refine wpList_build_tk0 rfl rfl ?_) | (refine wpList_store_tk rfl (.tmp 2) (.tmp 141) rfl w.heap.size tk0 rfl rfl tk0 tk0_len tk0_len HS5.out.z ?_))
        try simp only [Exit.inBlock, Exit.then]
        refine bodyPost_ret (results_tk2 rfl _ _ w.heap.size rfl _ rfl tk0 tk0_len HS5.out.z.row) rfl (rpost_none HRS.out rfl (below_setRow HS5.out.b (Nat.le_refl _) _))
      have HM32 := hide (show r.length = 32 by rw [HM.out]; exact hm32)
      have hmd : decide ((m : Int) = 32) = true := by simpa using (show (m : Int) = 32 by omega)
      have hmb : ((m : Int) == 32) = true := by simpa using (show (m : Int) = 32 by omega)
      have hmc : decide (m = 32) = true := by simpa using (show m = 32 by omega)
      have hme : (m == 32) = true := by simpa using (show m = 32 by omega)
      go_wp2_with fail
      clear hm32 hmd hmb hmc hme
      generalize hL : [(ns.size : Int), (sa.size : Int), (uid : Int), (host : Int), (born : Int), (til : Int), (key : Int)] = L at HS5
      clear hL
      go_loopw [11] (fun i wr => ∃ j : Nat, j ≤ 32 ∧ i = .int .i64 j ∧ Hid (RR w ⟨ns, sa, uid, (host : Nat), addr, born, til, key, r.take j ++ List.replicate (32 - j) 0⟩ L wr)) (fun i _ => 32 - (intOf i).toNat)
      case atStart => exact ⟨0, by omega, rfl, by simpa using HS5⟩
      case round =>
        clear HS5
        obtain ⟨j, hj, rfl, HS6⟩ := hrel
        by_cases hj32 : j < 32
        · have hji : (j : Int) < 32 := by omega
          have hjid : decide ((j : Int) < 32) = true := by simpa using hji
          have hjie : decide (j < 32) = true := by simpa using hj32
          obtain ⟨aj, haj⟩ : ∃ aj, a + j = aj := ⟨_, rfl⟩
          have hwa : IntKind.i64.wrap ((a : Int) + (j : Int)) = (aj : Int) := by rw [IntWalk.i64_in _ (by omega)]; omega
          have hrl := HM32.out
          have hrl2 := HRL.out
          have haq : (aj : Int) < (q : Int) := by omega
          obtain ⟨X, hX⟩ : ∃ X, nth r j = X := ⟨_, rfl⟩
          have hce := HCEL.out wr HS6.out.b aj (by omega)
          rw [show nth bs aj = X from by rw [← hX, ← HDR.out, ← haj]; simp [nth, List.getD, List.getElem?_drop]] at hce
          have HSET := hide (show (tkC ⟨ns, sa, uid, (host : Nat), addr, born, til, key, r.take j ++ List.replicate (32 - j) 0⟩).set (8 + j) (.int .u8 X) = tkC ⟨ns, sa, uid, (host : Nat), addr, born, til, key, r.take (j + 1) ++ List.replicate (32 - (j + 1)) 0⟩ from by rw [tkC_mac]; dsimp only; rw [← hX, mac_step r HM32.out j hj32])
          have HJL := hide (show (Tk.mac ⟨ns, sa, uid, (host : Nat), addr, born, til, key, r.take j ++ List.replicate (32 - j) 0⟩).length = 32 from by dsimp only; rw [List.length_append, List.length_take, List.length_replicate]; omega)
          clear hX hrl hrl2 haj
          go_wp2_with (first | (refine wpList_store_n rfl .u8 5 size5 (.tmp 154) (.tmp 152) rfl (w.heap.size + 1) (8 + j) rfl X rfl (HS6.out.cellT HJL.out (8 + j) (by omega)) (HS6.out.x.free (8 + j)) (fun W => RR w ⟨ns, sa, uid, (host : Nat), addr, born, til, key, r.take (j + 1) ++ List.replicate (32 - (j + 1)) 0⟩ L W) (HS6.out.setT (8 + j) (.int .u8 X) HSET.out) ?_; intro w20 hp; have HS7 := hide hp; clear hp HS6 hce))
          go_roundw
          case rel => exact ⟨j + 1, by omega, by go_num, HS7⟩
          case measure => simp [intOf]; omega
        · have HS7 := hide (show RR w ⟨ns, sa, uid, (host : Nat), addr, born, til, key, r⟩ L wr from by
            have h := HS6.out
            rw [show j = 32 by omega, List.take_of_length_le (by rw [HM32.out]; exact Nat.le_refl _)] at h
            simpa using h)
          have hji : ¬ (j : Int) < 32 := by omega
          have hjid : decide ((j : Int) < 32) = false := by simpa using hji
          have hjie : decide (j < 32) = false := by simpa using hj32
          clear HS6
          have HTO := hide (HOK.out HM32.out)
          obtain ⟨TT, hTT⟩ : ∃ TT : Tk, ⟨ns, sa, uid, (host : Nat), addr, born, til, key, r⟩ = TT := ⟨_, rfl⟩
          have HTL := hide (show TT.mac.length = 32 from by rw [← hTT]; exact HM32.out)
          rw [hTT] at HS7 HFT HTO
          clear hTT HOK
          cases hmay : mayT TT with
          | false =>
            have HRS := hide (show refS bs = none from by rw [refS_end HFST.out HRUN7.out]; dsimp only; rw [if_neg (by rw [HM32.out]; simp), HFT.out, hmay]; rfl)
            have HMY := hide (fun W => (show _ from by have h := tmayR_any TT HTO.out W; rw [hmay] at h; exact h))
            clear hmay hj32 HFT HRUN7
            go_wp2_with (first | (refine wpList_load_tk rfl (.tmp 4) rfl (w.heap.size + 1) rfl TT HTL.out HS7.out.x ?_) | (go_at_call 16; refine (HMY.out _).mono ?_; rintro e w2 ⟨rfl, hb⟩; have HS8 := hide (HS7.out.next hb); clear hb HS7) | (refine wpList_build_tk0 rfl rfl ?_) | (refine wpList_store_tk rfl (.tmp 2) (.tmp 158) rfl w.heap.size tk0 rfl rfl tk0 tk0_len tk0_len HS8.out.z ?_))
            try simp only [Exit.inBlock, Exit.then]
            refine bodyPost_ret (results_tk2 rfl _ _ w.heap.size rfl _ rfl tk0 tk0_len HS8.out.z.row) rfl (rpost_none HRS.out rfl (below_setRow HS8.out.b (Nat.le_refl _) _))
          | true =>
            have HRS := hide (show refS bs = some TT from by rw [refS_end HFST.out HRUN7.out]; dsimp only; rw [if_neg (by rw [HM32.out]; simp), HFT.out, if_pos hmay])
            have HMY := hide (fun W => (show _ from by have h := tmayR_any TT HTO.out W; rw [hmay] at h; exact h))
            clear hmay hj32 HFT HRUN7
            go_wp2_with (first | (refine wpList_load_tk rfl (.tmp 4) rfl (w.heap.size + 1) rfl TT HTL.out HS7.out.x ?_) | (go_at_call 16; refine (HMY.out _).mono ?_; rintro e w2 ⟨rfl, hb⟩; have HS8 := hide (HS7.out.next hb); clear hb HS7) | (refine wpList_load_tk rfl (.tmp 4) rfl (w.heap.size + 1) rfl TT HTL.out HS8.out.x ?_) | (refine wpList_store_tk rfl (.tmp 2) (.tmp 159) rfl w.heap.size TT rfl rfl tk0 tk0_len HTL.out HS8.out.z ?_))
            try simp only [Exit.inBlock, Exit.then]
            refine bodyPost_ret (results_tk2 rfl _ _ w.heap.size rfl _ rfl TT HTL.out HS8.out.z.row) rfl (rpost_some HRS.out rfl (below_setRow HS8.out.b (Nat.le_refl _) _))
end Go.Proofs.YtaomigfmjglggaaDoor
