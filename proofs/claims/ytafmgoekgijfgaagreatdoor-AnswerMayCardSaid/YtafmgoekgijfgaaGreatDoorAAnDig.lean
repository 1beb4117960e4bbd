/- A code's digits, its reason, its first line. -/
import Derived.Test.YtafmgoekgijfgaaGreatDoorARqM2
import Derived.Test.YtafmgoekgijfgaaGreatDoorAAnPl
import Derived.StillTailTactics
import Derived.Deep.RegionWith
import Derived.Deep.RegionHeld3
import Derived.Deep.CutBlock
import Derived.Deep.DeepCutAuto
namespace Go.Proofs.YtafmgoekgijfgaaGreatDoor
open Go.RowKit Go.Lib

theorem dig_cut : ∀ d : Nat, d < 10 → (⟨#[48, 49, 50, 51, 52, 53, 54, 55, 56, 57]⟩ : ByteArray).extract d (d + 1) = bo [dgS d] := by decide +kernel
theorem bo_one (c : UInt8) (X : List UInt8) : bo [c] ++ bo X = bo (c :: X) := bytes_ext (by rw [ByteArray.data_append, Array.toList_append, bo_list, bo_list, bo_list]; rfl)
theorem SBox.put {W : World} {g : Nat} {s : ByteArray} (h : SBox W g s) (x : ByteArray) : SBox (W.setCell ⟨g, 0, none⟩ (.string x)) g x := heap_setCell_same W g 0 _ _ (.string x) h
theorem SBox.fz {W : World} {g : Nat} {s : ByteArray} (h : SBox W g s) : W.frozen? ⟨g, 0, none⟩ = false := frozen_of_row W g 0 _ _ h
set_option maxRecDepth 100000 in
set_option maxHeartbeats 2000000 in
theorem ahead_any (d : Nat) (hd : d < 10) (g : Nat) (X : List UInt8) (hX : X.length ≤ 100) (W0 : World) (h : SBox W0 g (bo X)) : Calls Tryz.prog 147 #[.int .i64 d, .pointer (some ⟨g, 0, none⟩)] W0 (fun e w' => (∃ v, e = .returned v) ∧ SBox w' g (bo (dgS d :: X)) ∧ Keep (fun k => k = g) W0 w') := by
 have e1 : IntKind.i64.wrap ((d : Int) + 1) = (d : Int) + 1 := by rw [IntWalk.i64_in _ (by omega)]
 have q3 : (0 : Int) ≤ (d : Int) := by omega
 have q4 : (d : Int) + 1 ≤ 10 := by omega
 have q5 : ((d : Int) + 1).toNat = d + 1 := by omega
 have q6 := dig_cut d hd
 have q7 : (d : Int) ≤ (d : Int) + 1 := by omega
 have n5 : ¬ 9223372036854775807 < (bo [dgS d]).size + (bo X).size := by rw [bo_size, bo_size]; simp; omega
 have hxx := bo_one (dgS d) X
 have H0 : HidL (SBox W0.drew g (bo X)) := ⟨h⟩
 have HK := hideL (Keep.drew (fun k => k = g) W0)
 clear hd hX h
 go_enter Tryz.func147, Tryz.ntmps147
 go_wp2_with fail
 refine wp_region_held_drew (S := fun _ => True) (by kernel_rfl) trivial (fun hHeld => ?_)
 generalize W0.drew = V at *
 have z0 := H0.out.c0
 have z1 := H0.out.fz
 refine tl 0 rfl hHeld ?_
 try simp only [pA, pB, pC, pD]
 refine tl 1 rfl hHeld ?_
 try simp only [pA, pB, pC, pD]
 refine tl 2 rfl hHeld ?_
 try simp only [pA, pB, pC, pD]
 refine tl 3 rfl hHeld ?_
 try simp only [pA, pB, pC, pD]
 refine wpAnyH_ready (rs := [4]) (by kernel_rfl) (by simp) ?_
 refine aC rfl (fun K hK => ?_)
 clear hHeld
 rw [if_pos (by rfl)]
 go_simp
 refine hK.out _ _ (trivial) (fun hHeld => ?_)
 clear hK K
 try simp only [pA, pB, pC, pD]
 refine tl 5 rfl hHeld ?_
 try simp only [pA, pB, pC, pD]
 refine wpAnyH_ready (rs := [6]) (by kernel_rfl) (by simp) ?_
 refine aC rfl (fun K hK => ?_)
 clear hHeld
 go_simp
 have H1 := hideL (H0.out.put (bo (dgS d :: X)))
 have HK1 := hideL (HK.out.trans (Keep.set (F := fun k => k = g) V ⟨g, 0, none⟩ (.string (bo (dgS d :: X))) rfl) (fun _ hx => .inl hx))
 refine hK.out _ _ (trivial) (fun hHeld => ?_)
 clear hK K
 try simp only [Act.put]
 refine wpAnyH_done (by kernel_rfl) ?_ _
 clear hHeld
 go_wp2_with fail
 go_end0
 exact ⟨⟨_, rfl⟩, H1.out, HK1.out⟩
theorem dgS_mod (n : Nat) : dgS (n % 10) = dgS n := by unfold dgS; rw [Nat.mod_mod]
set_option maxRecDepth 100000 in
set_option maxHeartbeats 2000000 in
theorem digits_any (n : Nat) (hn : n < 10000) (w0 : World) : Calls Tryz.prog 101 #[.int .i64 n] w0 (fun e w' => e = .returned (.string (bo (decS n))) ∧ Below w0.heap.size w0 w') := by
 have hmf : ∀ (fn : Fn) (first cap : Array Value) (w : World), (Instr.makeFunc fn first cap).run Tryz.prog w = .ok (.func fn first cap) w := fun _ _ _ _ => rfl
 have H0 : HidL (SBox (w0.alloc (.cells #[.string ⟨#[]⟩] 9)) w0.heap.size (bo [])) := ⟨SBox.new w0 ⟨#[]⟩⟩
 have HB0 := hideL ((Below.refl w0.heap.size w0).alloc (Nat.le_refl _) (.cells #[.string ⟨#[]⟩] 9))
 obtain ⟨d, hd⟩ : ∃ d, n % 10 = d := ⟨_, rfl⟩
 obtain ⟨m0, hm0⟩ : ∃ m, n / 10 = m := ⟨_, rfl⟩
 have d1 : (n : Int) % 10 = (d : Int) := by omega
 have d2 : Int.tmod (n : Int) 10 = (d : Int) := by rw [← hd]; rfl
 have d3 : (n : Int) / 10 = (m0 : Int) := by omega
 have d4 : Int.tdiv (n : Int) 10 = (m0 : Int) := by rw [← hm0]; rfl
 have LA := hideL (fun (W : World) (h : SBox W w0.heap.size (bo [])) => ahead_any d (by omega) w0.heap.size [] (by simp) W h)
 have H1 : HidL ((m0 = 0 ∧ [dgS d] = decS n) ∨ (0 < m0 ∧ m0 < 10000 ∧ decS n = decS m0 ++ [dgS d])) := ⟨by
   rw [← hd, dgS_mod]
   by_cases h : n < 10
   · exact .inl ⟨by omega, (decS_small h).symm⟩
   · exact .inr ⟨by omega, by omega, by rw [decS_step h hn, hm0]⟩⟩
 have HL := hideL (decS_len hn).2
 have hm9 : m0 < 1000 := by omega
 clear hd hm0 hn
 go_enter Tryz.func101, Tryz.ntmps101
 go_wp2_with (go_at_call 147; refine (LA.out _ H0.out).mono ?_; rintro e w2 ⟨⟨ve, rfl⟩, hs, hk⟩; have HS2 := hideL hs; have HB2 := hideL (hk.through HB0.out (fun k e => by rw [e]; exact Nat.le_refl _) HB0.out.size); clear hs hk)
 go_loopw [0] (fun v wr => ∃ (m : Nat) (X : List UInt8), v = .int .i64 m ∧ m < 1000 ∧ X.length ≤ 4 ∧ HidL (SBox wr w0.heap.size (bo X)) ∧ HidL (Below w0.heap.size w0 wr) ∧ HidL ((m = 0 ∧ X = decS n) ∨ (0 < m ∧ m < 10000 ∧ decS n = decS m ++ X))) (fun v _ => (RowKit.intOf v).toNat)
 case atStart => exact ⟨m0, [dgS d], rfl, hm9, by simp, HS2, HB2, H1⟩
 case round =>
   obtain ⟨m, X, rfl, hm, hX, HS, HB, HR⟩ := hrel
   obtain ⟨W, rfl⟩ : ∃ W, W = wr := ⟨_, rfl⟩
   clear H1 HS2 HB2 d1 d2 d3 d4 H0 HB0 LA
   by_cases h0 : 0 < m
   · have h0' : (0 : Int) < (m : Int) := by omega
     have hr := HR.out.resolve_left (fun h => by omega)
     have hX3 : X.length + 1 ≤ 4 := by
       have h1 := HL.out
       have h2 := (decS_len (n := m) (by omega)).1
       rw [hr.2.2, List.length_append] at h1
       omega
     obtain ⟨d, hd⟩ : ∃ d, m % 10 = d := ⟨_, rfl⟩
     obtain ⟨m2, hm2⟩ : ∃ z, m / 10 = z := ⟨_, rfl⟩
     have d1 : (m : Int) % 10 = (d : Int) := by omega
     have d2 : Int.tmod (m : Int) 10 = (d : Int) := by rw [← hd]; rfl
     have d3 : (m : Int) / 10 = (m2 : Int) := by omega
     have d4 : Int.tdiv (m : Int) 10 = (m2 : Int) := by rw [← hm2]; rfl
     have LA := hideL (ahead_any d (by omega) w0.heap.size X (by omega) W HS.out)
     have H1 : HidL ((m2 = 0 ∧ dgS d :: X = decS n) ∨ (0 < m2 ∧ m2 < 10000 ∧ decS n = decS m2 ++ (dgS d :: X))) := ⟨by
       rw [← hd, dgS_mod, hr.2.2]
       by_cases h : m < 10
       · exact .inl ⟨by omega, by rw [decS_small h]; rfl⟩
       · exact .inr ⟨by omega, by omega, by rw [decS_step h (by omega), hm2]; simp⟩⟩
     have hm3 : m2 < m := by omega
     clear hr hd hm2 HR
     go_wp2_with (go_at_call 147; refine LA.out.mono ?_; rintro e w4 ⟨⟨ve, rfl⟩, hs, hk⟩; have HS4 := hideL hs; have HB4 := hideL (hk.through HB.out (fun k e => by rw [e]; exact Nat.le_refl _) HB.out.size); clear hs hk)
     go_roundw
     case rel => exact ⟨m2, dgS d :: X, by go_num, by omega, by simp; omega, HS4, HB4, H1⟩
     case measure => simp [RowKit.intOf]; omega
   · obtain rfl : m = 0 := by omega
     have hr := (HR.out.resolve_right (fun h => by omega)).2
     subst hr
     have c0 := HS.out.c0
     clear HR h0
     go_wp2_with fail
     go_ret
     exact ⟨rfl, HB.out⟩
set_option maxRecDepth 100000 in
set_option maxHeartbeats 2000000 in
theorem reason_any (c : Int) (w0 : World) : Calls Tryz.prog 27 #[.int .i64 c] w0 (fun e w' => e = .returned (.string (bo (reaP c))) ∧ w' = w0) := by
 by_cases h0 : c = 200
 · have hr : bo (reaP c) = ⟨#[79, 75]⟩ := by subst h0; rfl
   rw [hr]
   clear hr
   subst h0
   go_enter Tryz.func27, Tryz.ntmps27
   go_wp2_with fail
   go_ret
   exact ⟨rfl, rfl⟩
 have i0 : (c == 200) = false := beq_eq_false_iff_ne.2 h0
 by_cases h1 : c = 204
 · have hr : bo (reaP c) = ⟨#[78, 111, 32, 67, 111, 110, 116, 101, 110, 116]⟩ := by subst h1; rfl
   rw [hr]
   clear hr
   subst h1
   clear h0
   go_enter Tryz.func27, Tryz.ntmps27
   go_wp2_with fail
   go_ret
   exact ⟨rfl, rfl⟩
 have i1 : (c == 204) = false := beq_eq_false_iff_ne.2 h1
 by_cases h2 : c = 400
 · have hr : bo (reaP c) = ⟨#[66, 97, 100, 32, 82, 101, 113, 117, 101, 115, 116]⟩ := by subst h2; rfl
   rw [hr]
   clear hr
   subst h2
   clear h0 h1
   go_enter Tryz.func27, Tryz.ntmps27
   go_wp2_with fail
   go_ret
   exact ⟨rfl, rfl⟩
 have i2 : (c == 400) = false := beq_eq_false_iff_ne.2 h2
 by_cases h3 : c = 403
 · have hr : bo (reaP c) = ⟨#[70, 111, 114, 98, 105, 100, 100, 101, 110]⟩ := by subst h3; rfl
   rw [hr]
   clear hr
   subst h3
   clear h0 h1 h2
   go_enter Tryz.func27, Tryz.ntmps27
   go_wp2_with fail
   go_ret
   exact ⟨rfl, rfl⟩
 have i3 : (c == 403) = false := beq_eq_false_iff_ne.2 h3
 by_cases h4 : c = 404
 · have hr : bo (reaP c) = ⟨#[78, 111, 116, 32, 70, 111, 117, 110, 100]⟩ := by subst h4; rfl
   rw [hr]
   clear hr
   subst h4
   clear h0 h1 h2 h3
   go_enter Tryz.func27, Tryz.ntmps27
   go_wp2_with fail
   go_ret
   exact ⟨rfl, rfl⟩
 have i4 : (c == 404) = false := beq_eq_false_iff_ne.2 h4
 by_cases h5 : c = 502
 · have hr : bo (reaP c) = ⟨#[66, 97, 100, 32, 71, 97, 116, 101, 119, 97, 121]⟩ := by subst h5; rfl
   rw [hr]
   clear hr
   subst h5
   clear h0 h1 h2 h3 h4
   go_enter Tryz.func27, Tryz.ntmps27
   go_wp2_with fail
   go_ret
   exact ⟨rfl, rfl⟩
 have i5 : (c == 502) = false := beq_eq_false_iff_ne.2 h5
 by_cases h6 : c = 503
 · have hr : bo (reaP c) = ⟨#[83, 101, 114, 118, 105, 99, 101, 32, 85, 110, 97, 118, 97, 105, 108, 97, 98, 108, 101]⟩ := by subst h6; rfl
   rw [hr]
   clear hr
   subst h6
   clear h0 h1 h2 h3 h4 h5
   go_enter Tryz.func27, Tryz.ntmps27
   go_wp2_with fail
   go_ret
   exact ⟨rfl, rfl⟩
 have i6 : (c == 503) = false := beq_eq_false_iff_ne.2 h6
 have hr : bo (reaP c) = ⟨#[79, 116, 104, 101, 114]⟩ := by
   unfold reaP
   rw [if_neg h0, if_neg h1, if_neg h2, if_neg h3, if_neg h4, if_neg h5, if_neg h6]
   rfl
 rw [hr]
 clear hr
 go_enter Tryz.func27, Tryz.ntmps27
 go_wp2_with fail
 go_ret
 exact ⟨rfl, rfl⟩
set_option maxRecDepth 100000 in
theorem mayCode_any (c : Int) (w0 : World) : Calls Tryz.prog 64 #[.int .i64 c] w0 (fun e w' => e = .returned (.bool (codB c)) ∧ w' = w0) := by
 unfold codB
 by_cases h1 : 200 ≤ c
 · by_cases h2 : c ≤ 599
   · rw [decide_eq_true ⟨h1, h2⟩]
     go_enter Tryz.func64, Tryz.ntmps64
     go_wp2_with fail
     go_ret
     exact ⟨rfl, rfl⟩
   · have e2 : decide (c ≤ 599) = false := decide_eq_false h2
     rw [decide_eq_false (fun h => h2 h.2)]
     go_enter Tryz.func64, Tryz.ntmps64
     go_wp2_with fail
     go_ret
     exact ⟨rfl, rfl⟩
 · have e1 : decide (200 ≤ c) = false := decide_eq_false h1
   rw [decide_eq_false (fun h => h1 h.1)]
   go_enter Tryz.func64, Tryz.ntmps64
   go_wp2_with fail
   go_ret
   exact ⟨rfl, rfl⟩
theorem reaP_len (c : Int) : (reaP c).length ≤ 19 := by
 unfold reaP
 repeat' split
 all_goals decide
theorem line_sum (c : Nat) : (⟨#[72, 84, 84, 80, 47, 49, 46, 49, 32]⟩ : ByteArray) ++ bo (decS c) ++ (⟨#[32]⟩ : ByteArray) ++ bo (reaP c) = bo (anLine c) := bytes_ext (by
 simp only [ByteArray.data_append, Array.toList_append, bo_list]
 unfold anLine verL
 simp)
set_option maxRecDepth 100000 in
theorem firstLine_any (c : Nat) (h : codB c = true) (w0 : World) : Calls Tryz.prog 65 #[.int .i64 c] w0 (fun e w' => e = .returned (.string (bo (anLine c))) ∧ Below w0.heap.size w0 w') := by
 have hc : c < 10000 := by
   unfold codB at h
   have := of_decide_eq_true h
   omega
 have LD := hideL (fun W => digits_any c hc W)
 have LR := hideL (reason_any (c : Int))
 have h4 := (decS_len hc).2
 have h19 := reaP_len (c : Int)
 have hs := line_sum c
 rw [← hs]
 have s1 : (bo (decS c)).size ≤ 4 := by rw [bo_size]; exact h4
 have s2 : (bo (reaP (c : Int))).size ≤ 19 := by rw [bo_size]; exact h19
 have n1 : ¬ 9223372036854775807 < 9 + (bo (decS c)).size := by omega
 have n2 : ¬ 9223372036854775807 < 9 + (bo (decS c)).size + 1 := by omega
 have n3 : ¬ 9223372036854775807 < 9 + (bo (decS c)).size + 1 + (bo (reaP (c : Int))).size := by omega
 clear hc h4 h19 hs s1 s2 h
 go_enter Tryz.func65, Tryz.ntmps65
 go_wp2_with (first
   | (go_at_call 101; refine (LD.out _).mono ?_; rintro e w2 ⟨rfl, hB⟩; have HB2 := hideL hB; clear hB)
   | (go_at_call 27; refine (LR.out _).mono ?_; rintro e w3 ⟨rfl, hw⟩; rw [hw]; clear hw w3))
 go_ret
 exact ⟨rfl, HB2.out⟩
end Go.Proofs.YtafmgoekgijfgaaGreatDoor
