/- The document's Of: 1. -/
import Derived.Test.YtafmgoekgijfgaaGreatDoorYRqM2
import Derived.Test.YtafmgoekgijfgaaGreatDoorYRqROf
namespace Go.Proofs.YtafmgoekgijfgaaGreatDoor
open Go.RowKit Go.Lib

set_option maxRecDepth 100000 in
set_option maxHeartbeats 8000000 in
theorem rof_1 (s : ByteArray) (ha : Option Addr) (hn hc : Nat) (ba : Option Addr) (bn bc : Nat) (x : Rw) (w0 : World) (hr : RawAt w0 ⟨s, ⟨ha, hn, hc⟩, ⟨ba, bn, bc⟩⟩ x) (hf : Fits x.heads) (hs0 : s.size ≤ 900000) (hl : x.heads.length ≤ 1000) (hbl : x.body.length ≤ 900000) (h2 : (blaI 0 x.start).length ≠ 2) :
   Calls Tryz.prog 14 #[.agg #[.string s, .slice ha hn hc, .slice ba bn bc]] w0 (fun e w' => e = .returned (.tuple #[.agg #[.string ⟨#[]⟩, .string ⟨#[]⟩, .string ⟨#[]⟩, .string ⟨#[]⟩, .string ⟨#[]⟩, .slice none 0 0, .slice none 0 0], .bool false]) ∧ Below w0.heap.size w0 w') := by
 obtain ⟨hst, gh, gb⟩ := hr
 simp only [Sl.v] at hst gh gb
 have HO0 := hideL (OfSt.first w0 s (.slice ha hn hc) (.slice ba bn bc))
 have LA := fun (W : World) (hb : Below w0.heap.size w0 W) => allR_any hostA (.slice ha hn hc) x.heads W (gh.below hb) hl
 have hfit := allP_fits hf hostA
 obtain ⟨hs, hhs⟩ : ∃ l, allP hostA x.heads = l := ⟨_, rfl⟩
 rw [hhs] at LA hfit
 rw [show hostA = ⟨#[104, 111, 115, 116]⟩ from rfl] at LA
 have LA := hideL LA
 have GH := hideL gh
 have GB := hideL gb
 have HZ := hideL (size_list s)
 have HHS := hideL hhs
 have HHL := hideL hl
 have HBL := hideL hbl
 have HST := hideL hst
 clear hst gh gb hf hl hbl hhs
 go_enter Tryz.func14, Tryz.ntmps14
 go_wp2_with fail
 generalize (w0.alloc (rawC s (.slice ha hn hc) (.slice ba bn bc))).alloc rqO = W0 at *
 go_loopw [4, 5] (fun a i wr => ∃ (k : Nat) (ao : Option Addr) (m c : Nat), i = .int .i64 k ∧ k ≤ s.size ∧ a = .slice ao m c ∧ HidL (OfSt w0 s (.slice ha hn hc) (.slice ba bn bc) wr) ∧ HidL (GRow KI wr (w0.heap.size + 2) (.slice ao m c) ((blaI 0 (s.data.toList.take k)).map Int.ofNat))) (fun _ i _ => s.size - (RowKit.intOf i).toNat)
 case atStart => exact ⟨0, none, 0, 0, rfl, Nat.zero_le _, rfl, HO0, ⟨GRow.nil _ _⟩⟩
 case round =>
   obtain ⟨k, ao, m, c, rfl, hk, rfl, HO, HG⟩ := hrel
   clear HO0
   obtain ⟨W, rfl⟩ : ∃ W, W = wr := ⟨_, rfl⟩
   have c0 := HO.out.raw.c0
   by_cases hlt : k < s.size
   · have hlt' : (k : Int) < (s.size : Int) := by omega
     have hkl : k < s.data.toList.length := by rw [HZ.out]; exact hlt
     have hget : s.data.toList[k] = s[k] := rfl
     have hstep := blaI_step (s := s.data.toList) hkl
     rw [hget] at hstep
     by_cases h32 : s[k] = 32
     · have i32 : ((s[k].toNat : Int) == 32) = true := by rw [h32]; rfl
       rw [if_pos h32] at hstep
       obtain ⟨a4, c4, w4, q1, r1, b1⟩ := push_i W (w0.heap.size + 2) ao m c _ HG.out (k : Int) (by rw [List.length_map]; have := blaI_len (s.data.toList.take k) 0; rw [List.length_take] at this; omega) HO.out.room
       rw [show (blaI 0 (s.data.toList.take k)).map Int.ofNat ++ [(k : Int)] = (blaI 0 (s.data.toList.take (k + 1))).map Int.ofNat from by rw [hstep, List.map_append]; rfl] at q1 r1
       have Q1 := hideL q1
       have HG4 := hideL r1
       have HO4 := hideL (HO.out.nextB b1)
       generalize ((blaI 0 (s.data.toList.take (k + 1))).map Int.ofNat).length = m4 at *
       clear q1 r1 b1 hstep h32 hget HG
       go_wp2_with (at_builtin; refine wpList_append_runP rfl (.tmp 28) (.tmp 30) 75 75 75 rfl rfl _ _ _ w4 rfl rfl Q1.out ?_)
       go_roundw
       case rel => exact ⟨k + 1, a4, m4, c4, by go_num, by omega, rfl, HO4, HG4⟩
       case measure => simp [RowKit.intOf]; omega
     · have i32 : ((s[k].toNat : Int) == 32) = false := by
         rw [beq_eq_false_iff_ne]
         intro e
         exact h32 (UInt8.toNat_inj.1 (show s[k].toNat = (32 : UInt8).toNat from by have : (32 : UInt8).toNat = 32 := rfl; omega))
       rw [if_neg h32, List.append_nil] at hstep
       have hG := HG.out
       rw [← hstep] at hG
       have HG4 := hideL hG
       clear hstep h32 hget HG hG
       go_wp2_with fail
       go_roundw
       case rel => exact ⟨k + 1, ao, m, c, by go_num, by omega, rfl, HO, HG4⟩
       case measure => simp [RowKit.intOf]; omega
   · obtain rfl : k = s.size := by omega
     have hlt' : ¬ (s.size : Int) < (s.size : Int) := by omega
     have hG := HG.out
     rw [List.take_of_length_le (by rw [HZ.out]; exact Nat.le_refl _), HST.out] at hG
     have c1 := HO.out.raw.c1
     obtain ⟨nh, hnh⟩ : ∃ n, hs.length = n := ⟨_, rfl⟩
     clear HG
     have hm := hG.gAt.le.1
     rw [List.length_map] at hm
     have i2 : ((m : Int) != 2) = true := by rw [bne_iff_ne]; omega
     clear hm h2
     go_upto_region 8 with (first
       | (go_at_call 48; (with_reducible refine (LA.out _ HO.out.be).mono ?_); rintro e w2 ⟨r, rfl, hR, hB⟩
          obtain ⟨ra, rc, rfl⟩ := hR.gAt.len
          have HO2 := hideL (HO.out.next hB)
          have HO3 := hideL (HO2.out.next (Below.refl _ _).drew)
          have HG2 := hideL (hG.below hB)
          have HH2 := hideL hR
          rw [hnh] at *
          clear hR hB hG))
     clear c0 c1
     refine wp_region_held_drew (S := fun w' => Below w2.heap.size w2 w') (by kernel_rfl) ((Below.refl _ _).drew) (fun hHeld => ?_)
     refine tl 0 rfl hHeld ?_
     try simp only [pA, pB, pC, pD]
     refine tl 1 rfl hHeld ?_
     try simp only [pA, pB, pC, pD]
     refine tl 2 rfl hHeld ?_
     try simp only [pA, pB, pC, pD]
     refine tl 3 rfl hHeld ?_
     try simp only [pA, pB, pC, pD]
     refine tr 4 rfl hHeld ?_
     try simp only [pA, pB, pC, pD]
     refine tr 5 rfl hHeld ?_
     try simp only [pA, pB, pC, pD]
     refine tr 6 rfl hHeld ?_
     try simp only [pA, pB, pC, pD]
     refine tr 7 rfl hHeld ?_
     try simp only [pA, pB, pC, pD]
     refine tr 8 rfl hHeld ?_
     try simp only [pA, pB, pC, pD]
     refine tr 9 rfl hHeld ?_
     try simp only [pA, pB, pC, pD]
     refine tr 10 rfl hHeld ?_
     try simp only [pA, pB, pC, pD]
     refine tr 11 rfl hHeld ?_
     try simp only [pA, pB, pC, pD]
     refine tl 12 rfl hHeld ?_
     try simp only [pA, pB, pC, pD]
     refine tl 13 rfl hHeld ?_
     try simp only [pA, pB, pC, pD]
     refine tr 14 rfl hHeld ?_
     try simp only [pA, pB, pC, pD]
     refine tr 15 rfl hHeld ?_
     try simp only [pA, pB, pC, pD]
     refine tr 16 rfl hHeld ?_
     try simp only [pA, pB, pC, pD]
     refine tr 17 rfl hHeld ?_
     try simp only [pA, pB, pC, pD]
     refine tl 18 rfl hHeld ?_
     try simp only [pA, pB, pC, pD]
     refine tl 19 rfl hHeld ?_
     try simp only [pA, pB, pC, pD]
     refine tr 20 rfl hHeld ?_
     try simp only [pA, pB, pC, pD]
     refine tr 21 rfl hHeld ?_
     try simp only [pA, pB, pC, pD]
     refine tr 22 rfl hHeld ?_
     try simp only [pA, pB, pC, pD]
     refine tr 23 rfl hHeld ?_
     try simp only [pA, pB, pC, pD]
     refine tl 24 rfl hHeld ?_
     try simp only [pA, pB, pC, pD]
     refine tl 25 rfl hHeld ?_
     try simp only [pA, pB, pC, pD]
     refine tr 26 rfl hHeld ?_
     try simp only [pA, pB, pC, pD]
     refine tr 27 rfl hHeld ?_
     try simp only [pA, pB, pC, pD]
     refine tr 28 rfl hHeld ?_
     try simp only [pA, pB, pC, pD]
     refine tl 29 rfl hHeld ?_
     try simp only [pA, pB, pC, pD]
     refine wpAnyH_done (by kernel_rfl) ?_ _
     clear hHeld
     generalize w2.drew = W3 at *
     have q0 := HO3.out.res.c0
     have q1 := HO3.out.res.c1
     have q2 := HO3.out.res.c2
     have q3 := HO3.out.res.c3
     have q4 := HO3.out.res.c4
     have q5 := HO3.out.res.c5
     have q6 := HO3.out.res.c6
     have z0 := HO3.out.res.fz 0
     have z1 := HO3.out.res.fz 1
     have z2 := HO3.out.res.fz 2
     have z3 := HO3.out.res.fz 3
     have z4 := HO3.out.res.fz 4
     have z5 := HO3.out.res.fz 5
     have z6 := HO3.out.res.fz 6
     go_wp2_with fail
     exact bodyPost_ret (v := .tuple #[.agg #[.string ⟨#[]⟩, .string ⟨#[]⟩, .string ⟨#[]⟩, .string ⟨#[]⟩, .string ⟨#[]⟩, .slice none 0 0, .slice none 0 0], .bool false]) (by
       have hy := HO3.out.res.st7 (.string ⟨#[]⟩) (.string ⟨#[]⟩) (.string ⟨#[]⟩) (.string ⟨#[]⟩) (.string ⟨#[]⟩) (.slice none 0 0) (.slice none 0 0)
       have r0 := hy.c0
       have r1 := hy.c1
       have r2 := hy.c2
       have r3 := hy.c3
       have r4 := hy.c4
       have r5 := hy.c5
       have r6 := hy.c6
       simp [results, Tryz.results14, go_sem, r0, r1, r2, r3, r4, r5, r6]) rfl ⟨rfl, below_st7 HO3.out.be (Nat.le_succ _)⟩
set_option maxRecDepth 100000 in
set_option maxHeartbeats 8000000 in
theorem rof_2 (s : ByteArray) (ha : Option Addr) (hn hc : Nat) (ba : Option Addr) (bn bc : Nat) (x : Rw) (w0 : World) (hr : RawAt w0 ⟨s, ⟨ha, hn, hc⟩, ⟨ba, bn, bc⟩⟩ x) (hf : Fits x.heads) (hs0 : s.size ≤ 900000) (hl : x.heads.length ≤ 1000) (hbl : x.body.length ≤ 900000) {i j : Nat} (hI : blaI 0 x.start = [i, j]) (hv : x.start.drop (j + 1) ≠ http11) :
   Calls Tryz.prog 14 #[.agg #[.string s, .slice ha hn hc, .slice ba bn bc]] w0 (fun e w' => e = .returned (.tuple #[.agg #[.string ⟨#[]⟩, .string ⟨#[]⟩, .string ⟨#[]⟩, .string ⟨#[]⟩, .string ⟨#[]⟩, .slice none 0 0, .slice none 0 0], .bool false]) ∧ Below w0.heap.size w0 w') := by
 obtain ⟨hst, gh, gb⟩ := hr
 simp only [Sl.v] at hst gh gb
 have HO0 := hideL (OfSt.first w0 s (.slice ha hn hc) (.slice ba bn bc))
 have LA := fun (W : World) (hb : Below w0.heap.size w0 W) => allR_any hostA (.slice ha hn hc) x.heads W (gh.below hb) hl
 have hfit := allP_fits hf hostA
 obtain ⟨hs, hhs⟩ : ∃ l, allP hostA x.heads = l := ⟨_, rfl⟩
 rw [hhs] at LA hfit
 rw [show hostA = ⟨#[104, 111, 115, 116]⟩ from rfl] at LA
 have LA := hideL LA
 have GH := hideL gh
 have GB := hideL gb
 have HZ := hideL (size_list s)
 have HHS := hideL hhs
 have HHL := hideL hl
 have HBL := hideL hbl
 have HST := hideL hst
 clear hst gh gb hf hl hbl hhs
 go_enter Tryz.func14, Tryz.ntmps14
 go_wp2_with fail
 generalize (w0.alloc (rawC s (.slice ha hn hc) (.slice ba bn bc))).alloc rqO = W0 at *
 go_loopw [4, 5] (fun a i wr => ∃ (k : Nat) (ao : Option Addr) (m c : Nat), i = .int .i64 k ∧ k ≤ s.size ∧ a = .slice ao m c ∧ HidL (OfSt w0 s (.slice ha hn hc) (.slice ba bn bc) wr) ∧ HidL (GRow KI wr (w0.heap.size + 2) (.slice ao m c) ((blaI 0 (s.data.toList.take k)).map Int.ofNat))) (fun _ i _ => s.size - (RowKit.intOf i).toNat)
 case atStart => exact ⟨0, none, 0, 0, rfl, Nat.zero_le _, rfl, HO0, ⟨GRow.nil _ _⟩⟩
 case round =>
   obtain ⟨k, ao, m, c, rfl, hk, rfl, HO, HG⟩ := hrel
   clear HO0
   obtain ⟨W, rfl⟩ : ∃ W, W = wr := ⟨_, rfl⟩
   have c0 := HO.out.raw.c0
   by_cases hlt : k < s.size
   · have hlt' : (k : Int) < (s.size : Int) := by omega
     have hkl : k < s.data.toList.length := by rw [HZ.out]; exact hlt
     have hget : s.data.toList[k] = s[k] := rfl
     have hstep := blaI_step (s := s.data.toList) hkl
     rw [hget] at hstep
     by_cases h32 : s[k] = 32
     · have i32 : ((s[k].toNat : Int) == 32) = true := by rw [h32]; rfl
       rw [if_pos h32] at hstep
       obtain ⟨a4, c4, w4, q1, r1, b1⟩ := push_i W (w0.heap.size + 2) ao m c _ HG.out (k : Int) (by rw [List.length_map]; have := blaI_len (s.data.toList.take k) 0; rw [List.length_take] at this; omega) HO.out.room
       rw [show (blaI 0 (s.data.toList.take k)).map Int.ofNat ++ [(k : Int)] = (blaI 0 (s.data.toList.take (k + 1))).map Int.ofNat from by rw [hstep, List.map_append]; rfl] at q1 r1
       have Q1 := hideL q1
       have HG4 := hideL r1
       have HO4 := hideL (HO.out.nextB b1)
       generalize ((blaI 0 (s.data.toList.take (k + 1))).map Int.ofNat).length = m4 at *
       clear q1 r1 b1 hstep h32 hget HG
       go_wp2_with (at_builtin; refine wpList_append_runP rfl (.tmp 28) (.tmp 30) 75 75 75 rfl rfl _ _ _ w4 rfl rfl Q1.out ?_)
       go_roundw
       case rel => exact ⟨k + 1, a4, m4, c4, by go_num, by omega, rfl, HO4, HG4⟩
       case measure => simp [RowKit.intOf]; omega
     · have i32 : ((s[k].toNat : Int) == 32) = false := by
         rw [beq_eq_false_iff_ne]
         intro e
         exact h32 (UInt8.toNat_inj.1 (show s[k].toNat = (32 : UInt8).toNat from by have : (32 : UInt8).toNat = 32 := rfl; omega))
       rw [if_neg h32, List.append_nil] at hstep
       have hG := HG.out
       rw [← hstep] at hG
       have HG4 := hideL hG
       clear hstep h32 hget HG hG
       go_wp2_with fail
       go_roundw
       case rel => exact ⟨k + 1, ao, m, c, by go_num, by omega, rfl, HO, HG4⟩
       case measure => simp [RowKit.intOf]; omega
   · obtain rfl : k = s.size := by omega
     have hlt' : ¬ (s.size : Int) < (s.size : Int) := by omega
     have hG := HG.out
     rw [List.take_of_length_le (by rw [HZ.out]; exact Nat.le_refl _), HST.out] at hG
     have c1 := HO.out.raw.c1
     obtain ⟨nh, hnh⟩ : ∃ n, hs.length = n := ⟨_, rfl⟩
     clear HG
     rw [hI] at hG
     obtain ⟨hij, hjn, _⟩ := blaS_at hI
     rw [← HST.out, HZ.out] at hjn
     obtain ⟨g, rfl, rfl, _, _, _⟩ := two_ints hG
     have hw1 : IntKind.i64.wrap ((j : Int) + 1) = (j : Int) + 1 := by rw [IntWalk.i64_in _ (by omega)]
     have hj1 : (j : Int) + 1 ≤ (s.size : Int) := by omega
     have hj2 : (0 : Int) ≤ (j : Int) + 1 := by omega
     have hj3 : ((j : Int) + 1).toNat = j + 1 := by omega
     have hjs : j + 1 ≤ s.size := by omega
     obtain ⟨T, hT⟩ : ∃ T, bo (x.start.drop (j + 1)) = T := ⟨_, rfl⟩
     have e2 : s.extract (j + 1) s.size = T := by rw [bo_ext, HST.out, List.take_of_length_le (by rw [List.length_drop, ← HST.out, HZ.out]; exact Nat.le_refl _), hT]
     have e8 : (T.toList == [72, 84, 84, 80, 47, 49, 46, 49]) = false := by
       have := eqs_false (s := T) (t := ⟨#[72, 84, 84, 80, 47, 49, 46, 49]⟩) (fun e => hv (by have := congrArg (fun b : ByteArray => b.data.toList) (hT.trans e); exact this))
       rwa [ByteArray.toList_eq ⟨#[72, 84, 84, 80, 47, 49, 46, 49]⟩] at this
     have hti : (x.start.take i).length = i := by rw [List.length_take, ← HST.out, HZ.out]; omega
     have HTI := hideL hti
     have HI0 := hideL hI
     have HV := hideL hv
     clear hT hti hI hv
     go_upto_region 8 with (first
       | (go_at_call 48; (with_reducible refine (LA.out _ HO.out.be).mono ?_); rintro e w2 ⟨r, rfl, hR, hB⟩
          obtain ⟨ra, rc, rfl⟩ := hR.gAt.len
          have HO2 := hideL (HO.out.next hB)
          have HO3 := hideL (HO2.out.next (Below.refl _ _).drew)
          have HG2 := hideL (hG.below hB)
          have HH2 := hideL hR
          rw [hnh] at *
          obtain ⟨_, e9, _, a0, a1, hg9⟩ := two_ints HG2.out
          injection e9 with e9
          injection e9 with e9 _ _
          subst e9
          have A0 := hideL a0
          have A1 := hideL a1
          have HLG := hideL hg9
          have C0 := hideL HO2.out.raw.c0
          have HLT := hideL HO2.out.raw.lt
          clear a0 a1 hg9
          clear hR hB hG))
     clear c0 c1
     refine wp_region_held_drew (S := fun w' => Below w2.heap.size w2 w') (by kernel_rfl) ((Below.refl _ _).drew) (fun hHeld => ?_)
     refine tl 0 rfl hHeld ?_
     try simp only [pA, pB, pC, pD]
     refine tl 1 rfl hHeld ?_
     try simp only [pA, pB, pC, pD]
     refine tl 2 rfl hHeld ?_
     try simp only [pA, pB, pC, pD]
     refine tl 3 rfl hHeld ?_
     try simp only [pA, pB, pC, pD]
     refine tl 4 rfl hHeld ?_
     try simp only [pA, pB, pC, pD]
     refine tm 5 (v := ?_) rfl hHeld ?_ ?_
     rotate_left
     · intro w hSw; (try dsimp only at hSw); have p0 := (hSw.cell (p := ⟨w0.heap.size, 0, none⟩) HLT.out).trans C0.out; have a0 := (hSw.cell (p := ⟨g, 0, none⟩) HLG.out).trans A0.out; have a1 := (hSw.cell (p := ⟨g, 1, none⟩) HLG.out).trans A1.out; go_simp; first | done | with_reducible rfl
     try simp only [pA, pB, pC, pD]
     refine tl 6 rfl hHeld ?_
     try simp only [pA, pB, pC, pD]
     refine tl 7 rfl hHeld ?_
     try simp only [pA, pB, pC, pD]
     refine tm 8 (v := ?_) rfl hHeld ?_ ?_
     rotate_left
     · intro w hSw; (try dsimp only at hSw); have p0 := (hSw.cell (p := ⟨w0.heap.size, 0, none⟩) HLT.out).trans C0.out; have a0 := (hSw.cell (p := ⟨g, 0, none⟩) HLG.out).trans A0.out; have a1 := (hSw.cell (p := ⟨g, 1, none⟩) HLG.out).trans A1.out; go_simp; first | done | with_reducible rfl
     try simp only [pA, pB, pC, pD]
     refine tl 9 rfl hHeld ?_
     try simp only [pA, pB, pC, pD]
     refine tl 10 rfl hHeld ?_
     try simp only [pA, pB, pC, pD]
     refine tl 11 rfl hHeld ?_
     try simp only [pA, pB, pC, pD]
     refine tl 12 rfl hHeld ?_
     try simp only [pA, pB, pC, pD]
     refine tl 13 rfl hHeld ?_
     try simp only [pA, pB, pC, pD]
     refine tr 14 rfl hHeld ?_
     try simp only [pA, pB, pC, pD]
     refine tr 15 rfl hHeld ?_
     try simp only [pA, pB, pC, pD]
     refine tr 16 rfl hHeld ?_
     try simp only [pA, pB, pC, pD]
     refine tr 17 rfl hHeld ?_
     try simp only [pA, pB, pC, pD]
     refine tl 18 rfl hHeld ?_
     try simp only [pA, pB, pC, pD]
     refine tl 19 rfl hHeld ?_
     try simp only [pA, pB, pC, pD]
     refine tr 20 rfl hHeld ?_
     try simp only [pA, pB, pC, pD]
     refine tr 21 rfl hHeld ?_
     try simp only [pA, pB, pC, pD]
     refine tr 22 rfl hHeld ?_
     try simp only [pA, pB, pC, pD]
     refine tr 23 rfl hHeld ?_
     try simp only [pA, pB, pC, pD]
     refine tl 24 rfl hHeld ?_
     try simp only [pA, pB, pC, pD]
     refine tl 25 rfl hHeld ?_
     try simp only [pA, pB, pC, pD]
     refine tr 26 rfl hHeld ?_
     try simp only [pA, pB, pC, pD]
     refine tr 27 rfl hHeld ?_
     try simp only [pA, pB, pC, pD]
     refine tr 28 rfl hHeld ?_
     try simp only [pA, pB, pC, pD]
     refine tl 29 rfl hHeld ?_
     try simp only [pA, pB, pC, pD]
     refine wpAnyH_done (by kernel_rfl) ?_ _
     clear hHeld
     generalize w2.drew = W3 at *
     have q0 := HO3.out.res.c0
     have q1 := HO3.out.res.c1
     have q2 := HO3.out.res.c2
     have q3 := HO3.out.res.c3
     have q4 := HO3.out.res.c4
     have q5 := HO3.out.res.c5
     have q6 := HO3.out.res.c6
     have z0 := HO3.out.res.fz 0
     have z1 := HO3.out.res.fz 1
     have z2 := HO3.out.res.fz 2
     have z3 := HO3.out.res.fz 3
     have z4 := HO3.out.res.fz 4
     have z5 := HO3.out.res.fz 5
     have z6 := HO3.out.res.fz 6
     go_wp2_with fail
     exact bodyPost_ret (v := .tuple #[.agg #[.string ⟨#[]⟩, .string ⟨#[]⟩, .string ⟨#[]⟩, .string ⟨#[]⟩, .string ⟨#[]⟩, .slice none 0 0, .slice none 0 0], .bool false]) (by
       have hy := HO3.out.res.st7 (.string ⟨#[]⟩) (.string ⟨#[]⟩) (.string ⟨#[]⟩) (.string ⟨#[]⟩) (.string ⟨#[]⟩) (.slice none 0 0) (.slice none 0 0)
       have r0 := hy.c0
       have r1 := hy.c1
       have r2 := hy.c2
       have r3 := hy.c3
       have r4 := hy.c4
       have r5 := hy.c5
       have r6 := hy.c6
       simp [results, Tryz.results14, go_sem, r0, r1, r2, r3, r4, r5, r6]) rfl ⟨rfl, below_st7 HO3.out.be (Nat.le_succ _)⟩
set_option maxRecDepth 100000 in
set_option maxHeartbeats 8000000 in
theorem rof_3 (s : ByteArray) (ha : Option Addr) (hn hc : Nat) (ba : Option Addr) (bn bc : Nat) (x : Rw) (w0 : World) (hr : RawAt w0 ⟨s, ⟨ha, hn, hc⟩, ⟨ba, bn, bc⟩⟩ x) (hf : Fits x.heads) (hs0 : s.size ≤ 900000) (hl : x.heads.length ≤ 1000) (hbl : x.body.length ≤ 900000) {i j : Nat} (hI : blaI 0 x.start = [i, j]) (hv : x.start.drop (j + 1) = http11) (hi1 : i < 1) :
   Calls Tryz.prog 14 #[.agg #[.string s, .slice ha hn hc, .slice ba bn bc]] w0 (fun e w' => e = .returned (.tuple #[.agg #[.string ⟨#[]⟩, .string ⟨#[]⟩, .string ⟨#[]⟩, .string ⟨#[]⟩, .string ⟨#[]⟩, .slice none 0 0, .slice none 0 0], .bool false]) ∧ Below w0.heap.size w0 w') := by
 obtain ⟨hst, gh, gb⟩ := hr
 simp only [Sl.v] at hst gh gb
 have HO0 := hideL (OfSt.first w0 s (.slice ha hn hc) (.slice ba bn bc))
 have LA := fun (W : World) (hb : Below w0.heap.size w0 W) => allR_any hostA (.slice ha hn hc) x.heads W (gh.below hb) hl
 have hfit := allP_fits hf hostA
 obtain ⟨hs, hhs⟩ : ∃ l, allP hostA x.heads = l := ⟨_, rfl⟩
 rw [hhs] at LA hfit
 rw [show hostA = ⟨#[104, 111, 115, 116]⟩ from rfl] at LA
 have LA := hideL LA
 have GH := hideL gh
 have GB := hideL gb
 have HZ := hideL (size_list s)
 have HHS := hideL hhs
 have HHL := hideL hl
 have HBL := hideL hbl
 have HST := hideL hst
 clear hst gh gb hf hl hbl hhs
 go_enter Tryz.func14, Tryz.ntmps14
 go_wp2_with fail
 generalize (w0.alloc (rawC s (.slice ha hn hc) (.slice ba bn bc))).alloc rqO = W0 at *
 go_loopw [4, 5] (fun a i wr => ∃ (k : Nat) (ao : Option Addr) (m c : Nat), i = .int .i64 k ∧ k ≤ s.size ∧ a = .slice ao m c ∧ HidL (OfSt w0 s (.slice ha hn hc) (.slice ba bn bc) wr) ∧ HidL (GRow KI wr (w0.heap.size + 2) (.slice ao m c) ((blaI 0 (s.data.toList.take k)).map Int.ofNat))) (fun _ i _ => s.size - (RowKit.intOf i).toNat)
 case atStart => exact ⟨0, none, 0, 0, rfl, Nat.zero_le _, rfl, HO0, ⟨GRow.nil _ _⟩⟩
 case round =>
   obtain ⟨k, ao, m, c, rfl, hk, rfl, HO, HG⟩ := hrel
   clear HO0
   obtain ⟨W, rfl⟩ : ∃ W, W = wr := ⟨_, rfl⟩
   have c0 := HO.out.raw.c0
   by_cases hlt : k < s.size
   · have hlt' : (k : Int) < (s.size : Int) := by omega
     have hkl : k < s.data.toList.length := by rw [HZ.out]; exact hlt
     have hget : s.data.toList[k] = s[k] := rfl
     have hstep := blaI_step (s := s.data.toList) hkl
     rw [hget] at hstep
     by_cases h32 : s[k] = 32
     · have i32 : ((s[k].toNat : Int) == 32) = true := by rw [h32]; rfl
       rw [if_pos h32] at hstep
       obtain ⟨a4, c4, w4, q1, r1, b1⟩ := push_i W (w0.heap.size + 2) ao m c _ HG.out (k : Int) (by rw [List.length_map]; have := blaI_len (s.data.toList.take k) 0; rw [List.length_take] at this; omega) HO.out.room
       rw [show (blaI 0 (s.data.toList.take k)).map Int.ofNat ++ [(k : Int)] = (blaI 0 (s.data.toList.take (k + 1))).map Int.ofNat from by rw [hstep, List.map_append]; rfl] at q1 r1
       have Q1 := hideL q1
       have HG4 := hideL r1
       have HO4 := hideL (HO.out.nextB b1)
       generalize ((blaI 0 (s.data.toList.take (k + 1))).map Int.ofNat).length = m4 at *
       clear q1 r1 b1 hstep h32 hget HG
       go_wp2_with (at_builtin; refine wpList_append_runP rfl (.tmp 28) (.tmp 30) 75 75 75 rfl rfl _ _ _ w4 rfl rfl Q1.out ?_)
       go_roundw
       case rel => exact ⟨k + 1, a4, m4, c4, by go_num, by omega, rfl, HO4, HG4⟩
       case measure => simp [RowKit.intOf]; omega
     · have i32 : ((s[k].toNat : Int) == 32) = false := by
         rw [beq_eq_false_iff_ne]
         intro e
         exact h32 (UInt8.toNat_inj.1 (show s[k].toNat = (32 : UInt8).toNat from by have : (32 : UInt8).toNat = 32 := rfl; omega))
       rw [if_neg h32, List.append_nil] at hstep
       have hG := HG.out
       rw [← hstep] at hG
       have HG4 := hideL hG
       clear hstep h32 hget HG hG
       go_wp2_with fail
       go_roundw
       case rel => exact ⟨k + 1, ao, m, c, by go_num, by omega, rfl, HO, HG4⟩
       case measure => simp [RowKit.intOf]; omega
   · obtain rfl : k = s.size := by omega
     have hlt' : ¬ (s.size : Int) < (s.size : Int) := by omega
     have hG := HG.out
     rw [List.take_of_length_le (by rw [HZ.out]; exact Nat.le_refl _), HST.out] at hG
     have c1 := HO.out.raw.c1
     obtain ⟨nh, hnh⟩ : ∃ n, hs.length = n := ⟨_, rfl⟩
     clear HG
     rw [hI] at hG
     obtain ⟨hij, hjn, _⟩ := blaS_at hI
     rw [← HST.out, HZ.out] at hjn
     obtain ⟨g, rfl, rfl, _, _, _⟩ := two_ints hG
     have hw1 : IntKind.i64.wrap ((j : Int) + 1) = (j : Int) + 1 := by rw [IntWalk.i64_in _ (by omega)]
     have hj1 : (j : Int) + 1 ≤ (s.size : Int) := by omega
     have hj2 : (0 : Int) ≤ (j : Int) + 1 := by omega
     have hj3 : ((j : Int) + 1).toNat = j + 1 := by omega
     have hjs : j + 1 ≤ s.size := by omega
     obtain ⟨T, hT⟩ : ∃ T, bo (x.start.drop (j + 1)) = T := ⟨_, rfl⟩
     have e2 : s.extract (j + 1) s.size = T := by rw [bo_ext, HST.out, List.take_of_length_le (by rw [List.length_drop, ← HST.out, HZ.out]; exact Nat.le_refl _), hT]
     have e8 : (T.toList == [72, 84, 84, 80, 47, 49, 46, 49]) = true := by
       have := eqs_true (s := T) (t := ⟨#[72, 84, 84, 80, 47, 49, 46, 49]⟩) (by rw [← hT, hv]; rfl)
       rwa [ByteArray.toList_eq ⟨#[72, 84, 84, 80, 47, 49, 46, 49]⟩] at this
     have hti : (x.start.take i).length = i := by rw [List.length_take, ← HST.out, HZ.out]; omega
     have HTI := hideL hti
     have HI0 := hideL hI
     have HV := hideL hv
     clear hT hti hI hv
     have i3 : (i : Int) < 1 := by omega
     clear hi1
     go_upto_region 8 with (first
       | (go_at_call 48; (with_reducible refine (LA.out _ HO.out.be).mono ?_); rintro e w2 ⟨r, rfl, hR, hB⟩
          obtain ⟨ra, rc, rfl⟩ := hR.gAt.len
          have HO2 := hideL (HO.out.next hB)
          have HO3 := hideL (HO2.out.next (Below.refl _ _).drew)
          have HG2 := hideL (hG.below hB)
          have HH2 := hideL hR
          rw [hnh] at *
          obtain ⟨_, e9, _, a0, a1, hg9⟩ := two_ints HG2.out
          injection e9 with e9
          injection e9 with e9 _ _
          subst e9
          have A0 := hideL a0
          have A1 := hideL a1
          have HLG := hideL hg9
          have C0 := hideL HO2.out.raw.c0
          have HLT := hideL HO2.out.raw.lt
          clear a0 a1 hg9
          clear hR hB hG))
     clear c0 c1
     refine wp_region_held_drew (S := fun w' => Below w2.heap.size w2 w') (by kernel_rfl) ((Below.refl _ _).drew) (fun hHeld => ?_)
     refine tl 0 rfl hHeld ?_
     try simp only [pA, pB, pC, pD]
     refine tl 1 rfl hHeld ?_
     try simp only [pA, pB, pC, pD]
     refine tl 2 rfl hHeld ?_
     try simp only [pA, pB, pC, pD]
     refine tl 3 rfl hHeld ?_
     try simp only [pA, pB, pC, pD]
     refine tl 4 rfl hHeld ?_
     try simp only [pA, pB, pC, pD]
     refine tm 5 (v := ?_) rfl hHeld ?_ ?_
     rotate_left
     · intro w hSw; (try dsimp only at hSw); have p0 := (hSw.cell (p := ⟨w0.heap.size, 0, none⟩) HLT.out).trans C0.out; have a0 := (hSw.cell (p := ⟨g, 0, none⟩) HLG.out).trans A0.out; have a1 := (hSw.cell (p := ⟨g, 1, none⟩) HLG.out).trans A1.out; go_simp; first | done | with_reducible rfl
     try simp only [pA, pB, pC, pD]
     refine tl 6 rfl hHeld ?_
     try simp only [pA, pB, pC, pD]
     refine tl 7 rfl hHeld ?_
     try simp only [pA, pB, pC, pD]
     refine tm 8 (v := ?_) rfl hHeld ?_ ?_
     rotate_left
     · intro w hSw; (try dsimp only at hSw); have p0 := (hSw.cell (p := ⟨w0.heap.size, 0, none⟩) HLT.out).trans C0.out; have a0 := (hSw.cell (p := ⟨g, 0, none⟩) HLG.out).trans A0.out; have a1 := (hSw.cell (p := ⟨g, 1, none⟩) HLG.out).trans A1.out; go_simp; first | done | with_reducible rfl
     try simp only [pA, pB, pC, pD]
     refine tl 9 rfl hHeld ?_
     try simp only [pA, pB, pC, pD]
     refine tl 10 rfl hHeld ?_
     try simp only [pA, pB, pC, pD]
     refine tl 11 rfl hHeld ?_
     try simp only [pA, pB, pC, pD]
     refine tl 12 rfl hHeld ?_
     try simp only [pA, pB, pC, pD]
     refine tl 13 rfl hHeld ?_
     try simp only [pA, pB, pC, pD]
     refine tl 14 rfl hHeld ?_
     try simp only [pA, pB, pC, pD]
     refine tl 15 rfl hHeld ?_
     try simp only [pA, pB, pC, pD]
     refine tm 16 (v := ?_) rfl hHeld ?_ ?_
     rotate_left
     · intro w hSw; (try dsimp only at hSw); have p0 := (hSw.cell (p := ⟨w0.heap.size, 0, none⟩) HLT.out).trans C0.out; have a0 := (hSw.cell (p := ⟨g, 0, none⟩) HLG.out).trans A0.out; have a1 := (hSw.cell (p := ⟨g, 1, none⟩) HLG.out).trans A1.out; go_simp; first | done | with_reducible rfl
     try simp only [pA, pB, pC, pD]
     refine tl 17 rfl hHeld ?_
     try simp only [pA, pB, pC, pD]
     refine tl 18 rfl hHeld ?_
     try simp only [pA, pB, pC, pD]
     refine tl 19 rfl hHeld ?_
     try simp only [pA, pB, pC, pD]
     refine tr 20 rfl hHeld ?_
     try simp only [pA, pB, pC, pD]
     refine tr 21 rfl hHeld ?_
     try simp only [pA, pB, pC, pD]
     refine tr 22 rfl hHeld ?_
     try simp only [pA, pB, pC, pD]
     refine tr 23 rfl hHeld ?_
     try simp only [pA, pB, pC, pD]
     refine tl 24 rfl hHeld ?_
     try simp only [pA, pB, pC, pD]
     refine tl 25 rfl hHeld ?_
     try simp only [pA, pB, pC, pD]
     refine tr 26 rfl hHeld ?_
     try simp only [pA, pB, pC, pD]
     refine tr 27 rfl hHeld ?_
     try simp only [pA, pB, pC, pD]
     refine tr 28 rfl hHeld ?_
     try simp only [pA, pB, pC, pD]
     refine tl 29 rfl hHeld ?_
     try simp only [pA, pB, pC, pD]
     refine wpAnyH_done (by kernel_rfl) ?_ _
     clear hHeld
     generalize w2.drew = W3 at *
     have q0 := HO3.out.res.c0
     have q1 := HO3.out.res.c1
     have q2 := HO3.out.res.c2
     have q3 := HO3.out.res.c3
     have q4 := HO3.out.res.c4
     have q5 := HO3.out.res.c5
     have q6 := HO3.out.res.c6
     have z0 := HO3.out.res.fz 0
     have z1 := HO3.out.res.fz 1
     have z2 := HO3.out.res.fz 2
     have z3 := HO3.out.res.fz 3
     have z4 := HO3.out.res.fz 4
     have z5 := HO3.out.res.fz 5
     have z6 := HO3.out.res.fz 6
     go_wp2_with fail
     exact bodyPost_ret (v := .tuple #[.agg #[.string ⟨#[]⟩, .string ⟨#[]⟩, .string ⟨#[]⟩, .string ⟨#[]⟩, .string ⟨#[]⟩, .slice none 0 0, .slice none 0 0], .bool false]) (by
       have hy := HO3.out.res.st7 (.string ⟨#[]⟩) (.string ⟨#[]⟩) (.string ⟨#[]⟩) (.string ⟨#[]⟩) (.string ⟨#[]⟩) (.slice none 0 0) (.slice none 0 0)
       have r0 := hy.c0
       have r1 := hy.c1
       have r2 := hy.c2
       have r3 := hy.c3
       have r4 := hy.c4
       have r5 := hy.c5
       have r6 := hy.c6
       simp [results, Tryz.results14, go_sem, r0, r1, r2, r3, r4, r5, r6]) rfl ⟨rfl, below_st7 HO3.out.be (Nat.le_succ _)⟩
set_option maxRecDepth 100000 in
set_option maxHeartbeats 8000000 in
theorem rof_4 (s : ByteArray) (ha : Option Addr) (hn hc : Nat) (ba : Option Addr) (bn bc : Nat) (x : Rw) (w0 : World) (hr : RawAt w0 ⟨s, ⟨ha, hn, hc⟩, ⟨ba, bn, bc⟩⟩ x) (hf : Fits x.heads) (hs0 : s.size ≤ 900000) (hl : x.heads.length ≤ 1000) (hbl : x.body.length ≤ 900000) {i j : Nat} (hI : blaI 0 x.start = [i, j]) (hv : x.start.drop (j + 1) = http11) (_hi1 : ¬ i < 1) (hi16 : 16 < i) :
   Calls Tryz.prog 14 #[.agg #[.string s, .slice ha hn hc, .slice ba bn bc]] w0 (fun e w' => e = .returned (.tuple #[.agg #[.string ⟨#[]⟩, .string ⟨#[]⟩, .string ⟨#[]⟩, .string ⟨#[]⟩, .string ⟨#[]⟩, .slice none 0 0, .slice none 0 0], .bool false]) ∧ Below w0.heap.size w0 w') := by
 obtain ⟨hst, gh, gb⟩ := hr
 simp only [Sl.v] at hst gh gb
 have HO0 := hideL (OfSt.first w0 s (.slice ha hn hc) (.slice ba bn bc))
 have LA := fun (W : World) (hb : Below w0.heap.size w0 W) => allR_any hostA (.slice ha hn hc) x.heads W (gh.below hb) hl
 have hfit := allP_fits hf hostA
 obtain ⟨hs, hhs⟩ : ∃ l, allP hostA x.heads = l := ⟨_, rfl⟩
 rw [hhs] at LA hfit
 rw [show hostA = ⟨#[104, 111, 115, 116]⟩ from rfl] at LA
 have LA := hideL LA
 have GH := hideL gh
 have GB := hideL gb
 have HZ := hideL (size_list s)
 have HHS := hideL hhs
 have HHL := hideL hl
 have HBL := hideL hbl
 have HST := hideL hst
 clear hst gh gb hf hl hbl hhs
 go_enter Tryz.func14, Tryz.ntmps14
 go_wp2_with fail
 generalize (w0.alloc (rawC s (.slice ha hn hc) (.slice ba bn bc))).alloc rqO = W0 at *
 go_loopw [4, 5] (fun a i wr => ∃ (k : Nat) (ao : Option Addr) (m c : Nat), i = .int .i64 k ∧ k ≤ s.size ∧ a = .slice ao m c ∧ HidL (OfSt w0 s (.slice ha hn hc) (.slice ba bn bc) wr) ∧ HidL (GRow KI wr (w0.heap.size + 2) (.slice ao m c) ((blaI 0 (s.data.toList.take k)).map Int.ofNat))) (fun _ i _ => s.size - (RowKit.intOf i).toNat)
 case atStart => exact ⟨0, none, 0, 0, rfl, Nat.zero_le _, rfl, HO0, ⟨GRow.nil _ _⟩⟩
 case round =>
   obtain ⟨k, ao, m, c, rfl, hk, rfl, HO, HG⟩ := hrel
   clear HO0
   obtain ⟨W, rfl⟩ : ∃ W, W = wr := ⟨_, rfl⟩
   have c0 := HO.out.raw.c0
   by_cases hlt : k < s.size
   · have hlt' : (k : Int) < (s.size : Int) := by omega
     have hkl : k < s.data.toList.length := by rw [HZ.out]; exact hlt
     have hget : s.data.toList[k] = s[k] := rfl
     have hstep := blaI_step (s := s.data.toList) hkl
     rw [hget] at hstep
     by_cases h32 : s[k] = 32
     · have i32 : ((s[k].toNat : Int) == 32) = true := by rw [h32]; rfl
       rw [if_pos h32] at hstep
       obtain ⟨a4, c4, w4, q1, r1, b1⟩ := push_i W (w0.heap.size + 2) ao m c _ HG.out (k : Int) (by rw [List.length_map]; have := blaI_len (s.data.toList.take k) 0; rw [List.length_take] at this; omega) HO.out.room
       rw [show (blaI 0 (s.data.toList.take k)).map Int.ofNat ++ [(k : Int)] = (blaI 0 (s.data.toList.take (k + 1))).map Int.ofNat from by rw [hstep, List.map_append]; rfl] at q1 r1
       have Q1 := hideL q1
       have HG4 := hideL r1
       have HO4 := hideL (HO.out.nextB b1)
       generalize ((blaI 0 (s.data.toList.take (k + 1))).map Int.ofNat).length = m4 at *
       clear q1 r1 b1 hstep h32 hget HG
       go_wp2_with (at_builtin; refine wpList_append_runP rfl (.tmp 28) (.tmp 30) 75 75 75 rfl rfl _ _ _ w4 rfl rfl Q1.out ?_)
       go_roundw
       case rel => exact ⟨k + 1, a4, m4, c4, by go_num, by omega, rfl, HO4, HG4⟩
       case measure => simp [RowKit.intOf]; omega
     · have i32 : ((s[k].toNat : Int) == 32) = false := by
         rw [beq_eq_false_iff_ne]
         intro e
         exact h32 (UInt8.toNat_inj.1 (show s[k].toNat = (32 : UInt8).toNat from by have : (32 : UInt8).toNat = 32 := rfl; omega))
       rw [if_neg h32, List.append_nil] at hstep
       have hG := HG.out
       rw [← hstep] at hG
       have HG4 := hideL hG
       clear hstep h32 hget HG hG
       go_wp2_with fail
       go_roundw
       case rel => exact ⟨k + 1, ao, m, c, by go_num, by omega, rfl, HO, HG4⟩
       case measure => simp [RowKit.intOf]; omega
   · obtain rfl : k = s.size := by omega
     have hlt' : ¬ (s.size : Int) < (s.size : Int) := by omega
     have hG := HG.out
     rw [List.take_of_length_le (by rw [HZ.out]; exact Nat.le_refl _), HST.out] at hG
     have c1 := HO.out.raw.c1
     obtain ⟨nh, hnh⟩ : ∃ n, hs.length = n := ⟨_, rfl⟩
     clear HG
     rw [hI] at hG
     obtain ⟨hij, hjn, _⟩ := blaS_at hI
     rw [← HST.out, HZ.out] at hjn
     obtain ⟨g, rfl, rfl, _, _, _⟩ := two_ints hG
     have hw1 : IntKind.i64.wrap ((j : Int) + 1) = (j : Int) + 1 := by rw [IntWalk.i64_in _ (by omega)]
     have hj1 : (j : Int) + 1 ≤ (s.size : Int) := by omega
     have hj2 : (0 : Int) ≤ (j : Int) + 1 := by omega
     have hj3 : ((j : Int) + 1).toNat = j + 1 := by omega
     have hjs : j + 1 ≤ s.size := by omega
     obtain ⟨T, hT⟩ : ∃ T, bo (x.start.drop (j + 1)) = T := ⟨_, rfl⟩
     have e2 : s.extract (j + 1) s.size = T := by rw [bo_ext, HST.out, List.take_of_length_le (by rw [List.length_drop, ← HST.out, HZ.out]; exact Nat.le_refl _), hT]
     have e8 : (T.toList == [72, 84, 84, 80, 47, 49, 46, 49]) = true := by
       have := eqs_true (s := T) (t := ⟨#[72, 84, 84, 80, 47, 49, 46, 49]⟩) (by rw [← hT, hv]; rfl)
       rwa [ByteArray.toList_eq ⟨#[72, 84, 84, 80, 47, 49, 46, 49]⟩] at this
     have hti : (x.start.take i).length = i := by rw [List.length_take, ← HST.out, HZ.out]; omega
     have HTI := hideL hti
     have HI0 := hideL hI
     have HV := hideL hv
     clear hT hti hI hv
     have i3 : ¬ (i : Int) < 1 := by omega
     have i3n : ¬ i = 0 := by omega
     have i3d : decide ((i : Int) < 1) = false := decide_eq_false (by omega)
     have i4 : (16 : Int) < (i : Int) := by omega
     have i4n : 16 < i := hi16
     have i4d : decide ((16 : Int) < (i : Int)) = true := decide_eq_true (by omega)
     clear _hi1 hi16
     go_upto_region 8 with (first
       | (go_at_call 48; (with_reducible refine (LA.out _ HO.out.be).mono ?_); rintro e w2 ⟨r, rfl, hR, hB⟩
          obtain ⟨ra, rc, rfl⟩ := hR.gAt.len
          have HO2 := hideL (HO.out.next hB)
          have HO3 := hideL (HO2.out.next (Below.refl _ _).drew)
          have HG2 := hideL (hG.below hB)
          have HH2 := hideL hR
          rw [hnh] at *
          obtain ⟨_, e9, _, a0, a1, hg9⟩ := two_ints HG2.out
          injection e9 with e9
          injection e9 with e9 _ _
          subst e9
          have A0 := hideL a0
          have A1 := hideL a1
          have HLG := hideL hg9
          have C0 := hideL HO2.out.raw.c0
          have HLT := hideL HO2.out.raw.lt
          clear a0 a1 hg9
          clear hR hB hG))
     clear c0 c1
     refine wp_region_held_drew (S := fun w' => Below w2.heap.size w2 w') (by kernel_rfl) ((Below.refl _ _).drew) (fun hHeld => ?_)
     refine tl 0 rfl hHeld ?_
     try simp only [pA, pB, pC, pD]
     refine tl 1 rfl hHeld ?_
     try simp only [pA, pB, pC, pD]
     refine tl 2 rfl hHeld ?_
     try simp only [pA, pB, pC, pD]
     refine tl 3 rfl hHeld ?_
     try simp only [pA, pB, pC, pD]
     refine tl 4 rfl hHeld ?_
     try simp only [pA, pB, pC, pD]
     refine tm 5 (v := ?_) rfl hHeld ?_ ?_
     rotate_left
     · intro w hSw; (try dsimp only at hSw); have p0 := (hSw.cell (p := ⟨w0.heap.size, 0, none⟩) HLT.out).trans C0.out; have a0 := (hSw.cell (p := ⟨g, 0, none⟩) HLG.out).trans A0.out; have a1 := (hSw.cell (p := ⟨g, 1, none⟩) HLG.out).trans A1.out; go_simp; first | done | with_reducible rfl
     try simp only [pA, pB, pC, pD]
     refine tl 6 rfl hHeld ?_
     try simp only [pA, pB, pC, pD]
     refine tl 7 rfl hHeld ?_
     try simp only [pA, pB, pC, pD]
     refine tm 8 (v := ?_) rfl hHeld ?_ ?_
     rotate_left
     · intro w hSw; (try dsimp only at hSw); have p0 := (hSw.cell (p := ⟨w0.heap.size, 0, none⟩) HLT.out).trans C0.out; have a0 := (hSw.cell (p := ⟨g, 0, none⟩) HLG.out).trans A0.out; have a1 := (hSw.cell (p := ⟨g, 1, none⟩) HLG.out).trans A1.out; go_simp; first | done | with_reducible rfl
     try simp only [pA, pB, pC, pD]
     refine tl 9 rfl hHeld ?_
     try simp only [pA, pB, pC, pD]
     refine tl 10 rfl hHeld ?_
     try simp only [pA, pB, pC, pD]
     refine tl 11 rfl hHeld ?_
     try simp only [pA, pB, pC, pD]
     refine tl 12 rfl hHeld ?_
     try simp only [pA, pB, pC, pD]
     refine tl 13 rfl hHeld ?_
     try simp only [pA, pB, pC, pD]
     refine tl 14 rfl hHeld ?_
     try simp only [pA, pB, pC, pD]
     refine tl 15 rfl hHeld ?_
     try simp only [pA, pB, pC, pD]
     refine tm 16 (v := ?_) rfl hHeld ?_ ?_
     rotate_left
     · intro w hSw; (try dsimp only at hSw); have p0 := (hSw.cell (p := ⟨w0.heap.size, 0, none⟩) HLT.out).trans C0.out; have a0 := (hSw.cell (p := ⟨g, 0, none⟩) HLG.out).trans A0.out; have a1 := (hSw.cell (p := ⟨g, 1, none⟩) HLG.out).trans A1.out; go_simp; first | done | with_reducible rfl
     try simp only [pA, pB, pC, pD]
     refine tl 17 rfl hHeld ?_
     try simp only [pA, pB, pC, pD]
     refine tl 18 rfl hHeld ?_
     try simp only [pA, pB, pC, pD]
     refine tl 19 rfl hHeld ?_
     try simp only [pA, pB, pC, pD]
     refine tl 20 rfl hHeld ?_
     try simp only [pA, pB, pC, pD]
     refine tl 21 rfl hHeld ?_
     try simp only [pA, pB, pC, pD]
     refine tm 22 (v := ?_) rfl hHeld ?_ ?_
     rotate_left
     · intro w hSw; (try dsimp only at hSw); have p0 := (hSw.cell (p := ⟨w0.heap.size, 0, none⟩) HLT.out).trans C0.out; have a0 := (hSw.cell (p := ⟨g, 0, none⟩) HLG.out).trans A0.out; have a1 := (hSw.cell (p := ⟨g, 1, none⟩) HLG.out).trans A1.out; go_simp; first | done | with_reducible rfl
     try simp only [pA, pB, pC, pD]
     refine tl 23 rfl hHeld ?_
     try simp only [pA, pB, pC, pD]
     refine tl 24 rfl hHeld ?_
     try simp only [pA, pB, pC, pD]
     refine tl 25 rfl hHeld ?_
     try simp only [pA, pB, pC, pD]
     refine tr 26 rfl hHeld ?_
     try simp only [pA, pB, pC, pD]
     refine tr 27 rfl hHeld ?_
     try simp only [pA, pB, pC, pD]
     refine tr 28 rfl hHeld ?_
     try simp only [pA, pB, pC, pD]
     refine tl 29 rfl hHeld ?_
     try simp only [pA, pB, pC, pD]
     refine wpAnyH_done (by kernel_rfl) ?_ _
     clear hHeld
     generalize w2.drew = W3 at *
     have q0 := HO3.out.res.c0
     have q1 := HO3.out.res.c1
     have q2 := HO3.out.res.c2
     have q3 := HO3.out.res.c3
     have q4 := HO3.out.res.c4
     have q5 := HO3.out.res.c5
     have q6 := HO3.out.res.c6
     have z0 := HO3.out.res.fz 0
     have z1 := HO3.out.res.fz 1
     have z2 := HO3.out.res.fz 2
     have z3 := HO3.out.res.fz 3
     have z4 := HO3.out.res.fz 4
     have z5 := HO3.out.res.fz 5
     have z6 := HO3.out.res.fz 6
     go_wp2_with fail
     exact bodyPost_ret (v := .tuple #[.agg #[.string ⟨#[]⟩, .string ⟨#[]⟩, .string ⟨#[]⟩, .string ⟨#[]⟩, .string ⟨#[]⟩, .slice none 0 0, .slice none 0 0], .bool false]) (by
       have hy := HO3.out.res.st7 (.string ⟨#[]⟩) (.string ⟨#[]⟩) (.string ⟨#[]⟩) (.string ⟨#[]⟩) (.string ⟨#[]⟩) (.slice none 0 0) (.slice none 0 0)
       have r0 := hy.c0
       have r1 := hy.c1
       have r2 := hy.c2
       have r3 := hy.c3
       have r4 := hy.c4
       have r5 := hy.c5
       have r6 := hy.c6
       simp [results, Tryz.results14, go_sem, r0, r1, r2, r3, r4, r5, r6]) rfl ⟨rfl, below_st7 HO3.out.be (Nat.le_succ _)⟩
set_option maxRecDepth 100000 in
set_option maxHeartbeats 8000000 in
theorem rof_5 (s : ByteArray) (ha : Option Addr) (hn hc : Nat) (ba : Option Addr) (bn bc : Nat) (x : Rw) (w0 : World) (hr : RawAt w0 ⟨s, ⟨ha, hn, hc⟩, ⟨ba, bn, bc⟩⟩ x) (hf : Fits x.heads) (hs0 : s.size ≤ 900000) (hl : x.heads.length ≤ 1000) (hbl : x.body.length ≤ 900000) {i j : Nat} (hI : blaI 0 x.start = [i, j]) (hv : x.start.drop (j + 1) = http11) (hi1 : ¬ i < 1) (hi16 : ¬ 16 < i) (hd : (allP hostA x.heads).length ≠ 1) :
   Calls Tryz.prog 14 #[.agg #[.string s, .slice ha hn hc, .slice ba bn bc]] w0 (fun e w' => e = .returned (.tuple #[.agg #[.string ⟨#[]⟩, .string ⟨#[]⟩, .string ⟨#[]⟩, .string ⟨#[]⟩, .string ⟨#[]⟩, .slice none 0 0, .slice none 0 0], .bool false]) ∧ Below w0.heap.size w0 w') := by
 obtain ⟨hst, gh, gb⟩ := hr
 simp only [Sl.v] at hst gh gb
 have HO0 := hideL (OfSt.first w0 s (.slice ha hn hc) (.slice ba bn bc))
 have LA := fun (W : World) (hb : Below w0.heap.size w0 W) => allR_any hostA (.slice ha hn hc) x.heads W (gh.below hb) hl
 have hfit := allP_fits hf hostA
 obtain ⟨hs, hhs⟩ : ∃ l, allP hostA x.heads = l := ⟨_, rfl⟩
 rw [hhs] at LA hfit
 rw [show hostA = ⟨#[104, 111, 115, 116]⟩ from rfl] at LA
 have LA := hideL LA
 have GH := hideL gh
 have GB := hideL gb
 have HZ := hideL (size_list s)
 have HHS := hideL hhs
 have HHL := hideL hl
 have HBL := hideL hbl
 have HST := hideL hst
 clear hst gh gb hf hl hbl hhs
 go_enter Tryz.func14, Tryz.ntmps14
 go_wp2_with fail
 generalize (w0.alloc (rawC s (.slice ha hn hc) (.slice ba bn bc))).alloc rqO = W0 at *
 go_loopw [4, 5] (fun a i wr => ∃ (k : Nat) (ao : Option Addr) (m c : Nat), i = .int .i64 k ∧ k ≤ s.size ∧ a = .slice ao m c ∧ HidL (OfSt w0 s (.slice ha hn hc) (.slice ba bn bc) wr) ∧ HidL (GRow KI wr (w0.heap.size + 2) (.slice ao m c) ((blaI 0 (s.data.toList.take k)).map Int.ofNat))) (fun _ i _ => s.size - (RowKit.intOf i).toNat)
 case atStart => exact ⟨0, none, 0, 0, rfl, Nat.zero_le _, rfl, HO0, ⟨GRow.nil _ _⟩⟩
 case round =>
   obtain ⟨k, ao, m, c, rfl, hk, rfl, HO, HG⟩ := hrel
   clear HO0
   obtain ⟨W, rfl⟩ : ∃ W, W = wr := ⟨_, rfl⟩
   have c0 := HO.out.raw.c0
   by_cases hlt : k < s.size
   · have hlt' : (k : Int) < (s.size : Int) := by omega
     have hkl : k < s.data.toList.length := by rw [HZ.out]; exact hlt
     have hget : s.data.toList[k] = s[k] := rfl
     have hstep := blaI_step (s := s.data.toList) hkl
     rw [hget] at hstep
     by_cases h32 : s[k] = 32
     · have i32 : ((s[k].toNat : Int) == 32) = true := by rw [h32]; rfl
       rw [if_pos h32] at hstep
       obtain ⟨a4, c4, w4, q1, r1, b1⟩ := push_i W (w0.heap.size + 2) ao m c _ HG.out (k : Int) (by rw [List.length_map]; have := blaI_len (s.data.toList.take k) 0; rw [List.length_take] at this; omega) HO.out.room
       rw [show (blaI 0 (s.data.toList.take k)).map Int.ofNat ++ [(k : Int)] = (blaI 0 (s.data.toList.take (k + 1))).map Int.ofNat from by rw [hstep, List.map_append]; rfl] at q1 r1
       have Q1 := hideL q1
       have HG4 := hideL r1
       have HO4 := hideL (HO.out.nextB b1)
       generalize ((blaI 0 (s.data.toList.take (k + 1))).map Int.ofNat).length = m4 at *
       clear q1 r1 b1 hstep h32 hget HG
       go_wp2_with (at_builtin; refine wpList_append_runP rfl (.tmp 28) (.tmp 30) 75 75 75 rfl rfl _ _ _ w4 rfl rfl Q1.out ?_)
       go_roundw
       case rel => exact ⟨k + 1, a4, m4, c4, by go_num, by omega, rfl, HO4, HG4⟩
       case measure => simp [RowKit.intOf]; omega
     · have i32 : ((s[k].toNat : Int) == 32) = false := by
         rw [beq_eq_false_iff_ne]
         intro e
         exact h32 (UInt8.toNat_inj.1 (show s[k].toNat = (32 : UInt8).toNat from by have : (32 : UInt8).toNat = 32 := rfl; omega))
       rw [if_neg h32, List.append_nil] at hstep
       have hG := HG.out
       rw [← hstep] at hG
       have HG4 := hideL hG
       clear hstep h32 hget HG hG
       go_wp2_with fail
       go_roundw
       case rel => exact ⟨k + 1, ao, m, c, by go_num, by omega, rfl, HO, HG4⟩
       case measure => simp [RowKit.intOf]; omega
   · obtain rfl : k = s.size := by omega
     have hlt' : ¬ (s.size : Int) < (s.size : Int) := by omega
     have hG := HG.out
     rw [List.take_of_length_le (by rw [HZ.out]; exact Nat.le_refl _), HST.out] at hG
     have c1 := HO.out.raw.c1
     obtain ⟨nh, hnh⟩ : ∃ n, hs.length = n := ⟨_, rfl⟩
     clear HG
     rw [hI] at hG
     obtain ⟨hij, hjn, _⟩ := blaS_at hI
     rw [← HST.out, HZ.out] at hjn
     obtain ⟨g, rfl, rfl, _, _, _⟩ := two_ints hG
     have hw1 : IntKind.i64.wrap ((j : Int) + 1) = (j : Int) + 1 := by rw [IntWalk.i64_in _ (by omega)]
     have hj1 : (j : Int) + 1 ≤ (s.size : Int) := by omega
     have hj2 : (0 : Int) ≤ (j : Int) + 1 := by omega
     have hj3 : ((j : Int) + 1).toNat = j + 1 := by omega
     have hjs : j + 1 ≤ s.size := by omega
     obtain ⟨T, hT⟩ : ∃ T, bo (x.start.drop (j + 1)) = T := ⟨_, rfl⟩
     have e2 : s.extract (j + 1) s.size = T := by rw [bo_ext, HST.out, List.take_of_length_le (by rw [List.length_drop, ← HST.out, HZ.out]; exact Nat.le_refl _), hT]
     have e8 : (T.toList == [72, 84, 84, 80, 47, 49, 46, 49]) = true := by
       have := eqs_true (s := T) (t := ⟨#[72, 84, 84, 80, 47, 49, 46, 49]⟩) (by rw [← hT, hv]; rfl)
       rwa [ByteArray.toList_eq ⟨#[72, 84, 84, 80, 47, 49, 46, 49]⟩] at this
     have hti : (x.start.take i).length = i := by rw [List.length_take, ← HST.out, HZ.out]; omega
     have HTI := hideL hti
     have HI0 := hideL hI
     have HV := hideL hv
     clear hT hti hI hv
     have i3 : ¬ (i : Int) < 1 := by omega
     have i3n : ¬ i = 0 := by omega
     have i3d : decide ((i : Int) < 1) = false := decide_eq_false (by omega)
     have i4 : ¬ (16 : Int) < (i : Int) := by omega
     have i4n : ¬ 16 < i := hi16
     have i4d : decide ((16 : Int) < (i : Int)) = false := decide_eq_false (by omega)
     rw [HHS.out] at hd
     have i5 : ((nh : Int) != 1) = true := by rw [bne_iff_ne]; omega
     clear hi1 hi16 hd
     go_upto_region 8 with (first
       | (go_at_call 48; (with_reducible refine (LA.out _ HO.out.be).mono ?_); rintro e w2 ⟨r, rfl, hR, hB⟩
          obtain ⟨ra, rc, rfl⟩ := hR.gAt.len
          have HO2 := hideL (HO.out.next hB)
          have HO3 := hideL (HO2.out.next (Below.refl _ _).drew)
          have HG2 := hideL (hG.below hB)
          have HH2 := hideL hR
          rw [hnh] at *
          obtain ⟨_, e9, _, a0, a1, hg9⟩ := two_ints HG2.out
          injection e9 with e9
          injection e9 with e9 _ _
          subst e9
          have A0 := hideL a0
          have A1 := hideL a1
          have HLG := hideL hg9
          have C0 := hideL HO2.out.raw.c0
          have HLT := hideL HO2.out.raw.lt
          clear a0 a1 hg9
          clear hR hB hG))
     clear c0 c1
     refine wp_region_held_drew (S := fun w' => Below w2.heap.size w2 w') (by kernel_rfl) ((Below.refl _ _).drew) (fun hHeld => ?_)
     refine tl 0 rfl hHeld ?_
     try simp only [pA, pB, pC, pD]
     refine tl 1 rfl hHeld ?_
     try simp only [pA, pB, pC, pD]
     refine tl 2 rfl hHeld ?_
     try simp only [pA, pB, pC, pD]
     refine tl 3 rfl hHeld ?_
     try simp only [pA, pB, pC, pD]
     refine tl 4 rfl hHeld ?_
     try simp only [pA, pB, pC, pD]
     refine tm 5 (v := ?_) rfl hHeld ?_ ?_
     rotate_left
     · intro w hSw; (try dsimp only at hSw); have p0 := (hSw.cell (p := ⟨w0.heap.size, 0, none⟩) HLT.out).trans C0.out; have a0 := (hSw.cell (p := ⟨g, 0, none⟩) HLG.out).trans A0.out; have a1 := (hSw.cell (p := ⟨g, 1, none⟩) HLG.out).trans A1.out; go_simp; first | done | with_reducible rfl
     try simp only [pA, pB, pC, pD]
     refine tl 6 rfl hHeld ?_
     try simp only [pA, pB, pC, pD]
     refine tl 7 rfl hHeld ?_
     try simp only [pA, pB, pC, pD]
     refine tm 8 (v := ?_) rfl hHeld ?_ ?_
     rotate_left
     · intro w hSw; (try dsimp only at hSw); have p0 := (hSw.cell (p := ⟨w0.heap.size, 0, none⟩) HLT.out).trans C0.out; have a0 := (hSw.cell (p := ⟨g, 0, none⟩) HLG.out).trans A0.out; have a1 := (hSw.cell (p := ⟨g, 1, none⟩) HLG.out).trans A1.out; go_simp; first | done | with_reducible rfl
     try simp only [pA, pB, pC, pD]
     refine tl 9 rfl hHeld ?_
     try simp only [pA, pB, pC, pD]
     refine tl 10 rfl hHeld ?_
     try simp only [pA, pB, pC, pD]
     refine tl 11 rfl hHeld ?_
     try simp only [pA, pB, pC, pD]
     refine tl 12 rfl hHeld ?_
     try simp only [pA, pB, pC, pD]
     refine tl 13 rfl hHeld ?_
     try simp only [pA, pB, pC, pD]
     refine tl 14 rfl hHeld ?_
     try simp only [pA, pB, pC, pD]
     refine tl 15 rfl hHeld ?_
     try simp only [pA, pB, pC, pD]
     refine tm 16 (v := ?_) rfl hHeld ?_ ?_
     rotate_left
     · intro w hSw; (try dsimp only at hSw); have p0 := (hSw.cell (p := ⟨w0.heap.size, 0, none⟩) HLT.out).trans C0.out; have a0 := (hSw.cell (p := ⟨g, 0, none⟩) HLG.out).trans A0.out; have a1 := (hSw.cell (p := ⟨g, 1, none⟩) HLG.out).trans A1.out; go_simp; first | done | with_reducible rfl
     try simp only [pA, pB, pC, pD]
     refine tl 17 rfl hHeld ?_
     try simp only [pA, pB, pC, pD]
     refine tl 18 rfl hHeld ?_
     try simp only [pA, pB, pC, pD]
     refine tl 19 rfl hHeld ?_
     try simp only [pA, pB, pC, pD]
     refine tl 20 rfl hHeld ?_
     try simp only [pA, pB, pC, pD]
     refine tl 21 rfl hHeld ?_
     try simp only [pA, pB, pC, pD]
     refine tm 22 (v := ?_) rfl hHeld ?_ ?_
     rotate_left
     · intro w hSw; (try dsimp only at hSw); have p0 := (hSw.cell (p := ⟨w0.heap.size, 0, none⟩) HLT.out).trans C0.out; have a0 := (hSw.cell (p := ⟨g, 0, none⟩) HLG.out).trans A0.out; have a1 := (hSw.cell (p := ⟨g, 1, none⟩) HLG.out).trans A1.out; go_simp; first | done | with_reducible rfl
     try simp only [pA, pB, pC, pD]
     refine tl 23 rfl hHeld ?_
     try simp only [pA, pB, pC, pD]
     refine tl 24 rfl hHeld ?_
     try simp only [pA, pB, pC, pD]
     refine tl 25 rfl hHeld ?_
     try simp only [pA, pB, pC, pD]
     refine tl 26 rfl hHeld ?_
     try simp only [pA, pB, pC, pD]
     refine tl 27 rfl hHeld ?_
     try simp only [pA, pB, pC, pD]
     refine tl 28 rfl hHeld ?_
     try simp only [pA, pB, pC, pD]
     refine tl 29 rfl hHeld ?_
     try simp only [pA, pB, pC, pD]
     refine wpAnyH_done (by kernel_rfl) ?_ _
     clear hHeld
     generalize w2.drew = W3 at *
     have q0 := HO3.out.res.c0
     have q1 := HO3.out.res.c1
     have q2 := HO3.out.res.c2
     have q3 := HO3.out.res.c3
     have q4 := HO3.out.res.c4
     have q5 := HO3.out.res.c5
     have q6 := HO3.out.res.c6
     have z0 := HO3.out.res.fz 0
     have z1 := HO3.out.res.fz 1
     have z2 := HO3.out.res.fz 2
     have z3 := HO3.out.res.fz 3
     have z4 := HO3.out.res.fz 4
     have z5 := HO3.out.res.fz 5
     have z6 := HO3.out.res.fz 6
     go_wp2_with fail
     exact bodyPost_ret (v := .tuple #[.agg #[.string ⟨#[]⟩, .string ⟨#[]⟩, .string ⟨#[]⟩, .string ⟨#[]⟩, .string ⟨#[]⟩, .slice none 0 0, .slice none 0 0], .bool false]) (by
       have hy := HO3.out.res.st7 (.string ⟨#[]⟩) (.string ⟨#[]⟩) (.string ⟨#[]⟩) (.string ⟨#[]⟩) (.string ⟨#[]⟩) (.slice none 0 0) (.slice none 0 0)
       have r0 := hy.c0
       have r1 := hy.c1
       have r2 := hy.c2
       have r3 := hy.c3
       have r4 := hy.c4
       have r5 := hy.c5
       have r6 := hy.c6
       simp [results, Tryz.results14, go_sem, r0, r1, r2, r3, r4, r5, r6]) rfl ⟨rfl, below_st7 HO3.out.be (Nat.le_succ _)⟩
end Go.Proofs.YtafmgoekgijfgaaGreatDoor
