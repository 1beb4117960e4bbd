/- The document's Of: 3. -/
import Derived.Test.YtafmgoekgijfgaaGreatDoorYRqM2
import Derived.Test.YtafmgoekgijfgaaGreatDoorYRqROf
namespace Go.Proofs.YtafmgoekgijfgaaGreatDoor
open Go.RowKit Go.Lib

set_option maxRecDepth 100000 in
set_option maxHeartbeats 8000000 in
theorem rof_8 (s : ByteArray) (ha : Option Addr) (hn hc : Nat) (ba : Option Addr) (bn bc : Nat) (x : Rw) (w0 : World) (hr : RawAt w0 ⟨s, ⟨ha, hn, hc⟩, ⟨ba, bn, bc⟩⟩ x) (hf : Fits x.heads) (hs0 : s.size ≤ 900000) (hl : x.heads.length ≤ 1000) (hbl : x.body.length ≤ 900000) {i j : Nat} (hI : blaI 0 x.start = [i, j]) (hv : x.start.drop (j + 1) = http11) (hi1 : ¬ i < 1) (hi16 : ¬ 16 < i) {h0 : ByteArray} (hd : allP hostA x.heads = [h0]) {ml tgl sh : List UInt8} (hml : x.start.take i = ml) (htl : (x.start.drop (i + 1)).take (j - (i + 1)) = tgl) (hsh : h0.data.toList.map smB = sh) {P2 : Bool} (hP : hosP sh = (true, P2)) (hmm : metP ml = true) (hcon : ml = conL) {Q1 : Bool} (hQ : hosP (tgl.map smB) = (Q1, false)) :
   Calls Tryz.prog 14 #[.agg #[.string s, .slice ha hn hc, .slice ba bn bc]] w0 (fun e w' => e = .returned (.tuple #[.agg #[.string ⟨#[]⟩, .string ⟨#[]⟩, .string ⟨#[]⟩, .string ⟨#[]⟩, .string ⟨#[]⟩, .slice none 0 0, .slice none 0 0], .bool false]) ∧ Below w0.heap.size w0 w') := by
 obtain ⟨hst, gh, gb⟩ := hr
 simp only [Sl.v] at hst gh gb
 have HO0 := hideL (OfSt.first w0 s (.slice ha hn hc) (.slice ba bn bc))
 have LA := fun (W : World) (hb : Below w0.heap.size w0 W) => allR_any hostA (.slice ha hn hc) x.heads W (gh.below hb) hl
 have hfit := allP_fits hf hostA
 obtain ⟨hs, hhs⟩ : ∃ l, allP hostA x.heads = l := ⟨_, rfl⟩
 rw [hhs] at LA hfit
 rw [show hostA = ⟨#[104, 111, 115, 116]⟩ from rfl] at LA
 have LA := hideL LA
 have GH := hideL gh
 have GB := hideL gb
 have HZ := hideL (size_list s)
 have HHS := hideL hhs
 have HHL := hideL hl
 have HBL := hideL hbl
 have HST := hideL hst
 clear hst gh gb hf hl hbl hhs
 go_enter Tryz.func14, Tryz.ntmps14
 go_wp2_with fail
 generalize (w0.alloc (rawC s (.slice ha hn hc) (.slice ba bn bc))).alloc rqO = W0 at *
 go_loopw [4, 5] (fun a i wr => ∃ (k : Nat) (ao : Option Addr) (m c : Nat), i = .int .i64 k ∧ k ≤ s.size ∧ a = .slice ao m c ∧ HidL (OfSt w0 s (.slice ha hn hc) (.slice ba bn bc) wr) ∧ HidL (GRow KI wr (w0.heap.size + 2) (.slice ao m c) ((blaI 0 (s.data.toList.take k)).map Int.ofNat))) (fun _ i _ => s.size - (RowKit.intOf i).toNat)
 case atStart => exact ⟨0, none, 0, 0, rfl, Nat.zero_le _, rfl, HO0, ⟨GRow.nil _ _⟩⟩
 case round =>
   obtain ⟨k, ao, m, c, rfl, hk, rfl, HO, HG⟩ := hrel
   clear HO0
   obtain ⟨W, rfl⟩ : ∃ W, W = wr := ⟨_, rfl⟩
   have c0 := HO.out.raw.c0
   by_cases hlt : k < s.size
   · have hlt' : (k : Int) < (s.size : Int) := by omega
     have hkl : k < s.data.toList.length := by rw [HZ.out]; exact hlt
     have hget : s.data.toList[k] = s[k] := rfl
     have hstep := blaI_step (s := s.data.toList) hkl
     rw [hget] at hstep
     by_cases h32 : s[k] = 32
     · have i32 : ((s[k].toNat : Int) == 32) = true := by rw [h32]; rfl
       rw [if_pos h32] at hstep
       obtain ⟨a4, c4, w4, q1, r1, b1⟩ := push_i W (w0.heap.size + 2) ao m c _ HG.out (k : Int) (by rw [List.length_map]; have := blaI_len (s.data.toList.take k) 0; rw [List.length_take] at this; omega) HO.out.room
       rw [show (blaI 0 (s.data.toList.take k)).map Int.ofNat ++ [(k : Int)] = (blaI 0 (s.data.toList.take (k + 1))).map Int.ofNat from by rw [hstep, List.map_append]; rfl] at q1 r1
       have Q1 := hideL q1
       have HG4 := hideL r1
       have HO4 := hideL (HO.out.nextB b1)
       generalize ((blaI 0 (s.data.toList.take (k + 1))).map Int.ofNat).length = m4 at *
       clear q1 r1 b1 hstep h32 hget HG
       go_wp2_with (at_builtin; refine wpList_append_runP rfl (.tmp 28) (.tmp 30) 75 75 75 rfl rfl _ _ _ w4 rfl rfl Q1.out ?_)
       go_roundw
       case rel => exact ⟨k + 1, a4, m4, c4, by go_num, by omega, rfl, HO4, HG4⟩
       case measure => simp [RowKit.intOf]; omega
     · have i32 : ((s[k].toNat : Int) == 32) = false := by
         rw [beq_eq_false_iff_ne]
         intro e
         exact h32 (UInt8.toNat_inj.1 (show s[k].toNat = (32 : UInt8).toNat from by have : (32 : UInt8).toNat = 32 := rfl; omega))
       rw [if_neg h32, List.append_nil] at hstep
       have hG := HG.out
       rw [← hstep] at hG
       have HG4 := hideL hG
       clear hstep h32 hget HG hG
       go_wp2_with fail
       go_roundw
       case rel => exact ⟨k + 1, ao, m, c, by go_num, by omega, rfl, HO, HG4⟩
       case measure => simp [RowKit.intOf]; omega
   · obtain rfl : k = s.size := by omega
     have hlt' : ¬ (s.size : Int) < (s.size : Int) := by omega
     have hG := HG.out
     rw [List.take_of_length_le (by rw [HZ.out]; exact Nat.le_refl _), HST.out] at hG
     have c1 := HO.out.raw.c1
     obtain ⟨nh, hnh⟩ : ∃ n, hs.length = n := ⟨_, rfl⟩
     clear HG
     rw [hI] at hG
     obtain ⟨hij, hjn, _⟩ := blaS_at hI
     rw [← HST.out, HZ.out] at hjn
     obtain ⟨g, rfl, rfl, _, _, _⟩ := two_ints hG
     have hw1 : IntKind.i64.wrap ((j : Int) + 1) = (j : Int) + 1 := by rw [IntWalk.i64_in _ (by omega)]
     have hj1 : (j : Int) + 1 ≤ (s.size : Int) := by omega
     have hj2 : (0 : Int) ≤ (j : Int) + 1 := by omega
     have hj3 : ((j : Int) + 1).toNat = j + 1 := by omega
     have hjs : j + 1 ≤ s.size := by omega
     obtain ⟨T, hT⟩ : ∃ T, bo (x.start.drop (j + 1)) = T := ⟨_, rfl⟩
     have e2 : s.extract (j + 1) s.size = T := by rw [bo_ext, HST.out, List.take_of_length_le (by rw [List.length_drop, ← HST.out, HZ.out]; exact Nat.le_refl _), hT]
     have e8 : (T.toList == [72, 84, 84, 80, 47, 49, 46, 49]) = true := by
       have := eqs_true (s := T) (t := ⟨#[72, 84, 84, 80, 47, 49, 46, 49]⟩) (by rw [← hT, hv]; rfl)
       rwa [ByteArray.toList_eq ⟨#[72, 84, 84, 80, 47, 49, 46, 49]⟩] at this
     have hti : (x.start.take i).length = i := by rw [List.length_take, ← HST.out, HZ.out]; omega
     have HTI := hideL hti
     have HI0 := hideL hI
     have HV := hideL hv
     clear hT hti hI hv
     have i3 : ¬ (i : Int) < 1 := by omega
     have i3n : ¬ i = 0 := by omega
     have i3d : decide ((i : Int) < 1) = false := decide_eq_false (by omega)
     have i4 : ¬ (16 : Int) < (i : Int) := by omega
     have i4n : ¬ 16 < i := hi16
     have i4d : decide ((16 : Int) < (i : Int)) = false := decide_eq_false (by omega)
     rw [HHS.out] at hd
     subst hd
     clear hnh
     have i5 : ((1 : Int) != 1) = false := rfl
     have hij' := hideL hij
     have hjn' := hideL hjn
     have hi1' := hideL hi1
     have hi16' := hideL hi16
     have HH0 := hideL (hfit h0 (by simp))
     clear hfit
     go_upto_region 8 with (first
       | (go_at_call 48; (with_reducible refine (LA.out _ HO.out.be).mono ?_); rintro e w2 ⟨r, rfl, hR, hB⟩
          obtain ⟨ra, rc, rfl⟩ : ∃ a c, r = .slice a 1 c := hR.gAt.len
          have HO2 := hideL (HO.out.next hB)
          have HO3 := hideL (HO2.out.next (Below.refl _ _).drew)
          have HG2 := hideL (hG.below hB)
          have HH2 := hideL hR
          obtain ⟨_, e9, _, a0, a1, hg9⟩ := two_ints HG2.out
          injection e9 with e9
          injection e9 with e9 _ _
          subst e9
          have A0 := hideL a0
          have A1 := hideL a1
          have HLG := hideL hg9
          have C0 := hideL HO2.out.raw.c0
          have HLT := hideL HO2.out.raw.lt
          clear a0 a1 hg9
          obtain ⟨gh, e9, _, b0, hg9⟩ := one_str HH2.out
          subst e9
          have B0 := hideL b0
          have HLH := hideL hg9
          clear b0 hg9
          clear hR hB hG))
     clear c0 c1
     refine wp_region_held_drew (S := fun w' => Below w2.heap.size w2 w') (by kernel_rfl) ((Below.refl _ _).drew) (fun hHeld => ?_)
     refine tl 0 rfl hHeld ?_
     try simp only [pA, pB, pC, pD]
     refine tl 1 rfl hHeld ?_
     try simp only [pA, pB, pC, pD]
     refine tl 2 rfl hHeld ?_
     try simp only [pA, pB, pC, pD]
     refine tl 3 rfl hHeld ?_
     try simp only [pA, pB, pC, pD]
     refine tl 4 rfl hHeld ?_
     try simp only [pA, pB, pC, pD]
     refine tm 5 (v := ?_) rfl hHeld ?_ ?_
     rotate_left
     · intro w hSw; (try dsimp only at hSw); have p0 := (hSw.cell (p := ⟨w0.heap.size, 0, none⟩) HLT.out).trans C0.out; have a0 := (hSw.cell (p := ⟨g, 0, none⟩) HLG.out).trans A0.out; have a1 := (hSw.cell (p := ⟨g, 1, none⟩) HLG.out).trans A1.out; go_simp; first | done | with_reducible rfl
     try simp only [pA, pB, pC, pD]
     refine tl 6 rfl hHeld ?_
     try simp only [pA, pB, pC, pD]
     refine tl 7 rfl hHeld ?_
     try simp only [pA, pB, pC, pD]
     refine tm 8 (v := ?_) rfl hHeld ?_ ?_
     rotate_left
     · intro w hSw; (try dsimp only at hSw); have p0 := (hSw.cell (p := ⟨w0.heap.size, 0, none⟩) HLT.out).trans C0.out; have a0 := (hSw.cell (p := ⟨g, 0, none⟩) HLG.out).trans A0.out; have a1 := (hSw.cell (p := ⟨g, 1, none⟩) HLG.out).trans A1.out; go_simp; first | done | with_reducible rfl
     try simp only [pA, pB, pC, pD]
     refine tl 9 rfl hHeld ?_
     try simp only [pA, pB, pC, pD]
     refine tl 10 rfl hHeld ?_
     try simp only [pA, pB, pC, pD]
     refine tl 11 rfl hHeld ?_
     try simp only [pA, pB, pC, pD]
     refine tl 12 rfl hHeld ?_
     try simp only [pA, pB, pC, pD]
     refine tl 13 rfl hHeld ?_
     try simp only [pA, pB, pC, pD]
     refine tl 14 rfl hHeld ?_
     try simp only [pA, pB, pC, pD]
     refine tl 15 rfl hHeld ?_
     try simp only [pA, pB, pC, pD]
     refine tm 16 (v := ?_) rfl hHeld ?_ ?_
     rotate_left
     · intro w hSw; (try dsimp only at hSw); have p0 := (hSw.cell (p := ⟨w0.heap.size, 0, none⟩) HLT.out).trans C0.out; have a0 := (hSw.cell (p := ⟨g, 0, none⟩) HLG.out).trans A0.out; have a1 := (hSw.cell (p := ⟨g, 1, none⟩) HLG.out).trans A1.out; go_simp; first | done | with_reducible rfl
     try simp only [pA, pB, pC, pD]
     refine tl 17 rfl hHeld ?_
     try simp only [pA, pB, pC, pD]
     refine tl 18 rfl hHeld ?_
     try simp only [pA, pB, pC, pD]
     refine tl 19 rfl hHeld ?_
     try simp only [pA, pB, pC, pD]
     refine tl 20 rfl hHeld ?_
     try simp only [pA, pB, pC, pD]
     refine tl 21 rfl hHeld ?_
     try simp only [pA, pB, pC, pD]
     refine tm 22 (v := ?_) rfl hHeld ?_ ?_
     rotate_left
     · intro w hSw; (try dsimp only at hSw); have p0 := (hSw.cell (p := ⟨w0.heap.size, 0, none⟩) HLT.out).trans C0.out; have a0 := (hSw.cell (p := ⟨g, 0, none⟩) HLG.out).trans A0.out; have a1 := (hSw.cell (p := ⟨g, 1, none⟩) HLG.out).trans A1.out; go_simp; first | done | with_reducible rfl
     try simp only [pA, pB, pC, pD]
     refine tl 23 rfl hHeld ?_
     try simp only [pA, pB, pC, pD]
     refine tl 24 rfl hHeld ?_
     try simp only [pA, pB, pC, pD]
     refine tl 25 rfl hHeld ?_
     try simp only [pA, pB, pC, pD]
     refine tl 26 rfl hHeld ?_
     try simp only [pA, pB, pC, pD]
     refine tl 27 rfl hHeld ?_
     try simp only [pA, pB, pC, pD]
     refine tl 28 rfl hHeld ?_
     try simp only [pA, pB, pC, pD]
     refine tl 29 rfl hHeld ?_
     try simp only [pA, pB, pC, pD]
     refine wpAnyH_done (by kernel_rfl) ?_ _
     clear hHeld
     have hdr := (Below.refl w2.heap.size w2).drew
     have A03 := hideL ((hdr.cell (p := ⟨g, 0, none⟩) HLG.out).trans A0.out)
     have A13 := hideL ((hdr.cell (p := ⟨g, 1, none⟩) HLG.out).trans A1.out)
     have B03 := hideL ((hdr.cell (p := ⟨gh, 0, none⟩) HLH.out).trans B0.out)
     have HLG3 := hideL (Nat.lt_of_lt_of_le HLG.out hdr.size)
     have HLH3 := hideL (Nat.lt_of_lt_of_le HLH.out hdr.size)
     clear hdr A0 A1 B0 HLG HLH HG2 HH2 C0 HLT HO2 HO
     generalize w2.drew = W3 at *
     have c0 := HO3.out.raw.c0
     have a0 := A03.out
     go_wp2_with fail
     go_loopw [7] (fun v wr => ∃ k : Nat, k ≤ i ∧ v = .int .i64 k ∧ W3 = wr ∧ HidL (∀ c ∈ x.start.take k, bigB c = true)) (fun v _ => i - (RowKit.intOf v).toNat)
     case atStart => exact ⟨0, Nat.zero_le _, rfl, rfl, ⟨fun c hc => by rw [List.take_zero] at hc; cases hc⟩⟩
     case round =>
       obtain ⟨k, hk2, rfl, hwr, HI⟩ := hrel
       subst hwr
       by_cases hki : k < i
       · have hki' : (k : Int) < (i : Int) := by omega
         have hks : k < s.size := by have := hij'.out; have := hjn'.out; omega
         have hks' : (k : Int) < (s.size : Int) := by omega
         have hkl : k < x.start.length := by rw [← HST.out, HZ.out]; exact hks
         have hget : x.start[k] = s[k] := by
           have h9 : s.data.toList[k]'(by rw [HZ.out]; exact hks) = s[k] := rfl
           have e9 := HST.out
           rw [← h9]
           simp only [e9]
         have hmem : s[k] ∈ x.start.take i := by
           rw [← hget]
           exact List.mem_take_iff_getElem.2 ⟨k, by omega, rfl⟩
         by_cases h65 : s[k].toNat < 65
         · have i65 : (s[k].toNat : Int) < 65 := by omega
           have hbig := big_not (.inl h65)
           rw [← hml] at hmm
           exact absurd hmm (by rw [met_bad hmem hbig]; decide)
         have i65 : ¬ (s[k].toNat : Int) < 65 := by omega
         by_cases h90 : 90 < s[k].toNat
         · have i90 : (90 : Int) < (s[k].toNat : Int) := by omega
           have hbig := big_not (.inr h90)
           rw [← hml] at hmm
           exact absurd hmm (by rw [met_bad hmem hbig]; decide)
         have i90 : ¬ (90 : Int) < (s[k].toNat : Int) := by omega
         have HI2 := hideL (take_next (P := fun c => bigB c = true) hkl HI.out (by rw [hget]; exact big_of h65 h90))
         clear hget hmem h65 h90 HI
         go_wp2_with fail
         go_roundw
         case rel => exact ⟨k + 1, by omega, by go_num, trivial, HI2⟩
         case measure => simp [RowKit.intOf]; omega
       · obtain rfl : k = i := by omega
         have hki' : ¬ (k : Int) < (k : Int) := by omega
         have hm9 := met_of (by rw [HTI.out]; have := hi1'.out; omega) (by rw [HTI.out]; have := hi16'.out; omega) HI.out
         have hij2 := hij'.out
         have hjn2 := hjn'.out
         have hw2 : IntKind.i64.wrap ((k : Int) + 1) = (k : Int) + 1 := by rw [IntWalk.i64_in _ (by omega)]
         have m1 : (0 : Int) ≤ (k : Int) := by omega
         have m2 : (k : Int) ≤ (s.size : Int) := by omega
         have m3 : (0 : Int) ≤ (k : Int) + 1 := by omega
         have m4 : (k : Int) + 1 ≤ (j : Int) := by omega
         have m5 : (j : Int) ≤ (s.size : Int) := by omega
         have m6 : ((k : Int) + 1).toNat = k + 1 := by omega
         have hw2 : IntKind.i64.wrap ((k : Int) + 1) = (k : Int) + 1 := by rw [IntWalk.i64_in _ (by omega)]
         have e3 : s.extract 0 k = bo ml := by rw [bo_ext, HST.out, List.drop_zero, Nat.sub_zero, hml]
         have e4 : s.extract (k + 1) j = bo tgl := by rw [bo_ext, HST.out, htl]
         have htz : tgl.length ≤ 900000 := by
           rw [← htl, List.length_take, List.length_drop, ← HST.out, HZ.out]
           omega
         obtain ⟨M, hM⟩ : ∃ b, bo ml = b := ⟨_, rfl⟩
         obtain ⟨Tg, hTg⟩ : ∃ b, bo tgl = b := ⟨_, rfl⟩
         rw [hM] at e3
         rw [hTg] at e4
         have LN := normalR_any (bo tgl) (by rw [bo_size]; exact htz)
         have LST := smallR_any (bo tgl) (by rw [bo_size]; omega)
         have LSH := smallR_any h0 HH0.out
         have LHO := fun (l : List UInt8) (W : World) => hostR_any (bo l) W
         simp only [hstA, bo_list] at LHO
         have LHO := hideL LHO
         simp only [bo_list] at LN LST
         rw [hTg] at LN LST
         rw [hsh] at LSH
         have LN := hideL LN
         have LST := hideL LST
         have LSH := hideL LSH
         have HM1 := hideL hM
         have HT1 := hideL hTg
         have HLT3 := hideL HO3.out.raw.lt
         have C03 := hideL HO3.out.raw.c0
         have HO4r := hideL HO3.out.room
         clear hml htl hm9 HI htz hM hTg hij2 hjn2 hsh
         have HBR0 := hideL ((Below.refl W3.heap.size W3).drew)
         go_wp2_with fail
         clear c0 a0
         go_cut [8] (fun s8 W' => ∃ gk, s8 = .pointer (some ⟨gk, 0, none⟩) ∧ W3.heap.size ≤ gk ∧ RBox7 26 W' gk (.string M) (.string Tg) (.string ⟨#[]⟩) (.string ⟨#[]⟩) (.string (bo sh)) (.slice none 0 0) (.slice none 0 0) ∧ Below W3.heap.size W3 W')
         case first =>
           refine wp_region_held_drew (S := fun w' => Below W3.heap.size W3 w') (by kernel_rfl) ((Below.refl _ _).drew) (fun hHeld => ?_)
           refine tl 0 rfl hHeld ?_
           try simp only [pA, pB, pC, pD]
           refine tm 1 (v := ?_) rfl hHeld ?_ ?_
           rotate_left
           · intro w hSw; (try dsimp only at hSw); have p0 := (hSw.cell (p := ⟨w0.heap.size, 0, none⟩) HLT3.out).trans C03.out; have a0 := (hSw.cell (p := ⟨g, 0, none⟩) HLG3.out).trans A03.out; have a1 := (hSw.cell (p := ⟨g, 1, none⟩) HLG3.out).trans A13.out; have b0 := (hSw.cell (p := ⟨gh, 0, none⟩) HLH3.out).trans B03.out; go_simp; first | done | with_reducible rfl
           try simp only [pA, pB, pC, pD]
           refine tl 2 rfl hHeld ?_
           try simp only [pA, pB, pC, pD]
           refine tl 3 rfl hHeld ?_
           try simp only [pA, pB, pC, pD]
           refine tm 4 (v := ?_) rfl hHeld ?_ ?_
           rotate_left
           · intro w hSw; (try dsimp only at hSw); have p0 := (hSw.cell (p := ⟨w0.heap.size, 0, none⟩) HLT3.out).trans C03.out; have a0 := (hSw.cell (p := ⟨g, 0, none⟩) HLG3.out).trans A03.out; have a1 := (hSw.cell (p := ⟨g, 1, none⟩) HLG3.out).trans A13.out; have b0 := (hSw.cell (p := ⟨gh, 0, none⟩) HLH3.out).trans B03.out; go_simp; first | done | with_reducible rfl
           try simp only [pA, pB, pC, pD]
           refine tl 5 rfl hHeld ?_
           try simp only [pA, pB, pC, pD]
           refine tl 6 rfl hHeld ?_
           try simp only [pA, pB, pC, pD]
           refine tm 7 (v := ?_) rfl hHeld ?_ ?_
           rotate_left
           · intro w hSw; (try dsimp only at hSw); have p0 := (hSw.cell (p := ⟨w0.heap.size, 0, none⟩) HLT3.out).trans C03.out; have a0 := (hSw.cell (p := ⟨g, 0, none⟩) HLG3.out).trans A03.out; have a1 := (hSw.cell (p := ⟨g, 1, none⟩) HLG3.out).trans A13.out; have b0 := (hSw.cell (p := ⟨gh, 0, none⟩) HLH3.out).trans B03.out; go_simp; first | done | with_reducible rfl
           try simp only [pA, pB, pC, pD]
           refine tl 8 rfl hHeld ?_
           try simp only [pA, pB, pC, pD]
           refine tl 9 rfl hHeld ?_
           try simp only [pA, pB, pC, pD]
           refine tm 10 (v := ?_) rfl hHeld ?_ ?_
           rotate_left
           · intro w hSw; (try dsimp only at hSw); have p0 := (hSw.cell (p := ⟨w0.heap.size, 0, none⟩) HLT3.out).trans C03.out; have a0 := (hSw.cell (p := ⟨g, 0, none⟩) HLG3.out).trans A03.out; have a1 := (hSw.cell (p := ⟨g, 1, none⟩) HLG3.out).trans A13.out; have b0 := (hSw.cell (p := ⟨gh, 0, none⟩) HLH3.out).trans B03.out; go_simp; first | done | with_reducible rfl
           try simp only [pA, pB, pC, pD]
           refine tl 11 rfl hHeld ?_
           try simp only [pA, pB, pC, pD]
           refine tl 12 rfl hHeld ?_
           try simp only [pA, pB, pC, pD]
           refine tl 13 rfl hHeld ?_
           try simp only [pA, pB, pC, pD]
           refine tm 14 (v := ?_) rfl hHeld ?_ ?_
           rotate_left
           · intro w hSw; (try dsimp only at hSw); have p0 := (hSw.cell (p := ⟨w0.heap.size, 0, none⟩) HLT3.out).trans C03.out; have a0 := (hSw.cell (p := ⟨g, 0, none⟩) HLG3.out).trans A03.out; have a1 := (hSw.cell (p := ⟨g, 1, none⟩) HLG3.out).trans A13.out; have b0 := (hSw.cell (p := ⟨gh, 0, none⟩) HLH3.out).trans B03.out; go_simp; first | done | with_reducible rfl
           try simp only [pA, pB, pC, pD]
           refine tl 15 rfl hHeld ?_
           try simp only [pA, pB, pC, pD]
           refine tl 16 rfl hHeld ?_
           try simp only [pA, pB, pC, pD]
           refine tl 17 rfl hHeld ?_
           try simp only [pA, pB, pC, pD]
           refine tm 18 (v := ?_) rfl hHeld ?_ ?_
           rotate_left
           · intro w hSw; (try dsimp only at hSw); have p0 := (hSw.cell (p := ⟨w0.heap.size, 0, none⟩) HLT3.out).trans C03.out; have a0 := (hSw.cell (p := ⟨g, 0, none⟩) HLG3.out).trans A03.out; have a1 := (hSw.cell (p := ⟨g, 1, none⟩) HLG3.out).trans A13.out; have b0 := (hSw.cell (p := ⟨gh, 0, none⟩) HLH3.out).trans B03.out; go_simp; first | done | with_reducible rfl
           try simp only [pA, pB, pC, pD]
           refine wpAnyH_ready (rs := [19, 21]) (by kernel_rfl) (by simp) ?_
           refine AllReadyH.cons (o := ⟨_, _, _, _, _, _⟩) rfl (fun K hK => ?_) (AllReadyH.cons (o := ⟨_, _, _, _, _, _⟩) rfl (fun K hK => ?_) AllReadyH.nil)
           · clear hHeld
             go_simp
             refine (LSH.out _).mono ?_
             rintro e V1 ⟨rfl, hB⟩
             have HBR1 := hideL (HBR0.out.trans (hB.mono HBR0.out.size))
             clear hB LSH
             refine hK.out _ _ (HBR1.out) (fun hHeld => ?_)
             clear hK K
             try simp only [pA, pB, pC, pD]
             refine tl 20 rfl hHeld ?_
             try simp only [pA, pB, pC, pD]
             refine wpAnyH_ready (rs := [21]) (by kernel_rfl) (by simp) ?_
             refine aC rfl (fun K hK => ?_)
             clear hHeld
             rw [if_pos (by rfl)]
             refine wp_alloc_q rfl ?_
             have HK2 := hideL (rq_new' (V1))
             have HBR2 := hideL (HBR1.out.alloc HBR1.out.size rqO)
             have HGE := hideL (show W3.heap.size ≤ (V1).heap.size from HBR1.out.size)
             obtain ⟨gk, hgk⟩ : ∃ gk, gk = (V1).heap.size := ⟨_, rfl⟩
             rw [← hgk] at HK2 HGE ⊢
             clear hgk
             obtain ⟨V2, hVn⟩ : ∃ x, x = (V1).alloc rqO := ⟨_, rfl⟩
             rw [← hVn] at HK2 HBR2 ⊢
             clear hVn
             refine hK.out _ _ (HBR2.out) (fun hHeld => ?_)
             clear hK K
             try simp only [pA, pB, pC, pD]
             refine wpAnyH_ready (rs := [22]) (by kernel_rfl) (by simp) ?_
             refine aC rfl (fun K hK => ?_)
             clear hHeld
             rw [if_pos (by rfl)]
             refine wp_store_row _ _ _ rfl gk #[.string M, .string Tg, .string ⟨#[]⟩, .string ⟨#[]⟩, .string (bo sh), .slice none 0 0, .slice none 0 0] rfl rfl _ _ HK2.out sizeRq rfl (oneRq _ _ _ _ _) ?_
             have HK3 := hideL (HK2.out.put (.string M) (.string Tg) (.string ⟨#[]⟩) (.string ⟨#[]⟩) (.string (bo sh)) (.slice none 0 0) (.slice none 0 0))
             have HBR3 := hideL (below_setRow HBR2.out (Nat.le_trans (Nat.le_refl _) HGE.out) #[.string M, .string Tg, .string ⟨#[]⟩, .string ⟨#[]⟩, .string (bo sh), .slice none 0 0, .slice none 0 0])
             refine hK.out _ _ (HBR3.out) (fun hHeld => ?_)
             clear hK K
             try simp only [Act.put]
             refine wpAnyH_done (by kernel_rfl) ?_ _
             clear hHeld
             go_wp2_with fail
             go_meet
             case rel => exact ⟨gk, rfl, HGE.out, HK3.out, HBR3.out⟩
           · clear hHeld
             rw [if_pos (by rfl)]
             refine wp_alloc_q rfl ?_
             have HK1 := hideL (rq_new' (W3.drew))
             have HBR1 := hideL (HBR0.out.alloc HBR0.out.size rqO)
             have HGE := hideL (show W3.heap.size ≤ (W3.drew).heap.size from HBR0.out.size)
             obtain ⟨gk, hgk⟩ : ∃ gk, gk = (W3.drew).heap.size := ⟨_, rfl⟩
             rw [← hgk] at HK1 HGE ⊢
             clear hgk
             obtain ⟨V1, hVn⟩ : ∃ x, x = (W3.drew).alloc rqO := ⟨_, rfl⟩
             rw [← hVn] at HK1 HBR1 ⊢
             clear hVn
             refine hK.out _ _ (HBR1.out) (fun hHeld => ?_)
             clear hK K
             try simp only [pA, pB, pC, pD]
             refine wpAnyH_ready (rs := [19]) (by kernel_rfl) (by simp) ?_
             refine aC rfl (fun K hK => ?_)
             clear hHeld
             go_simp
             refine (LSH.out _).mono ?_
             rintro e V2 ⟨rfl, hB⟩
             have HBR2 := hideL (HBR1.out.trans (hB.mono HBR1.out.size))
             have HK2 := hideL (HK1.out.next hB)
             clear hB LSH
             refine hK.out _ _ (HBR2.out) (fun hHeld => ?_)
             clear hK K
             try simp only [pA, pB, pC, pD]
             refine tl 20 rfl hHeld ?_
             try simp only [pA, pB, pC, pD]
             refine wpAnyH_ready (rs := [22]) (by kernel_rfl) (by simp) ?_
             refine aC rfl (fun K hK => ?_)
             clear hHeld
             rw [if_pos (by rfl)]
             refine wp_store_row _ _ _ rfl gk #[.string M, .string Tg, .string ⟨#[]⟩, .string ⟨#[]⟩, .string (bo sh), .slice none 0 0, .slice none 0 0] rfl rfl _ _ HK2.out sizeRq rfl (oneRq _ _ _ _ _) ?_
             have HK3 := hideL (HK2.out.put (.string M) (.string Tg) (.string ⟨#[]⟩) (.string ⟨#[]⟩) (.string (bo sh)) (.slice none 0 0) (.slice none 0 0))
             have HBR3 := hideL (below_setRow HBR2.out (Nat.le_trans (Nat.le_refl _) HGE.out) #[.string M, .string Tg, .string ⟨#[]⟩, .string ⟨#[]⟩, .string (bo sh), .slice none 0 0, .slice none 0 0])
             refine hK.out _ _ (HBR3.out) (fun hHeld => ?_)
             clear hK K
             try simp only [Act.put]
             refine wpAnyH_done (by kernel_rfl) ?_ _
             clear hHeld
             go_wp2_with fail
             go_meet
             case rel => exact ⟨gk, rfl, HGE.out, HK3.out, HBR3.out⟩
         case rest =>
           obtain ⟨gk, rfl, hge, hkk, hbb⟩ := hcut
           obtain ⟨W4, rfl⟩ : ∃ W, W = wc := ⟨_, rfl⟩
           have HO4 := hideL (HO3.out.next hbb)
           have HK4 := hideL hkk
           have HGK := hideL (show w0.heap.size + 2 ≤ gk from Nat.le_trans HO4r.out hge)
           have k4 := HK4.out.c4
           clear hge hkk hbb HBR0 LSH HO3 C03 HLT3 A03 A13 B03 HLG3 HLH3 e2 e8 e3 e4
           have LH1 := LHO.out sh
           rw [hP] at LH1
           have LH1 := hideL LH1
           clear hP
           have ec : (M.toList == [67, 79, 78, 78, 69, 67, 84]) = true := by
             have := eqs_true (s := M) (t := ⟨#[67, 79, 78, 78, 69, 67, 84]⟩) (by rw [← HM1.out, hcon]; rfl)
             rwa [ByteArray.toList_eq ⟨#[67, 79, 78, 78, 69, 67, 84]⟩] at this
           have LH2 := LHO.out (tgl.map smB)
           rw [hQ] at LH2
           have LH2 := hideL LH2
           clear hcon hQ
           go_upto_region 22 with (first
             | (go_at_call 17; (with_reducible refine (LH1.out _).mono ?_); rintro e w5 ⟨rfl, hB⟩
                have HO5 := hideL (HO4.out.next hB)
                have HK5 := hideL (HK4.out.next hB)
                have k0 := HK5.out.c0
                have k1 := HK5.out.c1
                clear hB k4)
             | (go_at_call 49; (with_reducible refine (LST.out _).mono ?_); rintro e w6 ⟨rfl, hB⟩
                have HO6 := hideL (HO5.out.next hB)
                have HK6 := hideL (HK5.out.next hB)
                clear hB k0 k1)
             | (go_at_call 17; (with_reducible refine (LH2.out _).mono ?_); rintro e w7 ⟨rfl, hB⟩
                have HO7 := hideL (HO6.out.next hB)
                have HK7 := hideL (HK6.out.next hB)
                have k5 := HK7.out.c5
                clear hB))
           clear k5
           have q0 := HO7.out.res.c0
           have q1 := HO7.out.res.c1
           have q2 := HO7.out.res.c2
           have q3 := HO7.out.res.c3
           have q4 := HO7.out.res.c4
           have q5 := HO7.out.res.c5
           have q6 := HO7.out.res.c6
           have z0 := HO7.out.res.fz 0
           have z1 := HO7.out.res.fz 1
           have z2 := HO7.out.res.fz 2
           have z3 := HO7.out.res.fz 3
           have z4 := HO7.out.res.fz 4
           have z5 := HO7.out.res.fz 5
           have z6 := HO7.out.res.fz 6
           go_wp2_with fail
           exact bodyPost_ret (v := .tuple #[.agg #[.string ⟨#[]⟩, .string ⟨#[]⟩, .string ⟨#[]⟩, .string ⟨#[]⟩, .string ⟨#[]⟩, .slice none 0 0, .slice none 0 0], .bool false]) (by
             have hy := HO7.out.res.st7 (.string ⟨#[]⟩) (.string ⟨#[]⟩) (.string ⟨#[]⟩) (.string ⟨#[]⟩) (.string ⟨#[]⟩) (.slice none 0 0) (.slice none 0 0)
             have r0 := hy.c0
             have r1 := hy.c1
             have r2 := hy.c2
             have r3 := hy.c3
             have r4 := hy.c4
             have r5 := hy.c5
             have r6 := hy.c6
             simp [results, Tryz.results14, go_sem, r0, r1, r2, r3, r4, r5, r6]) rfl ⟨rfl, below_st7 HO7.out.be (Nat.le_succ _)⟩
set_option maxRecDepth 100000 in
set_option maxHeartbeats 8000000 in
theorem rof_9 (s : ByteArray) (ha : Option Addr) (hn hc : Nat) (ba : Option Addr) (bn bc : Nat) (x : Rw) (w0 : World) (hr : RawAt w0 ⟨s, ⟨ha, hn, hc⟩, ⟨ba, bn, bc⟩⟩ x) (hf : Fits x.heads) (hs0 : s.size ≤ 900000) (hl : x.heads.length ≤ 1000) (hbl : x.body.length ≤ 900000) {i j : Nat} (hI : blaI 0 x.start = [i, j]) (hv : x.start.drop (j + 1) = http11) (hi1 : ¬ i < 1) (hi16 : ¬ 16 < i) {h0 : ByteArray} (hd : allP hostA x.heads = [h0]) {ml tgl sh : List UInt8} (hml : x.start.take i = ml) (htl : (x.start.drop (i + 1)).take (j - (i + 1)) = tgl) (hsh : h0.data.toList.map smB = sh) {P2 : Bool} (hP : hosP sh = (true, P2)) (hmm : metP ml = true) (hcon : ml ≠ conL) (hN : norP tgl = none) :
   Calls Tryz.prog 14 #[.agg #[.string s, .slice ha hn hc, .slice ba bn bc]] w0 (fun e w' => e = .returned (.tuple #[.agg #[.string ⟨#[]⟩, .string ⟨#[]⟩, .string ⟨#[]⟩, .string ⟨#[]⟩, .string ⟨#[]⟩, .slice none 0 0, .slice none 0 0], .bool false]) ∧ Below w0.heap.size w0 w') := by
 obtain ⟨hst, gh, gb⟩ := hr
 simp only [Sl.v] at hst gh gb
 have HO0 := hideL (OfSt.first w0 s (.slice ha hn hc) (.slice ba bn bc))
 have LA := fun (W : World) (hb : Below w0.heap.size w0 W) => allR_any hostA (.slice ha hn hc) x.heads W (gh.below hb) hl
 have hfit := allP_fits hf hostA
 obtain ⟨hs, hhs⟩ : ∃ l, allP hostA x.heads = l := ⟨_, rfl⟩
 rw [hhs] at LA hfit
 rw [show hostA = ⟨#[104, 111, 115, 116]⟩ from rfl] at LA
 have LA := hideL LA
 have GH := hideL gh
 have GB := hideL gb
 have HZ := hideL (size_list s)
 have HHS := hideL hhs
 have HHL := hideL hl
 have HBL := hideL hbl
 have HST := hideL hst
 clear hst gh gb hf hl hbl hhs
 go_enter Tryz.func14, Tryz.ntmps14
 go_wp2_with fail
 generalize (w0.alloc (rawC s (.slice ha hn hc) (.slice ba bn bc))).alloc rqO = W0 at *
 go_loopw [4, 5] (fun a i wr => ∃ (k : Nat) (ao : Option Addr) (m c : Nat), i = .int .i64 k ∧ k ≤ s.size ∧ a = .slice ao m c ∧ HidL (OfSt w0 s (.slice ha hn hc) (.slice ba bn bc) wr) ∧ HidL (GRow KI wr (w0.heap.size + 2) (.slice ao m c) ((blaI 0 (s.data.toList.take k)).map Int.ofNat))) (fun _ i _ => s.size - (RowKit.intOf i).toNat)
 case atStart => exact ⟨0, none, 0, 0, rfl, Nat.zero_le _, rfl, HO0, ⟨GRow.nil _ _⟩⟩
 case round =>
   obtain ⟨k, ao, m, c, rfl, hk, rfl, HO, HG⟩ := hrel
   clear HO0
   obtain ⟨W, rfl⟩ : ∃ W, W = wr := ⟨_, rfl⟩
   have c0 := HO.out.raw.c0
   by_cases hlt : k < s.size
   · have hlt' : (k : Int) < (s.size : Int) := by omega
     have hkl : k < s.data.toList.length := by rw [HZ.out]; exact hlt
     have hget : s.data.toList[k] = s[k] := rfl
     have hstep := blaI_step (s := s.data.toList) hkl
     rw [hget] at hstep
     by_cases h32 : s[k] = 32
     · have i32 : ((s[k].toNat : Int) == 32) = true := by rw [h32]; rfl
       rw [if_pos h32] at hstep
       obtain ⟨a4, c4, w4, q1, r1, b1⟩ := push_i W (w0.heap.size + 2) ao m c _ HG.out (k : Int) (by rw [List.length_map]; have := blaI_len (s.data.toList.take k) 0; rw [List.length_take] at this; omega) HO.out.room
       rw [show (blaI 0 (s.data.toList.take k)).map Int.ofNat ++ [(k : Int)] = (blaI 0 (s.data.toList.take (k + 1))).map Int.ofNat from by rw [hstep, List.map_append]; rfl] at q1 r1
       have Q1 := hideL q1
       have HG4 := hideL r1
       have HO4 := hideL (HO.out.nextB b1)
       generalize ((blaI 0 (s.data.toList.take (k + 1))).map Int.ofNat).length = m4 at *
       clear q1 r1 b1 hstep h32 hget HG
       go_wp2_with (at_builtin; refine wpList_append_runP rfl (.tmp 28) (.tmp 30) 75 75 75 rfl rfl _ _ _ w4 rfl rfl Q1.out ?_)
       go_roundw
       case rel => exact ⟨k + 1, a4, m4, c4, by go_num, by omega, rfl, HO4, HG4⟩
       case measure => simp [RowKit.intOf]; omega
     · have i32 : ((s[k].toNat : Int) == 32) = false := by
         rw [beq_eq_false_iff_ne]
         intro e
         exact h32 (UInt8.toNat_inj.1 (show s[k].toNat = (32 : UInt8).toNat from by have : (32 : UInt8).toNat = 32 := rfl; omega))
       rw [if_neg h32, List.append_nil] at hstep
       have hG := HG.out
       rw [← hstep] at hG
       have HG4 := hideL hG
       clear hstep h32 hget HG hG
       go_wp2_with fail
       go_roundw
       case rel => exact ⟨k + 1, ao, m, c, by go_num, by omega, rfl, HO, HG4⟩
       case measure => simp [RowKit.intOf]; omega
   · obtain rfl : k = s.size := by omega
     have hlt' : ¬ (s.size : Int) < (s.size : Int) := by omega
     have hG := HG.out
     rw [List.take_of_length_le (by rw [HZ.out]; exact Nat.le_refl _), HST.out] at hG
     have c1 := HO.out.raw.c1
     obtain ⟨nh, hnh⟩ : ∃ n, hs.length = n := ⟨_, rfl⟩
     clear HG
     rw [hI] at hG
     obtain ⟨hij, hjn, _⟩ := blaS_at hI
     rw [← HST.out, HZ.out] at hjn
     obtain ⟨g, rfl, rfl, _, _, _⟩ := two_ints hG
     have hw1 : IntKind.i64.wrap ((j : Int) + 1) = (j : Int) + 1 := by rw [IntWalk.i64_in _ (by omega)]
     have hj1 : (j : Int) + 1 ≤ (s.size : Int) := by omega
     have hj2 : (0 : Int) ≤ (j : Int) + 1 := by omega
     have hj3 : ((j : Int) + 1).toNat = j + 1 := by omega
     have hjs : j + 1 ≤ s.size := by omega
     obtain ⟨T, hT⟩ : ∃ T, bo (x.start.drop (j + 1)) = T := ⟨_, rfl⟩
     have e2 : s.extract (j + 1) s.size = T := by rw [bo_ext, HST.out, List.take_of_length_le (by rw [List.length_drop, ← HST.out, HZ.out]; exact Nat.le_refl _), hT]
     have e8 : (T.toList == [72, 84, 84, 80, 47, 49, 46, 49]) = true := by
       have := eqs_true (s := T) (t := ⟨#[72, 84, 84, 80, 47, 49, 46, 49]⟩) (by rw [← hT, hv]; rfl)
       rwa [ByteArray.toList_eq ⟨#[72, 84, 84, 80, 47, 49, 46, 49]⟩] at this
     have hti : (x.start.take i).length = i := by rw [List.length_take, ← HST.out, HZ.out]; omega
     have HTI := hideL hti
     have HI0 := hideL hI
     have HV := hideL hv
     clear hT hti hI hv
     have i3 : ¬ (i : Int) < 1 := by omega
     have i3n : ¬ i = 0 := by omega
     have i3d : decide ((i : Int) < 1) = false := decide_eq_false (by omega)
     have i4 : ¬ (16 : Int) < (i : Int) := by omega
     have i4n : ¬ 16 < i := hi16
     have i4d : decide ((16 : Int) < (i : Int)) = false := decide_eq_false (by omega)
     rw [HHS.out] at hd
     subst hd
     clear hnh
     have i5 : ((1 : Int) != 1) = false := rfl
     have hij' := hideL hij
     have hjn' := hideL hjn
     have hi1' := hideL hi1
     have hi16' := hideL hi16
     have HH0 := hideL (hfit h0 (by simp))
     clear hfit
     go_upto_region 8 with (first
       | (go_at_call 48; (with_reducible refine (LA.out _ HO.out.be).mono ?_); rintro e w2 ⟨r, rfl, hR, hB⟩
          obtain ⟨ra, rc, rfl⟩ : ∃ a c, r = .slice a 1 c := hR.gAt.len
          have HO2 := hideL (HO.out.next hB)
          have HO3 := hideL (HO2.out.next (Below.refl _ _).drew)
          have HG2 := hideL (hG.below hB)
          have HH2 := hideL hR
          obtain ⟨_, e9, _, a0, a1, hg9⟩ := two_ints HG2.out
          injection e9 with e9
          injection e9 with e9 _ _
          subst e9
          have A0 := hideL a0
          have A1 := hideL a1
          have HLG := hideL hg9
          have C0 := hideL HO2.out.raw.c0
          have HLT := hideL HO2.out.raw.lt
          clear a0 a1 hg9
          obtain ⟨gh, e9, _, b0, hg9⟩ := one_str HH2.out
          subst e9
          have B0 := hideL b0
          have HLH := hideL hg9
          clear b0 hg9
          clear hR hB hG))
     clear c0 c1
     refine wp_region_held_drew (S := fun w' => Below w2.heap.size w2 w') (by kernel_rfl) ((Below.refl _ _).drew) (fun hHeld => ?_)
     refine tl 0 rfl hHeld ?_
     try simp only [pA, pB, pC, pD]
     refine tl 1 rfl hHeld ?_
     try simp only [pA, pB, pC, pD]
     refine tl 2 rfl hHeld ?_
     try simp only [pA, pB, pC, pD]
     refine tl 3 rfl hHeld ?_
     try simp only [pA, pB, pC, pD]
     refine tl 4 rfl hHeld ?_
     try simp only [pA, pB, pC, pD]
     refine tm 5 (v := ?_) rfl hHeld ?_ ?_
     rotate_left
     · intro w hSw; (try dsimp only at hSw); have p0 := (hSw.cell (p := ⟨w0.heap.size, 0, none⟩) HLT.out).trans C0.out; have a0 := (hSw.cell (p := ⟨g, 0, none⟩) HLG.out).trans A0.out; have a1 := (hSw.cell (p := ⟨g, 1, none⟩) HLG.out).trans A1.out; go_simp; first | done | with_reducible rfl
     try simp only [pA, pB, pC, pD]
     refine tl 6 rfl hHeld ?_
     try simp only [pA, pB, pC, pD]
     refine tl 7 rfl hHeld ?_
     try simp only [pA, pB, pC, pD]
     refine tm 8 (v := ?_) rfl hHeld ?_ ?_
     rotate_left
     · intro w hSw; (try dsimp only at hSw); have p0 := (hSw.cell (p := ⟨w0.heap.size, 0, none⟩) HLT.out).trans C0.out; have a0 := (hSw.cell (p := ⟨g, 0, none⟩) HLG.out).trans A0.out; have a1 := (hSw.cell (p := ⟨g, 1, none⟩) HLG.out).trans A1.out; go_simp; first | done | with_reducible rfl
     try simp only [pA, pB, pC, pD]
     refine tl 9 rfl hHeld ?_
     try simp only [pA, pB, pC, pD]
     refine tl 10 rfl hHeld ?_
     try simp only [pA, pB, pC, pD]
     refine tl 11 rfl hHeld ?_
     try simp only [pA, pB, pC, pD]
     refine tl 12 rfl hHeld ?_
     try simp only [pA, pB, pC, pD]
     refine tl 13 rfl hHeld ?_
     try simp only [pA, pB, pC, pD]
     refine tl 14 rfl hHeld ?_
     try simp only [pA, pB, pC, pD]
     refine tl 15 rfl hHeld ?_
     try simp only [pA, pB, pC, pD]
     refine tm 16 (v := ?_) rfl hHeld ?_ ?_
     rotate_left
     · intro w hSw; (try dsimp only at hSw); have p0 := (hSw.cell (p := ⟨w0.heap.size, 0, none⟩) HLT.out).trans C0.out; have a0 := (hSw.cell (p := ⟨g, 0, none⟩) HLG.out).trans A0.out; have a1 := (hSw.cell (p := ⟨g, 1, none⟩) HLG.out).trans A1.out; go_simp; first | done | with_reducible rfl
     try simp only [pA, pB, pC, pD]
     refine tl 17 rfl hHeld ?_
     try simp only [pA, pB, pC, pD]
     refine tl 18 rfl hHeld ?_
     try simp only [pA, pB, pC, pD]
     refine tl 19 rfl hHeld ?_
     try simp only [pA, pB, pC, pD]
     refine tl 20 rfl hHeld ?_
     try simp only [pA, pB, pC, pD]
     refine tl 21 rfl hHeld ?_
     try simp only [pA, pB, pC, pD]
     refine tm 22 (v := ?_) rfl hHeld ?_ ?_
     rotate_left
     · intro w hSw; (try dsimp only at hSw); have p0 := (hSw.cell (p := ⟨w0.heap.size, 0, none⟩) HLT.out).trans C0.out; have a0 := (hSw.cell (p := ⟨g, 0, none⟩) HLG.out).trans A0.out; have a1 := (hSw.cell (p := ⟨g, 1, none⟩) HLG.out).trans A1.out; go_simp; first | done | with_reducible rfl
     try simp only [pA, pB, pC, pD]
     refine tl 23 rfl hHeld ?_
     try simp only [pA, pB, pC, pD]
     refine tl 24 rfl hHeld ?_
     try simp only [pA, pB, pC, pD]
     refine tl 25 rfl hHeld ?_
     try simp only [pA, pB, pC, pD]
     refine tl 26 rfl hHeld ?_
     try simp only [pA, pB, pC, pD]
     refine tl 27 rfl hHeld ?_
     try simp only [pA, pB, pC, pD]
     refine tl 28 rfl hHeld ?_
     try simp only [pA, pB, pC, pD]
     refine tl 29 rfl hHeld ?_
     try simp only [pA, pB, pC, pD]
     refine wpAnyH_done (by kernel_rfl) ?_ _
     clear hHeld
     have hdr := (Below.refl w2.heap.size w2).drew
     have A03 := hideL ((hdr.cell (p := ⟨g, 0, none⟩) HLG.out).trans A0.out)
     have A13 := hideL ((hdr.cell (p := ⟨g, 1, none⟩) HLG.out).trans A1.out)
     have B03 := hideL ((hdr.cell (p := ⟨gh, 0, none⟩) HLH.out).trans B0.out)
     have HLG3 := hideL (Nat.lt_of_lt_of_le HLG.out hdr.size)
     have HLH3 := hideL (Nat.lt_of_lt_of_le HLH.out hdr.size)
     clear hdr A0 A1 B0 HLG HLH HG2 HH2 C0 HLT HO2 HO
     generalize w2.drew = W3 at *
     have c0 := HO3.out.raw.c0
     have a0 := A03.out
     go_wp2_with fail
     go_loopw [7] (fun v wr => ∃ k : Nat, k ≤ i ∧ v = .int .i64 k ∧ W3 = wr ∧ HidL (∀ c ∈ x.start.take k, bigB c = true)) (fun v _ => i - (RowKit.intOf v).toNat)
     case atStart => exact ⟨0, Nat.zero_le _, rfl, rfl, ⟨fun c hc => by rw [List.take_zero] at hc; cases hc⟩⟩
     case round =>
       obtain ⟨k, hk2, rfl, hwr, HI⟩ := hrel
       subst hwr
       by_cases hki : k < i
       · have hki' : (k : Int) < (i : Int) := by omega
         have hks : k < s.size := by have := hij'.out; have := hjn'.out; omega
         have hks' : (k : Int) < (s.size : Int) := by omega
         have hkl : k < x.start.length := by rw [← HST.out, HZ.out]; exact hks
         have hget : x.start[k] = s[k] := by
           have h9 : s.data.toList[k]'(by rw [HZ.out]; exact hks) = s[k] := rfl
           have e9 := HST.out
           rw [← h9]
           simp only [e9]
         have hmem : s[k] ∈ x.start.take i := by
           rw [← hget]
           exact List.mem_take_iff_getElem.2 ⟨k, by omega, rfl⟩
         by_cases h65 : s[k].toNat < 65
         · have i65 : (s[k].toNat : Int) < 65 := by omega
           have hbig := big_not (.inl h65)
           rw [← hml] at hmm
           exact absurd hmm (by rw [met_bad hmem hbig]; decide)
         have i65 : ¬ (s[k].toNat : Int) < 65 := by omega
         by_cases h90 : 90 < s[k].toNat
         · have i90 : (90 : Int) < (s[k].toNat : Int) := by omega
           have hbig := big_not (.inr h90)
           rw [← hml] at hmm
           exact absurd hmm (by rw [met_bad hmem hbig]; decide)
         have i90 : ¬ (90 : Int) < (s[k].toNat : Int) := by omega
         have HI2 := hideL (take_next (P := fun c => bigB c = true) hkl HI.out (by rw [hget]; exact big_of h65 h90))
         clear hget hmem h65 h90 HI
         go_wp2_with fail
         go_roundw
         case rel => exact ⟨k + 1, by omega, by go_num, trivial, HI2⟩
         case measure => simp [RowKit.intOf]; omega
       · obtain rfl : k = i := by omega
         have hki' : ¬ (k : Int) < (k : Int) := by omega
         have hm9 := met_of (by rw [HTI.out]; have := hi1'.out; omega) (by rw [HTI.out]; have := hi16'.out; omega) HI.out
         have hij2 := hij'.out
         have hjn2 := hjn'.out
         have hw2 : IntKind.i64.wrap ((k : Int) + 1) = (k : Int) + 1 := by rw [IntWalk.i64_in _ (by omega)]
         have m1 : (0 : Int) ≤ (k : Int) := by omega
         have m2 : (k : Int) ≤ (s.size : Int) := by omega
         have m3 : (0 : Int) ≤ (k : Int) + 1 := by omega
         have m4 : (k : Int) + 1 ≤ (j : Int) := by omega
         have m5 : (j : Int) ≤ (s.size : Int) := by omega
         have m6 : ((k : Int) + 1).toNat = k + 1 := by omega
         have hw2 : IntKind.i64.wrap ((k : Int) + 1) = (k : Int) + 1 := by rw [IntWalk.i64_in _ (by omega)]
         have e3 : s.extract 0 k = bo ml := by rw [bo_ext, HST.out, List.drop_zero, Nat.sub_zero, hml]
         have e4 : s.extract (k + 1) j = bo tgl := by rw [bo_ext, HST.out, htl]
         have htz : tgl.length ≤ 900000 := by
           rw [← htl, List.length_take, List.length_drop, ← HST.out, HZ.out]
           omega
         obtain ⟨M, hM⟩ : ∃ b, bo ml = b := ⟨_, rfl⟩
         obtain ⟨Tg, hTg⟩ : ∃ b, bo tgl = b := ⟨_, rfl⟩
         rw [hM] at e3
         rw [hTg] at e4
         have LN := normalR_any (bo tgl) (by rw [bo_size]; exact htz)
         have LST := smallR_any (bo tgl) (by rw [bo_size]; omega)
         have LSH := smallR_any h0 HH0.out
         have LHO := fun (l : List UInt8) (W : World) => hostR_any (bo l) W
         simp only [hstA, bo_list] at LHO
         have LHO := hideL LHO
         simp only [bo_list] at LN LST
         rw [hTg] at LN LST
         rw [hsh] at LSH
         have LN := hideL LN
         have LST := hideL LST
         have LSH := hideL LSH
         have HM1 := hideL hM
         have HT1 := hideL hTg
         have HLT3 := hideL HO3.out.raw.lt
         have C03 := hideL HO3.out.raw.c0
         have HO4r := hideL HO3.out.room
         clear hml htl hm9 HI htz hM hTg hij2 hjn2 hsh
         have HBR0 := hideL ((Below.refl W3.heap.size W3).drew)
         go_wp2_with fail
         clear c0 a0
         go_cut [8] (fun s8 W' => ∃ gk, s8 = .pointer (some ⟨gk, 0, none⟩) ∧ W3.heap.size ≤ gk ∧ RBox7 26 W' gk (.string M) (.string Tg) (.string ⟨#[]⟩) (.string ⟨#[]⟩) (.string (bo sh)) (.slice none 0 0) (.slice none 0 0) ∧ Below W3.heap.size W3 W')
         case first =>
           refine wp_region_held_drew (S := fun w' => Below W3.heap.size W3 w') (by kernel_rfl) ((Below.refl _ _).drew) (fun hHeld => ?_)
           refine tl 0 rfl hHeld ?_
           try simp only [pA, pB, pC, pD]
           refine tm 1 (v := ?_) rfl hHeld ?_ ?_
           rotate_left
           · intro w hSw; (try dsimp only at hSw); have p0 := (hSw.cell (p := ⟨w0.heap.size, 0, none⟩) HLT3.out).trans C03.out; have a0 := (hSw.cell (p := ⟨g, 0, none⟩) HLG3.out).trans A03.out; have a1 := (hSw.cell (p := ⟨g, 1, none⟩) HLG3.out).trans A13.out; have b0 := (hSw.cell (p := ⟨gh, 0, none⟩) HLH3.out).trans B03.out; go_simp; first | done | with_reducible rfl
           try simp only [pA, pB, pC, pD]
           refine tl 2 rfl hHeld ?_
           try simp only [pA, pB, pC, pD]
           refine tl 3 rfl hHeld ?_
           try simp only [pA, pB, pC, pD]
           refine tm 4 (v := ?_) rfl hHeld ?_ ?_
           rotate_left
           · intro w hSw; (try dsimp only at hSw); have p0 := (hSw.cell (p := ⟨w0.heap.size, 0, none⟩) HLT3.out).trans C03.out; have a0 := (hSw.cell (p := ⟨g, 0, none⟩) HLG3.out).trans A03.out; have a1 := (hSw.cell (p := ⟨g, 1, none⟩) HLG3.out).trans A13.out; have b0 := (hSw.cell (p := ⟨gh, 0, none⟩) HLH3.out).trans B03.out; go_simp; first | done | with_reducible rfl
           try simp only [pA, pB, pC, pD]
           refine tl 5 rfl hHeld ?_
           try simp only [pA, pB, pC, pD]
           refine tl 6 rfl hHeld ?_
           try simp only [pA, pB, pC, pD]
           refine tm 7 (v := ?_) rfl hHeld ?_ ?_
           rotate_left
           · intro w hSw; (try dsimp only at hSw); have p0 := (hSw.cell (p := ⟨w0.heap.size, 0, none⟩) HLT3.out).trans C03.out; have a0 := (hSw.cell (p := ⟨g, 0, none⟩) HLG3.out).trans A03.out; have a1 := (hSw.cell (p := ⟨g, 1, none⟩) HLG3.out).trans A13.out; have b0 := (hSw.cell (p := ⟨gh, 0, none⟩) HLH3.out).trans B03.out; go_simp; first | done | with_reducible rfl
           try simp only [pA, pB, pC, pD]
           refine tl 8 rfl hHeld ?_
           try simp only [pA, pB, pC, pD]
           refine tl 9 rfl hHeld ?_
           try simp only [pA, pB, pC, pD]
           refine tm 10 (v := ?_) rfl hHeld ?_ ?_
           rotate_left
           · intro w hSw; (try dsimp only at hSw); have p0 := (hSw.cell (p := ⟨w0.heap.size, 0, none⟩) HLT3.out).trans C03.out; have a0 := (hSw.cell (p := ⟨g, 0, none⟩) HLG3.out).trans A03.out; have a1 := (hSw.cell (p := ⟨g, 1, none⟩) HLG3.out).trans A13.out; have b0 := (hSw.cell (p := ⟨gh, 0, none⟩) HLH3.out).trans B03.out; go_simp; first | done | with_reducible rfl
           try simp only [pA, pB, pC, pD]
           refine tl 11 rfl hHeld ?_
           try simp only [pA, pB, pC, pD]
           refine tl 12 rfl hHeld ?_
           try simp only [pA, pB, pC, pD]
           refine tl 13 rfl hHeld ?_
           try simp only [pA, pB, pC, pD]
           refine tm 14 (v := ?_) rfl hHeld ?_ ?_
           rotate_left
           · intro w hSw; (try dsimp only at hSw); have p0 := (hSw.cell (p := ⟨w0.heap.size, 0, none⟩) HLT3.out).trans C03.out; have a0 := (hSw.cell (p := ⟨g, 0, none⟩) HLG3.out).trans A03.out; have a1 := (hSw.cell (p := ⟨g, 1, none⟩) HLG3.out).trans A13.out; have b0 := (hSw.cell (p := ⟨gh, 0, none⟩) HLH3.out).trans B03.out; go_simp; first | done | with_reducible rfl
           try simp only [pA, pB, pC, pD]
           refine tl 15 rfl hHeld ?_
           try simp only [pA, pB, pC, pD]
           refine tl 16 rfl hHeld ?_
           try simp only [pA, pB, pC, pD]
           refine tl 17 rfl hHeld ?_
           try simp only [pA, pB, pC, pD]
           refine tm 18 (v := ?_) rfl hHeld ?_ ?_
           rotate_left
           · intro w hSw; (try dsimp only at hSw); have p0 := (hSw.cell (p := ⟨w0.heap.size, 0, none⟩) HLT3.out).trans C03.out; have a0 := (hSw.cell (p := ⟨g, 0, none⟩) HLG3.out).trans A03.out; have a1 := (hSw.cell (p := ⟨g, 1, none⟩) HLG3.out).trans A13.out; have b0 := (hSw.cell (p := ⟨gh, 0, none⟩) HLH3.out).trans B03.out; go_simp; first | done | with_reducible rfl
           try simp only [pA, pB, pC, pD]
           refine wpAnyH_ready (rs := [19, 21]) (by kernel_rfl) (by simp) ?_
           refine AllReadyH.cons (o := ⟨_, _, _, _, _, _⟩) rfl (fun K hK => ?_) (AllReadyH.cons (o := ⟨_, _, _, _, _, _⟩) rfl (fun K hK => ?_) AllReadyH.nil)
           · clear hHeld
             go_simp
             refine (LSH.out _).mono ?_
             rintro e V1 ⟨rfl, hB⟩
             have HBR1 := hideL (HBR0.out.trans (hB.mono HBR0.out.size))
             clear hB LSH
             refine hK.out _ _ (HBR1.out) (fun hHeld => ?_)
             clear hK K
             try simp only [pA, pB, pC, pD]
             refine tl 20 rfl hHeld ?_
             try simp only [pA, pB, pC, pD]
             refine wpAnyH_ready (rs := [21]) (by kernel_rfl) (by simp) ?_
             refine aC rfl (fun K hK => ?_)
             clear hHeld
             rw [if_pos (by rfl)]
             refine wp_alloc_q rfl ?_
             have HK2 := hideL (rq_new' (V1))
             have HBR2 := hideL (HBR1.out.alloc HBR1.out.size rqO)
             have HGE := hideL (show W3.heap.size ≤ (V1).heap.size from HBR1.out.size)
             obtain ⟨gk, hgk⟩ : ∃ gk, gk = (V1).heap.size := ⟨_, rfl⟩
             rw [← hgk] at HK2 HGE ⊢
             clear hgk
             obtain ⟨V2, hVn⟩ : ∃ x, x = (V1).alloc rqO := ⟨_, rfl⟩
             rw [← hVn] at HK2 HBR2 ⊢
             clear hVn
             refine hK.out _ _ (HBR2.out) (fun hHeld => ?_)
             clear hK K
             try simp only [pA, pB, pC, pD]
             refine wpAnyH_ready (rs := [22]) (by kernel_rfl) (by simp) ?_
             refine aC rfl (fun K hK => ?_)
             clear hHeld
             rw [if_pos (by rfl)]
             refine wp_store_row _ _ _ rfl gk #[.string M, .string Tg, .string ⟨#[]⟩, .string ⟨#[]⟩, .string (bo sh), .slice none 0 0, .slice none 0 0] rfl rfl _ _ HK2.out sizeRq rfl (oneRq _ _ _ _ _) ?_
             have HK3 := hideL (HK2.out.put (.string M) (.string Tg) (.string ⟨#[]⟩) (.string ⟨#[]⟩) (.string (bo sh)) (.slice none 0 0) (.slice none 0 0))
             have HBR3 := hideL (below_setRow HBR2.out (Nat.le_trans (Nat.le_refl _) HGE.out) #[.string M, .string Tg, .string ⟨#[]⟩, .string ⟨#[]⟩, .string (bo sh), .slice none 0 0, .slice none 0 0])
             refine hK.out _ _ (HBR3.out) (fun hHeld => ?_)
             clear hK K
             try simp only [Act.put]
             refine wpAnyH_done (by kernel_rfl) ?_ _
             clear hHeld
             go_wp2_with fail
             go_meet
             case rel => exact ⟨gk, rfl, HGE.out, HK3.out, HBR3.out⟩
           · clear hHeld
             rw [if_pos (by rfl)]
             refine wp_alloc_q rfl ?_
             have HK1 := hideL (rq_new' (W3.drew))
             have HBR1 := hideL (HBR0.out.alloc HBR0.out.size rqO)
             have HGE := hideL (show W3.heap.size ≤ (W3.drew).heap.size from HBR0.out.size)
             obtain ⟨gk, hgk⟩ : ∃ gk, gk = (W3.drew).heap.size := ⟨_, rfl⟩
             rw [← hgk] at HK1 HGE ⊢
             clear hgk
             obtain ⟨V1, hVn⟩ : ∃ x, x = (W3.drew).alloc rqO := ⟨_, rfl⟩
             rw [← hVn] at HK1 HBR1 ⊢
             clear hVn
             refine hK.out _ _ (HBR1.out) (fun hHeld => ?_)
             clear hK K
             try simp only [pA, pB, pC, pD]
             refine wpAnyH_ready (rs := [19]) (by kernel_rfl) (by simp) ?_
             refine aC rfl (fun K hK => ?_)
             clear hHeld
             go_simp
             refine (LSH.out _).mono ?_
             rintro e V2 ⟨rfl, hB⟩
             have HBR2 := hideL (HBR1.out.trans (hB.mono HBR1.out.size))
             have HK2 := hideL (HK1.out.next hB)
             clear hB LSH
             refine hK.out _ _ (HBR2.out) (fun hHeld => ?_)
             clear hK K
             try simp only [pA, pB, pC, pD]
             refine tl 20 rfl hHeld ?_
             try simp only [pA, pB, pC, pD]
             refine wpAnyH_ready (rs := [22]) (by kernel_rfl) (by simp) ?_
             refine aC rfl (fun K hK => ?_)
             clear hHeld
             rw [if_pos (by rfl)]
             refine wp_store_row _ _ _ rfl gk #[.string M, .string Tg, .string ⟨#[]⟩, .string ⟨#[]⟩, .string (bo sh), .slice none 0 0, .slice none 0 0] rfl rfl _ _ HK2.out sizeRq rfl (oneRq _ _ _ _ _) ?_
             have HK3 := hideL (HK2.out.put (.string M) (.string Tg) (.string ⟨#[]⟩) (.string ⟨#[]⟩) (.string (bo sh)) (.slice none 0 0) (.slice none 0 0))
             have HBR3 := hideL (below_setRow HBR2.out (Nat.le_trans (Nat.le_refl _) HGE.out) #[.string M, .string Tg, .string ⟨#[]⟩, .string ⟨#[]⟩, .string (bo sh), .slice none 0 0, .slice none 0 0])
             refine hK.out _ _ (HBR3.out) (fun hHeld => ?_)
             clear hK K
             try simp only [Act.put]
             refine wpAnyH_done (by kernel_rfl) ?_ _
             clear hHeld
             go_wp2_with fail
             go_meet
             case rel => exact ⟨gk, rfl, HGE.out, HK3.out, HBR3.out⟩
         case rest =>
           obtain ⟨gk, rfl, hge, hkk, hbb⟩ := hcut
           obtain ⟨W4, rfl⟩ : ∃ W, W = wc := ⟨_, rfl⟩
           have HO4 := hideL (HO3.out.next hbb)
           have HK4 := hideL hkk
           have HGK := hideL (show w0.heap.size + 2 ≤ gk from Nat.le_trans HO4r.out hge)
           have k4 := HK4.out.c4
           clear hge hkk hbb HBR0 LSH HO3 C03 HLT3 A03 A13 B03 HLG3 HLH3 e2 e8 e3 e4
           have LH1 := LHO.out sh
           rw [hP] at LH1
           have LH1 := hideL LH1
           clear hP
           have ec : (M.toList == [67, 79, 78, 78, 69, 67, 84]) = false := by
             have := eqs_false (s := M) (t := ⟨#[67, 79, 78, 78, 69, 67, 84]⟩) (fun e => hcon (by have := congrArg (fun b : ByteArray => b.data.toList) (HM1.out.trans e); exact this))
             rwa [ByteArray.toList_eq ⟨#[67, 79, 78, 78, 69, 67, 84]⟩] at this
           have LN := LN.out
           rw [hN] at LN
           simp only [norRA] at LN
           have LN := hideL LN
           clear hN hcon
           go_upto_region 25 with (first
             | (go_at_call 17; (with_reducible refine (LH1.out _).mono ?_); rintro e w5 ⟨rfl, hB⟩
                have HO5 := hideL (HO4.out.next hB)
                have HK5 := hideL (HK4.out.next hB)
                have k0 := HK5.out.c0
                have k1 := HK5.out.c1
                clear hB k4)
             | (go_at_call 50; (with_reducible refine (LN.out _).mono ?_); rintro e w7 ⟨rfl, hB⟩
                have HO7 := hideL (HO5.out.next hB)
                have HK7 := hideL (HK5.out.next hB)
                have k2 := HK7.out.c2
                have k3 := HK7.out.c3
                have y2 := HK7.out.fz 2
                have y3 := HK7.out.fz 3
                clear hB k0 k1))
           clear k2 k3 y2 y3
           have q0 := HO7.out.res.c0
           have q1 := HO7.out.res.c1
           have q2 := HO7.out.res.c2
           have q3 := HO7.out.res.c3
           have q4 := HO7.out.res.c4
           have q5 := HO7.out.res.c5
           have q6 := HO7.out.res.c6
           have z0 := HO7.out.res.fz 0
           have z1 := HO7.out.res.fz 1
           have z2 := HO7.out.res.fz 2
           have z3 := HO7.out.res.fz 3
           have z4 := HO7.out.res.fz 4
           have z5 := HO7.out.res.fz 5
           have z6 := HO7.out.res.fz 6
           go_wp2_with fail
           exact bodyPost_ret (v := .tuple #[.agg #[.string ⟨#[]⟩, .string ⟨#[]⟩, .string ⟨#[]⟩, .string ⟨#[]⟩, .string ⟨#[]⟩, .slice none 0 0, .slice none 0 0], .bool false]) (by
             have hy := HO7.out.res.st7 (.string ⟨#[]⟩) (.string ⟨#[]⟩) (.string ⟨#[]⟩) (.string ⟨#[]⟩) (.string ⟨#[]⟩) (.slice none 0 0) (.slice none 0 0)
             have r0 := hy.c0
             have r1 := hy.c1
             have r2 := hy.c2
             have r3 := hy.c3
             have r4 := hy.c4
             have r5 := hy.c5
             have r6 := hy.c6
             simp [results, Tryz.results14, go_sem, r0, r1, r2, r3, r4, r5, r6]) rfl ⟨rfl, below_st7 HO7.out.be (Nat.le_succ _)⟩
end Go.Proofs.YtafmgoekgijfgaaGreatDoor
