/- The document's Of: all cases. The document's One. The document's May. -/
import Derived.Test.YtafmgoekgijfgaaGreatDoorORqROf1
import Derived.Test.YtafmgoekgijfgaaGreatDoorORqROf2
import Derived.Test.YtafmgoekgijfgaaGreatDoorORqROf3
import Derived.Test.YtafmgoekgijfgaaGreatDoorORqROf4
import Derived.Test.YtafmgoekgijfgaaGreatDoorORqROf5
import Derived.Test.YtafmgoekgijfgaaGreatDoorORqRAll
import Derived.Test.YtafmgoekgijfgaaGreatDoorORqOne
import Derived.Test.YtafmgoekgijfgaaGreatDoorORqM9
import Derived.Test.YtafmgoekgijfgaaGreatDoorOHdRefM
import Derived.Test.YtafmgoekgijfgaaGreatDoorOHdRef
import Derived.Test.YtafmgoekgijfgaaGreatDoorORqM1
namespace Go.Proofs.YtafmgoekgijfgaaGreatDoor
open Go.RowKit Go.Lib

theorem rof_any (s : ByteArray) (ha : Option Addr) (hn hc : Nat) (ba : Option Addr) (bn bc : Nat) (x : Rw) (w0 : World) (hr : RawAt w0 ⟨s, ⟨ha, hn, hc⟩, ⟨ba, bn, bc⟩⟩ x) (hf : Fits x.heads) (hs0 : s.size ≤ 900000) (hl : x.heads.length ≤ 1000) (hbl : x.body.length ≤ 900000) :
   Calls Tryz.prog 14 #[.agg #[.string s, .slice ha hn hc, .slice ba bn bc]] w0 (ROfPost w0 x) := by
 have hno : ∀ (_ : ofRP x = none) (_ : Calls Tryz.prog 14 #[.agg #[.string s, .slice ha hn hc, .slice ba bn bc]] w0 (fun e w' => e = .returned (.tuple #[.agg #[.string ⟨#[]⟩, .string ⟨#[]⟩, .string ⟨#[]⟩, .string ⟨#[]⟩, .string ⟨#[]⟩, .slice none 0 0, .slice none 0 0], .bool false]) ∧ Below w0.heap.size w0 w')), Calls Tryz.prog 14 #[.agg #[.string s, .slice ha hn hc, .slice ba bn bc]] w0 (ROfPost w0 x) := by
   intro h hc
   unfold ROfPost
   rw [h]
   exact hc
 have hso : ∀ {q : Rq} (_ : ofRP x = some q) (_ : Calls Tryz.prog 14 #[.agg #[.string s, .slice ha hn hc, .slice ba bn bc]] w0 (fun e w' => (∃ v : QV, e = .returned (.tuple #[v.v, .bool true]) ∧ ReqAt w' v q ∧ ReqGe w0.heap.size v) ∧ Below w0.heap.size w0 w')), Calls Tryz.prog 14 #[.agg #[.string s, .slice ha hn hc, .slice ba bn bc]] w0 (ROfPost w0 x) := by
   intro q h hc
   unfold ROfPost
   rw [h]
   exact hc
 by_cases h2 : (blaI 0 x.start).length = 2
 case neg => exact hno (of_not_two h2) (rof_1 s ha hn hc ba bn bc x w0 hr hf hs0 hl hbl h2)
 obtain ⟨i, j, hI⟩ := len_two h2
 have hof := of_two hI
 obtain ⟨hij, hjn, _⟩ := blaS_at hI
 by_cases hv : x.start.drop (j + 1) = http11
 case neg => exact hno (hof.trans (at_line hv)) (rof_2 s ha hn hc ba bn bc x w0 hr hf hs0 hl hbl hI hv)
 by_cases hi1 : i < 1
 · exact hno (hof.trans (at_met (met_len (.inl (by rw [List.length_take]; omega))))) (rof_3 s ha hn hc ba bn bc x w0 hr hf hs0 hl hbl hI hv hi1)
 by_cases hi16 : 16 < i
 · exact hno (hof.trans (at_met (met_len (.inr (by rw [List.length_take]; omega))))) (rof_4 s ha hn hc ba bn bc x w0 hr hf hs0 hl hbl hI hv hi1 hi16)
 by_cases hd1 : (allP hostA x.heads).length = 1
 case neg => exact hno (hof.trans (at_hosts hd1)) (rof_5 s ha hn hc ba bn bc x w0 hr hf hs0 hl hbl hI hv hi1 hi16 hd1)
 obtain ⟨h0, hd⟩ : ∃ h, allP hostA x.heads = [h] := List.length_eq_one_iff.1 hd1
 cases hm : metP (x.start.take i) with
 | false => exact hno (hof.trans (at_met hm)) (rof_6 s ha hn hc ba bn bc x w0 hr hf hs0 hl hbl hI hv hi1 hi16 hd hm)
 | true =>
   obtain ⟨ml, hml⟩ : ∃ l, x.start.take i = l := ⟨_, rfl⟩
   obtain ⟨tl, htl⟩ : ∃ l, (x.start.drop (i + 1)).take (j - (i + 1)) = l := ⟨_, rfl⟩
   obtain ⟨sh, hsh⟩ : ∃ l, h0.data.toList.map smB = l := ⟨_, rfl⟩
   rw [hml, htl] at hof
   rw [hml] at hm
   obtain ⟨⟨P1, P2⟩, hP⟩ : ∃ p, hosP sh = p := ⟨_, rfl⟩
   cases P1 with
   | false => exact hno (hof.trans (at_host hd (by rw [hsh, hP]))) (rof_7 s ha hn hc ba bn bc x w0 hr hf hs0 hl hbl hI hv hi1 hi16 hd hml htl hsh hP hm)
   | true =>
     have hh1 : (hosP (h0.data.toList.map smB)).1 = true := by rw [hsh, hP]
     by_cases hcon : ml = conL
     · obtain ⟨⟨Q1, Q2⟩, hQ⟩ : ∃ p, hosP (tl.map smB) = p := ⟨_, rfl⟩
       cases Q2 with
       | false =>
         have hro : roaP ml tl = none := by unfold roaP; rw [if_pos hcon, hQ]; rfl
         exact hno (hof.trans (at_road hd hro)) (rof_8 s ha hn hc ba bn bc x w0 hr hf hs0 hl hbl hI hv hi1 hi16 hd hml htl hsh hP hm hcon hQ)
       | true =>
         have hro : roaP ml tl = some ([], []) := by unfold roaP; rw [if_pos hcon, hQ]; rfl
         have h := at_some (x := x) hv hm hd hh1 hro
         rw [hsh] at h
         exact hso (hof.trans h) (rof_10 s ha hn hc ba bn bc x w0 hr hf hs0 hl hbl hI hv hi1 hi16 hd hml htl hsh hP hm hcon hQ)
     · have hro : roaP ml tl = norP tl := by unfold roaP; rw [if_neg hcon]
       cases hN : norP tl with
       | none => exact hno (hof.trans (at_road hd (hro.trans hN))) (rof_9 s ha hn hc ba bn bc x w0 hr hf hs0 hl hbl hI hv hi1 hi16 hd hml htl hsh hP hm hcon hN)
       | some p =>
         obtain ⟨pl, ql⟩ := p
         have h := at_some (x := x) hv hm hd hh1 (hro.trans hN)
         rw [hsh] at h
         exact hso (hof.trans h) (rof_11 s ha hn hc ba bn bc x w0 hr hf hs0 hl hbl hI hv hi1 hi16 hd hml htl hsh hP hm hcon hN)
end Go.Proofs.YtafmgoekgijfgaaGreatDoor
namespace Go.Proofs.YtafmgoekgijfgaaGreatDoor
open Go.RowKit Go.Lib

def rq0 : Rq := ⟨[], [], [], [], [], [], []⟩
theorem ReqAt.zero (w : World) : ReqAt w ⟨⟨#[]⟩, ⟨#[]⟩, ⟨#[]⟩, ⟨#[]⟩, ⟨#[]⟩, ⟨none, 0, 0⟩, ⟨none, 0, 0⟩⟩ rq0 := ⟨rfl, rfl, rfl, rfl, rfl, GAt.nil w, GAt.nil w⟩
/-- What Of answers, whichever it is. -/
def ROfAll (w : World) (x : Rw) (e : Ending) (w' : World) : Prop := (∃ (m t p r o : ByteArray) (ha : Option Addr) (hn hc : Nat) (ba : Option Addr) (bn bc : Nat), e = .returned (.tuple #[.agg #[.string m, .string t, .string p, .string r, .string o, .slice ha hn hc, .slice ba bn bc], .bool (ofRP x).isSome]) ∧ ReqAt w' ⟨m, t, p, r, o, ⟨ha, hn, hc⟩, ⟨ba, bn, bc⟩⟩ ((ofRP x).getD rq0) ∧ ReqGe w.heap.size ⟨m, t, p, r, o, ⟨ha, hn, hc⟩, ⟨ba, bn, bc⟩⟩) ∧ Below w.heap.size w w'
theorem rof_all (s : ByteArray) (ha : Option Addr) (hn hc : Nat) (ba : Option Addr) (bn bc : Nat) (x : Rw) (w : World) (hr : RawAt w ⟨s, ⟨ha, hn, hc⟩, ⟨ba, bn, bc⟩⟩ x) (hf : Fits x.heads) (hs0 : s.size ≤ 900000) (hl : x.heads.length ≤ 1000) (hbl : x.body.length ≤ 900000) :
   Calls Tryz.prog 14 #[.agg #[.string s, .slice ha hn hc, .slice ba bn bc]] w (ROfAll w x) := by
 refine (rof_any s ha hn hc ba bn bc x w hr hf hs0 hl hbl).mono ?_
 unfold ROfPost ROfAll
 cases ho : ofRP x with
 | none =>
   rintro e w' ⟨rfl, hB⟩
   exact ⟨⟨_, _, _, _, _, none, 0, 0, none, 0, 0, rfl, ReqAt.zero w', (fun k hk => by cases hk), (fun k hk => by cases hk)⟩, hB⟩
 | some q =>
   rintro e w' ⟨⟨⟨m, t, p, r, o, ⟨ha, hn, hc⟩, ⟨ba, bn, bc⟩⟩, rfl, h1, h2⟩, hB⟩
   exact ⟨⟨m, t, p, r, o, ha, hn, hc, ba, bn, bc, rfl, h1, h2⟩, hB⟩
/-- What One answers. -/
def ROnePost (w : World) (b : List UInt8) (e : Ending) (w' : World) : Prop := (∃ (m t p r o : ByteArray) (ha : Option Addr) (hn hc : Nat) (ba : Option Addr) (bn bc : Nat), e = .returned (.tuple #[.agg #[.string m, .string t, .string p, .string r, .string o, .slice ha hn hc, .slice ba bn bc], .int .i64 ((oneP b).1 : Nat)]) ∧ ReqAt w' ⟨m, t, p, r, o, ⟨ha, hn, hc⟩, ⟨ba, bn, bc⟩⟩ ((oneP b).2.getD rq0)) ∧ Below w.heap.size w w'
theorem ROnePost.bad {w w' : World} {b : List UInt8} {n : Nat} (h : oneP b = (n, none)) (hB : Below w.heap.size w w') : ROnePost w b (.returned (.tuple #[.agg #[.string ⟨#[]⟩, .string ⟨#[]⟩, .string ⟨#[]⟩, .string ⟨#[]⟩, .string ⟨#[]⟩, .slice none 0 0, .slice none 0 0], .int .i64 (n : Int)])) w' := by
 unfold ROnePost
 rw [h]
 exact ⟨⟨_, _, _, _, _, none, 0, 0, none, 0, 0, rfl, ReqAt.zero w'⟩, hB⟩
theorem one_fault {b : List UInt8} {xs : List Rw} {i : Bool} {c : Nat} (h : rowP b = (xs, i, c)) (hc : c ≠ 0) : oneP b = (c, none) := by
 unfold oneP
 rw [h]
 exact if_pos hc
theorem one_part {b : List UInt8} {xs : List Rw} (h : rowP b = (xs, false, 0)) : oneP b = (2, none) := by
 unfold oneP
 rw [h]
 rfl
theorem one_many {b : List UInt8} {xs : List Rw} (h : rowP b = (xs, true, 0)) (hl : xs.length ≠ 1) : oneP b = (2, none) := by
 unfold oneP
 rw [h]
 match xs, hl with
 | [], _ => rfl
 | _ :: _ :: _, _ => rfl
theorem one_single {b : List UInt8} {x : Rw} (h : rowP b = ([x], true, 0)) : oneP b = (match ofRP x with | some r => (0, some r) | none => (2, none)) := by
 unfold oneP
 rw [h]
 rfl
set_option maxRecDepth 100000 in
set_option maxHeartbeats 4000000 in
theorem rone_any (vo : Option Addr) (vc n : Nat) (b : List UInt8) (hbn : b.length = n) (w : World) (gv : GAt KB w (.slice vo n vc) b) (hbl : n ≤ 200000) :
   Calls Tryz.prog 10 #[.slice vo n vc] w (ROnePost w b) := by
 have HB1 := hideL ((Below.refl w.heap.size w).alloc (Nat.le_refl _) rqO)
 have HX := hideL (rq_new w)
 have LR := rall_any vo vc n b hbn (w.alloc rqO) (gv.below HB1.out) hbl
 unfold AllPost at LR
 have hgood := row_good b
 obtain ⟨⟨xs, i, c⟩, hrow⟩ : ∃ r, rowP b = r := ⟨_, rfl⟩
 rw [hrow] at LR hgood
 simp only at LR hgood
 have LR := hideL LR
 have HROW := hideL hrow
 clear gv hbn hbl hrow
 by_cases hc : c = 0
 case neg =>
   have i1 : ((c : Int) != 0) = true := by rw [bne_iff_ne]; omega
   have HNO := hideL (one_fault HROW.out hc)
   clear hc
   go_enter Tryz.func10, Tryz.ntmps10
   go_wp2_with
     (go_at_call 38; (with_reducible refine LR.out.mono ?_); rintro e w3 ⟨wa, wn, wc, rfl, hrw, hB⟩
      obtain rfl : wn = xs.length := (by obtain ⟨ao, cap, e⟩ := hrw.len; injection e)
      have HX3 := hideL (HX.out.next hB)
      have HB3 := hideL (HB1.out.trans (hB.mono HB1.out.size))
      have q0 := HX3.out.c0
      have q1 := HX3.out.c1
      have q2 := HX3.out.c2
      have q3 := HX3.out.c3
      have q4 := HX3.out.c4
      have q5 := HX3.out.c5
      have q6 := HX3.out.c6
      have z0 := HX3.out.fz 0
      have z1 := HX3.out.fz 1
      have z2 := HX3.out.fz 2
      have z3 := HX3.out.fz 3
      have z4 := HX3.out.fz 4
      have z5 := HX3.out.fz 5
      have z6 := HX3.out.fz 6
      clear hB hrw)
   exact bodyPost_ret (v := .tuple #[.agg #[.string ⟨#[]⟩, .string ⟨#[]⟩, .string ⟨#[]⟩, .string ⟨#[]⟩, .string ⟨#[]⟩, .slice none 0 0, .slice none 0 0], .int .i64 c]) (by
     have hy := HX3.out.st7 (.string ⟨#[]⟩) (.string ⟨#[]⟩) (.string ⟨#[]⟩) (.string ⟨#[]⟩) (.string ⟨#[]⟩) (.slice none 0 0) (.slice none 0 0)
     have r0 := hy.c0
     have r1 := hy.c1
     have r2 := hy.c2
     have r3 := hy.c3
     have r4 := hy.c4
     have r5 := hy.c5
     have r6 := hy.c6
     simp [results, Tryz.results10, go_sem, r0, r1, r2, r3, r4, r5, r6]) rfl (ROnePost.bad HNO.out (below_st7 HB3.out (Nat.le_refl _)))
 subst hc
 cases i with
 | false =>
   have HNO := hideL (one_part HROW.out)
   go_enter Tryz.func10, Tryz.ntmps10
   go_wp2_with
     (go_at_call 38; (with_reducible refine LR.out.mono ?_); rintro e w3 ⟨wa, wn, wc, rfl, hrw, hB⟩
      obtain rfl : wn = xs.length := (by obtain ⟨ao, cap, e⟩ := hrw.len; injection e)
      have HX3 := hideL (HX.out.next hB)
      have HB3 := hideL (HB1.out.trans (hB.mono HB1.out.size))
      have q0 := HX3.out.c0
      have q1 := HX3.out.c1
      have q2 := HX3.out.c2
      have q3 := HX3.out.c3
      have q4 := HX3.out.c4
      have q5 := HX3.out.c5
      have q6 := HX3.out.c6
      have z0 := HX3.out.fz 0
      have z1 := HX3.out.fz 1
      have z2 := HX3.out.fz 2
      have z3 := HX3.out.fz 3
      have z4 := HX3.out.fz 4
      have z5 := HX3.out.fz 5
      have z6 := HX3.out.fz 6
      clear hB hrw)
   exact bodyPost_ret (v := .tuple #[.agg #[.string ⟨#[]⟩, .string ⟨#[]⟩, .string ⟨#[]⟩, .string ⟨#[]⟩, .string ⟨#[]⟩, .slice none 0 0, .slice none 0 0], .int .i64 2]) (by
     have hy := HX3.out.st7 (.string ⟨#[]⟩) (.string ⟨#[]⟩) (.string ⟨#[]⟩) (.string ⟨#[]⟩) (.string ⟨#[]⟩) (.slice none 0 0) (.slice none 0 0)
     have r0 := hy.c0
     have r1 := hy.c1
     have r2 := hy.c2
     have r3 := hy.c3
     have r4 := hy.c4
     have r5 := hy.c5
     have r6 := hy.c6
     simp [results, Tryz.results10, go_sem, r0, r1, r2, r3, r4, r5, r6]) rfl (ROnePost.bad HNO.out (below_st7 HB3.out (Nat.le_refl _)))
 | true =>
   by_cases hl1 : xs.length = 1
   case neg =>
     have i2 : ((xs.length : Int) != 1) = true := by rw [bne_iff_ne]; omega
     have HNO := hideL (one_many HROW.out hl1)
     obtain ⟨nx, hnx⟩ : ∃ n, xs.length = n := ⟨_, rfl⟩
     rw [hnx] at i2
     have HNX := hideL hnx
     clear hl1 hnx
     go_enter Tryz.func10, Tryz.ntmps10
     go_wp2_with
       (go_at_call 38; (with_reducible refine LR.out.mono ?_); rintro e w3 ⟨wa, wn, wc, rfl, hrw, hB⟩
        obtain rfl : wn = nx := HNX.out ▸ (by obtain ⟨ao, cap, e⟩ := hrw.len; injection e)
        have HX3 := hideL (HX.out.next hB)
        have HB3 := hideL (HB1.out.trans (hB.mono HB1.out.size))
        have q0 := HX3.out.c0
        have q1 := HX3.out.c1
        have q2 := HX3.out.c2
        have q3 := HX3.out.c3
        have q4 := HX3.out.c4
        have q5 := HX3.out.c5
        have q6 := HX3.out.c6
        have z0 := HX3.out.fz 0
        have z1 := HX3.out.fz 1
        have z2 := HX3.out.fz 2
        have z3 := HX3.out.fz 3
        have z4 := HX3.out.fz 4
        have z5 := HX3.out.fz 5
        have z6 := HX3.out.fz 6
        clear hB hrw)
     exact bodyPost_ret (v := .tuple #[.agg #[.string ⟨#[]⟩, .string ⟨#[]⟩, .string ⟨#[]⟩, .string ⟨#[]⟩, .string ⟨#[]⟩, .slice none 0 0, .slice none 0 0], .int .i64 2]) (by
       have hy := HX3.out.st7 (.string ⟨#[]⟩) (.string ⟨#[]⟩) (.string ⟨#[]⟩) (.string ⟨#[]⟩) (.string ⟨#[]⟩) (.slice none 0 0) (.slice none 0 0)
       have r0 := hy.c0
       have r1 := hy.c1
       have r2 := hy.c2
       have r3 := hy.c3
       have r4 := hy.c4
       have r5 := hy.c5
       have r6 := hy.c6
       simp [results, Tryz.results10, go_sem, r0, r1, r2, r3, r4, r5, r6]) rfl (ROnePost.bad HNO.out (below_st7 HB3.out (Nat.le_refl _)))
   obtain ⟨x, rfl⟩ : ∃ x, xs = [x] := List.length_eq_one_iff.1 hl1
   obtain ⟨g1, g2, g3⟩ := hgood x (by simp)
   have LO := (fun (s : ByteArray) (ha : Option Addr) (hn hc : Nat) (ba : Option Addr) (bn bc : Nat) (W : World) (hr : RawAt W ⟨s, ⟨ha, hn, hc⟩, ⟨ba, bn, bc⟩⟩ x) => rof_all s ha hn hc ba bn bc x W hr (good_fits g1) (by rw [← size_list, hr.1]; omega) (by have := mayH_len g1; omega) (by omega))
   unfold ROfAll at LO
   have h1 := one_single HROW.out
   clear hgood hl1 g1 g2 g3 HROW
   cases ho : ofRP x with
   | none =>
     rw [ho] at h1
     have HNO := hideL h1
     simp only [ho, Option.isSome_none, Option.getD_none] at LO
     have LO := hideL LO
     clear ho h1
     go_enter Tryz.func10, Tryz.ntmps10
     go_wp2_with (first
       | (go_at_call 38; (with_reducible refine LR.out.mono ?_); rintro e w3 ⟨wa, wn, wc, rfl, hrw, hB⟩
          obtain rfl : wn = 1 := (by obtain ⟨ao, cap, e⟩ := hrw.len; injection e)
          obtain ⟨b0, o0, ⟨rs, ⟨rha, rhn, rhc⟩, ⟨rba, rbn, rbc⟩⟩, rfl, hlt0, d0, d1, d2, hra⟩ := hrw.at (k := 0) (by decide)
          simp only [Sl.v, Nat.zero_mul, Nat.add_zero] at d0 d1 d2
          have HX3 := hideL (HX.out.next hB)
          have HB3 := hideL (HB1.out.trans (hB.mono HB1.out.size))
          have HRA := hideL hra
          clear hra hlt0
          clear hB hrw)
       | (go_at_call 14; (with_reducible refine (LO.out rs rha rhn rhc rba rbn rbc _ HRA.out).mono ?_); rintro e w4 ⟨⟨m, t, p, r, o, ha, hn, hc, ba, bn, bc, rfl, _, _⟩, hB⟩
          have hz2 := (Below.refl w4.heap.size w4).alloc (Nat.le_refl _) (rqQ m t p r o (.slice ha hn hc) (.slice ba bn bc))
          have hz3 := hB.trans (hz2.mono hB.size)
          have HX4 := hideL (HX3.out.next hz3)
          have HB4 := hideL (HB3.out.trans (hz3.mono HB3.out.size))
          have q0 := HX4.out.c0
          have q1 := HX4.out.c1
          have q2 := HX4.out.c2
          have q3 := HX4.out.c3
          have q4 := HX4.out.c4
          have q5 := HX4.out.c5
          have q6 := HX4.out.c6
          have z0 := HX4.out.fz 0
          have z1 := HX4.out.fz 1
          have z2 := HX4.out.fz 2
          have z3 := HX4.out.fz 3
          have z4 := HX4.out.fz 4
          have z5 := HX4.out.fz 5
          have z6 := HX4.out.fz 6
          clear hB hz2 hz3))
     exact bodyPost_ret (v := .tuple #[.agg #[.string ⟨#[]⟩, .string ⟨#[]⟩, .string ⟨#[]⟩, .string ⟨#[]⟩, .string ⟨#[]⟩, .slice none 0 0, .slice none 0 0], .int .i64 2]) (by
       have hy := HX4.out.st7 (.string ⟨#[]⟩) (.string ⟨#[]⟩) (.string ⟨#[]⟩) (.string ⟨#[]⟩) (.string ⟨#[]⟩) (.slice none 0 0) (.slice none 0 0)
       have r0 := hy.c0
       have r1 := hy.c1
       have r2 := hy.c2
       have r3 := hy.c3
       have r4 := hy.c4
       have r5 := hy.c5
       have r6 := hy.c6
       simp [results, Tryz.results10, go_sem, r0, r1, r2, r3, r4, r5, r6]) rfl (ROnePost.bad HNO.out (below_st7 HB4.out (Nat.le_refl _)))
   | some q =>
     rw [ho] at h1
     have HSO := hideL h1
     simp only [ho, Option.isSome_some, Option.getD_some] at LO
     have LO := hideL LO
     clear ho h1
     go_enter Tryz.func10, Tryz.ntmps10
     go_wp2_with (first
       | (go_at_call 38; (with_reducible refine LR.out.mono ?_); rintro e w3 ⟨wa, wn, wc, rfl, hrw, hB⟩
          obtain rfl : wn = 1 := (by obtain ⟨ao, cap, e⟩ := hrw.len; injection e)
          obtain ⟨b0, o0, ⟨rs, ⟨rha, rhn, rhc⟩, ⟨rba, rbn, rbc⟩⟩, rfl, hlt0, d0, d1, d2, hra⟩ := hrw.at (k := 0) (by decide)
          simp only [Sl.v, Nat.zero_mul, Nat.add_zero] at d0 d1 d2
          have HX3 := hideL (HX.out.next hB)
          have HB3 := hideL (HB1.out.trans (hB.mono HB1.out.size))
          have HRA := hideL hra
          clear hra hlt0
          clear hB hrw)
       | (go_at_call 14; (with_reducible refine (LO.out rs rha rhn rhc rba rbn rbc _ HRA.out).mono ?_); rintro e w4 ⟨⟨m, t, p, r, o, ha, hn, hc, ba, bn, bc, rfl, hq, hg⟩, hB⟩
          have hz2 := (Below.refl w4.heap.size w4).alloc (Nat.le_refl _) (rqQ m t p r o (.slice ha hn hc) (.slice ba bn bc))
          have hz3 := hB.trans (hz2.mono hB.size)
          have HX4 := hideL (HX3.out.next hz3)
          have HB4 := hideL (HB3.out.trans (hz3.mono HB3.out.size))
          have hb := rq_box w4 m t p r o (.slice ha hn hc) (.slice ba bn bc)
          have k0 := hb.c0
          have k1 := hb.c1
          have k2 := hb.c2
          have k3 := hb.c3
          have k4 := hb.c4
          have k5 := hb.c5
          have k6 := hb.c6
          have HQ := hideL (hq.below hz2)
          have HGE := hideL hg
          have HXL := hideL HX3.out.lt
          have q0 := HX4.out.c0
          have q1 := HX4.out.c1
          have q2 := HX4.out.c2
          have q3 := HX4.out.c3
          have q4 := HX4.out.c4
          have q5 := HX4.out.c5
          have q6 := HX4.out.c6
          have z0 := HX4.out.fz 0
          have z1 := HX4.out.fz 1
          have z2 := HX4.out.fz 2
          have z3 := HX4.out.fz 3
          have z4 := HX4.out.fz 4
          have z5 := HX4.out.fz 5
          have z6 := HX4.out.fz 6
          clear hB hz2 hz3 hb hq hg))
     have hy := HX4.out.st7 (.string m) (.string t) (.string p) (.string r) (.string o) (.slice ha hn hc) (.slice ba bn bc)
     have r0 := hy.c0
     have r1 := hy.c1
     have r2 := hy.c2
     have r3 := hy.c3
     have r4 := hy.c4
     have r5 := hy.c5
     have r6 := hy.c6
     have kk := keepg_st7 (w4.alloc (rqQ m t p r o (.slice ha hn hc) (.slice ba bn bc))) w.heap.size (.string m) (.string t) (.string p) (.string r) (.string o) (.slice ha hn hc) (.slice ba bn bc)
     obtain ⟨y1, y2, y3, y4, y5, y6, y7⟩ := HQ.out
     have hxl := HXL.out
     have f1 := y6.keep kk (fun q hq e => by have := HGE.out.1 q hq; have e : q = w.heap.size := e; omega)
     have f2 := y7.keep kk (fun q hq e => by have := HGE.out.2 q hq; have e : q = w.heap.size := e; omega)
     refine bodyPost_ret (v := .tuple #[.agg #[.string m, .string t, .string p, .string r, .string o, .slice ha hn hc, .slice ba bn bc], .int .i64 0]) (by simp [results, Tryz.results10, go_sem, r0, r1, r2, r3, r4, r5, r6]) rfl ?_
     unfold ROnePost
     rw [HSO.out]
     exact ⟨⟨m, t, p, r, o, ha, hn, hc, ba, bn, bc, rfl, y1, y2, y3, y4, y5, f1, f2⟩, below_st7 HB4.out (Nat.le_refl _)⟩
end Go.Proofs.YtafmgoekgijfgaaGreatDoor
namespace Go.Proofs.YtafmgoekgijfgaaGreatDoor
open Go.RowKit Go.Lib

end Go.Proofs.YtafmgoekgijfgaaGreatDoor
