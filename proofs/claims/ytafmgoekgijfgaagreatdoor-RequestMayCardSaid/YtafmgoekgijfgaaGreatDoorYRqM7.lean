/- The document's Of: all cases. The document's One. The document's May. -/
import Derived.Test.YtafmgoekgijfgaaGreatDoorYRqROf1
import Derived.Test.YtafmgoekgijfgaaGreatDoorYRqROf2
import Derived.Test.YtafmgoekgijfgaaGreatDoorYRqROf3
import Derived.Test.YtafmgoekgijfgaaGreatDoorYRqROf4
import Derived.Test.YtafmgoekgijfgaaGreatDoorYRqROf5
import Derived.Test.YtafmgoekgijfgaaGreatDoorYRqRAll
import Derived.Test.YtafmgoekgijfgaaGreatDoorYRqOne
import Derived.Test.YtafmgoekgijfgaaGreatDoorYRqM9
import Derived.Test.YtafmgoekgijfgaaGreatDoorYRqRFit
namespace Go.Proofs.YtafmgoekgijfgaaGreatDoor
open Go.RowKit Go.Lib

theorem rof_any (s : ByteArray) (ha : Option Addr) (hn hc : Nat) (ba : Option Addr) (bn bc : Nat) (x : Rw) (w0 : World) (hr : RawAt w0 ⟨s, ⟨ha, hn, hc⟩, ⟨ba, bn, bc⟩⟩ x) (hf : Fits x.heads) (hs0 : s.size ≤ 900000) (hl : x.heads.length ≤ 1000) (hbl : x.body.length ≤ 900000) :
   Calls Tryz.prog 14 #[.agg #[.string s, .slice ha hn hc, .slice ba bn bc]] w0 (ROfPost w0 x) := by
 have hno : ∀ (_ : ofRP x = none) (_ : Calls Tryz.prog 14 #[.agg #[.string s, .slice ha hn hc, .slice ba bn bc]] w0 (fun e w' => e = .returned (.tuple #[.agg #[.string ⟨#[]⟩, .string ⟨#[]⟩, .string ⟨#[]⟩, .string ⟨#[]⟩, .string ⟨#[]⟩, .slice none 0 0, .slice none 0 0], .bool false]) ∧ Below w0.heap.size w0 w')), Calls Tryz.prog 14 #[.agg #[.string s, .slice ha hn hc, .slice ba bn bc]] w0 (ROfPost w0 x) := by
   intro h hc
   unfold ROfPost
   rw [h]
   exact hc
 have hso : ∀ {q : Rq} (_ : ofRP x = some q) (_ : Calls Tryz.prog 14 #[.agg #[.string s, .slice ha hn hc, .slice ba bn bc]] w0 (fun e w' => (∃ v : QV, e = .returned (.tuple #[v.v, .bool true]) ∧ ReqAt w' v q ∧ ReqGe w0.heap.size v) ∧ Below w0.heap.size w0 w')), Calls Tryz.prog 14 #[.agg #[.string s, .slice ha hn hc, .slice ba bn bc]] w0 (ROfPost w0 x) := by
   intro q h hc
   unfold ROfPost
   rw [h]
   exact hc
 by_cases h2 : (blaI 0 x.start).length = 2
 case neg => exact hno (of_not_two h2) (rof_1 s ha hn hc ba bn bc x w0 hr hf hs0 hl hbl h2)
 obtain ⟨i, j, hI⟩ := len_two h2
 have hof := of_two hI
 obtain ⟨hij, hjn, _⟩ := blaS_at hI
 by_cases hv : x.start.drop (j + 1) = http11
 case neg => exact hno (hof.trans (at_line hv)) (rof_2 s ha hn hc ba bn bc x w0 hr hf hs0 hl hbl hI hv)
 by_cases hi1 : i < 1
 · exact hno (hof.trans (at_met (met_len (.inl (by rw [List.length_take]; omega))))) (rof_3 s ha hn hc ba bn bc x w0 hr hf hs0 hl hbl hI hv hi1)
 by_cases hi16 : 16 < i
 · exact hno (hof.trans (at_met (met_len (.inr (by rw [List.length_take]; omega))))) (rof_4 s ha hn hc ba bn bc x w0 hr hf hs0 hl hbl hI hv hi1 hi16)
 by_cases hd1 : (allP hostA x.heads).length = 1
 case neg => exact hno (hof.trans (at_hosts hd1)) (rof_5 s ha hn hc ba bn bc x w0 hr hf hs0 hl hbl hI hv hi1 hi16 hd1)
 obtain ⟨h0, hd⟩ : ∃ h, allP hostA x.heads = [h] := List.length_eq_one_iff.1 hd1
 cases hm : metP (x.start.take i) with
 | false => exact hno (hof.trans (at_met hm)) (rof_6 s ha hn hc ba bn bc x w0 hr hf hs0 hl hbl hI hv hi1 hi16 hd hm)
 | true =>
   obtain ⟨ml, hml⟩ : ∃ l, x.start.take i = l := ⟨_, rfl⟩
   obtain ⟨tl, htl⟩ : ∃ l, (x.start.drop (i + 1)).take (j - (i + 1)) = l := ⟨_, rfl⟩
   obtain ⟨sh, hsh⟩ : ∃ l, h0.data.toList.map smB = l := ⟨_, rfl⟩
   rw [hml, htl] at hof
   rw [hml] at hm
   obtain ⟨⟨P1, P2⟩, hP⟩ : ∃ p, hosP sh = p := ⟨_, rfl⟩
   cases P1 with
   | false => exact hno (hof.trans (at_host hd (by rw [hsh, hP]))) (rof_7 s ha hn hc ba bn bc x w0 hr hf hs0 hl hbl hI hv hi1 hi16 hd hml htl hsh hP hm)
   | true =>
     have hh1 : (hosP (h0.data.toList.map smB)).1 = true := by rw [hsh, hP]
     by_cases hcon : ml = conL
     · obtain ⟨⟨Q1, Q2⟩, hQ⟩ : ∃ p, hosP (tl.map smB) = p := ⟨_, rfl⟩
       cases Q2 with
       | false =>
         have hro : roaP ml tl = none := by unfold roaP; rw [if_pos hcon, hQ]; rfl
         exact hno (hof.trans (at_road hd hro)) (rof_8 s ha hn hc ba bn bc x w0 hr hf hs0 hl hbl hI hv hi1 hi16 hd hml htl hsh hP hm hcon hQ)
       | true =>
         have hro : roaP ml tl = some ([], []) := by unfold roaP; rw [if_pos hcon, hQ]; rfl
         have h := at_some (x := x) hv hm hd hh1 hro
         rw [hsh] at h
         exact hso (hof.trans h) (rof_10 s ha hn hc ba bn bc x w0 hr hf hs0 hl hbl hI hv hi1 hi16 hd hml htl hsh hP hm hcon hQ)
     · have hro : roaP ml tl = norP tl := by unfold roaP; rw [if_neg hcon]
       cases hN : norP tl with
       | none => exact hno (hof.trans (at_road hd (hro.trans hN))) (rof_9 s ha hn hc ba bn bc x w0 hr hf hs0 hl hbl hI hv hi1 hi16 hd hml htl hsh hP hm hcon hN)
       | some p =>
         obtain ⟨pl, ql⟩ := p
         have h := at_some (x := x) hv hm hd hh1 (hro.trans hN)
         rw [hsh] at h
         exact hso (hof.trans h) (rof_11 s ha hn hc ba bn bc x w0 hr hf hs0 hl hbl hI hv hi1 hi16 hd hml htl hsh hP hm hcon hN)
end Go.Proofs.YtafmgoekgijfgaaGreatDoor
namespace Go.Proofs.YtafmgoekgijfgaaGreatDoor
open Go.RowKit Go.Lib

def rq0 : Rq := ⟨[], [], [], [], [], [], []⟩
theorem ReqAt.zero (w : World) : ReqAt w ⟨⟨#[]⟩, ⟨#[]⟩, ⟨#[]⟩, ⟨#[]⟩, ⟨#[]⟩, ⟨none, 0, 0⟩, ⟨none, 0, 0⟩⟩ rq0 := ⟨rfl, rfl, rfl, rfl, rfl, GAt.nil w, GAt.nil w⟩
/-- What Of answers, whichever it is. -/
def ROfAll (w : World) (x : Rw) (e : Ending) (w' : World) : Prop := (∃ (m t p r o : ByteArray) (ha : Option Addr) (hn hc : Nat) (ba : Option Addr) (bn bc : Nat), e = .returned (.tuple #[.agg #[.string m, .string t, .string p, .string r, .string o, .slice ha hn hc, .slice ba bn bc], .bool (ofRP x).isSome]) ∧ ReqAt w' ⟨m, t, p, r, o, ⟨ha, hn, hc⟩, ⟨ba, bn, bc⟩⟩ ((ofRP x).getD rq0) ∧ ReqGe w.heap.size ⟨m, t, p, r, o, ⟨ha, hn, hc⟩, ⟨ba, bn, bc⟩⟩) ∧ Below w.heap.size w w'
theorem rof_all (s : ByteArray) (ha : Option Addr) (hn hc : Nat) (ba : Option Addr) (bn bc : Nat) (x : Rw) (w : World) (hr : RawAt w ⟨s, ⟨ha, hn, hc⟩, ⟨ba, bn, bc⟩⟩ x) (hf : Fits x.heads) (hs0 : s.size ≤ 900000) (hl : x.heads.length ≤ 1000) (hbl : x.body.length ≤ 900000) :
   Calls Tryz.prog 14 #[.agg #[.string s, .slice ha hn hc, .slice ba bn bc]] w (ROfAll w x) := by
 refine (rof_any s ha hn hc ba bn bc x w hr hf hs0 hl hbl).mono ?_
 unfold ROfPost ROfAll
 cases ho : ofRP x with
 | none =>
   rintro e w' ⟨rfl, hB⟩
   exact ⟨⟨_, _, _, _, _, none, 0, 0, none, 0, 0, rfl, ReqAt.zero w', (fun k hk => by cases hk), (fun k hk => by cases hk)⟩, hB⟩
 | some q =>
   rintro e w' ⟨⟨⟨m, t, p, r, o, ⟨ha, hn, hc⟩, ⟨ba, bn, bc⟩⟩, rfl, h1, h2⟩, hB⟩
   exact ⟨⟨m, t, p, r, o, ha, hn, hc, ba, bn, bc, rfl, h1, h2⟩, hB⟩
/-- What One answers. -/
def ROnePost (w : World) (b : List UInt8) (e : Ending) (w' : World) : Prop := (∃ (m t p r o : ByteArray) (ha : Option Addr) (hn hc : Nat) (ba : Option Addr) (bn bc : Nat), e = .returned (.tuple #[.agg #[.string m, .string t, .string p, .string r, .string o, .slice ha hn hc, .slice ba bn bc], .int .i64 ((oneP b).1 : Nat)]) ∧ ReqAt w' ⟨m, t, p, r, o, ⟨ha, hn, hc⟩, ⟨ba, bn, bc⟩⟩ ((oneP b).2.getD rq0)) ∧ Below w.heap.size w w'
theorem ROnePost.bad {w w' : World} {b : List UInt8} {n : Nat} (h : oneP b = (n, none)) (hB : Below w.heap.size w w') : ROnePost w b (.returned (.tuple #[.agg #[.string ⟨#[]⟩, .string ⟨#[]⟩, .string ⟨#[]⟩, .string ⟨#[]⟩, .string ⟨#[]⟩, .slice none 0 0, .slice none 0 0], .int .i64 (n : Int)])) w' := by
 unfold ROnePost
 rw [h]
 exact ⟨⟨_, _, _, _, _, none, 0, 0, none, 0, 0, rfl, ReqAt.zero w'⟩, hB⟩
end Go.Proofs.YtafmgoekgijfgaaGreatDoor
namespace Go.Proofs.YtafmgoekgijfgaaGreatDoor
open Go.RowKit Go.Lib

theorem sta_sum (m t : ByteArray) : m ++ (⟨#[32]⟩ : ByteArray) ++ t ++ (⟨#[32, 72, 84, 84, 80, 47, 49, 46, 49]⟩ : ByteArray) = bo (staP m.data.toList t.data.toList) := bytes_ext (by
 simp only [ByteArray.data_append, Array.toList_append, bo_list]
 unfold staP http11
 simp)
theorem not_may {x : Rq} (h : ofRP (rawP x) = none) : ¬ mayR x := fun e => by have := e.1; rw [h] at this; cases this
theorem may_eq {x y : Rq} (h : ofRP (rawP x) = some y) : mayR x ↔ (y = x ∧ fitP x.heads x.body = true) := by
 unfold mayR
 rw [h]
 constructor
 · rintro ⟨e, hf⟩
   injection e with e
   exact ⟨e, hf⟩
 · rintro ⟨e, hf⟩
   exact ⟨by rw [e], hf⟩
set_option maxRecDepth 100000 in
set_option maxHeartbeats 4000000 in
theorem rmay_any (m t p q o : ByteArray) (ha : Option Addr) (hn hc : Nat) (ba : Option Addr) (bn bc : Nat) (x : Rq) (w : World) (hr : ReqAt w ⟨m, t, p, q, o, ⟨ha, hn, hc⟩, ⟨ba, bn, bc⟩⟩ x) (hf : Fits x.heads) (hsz : m.size + t.size ≤ 800000) (hl : x.heads.length ≤ 1000) (hbl : x.body.length ≤ 900000) :
   Calls Tryz.prog 19 #[.agg #[.string m, .string t, .string p, .string q, .string o, .slice ha hn hc, .slice ba bn bc]] w (fun e w' => (∃ z, e = .returned (.bool z) ∧ (z = true ↔ mayR x)) ∧ Below w.heap.size w w') := by
 have hr0 := hr
 obtain ⟨e1, e2, e3, e4, e5, gh, gb⟩ := hr
 simp only [Sl.v] at gh gb
 have HX1 := hideL (rq_box w m t p q o (.slice ha hn hc) (.slice ba bn bc))
 have HB1 := hideL ((Below.refl w.heap.size w).alloc (Nat.le_refl _) (rqQ m t p q o (.slice ha hn hc) (.slice ba bn bc)))
 obtain ⟨S, hS⟩ : ∃ S, bo (staP m.data.toList t.data.toList) = S := ⟨_, rfl⟩
 have hsum := (sta_sum m t).trans hS
 have hSl : S.data.toList = (rawP x).start := by
   rw [← hS, bo_list, e1, e2]
   rfl
 have hSs : S.size ≤ 900000 := by
   rw [← hS, bo_size, sta_len, size_list, size_list]
   omega
 have n1 : ¬ 9223372036854775807 < m.size + 1 := by omega
 have n2 : ¬ 9223372036854775807 < m.size + 1 + t.size := by omega
 have n3 : ¬ 9223372036854775807 < m.size + 1 + t.size + 9 := by omega
 have LO := fun (W : World) (hb : Below w.heap.size w W) => rof_all S ha hn hc ba bn bc (rawP x) W ⟨hSl, gh.below hb, gb.below hb⟩ hf hSs hl hbl
 unfold ROfAll at LO
 have LF := fun (W : World) (hb : Below w.heap.size w W) => fits_any ha hn hc ba bn bc x.heads x.body W (gh.below hb) gb.le.1.symm hf hl
 have HR0 := hideL (fun (W : World) (hb : Below w.heap.size w W) => hr0.below hb)
 have HL := hideL hl
 have x0 := HX1.out.c0
 have x1 := HX1.out.c1
 have x5 := HX1.out.c5
 have x6 := HX1.out.c6
 clear hr0 e1 e2 e3 e4 e5 gh gb hSl hSs hS hf hsz hl hbl
 cases ho : ofRP (rawP x) with
 | none =>
   rw [ho] at LO
   simp only [Option.isSome_none] at LO
   have LO := hideL LO
   have HN := hideL (not_may ho)
   clear ho LF
   go_enter Tryz.func19, Tryz.ntmps19
   go_wp2_with (go_at_call 14; (with_reducible refine (LO.out _ HB1.out).mono ?_); rintro e w4 ⟨⟨m2, t2, p2, q2, o2, ha2, hn2, hc2, ba2, bn2, bc2, rfl, _, _⟩, hB⟩; have hz := (Below.refl w4.heap.size w4).alloc (Nat.le_refl _) (rqQ m2 t2 p2 q2 o2 (.slice ha2 hn2 hc2) (.slice ba2 bn2 bc2)); have HB4 := hideL (HB1.out.trans ((hB.trans (hz.mono hB.size)).mono HB1.out.size)); clear hB hz)
   go_ret
   exact ⟨⟨false, rfl, fun h => absurd h Bool.false_ne_true, fun h => absurd h HN.out⟩, HB4.out⟩
 | some y =>
   rw [ho] at LO
   simp only [Option.isSome_some, Option.getD_some] at LO
   have LO := hideL LO
   have HI := hideL (may_eq ho)
   obtain ⟨F, hF⟩ : ∃ b, fitP x.heads x.body = b := ⟨_, rfl⟩
   rw [hF] at LF HI
   have LF := hideL LF
   clear ho hF
   by_cases hyx : y = x
   · have HYX := hideL hyx
     clear hyx
     go_enter Tryz.func19, Tryz.ntmps19
     go_wp2_with (first
       | (go_at_call 14; (with_reducible refine (LO.out _ HB1.out).mono ?_); rintro e w4 ⟨⟨m2, t2, p2, q2, o2, ha2, hn2, hc2, ba2, bn2, bc2, rfl, hreq, _⟩, hB⟩
          have hz := (Below.refl w4.heap.size w4).alloc (Nat.le_refl _) (rqQ m2 t2 p2 q2 o2 (.slice ha2 hn2 hc2) (.slice ba2 bn2 bc2))
          have hz2 := hB.trans (hz.mono hB.size)
          have HB4 := hideL (HB1.out.trans (hz2.mono HB1.out.size))
          have HX4 := hideL (HX1.out.next hz2)
          have hb := HX4.out
          have y0 := hb.c0
          have y1 := hb.c1
          have y2 := hb.c2
          have y3 := hb.c3
          have y4 := hb.c4
          have y5 := hb.c5
          have y6 := hb.c6
          have hb2 := rq_box w4 m2 t2 p2 q2 o2 (.slice ha2 hn2 hc2) (.slice ba2 bn2 bc2)
          have z0 := hb2.c0
          have z1 := hb2.c1
          have z2 := hb2.c2
          have z3 := hb2.c3
          have z4 := hb2.c4
          have z5 := hb2.c5
          have z6 := hb2.c6
          have LS := hideL (sameRqC m2 t2 p2 q2 o2 m t p q o ha2 hn2 hc2 ba2 bn2 bc2 ha hn hc ba bn bc y x _ (hreq.below hz) (HR0.out _ HB4.out) HL.out)
          clear hB hz hz2 hb hb2 hreq)
       | (go_at_call 11; (with_reducible refine LS.out.mono ?_); rintro e w5 ⟨⟨zz, rfl, hzz⟩, hB⟩
          obtain rfl : zz = true := hzz.2 HYX.out
          have HB5 := hideL (HB4.out.trans (hB.mono HB4.out.size))
          have v5 := (HX4.out.next hB).c5
          have v6 := (HX4.out.next hB).c6
          clear hB hzz)
       | (go_at_call 55; (with_reducible refine (LF.out _ HB5.out).mono ?_); rintro e w6 ⟨rfl, hB⟩; have HB6 := hideL (HB5.out.trans (hB.mono HB5.out.size)); clear hB))
     go_ret
     exact ⟨⟨F, rfl, fun h => HI.out.2 ⟨HYX.out, h⟩, fun h => (HI.out.1 h).2⟩, HB6.out⟩
   · have HYX := hideL hyx
     clear hyx LF
     go_enter Tryz.func19, Tryz.ntmps19
     go_wp2_with (first
       | (go_at_call 14; (with_reducible refine (LO.out _ HB1.out).mono ?_); rintro e w4 ⟨⟨m2, t2, p2, q2, o2, ha2, hn2, hc2, ba2, bn2, bc2, rfl, hreq, _⟩, hB⟩
          have hz := (Below.refl w4.heap.size w4).alloc (Nat.le_refl _) (rqQ m2 t2 p2 q2 o2 (.slice ha2 hn2 hc2) (.slice ba2 bn2 bc2))
          have hz2 := hB.trans (hz.mono hB.size)
          have HB4 := hideL (HB1.out.trans (hz2.mono HB1.out.size))
          have hb := HX1.out.next hz2
          have y0 := hb.c0
          have y1 := hb.c1
          have y2 := hb.c2
          have y3 := hb.c3
          have y4 := hb.c4
          have y5 := hb.c5
          have y6 := hb.c6
          have hb2 := rq_box w4 m2 t2 p2 q2 o2 (.slice ha2 hn2 hc2) (.slice ba2 bn2 bc2)
          have z0 := hb2.c0
          have z1 := hb2.c1
          have z2 := hb2.c2
          have z3 := hb2.c3
          have z4 := hb2.c4
          have z5 := hb2.c5
          have z6 := hb2.c6
          have LS := hideL (sameRqC m2 t2 p2 q2 o2 m t p q o ha2 hn2 hc2 ba2 bn2 bc2 ha hn hc ba bn bc y x _ (hreq.below hz) (HR0.out _ HB4.out) HL.out)
          clear hB hz hz2 hb hb2 hreq)
       | (go_at_call 11; (with_reducible refine LS.out.mono ?_); rintro e w5 ⟨⟨zz, rfl, hzz⟩, hB⟩
          obtain rfl : zz = false := Bool.eq_false_iff.2 (fun h => HYX.out (hzz.1 h))
          have HB5 := hideL (HB4.out.trans (hB.mono HB4.out.size))
          clear hB hzz))
     go_ret
     exact ⟨⟨false, rfl, fun h => absurd h Bool.false_ne_true, fun h => absurd (HI.out.1 h).1 HYX.out⟩, HB5.out⟩
end Go.Proofs.YtafmgoekgijfgaaGreatDoor
