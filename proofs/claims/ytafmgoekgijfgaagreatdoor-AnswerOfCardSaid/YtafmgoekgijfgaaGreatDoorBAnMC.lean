/- The document's Of of answers. The document's One of answers. -/
import Derived.Test.YtafmgoekgijfgaaGreatDoorBAnMB
import Derived.Test.YtafmgoekgijfgaaGreatDoorBAnROf6
import Derived.Test.YtafmgoekgijfgaaGreatDoorBRqRAll
namespace Go.Proofs.YtafmgoekgijfgaaGreatDoor
open Go.RowKit Go.Lib

theorem arof_any (s : ByteArray) (ha : Option Addr) (hn hc : Nat) (ba : Option Addr) (bn bc : Nat) (x : Rw) (w : World) (hr : RawAt w ⟨s, ⟨ha, hn, hc⟩, ⟨ba, bn, bc⟩⟩ x) (hf : Fits x.heads) (hs0 : s.size ≤ 900000) (hl : x.heads.length ≤ 1000) (hbl : x.body.length ≤ 900000) :
    Calls Tryz.prog 34 #[.agg #[.string s, .slice ha hn hc, .slice ba bn bc]] w (AROfPost w x) := by
  by_cases h13 : x.start.length < 13
  · exact arof_1 s ha hn hc ba bn bc x w hr hs0 h13
  by_cases hv : x.start.take 9 = verL
  rotate_left
  · exact arof_2 s ha hn hc ba bn bc x w hr hs0 h13 hv
  by_cases h12 : x.start[12]? = some 32
  rotate_left
  · exact arof_3 s ha hn hc ba bn bc x w hr hs0 h13 hv h12
  cases hdg : ((x.start.drop 9).take 3).all digB with
  | false => exact arof_4 s ha hn hc ba bn bc x w hr hs0 h13 hv h12 hdg
  | true =>
    cases hpp : (x.start.drop 13).all priB with
    | false => exact arof_5 s ha hn hc ba bn bc x w hr hs0 h13 hv h12 hdg hpp
    | true => exact arof_6 s ha hn hc ba bn bc x w hr hs0 hf hl hbl h13 hv h12 hdg hpp
end Go.Proofs.YtafmgoekgijfgaaGreatDoor
namespace Go.Proofs.YtafmgoekgijfgaaGreatDoor
open Go.RowKit Go.Lib

/-- What One answers. -/
def AROnePost (w : World) (b : List UInt8) (e : Ending) (w' : World) : Prop := (∃ (c : Int) (ha : Option Addr) (hn hc : Nat) (ba : Option Addr) (bn bc : Nat), e = .returned (.tuple #[.agg #[.int .i64 c, .slice ha hn hc, .slice ba bn bc], .int .i64 ((oneAP b).1 : Nat)]) ∧ AnsAt w' ⟨c, ⟨ha, hn, hc⟩, ⟨ba, bn, bc⟩⟩ ((oneAP b).2.getD an0)) ∧ Below w.heap.size w w'
theorem AROnePost.bad {w w' : World} {b : List UInt8} {n : Nat} (h : oneAP b = (n, none)) (hB : Below w.heap.size w w') : AROnePost w b (.returned (.tuple #[.agg #[.int .i64 0, .slice none 0 0, .slice none 0 0], .int .i64 (n : Int)])) w' := by
  unfold AROnePost
  rw [h]
  exact ⟨⟨0, none, 0, 0, none, 0, 0, rfl, AnsAt.zero w'⟩, hB⟩
theorem oneA_fault {b : List UInt8} {xs : List Rw} {i : Bool} {c : Nat} (h : rowP b = (xs, i, c)) (hc : c ≠ 0) : oneAP b = (c, none) := by
  unfold oneAP
  rw [h]
  exact if_pos hc
theorem oneA_part {b : List UInt8} {xs : List Rw} (h : rowP b = (xs, false, 0)) : oneAP b = (2, none) := by
  unfold oneAP
  rw [h]
  rfl
theorem oneA_lot {b : List UInt8} {xs : List Rw} (h : rowP b = (xs, true, 0)) (hl : xs.length ≠ 1) : oneAP b = (2, none) := by
  unfold oneAP
  rw [h]
  match xs, hl with
  | [], _ => rfl
  | _ :: _ :: _, _ => rfl
theorem oneA_sole {b : List UInt8} {x : Rw} (h : rowP b = ([x], true, 0)) : oneAP b = (match ofAP x with | some r => (0, some r) | none => (2, none)) := by
  unfold oneAP
  rw [h]
  rfl
set_option maxRecDepth 100000 in
set_option maxHeartbeats 4000000 in
theorem arone_any (vo : Option Addr) (vc n : Nat) (b : List UInt8) (hbn : b.length = n) (w : World) (gv : GAt KB w (.slice vo n vc) b) (hbl : n ≤ 200000) :
    Calls Tryz.prog 36 #[.slice vo n vc] w (AROnePost w b) := by
  have HB1 := hideL ((Below.refl w.heap.size w).alloc (Nat.le_refl _) (anC 0 (.slice none 0 0) (.slice none 0 0)))
  have HX := hideL (ABox.new w 0 (.slice none 0 0) (.slice none 0 0))
  have LR := rall_any vo vc n b hbn (w.alloc (anC 0 (.slice none 0 0) (.slice none 0 0))) (gv.below HB1.out) hbl
  unfold AllPost at LR
  have hgood := row_good b
  obtain ⟨⟨xs, i, c⟩, hrow⟩ : ∃ r, rowP b = r := ⟨_, rfl⟩
  rw [hrow] at LR hgood
  simp only at LR hgood
  have LR := hideL LR
  have HROW := hideL hrow
  clear gv hbn hbl hrow
  by_cases hc : c = 0
  case neg =>
    have i1 : ((c : Int) != 0) = true := by rw [bne_iff_ne]; omega
    have HNO := hideL (oneA_fault HROW.out hc)
    clear hc
    go_enter Tryz.func36, Tryz.ntmps36
    go_wp2_with
      (go_at_call 38; (with_reducible refine LR.out.mono ?_); rintro e w3 ⟨wa, wn, wc, rfl, hrw, hB⟩
       obtain rfl : wn = xs.length := (by obtain ⟨ao, cap, e⟩ := hrw.len; injection e)
       have HX3 := hideL (HX.out.next hB)
       have HB3 := hideL (HB1.out.trans (hB.mono HB1.out.size))
       have q0 := HX3.out.c0
       have q1 := HX3.out.c1
       have q2 := HX3.out.c2
       have z0 := HX3.out.fz 0
       have z1 := HX3.out.fz 1
       have z2 := HX3.out.fz 2
       clear hB hrw)
    exact bodyPost_ret (v := .tuple #[.agg #[.int .i64 0, .slice none 0 0, .slice none 0 0], .int .i64 c]) (by
      have hy := HX3.out.st 0 (.slice none 0 0) (.slice none 0 0)
      have r0 := hy.c0
      have r1 := hy.c1
      have r2 := hy.c2
      simp [results, Tryz.results36, go_sem, r0, r1, r2]) rfl (AROnePost.bad HNO.out (below_st3 HB3.out (Nat.le_refl _)))
  subst hc
  cases i with
  | false =>
    have HNO := hideL (oneA_part HROW.out)
    go_enter Tryz.func36, Tryz.ntmps36
    go_wp2_with
      (go_at_call 38; (with_reducible refine LR.out.mono ?_); rintro e w3 ⟨wa, wn, wc, rfl, hrw, hB⟩
       obtain rfl : wn = xs.length := (by obtain ⟨ao, cap, e⟩ := hrw.len; injection e)
       have HX3 := hideL (HX.out.next hB)
       have HB3 := hideL (HB1.out.trans (hB.mono HB1.out.size))
       have q0 := HX3.out.c0
       have q1 := HX3.out.c1
       have q2 := HX3.out.c2
       have z0 := HX3.out.fz 0
       have z1 := HX3.out.fz 1
       have z2 := HX3.out.fz 2
       clear hB hrw)
    exact bodyPost_ret (v := .tuple #[.agg #[.int .i64 0, .slice none 0 0, .slice none 0 0], .int .i64 2]) (by
      have hy := HX3.out.st 0 (.slice none 0 0) (.slice none 0 0)
      have r0 := hy.c0
      have r1 := hy.c1
      have r2 := hy.c2
      simp [results, Tryz.results36, go_sem, r0, r1, r2]) rfl (AROnePost.bad HNO.out (below_st3 HB3.out (Nat.le_refl _)))
  | true =>
    by_cases hl1 : xs.length = 1
    case neg =>
      have i2 : ((xs.length : Int) != 1) = true := by rw [bne_iff_ne]; omega
      have HNO := hideL (oneA_lot HROW.out hl1)
      obtain ⟨nx, hnx⟩ : ∃ n, xs.length = n := ⟨_, rfl⟩
      rw [hnx] at i2
      have HNX := hideL hnx
      clear hl1 hnx
      go_enter Tryz.func36, Tryz.ntmps36
      go_wp2_with
        (go_at_call 38; (with_reducible refine LR.out.mono ?_); rintro e w3 ⟨wa, wn, wc, rfl, hrw, hB⟩
         obtain rfl : wn = nx := HNX.out ▸ (by obtain ⟨ao, cap, e⟩ := hrw.len; injection e)
         have HX3 := hideL (HX.out.next hB)
         have HB3 := hideL (HB1.out.trans (hB.mono HB1.out.size))
         have q0 := HX3.out.c0
         have q1 := HX3.out.c1
         have q2 := HX3.out.c2
         have z0 := HX3.out.fz 0
         have z1 := HX3.out.fz 1
         have z2 := HX3.out.fz 2
         clear hB hrw)
      exact bodyPost_ret (v := .tuple #[.agg #[.int .i64 0, .slice none 0 0, .slice none 0 0], .int .i64 2]) (by
        have hy := HX3.out.st 0 (.slice none 0 0) (.slice none 0 0)
        have r0 := hy.c0
        have r1 := hy.c1
        have r2 := hy.c2
        simp [results, Tryz.results36, go_sem, r0, r1, r2]) rfl (AROnePost.bad HNO.out (below_st3 HB3.out (Nat.le_refl _)))
    obtain ⟨x, rfl⟩ : ∃ x, xs = [x] := List.length_eq_one_iff.1 hl1
    obtain ⟨g1, g2, g3⟩ := hgood x (by simp)
    have LO := (fun (s : ByteArray) (ha : Option Addr) (hn hc : Nat) (ba : Option Addr) (bn bc : Nat) (W : World) (hr : RawAt W ⟨s, ⟨ha, hn, hc⟩, ⟨ba, bn, bc⟩⟩ x) => arof_any s ha hn hc ba bn bc x W hr (good_fits g1) (by rw [← size_list, hr.1]; omega) (by have := mayH_len g1; omega) (by omega))
    unfold AROfPost at LO
    have h1 := oneA_sole HROW.out
    clear hgood hl1 g1 g2 g3 HROW
    cases ho : ofAP x with
    | none =>
      rw [ho] at h1
      have HNO := hideL h1
      simp only [ho, Option.isSome_none, Option.getD_none] at LO
      have LO := hideL LO
      clear ho h1
      go_enter Tryz.func36, Tryz.ntmps36
      go_wp2_with (first
        | (go_at_call 38; (with_reducible refine LR.out.mono ?_); rintro e w3 ⟨wa, wn, wc, rfl, hrw, hB⟩
           obtain rfl : wn = 1 := (by obtain ⟨ao, cap, e⟩ := hrw.len; injection e)
           obtain ⟨b0, o0, ⟨rs, ⟨rha, rhn, rhc⟩, ⟨rba, rbn, rbc⟩⟩, rfl, hlt0, d0, d1, d2, hra⟩ := hrw.at (k := 0) (by decide)
           simp only [Sl.v, Nat.zero_mul, Nat.add_zero] at d0 d1 d2
           have HX3 := hideL (HX.out.next hB)
           have HB3 := hideL (HB1.out.trans (hB.mono HB1.out.size))
           have HRA := hideL hra
           clear hra hlt0
           clear hB hrw)
        | (go_at_call 34; (with_reducible refine (LO.out rs rha rhn rhc rba rbn rbc _ HRA.out).mono ?_); rintro e w4 ⟨⟨kc, ha, hn, hc, ba, bn, bc, rfl, _, _⟩, hB⟩
           have hz2 := (Below.refl w4.heap.size w4).alloc (Nat.le_refl _) (anC kc (.slice ha hn hc) (.slice ba bn bc))
           have hz3 := hB.trans (hz2.mono hB.size)
           have HX4 := hideL (HX3.out.next hz3)
           have HB4 := hideL (HB3.out.trans (hz3.mono HB3.out.size))
           have q0 := HX4.out.c0
           have q1 := HX4.out.c1
           have q2 := HX4.out.c2
           have z0 := HX4.out.fz 0
           have z1 := HX4.out.fz 1
           have z2 := HX4.out.fz 2
           clear hB hz2 hz3))
      exact bodyPost_ret (v := .tuple #[.agg #[.int .i64 0, .slice none 0 0, .slice none 0 0], .int .i64 2]) (by
        have hy := HX4.out.st 0 (.slice none 0 0) (.slice none 0 0)
        have r0 := hy.c0
        have r1 := hy.c1
        have r2 := hy.c2
        simp [results, Tryz.results36, go_sem, r0, r1, r2]) rfl (AROnePost.bad HNO.out (below_st3 HB4.out (Nat.le_refl _)))
    | some q =>
      rw [ho] at h1
      have HSO := hideL h1
      simp only [ho, Option.isSome_some, Option.getD_some] at LO
      have LO := hideL LO
      clear ho h1
      go_enter Tryz.func36, Tryz.ntmps36
      go_wp2_with (first
        | (go_at_call 38; (with_reducible refine LR.out.mono ?_); rintro e w3 ⟨wa, wn, wc, rfl, hrw, hB⟩
           obtain rfl : wn = 1 := (by obtain ⟨ao, cap, e⟩ := hrw.len; injection e)
           obtain ⟨b0, o0, ⟨rs, ⟨rha, rhn, rhc⟩, ⟨rba, rbn, rbc⟩⟩, rfl, hlt0, d0, d1, d2, hra⟩ := hrw.at (k := 0) (by decide)
           simp only [Sl.v, Nat.zero_mul, Nat.add_zero] at d0 d1 d2
           have HX3 := hideL (HX.out.next hB)
           have HB3 := hideL (HB1.out.trans (hB.mono HB1.out.size))
           have HRA := hideL hra
           clear hra hlt0
           clear hB hrw)
        | (go_at_call 34; (with_reducible refine (LO.out rs rha rhn rhc rba rbn rbc _ HRA.out).mono ?_); rintro e w4 ⟨⟨kc, ha, hn, hc, ba, bn, bc, rfl, hq, hg⟩, hB⟩
           have hz2 := (Below.refl w4.heap.size w4).alloc (Nat.le_refl _) (anC kc (.slice ha hn hc) (.slice ba bn bc))
           have hz3 := hB.trans (hz2.mono hB.size)
           have HX4 := hideL (HX3.out.next hz3)
           have HB4 := hideL (HB3.out.trans (hz3.mono HB3.out.size))
           have hb := ABox.new w4 kc (.slice ha hn hc) (.slice ba bn bc)
           have k0 := hb.c0
           have k1 := hb.c1
           have k2 := hb.c2
           have HQ := hideL (hq.below hz2)
           have HGE := hideL hg
           have HXL := hideL HX3.out.lt
           have q0 := HX4.out.c0
           have q1 := HX4.out.c1
           have q2 := HX4.out.c2
           have z0 := HX4.out.fz 0
           have z1 := HX4.out.fz 1
           have z2 := HX4.out.fz 2
           clear hB hz2 hz3 hb hq hg))
      have hy := HX4.out.st kc (.slice ha hn hc) (.slice ba bn bc)
      have r0 := hy.c0
      have r1 := hy.c1
      have r2 := hy.c2
      have kk := keep_st3 (w4.alloc (anC kc (.slice ha hn hc) (.slice ba bn bc))) w.heap.size (.int .i64 kc) (.slice ha hn hc) (.slice ba bn bc)
      obtain ⟨y1, y6, y7⟩ := HQ.out
      have hxl := HXL.out
      have f1 := y6.keep kk (fun q hq e => by have := HGE.out.1 q hq; have e : q = w.heap.size := e; omega)
      have f2 := y7.keep kk (fun q hq e => by have := HGE.out.2 q hq; have e : q = w.heap.size := e; omega)
      refine bodyPost_ret (v := .tuple #[.agg #[.int .i64 kc, .slice ha hn hc, .slice ba bn bc], .int .i64 0]) (by simp [results, Tryz.results36, go_sem, r0, r1, r2]) rfl ?_
      unfold AROnePost
      rw [HSO.out]
      exact ⟨⟨kc, ha, hn, hc, ba, bn, bc, rfl, y1, f1, f2⟩, below_st3 HB4.out (Nat.le_refl _)⟩
end Go.Proofs.YtafmgoekgijfgaaGreatDoor
