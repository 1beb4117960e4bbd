/- One. -/
import Derived.Test.YtafmgoekgijfgaaGreatDoorBAnOf
import Derived.Test.YtafmgoekgijfgaaGreatDoorBRqRaws
namespace Go.Proofs.YtafmgoekgijfgaaGreatDoor
open Go.RowKit Go.Lib

theorem oneA_e {b : List UInt8} (h : rawE b ≠ 0) : oneAP b = (rawE b, none) := by
 unfold rawE at h ⊢
 unfold oneAP
 by_cases hi : (rowP b).2.1 = true
 · rw [if_pos hi] at h; exact absurd rfl h
 rw [if_neg hi]
 by_cases he : (rowP b).2.2 = 0
 · rw [if_pos he, if_neg (fun h => h he)]
   have : (rowP b).2.1 = false := by simpa using hi
   rw [this]
 · rw [if_neg he, if_pos he]
theorem rowA_whole {b : List UInt8} (h : rawE b = 0) : (rowP b).2.1 = true ∧ (rowP b).2.2 = 0 ∧ rawL b = (rowP b).1 := by
 have hi : (rowP b).2.1 = true := by
   unfold rawE at h
   by_cases hi : (rowP b).2.1 = true
   · exact hi
   rw [if_neg hi] at h
   split at h
   · cases h
   · rename_i he; exact absurd h he
 exact ⟨hi, row_idle hi, by unfold rawL; rw [if_pos hi]⟩
theorem oneA_many {b : List UInt8} (h : rawE b = 0) (hl : (rawL b).length ≠ 1) : oneAP b = (2, none) := by
 obtain ⟨h1, h2, h3⟩ := rowA_whole h
 rw [h3] at hl
 unfold oneAP
 rw [if_neg (fun h => h h2), h1]
 match hx : (rowP b).1, hl with
 | [], _ => rfl
 | _ :: _ :: _, _ => rfl
theorem oneA_single {b : List UInt8} {x : Rw} (h : rawE b = 0) (hl : rawL b = [x]) : oneAP b = (if (ofAP x).isSome = true then 0 else 2, ofAP x) := by
 obtain ⟨h1, h2, h3⟩ := rowA_whole h
 rw [h3] at hl
 unfold oneAP
 rw [if_neg (fun h => h h2), h1, hl]
 show (match ofAP x with | some r => (0, some r) | none => (2, none)) = _
 cases ofAP x <;> rfl
/-- What One answers. -/
def AOnePost (w : World) (b : List UInt8) (e : Ending) (w' : World) : Prop := (∃ (c : Int) (ha : Option Addr) (hn hc : Nat) (ba : Option Addr) (bn bc : Nat), e = .returned (.tuple #[.agg #[.int .i64 c, .slice ha hn hc, .slice ba bn bc], .int .i64 ((oneAP b).1 : Nat)]) ∧ AnsAt w' ⟨c, ⟨ha, hn, hc⟩, ⟨ba, bn, bc⟩⟩ ((oneAP b).2.getD an0)) ∧ Below w.heap.size w w'
theorem AOnePost.no {w w' : World} {b : List UInt8} {n : Nat} (h : oneAP b = (n, none)) (hB : Below w.heap.size w w') : AOnePost w b (.returned (.tuple #[.agg #[.int .i64 0, .slice none 0 0, .slice none 0 0], .int .i64 (n : Int)])) w' := by
 unfold AOnePost
 rw [h]
 exact ⟨⟨0, none, 0, 0, none, 0, 0, rfl, AnsAt.zero w'⟩, hB⟩
theorem row_headA {w : World} {B : Nat} {wa : Option Addr} {wn wc : Nat} {xs : List Rw} (h : RawsNew 33 w B (.slice wa wn wc) xs) : wn = xs.length := by
 obtain ⟨ao, cap, e⟩ := h.at.len
 injection e
set_option maxRecDepth 100000 in
set_option maxHeartbeats 4000000 in
theorem aone_any (v : Value) (b : List UInt8) (w0 : World) (gv : GAt KB w0 v b) (hbl : b.length ≤ 200000) (ht : (Env w0 ∧ EnvS w0) ∧ EnvT w0) : Calls Tryz.prog 35 #[v] w0 (AOnePost w0 b) := by
 have HX1 := hideL (ABox.new w0 0 (.slice none 0 0) (.slice none 0 0))
 have HB1 := hideL ((Below.refl w0.heap.size w0).alloc (Nat.le_refl _) (anC 0 (.slice none 0 0) (.slice none 0 0)))
 have LR := raws_any v b _ (gv.below HB1.out) hbl (ht.1.1.next HB1.out) (ht.1.2.next HB1.out)
 obtain ⟨vo, vc, rfl⟩ := gv.len
 by_cases h0 : rawE b = 0
 case neg =>
   have i1 : ((rawE b : Int) != 0) = true := by rw [bne_iff_ne]; omega
   have HNO := hideL (oneA_e h0)
   obtain ⟨E, hE⟩ : ∃ n, rawE b = n := ⟨_, rfl⟩
   rw [hE] at LR i1 HNO
   have LR := hideL LR
   obtain ⟨n, hn⟩ : ∃ n, b.length = n := ⟨_, rfl⟩
   rw [hn] at LR ⊢
   clear gv hbl ht h0 hE hn
   go_enter Tryz.func35, Tryz.ntmps35
   go_wp2_with (go_at_call 37; refine LR.out.mono ?_; rintro e w2 ⟨⟨wa, wn, wc⟩, rfl, hrw, hB⟩
                simp only [Sl.v] at hrw ⊢
                have HX2 := hideL (HX1.out.next hB)
                have HB2 := hideL (HB1.out.trans (hB.mono HB1.out.size))
                have q0 := HX2.out.c0
                have q1 := HX2.out.c1
                have q2 := HX2.out.c2
                have z0 := HX2.out.fz 0
                have z1 := HX2.out.fz 1
                have z2 := HX2.out.fz 2
                clear hrw hB)
   exact bodyPost_ret (v := .tuple #[.agg #[.int .i64 0, .slice none 0 0, .slice none 0 0], .int .i64 E]) (by
     have hy := HX2.out.st 0 (.slice none 0 0) (.slice none 0 0)
     have r0 := hy.c0
     have r1 := hy.c1
     have r2 := hy.c2
     simp [results, Tryz.results35, go_sem, r0, r1, r2]) rfl (AOnePost.no HNO.out (below_st3 HB2.out (Nat.le_refl _)))
 have hgood := row_good b
 rw [← (rowA_whole h0).2.2] at hgood
 by_cases hl1 : (rawL b).length = 1
 case neg =>
   have HNO := hideL (oneA_many h0 hl1)
   have i1 : (((rawL b).length : Int) != 1) = true := by rw [bne_iff_ne]; omega
   rw [h0] at LR
   have LR := hideL LR
   obtain ⟨n, hn⟩ : ∃ n, b.length = n := ⟨_, rfl⟩
   rw [hn] at LR ⊢
   have HRL := hideL (rfl : (rawL b).length = (rawL b).length)
   obtain ⟨nx, hnx⟩ : ∃ n, (rawL b).length = n := ⟨_, rfl⟩
   rw [hnx] at i1
   have HNX := hideL hnx
   clear gv hbl ht h0 hl1 hn hnx hgood HRL
   go_enter Tryz.func35, Tryz.ntmps35
   go_wp2_with (go_at_call 37; refine LR.out.mono ?_; rintro e w2 ⟨⟨wa, wn, wc⟩, rfl, hrw, hB⟩
                simp only [Sl.v] at hrw ⊢
                have HX2 := hideL (HX1.out.next hB)
                have HB2 := hideL (HB1.out.trans (hB.mono HB1.out.size))
                obtain rfl : wn = nx := (row_headA hrw).trans HNX.out
                have q0 := HX2.out.c0
                have q1 := HX2.out.c1
                have q2 := HX2.out.c2
                have z0 := HX2.out.fz 0
                have z1 := HX2.out.fz 1
                have z2 := HX2.out.fz 2
                clear hrw hB)
   exact bodyPost_ret (v := .tuple #[.agg #[.int .i64 0, .slice none 0 0, .slice none 0 0], .int .i64 2]) (by
     have hy := HX2.out.st 0 (.slice none 0 0) (.slice none 0 0)
     have r0 := hy.c0
     have r1 := hy.c1
     have r2 := hy.c2
     simp [results, Tryz.results35, go_sem, r0, r1, r2]) rfl (AOnePost.no HNO.out (below_st3 HB2.out (Nat.le_refl _)))
 obtain ⟨x, hx⟩ : ∃ x, rawL b = [x] := List.length_eq_one_iff.1 hl1
 have HON := hideL (oneA_single h0 hx)
 rw [hx] at LR hgood
 rw [h0] at LR
 obtain ⟨g1, g2, g3⟩ := hgood x (by simp)
 have LO := hideL (fun (s : ByteArray) (ha : Option Addr) (hn hc : Nat) (ba : Option Addr) (bn bc : Nat) (W : World) (hb : Below w0.heap.size w0 W) (hr : RawAt W ⟨s, ⟨ha, hn, hc⟩, ⟨ba, bn, bc⟩⟩ x) => aof_any s ha hn hc ba bn bc x W hr (good_fits g1) (by rw [← size_list, hr.1]; omega) (by have := mayH_len g1; omega) (by omega) ⟨⟨ht.1.1.next hb, ht.1.2.next hb⟩, ht.2.next hb⟩)
 obtain ⟨K, hK⟩ : ∃ K : Int, (if (ofAP x).isSome = true then (0 : Int) else 2) = K := ⟨_, rfl⟩
 unfold AOfPost at LO
 rw [hK] at LO
 have HK := hideL hK
 have LR := hideL LR
 obtain ⟨n, hn⟩ : ∃ n, b.length = n := ⟨_, rfl⟩
 rw [hn] at LR ⊢
 clear gv hbl ht h0 hl1 hx hn hgood g1 g2 g3 hK
 go_enter Tryz.func35, Tryz.ntmps35
 go_wp2_with (first
   | (go_at_call 37; refine LR.out.mono ?_; rintro e w2 ⟨⟨wa, wn, wc⟩, rfl, hrw, hB⟩
      simp only [Sl.v] at hrw ⊢
      have HX2 := hideL (HX1.out.next hB)
      have HB2 := hideL (HB1.out.trans (hB.mono HB1.out.size))
      obtain rfl : wn = 1 := row_headA hrw
      obtain ⟨b0, o0, ⟨rs, ⟨rha, rhn, rhc⟩, ⟨rba, rbn, rbc⟩⟩, rfl, hlt0, d0, d1, d2, hra⟩ := hrw.at.at (k := 0) (by decide)
      simp only [Sl.v, Nat.zero_mul, Nat.add_zero] at d0 d1 d2
      have LO2 := hideL (LO.out rs rha rhn rhc rba rbn rbc w2 HB2.out hra)
      clear hrw hB hra hlt0)
   | (go_at_call 33; refine LO2.out.mono ?_; rintro e w3 ⟨⟨c, ha, hn, hc, ba, bn, bc, rfl, hq, hg⟩, hB⟩
      have HX3 := hideL (HX2.out.next hB)
      have HB3 := hideL (HB2.out.trans (hB.mono HB2.out.size))
      have HQ := hideL hq
      have HGE := hideL hg
      have HXL := hideL HX2.out.lt
      have q0 := HX3.out.c0
      have q1 := HX3.out.c1
      have q2 := HX3.out.c2
      have z0 := HX3.out.fz 0
      have z1 := HX3.out.fz 1
      have z2 := HX3.out.fz 2
      clear hq hg hB))
 have hy := HX3.out.st c (.slice ha hn hc) (.slice ba bn bc)
 have r0 := hy.c0
 have r1 := hy.c1
 have r2 := hy.c2
 have kk := keep_st3 w3 w0.heap.size (.int .i64 c) (.slice ha hn hc) (.slice ba bn bc)
 obtain ⟨y1, y2, y3⟩ := HQ.out
 have hxl := HXL.out
 have f1 := y2.keep kk (fun q hq e => by have := HGE.out.1 q hq; have e : q = w0.heap.size := e; omega)
 have f2 := y3.keep kk (fun q hq e => by have := HGE.out.2 q hq; have e : q = w0.heap.size := e; omega)
 refine bodyPost_ret (v := .tuple #[.agg #[.int .i64 c, .slice ha hn hc, .slice ba bn bc], .int .i64 K]) (by simp [results, Tryz.results35, go_sem, r0, r1, r2]) rfl ?_
 unfold AOnePost
 rw [HON.out]
 refine ⟨⟨c, ha, hn, hc, ba, bn, bc, ?_, y1, f1, f2⟩, below_st3 HB3.out (Nat.le_refl _)⟩
 rw [← HK.out]
 cases (ofAP x).isSome <;> rfl
end Go.Proofs.YtafmgoekgijfgaaGreatDoor
