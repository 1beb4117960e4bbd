/- RequestOne: the one request that any bytes are, or the error. -/
import Derived.Test.YtafmgoekgijfgaaGreatDoorORqM7
import Derived.Test.YtafmgoekgijfgaaGreatDoorORqM9
import Derived.Test.YtafmgoekgijfgaaGreatDoorORqMA
namespace Go.Proofs.YtafmgoekgijfgaaGreatDoor
open Go.RowKit Go.Lib

theorem one_all (v : Value) (b : List UInt8) (w : World) (gv : GAt KB w v b) (hbl : b.length ≤ 200000) (hE : Env w) (hS : EnvS w) : Calls Tryz.prog 9 #[v] w (ROnePost w b) := by
 rcases one_shape b with ⟨r, ho⟩ | ⟨k, _, ho⟩
 · refine (one_okC ho v w gv hbl hE hS).mono ?_
   unfold ROnePost
   rw [ho]
   rintro e w' ⟨⟨m, t, p, r, o, ha, hn, hc, ba, bn, bc, rfl, h1, _⟩, hB⟩
   exact ⟨⟨m, t, p, r, o, ha, hn, hc, ba, bn, bc, rfl, h1⟩, hB⟩
 · refine (one_badC ho v w gv hbl hE hS).mono ?_
   rintro e w' ⟨rfl, hB⟩
   exact ROnePost.bad ho hB
theorem one_heads (b : List UInt8) : ((oneP b).2.getD rq0).heads.length ≤ 1000 := by
 rcases one_shape b with ⟨r, ho⟩ | ⟨k, _, ho⟩
 · rw [ho]
   have h := (one_may ho).2
   unfold fitP at h
   simp only [Bool.and_eq_true, decide_eq_true_eq] at h
   have := mayH_len h.1.1.2
   simp only [Option.getD_some]
   omega
 · rw [ho]
   exact Nat.zero_le _
set_option maxRecDepth 100000 in
set_option maxHeartbeats 4000000 in
theorem one_walk (v : Value) (b : List UInt8) (w : World) (gv : GAt KB w v b) (ht : Env w ∧ EnvS w) :
   Calls Tryz.prog 3 #[v] w fun e w' => e = .returned (.bool true) ∧ Below w.heap.size w w' := by
 have LA := hideL (fun (W : World) (hb : Below w.heap.size w W) => awake_any W (ht.1.next hb) (ht.2.next hb))
 have HB0 := hideL (Below.refl w.heap.size w)
 obtain ⟨vo, vc, rfl⟩ := gv.len
 by_cases hl : 8000 < b.length
 · have i1 : (8000 : Int) < (b.length : Int) := by omega
   obtain ⟨n, hn⟩ : ∃ n, b.length = n := ⟨_, rfl⟩
   rw [hn] at i1 ⊢
   clear hl gv ht hn
   go_enter Tryz.func3, Tryz.ntmps3
   go_wp2_with (go_at_call 8; refine (LA.out _ HB0.out).mono ?_; rintro e w9 ⟨rfl, hB⟩; have HB9 := hideL hB; clear hB)
   go_ret
   exact ⟨rfl, HB9.out⟩
 have i1 : ¬ (8000 : Int) < (b.length : Int) := by omega
 have LO := one_all (.slice vo b.length vc) b w gv (by omega) ht.1 ht.2
 have LR := fun (W : World) (hb : Below w.heap.size w W) => rone_any vo vc b.length b rfl W (gv.below hb) (by omega)
 have HH := hideL (one_heads b)
 unfold ROnePost at LO LR
 obtain ⟨⟨k, q⟩, ho⟩ : ∃ x, oneP b = x := ⟨_, rfl⟩
 rw [ho] at LO LR HH
 simp only at LO LR HH
 obtain ⟨q0, hq⟩ : ∃ x, q.getD rq0 = x := ⟨_, rfl⟩
 rw [hq] at LO LR HH
 have LO := hideL LO
 obtain ⟨n, hn⟩ : ∃ n, b.length = n := ⟨_, rfl⟩
 rw [hn] at i1 LO LR ⊢
 have LR := hideL LR
 clear hl gv ht hn hq ho
 go_enter Tryz.func3, Tryz.ntmps3
 go_wp2_with (first
   | (go_at_call 9; (with_reducible refine LO.out.mono ?_); rintro e w2 ⟨⟨m1, t1, p1, q1, o1, ha1, hn1, hc1, ba1, bn1, bc1, rfl, hreq⟩, hB⟩
      have hz2 := (Below.refl w2.heap.size w2).alloc (Nat.le_refl _) (rqQ m1 t1 p1 q1 o1 (.slice ha1 hn1 hc1) (.slice ba1 bn1 bc1))
      have HX := hideL (rq_box w2 m1 t1 p1 q1 o1 (.slice ha1 hn1 hc1) (.slice ba1 bn1 bc1))
      have HR := hideL (hreq.below hz2)
      have HB2 := hideL (hB.trans (hz2.mono hB.size))
      clear hB hz2 hreq)
   | (go_at_call 10; (with_reducible refine (LR.out _ HB2.out).mono ?_); rintro e w3 ⟨⟨m3, t3, p3, q3, o3, ha3, hn3, hc3, ba3, bn3, bc3, rfl, hreq⟩, hB⟩
      have hz2 := (Below.refl w3.heap.size w3).alloc (Nat.le_refl _) (rqQ m3 t3 p3 q3 o3 (.slice ha3 hn3 hc3) (.slice ba3 bn3 bc3))
      have hz3 := hB.trans (hz2.mono hB.size)
      have hb := HX.out.next hz3
      have x0 := hb.c0
      have x1 := hb.c1
      have x2 := hb.c2
      have x3 := hb.c3
      have x4 := hb.c4
      have x5 := hb.c5
      have x6 := hb.c6
      have hb2 := rq_box w3 m3 t3 p3 q3 o3 (.slice ha3 hn3 hc3) (.slice ba3 bn3 bc3)
      have y0 := hb2.c0
      have y1 := hb2.c1
      have y2 := hb2.c2
      have y3 := hb2.c3
      have y4 := hb2.c4
      have y5 := hb2.c5
      have y6 := hb2.c6
      have LS := hideL (sameRqC m1 t1 p1 q1 o1 m3 t3 p3 q3 o3 ha1 hn1 hc1 ba1 bn1 bc1 ha3 hn3 hc3 ba3 bn3 bc3 q0 q0 _ (HR.out.below hz3) (hreq.below hz2) HH.out)
      have HB3 := hideL (HB2.out.trans (hz3.mono HB2.out.size))
      clear hB hz2 hz3 hb hb2 hreq)
   | (go_at_call 11; (with_reducible refine LS.out.mono ?_); rintro e wS ⟨⟨zz, rfl, hzz⟩, hB⟩
      obtain rfl : zz = true := hzz.2 (by trivial)
      have HBS := hideL (HB3.out.trans (hB.mono HB3.out.size))
      clear hB hzz)
   | (go_at_call 8; refine (LA.out _ HBS.out).mono ?_; rintro e w9 ⟨rfl, hB⟩; have HB9 := hideL (HBS.out.trans (hB.mono HBS.out.size)); clear hB))
 go_ret
 exact ⟨rfl, HB9.out⟩
end Go.Proofs.YtafmgoekgijfgaaGreatDoor
