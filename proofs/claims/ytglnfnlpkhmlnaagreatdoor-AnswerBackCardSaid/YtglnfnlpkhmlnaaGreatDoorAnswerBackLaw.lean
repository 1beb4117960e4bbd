/- AnswerBack: an answer's bytes are read as it, and are no request; of what any bytes are read as, the bytes are read as that, too. -/
import Derived.Test.YtglnfnlpkhmlnaaGreatDoorAnCon
import Derived.Test.YtglnfnlpkhmlnaaGreatDoorAnAwake
namespace Go.Proofs.YtglnfnlpkhmlnaaGreatDoor
open Go.RowKit Go.Lib

set_option maxRecDepth 100000 in
set_option maxHeartbeats 4000000 in
theorem aback_long (c : Int) (ha : Option Addr) (hn hc : Nat) (ba : Option Addr) (bn bc : Nat) (x : An) (v : Value) (b : List UInt8) (w : World) (hx : AnsAt w ⟨c, ⟨ha, hn, hc⟩, ⟨ba, bn, bc⟩⟩ x) (gv : GAt KB w v b) (ht : (Env w ∧ EnvS w) ∧ EnvT w) (hlg : lngA bn x.heads = true) :
    Calls Tryz.prog 10 #[.agg #[.int .i64 c, .slice ha hn hc, .slice ba bn bc], v] w fun e w' => e = .returned (.bool true) ∧ Below w.heap.size w w' := by
  have LT := hideL (fun (W : World) (hb : Below w.heap.size w W) => (⟨⟨ht.1.1.next hb, ht.1.2.next hb⟩, ht.2.next hb⟩ : (Env W ∧ EnvS W) ∧ EnvT W))
  have LA := hideL (fun (W : World) (hb : Below w.heap.size w W) => awakeA_any W (LT.out W hb))
  have HX := hideL (ABox.new w c (.slice ha hn hc) (.slice ba bn bc))
  have HB1 := hideL ((Below.refl w.heap.size w).alloc (Nat.le_refl _) (anC c (.slice ha hn hc) (.slice ba bn bc)))
  have LL := along_any c ha hn hc ba bn bc x.heads _ (hx.2.1.below HB1.out)
  obtain ⟨vo, vc, rfl⟩ := gv.len
  have x0 := HX.out.c0
  have x1 := HX.out.c1
  have x2 := HX.out.c2
  rw [hlg] at LL
  have LL := hideL LL
  generalize b.length = n at *
  clear hx gv ht hlg
  go_enter Tryz.func10, Tryz.ntmps10
  go_wp2_with (first
    | (go_at_call 32; (with_reducible refine (LL.out).mono ?_); rintro e w2 ⟨rfl, hB⟩
       have hz3 := hB
       clear x0 x1 x2
       have HX := hideL (HX.out.next hz3)
       have x0 := HX.out.c0
       have x1 := HX.out.c1
       have x2 := HX.out.c2
       have HB2 := hideL (HB1.out.trans (hz3.mono HB1.out.size))
       clear hB hz3)
    | (go_at_call 33; (with_reducible refine (LA.out _ HB2.out).mono ?_); rintro e w3 ⟨rfl, hB⟩
       have hz3 := hB
       clear x0 x1 x2
       have HX := hideL (HX.out.next hz3)
       have x0 := HX.out.c0
       have x1 := HX.out.c1
       have x2 := HX.out.c2
       have HB3 := hideL (HB2.out.trans (hz3.mono HB2.out.size))
       clear hB hz3))
  go_ret
  exact ⟨rfl, HB3.out⟩
set_option maxRecDepth 100000 in
set_option maxHeartbeats 4000000 in
theorem aback_many (c : Int) (ha : Option Addr) (hn hc : Nat) (ba : Option Addr) (bn bc : Nat) (x : An) (v : Value) (b : List UInt8) (w : World) (hx : AnsAt w ⟨c, ⟨ha, hn, hc⟩, ⟨ba, bn, bc⟩⟩ x) (gv : GAt KB w v b) (ht : (Env w ∧ EnvS w) ∧ EnvT w) (hlg : lngA bn x.heads = false) (h8 : 8000 < b.length) :
    Calls Tryz.prog 10 #[.agg #[.int .i64 c, .slice ha hn hc, .slice ba bn bc], v] w fun e w' => e = .returned (.bool true) ∧ Below w.heap.size w w' := by
  have LT := hideL (fun (W : World) (hb : Below w.heap.size w W) => (⟨⟨ht.1.1.next hb, ht.1.2.next hb⟩, ht.2.next hb⟩ : (Env W ∧ EnvS W) ∧ EnvT W))
  have LA := hideL (fun (W : World) (hb : Below w.heap.size w W) => awakeA_any W (LT.out W hb))
  have HX := hideL (ABox.new w c (.slice ha hn hc) (.slice ba bn bc))
  have HB1 := hideL ((Below.refl w.heap.size w).alloc (Nat.le_refl _) (anC c (.slice ha hn hc) (.slice ba bn bc)))
  have LL := along_any c ha hn hc ba bn bc x.heads _ (hx.2.1.below HB1.out)
  obtain ⟨vo, vc, rfl⟩ := gv.len
  have x0 := HX.out.c0
  have x1 := HX.out.c1
  have x2 := HX.out.c2
  rw [hlg] at LL
  have LL := hideL LL
  have i1 : (8000 : Int) < (b.length : Int) := by omega
  generalize b.length = n at *
  clear hx gv ht hlg h8
  go_enter Tryz.func10, Tryz.ntmps10
  go_wp2_with (first
    | (go_at_call 32; (with_reducible refine (LL.out).mono ?_); rintro e w2 ⟨rfl, hB⟩
       have hz3 := hB
       clear x0 x1 x2
       have HX := hideL (HX.out.next hz3)
       have x0 := HX.out.c0
       have x1 := HX.out.c1
       have x2 := HX.out.c2
       have HB2 := hideL (HB1.out.trans (hz3.mono HB1.out.size))
       clear hB hz3)
    | (go_at_call 33; (with_reducible refine (LA.out _ HB2.out).mono ?_); rintro e w3 ⟨rfl, hB⟩
       have hz3 := hB
       clear x0 x1 x2
       have HX := hideL (HX.out.next hz3)
       have x0 := HX.out.c0
       have x1 := HX.out.c1
       have x2 := HX.out.c2
       have HB3 := hideL (HB2.out.trans (hz3.mono HB2.out.size))
       clear hB hz3))
  go_ret
  exact ⟨rfl, HB3.out⟩
set_option maxRecDepth 100000 in
set_option maxHeartbeats 4000000 in
theorem aback_00 (c : Int) (ha : Option Addr) (hn hc : Nat) (ba : Option Addr) (bn bc : Nat) (x : An) (v : Value) (b : List UInt8) (w : World) (hx : AnsAt w ⟨c, ⟨ha, hn, hc⟩, ⟨ba, bn, bc⟩⟩ x) (gv : GAt KB w v b) (ht : (Env w ∧ EnvS w) ∧ EnvT w) (hlg : lngA bn x.heads = false) (h8 : ¬ 8000 < b.length) (hm : mayAB x = false) (k : Nat) (hk : k ≠ 0) (ho : oneAP b = (k, none)) :
    Calls Tryz.prog 10 #[.agg #[.int .i64 c, .slice ha hn hc, .slice ba bn bc], v] w fun e w' => e = .returned (.bool true) ∧ Below w.heap.size w w' := by
  have LT := hideL (fun (W : World) (hb : Below w.heap.size w W) => (⟨⟨ht.1.1.next hb, ht.1.2.next hb⟩, ht.2.next hb⟩ : (Env W ∧ EnvS W) ∧ EnvT W))
  have LA := hideL (fun (W : World) (hb : Below w.heap.size w W) => awakeA_any W (LT.out W hb))
  have HX := hideL (ABox.new w c (.slice ha hn hc) (.slice ba bn bc))
  have HB1 := hideL ((Below.refl w.heap.size w).alloc (Nat.le_refl _) (anC c (.slice ha hn hc) (.slice ba bn bc)))
  have LL := along_any c ha hn hc ba bn bc x.heads _ (hx.2.1.below HB1.out)
  obtain ⟨vo, vc, rfl⟩ := gv.len
  have x0 := HX.out.c0
  have x1 := HX.out.c1
  have x2 := HX.out.c2
  rw [hlg] at LL
  have LL := hideL LL
  have i1 : ¬ (8000 : Int) < (b.length : Int) := by omega
  obtain ⟨hl2, hl3⟩ := lngA_no hlg
  have hl4 := (longP_no hl3).1
  have LB := hideL (fun (W : World) (hb : Below w.heap.size w W) => abyt_noC hm c ha hn hc ba bn bc W (hx.below hb) (longP_fits hl3) (by omega) (LT.out W hb).1.1 (LT.out W hb).2)
  have ik : ((k : Int) != 0) = true := by rw [bne_iff_ne]; omega
  have L2 := hideL (fun (W : World) (hb : Below w.heap.size w W) => aone_noC ho (.slice vo b.length vc) W (gv.below hb) (by omega) (LT.out W hb))
  generalize b.length = n at *
  clear hx gv ht hlg h8 hm hl2 hl3 hl4 ho hk
  go_enter Tryz.func10, Tryz.ntmps10
  go_wp2_with (first
    | (go_at_call 32; (with_reducible refine (LL.out).mono ?_); rintro e w2 ⟨rfl, hB⟩
       have hz3 := hB
       clear x0 x1 x2
       have HX := hideL (HX.out.next hz3)
       have x0 := HX.out.c0
       have x1 := HX.out.c1
       have x2 := HX.out.c2
       have HB2 := hideL (HB1.out.trans (hz3.mono HB1.out.size))
       clear hB hz3)
    | (go_at_call 40; (with_reducible refine (LB.out _ HB2.out).mono ?_); rintro e w3 ⟨⟨g1, gn1, gc1, rfl, _⟩, hB⟩
       have hz3 := hB
       clear x0 x1 x2
       have HX := hideL (HX.out.next hz3)
       have x0 := HX.out.c0
       have x1 := HX.out.c1
       have x2 := HX.out.c2
       have HB3 := hideL (HB2.out.trans (hz3.mono HB2.out.size))
       clear hB hz3)
    | (go_at_call 44; (with_reducible refine (L2.out _ HB3.out).mono ?_); rintro e w4 ⟨⟨c2, ha2, hn2, hc2, ba2, bn2, bc2, rfl, _⟩, hB⟩
       have hz2 := (Below.refl w4.heap.size w4).alloc (Nat.le_refl _) (anC c2 (.slice ha2 hn2 hc2) (.slice ba2 bn2 bc2))
       have hz3 := hB.trans (hz2.mono hB.size)
       have HB4 := hideL (HB3.out.trans (hz3.mono HB3.out.size))
       clear hB hz3 hz2)
    | (go_at_call 33; (with_reducible refine (LA.out _ HB4.out).mono ?_); rintro e w5 ⟨rfl, hB⟩
       have hz3 := hB
       have HB5 := hideL (HB4.out.trans (hz3.mono HB4.out.size))
       clear hB hz3))
  go_ret
  exact ⟨rfl, HB5.out⟩
set_option maxRecDepth 100000 in
set_option maxHeartbeats 4000000 in
theorem aback_01 (c : Int) (ha : Option Addr) (hn hc : Nat) (ba : Option Addr) (bn bc : Nat) (x : An) (v : Value) (b : List UInt8) (w : World) (hx : AnsAt w ⟨c, ⟨ha, hn, hc⟩, ⟨ba, bn, bc⟩⟩ x) (gv : GAt KB w v b) (ht : (Env w ∧ EnvS w) ∧ EnvT w) (hlg : lngA bn x.heads = false) (h8 : ¬ 8000 < b.length) (hm : mayAB x = false) (y : An) (ho : oneAP b = (0, some y)) :
    Calls Tryz.prog 10 #[.agg #[.int .i64 c, .slice ha hn hc, .slice ba bn bc], v] w fun e w' => e = .returned (.bool true) ∧ Below w.heap.size w w' := by
  have LT := hideL (fun (W : World) (hb : Below w.heap.size w W) => (⟨⟨ht.1.1.next hb, ht.1.2.next hb⟩, ht.2.next hb⟩ : (Env W ∧ EnvS W) ∧ EnvT W))
  have LA := hideL (fun (W : World) (hb : Below w.heap.size w W) => awakeA_any W (LT.out W hb))
  have HX := hideL (ABox.new w c (.slice ha hn hc) (.slice ba bn bc))
  have HB1 := hideL ((Below.refl w.heap.size w).alloc (Nat.le_refl _) (anC c (.slice ha hn hc) (.slice ba bn bc)))
  have LL := along_any c ha hn hc ba bn bc x.heads _ (hx.2.1.below HB1.out)
  obtain ⟨vo, vc, rfl⟩ := gv.len
  have x0 := HX.out.c0
  have x1 := HX.out.c1
  have x2 := HX.out.c2
  rw [hlg] at LL
  have LL := hideL LL
  have i1 : ¬ (8000 : Int) < (b.length : Int) := by omega
  obtain ⟨hl2, hl3⟩ := lngA_no hlg
  have hl4 := (longP_no hl3).1
  have LB := hideL (fun (W : World) (hb : Below w.heap.size w W) => abyt_noC hm c ha hn hc ba bn bc W (hx.below hb) (longP_fits hl3) (by omega) (LT.out W hb).1.1 (LT.out W hb).2)
  have hmy := oneA_may ho
  have hyl := mayH_len (fit_may (mayA_fit hmy)).1
  have hyf := good_fits (fit_may (mayA_fit hmy)).1
  have L2 := hideL (fun (W : World) (hb : Below w.heap.size w W) => aone_okC ho (.slice vo b.length vc) W (gv.below hb) (by omega) (LT.out W hb))
  have hyw := ans_len hmy
  have LB2 := hideL (fun (c : Int) (ha : Option Addr) (hn hc : Nat) (ba : Option Addr) (bn bc : Nat) (W : World) (hr : AnsAt W ⟨c, ⟨ha, hn, hc⟩, ⟨ba, bn, bc⟩⟩ y) (hb : Below w.heap.size w W) => abyt_okC hmy c ha hn hc ba bn bc W hr (LT.out W hb).1.1 (LT.out W hb).2)
  have L3 := hideL (fun (a : Option Addr) (n c : Nat) (W : World) (hb : Below w.heap.size w W) (g : GAt KB W (.slice a n c) (wrtP (rawA y))) => aone_okC (oneA_bytes hmy) _ W g (by omega) (LT.out W hb))
  obtain ⟨k2, hk2, hno2⟩ := oneA_noreq ho
  have ik2 : ((k2 : Int) != 0) = true := by rw [bne_iff_ne]; omega
  have R2 := hideL (fun (W : World) (hb : Below w.heap.size w W) => one_badC hno2 (.slice vo b.length vc) W (gv.below hb) (by omega) (LT.out W hb).1.1 (LT.out W hb).1.2)
  have LM := hideL (fun (c : Int) (ha : Option Addr) (hn hc : Nat) (ba : Option Addr) (bn bc : Nat) (W : World) (hr : AnsAt W ⟨c, ⟨ha, hn, hc⟩, ⟨ba, bn, bc⟩⟩ y) (hb : Below w.heap.size w W) => amay_any c ha hn hc ba bn bc y W hr hyf (by omega) (LT.out W hb).1.1 (LT.out W hb).2)
  rw [hmy] at LM
  have HLY := hideL (show y.heads.length ≤ 1000 by omega)
  generalize b.length = n at *
  clear hx gv ht hlg h8 hm hl2 hl3 hl4 ho hmy hyl hyf hyw hk2 hno2
  go_enter Tryz.func10, Tryz.ntmps10
  go_wp2_with (first
    | (go_at_call 32; (with_reducible refine (LL.out).mono ?_); rintro e w2 ⟨rfl, hB⟩
       have hz3 := hB
       clear x0 x1 x2
       have HX := hideL (HX.out.next hz3)
       have x0 := HX.out.c0
       have x1 := HX.out.c1
       have x2 := HX.out.c2
       have HB2 := hideL (HB1.out.trans (hz3.mono HB1.out.size))
       clear hB hz3)
    | (go_at_call 40; (with_reducible refine (LB.out _ HB2.out).mono ?_); rintro e w3 ⟨⟨g1, gn1, gc1, rfl, _⟩, hB⟩
       have hz3 := hB
       clear x0 x1 x2
       have HX := hideL (HX.out.next hz3)
       have x0 := HX.out.c0
       have x1 := HX.out.c1
       have x2 := HX.out.c2
       have HB3 := hideL (HB2.out.trans (hz3.mono HB2.out.size))
       clear hB hz3)
    | (go_at_call 44; (with_reducible refine (L2.out _ HB3.out).mono ?_); rintro e w4 ⟨⟨c2, ha2, hn2, hc2, ba2, bn2, bc2, rfl, hreq⟩, hB⟩
       have hz2 := (Below.refl w4.heap.size w4).alloc (Nat.le_refl _) (anC c2 (.slice ha2 hn2 hc2) (.slice ba2 bn2 bc2))
       have hz3 := hB.trans (hz2.mono hB.size)
       have HY := hideL (ABox.new w4 c2 (.slice ha2 hn2 hc2) (.slice ba2 bn2 bc2))
       have u0 := HY.out.c0
       have u1 := HY.out.c1
       have u2 := HY.out.c2
       have HB4 := hideL (HB3.out.trans (hz3.mono HB3.out.size))
       have HRY := hideL (hreq.below hz2)
       have LBY := hideL (LB2.out c2 ha2 hn2 hc2 ba2 bn2 bc2 _ HRY.out HB4.out)
       clear hreq
       clear hB hz3 hz2)
    | (go_at_call 40; (with_reducible refine (LBY.out).mono ?_); rintro e w5 ⟨⟨g2, gn2, gc2, rfl, hbr⟩, hB⟩
       have hz3 := hB
       clear u0 u1 u2
       have HY := hideL (HY.out.next hz3)
       have u0 := HY.out.c0
       have u1 := HY.out.c1
       have u2 := HY.out.c2
       have HB5 := hideL (HB4.out.trans (hz3.mono HB4.out.size))
       have HRY := hideL (HRY.out.below hz3)
       have LO3 := hideL (L3.out g2 gn2 gc2 _ HB5.out hbr)
       clear hbr LBY
       clear hB hz3)
    | (go_at_call 44; (with_reducible refine (LO3.out).mono ?_); rintro e w6 ⟨⟨c3, ha3, hn3, hc3, ba3, bn3, bc3, rfl, hreq⟩, hB⟩
       have hz2 := (Below.refl w6.heap.size w6).alloc (Nat.le_refl _) (anC c3 (.slice ha3 hn3 hc3) (.slice ba3 bn3 bc3))
       have hz3 := hB.trans (hz2.mono hB.size)
       clear u0 u1 u2
       have HY := hideL (HY.out.next hz3)
       have u0 := HY.out.c0
       have u1 := HY.out.c1
       have u2 := HY.out.c2
       have HZ := hideL (ABox.new w6 c3 (.slice ha3 hn3 hc3) (.slice ba3 bn3 bc3))
       have v0 := HZ.out.c0
       have v1 := HZ.out.c1
       have v2 := HZ.out.c2
       have HB6 := hideL (HB5.out.trans (hz3.mono HB5.out.size))
       have HRY := hideL (HRY.out.below hz3)
       have HRZ := hideL (hreq.below hz2)
       have LR2 := hideL (R2.out _ HB6.out)
       clear hreq LO3
       clear hB hz3 hz2)
    | (go_at_call 18; (with_reducible refine (LR2.out).mono ?_); rintro e w7 ⟨rfl, hB⟩
       have hz2 := (Below.refl w7.heap.size w7).alloc (Nat.le_refl _) (rqQ ⟨#[]⟩ ⟨#[]⟩ ⟨#[]⟩ ⟨#[]⟩ ⟨#[]⟩ (.slice none 0 0) (.slice none 0 0))
       have hz3 := hB.trans (hz2.mono hB.size)
       clear u0 u1 u2
       have HY := hideL (HY.out.next hz3)
       have u0 := HY.out.c0
       have u1 := HY.out.c1
       have u2 := HY.out.c2
       clear v0 v1 v2
       have HZ := hideL (HZ.out.next hz3)
       have v0 := HZ.out.c0
       have v1 := HZ.out.c1
       have v2 := HZ.out.c2
       have HB7 := hideL (HB6.out.trans (hz3.mono HB6.out.size))
       have HRY := hideL (HRY.out.below hz3)
       have HRZ := hideL (HRZ.out.below hz3)
       have LMY := hideL (LM.out c2 ha2 hn2 hc2 ba2 bn2 bc2 _ HRY.out HB7.out)
       clear LR2
       clear hB hz3 hz2)
    | (go_at_call 34; (with_reducible refine (LMY.out).mono ?_); rintro e w8 ⟨rfl, hB⟩
       have hz3 := hB
       clear u0 u1 u2
       have HY := hideL (HY.out.next hz3)
       have u0 := HY.out.c0
       have u1 := HY.out.c1
       have u2 := HY.out.c2
       clear v0 v1 v2
       have HZ := hideL (HZ.out.next hz3)
       have v0 := HZ.out.c0
       have v1 := HZ.out.c1
       have v2 := HZ.out.c2
       have HB8 := hideL (HB7.out.trans (hz3.mono HB7.out.size))
       have LS2 := hideL (rsameA c2 c3 ha2 hn2 hc2 ba2 bn2 bc2 ha3 hn3 hc3 ba3 bn3 bc3 y y _ (HRY.out.below hz3) (HRZ.out.below hz3) HLY.out)
       clear LMY
       clear hB hz3)
    | (go_at_call 39; (with_reducible refine (LS2.out).mono ?_); rintro e w9 ⟨⟨zz, rfl, hzz⟩, hB⟩
       have hz3 := hB
       clear u0 u1 u2
       have HY := hideL (HY.out.next hz3)
       have u0 := HY.out.c0
       have u1 := HY.out.c1
       have u2 := HY.out.c2
       clear v0 v1 v2
       have HZ := hideL (HZ.out.next hz3)
       have v0 := HZ.out.c0
       have v1 := HZ.out.c1
       have v2 := HZ.out.c2
       have HB9 := hideL (HB8.out.trans (hz3.mono HB8.out.size))
       obtain rfl : zz = true := hzz.2 (by trivial)
       clear hzz LS2
       clear hB hz3)
    | (go_at_call 33; (with_reducible refine (LA.out _ HB9.out).mono ?_); rintro e w10 ⟨rfl, hB⟩
       have hz3 := hB
       clear u0 u1 u2
       have HY := hideL (HY.out.next hz3)
       have u0 := HY.out.c0
       have u1 := HY.out.c1
       have u2 := HY.out.c2
       clear v0 v1 v2
       have HZ := hideL (HZ.out.next hz3)
       have v0 := HZ.out.c0
       have v1 := HZ.out.c1
       have v2 := HZ.out.c2
       have HB10 := hideL (HB9.out.trans (hz3.mono HB9.out.size))
       clear hB hz3))
  go_ret
  exact ⟨rfl, HB10.out⟩
set_option maxRecDepth 100000 in
set_option maxHeartbeats 4000000 in
theorem aback_10 (c : Int) (ha : Option Addr) (hn hc : Nat) (ba : Option Addr) (bn bc : Nat) (x : An) (v : Value) (b : List UInt8) (w : World) (hx : AnsAt w ⟨c, ⟨ha, hn, hc⟩, ⟨ba, bn, bc⟩⟩ x) (gv : GAt KB w v b) (ht : (Env w ∧ EnvS w) ∧ EnvT w) (hlg : lngA bn x.heads = false) (h8 : ¬ 8000 < b.length) (hm : mayAB x = true) (k : Nat) (hk : k ≠ 0) (ho : oneAP b = (k, none)) :
    Calls Tryz.prog 10 #[.agg #[.int .i64 c, .slice ha hn hc, .slice ba bn bc], v] w fun e w' => e = .returned (.bool true) ∧ Below w.heap.size w w' := by
  have LT := hideL (fun (W : World) (hb : Below w.heap.size w W) => (⟨⟨ht.1.1.next hb, ht.1.2.next hb⟩, ht.2.next hb⟩ : (Env W ∧ EnvS W) ∧ EnvT W))
  have LA := hideL (fun (W : World) (hb : Below w.heap.size w W) => awakeA_any W (LT.out W hb))
  have HX := hideL (ABox.new w c (.slice ha hn hc) (.slice ba bn bc))
  have HB1 := hideL ((Below.refl w.heap.size w).alloc (Nat.le_refl _) (anC c (.slice ha hn hc) (.slice ba bn bc)))
  have LL := along_any c ha hn hc ba bn bc x.heads _ (hx.2.1.below HB1.out)
  obtain ⟨vo, vc, rfl⟩ := gv.len
  have x0 := HX.out.c0
  have x1 := HX.out.c1
  have x2 := HX.out.c2
  rw [hlg] at LL
  have LL := hideL LL
  have i1 : ¬ (8000 : Int) < (b.length : Int) := by omega
  obtain ⟨hl2, hl3⟩ := lngA_no hlg
  have hl4 := (longP_no hl3).1
  have LB := hideL (fun (W : World) (hb : Below w.heap.size w W) => abyt_okC hm c ha hn hc ba bn bc W (hx.below hb) (LT.out W hb).1.1 (LT.out W hb).2)
  have hwl := ans_len hm
  have L1 := hideL (fun (a : Option Addr) (n c : Nat) (W : World) (hb : Below w.heap.size w W) (g : GAt KB W (.slice a n c) (wrtP (rawA x))) => aone_okC (oneA_bytes hm) _ W g (by omega) (LT.out W hb))
  obtain ⟨k1, hk1, hno1⟩ := oneA_noreq (oneA_bytes hm)
  have ik1 : ((k1 : Int) == 0) = false := by rw [beq_eq_false_iff_ne]; omega
  have R1 := hideL (fun (a : Option Addr) (n c : Nat) (W : World) (hb : Below w.heap.size w W) (g : GAt KB W (.slice a n c) (wrtP (rawA x))) => one_badC hno1 _ W g (by omega) (LT.out W hb).1.1 (LT.out W hb).1.2)
  have HRX := hideL (fun (W : World) (hb : Below w.heap.size w W) => hx.below hb)
  have HL := hideL (show x.heads.length ≤ 1000 by omega)
  have ik : ((k : Int) != 0) = true := by rw [bne_iff_ne]; omega
  have L2 := hideL (fun (W : World) (hb : Below w.heap.size w W) => aone_noC ho (.slice vo b.length vc) W (gv.below hb) (by omega) (LT.out W hb))
  generalize b.length = n at *
  clear hx gv ht hlg h8 hm hl2 hl3 hl4 ho hwl hk1 hno1 hk
  go_enter Tryz.func10, Tryz.ntmps10
  go_wp2_with (first
    | (go_at_call 32; (with_reducible refine (LL.out).mono ?_); rintro e w2 ⟨rfl, hB⟩
       have hz3 := hB
       clear x0 x1 x2
       have HX := hideL (HX.out.next hz3)
       have x0 := HX.out.c0
       have x1 := HX.out.c1
       have x2 := HX.out.c2
       have HB2 := hideL (HB1.out.trans (hz3.mono HB1.out.size))
       clear hB hz3)
    | (go_at_call 40; (with_reducible refine (LB.out _ HB2.out).mono ?_); rintro e w3 ⟨⟨g1, gn1, gc1, rfl, hbr⟩, hB⟩
       have hz3 := hB
       clear x0 x1 x2
       have HX := hideL (HX.out.next hz3)
       have x0 := HX.out.c0
       have x1 := HX.out.c1
       have x2 := HX.out.c2
       have HB3 := hideL (HB2.out.trans (hz3.mono HB2.out.size))
       have LO1 := hideL (L1.out g1 gn1 gc1 _ HB3.out hbr)
       have HG1 := hideL hbr
       clear hbr
       clear hB hz3)
    | (go_at_call 44; (with_reducible refine (LO1.out).mono ?_); rintro e w4 ⟨⟨c1, ha1, hn1, hc1, ba1, bn1, bc1, rfl, hreq⟩, hB⟩
       have hz2 := (Below.refl w4.heap.size w4).alloc (Nat.le_refl _) (anC c1 (.slice ha1 hn1 hc1) (.slice ba1 bn1 bc1))
       have hz3 := hB.trans (hz2.mono hB.size)
       clear x0 x1 x2
       have HX := hideL (HX.out.next hz3)
       have x0 := HX.out.c0
       have x1 := HX.out.c1
       have x2 := HX.out.c2
       have HQ1 := hideL (ABox.new w4 c1 (.slice ha1 hn1 hc1) (.slice ba1 bn1 bc1))
       have y0 := HQ1.out.c0
       have y1 := HQ1.out.c1
       have y2 := HQ1.out.c2
       have HB4 := hideL (HB3.out.trans (hz3.mono HB3.out.size))
       have HR1 := hideL (hreq.below hz2)
       have LR1 := hideL (R1.out g1 gn1 gc1 _ HB4.out (HG1.out.below hz3))
       clear hreq LO1 HG1
       clear hB hz3 hz2)
    | (go_at_call 18; (with_reducible refine (LR1.out).mono ?_); rintro e w5 ⟨rfl, hB⟩
       have hz2 := (Below.refl w5.heap.size w5).alloc (Nat.le_refl _) (rqQ ⟨#[]⟩ ⟨#[]⟩ ⟨#[]⟩ ⟨#[]⟩ ⟨#[]⟩ (.slice none 0 0) (.slice none 0 0))
       have hz3 := hB.trans (hz2.mono hB.size)
       clear x0 x1 x2
       have HX := hideL (HX.out.next hz3)
       have x0 := HX.out.c0
       have x1 := HX.out.c1
       have x2 := HX.out.c2
       clear y0 y1 y2
       have HQ1 := hideL (HQ1.out.next hz3)
       have y0 := HQ1.out.c0
       have y1 := HQ1.out.c1
       have y2 := HQ1.out.c2
       have HB5 := hideL (HB4.out.trans (hz3.mono HB4.out.size))
       have LS1 := hideL (rsameA c1 c ha1 hn1 hc1 ba1 bn1 bc1 ha hn hc ba bn bc x x _ (HR1.out.below hz3) (HRX.out _ HB5.out) HL.out)
       clear LR1 HR1
       clear hB hz3 hz2)
    | (go_at_call 39; (with_reducible refine (LS1.out).mono ?_); rintro e w6 ⟨⟨zz, rfl, hzz⟩, hB⟩
       have hz3 := hB
       clear x0 x1 x2
       have HX := hideL (HX.out.next hz3)
       have x0 := HX.out.c0
       have x1 := HX.out.c1
       have x2 := HX.out.c2
       clear y0 y1 y2
       have HQ1 := hideL (HQ1.out.next hz3)
       have y0 := HQ1.out.c0
       have y1 := HQ1.out.c1
       have y2 := HQ1.out.c2
       have HB6 := hideL (HB5.out.trans (hz3.mono HB5.out.size))
       obtain rfl : zz = true := hzz.2 (by trivial)
       clear hzz LS1
       clear hB hz3)
    | (go_at_call 44; (with_reducible refine (L2.out _ HB6.out).mono ?_); rintro e w7 ⟨⟨c2, ha2, hn2, hc2, ba2, bn2, bc2, rfl, _⟩, hB⟩
       have hz2 := (Below.refl w7.heap.size w7).alloc (Nat.le_refl _) (anC c2 (.slice ha2 hn2 hc2) (.slice ba2 bn2 bc2))
       have hz3 := hB.trans (hz2.mono hB.size)
       have HB7 := hideL (HB6.out.trans (hz3.mono HB6.out.size))
       clear hB hz3 hz2)
    | (go_at_call 33; (with_reducible refine (LA.out _ HB7.out).mono ?_); rintro e w8 ⟨rfl, hB⟩
       have hz3 := hB
       have HB8 := hideL (HB7.out.trans (hz3.mono HB7.out.size))
       clear hB hz3))
  go_ret
  exact ⟨rfl, HB8.out⟩
set_option maxRecDepth 100000 in
set_option maxHeartbeats 4000000 in
theorem aback_11 (c : Int) (ha : Option Addr) (hn hc : Nat) (ba : Option Addr) (bn bc : Nat) (x : An) (v : Value) (b : List UInt8) (w : World) (hx : AnsAt w ⟨c, ⟨ha, hn, hc⟩, ⟨ba, bn, bc⟩⟩ x) (gv : GAt KB w v b) (ht : (Env w ∧ EnvS w) ∧ EnvT w) (hlg : lngA bn x.heads = false) (h8 : ¬ 8000 < b.length) (hm : mayAB x = true) (y : An) (ho : oneAP b = (0, some y)) :
    Calls Tryz.prog 10 #[.agg #[.int .i64 c, .slice ha hn hc, .slice ba bn bc], v] w fun e w' => e = .returned (.bool true) ∧ Below w.heap.size w w' := by
  have LT := hideL (fun (W : World) (hb : Below w.heap.size w W) => (⟨⟨ht.1.1.next hb, ht.1.2.next hb⟩, ht.2.next hb⟩ : (Env W ∧ EnvS W) ∧ EnvT W))
  have LA := hideL (fun (W : World) (hb : Below w.heap.size w W) => awakeA_any W (LT.out W hb))
  have HX := hideL (ABox.new w c (.slice ha hn hc) (.slice ba bn bc))
  have HB1 := hideL ((Below.refl w.heap.size w).alloc (Nat.le_refl _) (anC c (.slice ha hn hc) (.slice ba bn bc)))
  have LL := along_any c ha hn hc ba bn bc x.heads _ (hx.2.1.below HB1.out)
  obtain ⟨vo, vc, rfl⟩ := gv.len
  have x0 := HX.out.c0
  have x1 := HX.out.c1
  have x2 := HX.out.c2
  rw [hlg] at LL
  have LL := hideL LL
  have i1 : ¬ (8000 : Int) < (b.length : Int) := by omega
  obtain ⟨hl2, hl3⟩ := lngA_no hlg
  have hl4 := (longP_no hl3).1
  have LB := hideL (fun (W : World) (hb : Below w.heap.size w W) => abyt_okC hm c ha hn hc ba bn bc W (hx.below hb) (LT.out W hb).1.1 (LT.out W hb).2)
  have hwl := ans_len hm
  have L1 := hideL (fun (a : Option Addr) (n c : Nat) (W : World) (hb : Below w.heap.size w W) (g : GAt KB W (.slice a n c) (wrtP (rawA x))) => aone_okC (oneA_bytes hm) _ W g (by omega) (LT.out W hb))
  obtain ⟨k1, hk1, hno1⟩ := oneA_noreq (oneA_bytes hm)
  have ik1 : ((k1 : Int) == 0) = false := by rw [beq_eq_false_iff_ne]; omega
  have R1 := hideL (fun (a : Option Addr) (n c : Nat) (W : World) (hb : Below w.heap.size w W) (g : GAt KB W (.slice a n c) (wrtP (rawA x))) => one_badC hno1 _ W g (by omega) (LT.out W hb).1.1 (LT.out W hb).1.2)
  have HRX := hideL (fun (W : World) (hb : Below w.heap.size w W) => hx.below hb)
  have HL := hideL (show x.heads.length ≤ 1000 by omega)
  have hmy := oneA_may ho
  have hyl := mayH_len (fit_may (mayA_fit hmy)).1
  have hyf := good_fits (fit_may (mayA_fit hmy)).1
  have L2 := hideL (fun (W : World) (hb : Below w.heap.size w W) => aone_okC ho (.slice vo b.length vc) W (gv.below hb) (by omega) (LT.out W hb))
  have hyw := ans_len hmy
  have LB2 := hideL (fun (c : Int) (ha : Option Addr) (hn hc : Nat) (ba : Option Addr) (bn bc : Nat) (W : World) (hr : AnsAt W ⟨c, ⟨ha, hn, hc⟩, ⟨ba, bn, bc⟩⟩ y) (hb : Below w.heap.size w W) => abyt_okC hmy c ha hn hc ba bn bc W hr (LT.out W hb).1.1 (LT.out W hb).2)
  have L3 := hideL (fun (a : Option Addr) (n c : Nat) (W : World) (hb : Below w.heap.size w W) (g : GAt KB W (.slice a n c) (wrtP (rawA y))) => aone_okC (oneA_bytes hmy) _ W g (by omega) (LT.out W hb))
  obtain ⟨k2, hk2, hno2⟩ := oneA_noreq ho
  have ik2 : ((k2 : Int) != 0) = true := by rw [bne_iff_ne]; omega
  have R2 := hideL (fun (W : World) (hb : Below w.heap.size w W) => one_badC hno2 (.slice vo b.length vc) W (gv.below hb) (by omega) (LT.out W hb).1.1 (LT.out W hb).1.2)
  have LM := hideL (fun (c : Int) (ha : Option Addr) (hn hc : Nat) (ba : Option Addr) (bn bc : Nat) (W : World) (hr : AnsAt W ⟨c, ⟨ha, hn, hc⟩, ⟨ba, bn, bc⟩⟩ y) (hb : Below w.heap.size w W) => amay_any c ha hn hc ba bn bc y W hr hyf (by omega) (LT.out W hb).1.1 (LT.out W hb).2)
  rw [hmy] at LM
  have HLY := hideL (show y.heads.length ≤ 1000 by omega)
  generalize b.length = n at *
  clear hx gv ht hlg h8 hm hl2 hl3 hl4 ho hwl hk1 hno1 hmy hyl hyf hyw hk2 hno2
  go_enter Tryz.func10, Tryz.ntmps10
  go_wp2_with (first
    | (go_at_call 32; (with_reducible refine (LL.out).mono ?_); rintro e w2 ⟨rfl, hB⟩
       have hz3 := hB
       clear x0 x1 x2
       have HX := hideL (HX.out.next hz3)
       have x0 := HX.out.c0
       have x1 := HX.out.c1
       have x2 := HX.out.c2
       have HB2 := hideL (HB1.out.trans (hz3.mono HB1.out.size))
       clear hB hz3)
    | (go_at_call 40; (with_reducible refine (LB.out _ HB2.out).mono ?_); rintro e w3 ⟨⟨g1, gn1, gc1, rfl, hbr⟩, hB⟩
       have hz3 := hB
       clear x0 x1 x2
       have HX := hideL (HX.out.next hz3)
       have x0 := HX.out.c0
       have x1 := HX.out.c1
       have x2 := HX.out.c2
       have HB3 := hideL (HB2.out.trans (hz3.mono HB2.out.size))
       have LO1 := hideL (L1.out g1 gn1 gc1 _ HB3.out hbr)
       have HG1 := hideL hbr
       clear hbr
       clear hB hz3)
    | (go_at_call 44; (with_reducible refine (LO1.out).mono ?_); rintro e w4 ⟨⟨c1, ha1, hn1, hc1, ba1, bn1, bc1, rfl, hreq⟩, hB⟩
       have hz2 := (Below.refl w4.heap.size w4).alloc (Nat.le_refl _) (anC c1 (.slice ha1 hn1 hc1) (.slice ba1 bn1 bc1))
       have hz3 := hB.trans (hz2.mono hB.size)
       clear x0 x1 x2
       have HX := hideL (HX.out.next hz3)
       have x0 := HX.out.c0
       have x1 := HX.out.c1
       have x2 := HX.out.c2
       have HQ1 := hideL (ABox.new w4 c1 (.slice ha1 hn1 hc1) (.slice ba1 bn1 bc1))
       have y0 := HQ1.out.c0
       have y1 := HQ1.out.c1
       have y2 := HQ1.out.c2
       have HB4 := hideL (HB3.out.trans (hz3.mono HB3.out.size))
       have HR1 := hideL (hreq.below hz2)
       have LR1 := hideL (R1.out g1 gn1 gc1 _ HB4.out (HG1.out.below hz3))
       clear hreq LO1 HG1
       clear hB hz3 hz2)
    | (go_at_call 18; (with_reducible refine (LR1.out).mono ?_); rintro e w5 ⟨rfl, hB⟩
       have hz2 := (Below.refl w5.heap.size w5).alloc (Nat.le_refl _) (rqQ ⟨#[]⟩ ⟨#[]⟩ ⟨#[]⟩ ⟨#[]⟩ ⟨#[]⟩ (.slice none 0 0) (.slice none 0 0))
       have hz3 := hB.trans (hz2.mono hB.size)
       clear x0 x1 x2
       have HX := hideL (HX.out.next hz3)
       have x0 := HX.out.c0
       have x1 := HX.out.c1
       have x2 := HX.out.c2
       clear y0 y1 y2
       have HQ1 := hideL (HQ1.out.next hz3)
       have y0 := HQ1.out.c0
       have y1 := HQ1.out.c1
       have y2 := HQ1.out.c2
       have HB5 := hideL (HB4.out.trans (hz3.mono HB4.out.size))
       have LS1 := hideL (rsameA c1 c ha1 hn1 hc1 ba1 bn1 bc1 ha hn hc ba bn bc x x _ (HR1.out.below hz3) (HRX.out _ HB5.out) HL.out)
       clear LR1 HR1
       clear hB hz3 hz2)
    | (go_at_call 39; (with_reducible refine (LS1.out).mono ?_); rintro e w6 ⟨⟨zz, rfl, hzz⟩, hB⟩
       have hz3 := hB
       clear x0 x1 x2
       have HX := hideL (HX.out.next hz3)
       have x0 := HX.out.c0
       have x1 := HX.out.c1
       have x2 := HX.out.c2
       clear y0 y1 y2
       have HQ1 := hideL (HQ1.out.next hz3)
       have y0 := HQ1.out.c0
       have y1 := HQ1.out.c1
       have y2 := HQ1.out.c2
       have HB6 := hideL (HB5.out.trans (hz3.mono HB5.out.size))
       obtain rfl : zz = true := hzz.2 (by trivial)
       clear hzz LS1
       clear hB hz3)
    | (go_at_call 44; (with_reducible refine (L2.out _ HB6.out).mono ?_); rintro e w7 ⟨⟨c2, ha2, hn2, hc2, ba2, bn2, bc2, rfl, hreq⟩, hB⟩
       have hz2 := (Below.refl w7.heap.size w7).alloc (Nat.le_refl _) (anC c2 (.slice ha2 hn2 hc2) (.slice ba2 bn2 bc2))
       have hz3 := hB.trans (hz2.mono hB.size)
       have HY := hideL (ABox.new w7 c2 (.slice ha2 hn2 hc2) (.slice ba2 bn2 bc2))
       have u0 := HY.out.c0
       have u1 := HY.out.c1
       have u2 := HY.out.c2
       have HB7 := hideL (HB6.out.trans (hz3.mono HB6.out.size))
       have HRY := hideL (hreq.below hz2)
       have LBY := hideL (LB2.out c2 ha2 hn2 hc2 ba2 bn2 bc2 _ HRY.out HB7.out)
       clear hreq
       clear hB hz3 hz2)
    | (go_at_call 40; (with_reducible refine (LBY.out).mono ?_); rintro e w8 ⟨⟨g2, gn2, gc2, rfl, hbr⟩, hB⟩
       have hz3 := hB
       clear u0 u1 u2
       have HY := hideL (HY.out.next hz3)
       have u0 := HY.out.c0
       have u1 := HY.out.c1
       have u2 := HY.out.c2
       have HB8 := hideL (HB7.out.trans (hz3.mono HB7.out.size))
       have HRY := hideL (HRY.out.below hz3)
       have LO3 := hideL (L3.out g2 gn2 gc2 _ HB8.out hbr)
       clear hbr LBY
       clear hB hz3)
    | (go_at_call 44; (with_reducible refine (LO3.out).mono ?_); rintro e w9 ⟨⟨c3, ha3, hn3, hc3, ba3, bn3, bc3, rfl, hreq⟩, hB⟩
       have hz2 := (Below.refl w9.heap.size w9).alloc (Nat.le_refl _) (anC c3 (.slice ha3 hn3 hc3) (.slice ba3 bn3 bc3))
       have hz3 := hB.trans (hz2.mono hB.size)
       clear u0 u1 u2
       have HY := hideL (HY.out.next hz3)
       have u0 := HY.out.c0
       have u1 := HY.out.c1
       have u2 := HY.out.c2
       have HZ := hideL (ABox.new w9 c3 (.slice ha3 hn3 hc3) (.slice ba3 bn3 bc3))
       have v0 := HZ.out.c0
       have v1 := HZ.out.c1
       have v2 := HZ.out.c2
       have HB9 := hideL (HB8.out.trans (hz3.mono HB8.out.size))
       have HRY := hideL (HRY.out.below hz3)
       have HRZ := hideL (hreq.below hz2)
       have LR2 := hideL (R2.out _ HB9.out)
       clear hreq LO3
       clear hB hz3 hz2)
    | (go_at_call 18; (with_reducible refine (LR2.out).mono ?_); rintro e w10 ⟨rfl, hB⟩
       have hz2 := (Below.refl w10.heap.size w10).alloc (Nat.le_refl _) (rqQ ⟨#[]⟩ ⟨#[]⟩ ⟨#[]⟩ ⟨#[]⟩ ⟨#[]⟩ (.slice none 0 0) (.slice none 0 0))
       have hz3 := hB.trans (hz2.mono hB.size)
       clear u0 u1 u2
       have HY := hideL (HY.out.next hz3)
       have u0 := HY.out.c0
       have u1 := HY.out.c1
       have u2 := HY.out.c2
       clear v0 v1 v2
       have HZ := hideL (HZ.out.next hz3)
       have v0 := HZ.out.c0
       have v1 := HZ.out.c1
       have v2 := HZ.out.c2
       have HB10 := hideL (HB9.out.trans (hz3.mono HB9.out.size))
       have HRY := hideL (HRY.out.below hz3)
       have HRZ := hideL (HRZ.out.below hz3)
       have LMY := hideL (LM.out c2 ha2 hn2 hc2 ba2 bn2 bc2 _ HRY.out HB10.out)
       clear LR2
       clear hB hz3 hz2)
    | (go_at_call 34; (with_reducible refine (LMY.out).mono ?_); rintro e w11 ⟨rfl, hB⟩
       have hz3 := hB
       clear u0 u1 u2
       have HY := hideL (HY.out.next hz3)
       have u0 := HY.out.c0
       have u1 := HY.out.c1
       have u2 := HY.out.c2
       clear v0 v1 v2
       have HZ := hideL (HZ.out.next hz3)
       have v0 := HZ.out.c0
       have v1 := HZ.out.c1
       have v2 := HZ.out.c2
       have HB11 := hideL (HB10.out.trans (hz3.mono HB10.out.size))
       have LS2 := hideL (rsameA c2 c3 ha2 hn2 hc2 ba2 bn2 bc2 ha3 hn3 hc3 ba3 bn3 bc3 y y _ (HRY.out.below hz3) (HRZ.out.below hz3) HLY.out)
       clear LMY
       clear hB hz3)
    | (go_at_call 39; (with_reducible refine (LS2.out).mono ?_); rintro e w12 ⟨⟨zz, rfl, hzz⟩, hB⟩
       have hz3 := hB
       clear u0 u1 u2
       have HY := hideL (HY.out.next hz3)
       have u0 := HY.out.c0
       have u1 := HY.out.c1
       have u2 := HY.out.c2
       clear v0 v1 v2
       have HZ := hideL (HZ.out.next hz3)
       have v0 := HZ.out.c0
       have v1 := HZ.out.c1
       have v2 := HZ.out.c2
       have HB12 := hideL (HB11.out.trans (hz3.mono HB11.out.size))
       obtain rfl : zz = true := hzz.2 (by trivial)
       clear hzz LS2
       clear hB hz3)
    | (go_at_call 33; (with_reducible refine (LA.out _ HB12.out).mono ?_); rintro e w13 ⟨rfl, hB⟩
       have hz3 := hB
       clear u0 u1 u2
       have HY := hideL (HY.out.next hz3)
       have u0 := HY.out.c0
       have u1 := HY.out.c1
       have u2 := HY.out.c2
       clear v0 v1 v2
       have HZ := hideL (HZ.out.next hz3)
       have v0 := HZ.out.c0
       have v1 := HZ.out.c1
       have v2 := HZ.out.c2
       have HB13 := hideL (HB12.out.trans (hz3.mono HB12.out.size))
       clear hB hz3))
  go_ret
  exact ⟨rfl, HB13.out⟩
theorem aback_walk (r : AV) (v : Value) (b : List UInt8) (w : World) (hr : AnsOk w r) (gv : GAt KB w v b) (ht : (Env w ∧ EnvS w) ∧ EnvT w) :
    Calls Tryz.prog 10 #[r.v, v] w fun e w' => e = .returned (.bool true) ∧ Below w.heap.size w w' := by
  obtain ⟨c, ⟨ha, hn, hc⟩, ⟨ba, bn, bc⟩⟩ := r
  obtain ⟨x, hx, _⟩ := hr
  cases hlg : lngA bn x.heads with
  | true => exact aback_long c ha hn hc ba bn bc x v b w hx gv ht hlg
  | false =>
    by_cases h8 : 8000 < b.length
    · exact aback_many c ha hn hc ba bn bc x v b w hx gv ht hlg h8
    cases hm : mayAB x with
    | true =>
      rcases oneA_shape b with ⟨y, ho⟩ | ⟨k, hk, ho⟩
      · exact aback_11 c ha hn hc ba bn bc x v b w hx gv ht hlg h8 hm y ho
      · exact aback_10 c ha hn hc ba bn bc x v b w hx gv ht hlg h8 hm k hk ho
    | false =>
      rcases oneA_shape b with ⟨y, ho⟩ | ⟨k, hk, ho⟩
      · exact aback_01 c ha hn hc ba bn bc x v b w hx gv ht hlg h8 hm y ho
      · exact aback_00 c ha hn hc ba bn bc x v b w hx gv ht hlg h8 hm k hk ho
end Go.Proofs.YtglnfnlpkhmlnaaGreatDoor
