/- AnswerOf: whether any message is an answer; the one that any bytes are. -/
import Derived.Test.YtafmgoekgijfgaaGreatDoorBAnCon
import Derived.Test.YtafmgoekgijfgaaGreatDoorBAnAwake
import Derived.Test.YtafmgoekgijfgaaGreatDoorBAnMC
namespace Go.Proofs.YtafmgoekgijfgaaGreatDoor
open Go.RowKit Go.Lib

theorem oneA_heads (b : List UInt8) : ((oneAP b).2.getD an0).heads.length ≤ 1000 := by
  rcases oneA_shape b with ⟨y, ho⟩ | ⟨k, _, ho⟩
  · rw [ho]
    have h := mayH_len (fit_may (mayA_fit (oneA_may ho))).1
    simp only [Option.getD_some]
    omega
  · rw [ho]
    exact Nat.zero_le _
theorem ofA_heads {x : Rw} (h : x.heads.length ≤ 1000) : ((ofAP x).getD an0).heads.length ≤ 1000 := by
  cases ho : ofAP x with
  | none => exact Nat.zero_le _
  | some a =>
    rw [Option.getD_some, (ofA_some ho).2.2.1]
    exact h
set_option maxRecDepth 100000 in
set_option maxHeartbeats 4000000 in
theorem aofl_1 (s : ByteArray) (ha : Option Addr) (hn hc : Nat) (ba : Option Addr) (bn bc : Nat) (x : Rw) (v : Value) (b : List UInt8) (w : World) (hr : RawAt w ⟨s, ⟨ha, hn, hc⟩, ⟨ba, bn, bc⟩⟩ x) (gv : GAt KB w v b) (ht : (Env w ∧ EnvS w) ∧ EnvT w) (hlg : lngA bn x.heads = true) :
    Calls Tryz.prog 7 #[.agg #[.string s, .slice ha hn hc, .slice ba bn bc], v] w fun e w' => e = .returned (.bool true) ∧ Below w.heap.size w w' := by
  have LT := hideL (fun (W : World) (hb : Below w.heap.size w W) => (⟨⟨ht.1.1.next hb, ht.1.2.next hb⟩, ht.2.next hb⟩ : (Env W ∧ EnvS W) ∧ EnvT W))
  have LA := hideL (fun (W : World) (hb : Below w.heap.size w W) => awakeA_any W (LT.out W hb))
  have HX : HidL (QBox (w.alloc (rawC s (.slice ha hn hc) (.slice ba bn bc))) w.heap.size s (.slice ha hn hc) (.slice ba bn bc)) := ⟨heap_alloc_new w _⟩
  have HB1 := hideL ((Below.refl w.heap.size w).alloc (Nat.le_refl _) (rawC s (.slice ha hn hc) (.slice ba bn bc)))
  have LL := along_any 0 ha hn hc ba bn bc x.heads _ (hr.2.1.below HB1.out)
  obtain ⟨vo, vc, rfl⟩ := gv.len
  have x0 := HX.out.c0
  have x1 := HX.out.c1
  have x2 := HX.out.c2
  rw [hlg] at LL
  have LL := hideL LL
  generalize b.length = n at *
  clear hr gv ht hlg
  go_enter Tryz.func7, Tryz.ntmps7
  go_wp2_with (first
    | (go_at_call 23; (with_reducible refine (LL.out).mono ?_); rintro e w2 ⟨rfl, hB⟩
       have hz3 := hB
       clear x0 x1 x2
       have HX := hideL (HX.out.next hz3)
       have x0 := HX.out.c0
       have x1 := HX.out.c1
       have x2 := HX.out.c2
       have HB2 := hideL (HB1.out.trans (hz3.mono HB1.out.size))
       clear hB hz3)
    | (go_at_call 24; (with_reducible refine (LA.out _ HB2.out).mono ?_); rintro e w3 ⟨rfl, hB⟩
       have hz3 := hB
       clear x0 x1 x2
       have HX := hideL (HX.out.next hz3)
       have x0 := HX.out.c0
       have x1 := HX.out.c1
       have x2 := HX.out.c2
       have HB3 := hideL (HB2.out.trans (hz3.mono HB2.out.size))
       clear hB hz3))
  go_ret
  exact ⟨rfl, HB3.out⟩
set_option maxRecDepth 100000 in
set_option maxHeartbeats 4000000 in
theorem aofl_2 (s : ByteArray) (ha : Option Addr) (hn hc : Nat) (ba : Option Addr) (bn bc : Nat) (x : Rw) (v : Value) (b : List UInt8) (w : World) (hr : RawAt w ⟨s, ⟨ha, hn, hc⟩, ⟨ba, bn, bc⟩⟩ x) (gv : GAt KB w v b) (ht : (Env w ∧ EnvS w) ∧ EnvT w) (hlg : lngA bn x.heads = false) (h2 : 2000 < s.size) :
    Calls Tryz.prog 7 #[.agg #[.string s, .slice ha hn hc, .slice ba bn bc], v] w fun e w' => e = .returned (.bool true) ∧ Below w.heap.size w w' := by
  have LT := hideL (fun (W : World) (hb : Below w.heap.size w W) => (⟨⟨ht.1.1.next hb, ht.1.2.next hb⟩, ht.2.next hb⟩ : (Env W ∧ EnvS W) ∧ EnvT W))
  have LA := hideL (fun (W : World) (hb : Below w.heap.size w W) => awakeA_any W (LT.out W hb))
  have HX : HidL (QBox (w.alloc (rawC s (.slice ha hn hc) (.slice ba bn bc))) w.heap.size s (.slice ha hn hc) (.slice ba bn bc)) := ⟨heap_alloc_new w _⟩
  have HB1 := hideL ((Below.refl w.heap.size w).alloc (Nat.le_refl _) (rawC s (.slice ha hn hc) (.slice ba bn bc)))
  have LL := along_any 0 ha hn hc ba bn bc x.heads _ (hr.2.1.below HB1.out)
  obtain ⟨vo, vc, rfl⟩ := gv.len
  have x0 := HX.out.c0
  have x1 := HX.out.c1
  have x2 := HX.out.c2
  rw [hlg] at LL
  have LL := hideL LL
  have i1 : (2000 : Int) < (s.size : Int) := by omega
  generalize b.length = n at *
  clear hr gv ht hlg h2
  go_enter Tryz.func7, Tryz.ntmps7
  go_wp2_with (first
    | (go_at_call 23; (with_reducible refine (LL.out).mono ?_); rintro e w2 ⟨rfl, hB⟩
       have hz3 := hB
       clear x0 x1 x2
       have HX := hideL (HX.out.next hz3)
       have x0 := HX.out.c0
       have x1 := HX.out.c1
       have x2 := HX.out.c2
       have HB2 := hideL (HB1.out.trans (hz3.mono HB1.out.size))
       clear hB hz3)
    | (go_at_call 24; (with_reducible refine (LA.out _ HB2.out).mono ?_); rintro e w3 ⟨rfl, hB⟩
       have hz3 := hB
       clear x0 x1 x2
       have HX := hideL (HX.out.next hz3)
       have x0 := HX.out.c0
       have x1 := HX.out.c1
       have x2 := HX.out.c2
       have HB3 := hideL (HB2.out.trans (hz3.mono HB2.out.size))
       clear hB hz3))
  go_ret
  exact ⟨rfl, HB3.out⟩
set_option maxRecDepth 100000 in
set_option maxHeartbeats 4000000 in
theorem aofl_3 (s : ByteArray) (ha : Option Addr) (hn hc : Nat) (ba : Option Addr) (bn bc : Nat) (x : Rw) (v : Value) (b : List UInt8) (w : World) (hr : RawAt w ⟨s, ⟨ha, hn, hc⟩, ⟨ba, bn, bc⟩⟩ x) (gv : GAt KB w v b) (ht : (Env w ∧ EnvS w) ∧ EnvT w) (hlg : lngA bn x.heads = false) (h2 : ¬ 2000 < s.size) (h8 : 8000 < b.length) :
    Calls Tryz.prog 7 #[.agg #[.string s, .slice ha hn hc, .slice ba bn bc], v] w fun e w' => e = .returned (.bool true) ∧ Below w.heap.size w w' := by
  have LT := hideL (fun (W : World) (hb : Below w.heap.size w W) => (⟨⟨ht.1.1.next hb, ht.1.2.next hb⟩, ht.2.next hb⟩ : (Env W ∧ EnvS W) ∧ EnvT W))
  have LA := hideL (fun (W : World) (hb : Below w.heap.size w W) => awakeA_any W (LT.out W hb))
  have HX : HidL (QBox (w.alloc (rawC s (.slice ha hn hc) (.slice ba bn bc))) w.heap.size s (.slice ha hn hc) (.slice ba bn bc)) := ⟨heap_alloc_new w _⟩
  have HB1 := hideL ((Below.refl w.heap.size w).alloc (Nat.le_refl _) (rawC s (.slice ha hn hc) (.slice ba bn bc)))
  have LL := along_any 0 ha hn hc ba bn bc x.heads _ (hr.2.1.below HB1.out)
  obtain ⟨vo, vc, rfl⟩ := gv.len
  have x0 := HX.out.c0
  have x1 := HX.out.c1
  have x2 := HX.out.c2
  rw [hlg] at LL
  have LL := hideL LL
  have i1 : ¬ (2000 : Int) < (s.size : Int) := by omega
  have i1d : decide ((2000 : Int) < (s.size : Int)) = false := decide_eq_false i1
  have i2 : (8000 : Int) < (b.length : Int) := by omega
  generalize b.length = n at *
  clear hr gv ht hlg h2 h8
  go_enter Tryz.func7, Tryz.ntmps7
  go_wp2_with (first
    | (go_at_call 23; (with_reducible refine (LL.out).mono ?_); rintro e w2 ⟨rfl, hB⟩
       have hz3 := hB
       clear x0 x1 x2
       have HX := hideL (HX.out.next hz3)
       have x0 := HX.out.c0
       have x1 := HX.out.c1
       have x2 := HX.out.c2
       have HB2 := hideL (HB1.out.trans (hz3.mono HB1.out.size))
       clear hB hz3)
    | (go_at_call 24; (with_reducible refine (LA.out _ HB2.out).mono ?_); rintro e w3 ⟨rfl, hB⟩
       have hz3 := hB
       clear x0 x1 x2
       have HX := hideL (HX.out.next hz3)
       have x0 := HX.out.c0
       have x1 := HX.out.c1
       have x2 := HX.out.c2
       have HB3 := hideL (HB2.out.trans (hz3.mono HB2.out.size))
       clear hB hz3))
  go_ret
  exact ⟨rfl, HB3.out⟩
set_option maxRecDepth 100000 in
set_option maxHeartbeats 4000000 in
theorem aofl_4 (s : ByteArray) (ha : Option Addr) (hn hc : Nat) (ba : Option Addr) (bn bc : Nat) (x : Rw) (v : Value) (b : List UInt8) (w : World) (hr : RawAt w ⟨s, ⟨ha, hn, hc⟩, ⟨ba, bn, bc⟩⟩ x) (gv : GAt KB w v b) (ht : (Env w ∧ EnvS w) ∧ EnvT w) (hlg : lngA bn x.heads = false) (h2 : ¬ 2000 < s.size) (h8 : ¬ 8000 < b.length) (y : An) (ho : ofAP x = some y) :
    Calls Tryz.prog 7 #[.agg #[.string s, .slice ha hn hc, .slice ba bn bc], v] w fun e w' => e = .returned (.bool true) ∧ Below w.heap.size w w' := by
  have LT := hideL (fun (W : World) (hb : Below w.heap.size w W) => (⟨⟨ht.1.1.next hb, ht.1.2.next hb⟩, ht.2.next hb⟩ : (Env W ∧ EnvS W) ∧ EnvT W))
  have LA := hideL (fun (W : World) (hb : Below w.heap.size w W) => awakeA_any W (LT.out W hb))
  have HX : HidL (QBox (w.alloc (rawC s (.slice ha hn hc) (.slice ba bn bc))) w.heap.size s (.slice ha hn hc) (.slice ba bn bc)) := ⟨heap_alloc_new w _⟩
  have HB1 := hideL ((Below.refl w.heap.size w).alloc (Nat.le_refl _) (rawC s (.slice ha hn hc) (.slice ba bn bc)))
  have LL := along_any 0 ha hn hc ba bn bc x.heads _ (hr.2.1.below HB1.out)
  obtain ⟨vo, vc, rfl⟩ := gv.len
  have x0 := HX.out.c0
  have x1 := HX.out.c1
  have x2 := HX.out.c2
  rw [hlg] at LL
  have LL := hideL LL
  have i1 : ¬ (2000 : Int) < (s.size : Int) := by omega
  have i1d : decide ((2000 : Int) < (s.size : Int)) = false := decide_eq_false i1
  have i2 : ¬ (8000 : Int) < (b.length : Int) := by omega
  have i2d : decide ((8000 : Int) < (b.length : Int)) = false := decide_eq_false i2
  obtain ⟨hl2, hl3⟩ := lngA_no hlg
  have hl4 := (longP_no hl3).1
  have hfi := longP_fits hl3
  have hbn : bn = x.body.length := hr.2.2.le.1
  have LO := fun (W : World) (hb : Below w.heap.size w W) => aof_any s ha hn hc ba bn bc x W (hr.below hb) hfi (by omega) (by omega) (by omega) (LT.out W hb)
  have LR := fun (W : World) (hb : Below w.heap.size w W) => arof_any s ha hn hc ba bn bc x W (hr.below hb) hfi (by omega) (by omega) (by omega)
  have HL1 := ofA_heads (x := x) (by omega)
  unfold AOfPost at LO
  unfold AROfPost at LR
  simp only [ho, Option.isSome_some, Option.getD_some, ↓reduceIte] at LO LR HL1
  have LO := hideL LO
  have LR := hideL LR
  have HL1 := hideL HL1
  have LP := fun (W : World) (hb : Below w.heap.size w W) => aone_any (.slice vo b.length vc) b W (gv.below hb) (by omega) (LT.out W hb)
  have LQ := fun (W : World) (hb : Below w.heap.size w W) => arone_any vo vc b.length b rfl W (gv.below hb) (by omega)
  have HL2 := oneA_heads b
  unfold AOnePost at LP
  unfold AROnePost at LQ
  obtain ⟨⟨k, q⟩, hq⟩ : ∃ z, oneAP b = z := ⟨_, rfl⟩
  rw [hq] at LP LQ HL2
  simp only at LP LQ HL2
  obtain ⟨p, hp⟩ : ∃ z, q.getD an0 = z := ⟨_, rfl⟩
  rw [hp] at LP LQ HL2
  obtain ⟨n, hn0⟩ : ∃ n, b.length = n := ⟨_, rfl⟩
  rw [hn0] at i2 i2d LP LQ ⊢
  have LP := hideL LP
  have LQ := hideL LQ
  have HL2 := hideL HL2
  clear hr gv ht hlg h2 h8 ho hl2 hl3 hl4 hfi hbn hq hp hn0
  go_enter Tryz.func7, Tryz.ntmps7
  go_wp2_with (first
    | (go_at_call 23; (with_reducible refine (LL.out).mono ?_); rintro e w2 ⟨rfl, hB⟩
       have hz3 := hB
       clear x0 x1 x2
       have HX := hideL (HX.out.next hz3)
       have x0 := HX.out.c0
       have x1 := HX.out.c1
       have x2 := HX.out.c2
       have HB2 := hideL (HB1.out.trans (hz3.mono HB1.out.size))
       clear hB hz3)
    | (go_at_call 33; (with_reducible refine (LO.out _ HB2.out).mono ?_); rintro e w3 ⟨⟨c1, ha1, hn1, hc1, ba1, bn1, bc1, rfl, hreq, _⟩, hB⟩
       have hz2 := (Below.refl w3.heap.size w3).alloc (Nat.le_refl _) (anC c1 (.slice ha1 hn1 hc1) (.slice ba1 bn1 bc1))
       have hz3 := hB.trans (hz2.mono hB.size)
       clear x0 x1 x2
       have HX := hideL (HX.out.next hz3)
       have x0 := HX.out.c0
       have x1 := HX.out.c1
       have x2 := HX.out.c2
       have HY := hideL (ABox.new w3 c1 (.slice ha1 hn1 hc1) (.slice ba1 bn1 bc1))
       have u0 := HY.out.c0
       have u1 := HY.out.c1
       have u2 := HY.out.c2
       have HB3 := hideL (HB2.out.trans (hz3.mono HB2.out.size))
       have HR1 := hideL (hreq.below hz2)
       clear hreq
       clear hB hz3 hz2)
    | (go_at_call 34; (with_reducible refine (LR.out _ HB3.out).mono ?_); rintro e w4 ⟨⟨c2, ha2, hn2, hc2, ba2, bn2, bc2, rfl, hreq, _⟩, hB⟩
       have hz2 := (Below.refl w4.heap.size w4).alloc (Nat.le_refl _) (anC c2 (.slice ha2 hn2 hc2) (.slice ba2 bn2 bc2))
       have hz3 := hB.trans (hz2.mono hB.size)
       clear x0 x1 x2
       have HX := hideL (HX.out.next hz3)
       have x0 := HX.out.c0
       have x1 := HX.out.c1
       have x2 := HX.out.c2
       clear u0 u1 u2
       have HY := hideL (HY.out.next hz3)
       have u0 := HY.out.c0
       have u1 := HY.out.c1
       have u2 := HY.out.c2
       have HZ := hideL (ABox.new w4 c2 (.slice ha2 hn2 hc2) (.slice ba2 bn2 bc2))
       have v0 := HZ.out.c0
       have v1 := HZ.out.c1
       have v2 := HZ.out.c2
       have HB4 := hideL (HB3.out.trans (hz3.mono HB3.out.size))
       have LS1 := hideL (rsameA c1 c2 ha1 hn1 hc1 ba1 bn1 bc1 ha2 hn2 hc2 ba2 bn2 bc2 y y _ (HR1.out.below hz3) (hreq.below hz2) HL1.out)
       clear hreq HR1
       clear hB hz3 hz2)
    | (go_at_call 30; (with_reducible refine (LS1.out).mono ?_); rintro e w5 ⟨⟨zz, rfl, hzz⟩, hB⟩
       have hz3 := hB
       clear x0 x1 x2
       have HX := hideL (HX.out.next hz3)
       have x0 := HX.out.c0
       have x1 := HX.out.c1
       have x2 := HX.out.c2
       clear u0 u1 u2
       have HY := hideL (HY.out.next hz3)
       have u0 := HY.out.c0
       have u1 := HY.out.c1
       have u2 := HY.out.c2
       clear v0 v1 v2
       have HZ := hideL (HZ.out.next hz3)
       have v0 := HZ.out.c0
       have v1 := HZ.out.c1
       have v2 := HZ.out.c2
       have HB5 := hideL (HB4.out.trans (hz3.mono HB4.out.size))
       obtain rfl : zz = true := hzz.2 (by trivial)
       clear hzz LS1
       clear hB hz3)
    | (go_at_call 35; (with_reducible refine (LP.out _ HB5.out).mono ?_); rintro e w6 ⟨⟨c3, ha3, hn3, hc3, ba3, bn3, bc3, rfl, hreq⟩, hB⟩
       have hz2 := (Below.refl w6.heap.size w6).alloc (Nat.le_refl _) (anC c3 (.slice ha3 hn3 hc3) (.slice ba3 bn3 bc3))
       have hz3 := hB.trans (hz2.mono hB.size)
       have HV := hideL (ABox.new w6 c3 (.slice ha3 hn3 hc3) (.slice ba3 bn3 bc3))
       have p0 := HV.out.c0
       have p1 := HV.out.c1
       have p2 := HV.out.c2
       have HB6 := hideL (HB5.out.trans (hz3.mono HB5.out.size))
       have HR3 := hideL (hreq.below hz2)
       clear hreq
       clear hB hz3 hz2)
    | (go_at_call 36; (with_reducible refine (LQ.out _ HB6.out).mono ?_); rintro e w7 ⟨⟨c4, ha4, hn4, hc4, ba4, bn4, bc4, rfl, hreq⟩, hB⟩
       have hz2 := (Below.refl w7.heap.size w7).alloc (Nat.le_refl _) (anC c4 (.slice ha4 hn4 hc4) (.slice ba4 bn4 bc4))
       have hz3 := hB.trans (hz2.mono hB.size)
       clear p0 p1 p2
       have HV := hideL (HV.out.next hz3)
       have p0 := HV.out.c0
       have p1 := HV.out.c1
       have p2 := HV.out.c2
       have HW := hideL (ABox.new w7 c4 (.slice ha4 hn4 hc4) (.slice ba4 bn4 bc4))
       have q0 := HW.out.c0
       have q1 := HW.out.c1
       have q2 := HW.out.c2
       have HB7 := hideL (HB6.out.trans (hz3.mono HB6.out.size))
       have LS2 := hideL (rsameA c3 c4 ha3 hn3 hc3 ba3 bn3 bc3 ha4 hn4 hc4 ba4 bn4 bc4 p p _ (HR3.out.below hz3) (hreq.below hz2) HL2.out)
       clear hreq HR3
       clear hB hz3 hz2)
    | (go_at_call 30; (with_reducible refine (LS2.out).mono ?_); rintro e w8 ⟨⟨zz, rfl, hzz⟩, hB⟩
       have hz3 := hB
       clear p0 p1 p2
       have HV := hideL (HV.out.next hz3)
       have p0 := HV.out.c0
       have p1 := HV.out.c1
       have p2 := HV.out.c2
       clear q0 q1 q2
       have HW := hideL (HW.out.next hz3)
       have q0 := HW.out.c0
       have q1 := HW.out.c1
       have q2 := HW.out.c2
       have HB8 := hideL (HB7.out.trans (hz3.mono HB7.out.size))
       obtain rfl : zz = true := hzz.2 (by trivial)
       clear hzz LS2
       clear hB hz3)
    | (go_at_call 24; (with_reducible refine (LA.out _ HB8.out).mono ?_); rintro e w9 ⟨rfl, hB⟩
       have hz3 := hB
       clear p0 p1 p2
       have HV := hideL (HV.out.next hz3)
       have p0 := HV.out.c0
       have p1 := HV.out.c1
       have p2 := HV.out.c2
       clear q0 q1 q2
       have HW := hideL (HW.out.next hz3)
       have q0 := HW.out.c0
       have q1 := HW.out.c1
       have q2 := HW.out.c2
       have HB9 := hideL (HB8.out.trans (hz3.mono HB8.out.size))
       clear hB hz3))
  go_ret
  exact ⟨rfl, HB9.out⟩
set_option maxRecDepth 100000 in
set_option maxHeartbeats 4000000 in
theorem aofl_5 (s : ByteArray) (ha : Option Addr) (hn hc : Nat) (ba : Option Addr) (bn bc : Nat) (x : Rw) (v : Value) (b : List UInt8) (w : World) (hr : RawAt w ⟨s, ⟨ha, hn, hc⟩, ⟨ba, bn, bc⟩⟩ x) (gv : GAt KB w v b) (ht : (Env w ∧ EnvS w) ∧ EnvT w) (hlg : lngA bn x.heads = false) (h2 : ¬ 2000 < s.size) (h8 : ¬ 8000 < b.length) (ho : ofAP x = none) :
    Calls Tryz.prog 7 #[.agg #[.string s, .slice ha hn hc, .slice ba bn bc], v] w fun e w' => e = .returned (.bool true) ∧ Below w.heap.size w w' := by
  have LT := hideL (fun (W : World) (hb : Below w.heap.size w W) => (⟨⟨ht.1.1.next hb, ht.1.2.next hb⟩, ht.2.next hb⟩ : (Env W ∧ EnvS W) ∧ EnvT W))
  have LA := hideL (fun (W : World) (hb : Below w.heap.size w W) => awakeA_any W (LT.out W hb))
  have HX : HidL (QBox (w.alloc (rawC s (.slice ha hn hc) (.slice ba bn bc))) w.heap.size s (.slice ha hn hc) (.slice ba bn bc)) := ⟨heap_alloc_new w _⟩
  have HB1 := hideL ((Below.refl w.heap.size w).alloc (Nat.le_refl _) (rawC s (.slice ha hn hc) (.slice ba bn bc)))
  have LL := along_any 0 ha hn hc ba bn bc x.heads _ (hr.2.1.below HB1.out)
  obtain ⟨vo, vc, rfl⟩ := gv.len
  have x0 := HX.out.c0
  have x1 := HX.out.c1
  have x2 := HX.out.c2
  rw [hlg] at LL
  have LL := hideL LL
  have i1 : ¬ (2000 : Int) < (s.size : Int) := by omega
  have i1d : decide ((2000 : Int) < (s.size : Int)) = false := decide_eq_false i1
  have i2 : ¬ (8000 : Int) < (b.length : Int) := by omega
  have i2d : decide ((8000 : Int) < (b.length : Int)) = false := decide_eq_false i2
  obtain ⟨hl2, hl3⟩ := lngA_no hlg
  have hl4 := (longP_no hl3).1
  have hfi := longP_fits hl3
  have hbn : bn = x.body.length := hr.2.2.le.1
  have LO := fun (W : World) (hb : Below w.heap.size w W) => aof_any s ha hn hc ba bn bc x W (hr.below hb) hfi (by omega) (by omega) (by omega) (LT.out W hb)
  have LR := fun (W : World) (hb : Below w.heap.size w W) => arof_any s ha hn hc ba bn bc x W (hr.below hb) hfi (by omega) (by omega) (by omega)
  have HL1 := ofA_heads (x := x) (by omega)
  unfold AOfPost at LO
  unfold AROfPost at LR
  simp only [ho, Option.isSome_none, Option.getD_none, Bool.false_eq_true, ↓reduceIte] at LO LR HL1
  have LO := hideL LO
  have LR := hideL LR
  have HL1 := hideL HL1
  have LP := fun (W : World) (hb : Below w.heap.size w W) => aone_any (.slice vo b.length vc) b W (gv.below hb) (by omega) (LT.out W hb)
  have LQ := fun (W : World) (hb : Below w.heap.size w W) => arone_any vo vc b.length b rfl W (gv.below hb) (by omega)
  have HL2 := oneA_heads b
  unfold AOnePost at LP
  unfold AROnePost at LQ
  obtain ⟨⟨k, q⟩, hq⟩ : ∃ z, oneAP b = z := ⟨_, rfl⟩
  rw [hq] at LP LQ HL2
  simp only at LP LQ HL2
  obtain ⟨p, hp⟩ : ∃ z, q.getD an0 = z := ⟨_, rfl⟩
  rw [hp] at LP LQ HL2
  obtain ⟨n, hn0⟩ : ∃ n, b.length = n := ⟨_, rfl⟩
  rw [hn0] at i2 i2d LP LQ ⊢
  have LP := hideL LP
  have LQ := hideL LQ
  have HL2 := hideL HL2
  clear hr gv ht hlg h2 h8 ho hl2 hl3 hl4 hfi hbn hq hp hn0
  go_enter Tryz.func7, Tryz.ntmps7
  go_wp2_with (first
    | (go_at_call 23; (with_reducible refine (LL.out).mono ?_); rintro e w2 ⟨rfl, hB⟩
       have hz3 := hB
       clear x0 x1 x2
       have HX := hideL (HX.out.next hz3)
       have x0 := HX.out.c0
       have x1 := HX.out.c1
       have x2 := HX.out.c2
       have HB2 := hideL (HB1.out.trans (hz3.mono HB1.out.size))
       clear hB hz3)
    | (go_at_call 33; (with_reducible refine (LO.out _ HB2.out).mono ?_); rintro e w3 ⟨⟨c1, ha1, hn1, hc1, ba1, bn1, bc1, rfl, hreq, _⟩, hB⟩
       have hz2 := (Below.refl w3.heap.size w3).alloc (Nat.le_refl _) (anC c1 (.slice ha1 hn1 hc1) (.slice ba1 bn1 bc1))
       have hz3 := hB.trans (hz2.mono hB.size)
       clear x0 x1 x2
       have HX := hideL (HX.out.next hz3)
       have x0 := HX.out.c0
       have x1 := HX.out.c1
       have x2 := HX.out.c2
       have HY := hideL (ABox.new w3 c1 (.slice ha1 hn1 hc1) (.slice ba1 bn1 bc1))
       have u0 := HY.out.c0
       have u1 := HY.out.c1
       have u2 := HY.out.c2
       have HB3 := hideL (HB2.out.trans (hz3.mono HB2.out.size))
       have HR1 := hideL (hreq.below hz2)
       clear hreq
       clear hB hz3 hz2)
    | (go_at_call 34; (with_reducible refine (LR.out _ HB3.out).mono ?_); rintro e w4 ⟨⟨c2, ha2, hn2, hc2, ba2, bn2, bc2, rfl, hreq, _⟩, hB⟩
       have hz2 := (Below.refl w4.heap.size w4).alloc (Nat.le_refl _) (anC c2 (.slice ha2 hn2 hc2) (.slice ba2 bn2 bc2))
       have hz3 := hB.trans (hz2.mono hB.size)
       clear x0 x1 x2
       have HX := hideL (HX.out.next hz3)
       have x0 := HX.out.c0
       have x1 := HX.out.c1
       have x2 := HX.out.c2
       clear u0 u1 u2
       have HY := hideL (HY.out.next hz3)
       have u0 := HY.out.c0
       have u1 := HY.out.c1
       have u2 := HY.out.c2
       have HZ := hideL (ABox.new w4 c2 (.slice ha2 hn2 hc2) (.slice ba2 bn2 bc2))
       have v0 := HZ.out.c0
       have v1 := HZ.out.c1
       have v2 := HZ.out.c2
       have HB4 := hideL (HB3.out.trans (hz3.mono HB3.out.size))
       have LS1 := hideL (rsameA c1 c2 ha1 hn1 hc1 ba1 bn1 bc1 ha2 hn2 hc2 ba2 bn2 bc2 an0 an0 _ (HR1.out.below hz3) (hreq.below hz2) HL1.out)
       clear hreq HR1
       clear hB hz3 hz2)
    | (go_at_call 30; (with_reducible refine (LS1.out).mono ?_); rintro e w5 ⟨⟨zz, rfl, hzz⟩, hB⟩
       have hz3 := hB
       clear x0 x1 x2
       have HX := hideL (HX.out.next hz3)
       have x0 := HX.out.c0
       have x1 := HX.out.c1
       have x2 := HX.out.c2
       clear u0 u1 u2
       have HY := hideL (HY.out.next hz3)
       have u0 := HY.out.c0
       have u1 := HY.out.c1
       have u2 := HY.out.c2
       clear v0 v1 v2
       have HZ := hideL (HZ.out.next hz3)
       have v0 := HZ.out.c0
       have v1 := HZ.out.c1
       have v2 := HZ.out.c2
       have HB5 := hideL (HB4.out.trans (hz3.mono HB4.out.size))
       obtain rfl : zz = true := hzz.2 (by trivial)
       clear hzz LS1
       clear hB hz3)
    | (go_at_call 35; (with_reducible refine (LP.out _ HB5.out).mono ?_); rintro e w6 ⟨⟨c3, ha3, hn3, hc3, ba3, bn3, bc3, rfl, hreq⟩, hB⟩
       have hz2 := (Below.refl w6.heap.size w6).alloc (Nat.le_refl _) (anC c3 (.slice ha3 hn3 hc3) (.slice ba3 bn3 bc3))
       have hz3 := hB.trans (hz2.mono hB.size)
       have HV := hideL (ABox.new w6 c3 (.slice ha3 hn3 hc3) (.slice ba3 bn3 bc3))
       have p0 := HV.out.c0
       have p1 := HV.out.c1
       have p2 := HV.out.c2
       have HB6 := hideL (HB5.out.trans (hz3.mono HB5.out.size))
       have HR3 := hideL (hreq.below hz2)
       clear hreq
       clear hB hz3 hz2)
    | (go_at_call 36; (with_reducible refine (LQ.out _ HB6.out).mono ?_); rintro e w7 ⟨⟨c4, ha4, hn4, hc4, ba4, bn4, bc4, rfl, hreq⟩, hB⟩
       have hz2 := (Below.refl w7.heap.size w7).alloc (Nat.le_refl _) (anC c4 (.slice ha4 hn4 hc4) (.slice ba4 bn4 bc4))
       have hz3 := hB.trans (hz2.mono hB.size)
       clear p0 p1 p2
       have HV := hideL (HV.out.next hz3)
       have p0 := HV.out.c0
       have p1 := HV.out.c1
       have p2 := HV.out.c2
       have HW := hideL (ABox.new w7 c4 (.slice ha4 hn4 hc4) (.slice ba4 bn4 bc4))
       have q0 := HW.out.c0
       have q1 := HW.out.c1
       have q2 := HW.out.c2
       have HB7 := hideL (HB6.out.trans (hz3.mono HB6.out.size))
       have LS2 := hideL (rsameA c3 c4 ha3 hn3 hc3 ba3 bn3 bc3 ha4 hn4 hc4 ba4 bn4 bc4 p p _ (HR3.out.below hz3) (hreq.below hz2) HL2.out)
       clear hreq HR3
       clear hB hz3 hz2)
    | (go_at_call 30; (with_reducible refine (LS2.out).mono ?_); rintro e w8 ⟨⟨zz, rfl, hzz⟩, hB⟩
       have hz3 := hB
       clear p0 p1 p2
       have HV := hideL (HV.out.next hz3)
       have p0 := HV.out.c0
       have p1 := HV.out.c1
       have p2 := HV.out.c2
       clear q0 q1 q2
       have HW := hideL (HW.out.next hz3)
       have q0 := HW.out.c0
       have q1 := HW.out.c1
       have q2 := HW.out.c2
       have HB8 := hideL (HB7.out.trans (hz3.mono HB7.out.size))
       obtain rfl : zz = true := hzz.2 (by trivial)
       clear hzz LS2
       clear hB hz3)
    | (go_at_call 24; (with_reducible refine (LA.out _ HB8.out).mono ?_); rintro e w9 ⟨rfl, hB⟩
       have hz3 := hB
       clear p0 p1 p2
       have HV := hideL (HV.out.next hz3)
       have p0 := HV.out.c0
       have p1 := HV.out.c1
       have p2 := HV.out.c2
       clear q0 q1 q2
       have HW := hideL (HW.out.next hz3)
       have q0 := HW.out.c0
       have q1 := HW.out.c1
       have q2 := HW.out.c2
       have HB9 := hideL (HB8.out.trans (hz3.mono HB8.out.size))
       clear hB hz3))
  go_ret
  exact ⟨rfl, HB9.out⟩
theorem aofl_walk (r : RV) (v : Value) (b : List UInt8) (w : World) (hr : RawOk w r) (gv : GAt KB w v b) (ht : (Env w ∧ EnvS w) ∧ EnvT w) :
    Calls Tryz.prog 7 #[.agg (RV.cells r).toArray, v] w fun e w' => e = .returned (.bool true) ∧ Below w.heap.size w w' := by
  obtain ⟨x, hx, _⟩ := hr
  obtain ⟨s, ⟨ha, hn, hc⟩, ⟨ba, bn, bc⟩⟩ := r
  show Calls Tryz.prog 7 #[.agg #[.string s, .slice ha hn hc, .slice ba bn bc], v] w _
  cases hlg : lngA bn x.heads with
  | true => exact aofl_1 s ha hn hc ba bn bc x v b w hx gv ht hlg
  | false =>
    by_cases h2 : 2000 < s.size
    · exact aofl_2 s ha hn hc ba bn bc x v b w hx gv ht hlg h2
    by_cases h8 : 8000 < b.length
    · exact aofl_3 s ha hn hc ba bn bc x v b w hx gv ht hlg h2 h8
    cases ho : ofAP x with
    | some y => exact aofl_4 s ha hn hc ba bn bc x v b w hx gv ht hlg h2 h8 y ho
    | none => exact aofl_5 s ha hn hc ba bn bc x v b w hx gv ht hlg h2 h8 ho
end Go.Proofs.YtafmgoekgijfgaaGreatDoor
