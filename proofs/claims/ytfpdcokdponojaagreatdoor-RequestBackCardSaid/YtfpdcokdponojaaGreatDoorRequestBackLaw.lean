/- RequestBack: a request's bytes are read as it; of what any bytes are read as, the bytes are read as that, too. -/
import Derived.Test.YtfpdcokdponojaaGreatDoorRqMayP
import Derived.Test.YtfpdcokdponojaaGreatDoorRqLong
import Derived.Test.YtfpdcokdponojaaGreatDoorRqAwake
import Derived.Test.YtfpdcokdponojaaGreatDoorRqArgZ
namespace Go.Proofs.YtfpdcokdponojaaGreatDoor
open Go.RowKit Go.Lib

theorem req_size {W : World} {m t p q o : ByteArray} {h b : Sl} {y : Rq} (h1 : ReqAt W ⟨m, t, p, q, o, h, b⟩ y) (h2 : mayR y) : m.size + t.size ≤ 900000 := by
  have hw := (wrtB_parts (may_wrt h2)).1.2
  have e : (rawP y).start.length = y.method.length + y.target.length + 10 := sta_len _ _
  rw [e, ← h1.1, ← h1.2.1] at hw
  have e1 := size_list m
  have e2 := size_list t
  simp only at hw
  omega
set_option maxRecDepth 100000 in
set_option maxHeartbeats 4000000 in
theorem back_long (m t p q o : ByteArray) (ha : Option Addr) (hn hc : Nat) (ba : Option Addr) (bn bc : Nat) (x : Rq) (v : Value) (b : List UInt8) (w : World) (hreq : ReqAt w ⟨m, t, p, q, o, ⟨ha, hn, hc⟩, ⟨ba, bn, bc⟩⟩ x) (hmt : m.size ≤ reachBytes ∧ t.size ≤ reachBytes) (gv : GAt KB w v b) (ht : (Env w ∧ EnvS w) ∧ EnvT w) (hlg : lngP (m.size + t.size) bn x.heads = true) :
    Calls Tryz.prog 9 #[.agg #[.string m, .string t, .string p, .string q, .string o, .slice ha hn hc, .slice ba bn bc], v] w fun e w' => e = .returned (.bool true) ∧ Below w.heap.size w w' := by
  have LA := hideL (fun (W : World) (hb : Below w.heap.size w W) => awake_any W (ht.1.1.next hb) (ht.1.2.next hb))
  have HX := hideL (rq_box w m t p q o (.slice ha hn hc) (.slice ba bn bc))
  have HB1 := hideL ((Below.refl w.heap.size w).alloc (Nat.le_refl _) (rqQ m t p q o (.slice ha hn hc) (.slice ba bn bc)))
  have hsa : (m ++ t).size = m.size + t.size := ByteArray.size_append
  have LL := rlong_any (m ++ t) ha hn hc ba bn bc x.heads _ (hreq.2.2.2.2.2.1.below HB1.out)
  rw [hsa] at LL
  have n1 := max_two hmt.1 hmt.2
  obtain ⟨vo, vc, rfl⟩ := gv.len
  have x0 := HX.out.c0
  have x1 := HX.out.c1
  have x2 := HX.out.c2
  have x3 := HX.out.c3
  have x4 := HX.out.c4
  have x5 := HX.out.c5
  have x6 := HX.out.c6
  rw [hlg] at LL
  have LL := hideL LL
  generalize b.length = n at *
  clear hreq hmt gv ht hsa hlg
  go_enter Tryz.func9, Tryz.ntmps9
  go_wp2_with (first
    | (go_at_call 21; (with_reducible refine (LL.out).mono ?_); rintro e w2 ⟨rfl, hB⟩
       have hz3 := hB
       have HX := hideL (HX.out.next hz3)
       have x0 := HX.out.c0
       have x1 := HX.out.c1
       have x2 := HX.out.c2
       have x3 := HX.out.c3
       have x4 := HX.out.c4
       have x5 := HX.out.c5
       have x6 := HX.out.c6
       have HB2 := hideL (HB1.out.trans (hz3.mono HB1.out.size))
       clear hB hz3)
    | (go_at_call 12; (with_reducible refine (LA.out _ HB2.out).mono ?_); rintro e w3 ⟨rfl, hB⟩
       have hz3 := hB
       have HX := hideL (HX.out.next hz3)
       have x0 := HX.out.c0
       have x1 := HX.out.c1
       have x2 := HX.out.c2
       have x3 := HX.out.c3
       have x4 := HX.out.c4
       have x5 := HX.out.c5
       have x6 := HX.out.c6
       have HB3 := hideL (HB2.out.trans (hz3.mono HB2.out.size))
       clear hB hz3))
  go_ret
  exact ⟨rfl, HB3.out⟩
set_option maxRecDepth 100000 in
set_option maxHeartbeats 4000000 in
theorem back_many (m t p q o : ByteArray) (ha : Option Addr) (hn hc : Nat) (ba : Option Addr) (bn bc : Nat) (x : Rq) (v : Value) (b : List UInt8) (w : World) (hreq : ReqAt w ⟨m, t, p, q, o, ⟨ha, hn, hc⟩, ⟨ba, bn, bc⟩⟩ x) (hmt : m.size ≤ reachBytes ∧ t.size ≤ reachBytes) (gv : GAt KB w v b) (ht : (Env w ∧ EnvS w) ∧ EnvT w) (hlg : lngP (m.size + t.size) bn x.heads = false) (h8 : 8000 < b.length) :
    Calls Tryz.prog 9 #[.agg #[.string m, .string t, .string p, .string q, .string o, .slice ha hn hc, .slice ba bn bc], v] w fun e w' => e = .returned (.bool true) ∧ Below w.heap.size w w' := by
  have LA := hideL (fun (W : World) (hb : Below w.heap.size w W) => awake_any W (ht.1.1.next hb) (ht.1.2.next hb))
  have HX := hideL (rq_box w m t p q o (.slice ha hn hc) (.slice ba bn bc))
  have HB1 := hideL ((Below.refl w.heap.size w).alloc (Nat.le_refl _) (rqQ m t p q o (.slice ha hn hc) (.slice ba bn bc)))
  have hsa : (m ++ t).size = m.size + t.size := ByteArray.size_append
  have LL := rlong_any (m ++ t) ha hn hc ba bn bc x.heads _ (hreq.2.2.2.2.2.1.below HB1.out)
  rw [hsa] at LL
  have n1 := max_two hmt.1 hmt.2
  obtain ⟨vo, vc, rfl⟩ := gv.len
  have x0 := HX.out.c0
  have x1 := HX.out.c1
  have x2 := HX.out.c2
  have x3 := HX.out.c3
  have x4 := HX.out.c4
  have x5 := HX.out.c5
  have x6 := HX.out.c6
  rw [hlg] at LL
  have LL := hideL LL
  have i1 : (8000 : Int) < (b.length : Int) := by omega
  generalize b.length = n at *
  clear hreq hmt gv ht hsa hlg h8
  go_enter Tryz.func9, Tryz.ntmps9
  go_wp2_with (first
    | (go_at_call 21; (with_reducible refine (LL.out).mono ?_); rintro e w2 ⟨rfl, hB⟩
       have hz3 := hB
       have HX := hideL (HX.out.next hz3)
       have x0 := HX.out.c0
       have x1 := HX.out.c1
       have x2 := HX.out.c2
       have x3 := HX.out.c3
       have x4 := HX.out.c4
       have x5 := HX.out.c5
       have x6 := HX.out.c6
       have HB2 := hideL (HB1.out.trans (hz3.mono HB1.out.size))
       clear hB hz3)
    | (go_at_call 12; (with_reducible refine (LA.out _ HB2.out).mono ?_); rintro e w3 ⟨rfl, hB⟩
       have hz3 := hB
       have HX := hideL (HX.out.next hz3)
       have x0 := HX.out.c0
       have x1 := HX.out.c1
       have x2 := HX.out.c2
       have x3 := HX.out.c3
       have x4 := HX.out.c4
       have x5 := HX.out.c5
       have x6 := HX.out.c6
       have HB3 := hideL (HB2.out.trans (hz3.mono HB2.out.size))
       clear hB hz3))
  go_ret
  exact ⟨rfl, HB3.out⟩
set_option maxRecDepth 100000 in
set_option maxHeartbeats 4000000 in
theorem back_00 (m t p q o : ByteArray) (ha : Option Addr) (hn hc : Nat) (ba : Option Addr) (bn bc : Nat) (x : Rq) (v : Value) (b : List UInt8) (w : World) (hreq : ReqAt w ⟨m, t, p, q, o, ⟨ha, hn, hc⟩, ⟨ba, bn, bc⟩⟩ x) (hmt : m.size ≤ reachBytes ∧ t.size ≤ reachBytes) (gv : GAt KB w v b) (ht : (Env w ∧ EnvS w) ∧ EnvT w) (hlg : lngP (m.size + t.size) bn x.heads = false) (h8 : ¬ 8000 < b.length) (hm : ¬ mayR x) (k : Nat) (hk : k ≠ 0) (ho : oneP b = (k, none)) :
    Calls Tryz.prog 9 #[.agg #[.string m, .string t, .string p, .string q, .string o, .slice ha hn hc, .slice ba bn bc], v] w fun e w' => e = .returned (.bool true) ∧ Below w.heap.size w w' := by
  have LA := hideL (fun (W : World) (hb : Below w.heap.size w W) => awake_any W (ht.1.1.next hb) (ht.1.2.next hb))
  have HX := hideL (rq_box w m t p q o (.slice ha hn hc) (.slice ba bn bc))
  have HB1 := hideL ((Below.refl w.heap.size w).alloc (Nat.le_refl _) (rqQ m t p q o (.slice ha hn hc) (.slice ba bn bc)))
  have hsa : (m ++ t).size = m.size + t.size := ByteArray.size_append
  have LL := rlong_any (m ++ t) ha hn hc ba bn bc x.heads _ (hreq.2.2.2.2.2.1.below HB1.out)
  rw [hsa] at LL
  have n1 := max_two hmt.1 hmt.2
  obtain ⟨vo, vc, rfl⟩ := gv.len
  have x0 := HX.out.c0
  have x1 := HX.out.c1
  have x2 := HX.out.c2
  have x3 := HX.out.c3
  have x4 := HX.out.c4
  have x5 := HX.out.c5
  have x6 := HX.out.c6
  rw [hlg] at LL
  have LL := hideL LL
  have i1 : ¬ (8000 : Int) < (b.length : Int) := by omega
  obtain ⟨hl1, hl2, hl3⟩ := lngP_no hlg
  have hbn : bn = x.body.length := hreq.2.2.2.2.2.2.le.1
  have hl4 := (longP_no hl3).1
  have hsz : m.size + t.size ≤ 900000 := by omega
  have hEn := fun (W : World) (hb : Below w.heap.size w W) => ht.1.1.next hb
  have hSn := fun (W : World) (hb : Below w.heap.size w W) => ht.1.2.next hb
  have hTn := fun (W : World) (hb : Below w.heap.size w W) => ht.2.next hb
  have LB := hideL (fun (W : World) (hb : Below w.heap.size w W) => bytes_badC hm m t p q o ha hn hc ba bn bc W (hreq.below hb) (longP_fits hl3) hsz (by omega) (by omega) (hEn W hb) (hSn W hb))
  have ik : ((k : Int) != 0) = true := by rw [bne_iff_ne]; omega
  have L2 := hideL (fun (W : World) (hb : Below w.heap.size w W) => one_badC ho (.slice vo b.length vc) W (gv.below hb) (by omega) (hEn W hb) (hSn W hb))
  generalize b.length = n at *
  clear hreq hmt gv ht hsa hlg h8 hm hl1 hl2 hl3 hl4 hbn hsz hEn hSn hTn ho hk
  go_enter Tryz.func9, Tryz.ntmps9
  go_wp2_with (first
    | (go_at_call 21; (with_reducible refine (LL.out).mono ?_); rintro e w2 ⟨rfl, hB⟩
       have hz3 := hB
       have HX := hideL (HX.out.next hz3)
       have x0 := HX.out.c0
       have x1 := HX.out.c1
       have x2 := HX.out.c2
       have x3 := HX.out.c3
       have x4 := HX.out.c4
       have x5 := HX.out.c5
       have x6 := HX.out.c6
       have HB2 := hideL (HB1.out.trans (hz3.mono HB1.out.size))
       clear hB hz3)
    | (go_at_call 31; (with_reducible refine (LB.out _ HB2.out).mono ?_); rintro e w3 ⟨rfl, hB⟩
       have hz3 := hB
       have HX := hideL (HX.out.next hz3)
       have x0 := HX.out.c0
       have x1 := HX.out.c1
       have x2 := HX.out.c2
       have x3 := HX.out.c3
       have x4 := HX.out.c4
       have x5 := HX.out.c5
       have x6 := HX.out.c6
       have HB3 := hideL (HB2.out.trans (hz3.mono HB2.out.size))
       clear hB hz3)
    | (go_at_call 18; (with_reducible refine (L2.out _ HB3.out).mono ?_); rintro e w4 ⟨rfl, hB⟩
       have hz2 := (Below.refl w4.heap.size w4).alloc (Nat.le_refl _) (rqQ ⟨#[]⟩ ⟨#[]⟩ ⟨#[]⟩ ⟨#[]⟩ ⟨#[]⟩ (.slice none 0 0) (.slice none 0 0))
       have hz3 := hB.trans (hz2.mono hB.size)
       have HB4 := hideL (HB3.out.trans (hz3.mono HB3.out.size))
       clear hB hz3 hz2)
    | (go_at_call 12; (with_reducible refine (LA.out _ HB4.out).mono ?_); rintro e w5 ⟨rfl, hB⟩
       have hz3 := hB
       have HB5 := hideL (HB4.out.trans (hz3.mono HB4.out.size))
       clear hB hz3))
  go_ret
  exact ⟨rfl, HB5.out⟩
set_option maxRecDepth 100000 in
set_option maxHeartbeats 4000000 in
theorem back_01 (m t p q o : ByteArray) (ha : Option Addr) (hn hc : Nat) (ba : Option Addr) (bn bc : Nat) (x : Rq) (v : Value) (b : List UInt8) (w : World) (hreq : ReqAt w ⟨m, t, p, q, o, ⟨ha, hn, hc⟩, ⟨ba, bn, bc⟩⟩ x) (hmt : m.size ≤ reachBytes ∧ t.size ≤ reachBytes) (gv : GAt KB w v b) (ht : (Env w ∧ EnvS w) ∧ EnvT w) (hlg : lngP (m.size + t.size) bn x.heads = false) (h8 : ¬ 8000 < b.length) (hm : ¬ mayR x) (y : Rq) (ho : oneP b = (0, some y)) :
    Calls Tryz.prog 9 #[.agg #[.string m, .string t, .string p, .string q, .string o, .slice ha hn hc, .slice ba bn bc], v] w fun e w' => e = .returned (.bool true) ∧ Below w.heap.size w w' := by
  have LA := hideL (fun (W : World) (hb : Below w.heap.size w W) => awake_any W (ht.1.1.next hb) (ht.1.2.next hb))
  have HX := hideL (rq_box w m t p q o (.slice ha hn hc) (.slice ba bn bc))
  have HB1 := hideL ((Below.refl w.heap.size w).alloc (Nat.le_refl _) (rqQ m t p q o (.slice ha hn hc) (.slice ba bn bc)))
  have hsa : (m ++ t).size = m.size + t.size := ByteArray.size_append
  have LL := rlong_any (m ++ t) ha hn hc ba bn bc x.heads _ (hreq.2.2.2.2.2.1.below HB1.out)
  rw [hsa] at LL
  have n1 := max_two hmt.1 hmt.2
  obtain ⟨vo, vc, rfl⟩ := gv.len
  have x0 := HX.out.c0
  have x1 := HX.out.c1
  have x2 := HX.out.c2
  have x3 := HX.out.c3
  have x4 := HX.out.c4
  have x5 := HX.out.c5
  have x6 := HX.out.c6
  rw [hlg] at LL
  have LL := hideL LL
  have i1 : ¬ (8000 : Int) < (b.length : Int) := by omega
  obtain ⟨hl1, hl2, hl3⟩ := lngP_no hlg
  have hbn : bn = x.body.length := hreq.2.2.2.2.2.2.le.1
  have hl4 := (longP_no hl3).1
  have hsz : m.size + t.size ≤ 900000 := by omega
  have hEn := fun (W : World) (hb : Below w.heap.size w W) => ht.1.1.next hb
  have hSn := fun (W : World) (hb : Below w.heap.size w W) => ht.1.2.next hb
  have hTn := fun (W : World) (hb : Below w.heap.size w W) => ht.2.next hb
  have LB := hideL (fun (W : World) (hb : Below w.heap.size w W) => bytes_badC hm m t p q o ha hn hc ba bn bc W (hreq.below hb) (longP_fits hl3) hsz (by omega) (by omega) (hEn W hb) (hSn W hb))
  have hmy := one_may ho
  have hyl := mayH_len (fit_may hmy.2).1
  have hyb := (fit_may hmy.2).2.1
  have L2 := hideL (fun (W : World) (hb : Below w.heap.size w W) => one_okC ho (.slice vo b.length vc) W (gv.below hb) (by omega) (hEn W hb) (hSn W hb))
  have hyw := may_len hmy
  have LB2 := hideL (fun (m t p q o : ByteArray) (ha : Option Addr) (hn hc : Nat) (ba : Option Addr) (bn bc : Nat) (W : World) (hr : ReqAt W ⟨m, t, p, q, o, ⟨ha, hn, hc⟩, ⟨ba, bn, bc⟩⟩ y) (hb : Below w.heap.size w W) => bytes_okC hmy m t p q o ha hn hc ba bn bc W hr (req_size hr hmy) (hEn W hb) (hSn W hb) (hTn W hb))
  have L3 := hideL (fun (r : Sl) (W : World) (hb : Below w.heap.size w W) (g : GAt KB W r.v (wrtP (rawP y))) => one_okC (one_bytes hmy) r.v W g (by omega) (hEn W hb) (hSn W hb))
  have LM := hideL (fun (m t p q o : ByteArray) (ha : Option Addr) (hn hc : Nat) (ba : Option Addr) (bn bc : Nat) (W : World) (hr : ReqAt W ⟨m, t, p, q, o, ⟨ha, hn, hc⟩, ⟨ba, bn, bc⟩⟩ y) (hb : Below w.heap.size w W) => may_any m t p q o ha hn hc ba bn bc y W hr (good_fits (fit_may hmy.2).1) (req_size hr hmy) (by omega) (by omega) (hEn W hb) (hSn W hb))
  have HMY := hideL hmy
  have HLY := hideL (show y.heads.length ≤ 1000 by omega)
  generalize b.length = n at *
  clear hreq hmt gv ht hsa hlg h8 hm hl1 hl2 hl3 hl4 hbn hsz hEn hSn hTn ho hmy hyl hyb hyw
  go_enter Tryz.func9, Tryz.ntmps9
  go_wp2_with (first
    | (go_at_call 21; (with_reducible refine (LL.out).mono ?_); rintro e w2 ⟨rfl, hB⟩
       have hz3 := hB
       have HX := hideL (HX.out.next hz3)
       have x0 := HX.out.c0
       have x1 := HX.out.c1
       have x2 := HX.out.c2
       have x3 := HX.out.c3
       have x4 := HX.out.c4
       have x5 := HX.out.c5
       have x6 := HX.out.c6
       have HB2 := hideL (HB1.out.trans (hz3.mono HB1.out.size))
       clear hB hz3)
    | (go_at_call 31; (with_reducible refine (LB.out _ HB2.out).mono ?_); rintro e w3 ⟨rfl, hB⟩
       have hz3 := hB
       have HX := hideL (HX.out.next hz3)
       have x0 := HX.out.c0
       have x1 := HX.out.c1
       have x2 := HX.out.c2
       have x3 := HX.out.c3
       have x4 := HX.out.c4
       have x5 := HX.out.c5
       have x6 := HX.out.c6
       have HB3 := hideL (HB2.out.trans (hz3.mono HB2.out.size))
       clear hB hz3)
    | (go_at_call 18; (with_reducible refine (L2.out _ HB3.out).mono ?_); rintro e w4 ⟨⟨m2, t2, p2, q2, o2, ha2, hn2, hc2, ba2, bn2, bc2, rfl, hreq, _⟩, hB⟩
       have hz2 := (Below.refl w4.heap.size w4).alloc (Nat.le_refl _) (rqQ m2 t2 p2 q2 o2 (.slice ha2 hn2 hc2) (.slice ba2 bn2 bc2))
       have hz3 := hB.trans (hz2.mono hB.size)
       have HY := hideL (rq_box w4 m2 t2 p2 q2 o2 (.slice ha2 hn2 hc2) (.slice ba2 bn2 bc2))
       have u0 := HY.out.c0
       have u1 := HY.out.c1
       have u2 := HY.out.c2
       have u3 := HY.out.c3
       have u4 := HY.out.c4
       have u5 := HY.out.c5
       have u6 := HY.out.c6
       have HB4 := hideL (HB3.out.trans (hz3.mono HB3.out.size))
       have HRY := hideL (hreq.below hz2)
       have LBY := hideL (LB2.out m2 t2 p2 q2 o2 ha2 hn2 hc2 ba2 bn2 bc2 _ HRY.out HB4.out)
       clear hreq
       clear hB hz3 hz2)
    | (go_at_call 31; (with_reducible refine (LBY.out).mono ?_); rintro e w5 ⟨⟨r2, rfl, hbr⟩, hB⟩
       have hz3 := hB
       have HY := hideL (HY.out.next hz3)
       have u0 := HY.out.c0
       have u1 := HY.out.c1
       have u2 := HY.out.c2
       have u3 := HY.out.c3
       have u4 := HY.out.c4
       have u5 := HY.out.c5
       have u6 := HY.out.c6
       have HB5 := hideL (HB4.out.trans (hz3.mono HB4.out.size))
       have HRY := hideL (HRY.out.below hz3)
       have LO3 := hideL (L3.out r2 _ HB5.out hbr.gAt)
       clear hbr LBY
       clear hB hz3)
    | (go_at_call 18; (with_reducible refine (LO3.out).mono ?_); rintro e w6 ⟨⟨m3, t3, p3, q3, o3, ha3, hn3, hc3, ba3, bn3, bc3, rfl, hreq, _⟩, hB⟩
       have hz2 := (Below.refl w6.heap.size w6).alloc (Nat.le_refl _) (rqQ m3 t3 p3 q3 o3 (.slice ha3 hn3 hc3) (.slice ba3 bn3 bc3))
       have hz3 := hB.trans (hz2.mono hB.size)
       have HY := hideL (HY.out.next hz3)
       have u0 := HY.out.c0
       have u1 := HY.out.c1
       have u2 := HY.out.c2
       have u3 := HY.out.c3
       have u4 := HY.out.c4
       have u5 := HY.out.c5
       have u6 := HY.out.c6
       have HZ := hideL (rq_box w6 m3 t3 p3 q3 o3 (.slice ha3 hn3 hc3) (.slice ba3 bn3 bc3))
       have v0 := HZ.out.c0
       have v1 := HZ.out.c1
       have v2 := HZ.out.c2
       have v3 := HZ.out.c3
       have v4 := HZ.out.c4
       have v5 := HZ.out.c5
       have v6 := HZ.out.c6
       have HB6 := hideL (HB5.out.trans (hz3.mono HB5.out.size))
       have HRY := hideL (HRY.out.below hz3)
       have HRZ := hideL (hreq.below hz2)
       have LMY := hideL (LM.out m2 t2 p2 q2 o2 ha2 hn2 hc2 ba2 bn2 bc2 _ HRY.out HB6.out)
       clear hreq LO3
       clear hB hz3 hz2)
    | (go_at_call 27; (with_reducible refine (LMY.out).mono ?_); rintro e w7 ⟨⟨zz, rfl, hzz⟩, hB⟩
       have hz3 := hB
       have HY := hideL (HY.out.next hz3)
       have u0 := HY.out.c0
       have u1 := HY.out.c1
       have u2 := HY.out.c2
       have u3 := HY.out.c3
       have u4 := HY.out.c4
       have u5 := HY.out.c5
       have u6 := HY.out.c6
       have HZ := hideL (HZ.out.next hz3)
       have v0 := HZ.out.c0
       have v1 := HZ.out.c1
       have v2 := HZ.out.c2
       have v3 := HZ.out.c3
       have v4 := HZ.out.c4
       have v5 := HZ.out.c5
       have v6 := HZ.out.c6
       have HB7 := hideL (HB6.out.trans (hz3.mono HB6.out.size))
       obtain rfl : zz = true := hzz.2 HMY.out
       have LS2 := hideL (sameRqC m2 t2 p2 q2 o2 m3 t3 p3 q3 o3 ha2 hn2 hc2 ba2 bn2 bc2 ha3 hn3 hc3 ba3 bn3 bc3 y y _ (HRY.out.below hz3) (HRZ.out.below hz3) HLY.out)
       clear hzz LMY
       clear hB hz3)
    | (go_at_call 20; (with_reducible refine (LS2.out).mono ?_); rintro e w8 ⟨⟨zz, rfl, hzz⟩, hB⟩
       have hz3 := hB
       have HY := hideL (HY.out.next hz3)
       have u0 := HY.out.c0
       have u1 := HY.out.c1
       have u2 := HY.out.c2
       have u3 := HY.out.c3
       have u4 := HY.out.c4
       have u5 := HY.out.c5
       have u6 := HY.out.c6
       have HZ := hideL (HZ.out.next hz3)
       have v0 := HZ.out.c0
       have v1 := HZ.out.c1
       have v2 := HZ.out.c2
       have v3 := HZ.out.c3
       have v4 := HZ.out.c4
       have v5 := HZ.out.c5
       have v6 := HZ.out.c6
       have HB8 := hideL (HB7.out.trans (hz3.mono HB7.out.size))
       obtain rfl : zz = true := hzz.2 (by trivial)
       clear hzz LS2
       clear hB hz3)
    | (go_at_call 12; (with_reducible refine (LA.out _ HB8.out).mono ?_); rintro e w9 ⟨rfl, hB⟩
       have hz3 := hB
       have HY := hideL (HY.out.next hz3)
       have u0 := HY.out.c0
       have u1 := HY.out.c1
       have u2 := HY.out.c2
       have u3 := HY.out.c3
       have u4 := HY.out.c4
       have u5 := HY.out.c5
       have u6 := HY.out.c6
       have HZ := hideL (HZ.out.next hz3)
       have v0 := HZ.out.c0
       have v1 := HZ.out.c1
       have v2 := HZ.out.c2
       have v3 := HZ.out.c3
       have v4 := HZ.out.c4
       have v5 := HZ.out.c5
       have v6 := HZ.out.c6
       have HB9 := hideL (HB8.out.trans (hz3.mono HB8.out.size))
       clear hB hz3))
  go_ret
  exact ⟨rfl, HB9.out⟩
set_option maxRecDepth 100000 in
set_option maxHeartbeats 4000000 in
theorem back_10 (m t p q o : ByteArray) (ha : Option Addr) (hn hc : Nat) (ba : Option Addr) (bn bc : Nat) (x : Rq) (v : Value) (b : List UInt8) (w : World) (hreq : ReqAt w ⟨m, t, p, q, o, ⟨ha, hn, hc⟩, ⟨ba, bn, bc⟩⟩ x) (hmt : m.size ≤ reachBytes ∧ t.size ≤ reachBytes) (gv : GAt KB w v b) (ht : (Env w ∧ EnvS w) ∧ EnvT w) (hlg : lngP (m.size + t.size) bn x.heads = false) (h8 : ¬ 8000 < b.length) (hm : mayR x) (k : Nat) (hk : k ≠ 0) (ho : oneP b = (k, none)) :
    Calls Tryz.prog 9 #[.agg #[.string m, .string t, .string p, .string q, .string o, .slice ha hn hc, .slice ba bn bc], v] w fun e w' => e = .returned (.bool true) ∧ Below w.heap.size w w' := by
  have LA := hideL (fun (W : World) (hb : Below w.heap.size w W) => awake_any W (ht.1.1.next hb) (ht.1.2.next hb))
  have HX := hideL (rq_box w m t p q o (.slice ha hn hc) (.slice ba bn bc))
  have HB1 := hideL ((Below.refl w.heap.size w).alloc (Nat.le_refl _) (rqQ m t p q o (.slice ha hn hc) (.slice ba bn bc)))
  have hsa : (m ++ t).size = m.size + t.size := ByteArray.size_append
  have LL := rlong_any (m ++ t) ha hn hc ba bn bc x.heads _ (hreq.2.2.2.2.2.1.below HB1.out)
  rw [hsa] at LL
  have n1 := max_two hmt.1 hmt.2
  obtain ⟨vo, vc, rfl⟩ := gv.len
  have x0 := HX.out.c0
  have x1 := HX.out.c1
  have x2 := HX.out.c2
  have x3 := HX.out.c3
  have x4 := HX.out.c4
  have x5 := HX.out.c5
  have x6 := HX.out.c6
  rw [hlg] at LL
  have LL := hideL LL
  have i1 : ¬ (8000 : Int) < (b.length : Int) := by omega
  obtain ⟨hl1, hl2, hl3⟩ := lngP_no hlg
  have hbn : bn = x.body.length := hreq.2.2.2.2.2.2.le.1
  have hl4 := (longP_no hl3).1
  have hsz : m.size + t.size ≤ 900000 := by omega
  have hEn := fun (W : World) (hb : Below w.heap.size w W) => ht.1.1.next hb
  have hSn := fun (W : World) (hb : Below w.heap.size w W) => ht.1.2.next hb
  have hTn := fun (W : World) (hb : Below w.heap.size w W) => ht.2.next hb
  have LB := hideL (fun (W : World) (hb : Below w.heap.size w W) => bytes_okC hm m t p q o ha hn hc ba bn bc W (hreq.below hb) hsz (hEn W hb) (hSn W hb) (hTn W hb))
  have hwl := may_len hm
  have L1 := hideL (fun (r : Sl) (W : World) (hb : Below w.heap.size w W) (g : GAt KB W r.v (wrtP (rawP x))) => one_okC (one_bytes hm) r.v W g (by omega) (hEn W hb) (hSn W hb))
  have HRX := hideL (fun (W : World) (hb : Below w.heap.size w W) => hreq.below hb)
  have HL := hideL (show x.heads.length ≤ 1000 by omega)
  have ik : ((k : Int) != 0) = true := by rw [bne_iff_ne]; omega
  have L2 := hideL (fun (W : World) (hb : Below w.heap.size w W) => one_badC ho (.slice vo b.length vc) W (gv.below hb) (by omega) (hEn W hb) (hSn W hb))
  generalize b.length = n at *
  clear hreq hmt gv ht hsa hlg h8 hm hl1 hl2 hl3 hl4 hbn hsz hEn hSn hTn ho hwl hk
  go_enter Tryz.func9, Tryz.ntmps9
  go_wp2_with (first
    | (go_at_call 21; (with_reducible refine (LL.out).mono ?_); rintro e w2 ⟨rfl, hB⟩
       have hz3 := hB
       have HX := hideL (HX.out.next hz3)
       have x0 := HX.out.c0
       have x1 := HX.out.c1
       have x2 := HX.out.c2
       have x3 := HX.out.c3
       have x4 := HX.out.c4
       have x5 := HX.out.c5
       have x6 := HX.out.c6
       have HB2 := hideL (HB1.out.trans (hz3.mono HB1.out.size))
       clear hB hz3)
    | (go_at_call 31; (with_reducible refine (LB.out _ HB2.out).mono ?_); rintro e w3 ⟨⟨r1, rfl, hbr⟩, hB⟩
       have hz3 := hB
       have HX := hideL (HX.out.next hz3)
       have x0 := HX.out.c0
       have x1 := HX.out.c1
       have x2 := HX.out.c2
       have x3 := HX.out.c3
       have x4 := HX.out.c4
       have x5 := HX.out.c5
       have x6 := HX.out.c6
       have HB3 := hideL (HB2.out.trans (hz3.mono HB2.out.size))
       have LO1 := hideL (L1.out r1 _ HB3.out hbr.gAt)
       clear hbr
       clear hB hz3)
    | (go_at_call 18; (with_reducible refine (LO1.out).mono ?_); rintro e w4 ⟨⟨m1, t1, p1, q1, o1, ha1, hn1, hc1, ba1, bn1, bc1, rfl, hreq, _⟩, hB⟩
       have hz2 := (Below.refl w4.heap.size w4).alloc (Nat.le_refl _) (rqQ m1 t1 p1 q1 o1 (.slice ha1 hn1 hc1) (.slice ba1 bn1 bc1))
       have hz3 := hB.trans (hz2.mono hB.size)
       have HX := hideL (HX.out.next hz3)
       have x0 := HX.out.c0
       have x1 := HX.out.c1
       have x2 := HX.out.c2
       have x3 := HX.out.c3
       have x4 := HX.out.c4
       have x5 := HX.out.c5
       have x6 := HX.out.c6
       have HQ1 := hideL (rq_box w4 m1 t1 p1 q1 o1 (.slice ha1 hn1 hc1) (.slice ba1 bn1 bc1))
       have y0 := HQ1.out.c0
       have y1 := HQ1.out.c1
       have y2 := HQ1.out.c2
       have y3 := HQ1.out.c3
       have y4 := HQ1.out.c4
       have y5 := HQ1.out.c5
       have y6 := HQ1.out.c6
       have HB4 := hideL (HB3.out.trans (hz3.mono HB3.out.size))
       have LS1 := hideL (sameRqC m1 t1 p1 q1 o1 m t p q o ha1 hn1 hc1 ba1 bn1 bc1 ha hn hc ba bn bc x x _ (hreq.below hz2) (HRX.out _ HB4.out) HL.out)
       clear hreq LO1
       clear hB hz3 hz2)
    | (go_at_call 20; (with_reducible refine (LS1.out).mono ?_); rintro e w5 ⟨⟨zz, rfl, hzz⟩, hB⟩
       have hz3 := hB
       have HX := hideL (HX.out.next hz3)
       have x0 := HX.out.c0
       have x1 := HX.out.c1
       have x2 := HX.out.c2
       have x3 := HX.out.c3
       have x4 := HX.out.c4
       have x5 := HX.out.c5
       have x6 := HX.out.c6
       have HQ1 := hideL (HQ1.out.next hz3)
       have y0 := HQ1.out.c0
       have y1 := HQ1.out.c1
       have y2 := HQ1.out.c2
       have y3 := HQ1.out.c3
       have y4 := HQ1.out.c4
       have y5 := HQ1.out.c5
       have y6 := HQ1.out.c6
       have HB5 := hideL (HB4.out.trans (hz3.mono HB4.out.size))
       obtain rfl : zz = true := hzz.2 (by trivial)
       clear hzz LS1
       clear hB hz3)
    | (go_at_call 18; (with_reducible refine (L2.out _ HB5.out).mono ?_); rintro e w6 ⟨rfl, hB⟩
       have hz2 := (Below.refl w6.heap.size w6).alloc (Nat.le_refl _) (rqQ ⟨#[]⟩ ⟨#[]⟩ ⟨#[]⟩ ⟨#[]⟩ ⟨#[]⟩ (.slice none 0 0) (.slice none 0 0))
       have hz3 := hB.trans (hz2.mono hB.size)
       have HB6 := hideL (HB5.out.trans (hz3.mono HB5.out.size))
       clear hB hz3 hz2)
    | (go_at_call 12; (with_reducible refine (LA.out _ HB6.out).mono ?_); rintro e w7 ⟨rfl, hB⟩
       have hz3 := hB
       have HB7 := hideL (HB6.out.trans (hz3.mono HB6.out.size))
       clear hB hz3))
  go_ret
  exact ⟨rfl, HB7.out⟩
set_option maxRecDepth 100000 in
set_option maxHeartbeats 4000000 in
theorem back_11 (m t p q o : ByteArray) (ha : Option Addr) (hn hc : Nat) (ba : Option Addr) (bn bc : Nat) (x : Rq) (v : Value) (b : List UInt8) (w : World) (hreq : ReqAt w ⟨m, t, p, q, o, ⟨ha, hn, hc⟩, ⟨ba, bn, bc⟩⟩ x) (hmt : m.size ≤ reachBytes ∧ t.size ≤ reachBytes) (gv : GAt KB w v b) (ht : (Env w ∧ EnvS w) ∧ EnvT w) (hlg : lngP (m.size + t.size) bn x.heads = false) (h8 : ¬ 8000 < b.length) (hm : mayR x) (y : Rq) (ho : oneP b = (0, some y)) :
    Calls Tryz.prog 9 #[.agg #[.string m, .string t, .string p, .string q, .string o, .slice ha hn hc, .slice ba bn bc], v] w fun e w' => e = .returned (.bool true) ∧ Below w.heap.size w w' := by
  have LA := hideL (fun (W : World) (hb : Below w.heap.size w W) => awake_any W (ht.1.1.next hb) (ht.1.2.next hb))
  have HX := hideL (rq_box w m t p q o (.slice ha hn hc) (.slice ba bn bc))
  have HB1 := hideL ((Below.refl w.heap.size w).alloc (Nat.le_refl _) (rqQ m t p q o (.slice ha hn hc) (.slice ba bn bc)))
  have hsa : (m ++ t).size = m.size + t.size := ByteArray.size_append
  have LL := rlong_any (m ++ t) ha hn hc ba bn bc x.heads _ (hreq.2.2.2.2.2.1.below HB1.out)
  rw [hsa] at LL
  have n1 := max_two hmt.1 hmt.2
  obtain ⟨vo, vc, rfl⟩ := gv.len
  have x0 := HX.out.c0
  have x1 := HX.out.c1
  have x2 := HX.out.c2
  have x3 := HX.out.c3
  have x4 := HX.out.c4
  have x5 := HX.out.c5
  have x6 := HX.out.c6
  rw [hlg] at LL
  have LL := hideL LL
  have i1 : ¬ (8000 : Int) < (b.length : Int) := by omega
  obtain ⟨hl1, hl2, hl3⟩ := lngP_no hlg
  have hbn : bn = x.body.length := hreq.2.2.2.2.2.2.le.1
  have hl4 := (longP_no hl3).1
  have hsz : m.size + t.size ≤ 900000 := by omega
  have hEn := fun (W : World) (hb : Below w.heap.size w W) => ht.1.1.next hb
  have hSn := fun (W : World) (hb : Below w.heap.size w W) => ht.1.2.next hb
  have hTn := fun (W : World) (hb : Below w.heap.size w W) => ht.2.next hb
  have LB := hideL (fun (W : World) (hb : Below w.heap.size w W) => bytes_okC hm m t p q o ha hn hc ba bn bc W (hreq.below hb) hsz (hEn W hb) (hSn W hb) (hTn W hb))
  have hwl := may_len hm
  have L1 := hideL (fun (r : Sl) (W : World) (hb : Below w.heap.size w W) (g : GAt KB W r.v (wrtP (rawP x))) => one_okC (one_bytes hm) r.v W g (by omega) (hEn W hb) (hSn W hb))
  have HRX := hideL (fun (W : World) (hb : Below w.heap.size w W) => hreq.below hb)
  have HL := hideL (show x.heads.length ≤ 1000 by omega)
  have hmy := one_may ho
  have hyl := mayH_len (fit_may hmy.2).1
  have hyb := (fit_may hmy.2).2.1
  have L2 := hideL (fun (W : World) (hb : Below w.heap.size w W) => one_okC ho (.slice vo b.length vc) W (gv.below hb) (by omega) (hEn W hb) (hSn W hb))
  have hyw := may_len hmy
  have LB2 := hideL (fun (m t p q o : ByteArray) (ha : Option Addr) (hn hc : Nat) (ba : Option Addr) (bn bc : Nat) (W : World) (hr : ReqAt W ⟨m, t, p, q, o, ⟨ha, hn, hc⟩, ⟨ba, bn, bc⟩⟩ y) (hb : Below w.heap.size w W) => bytes_okC hmy m t p q o ha hn hc ba bn bc W hr (req_size hr hmy) (hEn W hb) (hSn W hb) (hTn W hb))
  have L3 := hideL (fun (r : Sl) (W : World) (hb : Below w.heap.size w W) (g : GAt KB W r.v (wrtP (rawP y))) => one_okC (one_bytes hmy) r.v W g (by omega) (hEn W hb) (hSn W hb))
  have LM := hideL (fun (m t p q o : ByteArray) (ha : Option Addr) (hn hc : Nat) (ba : Option Addr) (bn bc : Nat) (W : World) (hr : ReqAt W ⟨m, t, p, q, o, ⟨ha, hn, hc⟩, ⟨ba, bn, bc⟩⟩ y) (hb : Below w.heap.size w W) => may_any m t p q o ha hn hc ba bn bc y W hr (good_fits (fit_may hmy.2).1) (req_size hr hmy) (by omega) (by omega) (hEn W hb) (hSn W hb))
  have HMY := hideL hmy
  have HLY := hideL (show y.heads.length ≤ 1000 by omega)
  generalize b.length = n at *
  clear hreq hmt gv ht hsa hlg h8 hm hl1 hl2 hl3 hl4 hbn hsz hEn hSn hTn ho hwl hmy hyl hyb hyw
  go_enter Tryz.func9, Tryz.ntmps9
  go_wp2_with (first
    | (go_at_call 21; (with_reducible refine (LL.out).mono ?_); rintro e w2 ⟨rfl, hB⟩
       have hz3 := hB
       have HX := hideL (HX.out.next hz3)
       have x0 := HX.out.c0
       have x1 := HX.out.c1
       have x2 := HX.out.c2
       have x3 := HX.out.c3
       have x4 := HX.out.c4
       have x5 := HX.out.c5
       have x6 := HX.out.c6
       have HB2 := hideL (HB1.out.trans (hz3.mono HB1.out.size))
       clear hB hz3)
    | (go_at_call 31; (with_reducible refine (LB.out _ HB2.out).mono ?_); rintro e w3 ⟨⟨r1, rfl, hbr⟩, hB⟩
       have hz3 := hB
       have HX := hideL (HX.out.next hz3)
       have x0 := HX.out.c0
       have x1 := HX.out.c1
       have x2 := HX.out.c2
       have x3 := HX.out.c3
       have x4 := HX.out.c4
       have x5 := HX.out.c5
       have x6 := HX.out.c6
       have HB3 := hideL (HB2.out.trans (hz3.mono HB2.out.size))
       have LO1 := hideL (L1.out r1 _ HB3.out hbr.gAt)
       clear hbr
       clear hB hz3)
    | (go_at_call 18; (with_reducible refine (LO1.out).mono ?_); rintro e w4 ⟨⟨m1, t1, p1, q1, o1, ha1, hn1, hc1, ba1, bn1, bc1, rfl, hreq, _⟩, hB⟩
       have hz2 := (Below.refl w4.heap.size w4).alloc (Nat.le_refl _) (rqQ m1 t1 p1 q1 o1 (.slice ha1 hn1 hc1) (.slice ba1 bn1 bc1))
       have hz3 := hB.trans (hz2.mono hB.size)
       have HX := hideL (HX.out.next hz3)
       have x0 := HX.out.c0
       have x1 := HX.out.c1
       have x2 := HX.out.c2
       have x3 := HX.out.c3
       have x4 := HX.out.c4
       have x5 := HX.out.c5
       have x6 := HX.out.c6
       have HQ1 := hideL (rq_box w4 m1 t1 p1 q1 o1 (.slice ha1 hn1 hc1) (.slice ba1 bn1 bc1))
       have y0 := HQ1.out.c0
       have y1 := HQ1.out.c1
       have y2 := HQ1.out.c2
       have y3 := HQ1.out.c3
       have y4 := HQ1.out.c4
       have y5 := HQ1.out.c5
       have y6 := HQ1.out.c6
       have HB4 := hideL (HB3.out.trans (hz3.mono HB3.out.size))
       have LS1 := hideL (sameRqC m1 t1 p1 q1 o1 m t p q o ha1 hn1 hc1 ba1 bn1 bc1 ha hn hc ba bn bc x x _ (hreq.below hz2) (HRX.out _ HB4.out) HL.out)
       clear hreq LO1
       clear hB hz3 hz2)
    | (go_at_call 20; (with_reducible refine (LS1.out).mono ?_); rintro e w5 ⟨⟨zz, rfl, hzz⟩, hB⟩
       have hz3 := hB
       have HX := hideL (HX.out.next hz3)
       have x0 := HX.out.c0
       have x1 := HX.out.c1
       have x2 := HX.out.c2
       have x3 := HX.out.c3
       have x4 := HX.out.c4
       have x5 := HX.out.c5
       have x6 := HX.out.c6
       have HQ1 := hideL (HQ1.out.next hz3)
       have y0 := HQ1.out.c0
       have y1 := HQ1.out.c1
       have y2 := HQ1.out.c2
       have y3 := HQ1.out.c3
       have y4 := HQ1.out.c4
       have y5 := HQ1.out.c5
       have y6 := HQ1.out.c6
       have HB5 := hideL (HB4.out.trans (hz3.mono HB4.out.size))
       obtain rfl : zz = true := hzz.2 (by trivial)
       clear hzz LS1
       clear hB hz3)
    | (go_at_call 18; (with_reducible refine (L2.out _ HB5.out).mono ?_); rintro e w6 ⟨⟨m2, t2, p2, q2, o2, ha2, hn2, hc2, ba2, bn2, bc2, rfl, hreq, _⟩, hB⟩
       have hz2 := (Below.refl w6.heap.size w6).alloc (Nat.le_refl _) (rqQ m2 t2 p2 q2 o2 (.slice ha2 hn2 hc2) (.slice ba2 bn2 bc2))
       have hz3 := hB.trans (hz2.mono hB.size)
       have HY := hideL (rq_box w6 m2 t2 p2 q2 o2 (.slice ha2 hn2 hc2) (.slice ba2 bn2 bc2))
       have u0 := HY.out.c0
       have u1 := HY.out.c1
       have u2 := HY.out.c2
       have u3 := HY.out.c3
       have u4 := HY.out.c4
       have u5 := HY.out.c5
       have u6 := HY.out.c6
       have HB6 := hideL (HB5.out.trans (hz3.mono HB5.out.size))
       have HRY := hideL (hreq.below hz2)
       have LBY := hideL (LB2.out m2 t2 p2 q2 o2 ha2 hn2 hc2 ba2 bn2 bc2 _ HRY.out HB6.out)
       clear hreq
       clear hB hz3 hz2)
    | (go_at_call 31; (with_reducible refine (LBY.out).mono ?_); rintro e w7 ⟨⟨r2, rfl, hbr⟩, hB⟩
       have hz3 := hB
       have HY := hideL (HY.out.next hz3)
       have u0 := HY.out.c0
       have u1 := HY.out.c1
       have u2 := HY.out.c2
       have u3 := HY.out.c3
       have u4 := HY.out.c4
       have u5 := HY.out.c5
       have u6 := HY.out.c6
       have HB7 := hideL (HB6.out.trans (hz3.mono HB6.out.size))
       have HRY := hideL (HRY.out.below hz3)
       have LO3 := hideL (L3.out r2 _ HB7.out hbr.gAt)
       clear hbr LBY
       clear hB hz3)
    | (go_at_call 18; (with_reducible refine (LO3.out).mono ?_); rintro e w8 ⟨⟨m3, t3, p3, q3, o3, ha3, hn3, hc3, ba3, bn3, bc3, rfl, hreq, _⟩, hB⟩
       have hz2 := (Below.refl w8.heap.size w8).alloc (Nat.le_refl _) (rqQ m3 t3 p3 q3 o3 (.slice ha3 hn3 hc3) (.slice ba3 bn3 bc3))
       have hz3 := hB.trans (hz2.mono hB.size)
       have HY := hideL (HY.out.next hz3)
       have u0 := HY.out.c0
       have u1 := HY.out.c1
       have u2 := HY.out.c2
       have u3 := HY.out.c3
       have u4 := HY.out.c4
       have u5 := HY.out.c5
       have u6 := HY.out.c6
       have HZ := hideL (rq_box w8 m3 t3 p3 q3 o3 (.slice ha3 hn3 hc3) (.slice ba3 bn3 bc3))
       have v0 := HZ.out.c0
       have v1 := HZ.out.c1
       have v2 := HZ.out.c2
       have v3 := HZ.out.c3
       have v4 := HZ.out.c4
       have v5 := HZ.out.c5
       have v6 := HZ.out.c6
       have HB8 := hideL (HB7.out.trans (hz3.mono HB7.out.size))
       have HRY := hideL (HRY.out.below hz3)
       have HRZ := hideL (hreq.below hz2)
       have LMY := hideL (LM.out m2 t2 p2 q2 o2 ha2 hn2 hc2 ba2 bn2 bc2 _ HRY.out HB8.out)
       clear hreq LO3
       clear hB hz3 hz2)
    | (go_at_call 27; (with_reducible refine (LMY.out).mono ?_); rintro e w9 ⟨⟨zz, rfl, hzz⟩, hB⟩
       have hz3 := hB
       have HY := hideL (HY.out.next hz3)
       have u0 := HY.out.c0
       have u1 := HY.out.c1
       have u2 := HY.out.c2
       have u3 := HY.out.c3
       have u4 := HY.out.c4
       have u5 := HY.out.c5
       have u6 := HY.out.c6
       have HZ := hideL (HZ.out.next hz3)
       have v0 := HZ.out.c0
       have v1 := HZ.out.c1
       have v2 := HZ.out.c2
       have v3 := HZ.out.c3
       have v4 := HZ.out.c4
       have v5 := HZ.out.c5
       have v6 := HZ.out.c6
       have HB9 := hideL (HB8.out.trans (hz3.mono HB8.out.size))
       obtain rfl : zz = true := hzz.2 HMY.out
       have LS2 := hideL (sameRqC m2 t2 p2 q2 o2 m3 t3 p3 q3 o3 ha2 hn2 hc2 ba2 bn2 bc2 ha3 hn3 hc3 ba3 bn3 bc3 y y _ (HRY.out.below hz3) (HRZ.out.below hz3) HLY.out)
       clear hzz LMY
       clear hB hz3)
    | (go_at_call 20; (with_reducible refine (LS2.out).mono ?_); rintro e w10 ⟨⟨zz, rfl, hzz⟩, hB⟩
       have hz3 := hB
       have HY := hideL (HY.out.next hz3)
       have u0 := HY.out.c0
       have u1 := HY.out.c1
       have u2 := HY.out.c2
       have u3 := HY.out.c3
       have u4 := HY.out.c4
       have u5 := HY.out.c5
       have u6 := HY.out.c6
       have HZ := hideL (HZ.out.next hz3)
       have v0 := HZ.out.c0
       have v1 := HZ.out.c1
       have v2 := HZ.out.c2
       have v3 := HZ.out.c3
       have v4 := HZ.out.c4
       have v5 := HZ.out.c5
       have v6 := HZ.out.c6
       have HB10 := hideL (HB9.out.trans (hz3.mono HB9.out.size))
       obtain rfl : zz = true := hzz.2 (by trivial)
       clear hzz LS2
       clear hB hz3)
    | (go_at_call 12; (with_reducible refine (LA.out _ HB10.out).mono ?_); rintro e w11 ⟨rfl, hB⟩
       have hz3 := hB
       have HY := hideL (HY.out.next hz3)
       have u0 := HY.out.c0
       have u1 := HY.out.c1
       have u2 := HY.out.c2
       have u3 := HY.out.c3
       have u4 := HY.out.c4
       have u5 := HY.out.c5
       have u6 := HY.out.c6
       have HZ := hideL (HZ.out.next hz3)
       have v0 := HZ.out.c0
       have v1 := HZ.out.c1
       have v2 := HZ.out.c2
       have v3 := HZ.out.c3
       have v4 := HZ.out.c4
       have v5 := HZ.out.c5
       have v6 := HZ.out.c6
       have HB11 := hideL (HB10.out.trans (hz3.mono HB10.out.size))
       clear hB hz3))
  go_ret
  exact ⟨rfl, HB11.out⟩
theorem back_walk (c : QV) (v : Value) (b : List UInt8) (w : World) (hc : ReqOk w c) (hz : RqSz c) (gv : GAt KB w v b) (ht : (Env w ∧ EnvS w) ∧ EnvT w) :
    Calls Tryz.prog 9 #[c.v, v] w fun e w' => e = .returned (.bool true) ∧ Below w.heap.size w w' := by
  obtain ⟨m, t, p, q, o, ⟨ha, hn, hc'⟩, ⟨ba, bn, bc⟩⟩ := c
  obtain ⟨x, hreq, _, _, _⟩ := hc
  obtain ⟨h1, h2⟩ := hz
  cases hlg : lngP (m.size + t.size) bn x.heads with
  | true => exact back_long m t p q o ha hn hc' ba bn bc x v b w hreq ⟨h1, h2⟩ gv ht hlg
  | false =>
    by_cases h8 : 8000 < b.length
    · exact back_many m t p q o ha hn hc' ba bn bc x v b w hreq ⟨h1, h2⟩ gv ht hlg h8
    by_cases hm : mayR x
    · rcases one_shape b with ⟨y, ho⟩ | ⟨k, hk, ho⟩
      · exact back_11 m t p q o ha hn hc' ba bn bc x v b w hreq ⟨h1, h2⟩ gv ht hlg h8 hm y ho
      · exact back_10 m t p q o ha hn hc' ba bn bc x v b w hreq ⟨h1, h2⟩ gv ht hlg h8 hm k hk ho
    · rcases one_shape b with ⟨y, ho⟩ | ⟨k, hk, ho⟩
      · exact back_01 m t p q o ha hn hc' ba bn bc x v b w hreq ⟨h1, h2⟩ gv ht hlg h8 hm y ho
      · exact back_00 m t p q o ha hn hc' ba bn bc x v b w hreq ⟨h1, h2⟩ gv ht hlg h8 hm k hk ho
end Go.Proofs.YtfpdcokdponojaaGreatDoor
