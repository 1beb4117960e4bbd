/- RequestMay: whether any request may be, its bytes; whether two are the same; whether a text may be a host. -/
import Derived.Test.YtafmgoekgijfgaaGreatDoorYRqM2
import Derived.Test.YtafmgoekgijfgaaGreatDoorYRequestOfLaw
import Derived.Test.YtafmgoekgijfgaaGreatDoorYRqM7
import Derived.Test.YtafmgoekgijfgaaGreatDoorYRqMB
namespace Go.Proofs.YtafmgoekgijfgaaGreatDoor
open Go.RowKit Go.Lib

set_option maxRecDepth 100000 in
set_option maxHeartbeats 4000000 in
theorem rmay_1 (m1 t1 p1 q1 o1 : ByteArray) (ha1 : Option Addr) (hn1 hc1 : Nat) (ba1 : Option Addr) (bn1 bc1 : Nat) (m2 t2 p2 q2 o2 : ByteArray) (ha2 : Option Addr) (hn2 hc2 : Nat) (ba2 : Option Addr) (bn2 bc2 : Nat) (s : ByteArray) (x y : Rq) (w0 : World) (h1 : ReqAt w0 ⟨m1, t1, p1, q1, o1, ⟨ha1, hn1, hc1⟩, ⟨ba1, bn1, bc1⟩⟩ x) (h2 : ReqAt w0 ⟨m2, t2, p2, q2, o2, ⟨ha2, hn2, hc2⟩, ⟨ba2, bn2, bc2⟩⟩ y) (z1 : m1.size ≤ reachBytes ∧ t1.size ≤ reachBytes) (z2 : m2.size ≤ reachBytes ∧ t2.size ≤ reachBytes) (ht : (Env w0 ∧ EnvS w0) ∧ EnvT w0) (g1 : lngP (m1.size + t1.size) bn1 x.heads = true) :
   Calls Tryz.prog 5 #[.agg #[.string m1, .string t1, .string p1, .string q1, .string o1, .slice ha1 hn1 hc1, .slice ba1 bn1 bc1], .agg #[.string m2, .string t2, .string p2, .string q2, .string o2, .slice ha2 hn2 hc2, .slice ba2 bn2 bc2], .string s] w0 fun e w' => e = .returned (.bool true) ∧ Below w0.heap.size w0 w' := by
 have LA := hideL (fun (W : World) (hb : Below w0.heap.size w0 W) => awake_any W (ht.1.1.next hb) (ht.1.2.next hb))
 have hb1 := (Below.refl w0.heap.size w0).alloc (Nat.le_refl _) (rqQ m1 t1 p1 q1 o1 (.slice ha1 hn1 hc1) (.slice ba1 bn1 bc1))
 have hX := (rq_box w0 m1 t1 p1 q1 o1 (.slice ha1 hn1 hc1) (.slice ba1 bn1 bc1)).next ((Below.refl _ _).alloc (Nat.le_refl _) (rqQ m2 t2 p2 q2 o2 (.slice ha2 hn2 hc2) (.slice ba2 bn2 bc2)))
 have hY := rq_box (w0.alloc (rqQ m1 t1 p1 q1 o1 (.slice ha1 hn1 hc1) (.slice ba1 bn1 bc1))) m2 t2 p2 q2 o2 (.slice ha2 hn2 hc2) (.slice ba2 bn2 bc2)
 rw [World.size_alloc] at hY
 have hb2 := (Below.refl (w0.alloc (rqQ m1 t1 p1 q1 o1 (.slice ha1 hn1 hc1) (.slice ba1 bn1 bc1))).heap.size (w0.alloc (rqQ m1 t1 p1 q1 o1 (.slice ha1 hn1 hc1) (.slice ba1 bn1 bc1)))).alloc (Nat.le_refl _) (rqQ m2 t2 p2 q2 o2 (.slice ha2 hn2 hc2) (.slice ba2 bn2 bc2))
 have HX := hideL hX
 have HY := hideL hY
 have HB1 := hideL (hb1.trans (hb2.mono hb1.size))
 have hs1 : (m1 ++ t1).size = m1.size + t1.size := ByteArray.size_append
 have hs2 : (m2 ++ t2).size = m2.size + t2.size := ByteArray.size_append
 have LL1 := fun (W : World) (hb : Below w0.heap.size w0 W) => rlong_any (m1 ++ t1) ha1 hn1 hc1 ba1 bn1 bc1 x.heads W (h1.2.2.2.2.2.1.below hb)
 have LL2 := fun (W : World) (hb : Below w0.heap.size w0 W) => rlong_any (m2 ++ t2) ha2 hn2 hc2 ba2 bn2 bc2 y.heads W (h2.2.2.2.2.2.1.below hb)
 rw [hs1] at LL1
 rw [hs2] at LL2
 have n1 := max_two z1.1 z1.2
 have n2 := max_two z2.1 z2.2
 have x0 := HX.out.c0
 have x1 := HX.out.c1
 have x2 := HX.out.c2
 have x3 := HX.out.c3
 have x4 := HX.out.c4
 have x5 := HX.out.c5
 have x6 := HX.out.c6
 have y0 := HY.out.c0
 have y1 := HY.out.c1
 have y2 := HY.out.c2
 have y3 := HY.out.c3
 have y4 := HY.out.c4
 have y5 := HY.out.c5
 have y6 := HY.out.c6
 rw [g1] at LL1
 have LL1 := hideL LL1
 clear h1 h2 z1 z2 ht hs1 hs2 hb1 hb2 hX hY g1 LL2
 go_enter Tryz.func5, Tryz.ntmps5
 go_wp2_with (first
   | (go_at_call 12; (with_reducible refine (LL1.out _ HB1.out).mono ?_); rintro e w2 ⟨rfl, hB⟩
      clear x0 x1 x2 x3 x4 x5 x6 y0 y1 y2 y3 y4 y5 y6
      have HX := hideL (HX.out.next hB)
      have HY := hideL (HY.out.next hB)
      have x0 := HX.out.c0
      have x1 := HX.out.c1
      have x2 := HX.out.c2
      have x3 := HX.out.c3
      have x4 := HX.out.c4
      have x5 := HX.out.c5
      have x6 := HX.out.c6
      have y0 := HY.out.c0
      have y1 := HY.out.c1
      have y2 := HY.out.c2
      have y3 := HY.out.c3
      have y4 := HY.out.c4
      have y5 := HY.out.c5
      have y6 := HY.out.c6
      have HB2 := hideL (HB1.out.trans (hB.mono HB1.out.size))
      clear hB)
   | (go_at_call 8; (with_reducible refine (LA.out _ HB2.out).mono ?_); rintro e w99 ⟨rfl, hB⟩
      have HB99 := hideL (HB2.out.trans (hB.mono HB2.out.size))
      clear hB))
 go_ret
 exact ⟨rfl, HB99.out⟩
set_option maxRecDepth 100000 in
set_option maxHeartbeats 4000000 in
theorem rmay_2 (m1 t1 p1 q1 o1 : ByteArray) (ha1 : Option Addr) (hn1 hc1 : Nat) (ba1 : Option Addr) (bn1 bc1 : Nat) (m2 t2 p2 q2 o2 : ByteArray) (ha2 : Option Addr) (hn2 hc2 : Nat) (ba2 : Option Addr) (bn2 bc2 : Nat) (s : ByteArray) (x y : Rq) (w0 : World) (h1 : ReqAt w0 ⟨m1, t1, p1, q1, o1, ⟨ha1, hn1, hc1⟩, ⟨ba1, bn1, bc1⟩⟩ x) (h2 : ReqAt w0 ⟨m2, t2, p2, q2, o2, ⟨ha2, hn2, hc2⟩, ⟨ba2, bn2, bc2⟩⟩ y) (z1 : m1.size ≤ reachBytes ∧ t1.size ≤ reachBytes) (z2 : m2.size ≤ reachBytes ∧ t2.size ≤ reachBytes) (ht : (Env w0 ∧ EnvS w0) ∧ EnvT w0) (g1 : lngP (m1.size + t1.size) bn1 x.heads = false) (g2 : lngP (m2.size + t2.size) bn2 y.heads = true) :
   Calls Tryz.prog 5 #[.agg #[.string m1, .string t1, .string p1, .string q1, .string o1, .slice ha1 hn1 hc1, .slice ba1 bn1 bc1], .agg #[.string m2, .string t2, .string p2, .string q2, .string o2, .slice ha2 hn2 hc2, .slice ba2 bn2 bc2], .string s] w0 fun e w' => e = .returned (.bool true) ∧ Below w0.heap.size w0 w' := by
 have LA := hideL (fun (W : World) (hb : Below w0.heap.size w0 W) => awake_any W (ht.1.1.next hb) (ht.1.2.next hb))
 have hb1 := (Below.refl w0.heap.size w0).alloc (Nat.le_refl _) (rqQ m1 t1 p1 q1 o1 (.slice ha1 hn1 hc1) (.slice ba1 bn1 bc1))
 have hX := (rq_box w0 m1 t1 p1 q1 o1 (.slice ha1 hn1 hc1) (.slice ba1 bn1 bc1)).next ((Below.refl _ _).alloc (Nat.le_refl _) (rqQ m2 t2 p2 q2 o2 (.slice ha2 hn2 hc2) (.slice ba2 bn2 bc2)))
 have hY := rq_box (w0.alloc (rqQ m1 t1 p1 q1 o1 (.slice ha1 hn1 hc1) (.slice ba1 bn1 bc1))) m2 t2 p2 q2 o2 (.slice ha2 hn2 hc2) (.slice ba2 bn2 bc2)
 rw [World.size_alloc] at hY
 have hb2 := (Below.refl (w0.alloc (rqQ m1 t1 p1 q1 o1 (.slice ha1 hn1 hc1) (.slice ba1 bn1 bc1))).heap.size (w0.alloc (rqQ m1 t1 p1 q1 o1 (.slice ha1 hn1 hc1) (.slice ba1 bn1 bc1)))).alloc (Nat.le_refl _) (rqQ m2 t2 p2 q2 o2 (.slice ha2 hn2 hc2) (.slice ba2 bn2 bc2))
 have HX := hideL hX
 have HY := hideL hY
 have HB1 := hideL (hb1.trans (hb2.mono hb1.size))
 have hs1 : (m1 ++ t1).size = m1.size + t1.size := ByteArray.size_append
 have hs2 : (m2 ++ t2).size = m2.size + t2.size := ByteArray.size_append
 have LL1 := fun (W : World) (hb : Below w0.heap.size w0 W) => rlong_any (m1 ++ t1) ha1 hn1 hc1 ba1 bn1 bc1 x.heads W (h1.2.2.2.2.2.1.below hb)
 have LL2 := fun (W : World) (hb : Below w0.heap.size w0 W) => rlong_any (m2 ++ t2) ha2 hn2 hc2 ba2 bn2 bc2 y.heads W (h2.2.2.2.2.2.1.below hb)
 rw [hs1] at LL1
 rw [hs2] at LL2
 have n1 := max_two z1.1 z1.2
 have n2 := max_two z2.1 z2.2
 have x0 := HX.out.c0
 have x1 := HX.out.c1
 have x2 := HX.out.c2
 have x3 := HX.out.c3
 have x4 := HX.out.c4
 have x5 := HX.out.c5
 have x6 := HX.out.c6
 have y0 := HY.out.c0
 have y1 := HY.out.c1
 have y2 := HY.out.c2
 have y3 := HY.out.c3
 have y4 := HY.out.c4
 have y5 := HY.out.c5
 have y6 := HY.out.c6
 rw [g1] at LL1
 rw [g2] at LL2
 have LL1 := hideL LL1
 have LL2 := hideL LL2
 clear h1 h2 z1 z2 ht hs1 hs2 hb1 hb2 hX hY g1 g2
 go_enter Tryz.func5, Tryz.ntmps5
 go_wp2_with (first
   | (go_at_call 12; (with_reducible refine (LL1.out _ HB1.out).mono ?_); rintro e w2 ⟨rfl, hB⟩
      clear x0 x1 x2 x3 x4 x5 x6 y0 y1 y2 y3 y4 y5 y6
      have HX := hideL (HX.out.next hB)
      have HY := hideL (HY.out.next hB)
      have x0 := HX.out.c0
      have x1 := HX.out.c1
      have x2 := HX.out.c2
      have x3 := HX.out.c3
      have x4 := HX.out.c4
      have x5 := HX.out.c5
      have x6 := HX.out.c6
      have y0 := HY.out.c0
      have y1 := HY.out.c1
      have y2 := HY.out.c2
      have y3 := HY.out.c3
      have y4 := HY.out.c4
      have y5 := HY.out.c5
      have y6 := HY.out.c6
      have HB2 := hideL (HB1.out.trans (hB.mono HB1.out.size))
      clear hB)
   | (go_at_call 12; (with_reducible refine (LL2.out _ HB2.out).mono ?_); rintro e w3 ⟨rfl, hB⟩
      clear x0 x1 x2 x3 x4 x5 x6 y0 y1 y2 y3 y4 y5 y6
      have HX := hideL (HX.out.next hB)
      have HY := hideL (HY.out.next hB)
      have x0 := HX.out.c0
      have x1 := HX.out.c1
      have x2 := HX.out.c2
      have x3 := HX.out.c3
      have x4 := HX.out.c4
      have x5 := HX.out.c5
      have x6 := HX.out.c6
      have y0 := HY.out.c0
      have y1 := HY.out.c1
      have y2 := HY.out.c2
      have y3 := HY.out.c3
      have y4 := HY.out.c4
      have y5 := HY.out.c5
      have y6 := HY.out.c6
      have HB3 := hideL (HB2.out.trans (hB.mono HB2.out.size))
      clear hB)
   | (go_at_call 8; (with_reducible refine (LA.out _ HB3.out).mono ?_); rintro e w99 ⟨rfl, hB⟩
      have HB99 := hideL (HB3.out.trans (hB.mono HB3.out.size))
      clear hB))
 go_ret
 exact ⟨rfl, HB99.out⟩
set_option maxRecDepth 100000 in
set_option maxHeartbeats 4000000 in
theorem rmay_3 (m1 t1 p1 q1 o1 : ByteArray) (ha1 : Option Addr) (hn1 hc1 : Nat) (ba1 : Option Addr) (bn1 bc1 : Nat) (m2 t2 p2 q2 o2 : ByteArray) (ha2 : Option Addr) (hn2 hc2 : Nat) (ba2 : Option Addr) (bn2 bc2 : Nat) (s : ByteArray) (x y : Rq) (w0 : World) (h1 : ReqAt w0 ⟨m1, t1, p1, q1, o1, ⟨ha1, hn1, hc1⟩, ⟨ba1, bn1, bc1⟩⟩ x) (h2 : ReqAt w0 ⟨m2, t2, p2, q2, o2, ⟨ha2, hn2, hc2⟩, ⟨ba2, bn2, bc2⟩⟩ y) (z1 : m1.size ≤ reachBytes ∧ t1.size ≤ reachBytes) (z2 : m2.size ≤ reachBytes ∧ t2.size ≤ reachBytes) (ht : (Env w0 ∧ EnvS w0) ∧ EnvT w0) (g1 : lngP (m1.size + t1.size) bn1 x.heads = false) (g2 : lngP (m2.size + t2.size) bn2 y.heads = false) (g3 : 1000 < s.size) :
   Calls Tryz.prog 5 #[.agg #[.string m1, .string t1, .string p1, .string q1, .string o1, .slice ha1 hn1 hc1, .slice ba1 bn1 bc1], .agg #[.string m2, .string t2, .string p2, .string q2, .string o2, .slice ha2 hn2 hc2, .slice ba2 bn2 bc2], .string s] w0 fun e w' => e = .returned (.bool true) ∧ Below w0.heap.size w0 w' := by
 have LA := hideL (fun (W : World) (hb : Below w0.heap.size w0 W) => awake_any W (ht.1.1.next hb) (ht.1.2.next hb))
 have hb1 := (Below.refl w0.heap.size w0).alloc (Nat.le_refl _) (rqQ m1 t1 p1 q1 o1 (.slice ha1 hn1 hc1) (.slice ba1 bn1 bc1))
 have hX := (rq_box w0 m1 t1 p1 q1 o1 (.slice ha1 hn1 hc1) (.slice ba1 bn1 bc1)).next ((Below.refl _ _).alloc (Nat.le_refl _) (rqQ m2 t2 p2 q2 o2 (.slice ha2 hn2 hc2) (.slice ba2 bn2 bc2)))
 have hY := rq_box (w0.alloc (rqQ m1 t1 p1 q1 o1 (.slice ha1 hn1 hc1) (.slice ba1 bn1 bc1))) m2 t2 p2 q2 o2 (.slice ha2 hn2 hc2) (.slice ba2 bn2 bc2)
 rw [World.size_alloc] at hY
 have hb2 := (Below.refl (w0.alloc (rqQ m1 t1 p1 q1 o1 (.slice ha1 hn1 hc1) (.slice ba1 bn1 bc1))).heap.size (w0.alloc (rqQ m1 t1 p1 q1 o1 (.slice ha1 hn1 hc1) (.slice ba1 bn1 bc1)))).alloc (Nat.le_refl _) (rqQ m2 t2 p2 q2 o2 (.slice ha2 hn2 hc2) (.slice ba2 bn2 bc2))
 have HX := hideL hX
 have HY := hideL hY
 have HB1 := hideL (hb1.trans (hb2.mono hb1.size))
 have hs1 : (m1 ++ t1).size = m1.size + t1.size := ByteArray.size_append
 have hs2 : (m2 ++ t2).size = m2.size + t2.size := ByteArray.size_append
 have LL1 := fun (W : World) (hb : Below w0.heap.size w0 W) => rlong_any (m1 ++ t1) ha1 hn1 hc1 ba1 bn1 bc1 x.heads W (h1.2.2.2.2.2.1.below hb)
 have LL2 := fun (W : World) (hb : Below w0.heap.size w0 W) => rlong_any (m2 ++ t2) ha2 hn2 hc2 ba2 bn2 bc2 y.heads W (h2.2.2.2.2.2.1.below hb)
 rw [hs1] at LL1
 rw [hs2] at LL2
 have n1 := max_two z1.1 z1.2
 have n2 := max_two z2.1 z2.2
 have x0 := HX.out.c0
 have x1 := HX.out.c1
 have x2 := HX.out.c2
 have x3 := HX.out.c3
 have x4 := HX.out.c4
 have x5 := HX.out.c5
 have x6 := HX.out.c6
 have y0 := HY.out.c0
 have y1 := HY.out.c1
 have y2 := HY.out.c2
 have y3 := HY.out.c3
 have y4 := HY.out.c4
 have y5 := HY.out.c5
 have y6 := HY.out.c6
 rw [g1] at LL1
 rw [g2] at LL2
 have LL1 := hideL LL1
 have LL2 := hideL LL2
 have i3 : (1000 : Int) < (s.size : Int) := by omega
 clear h1 h2 z1 z2 ht hs1 hs2 hb1 hb2 hX hY g1 g2 g3
 go_enter Tryz.func5, Tryz.ntmps5
 go_wp2_with (first
   | (go_at_call 12; (with_reducible refine (LL1.out _ HB1.out).mono ?_); rintro e w2 ⟨rfl, hB⟩
      clear x0 x1 x2 x3 x4 x5 x6 y0 y1 y2 y3 y4 y5 y6
      have HX := hideL (HX.out.next hB)
      have HY := hideL (HY.out.next hB)
      have x0 := HX.out.c0
      have x1 := HX.out.c1
      have x2 := HX.out.c2
      have x3 := HX.out.c3
      have x4 := HX.out.c4
      have x5 := HX.out.c5
      have x6 := HX.out.c6
      have y0 := HY.out.c0
      have y1 := HY.out.c1
      have y2 := HY.out.c2
      have y3 := HY.out.c3
      have y4 := HY.out.c4
      have y5 := HY.out.c5
      have y6 := HY.out.c6
      have HB2 := hideL (HB1.out.trans (hB.mono HB1.out.size))
      clear hB)
   | (go_at_call 12; (with_reducible refine (LL2.out _ HB2.out).mono ?_); rintro e w3 ⟨rfl, hB⟩
      clear x0 x1 x2 x3 x4 x5 x6 y0 y1 y2 y3 y4 y5 y6
      have HX := hideL (HX.out.next hB)
      have HY := hideL (HY.out.next hB)
      have x0 := HX.out.c0
      have x1 := HX.out.c1
      have x2 := HX.out.c2
      have x3 := HX.out.c3
      have x4 := HX.out.c4
      have x5 := HX.out.c5
      have x6 := HX.out.c6
      have y0 := HY.out.c0
      have y1 := HY.out.c1
      have y2 := HY.out.c2
      have y3 := HY.out.c3
      have y4 := HY.out.c4
      have y5 := HY.out.c5
      have y6 := HY.out.c6
      have HB3 := hideL (HB2.out.trans (hB.mono HB2.out.size))
      clear hB)
   | (go_at_call 8; (with_reducible refine (LA.out _ HB3.out).mono ?_); rintro e w99 ⟨rfl, hB⟩
      have HB99 := hideL (HB3.out.trans (hB.mono HB3.out.size))
      clear hB))
 go_ret
 exact ⟨rfl, HB99.out⟩
set_option maxRecDepth 100000 in
set_option maxHeartbeats 4000000 in
theorem rmay_4 (m1 t1 p1 q1 o1 : ByteArray) (ha1 : Option Addr) (hn1 hc1 : Nat) (ba1 : Option Addr) (bn1 bc1 : Nat) (m2 t2 p2 q2 o2 : ByteArray) (ha2 : Option Addr) (hn2 hc2 : Nat) (ba2 : Option Addr) (bn2 bc2 : Nat) (s : ByteArray) (x y : Rq) (w0 : World) (h1 : ReqAt w0 ⟨m1, t1, p1, q1, o1, ⟨ha1, hn1, hc1⟩, ⟨ba1, bn1, bc1⟩⟩ x) (h2 : ReqAt w0 ⟨m2, t2, p2, q2, o2, ⟨ha2, hn2, hc2⟩, ⟨ba2, bn2, bc2⟩⟩ y) (z1 : m1.size ≤ reachBytes ∧ t1.size ≤ reachBytes) (z2 : m2.size ≤ reachBytes ∧ t2.size ≤ reachBytes) (ht : (Env w0 ∧ EnvS w0) ∧ EnvT w0) (g1 : lngP (m1.size + t1.size) bn1 x.heads = false) (g2 : lngP (m2.size + t2.size) bn2 y.heads = false) (g3 : ¬ 1000 < s.size) (g4 : p1.size ≤ reachBytes ∧ q1.size ≤ reachBytes ∧ o1.size ≤ reachBytes) (g5 : p2.size ≤ reachBytes ∧ q2.size ≤ reachBytes ∧ o2.size ≤ reachBytes) (g6 : 9000 < p1.size + q1.size + o1.size + p2.size + q2.size + o2.size) :
   Calls Tryz.prog 5 #[.agg #[.string m1, .string t1, .string p1, .string q1, .string o1, .slice ha1 hn1 hc1, .slice ba1 bn1 bc1], .agg #[.string m2, .string t2, .string p2, .string q2, .string o2, .slice ha2 hn2 hc2, .slice ba2 bn2 bc2], .string s] w0 fun e w' => e = .returned (.bool true) ∧ Below w0.heap.size w0 w' := by
 have LA := hideL (fun (W : World) (hb : Below w0.heap.size w0 W) => awake_any W (ht.1.1.next hb) (ht.1.2.next hb))
 have hb1 := (Below.refl w0.heap.size w0).alloc (Nat.le_refl _) (rqQ m1 t1 p1 q1 o1 (.slice ha1 hn1 hc1) (.slice ba1 bn1 bc1))
 have hX := (rq_box w0 m1 t1 p1 q1 o1 (.slice ha1 hn1 hc1) (.slice ba1 bn1 bc1)).next ((Below.refl _ _).alloc (Nat.le_refl _) (rqQ m2 t2 p2 q2 o2 (.slice ha2 hn2 hc2) (.slice ba2 bn2 bc2)))
 have hY := rq_box (w0.alloc (rqQ m1 t1 p1 q1 o1 (.slice ha1 hn1 hc1) (.slice ba1 bn1 bc1))) m2 t2 p2 q2 o2 (.slice ha2 hn2 hc2) (.slice ba2 bn2 bc2)
 rw [World.size_alloc] at hY
 have hb2 := (Below.refl (w0.alloc (rqQ m1 t1 p1 q1 o1 (.slice ha1 hn1 hc1) (.slice ba1 bn1 bc1))).heap.size (w0.alloc (rqQ m1 t1 p1 q1 o1 (.slice ha1 hn1 hc1) (.slice ba1 bn1 bc1)))).alloc (Nat.le_refl _) (rqQ m2 t2 p2 q2 o2 (.slice ha2 hn2 hc2) (.slice ba2 bn2 bc2))
 have HX := hideL hX
 have HY := hideL hY
 have HB1 := hideL (hb1.trans (hb2.mono hb1.size))
 have hs1 : (m1 ++ t1).size = m1.size + t1.size := ByteArray.size_append
 have hs2 : (m2 ++ t2).size = m2.size + t2.size := ByteArray.size_append
 have LL1 := fun (W : World) (hb : Below w0.heap.size w0 W) => rlong_any (m1 ++ t1) ha1 hn1 hc1 ba1 bn1 bc1 x.heads W (h1.2.2.2.2.2.1.below hb)
 have LL2 := fun (W : World) (hb : Below w0.heap.size w0 W) => rlong_any (m2 ++ t2) ha2 hn2 hc2 ba2 bn2 bc2 y.heads W (h2.2.2.2.2.2.1.below hb)
 rw [hs1] at LL1
 rw [hs2] at LL2
 have n1 := max_two z1.1 z1.2
 have n2 := max_two z2.1 z2.2
 have x0 := HX.out.c0
 have x1 := HX.out.c1
 have x2 := HX.out.c2
 have x3 := HX.out.c3
 have x4 := HX.out.c4
 have x5 := HX.out.c5
 have x6 := HX.out.c6
 have y0 := HY.out.c0
 have y1 := HY.out.c1
 have y2 := HY.out.c2
 have y3 := HY.out.c3
 have y4 := HY.out.c4
 have y5 := HY.out.c5
 have y6 := HY.out.c6
 rw [g1] at LL1
 rw [g2] at LL2
 have LL1 := hideL LL1
 have LL2 := hideL LL2
 have i3 : ¬ (1000 : Int) < (s.size : Int) := by omega
 have i3d : decide ((1000 : Int) < (s.size : Int)) = false := decide_eq_false i3
 have hml : reachBytes ≤ 1000000000000000 := by decide
 have v1 : IntKind.i64.wrap ((p1.size : Int) + (q1.size : Int)) = (p1.size : Int) + (q1.size : Int) := by rw [IntWalk.i64_in _ (by omega)]
 have v2 : IntKind.i64.wrap ((p1.size : Int) + (q1.size : Int) + (o1.size : Int)) = (p1.size : Int) + (q1.size : Int) + (o1.size : Int) := by rw [IntWalk.i64_in _ (by omega)]
 have v3 : IntKind.i64.wrap ((p1.size : Int) + (q1.size : Int) + (o1.size : Int) + (p2.size : Int)) = (p1.size : Int) + (q1.size : Int) + (o1.size : Int) + (p2.size : Int) := by rw [IntWalk.i64_in _ (by omega)]
 have v4 : IntKind.i64.wrap ((p1.size : Int) + (q1.size : Int) + (o1.size : Int) + (p2.size : Int) + (q2.size : Int)) = (p1.size : Int) + (q1.size : Int) + (o1.size : Int) + (p2.size : Int) + (q2.size : Int) := by rw [IntWalk.i64_in _ (by omega)]
 have v5 : IntKind.i64.wrap ((p1.size : Int) + (q1.size : Int) + (o1.size : Int) + (p2.size : Int) + (q2.size : Int) + (o2.size : Int)) = (p1.size : Int) + (q1.size : Int) + (o1.size : Int) + (p2.size : Int) + (q2.size : Int) + (o2.size : Int) := by rw [IntWalk.i64_in _ (by omega)]
 have i4 : (9000 : Int) < (p1.size : Int) + (q1.size : Int) + (o1.size : Int) + (p2.size : Int) + (q2.size : Int) + (o2.size : Int) := by omega
 clear h1 h2 z1 z2 ht hs1 hs2 hb1 hb2 hX hY g1 g2 g3 g4 g5 g6 hml
 go_enter Tryz.func5, Tryz.ntmps5
 go_wp2_with (first
   | (go_at_call 12; (with_reducible refine (LL1.out _ HB1.out).mono ?_); rintro e w2 ⟨rfl, hB⟩
      clear x0 x1 x2 x3 x4 x5 x6 y0 y1 y2 y3 y4 y5 y6
      have HX := hideL (HX.out.next hB)
      have HY := hideL (HY.out.next hB)
      have x0 := HX.out.c0
      have x1 := HX.out.c1
      have x2 := HX.out.c2
      have x3 := HX.out.c3
      have x4 := HX.out.c4
      have x5 := HX.out.c5
      have x6 := HX.out.c6
      have y0 := HY.out.c0
      have y1 := HY.out.c1
      have y2 := HY.out.c2
      have y3 := HY.out.c3
      have y4 := HY.out.c4
      have y5 := HY.out.c5
      have y6 := HY.out.c6
      have HB2 := hideL (HB1.out.trans (hB.mono HB1.out.size))
      clear hB)
   | (go_at_call 12; (with_reducible refine (LL2.out _ HB2.out).mono ?_); rintro e w3 ⟨rfl, hB⟩
      clear x0 x1 x2 x3 x4 x5 x6 y0 y1 y2 y3 y4 y5 y6
      have HX := hideL (HX.out.next hB)
      have HY := hideL (HY.out.next hB)
      have x0 := HX.out.c0
      have x1 := HX.out.c1
      have x2 := HX.out.c2
      have x3 := HX.out.c3
      have x4 := HX.out.c4
      have x5 := HX.out.c5
      have x6 := HX.out.c6
      have y0 := HY.out.c0
      have y1 := HY.out.c1
      have y2 := HY.out.c2
      have y3 := HY.out.c3
      have y4 := HY.out.c4
      have y5 := HY.out.c5
      have y6 := HY.out.c6
      have HB3 := hideL (HB2.out.trans (hB.mono HB2.out.size))
      clear hB)
   | (go_at_call 8; (with_reducible refine (LA.out _ HB3.out).mono ?_); rintro e w99 ⟨rfl, hB⟩
      have HB99 := hideL (HB3.out.trans (hB.mono HB3.out.size))
      clear hB))
 go_ret
 exact ⟨rfl, HB99.out⟩
set_option maxRecDepth 100000 in
set_option maxHeartbeats 4000000 in
theorem rmay_5 (m1 t1 p1 q1 o1 : ByteArray) (ha1 : Option Addr) (hn1 hc1 : Nat) (ba1 : Option Addr) (bn1 bc1 : Nat) (m2 t2 p2 q2 o2 : ByteArray) (ha2 : Option Addr) (hn2 hc2 : Nat) (ba2 : Option Addr) (bn2 bc2 : Nat) (s : ByteArray) (x y : Rq) (w0 : World) (h1 : ReqAt w0 ⟨m1, t1, p1, q1, o1, ⟨ha1, hn1, hc1⟩, ⟨ba1, bn1, bc1⟩⟩ x) (h2 : ReqAt w0 ⟨m2, t2, p2, q2, o2, ⟨ha2, hn2, hc2⟩, ⟨ba2, bn2, bc2⟩⟩ y) (z1 : m1.size ≤ reachBytes ∧ t1.size ≤ reachBytes) (z2 : m2.size ≤ reachBytes ∧ t2.size ≤ reachBytes) (ht : (Env w0 ∧ EnvS w0) ∧ EnvT w0) (g1 : lngP (m1.size + t1.size) bn1 x.heads = false) (g2 : lngP (m2.size + t2.size) bn2 y.heads = false) (g3 : ¬ 1000 < s.size) (_g4 : p1.size ≤ reachBytes ∧ q1.size ≤ reachBytes ∧ o1.size ≤ reachBytes) (_g5 : p2.size ≤ reachBytes ∧ q2.size ≤ reachBytes ∧ o2.size ≤ reachBytes) (g6 : ¬ 9000 < p1.size + q1.size + o1.size + p2.size + q2.size + o2.size) (gM : mayR x) (gE : x = y) :
   Calls Tryz.prog 5 #[.agg #[.string m1, .string t1, .string p1, .string q1, .string o1, .slice ha1 hn1 hc1, .slice ba1 bn1 bc1], .agg #[.string m2, .string t2, .string p2, .string q2, .string o2, .slice ha2 hn2 hc2, .slice ba2 bn2 bc2], .string s] w0 fun e w' => e = .returned (.bool true) ∧ Below w0.heap.size w0 w' := by
 have LA := hideL (fun (W : World) (hb : Below w0.heap.size w0 W) => awake_any W (ht.1.1.next hb) (ht.1.2.next hb))
 have hb1 := (Below.refl w0.heap.size w0).alloc (Nat.le_refl _) (rqQ m1 t1 p1 q1 o1 (.slice ha1 hn1 hc1) (.slice ba1 bn1 bc1))
 have hX := (rq_box w0 m1 t1 p1 q1 o1 (.slice ha1 hn1 hc1) (.slice ba1 bn1 bc1)).next ((Below.refl _ _).alloc (Nat.le_refl _) (rqQ m2 t2 p2 q2 o2 (.slice ha2 hn2 hc2) (.slice ba2 bn2 bc2)))
 have hY := rq_box (w0.alloc (rqQ m1 t1 p1 q1 o1 (.slice ha1 hn1 hc1) (.slice ba1 bn1 bc1))) m2 t2 p2 q2 o2 (.slice ha2 hn2 hc2) (.slice ba2 bn2 bc2)
 rw [World.size_alloc] at hY
 have hb2 := (Below.refl (w0.alloc (rqQ m1 t1 p1 q1 o1 (.slice ha1 hn1 hc1) (.slice ba1 bn1 bc1))).heap.size (w0.alloc (rqQ m1 t1 p1 q1 o1 (.slice ha1 hn1 hc1) (.slice ba1 bn1 bc1)))).alloc (Nat.le_refl _) (rqQ m2 t2 p2 q2 o2 (.slice ha2 hn2 hc2) (.slice ba2 bn2 bc2))
 have HX := hideL hX
 have HY := hideL hY
 have HB1 := hideL (hb1.trans (hb2.mono hb1.size))
 have hs1 : (m1 ++ t1).size = m1.size + t1.size := ByteArray.size_append
 have hs2 : (m2 ++ t2).size = m2.size + t2.size := ByteArray.size_append
 have LL1 := fun (W : World) (hb : Below w0.heap.size w0 W) => rlong_any (m1 ++ t1) ha1 hn1 hc1 ba1 bn1 bc1 x.heads W (h1.2.2.2.2.2.1.below hb)
 have LL2 := fun (W : World) (hb : Below w0.heap.size w0 W) => rlong_any (m2 ++ t2) ha2 hn2 hc2 ba2 bn2 bc2 y.heads W (h2.2.2.2.2.2.1.below hb)
 rw [hs1] at LL1
 rw [hs2] at LL2
 have n1 := max_two z1.1 z1.2
 have n2 := max_two z2.1 z2.2
 have x0 := HX.out.c0
 have x1 := HX.out.c1
 have x2 := HX.out.c2
 have x3 := HX.out.c3
 have x4 := HX.out.c4
 have x5 := HX.out.c5
 have x6 := HX.out.c6
 have y0 := HY.out.c0
 have y1 := HY.out.c1
 have y2 := HY.out.c2
 have y3 := HY.out.c3
 have y4 := HY.out.c4
 have y5 := HY.out.c5
 have y6 := HY.out.c6
 rw [g1] at LL1
 rw [g2] at LL2
 have LL1 := hideL LL1
 have LL2 := hideL LL2
 have i3 : ¬ (1000 : Int) < (s.size : Int) := by omega
 have i3d : decide ((1000 : Int) < (s.size : Int)) = false := decide_eq_false i3
 have hml : reachBytes ≤ 1000000000000000 := by decide
 have v1 : IntKind.i64.wrap ((p1.size : Int) + (q1.size : Int)) = (p1.size : Int) + (q1.size : Int) := by rw [IntWalk.i64_in _ (by omega)]
 have v2 : IntKind.i64.wrap ((p1.size : Int) + (q1.size : Int) + (o1.size : Int)) = (p1.size : Int) + (q1.size : Int) + (o1.size : Int) := by rw [IntWalk.i64_in _ (by omega)]
 have v3 : IntKind.i64.wrap ((p1.size : Int) + (q1.size : Int) + (o1.size : Int) + (p2.size : Int)) = (p1.size : Int) + (q1.size : Int) + (o1.size : Int) + (p2.size : Int) := by rw [IntWalk.i64_in _ (by omega)]
 have v4 : IntKind.i64.wrap ((p1.size : Int) + (q1.size : Int) + (o1.size : Int) + (p2.size : Int) + (q2.size : Int)) = (p1.size : Int) + (q1.size : Int) + (o1.size : Int) + (p2.size : Int) + (q2.size : Int) := by rw [IntWalk.i64_in _ (by omega)]
 have v5 : IntKind.i64.wrap ((p1.size : Int) + (q1.size : Int) + (o1.size : Int) + (p2.size : Int) + (q2.size : Int) + (o2.size : Int)) = (p1.size : Int) + (q1.size : Int) + (o1.size : Int) + (p2.size : Int) + (q2.size : Int) + (o2.size : Int) := by rw [IntWalk.i64_in _ (by omega)]
 have i4 : ¬ (9000 : Int) < (p1.size : Int) + (q1.size : Int) + (o1.size : Int) + (p2.size : Int) + (q2.size : Int) + (o2.size : Int) := by omega
 have i4d : decide ((9000 : Int) < (p1.size : Int) + (q1.size : Int) + (o1.size : Int) + (p2.size : Int) + (q2.size : Int) + (o2.size : Int)) = false := decide_eq_false i4
 obtain ⟨l1, l2, l3⟩ := lngP_no g1
 obtain ⟨k1, k2, k3⟩ := lngP_no g2
 have f1 := longP_fits l3
 have f2 := longP_fits k3
 have e1 := (longP_no l3).1
 have e2 := (longP_no k3).1
 have hbx : bn1 = x.body.length := h1.2.2.2.2.2.2.le.1
 have hby : bn2 = y.body.length := h2.2.2.2.2.2.2.le.1
 have LM := hideL (fun (W : World) (hb : Below w0.heap.size w0 W) => may_any m1 t1 p1 q1 o1 ha1 hn1 hc1 ba1 bn1 bc1 x W (h1.below hb) f1 (by omega) (by omega) (by omega) (ht.1.1.next hb) (ht.1.2.next hb))
 have LRM := hideL (fun (W : World) (hb : Below w0.heap.size w0 W) => rmay_any m1 t1 p1 q1 o1 ha1 hn1 hc1 ba1 bn1 bc1 x W (h1.below hb) f1 (by omega) (by omega) (by omega))
 have LS := hideL (fun (W : World) (hb : Below w0.heap.size w0 W) => sameQC m1 t1 p1 q1 o1 m2 t2 p2 q2 o2 ha1 hn1 hc1 ba1 bn1 bc1 ha2 hn2 hc2 ba2 bn2 bc2 x y W (h1.below hb) (h2.below hb) (by omega))
 have LRS := hideL (fun (W : World) (hb : Below w0.heap.size w0 W) => sameRqC m1 t1 p1 q1 o1 m2 t2 p2 q2 o2 ha1 hn1 hc1 ba1 bn1 bc1 ha2 hn2 hc2 ba2 bn2 bc2 x y W (h1.below hb) (h2.below hb) (by omega))
 have LH := hideL (fun (W : World) (hb : Below w0.heap.size w0 W) => mayHost_any s (by omega) W (ht.1.1.next hb) (ht.1.2.next hb))
 have LRH := fun (W : World) => hostR_any s W
 simp only [hstA] at LRH
 obtain ⟨⟨good, port⟩, hP⟩ : ∃ r, hosP s.data.toList = r := ⟨_, rfl⟩
 rw [hP] at LH LRH
 have LRH := hideL LRH
 have LBY := fun (W : World) (hb : Below w0.heap.size w0 W) => bytes_okC gM m1 t1 p1 q1 o1 ha1 hn1 hc1 ba1 bn1 bc1 W (h1.below hb) (by omega) (ht.1.1.next hb) (ht.1.2.next hb) (ht.2.next hb)
 unfold BytOk at LBY
 have LBY := hideL LBY
 obtain ⟨S, hS⟩ : ∃ S, bo (staP m1.data.toList t1.data.toList) = S := ⟨_, rfl⟩
 have hsum := (sta_sum m1 t1).trans hS
 have hSl : S.data.toList = (rawP x).start := by
   rw [← hS, bo_list, h1.1, h1.2.1]
   rfl
 have hSs : S.size ≤ 900000 := by
   rw [← hS, bo_size, sta_len, size_list, size_list]
   omega
 have r1 : ¬ 9223372036854775807 < m1.size + 1 := by omega
 have r2 : ¬ 9223372036854775807 < m1.size + 1 + t1.size := by omega
 have r3 : ¬ 9223372036854775807 < m1.size + 1 + t1.size + 9 := by omega
 have hwb := may_wrt gM
 have LW := fun (W : World) (hb : Below w0.heap.size w0 W) => rwrite_both S ha1 hn1 hc1 ba1 bn1 bc1 (rawP x) W ⟨hSl, (h1.2.2.2.2.2.1).below hb, (h1.2.2.2.2.2.2).below hb⟩ f1 hSs (show x.heads.length ≤ 1000 by omega) (y := wrtP (rawP x)) (by rw [if_pos hwb])
 unfold WrBoth at LW
 rw [hwb] at LW
 have LW := hideL LW
 obtain ⟨Y, hY0⟩ : ∃ y, wrtP (rawP x) = y := ⟨_, rfl⟩
 rw [hY0] at LBY LW
 clear hS hSl hSs hwb hY0
 have GM := hideL gM
 have GE := hideL gE
 clear h1 h2 z1 z2 ht hs1 hs2 hb1 hb2 hX hY g1 g2 g3 _g4 _g5 g6 hml l1 l2 l3 k1 k2 k3 f1 f2 e1 e2 hbx hby hP gM gE
 go_enter Tryz.func5, Tryz.ntmps5
 go_wp2_with (first
   | (go_at_call 12; (with_reducible refine (LL1.out _ HB1.out).mono ?_); rintro e w2 ⟨rfl, hB⟩
      clear x0 x1 x2 x3 x4 x5 x6 y0 y1 y2 y3 y4 y5 y6
      have HX := hideL (HX.out.next hB)
      have HY := hideL (HY.out.next hB)
      have x0 := HX.out.c0
      have x1 := HX.out.c1
      have x2 := HX.out.c2
      have x3 := HX.out.c3
      have x4 := HX.out.c4
      have x5 := HX.out.c5
      have x6 := HX.out.c6
      have y0 := HY.out.c0
      have y1 := HY.out.c1
      have y2 := HY.out.c2
      have y3 := HY.out.c3
      have y4 := HY.out.c4
      have y5 := HY.out.c5
      have y6 := HY.out.c6
      have HB2 := hideL (HB1.out.trans (hB.mono HB1.out.size))
      clear hB)
   | (go_at_call 12; (with_reducible refine (LL2.out _ HB2.out).mono ?_); rintro e w3 ⟨rfl, hB⟩
      clear x0 x1 x2 x3 x4 x5 x6 y0 y1 y2 y3 y4 y5 y6
      have HX := hideL (HX.out.next hB)
      have HY := hideL (HY.out.next hB)
      have x0 := HX.out.c0
      have x1 := HX.out.c1
      have x2 := HX.out.c2
      have x3 := HX.out.c3
      have x4 := HX.out.c4
      have x5 := HX.out.c5
      have x6 := HX.out.c6
      have y0 := HY.out.c0
      have y1 := HY.out.c1
      have y2 := HY.out.c2
      have y3 := HY.out.c3
      have y4 := HY.out.c4
      have y5 := HY.out.c5
      have y6 := HY.out.c6
      have HB3 := hideL (HB2.out.trans (hB.mono HB2.out.size))
      clear hB)
   | (go_at_call 17; (with_reducible refine (LRH.out _).mono ?_); rintro e w4 ⟨rfl, hB⟩
      clear x0 x1 x2 x3 x4 x5 x6 y0 y1 y2 y3 y4 y5 y6
      have HX := hideL (HX.out.next hB)
      have HY := hideL (HY.out.next hB)
      have x0 := HX.out.c0
      have x1 := HX.out.c1
      have x2 := HX.out.c2
      have x3 := HX.out.c3
      have x4 := HX.out.c4
      have x5 := HX.out.c5
      have x6 := HX.out.c6
      have y0 := HY.out.c0
      have y1 := HY.out.c1
      have y2 := HY.out.c2
      have y3 := HY.out.c3
      have y4 := HY.out.c4
      have y5 := HY.out.c5
      have y6 := HY.out.c6
      have HB4 := hideL (HB3.out.trans (hB.mono HB3.out.size))
      clear hB))
 have hdr := (Below.refl w4.heap.size w4).drew
 have HX5 := hideL (HX.out.next hdr)
 have HY5 := hideL (HY.out.next hdr)
 have HB5 := hideL (HB4.out.trans (hdr.mono HB4.out.size))
 clear hdr n1 n2 v1 v2 v3 v4 v5 i3 i3d i4 i4d HX HY x0 x1 x2 x3 x4 x5 x6 y0 y1 y2 y3 y4 y5 y6
 refine wp_region_held_drew (S := fun w' => RBox7 26 w' w0.heap.size (.string m1) (.string t1) (.string p1) (.string q1) (.string o1) (.slice ha1 hn1 hc1) (.slice ba1 bn1 bc1) ∧ RBox7 26 w' (w0.heap.size + 1) (.string m2) (.string t2) (.string p2) (.string q2) (.string o2) (.slice ha2 hn2 hc2) (.slice ba2 bn2 bc2)) (by kernel_rfl) ⟨HX5.out, HY5.out⟩ (fun hHeld => ?_)
 refine tm 0 (v := ?_) rfl hHeld ?_ ?_
 rotate_left
 · intro w hSw; (try dsimp only at hSw); have p0 := hSw.1.c0; have p1 := hSw.1.c1; have p2 := hSw.1.c2; have p3 := hSw.1.c3; have p4 := hSw.1.c4; have p5 := hSw.1.c5; have p6 := hSw.1.c6; have r0 := hSw.2.c0; have r1 := hSw.2.c1; have r2 := hSw.2.c2; have r3 := hSw.2.c3; have r4 := hSw.2.c4; have r5 := hSw.2.c5; have r6 := hSw.2.c6; go_simp; first | done | with_reducible rfl
 try simp only [pA, pB, pC, pD]
 refine tm 2 (v := ?_) rfl hHeld ?_ ?_
 rotate_left
 · intro w hSw; (try dsimp only at hSw); have p0 := hSw.1.c0; have p1 := hSw.1.c1; have p2 := hSw.1.c2; have p3 := hSw.1.c3; have p4 := hSw.1.c4; have p5 := hSw.1.c5; have p6 := hSw.1.c6; have r0 := hSw.2.c0; have r1 := hSw.2.c1; have r2 := hSw.2.c2; have r3 := hSw.2.c3; have r4 := hSw.2.c4; have r5 := hSw.2.c5; have r6 := hSw.2.c6; go_simp; first | done | with_reducible rfl
 try simp only [pA, pB, pC, pD]
 refine wpAnyH_ready (rs := [1]) (by kernel_rfl) (by simp) ?_
 refine aC rfl (fun K hK => ?_)
 clear hHeld
 go_simp
 (with_reducible refine (LM.out _ HB5.out).mono ?_)
 rintro e w6 ⟨⟨zz, rfl, hzz⟩, hB⟩
 obtain rfl : zz = true := hzz.2 GM.out
 clear hzz
 have HX6 := hideL (HX5.out.next hB)
 have HY6 := hideL (HY5.out.next hB)
 have HB6 := hideL (HB5.out.trans (hB.mono HB5.out.size))
 clear hB
 refine hK.out _ _ (⟨HX6.out, HY6.out⟩) (fun hHeld => ?_)
 clear hK K
 try simp only [pA, pB, pC, pD]
 refine wpAnyH_ready (rs := [3]) (by kernel_rfl) (by simp) ?_
 refine aC rfl (fun K hK => ?_)
 clear hHeld
 go_simp
 (with_reducible refine (LRM.out _ HB6.out).mono ?_)
 rintro e w7 ⟨⟨zz, rfl, hzz⟩, hB⟩
 obtain rfl : zz = true := hzz.2 GM.out
 clear hzz
 have HX7 := hideL (HX6.out.next hB)
 have HY7 := hideL (HY6.out.next hB)
 have HB7 := hideL (HB6.out.trans (hB.mono HB6.out.size))
 clear hB
 refine hK.out _ _ (⟨HX7.out, HY7.out⟩) (fun hHeld => ?_)
 clear hK K
 try simp only [pA, pB, pC, pD]
 refine tl 4 rfl hHeld ?_
 try simp only [pA, pB, pC, pD]
 refine tl 5 rfl hHeld ?_
 try simp only [pA, pB, pC, pD]
 refine tm 6 (v := ?_) rfl hHeld ?_ ?_
 rotate_left
 · intro w hSw; (try dsimp only at hSw); have p0 := hSw.1.c0; have p1 := hSw.1.c1; have p2 := hSw.1.c2; have p3 := hSw.1.c3; have p4 := hSw.1.c4; have p5 := hSw.1.c5; have p6 := hSw.1.c6; have r0 := hSw.2.c0; have r1 := hSw.2.c1; have r2 := hSw.2.c2; have r3 := hSw.2.c3; have r4 := hSw.2.c4; have r5 := hSw.2.c5; have r6 := hSw.2.c6; go_simp; first | done | with_reducible rfl
 try simp only [pA, pB, pC, pD]
 refine tm 7 (v := ?_) rfl hHeld ?_ ?_
 rotate_left
 · intro w hSw; (try dsimp only at hSw); have p0 := hSw.1.c0; have p1 := hSw.1.c1; have p2 := hSw.1.c2; have p3 := hSw.1.c3; have p4 := hSw.1.c4; have p5 := hSw.1.c5; have p6 := hSw.1.c6; have r0 := hSw.2.c0; have r1 := hSw.2.c1; have r2 := hSw.2.c2; have r3 := hSw.2.c3; have r4 := hSw.2.c4; have r5 := hSw.2.c5; have r6 := hSw.2.c6; go_simp; first | done | with_reducible rfl
 try simp only [pA, pB, pC, pD]
 refine tm 9 (v := ?_) rfl hHeld ?_ ?_
 rotate_left
 · intro w hSw; (try dsimp only at hSw); have p0 := hSw.1.c0; have p1 := hSw.1.c1; have p2 := hSw.1.c2; have p3 := hSw.1.c3; have p4 := hSw.1.c4; have p5 := hSw.1.c5; have p6 := hSw.1.c6; have r0 := hSw.2.c0; have r1 := hSw.2.c1; have r2 := hSw.2.c2; have r3 := hSw.2.c3; have r4 := hSw.2.c4; have r5 := hSw.2.c5; have r6 := hSw.2.c6; go_simp; first | done | with_reducible rfl
 try simp only [pA, pB, pC, pD]
 refine tm 10 (v := ?_) rfl hHeld ?_ ?_
 rotate_left
 · intro w hSw; (try dsimp only at hSw); have p0 := hSw.1.c0; have p1 := hSw.1.c1; have p2 := hSw.1.c2; have p3 := hSw.1.c3; have p4 := hSw.1.c4; have p5 := hSw.1.c5; have p6 := hSw.1.c6; have r0 := hSw.2.c0; have r1 := hSw.2.c1; have r2 := hSw.2.c2; have r3 := hSw.2.c3; have r4 := hSw.2.c4; have r5 := hSw.2.c5; have r6 := hSw.2.c6; go_simp; first | done | with_reducible rfl
 try simp only [pA, pB, pC, pD]
 refine wpAnyH_ready (rs := [8]) (by kernel_rfl) (by simp) ?_
 refine aC rfl (fun K hK => ?_)
 clear hHeld
 go_simp
 (with_reducible refine (LS.out _ HB7.out).mono ?_)
 rintro e w8 ⟨⟨zz, rfl, hzz⟩, hB⟩
 obtain rfl : zz = true := hzz.2 GE.out
 clear hzz
 have HX8 := hideL (HX7.out.next hB)
 have HY8 := hideL (HY7.out.next hB)
 have HB8 := hideL (HB7.out.trans (hB.mono HB7.out.size))
 clear hB
 refine hK.out _ _ (⟨HX8.out, HY8.out⟩) (fun hHeld => ?_)
 clear hK K
 try simp only [pA, pB, pC, pD]
 refine wpAnyH_ready (rs := [11]) (by kernel_rfl) (by simp) ?_
 refine aC rfl (fun K hK => ?_)
 clear hHeld
 go_simp
 (with_reducible refine (LRS.out _ HB8.out).mono ?_)
 rintro e w9 ⟨⟨zz, rfl, hzz⟩, hB⟩
 obtain rfl : zz = true := hzz.2 GE.out
 clear hzz
 have HX9 := hideL (HX8.out.next hB)
 have HY9 := hideL (HY8.out.next hB)
 have HB9 := hideL (HB8.out.trans (hB.mono HB8.out.size))
 clear hB
 refine hK.out _ _ (⟨HX9.out, HY9.out⟩) (fun hHeld => ?_)
 clear hK K
 try simp only [pA, pB, pC, pD]
 refine tl 12 rfl hHeld ?_
 try simp only [pA, pB, pC, pD]
 refine tl 13 rfl hHeld ?_
 try simp only [pA, pB, pC, pD]
 refine tl 14 rfl hHeld ?_
 try simp only [pA, pB, pC, pD]
 refine tl 15 rfl hHeld ?_
 try simp only [pA, pB, pC, pD]
 refine tl 17 rfl hHeld ?_
 try simp only [pA, pB, pC, pD]
 refine wpAnyH_ready (rs := [16]) (by kernel_rfl) (by simp) ?_
 refine aC rfl (fun K hK => ?_)
 clear hHeld
 go_simp
 (with_reducible refine (LH.out _ HB9.out).mono ?_)
 rintro e w10 ⟨rfl, hB⟩
 have HX10 := hideL (HX9.out.next hB)
 have HY10 := hideL (HY9.out.next hB)
 have HB10 := hideL (HB9.out.trans (hB.mono HB9.out.size))
 clear hB
 refine hK.out _ _ (⟨HX10.out, HY10.out⟩) (fun hHeld => ?_)
 clear hK K
 try simp only [pA, pB, pC, pD]
 refine tl 18 rfl hHeld ?_
 try simp only [pA, pB, pC, pD]
 refine tl 19 rfl hHeld ?_
 try simp only [pA, pB, pC, pD]
 refine wpAnyH_done (by kernel_rfl) ?_ _
 clear hHeld
 have HX := HX10
 have HY := HY10
 clear HX5 HX6 HX7 HX8 HX9 HX10 HY5 HY6 HY7 HY8 HY9 HY10
 have x0 := HX.out.c0
 have x1 := HX.out.c1
 have x2 := HX.out.c2
 have x3 := HX.out.c3
 have x4 := HX.out.c4
 have x5 := HX.out.c5
 have x6 := HX.out.c6
 have y0 := HY.out.c0
 have y1 := HY.out.c1
 have y2 := HY.out.c2
 have y3 := HY.out.c3
 have y4 := HY.out.c4
 have y5 := HY.out.c5
 have y6 := HY.out.c6
 go_wp2_with (first
   | (go_at_call 22; (with_reducible refine (LBY.out _ HB10.out).mono ?_); rintro e w11 ⟨⟨⟨a6, n6, c6⟩, rfl, hg⟩, hB⟩
      clear x0 x1 x2 x3 x4 x5 x6 y0 y1 y2 y3 y4 y5 y6
      have HX := hideL (HX.out.next hB)
      have HY := hideL (HY.out.next hB)
      have x0 := HX.out.c0
      have x1 := HX.out.c1
      have x2 := HX.out.c2
      have x3 := HX.out.c3
      have x4 := HX.out.c4
      have x5 := HX.out.c5
      have x6 := HX.out.c6
      have y0 := HY.out.c0
      have y1 := HY.out.c1
      have y2 := HY.out.c2
      have y3 := HY.out.c3
      have y4 := HY.out.c4
      have y5 := HY.out.c5
      have y6 := HY.out.c6
      have HB11 := hideL (HB10.out.trans (hB.mono HB10.out.size))
      have HG6 := hideL hg.gAt
      simp only [Sl.v] at HG6 ⊢
      clear hg
      clear hB)
   | (go_at_call 19; (with_reducible refine (LRM.out _ HB11.out).mono ?_); rintro e w12 ⟨⟨zz, rfl, hzz⟩, hB⟩
      clear x0 x1 x2 x3 x4 x5 x6 y0 y1 y2 y3 y4 y5 y6
      have HX := hideL (HX.out.next hB)
      have HY := hideL (HY.out.next hB)
      have x0 := HX.out.c0
      have x1 := HX.out.c1
      have x2 := HX.out.c2
      have x3 := HX.out.c3
      have x4 := HX.out.c4
      have x5 := HX.out.c5
      have x6 := HX.out.c6
      have y0 := HY.out.c0
      have y1 := HY.out.c1
      have y2 := HY.out.c2
      have y3 := HY.out.c3
      have y4 := HY.out.c4
      have y5 := HY.out.c5
      have y6 := HY.out.c6
      have HB12 := hideL (HB11.out.trans (hB.mono HB11.out.size))
      obtain rfl : zz = true := hzz.2 GM.out
      have HG7 := hideL (HG6.out.below hB)
      clear hzz
      clear hB)
   | (go_at_call 16; (with_reducible refine (LW.out _ HB12.out).mono ?_); rintro e w13 ⟨⟨a7, n7, c7, rfl, hg⟩, hB⟩
      clear x0 x1 x2 x3 x4 x5 x6 y0 y1 y2 y3 y4 y5 y6
      have HX := hideL (HX.out.next hB)
      have HY := hideL (HY.out.next hB)
      have x0 := HX.out.c0
      have x1 := HX.out.c1
      have x2 := HX.out.c2
      have x3 := HX.out.c3
      have x4 := HX.out.c4
      have x5 := HX.out.c5
      have x6 := HX.out.c6
      have y0 := HY.out.c0
      have y1 := HY.out.c1
      have y2 := HY.out.c2
      have y3 := HY.out.c3
      have y4 := HY.out.c4
      have y5 := HY.out.c5
      have y6 := HY.out.c6
      have HB13 := hideL (HB12.out.trans (hB.mono HB12.out.size))
      have k6 := to_strA w13 a6 n6 c6 Y (HG7.out.below hB)
      have k7 := to_strA w13 a7 n7 c7 Y hg
      clear hg
      clear hB)
   | (go_at_call 8; (with_reducible refine (LA.out _ HB13.out).mono ?_); rintro e w99 ⟨rfl, hB⟩
      have HB99 := hideL (HB13.out.trans (hB.mono HB13.out.size))
      clear hB))
 go_ret
 exact ⟨rfl, HB99.out⟩
set_option maxRecDepth 100000 in
set_option maxHeartbeats 4000000 in
theorem rmay_6 (m1 t1 p1 q1 o1 : ByteArray) (ha1 : Option Addr) (hn1 hc1 : Nat) (ba1 : Option Addr) (bn1 bc1 : Nat) (m2 t2 p2 q2 o2 : ByteArray) (ha2 : Option Addr) (hn2 hc2 : Nat) (ba2 : Option Addr) (bn2 bc2 : Nat) (s : ByteArray) (x y : Rq) (w0 : World) (h1 : ReqAt w0 ⟨m1, t1, p1, q1, o1, ⟨ha1, hn1, hc1⟩, ⟨ba1, bn1, bc1⟩⟩ x) (h2 : ReqAt w0 ⟨m2, t2, p2, q2, o2, ⟨ha2, hn2, hc2⟩, ⟨ba2, bn2, bc2⟩⟩ y) (z1 : m1.size ≤ reachBytes ∧ t1.size ≤ reachBytes) (z2 : m2.size ≤ reachBytes ∧ t2.size ≤ reachBytes) (ht : (Env w0 ∧ EnvS w0) ∧ EnvT w0) (g1 : lngP (m1.size + t1.size) bn1 x.heads = false) (g2 : lngP (m2.size + t2.size) bn2 y.heads = false) (g3 : ¬ 1000 < s.size) (_g4 : p1.size ≤ reachBytes ∧ q1.size ≤ reachBytes ∧ o1.size ≤ reachBytes) (_g5 : p2.size ≤ reachBytes ∧ q2.size ≤ reachBytes ∧ o2.size ≤ reachBytes) (g6 : ¬ 9000 < p1.size + q1.size + o1.size + p2.size + q2.size + o2.size) (gM : mayR x) (gE : x ≠ y) :
   Calls Tryz.prog 5 #[.agg #[.string m1, .string t1, .string p1, .string q1, .string o1, .slice ha1 hn1 hc1, .slice ba1 bn1 bc1], .agg #[.string m2, .string t2, .string p2, .string q2, .string o2, .slice ha2 hn2 hc2, .slice ba2 bn2 bc2], .string s] w0 fun e w' => e = .returned (.bool true) ∧ Below w0.heap.size w0 w' := by
 have LA := hideL (fun (W : World) (hb : Below w0.heap.size w0 W) => awake_any W (ht.1.1.next hb) (ht.1.2.next hb))
 have hb1 := (Below.refl w0.heap.size w0).alloc (Nat.le_refl _) (rqQ m1 t1 p1 q1 o1 (.slice ha1 hn1 hc1) (.slice ba1 bn1 bc1))
 have hX := (rq_box w0 m1 t1 p1 q1 o1 (.slice ha1 hn1 hc1) (.slice ba1 bn1 bc1)).next ((Below.refl _ _).alloc (Nat.le_refl _) (rqQ m2 t2 p2 q2 o2 (.slice ha2 hn2 hc2) (.slice ba2 bn2 bc2)))
 have hY := rq_box (w0.alloc (rqQ m1 t1 p1 q1 o1 (.slice ha1 hn1 hc1) (.slice ba1 bn1 bc1))) m2 t2 p2 q2 o2 (.slice ha2 hn2 hc2) (.slice ba2 bn2 bc2)
 rw [World.size_alloc] at hY
 have hb2 := (Below.refl (w0.alloc (rqQ m1 t1 p1 q1 o1 (.slice ha1 hn1 hc1) (.slice ba1 bn1 bc1))).heap.size (w0.alloc (rqQ m1 t1 p1 q1 o1 (.slice ha1 hn1 hc1) (.slice ba1 bn1 bc1)))).alloc (Nat.le_refl _) (rqQ m2 t2 p2 q2 o2 (.slice ha2 hn2 hc2) (.slice ba2 bn2 bc2))
 have HX := hideL hX
 have HY := hideL hY
 have HB1 := hideL (hb1.trans (hb2.mono hb1.size))
 have hs1 : (m1 ++ t1).size = m1.size + t1.size := ByteArray.size_append
 have hs2 : (m2 ++ t2).size = m2.size + t2.size := ByteArray.size_append
 have LL1 := fun (W : World) (hb : Below w0.heap.size w0 W) => rlong_any (m1 ++ t1) ha1 hn1 hc1 ba1 bn1 bc1 x.heads W (h1.2.2.2.2.2.1.below hb)
 have LL2 := fun (W : World) (hb : Below w0.heap.size w0 W) => rlong_any (m2 ++ t2) ha2 hn2 hc2 ba2 bn2 bc2 y.heads W (h2.2.2.2.2.2.1.below hb)
 rw [hs1] at LL1
 rw [hs2] at LL2
 have n1 := max_two z1.1 z1.2
 have n2 := max_two z2.1 z2.2
 have x0 := HX.out.c0
 have x1 := HX.out.c1
 have x2 := HX.out.c2
 have x3 := HX.out.c3
 have x4 := HX.out.c4
 have x5 := HX.out.c5
 have x6 := HX.out.c6
 have y0 := HY.out.c0
 have y1 := HY.out.c1
 have y2 := HY.out.c2
 have y3 := HY.out.c3
 have y4 := HY.out.c4
 have y5 := HY.out.c5
 have y6 := HY.out.c6
 rw [g1] at LL1
 rw [g2] at LL2
 have LL1 := hideL LL1
 have LL2 := hideL LL2
 have i3 : ¬ (1000 : Int) < (s.size : Int) := by omega
 have i3d : decide ((1000 : Int) < (s.size : Int)) = false := decide_eq_false i3
 have hml : reachBytes ≤ 1000000000000000 := by decide
 have v1 : IntKind.i64.wrap ((p1.size : Int) + (q1.size : Int)) = (p1.size : Int) + (q1.size : Int) := by rw [IntWalk.i64_in _ (by omega)]
 have v2 : IntKind.i64.wrap ((p1.size : Int) + (q1.size : Int) + (o1.size : Int)) = (p1.size : Int) + (q1.size : Int) + (o1.size : Int) := by rw [IntWalk.i64_in _ (by omega)]
 have v3 : IntKind.i64.wrap ((p1.size : Int) + (q1.size : Int) + (o1.size : Int) + (p2.size : Int)) = (p1.size : Int) + (q1.size : Int) + (o1.size : Int) + (p2.size : Int) := by rw [IntWalk.i64_in _ (by omega)]
 have v4 : IntKind.i64.wrap ((p1.size : Int) + (q1.size : Int) + (o1.size : Int) + (p2.size : Int) + (q2.size : Int)) = (p1.size : Int) + (q1.size : Int) + (o1.size : Int) + (p2.size : Int) + (q2.size : Int) := by rw [IntWalk.i64_in _ (by omega)]
 have v5 : IntKind.i64.wrap ((p1.size : Int) + (q1.size : Int) + (o1.size : Int) + (p2.size : Int) + (q2.size : Int) + (o2.size : Int)) = (p1.size : Int) + (q1.size : Int) + (o1.size : Int) + (p2.size : Int) + (q2.size : Int) + (o2.size : Int) := by rw [IntWalk.i64_in _ (by omega)]
 have i4 : ¬ (9000 : Int) < (p1.size : Int) + (q1.size : Int) + (o1.size : Int) + (p2.size : Int) + (q2.size : Int) + (o2.size : Int) := by omega
 have i4d : decide ((9000 : Int) < (p1.size : Int) + (q1.size : Int) + (o1.size : Int) + (p2.size : Int) + (q2.size : Int) + (o2.size : Int)) = false := decide_eq_false i4
 obtain ⟨l1, l2, l3⟩ := lngP_no g1
 obtain ⟨k1, k2, k3⟩ := lngP_no g2
 have f1 := longP_fits l3
 have f2 := longP_fits k3
 have e1 := (longP_no l3).1
 have e2 := (longP_no k3).1
 have hbx : bn1 = x.body.length := h1.2.2.2.2.2.2.le.1
 have hby : bn2 = y.body.length := h2.2.2.2.2.2.2.le.1
 have LM := hideL (fun (W : World) (hb : Below w0.heap.size w0 W) => may_any m1 t1 p1 q1 o1 ha1 hn1 hc1 ba1 bn1 bc1 x W (h1.below hb) f1 (by omega) (by omega) (by omega) (ht.1.1.next hb) (ht.1.2.next hb))
 have LRM := hideL (fun (W : World) (hb : Below w0.heap.size w0 W) => rmay_any m1 t1 p1 q1 o1 ha1 hn1 hc1 ba1 bn1 bc1 x W (h1.below hb) f1 (by omega) (by omega) (by omega))
 have LS := hideL (fun (W : World) (hb : Below w0.heap.size w0 W) => sameQC m1 t1 p1 q1 o1 m2 t2 p2 q2 o2 ha1 hn1 hc1 ba1 bn1 bc1 ha2 hn2 hc2 ba2 bn2 bc2 x y W (h1.below hb) (h2.below hb) (by omega))
 have LRS := hideL (fun (W : World) (hb : Below w0.heap.size w0 W) => sameRqC m1 t1 p1 q1 o1 m2 t2 p2 q2 o2 ha1 hn1 hc1 ba1 bn1 bc1 ha2 hn2 hc2 ba2 bn2 bc2 x y W (h1.below hb) (h2.below hb) (by omega))
 have LH := hideL (fun (W : World) (hb : Below w0.heap.size w0 W) => mayHost_any s (by omega) W (ht.1.1.next hb) (ht.1.2.next hb))
 have LRH := fun (W : World) => hostR_any s W
 simp only [hstA] at LRH
 obtain ⟨⟨good, port⟩, hP⟩ : ∃ r, hosP s.data.toList = r := ⟨_, rfl⟩
 rw [hP] at LH LRH
 have LRH := hideL LRH
 have LBY := fun (W : World) (hb : Below w0.heap.size w0 W) => bytes_okC gM m1 t1 p1 q1 o1 ha1 hn1 hc1 ba1 bn1 bc1 W (h1.below hb) (by omega) (ht.1.1.next hb) (ht.1.2.next hb) (ht.2.next hb)
 unfold BytOk at LBY
 have LBY := hideL LBY
 obtain ⟨S, hS⟩ : ∃ S, bo (staP m1.data.toList t1.data.toList) = S := ⟨_, rfl⟩
 have hsum := (sta_sum m1 t1).trans hS
 have hSl : S.data.toList = (rawP x).start := by
   rw [← hS, bo_list, h1.1, h1.2.1]
   rfl
 have hSs : S.size ≤ 900000 := by
   rw [← hS, bo_size, sta_len, size_list, size_list]
   omega
 have r1 : ¬ 9223372036854775807 < m1.size + 1 := by omega
 have r2 : ¬ 9223372036854775807 < m1.size + 1 + t1.size := by omega
 have r3 : ¬ 9223372036854775807 < m1.size + 1 + t1.size + 9 := by omega
 have hwb := may_wrt gM
 have LW := fun (W : World) (hb : Below w0.heap.size w0 W) => rwrite_both S ha1 hn1 hc1 ba1 bn1 bc1 (rawP x) W ⟨hSl, (h1.2.2.2.2.2.1).below hb, (h1.2.2.2.2.2.2).below hb⟩ f1 hSs (show x.heads.length ≤ 1000 by omega) (y := wrtP (rawP x)) (by rw [if_pos hwb])
 unfold WrBoth at LW
 rw [hwb] at LW
 have LW := hideL LW
 obtain ⟨Y, hY0⟩ : ∃ y, wrtP (rawP x) = y := ⟨_, rfl⟩
 rw [hY0] at LBY LW
 clear hS hSl hSs hwb hY0
 have GM := hideL gM
 have GE := hideL gE
 clear h1 h2 z1 z2 ht hs1 hs2 hb1 hb2 hX hY g1 g2 g3 _g4 _g5 g6 hml l1 l2 l3 k1 k2 k3 f1 f2 e1 e2 hbx hby hP gM gE
 go_enter Tryz.func5, Tryz.ntmps5
 go_wp2_with (first
   | (go_at_call 12; (with_reducible refine (LL1.out _ HB1.out).mono ?_); rintro e w2 ⟨rfl, hB⟩
      clear x0 x1 x2 x3 x4 x5 x6 y0 y1 y2 y3 y4 y5 y6
      have HX := hideL (HX.out.next hB)
      have HY := hideL (HY.out.next hB)
      have x0 := HX.out.c0
      have x1 := HX.out.c1
      have x2 := HX.out.c2
      have x3 := HX.out.c3
      have x4 := HX.out.c4
      have x5 := HX.out.c5
      have x6 := HX.out.c6
      have y0 := HY.out.c0
      have y1 := HY.out.c1
      have y2 := HY.out.c2
      have y3 := HY.out.c3
      have y4 := HY.out.c4
      have y5 := HY.out.c5
      have y6 := HY.out.c6
      have HB2 := hideL (HB1.out.trans (hB.mono HB1.out.size))
      clear hB)
   | (go_at_call 12; (with_reducible refine (LL2.out _ HB2.out).mono ?_); rintro e w3 ⟨rfl, hB⟩
      clear x0 x1 x2 x3 x4 x5 x6 y0 y1 y2 y3 y4 y5 y6
      have HX := hideL (HX.out.next hB)
      have HY := hideL (HY.out.next hB)
      have x0 := HX.out.c0
      have x1 := HX.out.c1
      have x2 := HX.out.c2
      have x3 := HX.out.c3
      have x4 := HX.out.c4
      have x5 := HX.out.c5
      have x6 := HX.out.c6
      have y0 := HY.out.c0
      have y1 := HY.out.c1
      have y2 := HY.out.c2
      have y3 := HY.out.c3
      have y4 := HY.out.c4
      have y5 := HY.out.c5
      have y6 := HY.out.c6
      have HB3 := hideL (HB2.out.trans (hB.mono HB2.out.size))
      clear hB)
   | (go_at_call 17; (with_reducible refine (LRH.out _).mono ?_); rintro e w4 ⟨rfl, hB⟩
      clear x0 x1 x2 x3 x4 x5 x6 y0 y1 y2 y3 y4 y5 y6
      have HX := hideL (HX.out.next hB)
      have HY := hideL (HY.out.next hB)
      have x0 := HX.out.c0
      have x1 := HX.out.c1
      have x2 := HX.out.c2
      have x3 := HX.out.c3
      have x4 := HX.out.c4
      have x5 := HX.out.c5
      have x6 := HX.out.c6
      have y0 := HY.out.c0
      have y1 := HY.out.c1
      have y2 := HY.out.c2
      have y3 := HY.out.c3
      have y4 := HY.out.c4
      have y5 := HY.out.c5
      have y6 := HY.out.c6
      have HB4 := hideL (HB3.out.trans (hB.mono HB3.out.size))
      clear hB))
 have hdr := (Below.refl w4.heap.size w4).drew
 have HX5 := hideL (HX.out.next hdr)
 have HY5 := hideL (HY.out.next hdr)
 have HB5 := hideL (HB4.out.trans (hdr.mono HB4.out.size))
 clear hdr n1 n2 v1 v2 v3 v4 v5 i3 i3d i4 i4d HX HY x0 x1 x2 x3 x4 x5 x6 y0 y1 y2 y3 y4 y5 y6
 refine wp_region_held_drew (S := fun w' => RBox7 26 w' w0.heap.size (.string m1) (.string t1) (.string p1) (.string q1) (.string o1) (.slice ha1 hn1 hc1) (.slice ba1 bn1 bc1) ∧ RBox7 26 w' (w0.heap.size + 1) (.string m2) (.string t2) (.string p2) (.string q2) (.string o2) (.slice ha2 hn2 hc2) (.slice ba2 bn2 bc2)) (by kernel_rfl) ⟨HX5.out, HY5.out⟩ (fun hHeld => ?_)
 refine tm 0 (v := ?_) rfl hHeld ?_ ?_
 rotate_left
 · intro w hSw; (try dsimp only at hSw); have p0 := hSw.1.c0; have p1 := hSw.1.c1; have p2 := hSw.1.c2; have p3 := hSw.1.c3; have p4 := hSw.1.c4; have p5 := hSw.1.c5; have p6 := hSw.1.c6; have r0 := hSw.2.c0; have r1 := hSw.2.c1; have r2 := hSw.2.c2; have r3 := hSw.2.c3; have r4 := hSw.2.c4; have r5 := hSw.2.c5; have r6 := hSw.2.c6; go_simp; first | done | with_reducible rfl
 try simp only [pA, pB, pC, pD]
 refine tm 2 (v := ?_) rfl hHeld ?_ ?_
 rotate_left
 · intro w hSw; (try dsimp only at hSw); have p0 := hSw.1.c0; have p1 := hSw.1.c1; have p2 := hSw.1.c2; have p3 := hSw.1.c3; have p4 := hSw.1.c4; have p5 := hSw.1.c5; have p6 := hSw.1.c6; have r0 := hSw.2.c0; have r1 := hSw.2.c1; have r2 := hSw.2.c2; have r3 := hSw.2.c3; have r4 := hSw.2.c4; have r5 := hSw.2.c5; have r6 := hSw.2.c6; go_simp; first | done | with_reducible rfl
 try simp only [pA, pB, pC, pD]
 refine wpAnyH_ready (rs := [1]) (by kernel_rfl) (by simp) ?_
 refine aC rfl (fun K hK => ?_)
 clear hHeld
 go_simp
 (with_reducible refine (LM.out _ HB5.out).mono ?_)
 rintro e w6 ⟨⟨zz, rfl, hzz⟩, hB⟩
 obtain rfl : zz = true := hzz.2 GM.out
 clear hzz
 have HX6 := hideL (HX5.out.next hB)
 have HY6 := hideL (HY5.out.next hB)
 have HB6 := hideL (HB5.out.trans (hB.mono HB5.out.size))
 clear hB
 refine hK.out _ _ (⟨HX6.out, HY6.out⟩) (fun hHeld => ?_)
 clear hK K
 try simp only [pA, pB, pC, pD]
 refine wpAnyH_ready (rs := [3]) (by kernel_rfl) (by simp) ?_
 refine aC rfl (fun K hK => ?_)
 clear hHeld
 go_simp
 (with_reducible refine (LRM.out _ HB6.out).mono ?_)
 rintro e w7 ⟨⟨zz, rfl, hzz⟩, hB⟩
 obtain rfl : zz = true := hzz.2 GM.out
 clear hzz
 have HX7 := hideL (HX6.out.next hB)
 have HY7 := hideL (HY6.out.next hB)
 have HB7 := hideL (HB6.out.trans (hB.mono HB6.out.size))
 clear hB
 refine hK.out _ _ (⟨HX7.out, HY7.out⟩) (fun hHeld => ?_)
 clear hK K
 try simp only [pA, pB, pC, pD]
 refine tl 4 rfl hHeld ?_
 try simp only [pA, pB, pC, pD]
 refine tl 5 rfl hHeld ?_
 try simp only [pA, pB, pC, pD]
 refine tm 6 (v := ?_) rfl hHeld ?_ ?_
 rotate_left
 · intro w hSw; (try dsimp only at hSw); have p0 := hSw.1.c0; have p1 := hSw.1.c1; have p2 := hSw.1.c2; have p3 := hSw.1.c3; have p4 := hSw.1.c4; have p5 := hSw.1.c5; have p6 := hSw.1.c6; have r0 := hSw.2.c0; have r1 := hSw.2.c1; have r2 := hSw.2.c2; have r3 := hSw.2.c3; have r4 := hSw.2.c4; have r5 := hSw.2.c5; have r6 := hSw.2.c6; go_simp; first | done | with_reducible rfl
 try simp only [pA, pB, pC, pD]
 refine tm 7 (v := ?_) rfl hHeld ?_ ?_
 rotate_left
 · intro w hSw; (try dsimp only at hSw); have p0 := hSw.1.c0; have p1 := hSw.1.c1; have p2 := hSw.1.c2; have p3 := hSw.1.c3; have p4 := hSw.1.c4; have p5 := hSw.1.c5; have p6 := hSw.1.c6; have r0 := hSw.2.c0; have r1 := hSw.2.c1; have r2 := hSw.2.c2; have r3 := hSw.2.c3; have r4 := hSw.2.c4; have r5 := hSw.2.c5; have r6 := hSw.2.c6; go_simp; first | done | with_reducible rfl
 try simp only [pA, pB, pC, pD]
 refine tm 9 (v := ?_) rfl hHeld ?_ ?_
 rotate_left
 · intro w hSw; (try dsimp only at hSw); have p0 := hSw.1.c0; have p1 := hSw.1.c1; have p2 := hSw.1.c2; have p3 := hSw.1.c3; have p4 := hSw.1.c4; have p5 := hSw.1.c5; have p6 := hSw.1.c6; have r0 := hSw.2.c0; have r1 := hSw.2.c1; have r2 := hSw.2.c2; have r3 := hSw.2.c3; have r4 := hSw.2.c4; have r5 := hSw.2.c5; have r6 := hSw.2.c6; go_simp; first | done | with_reducible rfl
 try simp only [pA, pB, pC, pD]
 refine tm 10 (v := ?_) rfl hHeld ?_ ?_
 rotate_left
 · intro w hSw; (try dsimp only at hSw); have p0 := hSw.1.c0; have p1 := hSw.1.c1; have p2 := hSw.1.c2; have p3 := hSw.1.c3; have p4 := hSw.1.c4; have p5 := hSw.1.c5; have p6 := hSw.1.c6; have r0 := hSw.2.c0; have r1 := hSw.2.c1; have r2 := hSw.2.c2; have r3 := hSw.2.c3; have r4 := hSw.2.c4; have r5 := hSw.2.c5; have r6 := hSw.2.c6; go_simp; first | done | with_reducible rfl
 try simp only [pA, pB, pC, pD]
 refine wpAnyH_ready (rs := [8]) (by kernel_rfl) (by simp) ?_
 refine aC rfl (fun K hK => ?_)
 clear hHeld
 go_simp
 (with_reducible refine (LS.out _ HB7.out).mono ?_)
 rintro e w8 ⟨⟨zz, rfl, hzz⟩, hB⟩
 obtain rfl : zz = false := Bool.eq_false_iff.2 (fun h => GE.out (hzz.1 h))
 clear hzz
 have HX8 := hideL (HX7.out.next hB)
 have HY8 := hideL (HY7.out.next hB)
 have HB8 := hideL (HB7.out.trans (hB.mono HB7.out.size))
 clear hB
 refine hK.out _ _ (⟨HX8.out, HY8.out⟩) (fun hHeld => ?_)
 clear hK K
 try simp only [pA, pB, pC, pD]
 refine wpAnyH_ready (rs := [11]) (by kernel_rfl) (by simp) ?_
 refine aC rfl (fun K hK => ?_)
 clear hHeld
 go_simp
 (with_reducible refine (LRS.out _ HB8.out).mono ?_)
 rintro e w9 ⟨⟨zz, rfl, hzz⟩, hB⟩
 obtain rfl : zz = false := Bool.eq_false_iff.2 (fun h => GE.out (hzz.1 h))
 clear hzz
 have HX9 := hideL (HX8.out.next hB)
 have HY9 := hideL (HY8.out.next hB)
 have HB9 := hideL (HB8.out.trans (hB.mono HB8.out.size))
 clear hB
 refine hK.out _ _ (⟨HX9.out, HY9.out⟩) (fun hHeld => ?_)
 clear hK K
 try simp only [pA, pB, pC, pD]
 refine tl 12 rfl hHeld ?_
 try simp only [pA, pB, pC, pD]
 refine tl 13 rfl hHeld ?_
 try simp only [pA, pB, pC, pD]
 refine tl 14 rfl hHeld ?_
 try simp only [pA, pB, pC, pD]
 refine tl 15 rfl hHeld ?_
 try simp only [pA, pB, pC, pD]
 refine tl 17 rfl hHeld ?_
 try simp only [pA, pB, pC, pD]
 refine wpAnyH_ready (rs := [16]) (by kernel_rfl) (by simp) ?_
 refine aC rfl (fun K hK => ?_)
 clear hHeld
 go_simp
 (with_reducible refine (LH.out _ HB9.out).mono ?_)
 rintro e w10 ⟨rfl, hB⟩
 have HX10 := hideL (HX9.out.next hB)
 have HY10 := hideL (HY9.out.next hB)
 have HB10 := hideL (HB9.out.trans (hB.mono HB9.out.size))
 clear hB
 refine hK.out _ _ (⟨HX10.out, HY10.out⟩) (fun hHeld => ?_)
 clear hK K
 try simp only [pA, pB, pC, pD]
 refine tl 18 rfl hHeld ?_
 try simp only [pA, pB, pC, pD]
 refine tl 19 rfl hHeld ?_
 try simp only [pA, pB, pC, pD]
 refine wpAnyH_done (by kernel_rfl) ?_ _
 clear hHeld
 have HX := HX10
 have HY := HY10
 clear HX5 HX6 HX7 HX8 HX9 HX10 HY5 HY6 HY7 HY8 HY9 HY10
 have x0 := HX.out.c0
 have x1 := HX.out.c1
 have x2 := HX.out.c2
 have x3 := HX.out.c3
 have x4 := HX.out.c4
 have x5 := HX.out.c5
 have x6 := HX.out.c6
 have y0 := HY.out.c0
 have y1 := HY.out.c1
 have y2 := HY.out.c2
 have y3 := HY.out.c3
 have y4 := HY.out.c4
 have y5 := HY.out.c5
 have y6 := HY.out.c6
 go_wp2_with (first
   | (go_at_call 22; (with_reducible refine (LBY.out _ HB10.out).mono ?_); rintro e w11 ⟨⟨⟨a6, n6, c6⟩, rfl, hg⟩, hB⟩
      clear x0 x1 x2 x3 x4 x5 x6 y0 y1 y2 y3 y4 y5 y6
      have HX := hideL (HX.out.next hB)
      have HY := hideL (HY.out.next hB)
      have x0 := HX.out.c0
      have x1 := HX.out.c1
      have x2 := HX.out.c2
      have x3 := HX.out.c3
      have x4 := HX.out.c4
      have x5 := HX.out.c5
      have x6 := HX.out.c6
      have y0 := HY.out.c0
      have y1 := HY.out.c1
      have y2 := HY.out.c2
      have y3 := HY.out.c3
      have y4 := HY.out.c4
      have y5 := HY.out.c5
      have y6 := HY.out.c6
      have HB11 := hideL (HB10.out.trans (hB.mono HB10.out.size))
      have HG6 := hideL hg.gAt
      simp only [Sl.v] at HG6 ⊢
      clear hg
      clear hB)
   | (go_at_call 19; (with_reducible refine (LRM.out _ HB11.out).mono ?_); rintro e w12 ⟨⟨zz, rfl, hzz⟩, hB⟩
      clear x0 x1 x2 x3 x4 x5 x6 y0 y1 y2 y3 y4 y5 y6
      have HX := hideL (HX.out.next hB)
      have HY := hideL (HY.out.next hB)
      have x0 := HX.out.c0
      have x1 := HX.out.c1
      have x2 := HX.out.c2
      have x3 := HX.out.c3
      have x4 := HX.out.c4
      have x5 := HX.out.c5
      have x6 := HX.out.c6
      have y0 := HY.out.c0
      have y1 := HY.out.c1
      have y2 := HY.out.c2
      have y3 := HY.out.c3
      have y4 := HY.out.c4
      have y5 := HY.out.c5
      have y6 := HY.out.c6
      have HB12 := hideL (HB11.out.trans (hB.mono HB11.out.size))
      obtain rfl : zz = true := hzz.2 GM.out
      have HG7 := hideL (HG6.out.below hB)
      clear hzz
      clear hB)
   | (go_at_call 16; (with_reducible refine (LW.out _ HB12.out).mono ?_); rintro e w13 ⟨⟨a7, n7, c7, rfl, hg⟩, hB⟩
      clear x0 x1 x2 x3 x4 x5 x6 y0 y1 y2 y3 y4 y5 y6
      have HX := hideL (HX.out.next hB)
      have HY := hideL (HY.out.next hB)
      have x0 := HX.out.c0
      have x1 := HX.out.c1
      have x2 := HX.out.c2
      have x3 := HX.out.c3
      have x4 := HX.out.c4
      have x5 := HX.out.c5
      have x6 := HX.out.c6
      have y0 := HY.out.c0
      have y1 := HY.out.c1
      have y2 := HY.out.c2
      have y3 := HY.out.c3
      have y4 := HY.out.c4
      have y5 := HY.out.c5
      have y6 := HY.out.c6
      have HB13 := hideL (HB12.out.trans (hB.mono HB12.out.size))
      have k6 := to_strA w13 a6 n6 c6 Y (HG7.out.below hB)
      have k7 := to_strA w13 a7 n7 c7 Y hg
      clear hg
      clear hB)
   | (go_at_call 8; (with_reducible refine (LA.out _ HB13.out).mono ?_); rintro e w99 ⟨rfl, hB⟩
      have HB99 := hideL (HB13.out.trans (hB.mono HB13.out.size))
      clear hB))
 go_ret
 exact ⟨rfl, HB99.out⟩
set_option maxRecDepth 100000 in
set_option maxHeartbeats 4000000 in
theorem rmay_7 (m1 t1 p1 q1 o1 : ByteArray) (ha1 : Option Addr) (hn1 hc1 : Nat) (ba1 : Option Addr) (bn1 bc1 : Nat) (m2 t2 p2 q2 o2 : ByteArray) (ha2 : Option Addr) (hn2 hc2 : Nat) (ba2 : Option Addr) (bn2 bc2 : Nat) (s : ByteArray) (x y : Rq) (w0 : World) (h1 : ReqAt w0 ⟨m1, t1, p1, q1, o1, ⟨ha1, hn1, hc1⟩, ⟨ba1, bn1, bc1⟩⟩ x) (h2 : ReqAt w0 ⟨m2, t2, p2, q2, o2, ⟨ha2, hn2, hc2⟩, ⟨ba2, bn2, bc2⟩⟩ y) (z1 : m1.size ≤ reachBytes ∧ t1.size ≤ reachBytes) (z2 : m2.size ≤ reachBytes ∧ t2.size ≤ reachBytes) (ht : (Env w0 ∧ EnvS w0) ∧ EnvT w0) (g1 : lngP (m1.size + t1.size) bn1 x.heads = false) (g2 : lngP (m2.size + t2.size) bn2 y.heads = false) (g3 : ¬ 1000 < s.size) (_g4 : p1.size ≤ reachBytes ∧ q1.size ≤ reachBytes ∧ o1.size ≤ reachBytes) (_g5 : p2.size ≤ reachBytes ∧ q2.size ≤ reachBytes ∧ o2.size ≤ reachBytes) (g6 : ¬ 9000 < p1.size + q1.size + o1.size + p2.size + q2.size + o2.size) (gM : ¬ mayR x) (gE : x = y) :
   Calls Tryz.prog 5 #[.agg #[.string m1, .string t1, .string p1, .string q1, .string o1, .slice ha1 hn1 hc1, .slice ba1 bn1 bc1], .agg #[.string m2, .string t2, .string p2, .string q2, .string o2, .slice ha2 hn2 hc2, .slice ba2 bn2 bc2], .string s] w0 fun e w' => e = .returned (.bool true) ∧ Below w0.heap.size w0 w' := by
 have LA := hideL (fun (W : World) (hb : Below w0.heap.size w0 W) => awake_any W (ht.1.1.next hb) (ht.1.2.next hb))
 have hb1 := (Below.refl w0.heap.size w0).alloc (Nat.le_refl _) (rqQ m1 t1 p1 q1 o1 (.slice ha1 hn1 hc1) (.slice ba1 bn1 bc1))
 have hX := (rq_box w0 m1 t1 p1 q1 o1 (.slice ha1 hn1 hc1) (.slice ba1 bn1 bc1)).next ((Below.refl _ _).alloc (Nat.le_refl _) (rqQ m2 t2 p2 q2 o2 (.slice ha2 hn2 hc2) (.slice ba2 bn2 bc2)))
 have hY := rq_box (w0.alloc (rqQ m1 t1 p1 q1 o1 (.slice ha1 hn1 hc1) (.slice ba1 bn1 bc1))) m2 t2 p2 q2 o2 (.slice ha2 hn2 hc2) (.slice ba2 bn2 bc2)
 rw [World.size_alloc] at hY
 have hb2 := (Below.refl (w0.alloc (rqQ m1 t1 p1 q1 o1 (.slice ha1 hn1 hc1) (.slice ba1 bn1 bc1))).heap.size (w0.alloc (rqQ m1 t1 p1 q1 o1 (.slice ha1 hn1 hc1) (.slice ba1 bn1 bc1)))).alloc (Nat.le_refl _) (rqQ m2 t2 p2 q2 o2 (.slice ha2 hn2 hc2) (.slice ba2 bn2 bc2))
 have HX := hideL hX
 have HY := hideL hY
 have HB1 := hideL (hb1.trans (hb2.mono hb1.size))
 have hs1 : (m1 ++ t1).size = m1.size + t1.size := ByteArray.size_append
 have hs2 : (m2 ++ t2).size = m2.size + t2.size := ByteArray.size_append
 have LL1 := fun (W : World) (hb : Below w0.heap.size w0 W) => rlong_any (m1 ++ t1) ha1 hn1 hc1 ba1 bn1 bc1 x.heads W (h1.2.2.2.2.2.1.below hb)
 have LL2 := fun (W : World) (hb : Below w0.heap.size w0 W) => rlong_any (m2 ++ t2) ha2 hn2 hc2 ba2 bn2 bc2 y.heads W (h2.2.2.2.2.2.1.below hb)
 rw [hs1] at LL1
 rw [hs2] at LL2
 have n1 := max_two z1.1 z1.2
 have n2 := max_two z2.1 z2.2
 have x0 := HX.out.c0
 have x1 := HX.out.c1
 have x2 := HX.out.c2
 have x3 := HX.out.c3
 have x4 := HX.out.c4
 have x5 := HX.out.c5
 have x6 := HX.out.c6
 have y0 := HY.out.c0
 have y1 := HY.out.c1
 have y2 := HY.out.c2
 have y3 := HY.out.c3
 have y4 := HY.out.c4
 have y5 := HY.out.c5
 have y6 := HY.out.c6
 rw [g1] at LL1
 rw [g2] at LL2
 have LL1 := hideL LL1
 have LL2 := hideL LL2
 have i3 : ¬ (1000 : Int) < (s.size : Int) := by omega
 have i3d : decide ((1000 : Int) < (s.size : Int)) = false := decide_eq_false i3
 have hml : reachBytes ≤ 1000000000000000 := by decide
 have v1 : IntKind.i64.wrap ((p1.size : Int) + (q1.size : Int)) = (p1.size : Int) + (q1.size : Int) := by rw [IntWalk.i64_in _ (by omega)]
 have v2 : IntKind.i64.wrap ((p1.size : Int) + (q1.size : Int) + (o1.size : Int)) = (p1.size : Int) + (q1.size : Int) + (o1.size : Int) := by rw [IntWalk.i64_in _ (by omega)]
 have v3 : IntKind.i64.wrap ((p1.size : Int) + (q1.size : Int) + (o1.size : Int) + (p2.size : Int)) = (p1.size : Int) + (q1.size : Int) + (o1.size : Int) + (p2.size : Int) := by rw [IntWalk.i64_in _ (by omega)]
 have v4 : IntKind.i64.wrap ((p1.size : Int) + (q1.size : Int) + (o1.size : Int) + (p2.size : Int) + (q2.size : Int)) = (p1.size : Int) + (q1.size : Int) + (o1.size : Int) + (p2.size : Int) + (q2.size : Int) := by rw [IntWalk.i64_in _ (by omega)]
 have v5 : IntKind.i64.wrap ((p1.size : Int) + (q1.size : Int) + (o1.size : Int) + (p2.size : Int) + (q2.size : Int) + (o2.size : Int)) = (p1.size : Int) + (q1.size : Int) + (o1.size : Int) + (p2.size : Int) + (q2.size : Int) + (o2.size : Int) := by rw [IntWalk.i64_in _ (by omega)]
 have i4 : ¬ (9000 : Int) < (p1.size : Int) + (q1.size : Int) + (o1.size : Int) + (p2.size : Int) + (q2.size : Int) + (o2.size : Int) := by omega
 have i4d : decide ((9000 : Int) < (p1.size : Int) + (q1.size : Int) + (o1.size : Int) + (p2.size : Int) + (q2.size : Int) + (o2.size : Int)) = false := decide_eq_false i4
 obtain ⟨l1, l2, l3⟩ := lngP_no g1
 obtain ⟨k1, k2, k3⟩ := lngP_no g2
 have f1 := longP_fits l3
 have f2 := longP_fits k3
 have e1 := (longP_no l3).1
 have e2 := (longP_no k3).1
 have hbx : bn1 = x.body.length := h1.2.2.2.2.2.2.le.1
 have hby : bn2 = y.body.length := h2.2.2.2.2.2.2.le.1
 have LM := hideL (fun (W : World) (hb : Below w0.heap.size w0 W) => may_any m1 t1 p1 q1 o1 ha1 hn1 hc1 ba1 bn1 bc1 x W (h1.below hb) f1 (by omega) (by omega) (by omega) (ht.1.1.next hb) (ht.1.2.next hb))
 have LRM := hideL (fun (W : World) (hb : Below w0.heap.size w0 W) => rmay_any m1 t1 p1 q1 o1 ha1 hn1 hc1 ba1 bn1 bc1 x W (h1.below hb) f1 (by omega) (by omega) (by omega))
 have LS := hideL (fun (W : World) (hb : Below w0.heap.size w0 W) => sameQC m1 t1 p1 q1 o1 m2 t2 p2 q2 o2 ha1 hn1 hc1 ba1 bn1 bc1 ha2 hn2 hc2 ba2 bn2 bc2 x y W (h1.below hb) (h2.below hb) (by omega))
 have LRS := hideL (fun (W : World) (hb : Below w0.heap.size w0 W) => sameRqC m1 t1 p1 q1 o1 m2 t2 p2 q2 o2 ha1 hn1 hc1 ba1 bn1 bc1 ha2 hn2 hc2 ba2 bn2 bc2 x y W (h1.below hb) (h2.below hb) (by omega))
 have LH := hideL (fun (W : World) (hb : Below w0.heap.size w0 W) => mayHost_any s (by omega) W (ht.1.1.next hb) (ht.1.2.next hb))
 have LRH := fun (W : World) => hostR_any s W
 simp only [hstA] at LRH
 obtain ⟨⟨good, port⟩, hP⟩ : ∃ r, hosP s.data.toList = r := ⟨_, rfl⟩
 rw [hP] at LH LRH
 have LRH := hideL LRH
 have LBY := hideL (fun (W : World) (hb : Below w0.heap.size w0 W) => bytes_badC gM m1 t1 p1 q1 o1 ha1 hn1 hc1 ba1 bn1 bc1 W (h1.below hb) f1 (by omega) (by omega) (by omega) (ht.1.1.next hb) (ht.1.2.next hb))
 have GM := hideL gM
 have GE := hideL gE
 clear h1 h2 z1 z2 ht hs1 hs2 hb1 hb2 hX hY g1 g2 g3 _g4 _g5 g6 hml l1 l2 l3 k1 k2 k3 f1 f2 e1 e2 hbx hby hP gM gE
 go_enter Tryz.func5, Tryz.ntmps5
 go_wp2_with (first
   | (go_at_call 12; (with_reducible refine (LL1.out _ HB1.out).mono ?_); rintro e w2 ⟨rfl, hB⟩
      clear x0 x1 x2 x3 x4 x5 x6 y0 y1 y2 y3 y4 y5 y6
      have HX := hideL (HX.out.next hB)
      have HY := hideL (HY.out.next hB)
      have x0 := HX.out.c0
      have x1 := HX.out.c1
      have x2 := HX.out.c2
      have x3 := HX.out.c3
      have x4 := HX.out.c4
      have x5 := HX.out.c5
      have x6 := HX.out.c6
      have y0 := HY.out.c0
      have y1 := HY.out.c1
      have y2 := HY.out.c2
      have y3 := HY.out.c3
      have y4 := HY.out.c4
      have y5 := HY.out.c5
      have y6 := HY.out.c6
      have HB2 := hideL (HB1.out.trans (hB.mono HB1.out.size))
      clear hB)
   | (go_at_call 12; (with_reducible refine (LL2.out _ HB2.out).mono ?_); rintro e w3 ⟨rfl, hB⟩
      clear x0 x1 x2 x3 x4 x5 x6 y0 y1 y2 y3 y4 y5 y6
      have HX := hideL (HX.out.next hB)
      have HY := hideL (HY.out.next hB)
      have x0 := HX.out.c0
      have x1 := HX.out.c1
      have x2 := HX.out.c2
      have x3 := HX.out.c3
      have x4 := HX.out.c4
      have x5 := HX.out.c5
      have x6 := HX.out.c6
      have y0 := HY.out.c0
      have y1 := HY.out.c1
      have y2 := HY.out.c2
      have y3 := HY.out.c3
      have y4 := HY.out.c4
      have y5 := HY.out.c5
      have y6 := HY.out.c6
      have HB3 := hideL (HB2.out.trans (hB.mono HB2.out.size))
      clear hB)
   | (go_at_call 17; (with_reducible refine (LRH.out _).mono ?_); rintro e w4 ⟨rfl, hB⟩
      clear x0 x1 x2 x3 x4 x5 x6 y0 y1 y2 y3 y4 y5 y6
      have HX := hideL (HX.out.next hB)
      have HY := hideL (HY.out.next hB)
      have x0 := HX.out.c0
      have x1 := HX.out.c1
      have x2 := HX.out.c2
      have x3 := HX.out.c3
      have x4 := HX.out.c4
      have x5 := HX.out.c5
      have x6 := HX.out.c6
      have y0 := HY.out.c0
      have y1 := HY.out.c1
      have y2 := HY.out.c2
      have y3 := HY.out.c3
      have y4 := HY.out.c4
      have y5 := HY.out.c5
      have y6 := HY.out.c6
      have HB4 := hideL (HB3.out.trans (hB.mono HB3.out.size))
      clear hB))
 have hdr := (Below.refl w4.heap.size w4).drew
 have HX5 := hideL (HX.out.next hdr)
 have HY5 := hideL (HY.out.next hdr)
 have HB5 := hideL (HB4.out.trans (hdr.mono HB4.out.size))
 clear hdr n1 n2 v1 v2 v3 v4 v5 i3 i3d i4 i4d HX HY x0 x1 x2 x3 x4 x5 x6 y0 y1 y2 y3 y4 y5 y6
 refine wp_region_held_drew (S := fun w' => RBox7 26 w' w0.heap.size (.string m1) (.string t1) (.string p1) (.string q1) (.string o1) (.slice ha1 hn1 hc1) (.slice ba1 bn1 bc1) ∧ RBox7 26 w' (w0.heap.size + 1) (.string m2) (.string t2) (.string p2) (.string q2) (.string o2) (.slice ha2 hn2 hc2) (.slice ba2 bn2 bc2)) (by kernel_rfl) ⟨HX5.out, HY5.out⟩ (fun hHeld => ?_)
 refine tm 0 (v := ?_) rfl hHeld ?_ ?_
 rotate_left
 · intro w hSw; (try dsimp only at hSw); have p0 := hSw.1.c0; have p1 := hSw.1.c1; have p2 := hSw.1.c2; have p3 := hSw.1.c3; have p4 := hSw.1.c4; have p5 := hSw.1.c5; have p6 := hSw.1.c6; have r0 := hSw.2.c0; have r1 := hSw.2.c1; have r2 := hSw.2.c2; have r3 := hSw.2.c3; have r4 := hSw.2.c4; have r5 := hSw.2.c5; have r6 := hSw.2.c6; go_simp; first | done | with_reducible rfl
 try simp only [pA, pB, pC, pD]
 refine tm 2 (v := ?_) rfl hHeld ?_ ?_
 rotate_left
 · intro w hSw; (try dsimp only at hSw); have p0 := hSw.1.c0; have p1 := hSw.1.c1; have p2 := hSw.1.c2; have p3 := hSw.1.c3; have p4 := hSw.1.c4; have p5 := hSw.1.c5; have p6 := hSw.1.c6; have r0 := hSw.2.c0; have r1 := hSw.2.c1; have r2 := hSw.2.c2; have r3 := hSw.2.c3; have r4 := hSw.2.c4; have r5 := hSw.2.c5; have r6 := hSw.2.c6; go_simp; first | done | with_reducible rfl
 try simp only [pA, pB, pC, pD]
 refine wpAnyH_ready (rs := [1]) (by kernel_rfl) (by simp) ?_
 refine aC rfl (fun K hK => ?_)
 clear hHeld
 go_simp
 (with_reducible refine (LM.out _ HB5.out).mono ?_)
 rintro e w6 ⟨⟨zz, rfl, hzz⟩, hB⟩
 obtain rfl : zz = false := Bool.eq_false_iff.2 (fun h => GM.out (hzz.1 h))
 clear hzz
 have HX6 := hideL (HX5.out.next hB)
 have HY6 := hideL (HY5.out.next hB)
 have HB6 := hideL (HB5.out.trans (hB.mono HB5.out.size))
 clear hB
 refine hK.out _ _ (⟨HX6.out, HY6.out⟩) (fun hHeld => ?_)
 clear hK K
 try simp only [pA, pB, pC, pD]
 refine wpAnyH_ready (rs := [3]) (by kernel_rfl) (by simp) ?_
 refine aC rfl (fun K hK => ?_)
 clear hHeld
 go_simp
 (with_reducible refine (LRM.out _ HB6.out).mono ?_)
 rintro e w7 ⟨⟨zz, rfl, hzz⟩, hB⟩
 obtain rfl : zz = false := Bool.eq_false_iff.2 (fun h => GM.out (hzz.1 h))
 clear hzz
 have HX7 := hideL (HX6.out.next hB)
 have HY7 := hideL (HY6.out.next hB)
 have HB7 := hideL (HB6.out.trans (hB.mono HB6.out.size))
 clear hB
 refine hK.out _ _ (⟨HX7.out, HY7.out⟩) (fun hHeld => ?_)
 clear hK K
 try simp only [pA, pB, pC, pD]
 refine tl 4 rfl hHeld ?_
 try simp only [pA, pB, pC, pD]
 refine tl 5 rfl hHeld ?_
 try simp only [pA, pB, pC, pD]
 refine tm 6 (v := ?_) rfl hHeld ?_ ?_
 rotate_left
 · intro w hSw; (try dsimp only at hSw); have p0 := hSw.1.c0; have p1 := hSw.1.c1; have p2 := hSw.1.c2; have p3 := hSw.1.c3; have p4 := hSw.1.c4; have p5 := hSw.1.c5; have p6 := hSw.1.c6; have r0 := hSw.2.c0; have r1 := hSw.2.c1; have r2 := hSw.2.c2; have r3 := hSw.2.c3; have r4 := hSw.2.c4; have r5 := hSw.2.c5; have r6 := hSw.2.c6; go_simp; first | done | with_reducible rfl
 try simp only [pA, pB, pC, pD]
 refine tm 7 (v := ?_) rfl hHeld ?_ ?_
 rotate_left
 · intro w hSw; (try dsimp only at hSw); have p0 := hSw.1.c0; have p1 := hSw.1.c1; have p2 := hSw.1.c2; have p3 := hSw.1.c3; have p4 := hSw.1.c4; have p5 := hSw.1.c5; have p6 := hSw.1.c6; have r0 := hSw.2.c0; have r1 := hSw.2.c1; have r2 := hSw.2.c2; have r3 := hSw.2.c3; have r4 := hSw.2.c4; have r5 := hSw.2.c5; have r6 := hSw.2.c6; go_simp; first | done | with_reducible rfl
 try simp only [pA, pB, pC, pD]
 refine tm 9 (v := ?_) rfl hHeld ?_ ?_
 rotate_left
 · intro w hSw; (try dsimp only at hSw); have p0 := hSw.1.c0; have p1 := hSw.1.c1; have p2 := hSw.1.c2; have p3 := hSw.1.c3; have p4 := hSw.1.c4; have p5 := hSw.1.c5; have p6 := hSw.1.c6; have r0 := hSw.2.c0; have r1 := hSw.2.c1; have r2 := hSw.2.c2; have r3 := hSw.2.c3; have r4 := hSw.2.c4; have r5 := hSw.2.c5; have r6 := hSw.2.c6; go_simp; first | done | with_reducible rfl
 try simp only [pA, pB, pC, pD]
 refine tm 10 (v := ?_) rfl hHeld ?_ ?_
 rotate_left
 · intro w hSw; (try dsimp only at hSw); have p0 := hSw.1.c0; have p1 := hSw.1.c1; have p2 := hSw.1.c2; have p3 := hSw.1.c3; have p4 := hSw.1.c4; have p5 := hSw.1.c5; have p6 := hSw.1.c6; have r0 := hSw.2.c0; have r1 := hSw.2.c1; have r2 := hSw.2.c2; have r3 := hSw.2.c3; have r4 := hSw.2.c4; have r5 := hSw.2.c5; have r6 := hSw.2.c6; go_simp; first | done | with_reducible rfl
 try simp only [pA, pB, pC, pD]
 refine wpAnyH_ready (rs := [8]) (by kernel_rfl) (by simp) ?_
 refine aC rfl (fun K hK => ?_)
 clear hHeld
 go_simp
 (with_reducible refine (LS.out _ HB7.out).mono ?_)
 rintro e w8 ⟨⟨zz, rfl, hzz⟩, hB⟩
 obtain rfl : zz = true := hzz.2 GE.out
 clear hzz
 have HX8 := hideL (HX7.out.next hB)
 have HY8 := hideL (HY7.out.next hB)
 have HB8 := hideL (HB7.out.trans (hB.mono HB7.out.size))
 clear hB
 refine hK.out _ _ (⟨HX8.out, HY8.out⟩) (fun hHeld => ?_)
 clear hK K
 try simp only [pA, pB, pC, pD]
 refine wpAnyH_ready (rs := [11]) (by kernel_rfl) (by simp) ?_
 refine aC rfl (fun K hK => ?_)
 clear hHeld
 go_simp
 (with_reducible refine (LRS.out _ HB8.out).mono ?_)
 rintro e w9 ⟨⟨zz, rfl, hzz⟩, hB⟩
 obtain rfl : zz = true := hzz.2 GE.out
 clear hzz
 have HX9 := hideL (HX8.out.next hB)
 have HY9 := hideL (HY8.out.next hB)
 have HB9 := hideL (HB8.out.trans (hB.mono HB8.out.size))
 clear hB
 refine hK.out _ _ (⟨HX9.out, HY9.out⟩) (fun hHeld => ?_)
 clear hK K
 try simp only [pA, pB, pC, pD]
 refine tl 12 rfl hHeld ?_
 try simp only [pA, pB, pC, pD]
 refine tl 13 rfl hHeld ?_
 try simp only [pA, pB, pC, pD]
 refine tl 14 rfl hHeld ?_
 try simp only [pA, pB, pC, pD]
 refine tl 15 rfl hHeld ?_
 try simp only [pA, pB, pC, pD]
 refine tl 17 rfl hHeld ?_
 try simp only [pA, pB, pC, pD]
 refine wpAnyH_ready (rs := [16]) (by kernel_rfl) (by simp) ?_
 refine aC rfl (fun K hK => ?_)
 clear hHeld
 go_simp
 (with_reducible refine (LH.out _ HB9.out).mono ?_)
 rintro e w10 ⟨rfl, hB⟩
 have HX10 := hideL (HX9.out.next hB)
 have HY10 := hideL (HY9.out.next hB)
 have HB10 := hideL (HB9.out.trans (hB.mono HB9.out.size))
 clear hB
 refine hK.out _ _ (⟨HX10.out, HY10.out⟩) (fun hHeld => ?_)
 clear hK K
 try simp only [pA, pB, pC, pD]
 refine tl 18 rfl hHeld ?_
 try simp only [pA, pB, pC, pD]
 refine tl 19 rfl hHeld ?_
 try simp only [pA, pB, pC, pD]
 refine wpAnyH_done (by kernel_rfl) ?_ _
 clear hHeld
 have HX := HX10
 have HY := HY10
 clear HX5 HX6 HX7 HX8 HX9 HX10 HY5 HY6 HY7 HY8 HY9 HY10
 have x0 := HX.out.c0
 have x1 := HX.out.c1
 have x2 := HX.out.c2
 have x3 := HX.out.c3
 have x4 := HX.out.c4
 have x5 := HX.out.c5
 have x6 := HX.out.c6
 have y0 := HY.out.c0
 have y1 := HY.out.c1
 have y2 := HY.out.c2
 have y3 := HY.out.c3
 have y4 := HY.out.c4
 have y5 := HY.out.c5
 have y6 := HY.out.c6
 go_wp2_with (first
   | (go_at_call 22; (with_reducible refine (LBY.out _ HB10.out).mono ?_); rintro e w11 ⟨rfl, hB⟩
      clear x0 x1 x2 x3 x4 x5 x6 y0 y1 y2 y3 y4 y5 y6
      have HX := hideL (HX.out.next hB)
      have HY := hideL (HY.out.next hB)
      have x0 := HX.out.c0
      have x1 := HX.out.c1
      have x2 := HX.out.c2
      have x3 := HX.out.c3
      have x4 := HX.out.c4
      have x5 := HX.out.c5
      have x6 := HX.out.c6
      have y0 := HY.out.c0
      have y1 := HY.out.c1
      have y2 := HY.out.c2
      have y3 := HY.out.c3
      have y4 := HY.out.c4
      have y5 := HY.out.c5
      have y6 := HY.out.c6
      have HB11 := hideL (HB10.out.trans (hB.mono HB10.out.size))
      clear hB)
   | (go_at_call 19; (with_reducible refine (LRM.out _ HB11.out).mono ?_); rintro e w12 ⟨⟨zz, rfl, hzz⟩, hB⟩
      clear x0 x1 x2 x3 x4 x5 x6 y0 y1 y2 y3 y4 y5 y6
      have HX := hideL (HX.out.next hB)
      have HY := hideL (HY.out.next hB)
      have x0 := HX.out.c0
      have x1 := HX.out.c1
      have x2 := HX.out.c2
      have x3 := HX.out.c3
      have x4 := HX.out.c4
      have x5 := HX.out.c5
      have x6 := HX.out.c6
      have y0 := HY.out.c0
      have y1 := HY.out.c1
      have y2 := HY.out.c2
      have y3 := HY.out.c3
      have y4 := HY.out.c4
      have y5 := HY.out.c5
      have y6 := HY.out.c6
      have HB12 := hideL (HB11.out.trans (hB.mono HB11.out.size))
      obtain rfl : zz = false := Bool.eq_false_iff.2 (fun h => GM.out (hzz.1 h))
      clear hzz
      clear hB)
   | (go_at_call 8; (with_reducible refine (LA.out _ HB12.out).mono ?_); rintro e w99 ⟨rfl, hB⟩
      have HB99 := hideL (HB12.out.trans (hB.mono HB12.out.size))
      clear hB))
 go_ret
 exact ⟨rfl, HB99.out⟩
set_option maxRecDepth 100000 in
set_option maxHeartbeats 4000000 in
theorem rmay_8 (m1 t1 p1 q1 o1 : ByteArray) (ha1 : Option Addr) (hn1 hc1 : Nat) (ba1 : Option Addr) (bn1 bc1 : Nat) (m2 t2 p2 q2 o2 : ByteArray) (ha2 : Option Addr) (hn2 hc2 : Nat) (ba2 : Option Addr) (bn2 bc2 : Nat) (s : ByteArray) (x y : Rq) (w0 : World) (h1 : ReqAt w0 ⟨m1, t1, p1, q1, o1, ⟨ha1, hn1, hc1⟩, ⟨ba1, bn1, bc1⟩⟩ x) (h2 : ReqAt w0 ⟨m2, t2, p2, q2, o2, ⟨ha2, hn2, hc2⟩, ⟨ba2, bn2, bc2⟩⟩ y) (z1 : m1.size ≤ reachBytes ∧ t1.size ≤ reachBytes) (z2 : m2.size ≤ reachBytes ∧ t2.size ≤ reachBytes) (ht : (Env w0 ∧ EnvS w0) ∧ EnvT w0) (g1 : lngP (m1.size + t1.size) bn1 x.heads = false) (g2 : lngP (m2.size + t2.size) bn2 y.heads = false) (g3 : ¬ 1000 < s.size) (_g4 : p1.size ≤ reachBytes ∧ q1.size ≤ reachBytes ∧ o1.size ≤ reachBytes) (_g5 : p2.size ≤ reachBytes ∧ q2.size ≤ reachBytes ∧ o2.size ≤ reachBytes) (g6 : ¬ 9000 < p1.size + q1.size + o1.size + p2.size + q2.size + o2.size) (gM : ¬ mayR x) (gE : x ≠ y) :
   Calls Tryz.prog 5 #[.agg #[.string m1, .string t1, .string p1, .string q1, .string o1, .slice ha1 hn1 hc1, .slice ba1 bn1 bc1], .agg #[.string m2, .string t2, .string p2, .string q2, .string o2, .slice ha2 hn2 hc2, .slice ba2 bn2 bc2], .string s] w0 fun e w' => e = .returned (.bool true) ∧ Below w0.heap.size w0 w' := by
 have LA := hideL (fun (W : World) (hb : Below w0.heap.size w0 W) => awake_any W (ht.1.1.next hb) (ht.1.2.next hb))
 have hb1 := (Below.refl w0.heap.size w0).alloc (Nat.le_refl _) (rqQ m1 t1 p1 q1 o1 (.slice ha1 hn1 hc1) (.slice ba1 bn1 bc1))
 have hX := (rq_box w0 m1 t1 p1 q1 o1 (.slice ha1 hn1 hc1) (.slice ba1 bn1 bc1)).next ((Below.refl _ _).alloc (Nat.le_refl _) (rqQ m2 t2 p2 q2 o2 (.slice ha2 hn2 hc2) (.slice ba2 bn2 bc2)))
 have hY := rq_box (w0.alloc (rqQ m1 t1 p1 q1 o1 (.slice ha1 hn1 hc1) (.slice ba1 bn1 bc1))) m2 t2 p2 q2 o2 (.slice ha2 hn2 hc2) (.slice ba2 bn2 bc2)
 rw [World.size_alloc] at hY
 have hb2 := (Below.refl (w0.alloc (rqQ m1 t1 p1 q1 o1 (.slice ha1 hn1 hc1) (.slice ba1 bn1 bc1))).heap.size (w0.alloc (rqQ m1 t1 p1 q1 o1 (.slice ha1 hn1 hc1) (.slice ba1 bn1 bc1)))).alloc (Nat.le_refl _) (rqQ m2 t2 p2 q2 o2 (.slice ha2 hn2 hc2) (.slice ba2 bn2 bc2))
 have HX := hideL hX
 have HY := hideL hY
 have HB1 := hideL (hb1.trans (hb2.mono hb1.size))
 have hs1 : (m1 ++ t1).size = m1.size + t1.size := ByteArray.size_append
 have hs2 : (m2 ++ t2).size = m2.size + t2.size := ByteArray.size_append
 have LL1 := fun (W : World) (hb : Below w0.heap.size w0 W) => rlong_any (m1 ++ t1) ha1 hn1 hc1 ba1 bn1 bc1 x.heads W (h1.2.2.2.2.2.1.below hb)
 have LL2 := fun (W : World) (hb : Below w0.heap.size w0 W) => rlong_any (m2 ++ t2) ha2 hn2 hc2 ba2 bn2 bc2 y.heads W (h2.2.2.2.2.2.1.below hb)
 rw [hs1] at LL1
 rw [hs2] at LL2
 have n1 := max_two z1.1 z1.2
 have n2 := max_two z2.1 z2.2
 have x0 := HX.out.c0
 have x1 := HX.out.c1
 have x2 := HX.out.c2
 have x3 := HX.out.c3
 have x4 := HX.out.c4
 have x5 := HX.out.c5
 have x6 := HX.out.c6
 have y0 := HY.out.c0
 have y1 := HY.out.c1
 have y2 := HY.out.c2
 have y3 := HY.out.c3
 have y4 := HY.out.c4
 have y5 := HY.out.c5
 have y6 := HY.out.c6
 rw [g1] at LL1
 rw [g2] at LL2
 have LL1 := hideL LL1
 have LL2 := hideL LL2
 have i3 : ¬ (1000 : Int) < (s.size : Int) := by omega
 have i3d : decide ((1000 : Int) < (s.size : Int)) = false := decide_eq_false i3
 have hml : reachBytes ≤ 1000000000000000 := by decide
 have v1 : IntKind.i64.wrap ((p1.size : Int) + (q1.size : Int)) = (p1.size : Int) + (q1.size : Int) := by rw [IntWalk.i64_in _ (by omega)]
 have v2 : IntKind.i64.wrap ((p1.size : Int) + (q1.size : Int) + (o1.size : Int)) = (p1.size : Int) + (q1.size : Int) + (o1.size : Int) := by rw [IntWalk.i64_in _ (by omega)]
 have v3 : IntKind.i64.wrap ((p1.size : Int) + (q1.size : Int) + (o1.size : Int) + (p2.size : Int)) = (p1.size : Int) + (q1.size : Int) + (o1.size : Int) + (p2.size : Int) := by rw [IntWalk.i64_in _ (by omega)]
 have v4 : IntKind.i64.wrap ((p1.size : Int) + (q1.size : Int) + (o1.size : Int) + (p2.size : Int) + (q2.size : Int)) = (p1.size : Int) + (q1.size : Int) + (o1.size : Int) + (p2.size : Int) + (q2.size : Int) := by rw [IntWalk.i64_in _ (by omega)]
 have v5 : IntKind.i64.wrap ((p1.size : Int) + (q1.size : Int) + (o1.size : Int) + (p2.size : Int) + (q2.size : Int) + (o2.size : Int)) = (p1.size : Int) + (q1.size : Int) + (o1.size : Int) + (p2.size : Int) + (q2.size : Int) + (o2.size : Int) := by rw [IntWalk.i64_in _ (by omega)]
 have i4 : ¬ (9000 : Int) < (p1.size : Int) + (q1.size : Int) + (o1.size : Int) + (p2.size : Int) + (q2.size : Int) + (o2.size : Int) := by omega
 have i4d : decide ((9000 : Int) < (p1.size : Int) + (q1.size : Int) + (o1.size : Int) + (p2.size : Int) + (q2.size : Int) + (o2.size : Int)) = false := decide_eq_false i4
 obtain ⟨l1, l2, l3⟩ := lngP_no g1
 obtain ⟨k1, k2, k3⟩ := lngP_no g2
 have f1 := longP_fits l3
 have f2 := longP_fits k3
 have e1 := (longP_no l3).1
 have e2 := (longP_no k3).1
 have hbx : bn1 = x.body.length := h1.2.2.2.2.2.2.le.1
 have hby : bn2 = y.body.length := h2.2.2.2.2.2.2.le.1
 have LM := hideL (fun (W : World) (hb : Below w0.heap.size w0 W) => may_any m1 t1 p1 q1 o1 ha1 hn1 hc1 ba1 bn1 bc1 x W (h1.below hb) f1 (by omega) (by omega) (by omega) (ht.1.1.next hb) (ht.1.2.next hb))
 have LRM := hideL (fun (W : World) (hb : Below w0.heap.size w0 W) => rmay_any m1 t1 p1 q1 o1 ha1 hn1 hc1 ba1 bn1 bc1 x W (h1.below hb) f1 (by omega) (by omega) (by omega))
 have LS := hideL (fun (W : World) (hb : Below w0.heap.size w0 W) => sameQC m1 t1 p1 q1 o1 m2 t2 p2 q2 o2 ha1 hn1 hc1 ba1 bn1 bc1 ha2 hn2 hc2 ba2 bn2 bc2 x y W (h1.below hb) (h2.below hb) (by omega))
 have LRS := hideL (fun (W : World) (hb : Below w0.heap.size w0 W) => sameRqC m1 t1 p1 q1 o1 m2 t2 p2 q2 o2 ha1 hn1 hc1 ba1 bn1 bc1 ha2 hn2 hc2 ba2 bn2 bc2 x y W (h1.below hb) (h2.below hb) (by omega))
 have LH := hideL (fun (W : World) (hb : Below w0.heap.size w0 W) => mayHost_any s (by omega) W (ht.1.1.next hb) (ht.1.2.next hb))
 have LRH := fun (W : World) => hostR_any s W
 simp only [hstA] at LRH
 obtain ⟨⟨good, port⟩, hP⟩ : ∃ r, hosP s.data.toList = r := ⟨_, rfl⟩
 rw [hP] at LH LRH
 have LRH := hideL LRH
 have LBY := hideL (fun (W : World) (hb : Below w0.heap.size w0 W) => bytes_badC gM m1 t1 p1 q1 o1 ha1 hn1 hc1 ba1 bn1 bc1 W (h1.below hb) f1 (by omega) (by omega) (by omega) (ht.1.1.next hb) (ht.1.2.next hb))
 have GM := hideL gM
 have GE := hideL gE
 clear h1 h2 z1 z2 ht hs1 hs2 hb1 hb2 hX hY g1 g2 g3 _g4 _g5 g6 hml l1 l2 l3 k1 k2 k3 f1 f2 e1 e2 hbx hby hP gM gE
 go_enter Tryz.func5, Tryz.ntmps5
 go_wp2_with (first
   | (go_at_call 12; (with_reducible refine (LL1.out _ HB1.out).mono ?_); rintro e w2 ⟨rfl, hB⟩
      clear x0 x1 x2 x3 x4 x5 x6 y0 y1 y2 y3 y4 y5 y6
      have HX := hideL (HX.out.next hB)
      have HY := hideL (HY.out.next hB)
      have x0 := HX.out.c0
      have x1 := HX.out.c1
      have x2 := HX.out.c2
      have x3 := HX.out.c3
      have x4 := HX.out.c4
      have x5 := HX.out.c5
      have x6 := HX.out.c6
      have y0 := HY.out.c0
      have y1 := HY.out.c1
      have y2 := HY.out.c2
      have y3 := HY.out.c3
      have y4 := HY.out.c4
      have y5 := HY.out.c5
      have y6 := HY.out.c6
      have HB2 := hideL (HB1.out.trans (hB.mono HB1.out.size))
      clear hB)
   | (go_at_call 12; (with_reducible refine (LL2.out _ HB2.out).mono ?_); rintro e w3 ⟨rfl, hB⟩
      clear x0 x1 x2 x3 x4 x5 x6 y0 y1 y2 y3 y4 y5 y6
      have HX := hideL (HX.out.next hB)
      have HY := hideL (HY.out.next hB)
      have x0 := HX.out.c0
      have x1 := HX.out.c1
      have x2 := HX.out.c2
      have x3 := HX.out.c3
      have x4 := HX.out.c4
      have x5 := HX.out.c5
      have x6 := HX.out.c6
      have y0 := HY.out.c0
      have y1 := HY.out.c1
      have y2 := HY.out.c2
      have y3 := HY.out.c3
      have y4 := HY.out.c4
      have y5 := HY.out.c5
      have y6 := HY.out.c6
      have HB3 := hideL (HB2.out.trans (hB.mono HB2.out.size))
      clear hB)
   | (go_at_call 17; (with_reducible refine (LRH.out _).mono ?_); rintro e w4 ⟨rfl, hB⟩
      clear x0 x1 x2 x3 x4 x5 x6 y0 y1 y2 y3 y4 y5 y6
      have HX := hideL (HX.out.next hB)
      have HY := hideL (HY.out.next hB)
      have x0 := HX.out.c0
      have x1 := HX.out.c1
      have x2 := HX.out.c2
      have x3 := HX.out.c3
      have x4 := HX.out.c4
      have x5 := HX.out.c5
      have x6 := HX.out.c6
      have y0 := HY.out.c0
      have y1 := HY.out.c1
      have y2 := HY.out.c2
      have y3 := HY.out.c3
      have y4 := HY.out.c4
      have y5 := HY.out.c5
      have y6 := HY.out.c6
      have HB4 := hideL (HB3.out.trans (hB.mono HB3.out.size))
      clear hB))
 have hdr := (Below.refl w4.heap.size w4).drew
 have HX5 := hideL (HX.out.next hdr)
 have HY5 := hideL (HY.out.next hdr)
 have HB5 := hideL (HB4.out.trans (hdr.mono HB4.out.size))
 clear hdr n1 n2 v1 v2 v3 v4 v5 i3 i3d i4 i4d HX HY x0 x1 x2 x3 x4 x5 x6 y0 y1 y2 y3 y4 y5 y6
 refine wp_region_held_drew (S := fun w' => RBox7 26 w' w0.heap.size (.string m1) (.string t1) (.string p1) (.string q1) (.string o1) (.slice ha1 hn1 hc1) (.slice ba1 bn1 bc1) ∧ RBox7 26 w' (w0.heap.size + 1) (.string m2) (.string t2) (.string p2) (.string q2) (.string o2) (.slice ha2 hn2 hc2) (.slice ba2 bn2 bc2)) (by kernel_rfl) ⟨HX5.out, HY5.out⟩ (fun hHeld => ?_)
 refine tm 0 (v := ?_) rfl hHeld ?_ ?_
 rotate_left
 · intro w hSw; (try dsimp only at hSw); have p0 := hSw.1.c0; have p1 := hSw.1.c1; have p2 := hSw.1.c2; have p3 := hSw.1.c3; have p4 := hSw.1.c4; have p5 := hSw.1.c5; have p6 := hSw.1.c6; have r0 := hSw.2.c0; have r1 := hSw.2.c1; have r2 := hSw.2.c2; have r3 := hSw.2.c3; have r4 := hSw.2.c4; have r5 := hSw.2.c5; have r6 := hSw.2.c6; go_simp; first | done | with_reducible rfl
 try simp only [pA, pB, pC, pD]
 refine tm 2 (v := ?_) rfl hHeld ?_ ?_
 rotate_left
 · intro w hSw; (try dsimp only at hSw); have p0 := hSw.1.c0; have p1 := hSw.1.c1; have p2 := hSw.1.c2; have p3 := hSw.1.c3; have p4 := hSw.1.c4; have p5 := hSw.1.c5; have p6 := hSw.1.c6; have r0 := hSw.2.c0; have r1 := hSw.2.c1; have r2 := hSw.2.c2; have r3 := hSw.2.c3; have r4 := hSw.2.c4; have r5 := hSw.2.c5; have r6 := hSw.2.c6; go_simp; first | done | with_reducible rfl
 try simp only [pA, pB, pC, pD]
 refine wpAnyH_ready (rs := [1]) (by kernel_rfl) (by simp) ?_
 refine aC rfl (fun K hK => ?_)
 clear hHeld
 go_simp
 (with_reducible refine (LM.out _ HB5.out).mono ?_)
 rintro e w6 ⟨⟨zz, rfl, hzz⟩, hB⟩
 obtain rfl : zz = false := Bool.eq_false_iff.2 (fun h => GM.out (hzz.1 h))
 clear hzz
 have HX6 := hideL (HX5.out.next hB)
 have HY6 := hideL (HY5.out.next hB)
 have HB6 := hideL (HB5.out.trans (hB.mono HB5.out.size))
 clear hB
 refine hK.out _ _ (⟨HX6.out, HY6.out⟩) (fun hHeld => ?_)
 clear hK K
 try simp only [pA, pB, pC, pD]
 refine wpAnyH_ready (rs := [3]) (by kernel_rfl) (by simp) ?_
 refine aC rfl (fun K hK => ?_)
 clear hHeld
 go_simp
 (with_reducible refine (LRM.out _ HB6.out).mono ?_)
 rintro e w7 ⟨⟨zz, rfl, hzz⟩, hB⟩
 obtain rfl : zz = false := Bool.eq_false_iff.2 (fun h => GM.out (hzz.1 h))
 clear hzz
 have HX7 := hideL (HX6.out.next hB)
 have HY7 := hideL (HY6.out.next hB)
 have HB7 := hideL (HB6.out.trans (hB.mono HB6.out.size))
 clear hB
 refine hK.out _ _ (⟨HX7.out, HY7.out⟩) (fun hHeld => ?_)
 clear hK K
 try simp only [pA, pB, pC, pD]
 refine tl 4 rfl hHeld ?_
 try simp only [pA, pB, pC, pD]
 refine tl 5 rfl hHeld ?_
 try simp only [pA, pB, pC, pD]
 refine tm 6 (v := ?_) rfl hHeld ?_ ?_
 rotate_left
 · intro w hSw; (try dsimp only at hSw); have p0 := hSw.1.c0; have p1 := hSw.1.c1; have p2 := hSw.1.c2; have p3 := hSw.1.c3; have p4 := hSw.1.c4; have p5 := hSw.1.c5; have p6 := hSw.1.c6; have r0 := hSw.2.c0; have r1 := hSw.2.c1; have r2 := hSw.2.c2; have r3 := hSw.2.c3; have r4 := hSw.2.c4; have r5 := hSw.2.c5; have r6 := hSw.2.c6; go_simp; first | done | with_reducible rfl
 try simp only [pA, pB, pC, pD]
 refine tm 7 (v := ?_) rfl hHeld ?_ ?_
 rotate_left
 · intro w hSw; (try dsimp only at hSw); have p0 := hSw.1.c0; have p1 := hSw.1.c1; have p2 := hSw.1.c2; have p3 := hSw.1.c3; have p4 := hSw.1.c4; have p5 := hSw.1.c5; have p6 := hSw.1.c6; have r0 := hSw.2.c0; have r1 := hSw.2.c1; have r2 := hSw.2.c2; have r3 := hSw.2.c3; have r4 := hSw.2.c4; have r5 := hSw.2.c5; have r6 := hSw.2.c6; go_simp; first | done | with_reducible rfl
 try simp only [pA, pB, pC, pD]
 refine tm 9 (v := ?_) rfl hHeld ?_ ?_
 rotate_left
 · intro w hSw; (try dsimp only at hSw); have p0 := hSw.1.c0; have p1 := hSw.1.c1; have p2 := hSw.1.c2; have p3 := hSw.1.c3; have p4 := hSw.1.c4; have p5 := hSw.1.c5; have p6 := hSw.1.c6; have r0 := hSw.2.c0; have r1 := hSw.2.c1; have r2 := hSw.2.c2; have r3 := hSw.2.c3; have r4 := hSw.2.c4; have r5 := hSw.2.c5; have r6 := hSw.2.c6; go_simp; first | done | with_reducible rfl
 try simp only [pA, pB, pC, pD]
 refine tm 10 (v := ?_) rfl hHeld ?_ ?_
 rotate_left
 · intro w hSw; (try dsimp only at hSw); have p0 := hSw.1.c0; have p1 := hSw.1.c1; have p2 := hSw.1.c2; have p3 := hSw.1.c3; have p4 := hSw.1.c4; have p5 := hSw.1.c5; have p6 := hSw.1.c6; have r0 := hSw.2.c0; have r1 := hSw.2.c1; have r2 := hSw.2.c2; have r3 := hSw.2.c3; have r4 := hSw.2.c4; have r5 := hSw.2.c5; have r6 := hSw.2.c6; go_simp; first | done | with_reducible rfl
 try simp only [pA, pB, pC, pD]
 refine wpAnyH_ready (rs := [8]) (by kernel_rfl) (by simp) ?_
 refine aC rfl (fun K hK => ?_)
 clear hHeld
 go_simp
 (with_reducible refine (LS.out _ HB7.out).mono ?_)
 rintro e w8 ⟨⟨zz, rfl, hzz⟩, hB⟩
 obtain rfl : zz = false := Bool.eq_false_iff.2 (fun h => GE.out (hzz.1 h))
 clear hzz
 have HX8 := hideL (HX7.out.next hB)
 have HY8 := hideL (HY7.out.next hB)
 have HB8 := hideL (HB7.out.trans (hB.mono HB7.out.size))
 clear hB
 refine hK.out _ _ (⟨HX8.out, HY8.out⟩) (fun hHeld => ?_)
 clear hK K
 try simp only [pA, pB, pC, pD]
 refine wpAnyH_ready (rs := [11]) (by kernel_rfl) (by simp) ?_
 refine aC rfl (fun K hK => ?_)
 clear hHeld
 go_simp
 (with_reducible refine (LRS.out _ HB8.out).mono ?_)
 rintro e w9 ⟨⟨zz, rfl, hzz⟩, hB⟩
 obtain rfl : zz = false := Bool.eq_false_iff.2 (fun h => GE.out (hzz.1 h))
 clear hzz
 have HX9 := hideL (HX8.out.next hB)
 have HY9 := hideL (HY8.out.next hB)
 have HB9 := hideL (HB8.out.trans (hB.mono HB8.out.size))
 clear hB
 refine hK.out _ _ (⟨HX9.out, HY9.out⟩) (fun hHeld => ?_)
 clear hK K
 try simp only [pA, pB, pC, pD]
 refine tl 12 rfl hHeld ?_
 try simp only [pA, pB, pC, pD]
 refine tl 13 rfl hHeld ?_
 try simp only [pA, pB, pC, pD]
 refine tl 14 rfl hHeld ?_
 try simp only [pA, pB, pC, pD]
 refine tl 15 rfl hHeld ?_
 try simp only [pA, pB, pC, pD]
 refine tl 17 rfl hHeld ?_
 try simp only [pA, pB, pC, pD]
 refine wpAnyH_ready (rs := [16]) (by kernel_rfl) (by simp) ?_
 refine aC rfl (fun K hK => ?_)
 clear hHeld
 go_simp
 (with_reducible refine (LH.out _ HB9.out).mono ?_)
 rintro e w10 ⟨rfl, hB⟩
 have HX10 := hideL (HX9.out.next hB)
 have HY10 := hideL (HY9.out.next hB)
 have HB10 := hideL (HB9.out.trans (hB.mono HB9.out.size))
 clear hB
 refine hK.out _ _ (⟨HX10.out, HY10.out⟩) (fun hHeld => ?_)
 clear hK K
 try simp only [pA, pB, pC, pD]
 refine tl 18 rfl hHeld ?_
 try simp only [pA, pB, pC, pD]
 refine tl 19 rfl hHeld ?_
 try simp only [pA, pB, pC, pD]
 refine wpAnyH_done (by kernel_rfl) ?_ _
 clear hHeld
 have HX := HX10
 have HY := HY10
 clear HX5 HX6 HX7 HX8 HX9 HX10 HY5 HY6 HY7 HY8 HY9 HY10
 have x0 := HX.out.c0
 have x1 := HX.out.c1
 have x2 := HX.out.c2
 have x3 := HX.out.c3
 have x4 := HX.out.c4
 have x5 := HX.out.c5
 have x6 := HX.out.c6
 have y0 := HY.out.c0
 have y1 := HY.out.c1
 have y2 := HY.out.c2
 have y3 := HY.out.c3
 have y4 := HY.out.c4
 have y5 := HY.out.c5
 have y6 := HY.out.c6
 go_wp2_with (first
   | (go_at_call 22; (with_reducible refine (LBY.out _ HB10.out).mono ?_); rintro e w11 ⟨rfl, hB⟩
      clear x0 x1 x2 x3 x4 x5 x6 y0 y1 y2 y3 y4 y5 y6
      have HX := hideL (HX.out.next hB)
      have HY := hideL (HY.out.next hB)
      have x0 := HX.out.c0
      have x1 := HX.out.c1
      have x2 := HX.out.c2
      have x3 := HX.out.c3
      have x4 := HX.out.c4
      have x5 := HX.out.c5
      have x6 := HX.out.c6
      have y0 := HY.out.c0
      have y1 := HY.out.c1
      have y2 := HY.out.c2
      have y3 := HY.out.c3
      have y4 := HY.out.c4
      have y5 := HY.out.c5
      have y6 := HY.out.c6
      have HB11 := hideL (HB10.out.trans (hB.mono HB10.out.size))
      clear hB)
   | (go_at_call 19; (with_reducible refine (LRM.out _ HB11.out).mono ?_); rintro e w12 ⟨⟨zz, rfl, hzz⟩, hB⟩
      clear x0 x1 x2 x3 x4 x5 x6 y0 y1 y2 y3 y4 y5 y6
      have HX := hideL (HX.out.next hB)
      have HY := hideL (HY.out.next hB)
      have x0 := HX.out.c0
      have x1 := HX.out.c1
      have x2 := HX.out.c2
      have x3 := HX.out.c3
      have x4 := HX.out.c4
      have x5 := HX.out.c5
      have x6 := HX.out.c6
      have y0 := HY.out.c0
      have y1 := HY.out.c1
      have y2 := HY.out.c2
      have y3 := HY.out.c3
      have y4 := HY.out.c4
      have y5 := HY.out.c5
      have y6 := HY.out.c6
      have HB12 := hideL (HB11.out.trans (hB.mono HB11.out.size))
      obtain rfl : zz = false := Bool.eq_false_iff.2 (fun h => GM.out (hzz.1 h))
      clear hzz
      clear hB)
   | (go_at_call 8; (with_reducible refine (LA.out _ HB12.out).mono ?_); rintro e w99 ⟨rfl, hB⟩
      have HB99 := hideL (HB12.out.trans (hB.mono HB12.out.size))
      clear hB))
 go_ret
 exact ⟨rfl, HB99.out⟩
theorem rmay_walk (a b : QV) (s : ByteArray) (w : World) (ha0 : ReqOk w a) (z1 : RqSz5 a) (hb0 : ReqOk w b) (z2 : RqSz5 b) (ht : (Env w ∧ EnvS w) ∧ EnvT w) :
   Calls Tryz.prog 5 #[a.v, b.v, .string s] w fun e w' => e = .returned (.bool true) ∧ Below w.heap.size w w' := by
 obtain ⟨x, h1, _, _, _, _⟩ := ha0
 obtain ⟨y, h2, _, _, _, _⟩ := hb0
 obtain ⟨m1, t1, p1, q1, o1, ⟨ha1, hn1, hc1⟩, ⟨ba1, bn1, bc1⟩⟩ := a
 obtain ⟨m2, t2, p2, q2, o2, ⟨ha2, hn2, hc2⟩, ⟨ba2, bn2, bc2⟩⟩ := b
 simp only [Sl.v, QV.v]
 unfold RqSz5 at z1 z2
 obtain ⟨za1, zb1, sp1, sq1, so1⟩ := z1
 obtain ⟨za2, zb2, sp2, sq2, so2⟩ := z2
 simp only at za1 zb1 sp1 sq1 so1 za2 zb2 sp2 sq2 so2
 cases g1 : lngP (m1.size + t1.size) bn1 x.heads with
 | true => exact rmay_1 m1 t1 p1 q1 o1 ha1 hn1 hc1 ba1 bn1 bc1 m2 t2 p2 q2 o2 ha2 hn2 hc2 ba2 bn2 bc2 s x y w h1 h2 ⟨za1, zb1⟩ ⟨za2, zb2⟩ ht g1
 | false =>
   cases g2 : lngP (m2.size + t2.size) bn2 y.heads with
   | true => exact rmay_2 m1 t1 p1 q1 o1 ha1 hn1 hc1 ba1 bn1 bc1 m2 t2 p2 q2 o2 ha2 hn2 hc2 ba2 bn2 bc2 s x y w h1 h2 ⟨za1, zb1⟩ ⟨za2, zb2⟩ ht g1 g2
   | false =>
     by_cases g3 : 1000 < s.size
     · exact rmay_3 m1 t1 p1 q1 o1 ha1 hn1 hc1 ba1 bn1 bc1 m2 t2 p2 q2 o2 ha2 hn2 hc2 ba2 bn2 bc2 s x y w h1 h2 ⟨za1, zb1⟩ ⟨za2, zb2⟩ ht g1 g2 g3
     by_cases g6 : 9000 < p1.size + q1.size + o1.size + p2.size + q2.size + o2.size
     · exact rmay_4 m1 t1 p1 q1 o1 ha1 hn1 hc1 ba1 bn1 bc1 m2 t2 p2 q2 o2 ha2 hn2 hc2 ba2 bn2 bc2 s x y w h1 h2 ⟨za1, zb1⟩ ⟨za2, zb2⟩ ht g1 g2 g3 ⟨sp1, sq1, so1⟩ ⟨sp2, sq2, so2⟩ g6
     by_cases gM : mayR x
     · by_cases gE : x = y
       · exact rmay_5 m1 t1 p1 q1 o1 ha1 hn1 hc1 ba1 bn1 bc1 m2 t2 p2 q2 o2 ha2 hn2 hc2 ba2 bn2 bc2 s x y w h1 h2 ⟨za1, zb1⟩ ⟨za2, zb2⟩ ht g1 g2 g3 ⟨sp1, sq1, so1⟩ ⟨sp2, sq2, so2⟩ g6 gM gE
       · exact rmay_6 m1 t1 p1 q1 o1 ha1 hn1 hc1 ba1 bn1 bc1 m2 t2 p2 q2 o2 ha2 hn2 hc2 ba2 bn2 bc2 s x y w h1 h2 ⟨za1, zb1⟩ ⟨za2, zb2⟩ ht g1 g2 g3 ⟨sp1, sq1, so1⟩ ⟨sp2, sq2, so2⟩ g6 gM gE
     · by_cases gE : x = y
       · exact rmay_7 m1 t1 p1 q1 o1 ha1 hn1 hc1 ba1 bn1 bc1 m2 t2 p2 q2 o2 ha2 hn2 hc2 ba2 bn2 bc2 s x y w h1 h2 ⟨za1, zb1⟩ ⟨za2, zb2⟩ ht g1 g2 g3 ⟨sp1, sq1, so1⟩ ⟨sp2, sq2, so2⟩ g6 gM gE
       · exact rmay_8 m1 t1 p1 q1 o1 ha1 hn1 hc1 ba1 bn1 bc1 m2 t2 p2 q2 o2 ha2 hn2 hc2 ba2 bn2 bc2 s x y w h1 h2 ⟨za1, zb1⟩ ⟨za2, zb2⟩ ht g1 g2 g3 ⟨sp1, sq1, so1⟩ ⟨sp2, sq2, so2⟩ g6 gM gE
end Go.Proofs.YtafmgoekgijfgaaGreatDoor
