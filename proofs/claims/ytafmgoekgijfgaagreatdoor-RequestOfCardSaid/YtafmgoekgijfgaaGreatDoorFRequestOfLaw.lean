/- RequestOf: whether any message is a request; its bytes. -/
import Derived.Test.YtafmgoekgijfgaaGreatDoorFRqM7
import Derived.Test.YtafmgoekgijfgaaGreatDoorFRqM9
import Derived.Test.YtafmgoekgijfgaaGreatDoorFRqMA
import Derived.Test.YtafmgoekgijfgaaGreatDoorFRqRWr
namespace Go.Proofs.YtafmgoekgijfgaaGreatDoor
open Go.RowKit Go.Lib

def OfBoth (w : World) (q : Option Rq) (last : Value) (e : Ending) (w' : World) : Prop := (∃ (m t p r o : ByteArray) (ha : Option Addr) (hn hc : Nat) (ba : Option Addr) (bn bc : Nat), e = .returned (.tuple #[.agg #[.string m, .string t, .string p, .string r, .string o, .slice ha hn hc, .slice ba bn bc], last]) ∧ ReqAt w' ⟨m, t, p, r, o, ⟨ha, hn, hc⟩, ⟨ba, bn, bc⟩⟩ (q.getD rq0)) ∧ Below w.heap.size w w'
theorem of_both {x : Rw} (s : ByteArray) (ra : Option Addr) (rn rc : Nat) (sa : Option Addr) (sn sc : Nat) (w : World) (hr : RawAt w ⟨s, ⟨ra, rn, rc⟩, ⟨sa, sn, sc⟩⟩ x) (hf : Fits x.heads) (hs0 : s.size ≤ 1000000) (hl : x.heads.length ≤ 1000) (hbl : x.body.length ≤ 1000000) (hE : Env w) (hS : EnvS w) {k : Int} (hk : k = if (ofRP x).isSome = true then 0 else 2) :
   Calls Tryz.prog 13 #[.agg #[.string s, .slice ra rn rc, .slice sa sn sc]] w (OfBoth w (ofRP x) (.int .i64 k)) := by
 unfold OfBoth
 cases ho : ofRP x with
 | none =>
   rw [ho] at hk
   subst hk
   refine (of_badC ho s ra rn rc sa sn sc w hr hf hs0 hl hbl hE hS).mono ?_
   rintro e w' ⟨rfl, hB⟩
   exact ⟨⟨_, _, _, _, _, none, 0, 0, none, 0, 0, rfl, ReqAt.zero w'⟩, hB⟩
 | some q =>
   rw [ho] at hk
   subst hk
   refine (of_okC ho s ra rn rc sa sn sc w hr hf hs0 hl hbl hE hS).mono ?_
   rintro e w' ⟨⟨m, t, p, r, o, ha, hn, hc, ba, bn, bc, rfl, h1, _⟩, hB⟩
   exact ⟨⟨m, t, p, r, o, ha, hn, hc, ba, bn, bc, rfl, h1⟩, hB⟩
def WrBoth (w : World) (y : List UInt8) (last : Value) (e : Ending) (w' : World) : Prop := (∃ (a : Option Addr) (n c : Nat), e = .returned (.tuple #[.slice a n c, last]) ∧ GAt KB w' (.slice a n c) y) ∧ Below w.heap.size w w'
theorem write_both (s : ByteArray) (ha : Option Addr) (hn hc : Nat) (ba : Option Addr) (bn bc : Nat) (x : Rw) (w : World) (hr : RawAt w ⟨s, ⟨ha, hn, hc⟩, ⟨ba, bn, bc⟩⟩ x) (hf : Fits x.heads) (hs0 : s.size ≤ 1000000) (hl : x.heads.length ≤ 1000) (hE : Env w) (hT : EnvT w) {k : Int} {y : List UInt8} (hk : k = if wrtB x = true then 0 else 1) (hy : y = if wrtB x = true then wrtP x else []) : Calls Tryz.prog 15 #[.agg #[.string s, .slice ha hn hc, .slice ba bn bc]] w (WrBoth w y (.int .i64 k)) := by
 refine (write_any s ha hn hc ba bn bc x w hr hf hs0 hl hE hT).mono ?_
 unfold WrPost WrBoth
 by_cases hw : wrtB x = true
 · rw [if_pos hw] at hk hy
   subst hk hy
   rintro e w' ⟨h, hB⟩
   rw [if_pos hw] at h
   obtain ⟨⟨a, n, c⟩, rfl, hr⟩ := h
   exact ⟨⟨a, n, c, rfl, hr.gAt⟩, hB⟩
 · rw [if_neg hw] at hk hy
   subst hk hy
   rintro e w' ⟨h, hB⟩
   rw [if_neg hw] at h
   subst h
   exact ⟨⟨none, 0, 0, rfl, GAt.nil w'⟩, hB⟩
theorem rwrite_both (s : ByteArray) (ha : Option Addr) (hn hc : Nat) (ba : Option Addr) (bn bc : Nat) (x : Rw) (w : World) (hr : RawAt w ⟨s, ⟨ha, hn, hc⟩, ⟨ba, bn, bc⟩⟩ x) (hf : Fits x.heads) (hs0 : s.size ≤ 900000) (hl : x.heads.length ≤ 1000) {y : List UInt8} (hy : y = if wrtB x = true then wrtP x else []) : Calls Tryz.prog 16 #[.agg #[.string s, .slice ha hn hc, .slice ba bn bc]] w (WrBoth w y (.bool (wrtB x))) := by
 refine (rwrite_any s ha hn hc ba bn bc x w hr hf hs0 hl).mono ?_
 unfold RWrPost WrBoth
 by_cases hw : wrtB x = true
 · rw [if_pos hw] at hy
   subst hy
   rintro e w' ⟨h, hB⟩
   rw [if_pos hw] at h
   obtain ⟨a, n, c, rfl, hr⟩ := h
   rw [hw]
   exact ⟨⟨a, n, c, rfl, hr⟩, hB⟩
 · rw [if_neg hw] at hy
   subst hy
   rintro e w' ⟨h, hB⟩
   rw [if_neg hw] at h
   subst h
   rw [Bool.eq_false_iff.2 hw]
   exact ⟨⟨none, 0, 0, rfl, GAt.nil w'⟩, hB⟩
theorem of_heads (x : Rw) (hl : x.heads.length ≤ 1000) : ((ofRP x).getD rq0).heads.length ≤ 1000 := by
 cases ho : ofRP x with
 | none => exact Nat.zero_le _
 | some q =>
   have h := (ofRP_some ho).1
   rw [Option.getD_some]
   rw [h] at hl
   exact hl
set_option maxRecDepth 100000 in
set_option maxHeartbeats 4000000 in
theorem of_walk (c : RV) (w : World) (hk0 : RawOk w c) (ht : (Env w ∧ EnvS w) ∧ EnvT w) :
   Calls Tryz.prog 4 #[.agg (RV.cells c).toArray] w fun e w' => e = .returned (.bool true) ∧ Below w.heap.size w w' := by
 obtain ⟨x, hr, _, _, _, _⟩ := hk0
 obtain ⟨s, ⟨ha, hn, hc⟩, ⟨ba, bn, bc⟩⟩ := c
 show Calls Tryz.prog 4 #[.agg #[.string s, .slice ha hn hc, .slice ba bn bc]] w _
 obtain ⟨hst, gh, gb⟩ := hr
 simp only [Sl.v] at hst gh gb
 have hbn := gb.le.1
 have LA := hideL (fun (W : World) (hb : Below w.heap.size w W) => awake_any W (ht.1.1.next hb) (ht.1.2.next hb))
 have hq : QBox (w.alloc (rawC s (.slice ha hn hc) (.slice ba bn bc))) w.heap.size s (.slice ha hn hc) (.slice ba bn bc) := heap_alloc_new w _
 have HQ1 := hideL hq
 have HB1 := hideL ((Below.refl w.heap.size w).alloc (Nat.le_refl _) (rawC s (.slice ha hn hc) (.slice ba bn bc)))
 have LL := rlong_any s ha hn hc ba bn bc x.heads _ (gh.below HB1.out)
 have c0 := HQ1.out.c0
 have c1 := HQ1.out.c1
 have c2 := HQ1.out.c2
 obtain ⟨lg, hlg⟩ : ∃ b, lngP s.size bn x.heads = b := ⟨_, rfl⟩
 rw [hlg] at LL
 cases lg with
 | true =>
   have LL := hideL LL
   clear hst gh gb hbn hq hlg ht
   go_enter Tryz.func4, Tryz.ntmps4
   go_wp2_with (first
     | (go_at_call 12; (with_reducible refine LL.out.mono ?_); rintro e w2 ⟨rfl, hB⟩; have HB2 := hideL (HB1.out.trans (hB.mono HB1.out.size)); clear hB)
     | (go_at_call 8; refine (LA.out _ HB2.out).mono ?_; rintro e w9 ⟨rfl, hB⟩; have HB9 := hideL (HB2.out.trans (hB.mono HB2.out.size)); clear hB))
   go_ret
   exact ⟨rfl, HB9.out⟩
 | false =>
   have LL := hideL LL
   obtain ⟨l1, l2, l3⟩ := lngP_no hlg
   have hf := longP_fits l3
   have hl := (longP_no l3).1
   have hraw : ∀ W, Below w.heap.size w W → RawAt W ⟨s, ⟨ha, hn, hc⟩, ⟨ba, bn, bc⟩⟩ x := fun W hb => ⟨hst, gh.below hb, gb.below hb⟩
   have LO := fun (k : Int) (hk : k = if (ofRP x).isSome = true then 0 else 2) (W : World) (hb : Below w.heap.size w W) => of_both s ha hn hc ba bn bc W (hraw W hb) hf (by omega) (by omega) (by omega) (ht.1.1.next hb) (ht.1.2.next hb) hk
   have LR := fun (W : World) (hb : Below w.heap.size w W) => rof_all s ha hn hc ba bn bc x W (hraw W hb) hf (by omega) (by omega) (by omega)
   have LW := fun (k : Int) (y : List UInt8) (hk : k = if wrtB x = true then 0 else 1) (hy : y = if wrtB x = true then wrtP x else []) (W : World) (hb : Below w.heap.size w W) => write_both s ha hn hc ba bn bc x W (hraw W hb) hf (by omega) (by omega) (ht.1.1.next hb) (ht.2.next hb) hk hy
   have LV := fun (y : List UInt8) (hy : y = if wrtB x = true then wrtP x else []) (W : World) (hb : Below w.heap.size w W) => rwrite_both s ha hn hc ba bn bc x W (hraw W hb) hf (by omega) (by omega) hy
   have HH := hideL (of_heads x (by omega))
   unfold ROfAll at LR
   unfold OfBoth at LO
   unfold WrBoth at LW LV
   obtain ⟨q0, hq0⟩ : ∃ q, (ofRP x).getD rq0 = q := ⟨_, rfl⟩
   rw [hq0] at LO LR HH
   obtain ⟨Y, hY⟩ : ∃ y, y = if wrtB x = true then wrtP x else [] := ⟨_, rfl⟩
   have LW := fun k hk => LW k Y hk hY
   have LV := LV Y hY
   obtain ⟨I, hI⟩ : ∃ b, (ofRP x).isSome = b := ⟨_, rfl⟩
   obtain ⟨V, hV⟩ : ∃ b, wrtB x = b := ⟨_, rfl⟩
   rw [hI] at LR LO
   rw [hV] at LV LW
   have LO2 : ∀ (W : World), Below w.heap.size w W → Calls Tryz.prog 13 #[.agg #[.string s, .slice ha hn hc, .slice ba bn bc]] W (fun e w' => (∃ (m t p r o : ByteArray) (ha : Option Addr) (hn hc : Nat) (ba : Option Addr) (bn bc : Nat), e = .returned (.tuple #[.agg #[.string m, .string t, .string p, .string r, .string o, .slice ha hn hc, .slice ba bn bc], .int .i64 (if I = true then 0 else 2)]) ∧ ReqAt w' ⟨m, t, p, r, o, ⟨ha, hn, hc⟩, ⟨ba, bn, bc⟩⟩ q0) ∧ Below W.heap.size W w') := LO _ rfl
   have LW2 : ∀ (W : World), Below w.heap.size w W → Calls Tryz.prog 15 #[.agg #[.string s, .slice ha hn hc, .slice ba bn bc]] W (fun e w' => (∃ (a : Option Addr) (n c : Nat), e = .returned (.tuple #[.slice a n c, .int .i64 (if V = true then 0 else 1)]) ∧ GAt KB w' (.slice a n c) Y) ∧ Below W.heap.size W w') := LW _ rfl
   clear hst gh gb hbn hq hlg ht l1 l2 l3 hf hl hraw hq0 hY hI hV LO LW
   cases I <;> cases V
   all_goals
     simp only [Bool.false_eq_true, ↓reduceIte] at LO2 LW2
     have LO := hideL LO2
     have LW := hideL LW2
     clear LO2 LW2
     have LR := hideL LR
     have LV := hideL LV
     go_enter Tryz.func4, Tryz.ntmps4
     go_wp2_with (first
       | (go_at_call 12; (with_reducible refine LL.out.mono ?_); rintro e w2 ⟨rfl, hB⟩
          have HQ2 := hideL (HQ1.out.next hB)
          have c0 := HQ2.out.c0
          have c1 := HQ2.out.c1
          have c2 := HQ2.out.c2
          have HB2 := hideL (HB1.out.trans (hB.mono HB1.out.size))
          clear hB)
       | (go_at_call 13; (with_reducible refine (LO.out _ HB2.out).mono ?_); rintro e w3 ⟨⟨m1, t1, p1, q1, o1, ha1, hn1, hc1, ba1, bn1, bc1, rfl, hreq⟩, hB⟩
          have hz2 := (Below.refl w3.heap.size w3).alloc (Nat.le_refl _) (rqQ m1 t1 p1 q1 o1 (.slice ha1 hn1 hc1) (.slice ba1 bn1 bc1))
          have hz3 := hB.trans (hz2.mono hB.size)
          have HQ3 := hideL (HQ2.out.next hz3)
          have c0 := HQ3.out.c0
          have c1 := HQ3.out.c1
          have c2 := HQ3.out.c2
          have HX := hideL (rq_box w3 m1 t1 p1 q1 o1 (.slice ha1 hn1 hc1) (.slice ba1 bn1 bc1))
          have HR := hideL (hreq.below hz2)
          have HB3 := hideL (HB2.out.trans (hz3.mono HB2.out.size))
          clear hB hz2 hz3 hreq)
       | (go_at_call 14; (with_reducible refine (LR.out _ HB3.out).mono ?_); rintro e w4 ⟨⟨m3, t3, p3, q3, o3, ha3, hn3, hc3, ba3, bn3, bc3, rfl, hreq, _⟩, hB⟩
          have hz2 := (Below.refl w4.heap.size w4).alloc (Nat.le_refl _) (rqQ m3 t3 p3 q3 o3 (.slice ha3 hn3 hc3) (.slice ba3 bn3 bc3))
          have hz3 := hB.trans (hz2.mono hB.size)
          have HQ4 := hideL (HQ3.out.next hz3)
          have hb := HX.out.next hz3
          have x0 := hb.c0
          have x1 := hb.c1
          have x2 := hb.c2
          have x3 := hb.c3
          have x4 := hb.c4
          have x5 := hb.c5
          have x6 := hb.c6
          have hb2 := rq_box w4 m3 t3 p3 q3 o3 (.slice ha3 hn3 hc3) (.slice ba3 bn3 bc3)
          have y0 := hb2.c0
          have y1 := hb2.c1
          have y2 := hb2.c2
          have y3 := hb2.c3
          have y4 := hb2.c4
          have y5 := hb2.c5
          have y6 := hb2.c6
          have LS := hideL (sameRqC m1 t1 p1 q1 o1 m3 t3 p3 q3 o3 ha1 hn1 hc1 ba1 bn1 bc1 ha3 hn3 hc3 ba3 bn3 bc3 q0 q0 _ (HR.out.below hz3) (hreq.below hz2) HH.out)
          have HB4 := hideL (HB3.out.trans (hz3.mono HB3.out.size))
          clear hB hz2 hz3 hb hb2 hreq)
       | (go_at_call 11; (with_reducible refine LS.out.mono ?_); rintro e w5 ⟨⟨zz, rfl, hzz⟩, hB⟩
          obtain rfl : zz = true := hzz.2 (by trivial)
          have HQ5 := hideL (HQ4.out.next hB)
          have c0 := HQ5.out.c0
          have c1 := HQ5.out.c1
          have c2 := HQ5.out.c2
          have HB5 := hideL (HB4.out.trans (hB.mono HB4.out.size))
          clear hB hzz x0 x1 x2 x3 x4 x5 x6 y0 y1 y2 y3 y4 y5 y6)
       | (go_at_call 15; (with_reducible refine (LW.out _ HB5.out).mono ?_); rintro e w6 ⟨⟨a6, n6, c6, rfl, hg⟩, hB⟩
          have HQ6 := hideL (HQ5.out.next hB)
          have c0 := HQ6.out.c0
          have c1 := HQ6.out.c1
          have c2 := HQ6.out.c2
          have HG6 := hideL hg
          have HB6 := hideL (HB5.out.trans (hB.mono HB5.out.size))
          clear hB hg)
       | (go_at_call 16; (with_reducible refine (LV.out _ HB6.out).mono ?_); rintro e w7 ⟨⟨a7, n7, c7, rfl, hg⟩, hB⟩
          have k6 := to_strA w7 a6 n6 c6 Y (HG6.out.below hB)
          have k7 := to_strA w7 a7 n7 c7 Y hg
          have HB7 := hideL (HB6.out.trans (hB.mono HB6.out.size))
          clear hB hg)
       | (go_at_call 8; refine (LA.out _ HB7.out).mono ?_; rintro e w9 ⟨rfl, hB⟩; have HB9 := hideL (HB7.out.trans (hB.mono HB7.out.size)); clear hB))
     go_ret
     exact ⟨rfl, HB9.out⟩
end Go.Proofs.YtafmgoekgijfgaaGreatDoor
