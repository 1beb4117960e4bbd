/- RequestReads: the messages that are whole, the fault, whether nothing has come of another one. -/
import Derived.Test.YtglnfnlpkhmlnaaGreatDoorRqPcEx
import Derived.Test.YtglnfnlpkhmlnaaGreatDoorRqAwake
import Derived.Test.YtglnfnlpkhmlnaaGreatDoorRqRAll
import Derived.Test.YtglnfnlpkhmlnaaGreatDoorRqCon
import Derived.Test.YtglnfnlpkhmlnaaGreatDoorRqRaws
namespace Go.Proofs.YtglnfnlpkhmlnaaGreatDoor
open Go.RowKit Go.Lib

def RawsEx (w : World) (b : List UInt8) (e : Ending) (w' : World) : Prop := ∃ (wa : Option Addr) (wn wc : Nat), e = .returned (.tuple #[.slice wa wn wc, .int .i64 (rawE b)]) ∧ wn = (rawL b).length ∧ RawsAt 27 w' (.slice wa wn wc) (rawL b) ∧ Below w.heap.size w w'
theorem raws_ex (v : Value) (b : List UInt8) (w : World) (gv : GAt KB w v b) (hbl : b.length ≤ 200000) (hE : Env w) (hS : EnvS w) : Calls Tryz.prog 17 #[v] w (RawsEx w b) := by
  refine (raws_any v b w gv hbl hE hS).mono ?_
  rintro e w3 ⟨⟨wa, wn, wc⟩, rfl, hrw, hB⟩
  exact ⟨wa, wn, wc, rfl, row_head hrw, hrw.at, hB⟩
/-- What stands in Raws' answer: whole; not whole; a fault. -/
theorem rawE_of {b : List UInt8} {s : Ps} {xs : List Rw} (h : rowP b = (xs, idleP s, s.err)) : (idleP s = true → rawE b = 0 ∧ rawL b = xs) ∧ (idleP s = false → rawL b = [] ∧ rawE b = if s.err = 0 then 2 else s.err) := by
  unfold rawE rawL
  rw [h]
  refine ⟨fun hi => ?_, fun hi => ?_⟩
  · simp only [hi, if_true, and_self]
  · simp only [hi, Bool.false_eq_true, if_false, true_and]
abbrev pOE (s : Ps) (E : Nat) (a b c : Value) : Obj := .cells #[.int .i64 s.phase, a, .string (bo s.start), b, c, .int .i64 s.left, .int .i64 E] 30
theorem pOE_box (w : World) (s : Ps) (E : Nat) (a b c : Value) : RBox7 30 (w.alloc (pOE s E a b c)) w.heap.size (.int .i64 s.phase) a (.string (bo s.start)) b c (.int .i64 s.left) (.int .i64 E) := heap_alloc_new w _
set_option maxRecDepth 100000 in
set_option maxHeartbeats 4000000 in
theorem reads_walk (v : Value) (b : List UInt8) (u1 : Value) (c1 : List Int) (w : World) (gv : GAt KB w v b) (g1 : GAt KI w u1 c1) (k1 : ∀ c ∈ c1, intOk c) (ht : Env w ∧ EnvS w) :
    Calls Tryz.prog 3 #[v, u1] w fun e w' => e = .returned (.bool true) ∧ Below w.heap.size w w' := by
  have LA := hideL (fun (W : World) (hb : Below w.heap.size w W) => awake_any W (ht.1.next hb) (ht.2.next hb))
  have HB0 := hideL (Below.refl w.heap.size w)
  obtain ⟨vo, vc, rfl⟩ := gv.len
  obtain ⟨o1, e1, rfl⟩ := g1.len
  by_cases hl : 8000 < b.length
  · have i1 : (8000 : Int) < (b.length : Int) := by omega
    obtain ⟨n, hn⟩ : ∃ n, b.length = n := ⟨_, rfl⟩
    rw [hn] at i1 ⊢
    clear hl gv g1 k1 ht hn
    go_enter Tryz.func3, Tryz.ntmps3
    go_wp2_with (go_at_call 12; refine (LA.out _ HB0.out).mono ?_; rintro e w9 ⟨rfl, hB⟩; have HB9 := hideL hB; clear hB)
    go_ret
    exact ⟨rfl, HB9.out⟩
  by_cases hl1 : 200 < c1.length
  · have i1 : ¬ (8000 : Int) < (b.length : Int) := by omega
    have i2 : (200 : Int) < (c1.length : Int) := by omega
    obtain ⟨n, hn⟩ : ∃ n, b.length = n := ⟨_, rfl⟩
    obtain ⟨n1, hn1⟩ : ∃ n, c1.length = n := ⟨_, rfl⟩
    rw [hn] at i1 ⊢
    rw [hn1] at i2 ⊢
    clear hl hl1 gv g1 k1 ht hn hn1
    go_enter Tryz.func3, Tryz.ntmps3
    go_wp2_with (go_at_call 12; refine (LA.out _ HB0.out).mono ?_; rintro e w9 ⟨rfl, hB⟩; have HB9 := hideL hB; clear hB)
    go_ret
    exact ⟨rfl, HB9.out⟩
  have i1 : ¬ (8000 : Int) < (b.length : Int) := by omega
  have i2 : ¬ (200 : Int) < (c1.length : Int) := by omega
  have hlv := (con_run b live_new).1
  have hgd := good_run b live_new good_new
  have hrl := run_len b new0
  have hrow := run_row b
  obtain ⟨⟨s, xs⟩, hr⟩ : ∃ r, runP new0 b = r := ⟨_, rfl⟩
  have LP1 := fun (W : World) (hb : Below w.heap.size w W) => pieces_ex vo vc o1 e1 b c1 W (gv.below hb) (g1.below hb) (by omega) (by omega) k1 (ht.1.next hb) (ht.2.next hb) hr
  rw [hr] at hlv hgd hrl hrow
  have LAL := fun (W : World) (hb : Below w.heap.size w W) => rall_any vo vc b.length b rfl W (gv.below hb) (by omega)
  unfold AllPost at LAL
  rw [hrow] at LAL
  simp only at LAL
  have LRW := fun (W : World) (hb : Below w.heap.size w W) => raws_ex (.slice vo b.length vc) b W (gv.below hb) (by omega) (ht.1.next hb) (ht.2.next hb)
  unfold RawsEx at LRW
  obtain ⟨hid, hni⟩ := rawE_of hrow
  have hxl : xs.length ≤ 1000000 := by have h : xs.length ≤ b.length := hrl; omega
  have hxh : ∀ x ∈ xs, x.heads.length ≤ 1000 := fun x hx => by have := mayH_len (hgd.2 x hx).1; omega
  have LS := hideL (fun (va vb : Value) (W : World) (h1 : RawsAt 27 W va xs) (h2 : RawsAt 27 W vb xs) => sameRaws_any va vb xs xs W h1 h2 hxh hxl)
  have LI := (fun (la : Option Addr) (ln lc : Nat) (ha : Option Addr) (hn hc : Nat) (ba : Option Addr) (bn bc : Nat) (W : World) (q1 : GAt KB W (.slice la ln lc) s.line) (q2 : GAt KH W (.slice ha hn hc) s.heads) (q3 : GAt KB W (.slice ba bn bc) s.body) => idle_ex s la ln lc ha hn hc ba bn bc W q1 q2 q3 hlv hgd.1)
  have hie : idleP s = true → s.err = 0 := fun h => by
    rcases Nat.eq_zero_or_pos s.err with h0 | h0
    · exact h0
    · rw [idle_err (by omega)] at h; cases h
  have LP1 := hideL LP1
  obtain ⟨n, hn⟩ : ∃ n, b.length = n := ⟨_, rfl⟩
  obtain ⟨n1, hn1⟩ : ∃ n, c1.length = n := ⟨_, rfl⟩
  rw [hn] at i1 LP1 LAL LRW ⊢
  rw [hn1] at i2 LP1 ⊢
  obtain ⟨E, hE⟩ : ∃ E, s.err = E := ⟨_, rfl⟩
  obtain ⟨I, hI⟩ : ∃ I, idleP s = I := ⟨_, rfl⟩
  rw [hE, hI] at LAL
  rw [hI] at LI hid hni hie
  rw [hE] at hni hie
  have HERR := hideL hE
  clear hl hl1 gv g1 k1 ht hn hn1 hlv hgd hrl hxl hxh hr hrow hI
  cases I with
  | true =>
    obtain ⟨hr0, hr1⟩ := hid rfl
    rw [hr0, hr1] at LRW
    have h0 := hie rfl
    have b0 : ((E : Int) == 0) = true := by rw [h0]; rfl
    have b1 : ((E : Int) != 0) = false := by rw [h0]; rfl
    have LRW := hideL LRW
    have LAL := hideL LAL
    have LI := hideL (by rw [HERR.out] at LI; exact LI)
    clear hid hni hie hr0 hr1 h0
    go_enter Tryz.func3, Tryz.ntmps3
    go_wp2_with (first
      | (go_at_call 13; (with_reducible refine (LP1.out _ HB0.out).mono ?_); rintro e w3 ⟨la, ln, lc, ha, hn, hc, ba, bn, bc, wa, wn, wc, rfl, g1, g2, g3, hrw, hB⟩
         rw [HERR.out]
         have hz2 := (Below.refl w3.heap.size w3).alloc (Nat.le_refl _) (pOE s E (.slice la ln lc) (.slice ha hn hc) (.slice ba bn bc))
         have HX := hideL (pOE_box w3 s E (.slice la ln lc) (.slice ha hn hc) (.slice ba bn bc))
         have G1 := hideL (g1.below hz2)
         have G2 := hideL (g2.below hz2)
         have G3 := hideL (g3.below hz2)
         have HR1 := hideL (hrw.below hz2)
         have HB1 := hideL (hB.trans (hz2.mono hB.size))
         clear g1 g2 g3 hrw hB hz2)
      | (go_at_call 14; (with_reducible refine (LAL.out _ HB1.out).mono ?_); rintro e w4 ⟨xa, xn, xc, rfl, hrw, hB⟩
         have HX4 := hideL (HX.out.next hB)
         have G14 := hideL (G1.out.below hB)
         have G24 := hideL (G2.out.below hB)
         have G34 := hideL (G3.out.below hB)
         have HR14 := hideL (HR1.out.below hB)
         have HR24 := hideL hrw
         have HB2 := hideL (HB1.out.trans (hB.mono HB1.out.size))
         clear hrw hB)
      | (go_at_call 15; (with_reducible refine (LS.out _ _ w4 HR14.out HR24.out).mono ?_); rintro e w5 ⟨⟨z, rfl, hz⟩, hB⟩
         obtain rfl : z = true := hz.2 (by trivial)
         have HX5 := hideL (HX4.out.next hB)
         have cx0 := HX5.out.c0
         have cx1 := HX5.out.c1
         have cx2 := HX5.out.c2
         have cx3 := HX5.out.c3
         have cx4 := HX5.out.c4
         have cx5 := HX5.out.c5
         have cx6 := HX5.out.c6
         have LI5 := hideL (LI.out la ln lc ha hn hc ba bn bc w5 (G14.out.below hB) (G24.out.below hB) (G34.out.below hB))
         have HR5 := hideL (HR24.out.below hB)
         have HB5 := hideL (HB2.out.trans (hB.mono HB2.out.size))
         clear hB hz)
      | (go_at_call 16; (with_reducible refine LI5.out.mono ?_); rintro e w6 ⟨rfl, hB⟩
         have HR6 := hideL (HR5.out.below hB)
         have HB6 := hideL (HB5.out.trans (hB.mono HB5.out.size))
         clear hB LI5)
      | (go_at_call 17; (with_reducible refine (LRW.out _ HB6.out).mono ?_); rintro e w7 ⟨ra, rn, rc, rfl, hrn, hrw, hB⟩
         obtain rfl : rn = xs.length := hrn
         have HR7 := hideL (HR6.out.below hB)
         have HQ7 := hideL hrw
         have HB7 := hideL (HB6.out.trans (hB.mono HB6.out.size))
         clear hB hrw)
      | (go_at_call 15; (with_reducible refine (LS.out _ _ w7 HQ7.out HR7.out).mono ?_); rintro e w8 ⟨⟨z, rfl, hz⟩, hB⟩
         obtain rfl : z = true := hz.2 (by trivial)
         have HB8 := hideL (HB7.out.trans (hB.mono HB7.out.size))
         clear hB hz)
      | (go_at_call 12; refine (LA.out _ HB8.out).mono ?_; rintro e w9 ⟨rfl, hB⟩; have HB9 := hideL (HB8.out.trans (hB.mono HB8.out.size)); clear hB))
    go_ret
    exact ⟨rfl, HB9.out⟩
  | false =>
    obtain ⟨hr1, hr0⟩ := hni rfl
    rw [hr0, hr1] at LRW
    by_cases he : E = 0
    · rw [if_pos he] at LRW
      have b0 : ((E : Int) == 0) = true := by rw [he]; rfl
      have b1 : ((E : Int) != 0) = false := by rw [he]; rfl
      have LRW := hideL LRW
      have LAL := hideL LAL
      have LI := hideL (by rw [HERR.out] at LI; exact LI)
      clear hid hni hie hr0 hr1 he
      go_enter Tryz.func3, Tryz.ntmps3
      go_wp2_with (first
        | (go_at_call 13; (with_reducible refine (LP1.out _ HB0.out).mono ?_); rintro e w3 ⟨la, ln, lc, ha, hn, hc, ba, bn, bc, wa, wn, wc, rfl, g1, g2, g3, hrw, hB⟩
           rw [HERR.out]
           have hz2 := (Below.refl w3.heap.size w3).alloc (Nat.le_refl _) (pOE s E (.slice la ln lc) (.slice ha hn hc) (.slice ba bn bc))
           have HX := hideL (pOE_box w3 s E (.slice la ln lc) (.slice ha hn hc) (.slice ba bn bc))
           have G1 := hideL (g1.below hz2)
           have G2 := hideL (g2.below hz2)
           have G3 := hideL (g3.below hz2)
           have HR1 := hideL (hrw.below hz2)
           have HB1 := hideL (hB.trans (hz2.mono hB.size))
           clear g1 g2 g3 hrw hB hz2)
        | (go_at_call 14; (with_reducible refine (LAL.out _ HB1.out).mono ?_); rintro e w4 ⟨xa, xn, xc, rfl, hrw, hB⟩
           have HX4 := hideL (HX.out.next hB)
           have G14 := hideL (G1.out.below hB)
           have G24 := hideL (G2.out.below hB)
           have G34 := hideL (G3.out.below hB)
           have HR14 := hideL (HR1.out.below hB)
           have HR24 := hideL hrw
           have HB2 := hideL (HB1.out.trans (hB.mono HB1.out.size))
           clear hrw hB)
        | (go_at_call 15; (with_reducible refine (LS.out _ _ w4 HR14.out HR24.out).mono ?_); rintro e w5 ⟨⟨z, rfl, hz⟩, hB⟩
           obtain rfl : z = true := hz.2 (by trivial)
           have HX5 := hideL (HX4.out.next hB)
           have cx0 := HX5.out.c0
           have cx1 := HX5.out.c1
           have cx2 := HX5.out.c2
           have cx3 := HX5.out.c3
           have cx4 := HX5.out.c4
           have cx5 := HX5.out.c5
           have cx6 := HX5.out.c6
           have LI5 := hideL (LI.out la ln lc ha hn hc ba bn bc w5 (G14.out.below hB) (G24.out.below hB) (G34.out.below hB))
           have HR5 := hideL (HR24.out.below hB)
           have HB5 := hideL (HB2.out.trans (hB.mono HB2.out.size))
           clear hB hz)
        | (go_at_call 16; (with_reducible refine LI5.out.mono ?_); rintro e w6 ⟨rfl, hB⟩
           have HR6 := hideL (HR5.out.below hB)
           have HB6 := hideL (HB5.out.trans (hB.mono HB5.out.size))
           clear hB LI5)
        | (go_at_call 17; (with_reducible refine (LRW.out _ HB6.out).mono ?_); rintro e w7 ⟨ra, rn, rc, rfl, hrn, hrw, hB⟩
           obtain rfl : rn = 0 := hrn
           have HR7 := hideL (HR6.out.below hB)
           have HQ7 := hideL hrw
           have HB7 := hideL (HB6.out.trans (hB.mono HB6.out.size))
           clear hB hrw)
        | (go_at_call 12; refine (LA.out _ HB7.out).mono ?_; rintro e w9 ⟨rfl, hB⟩; have HB9 := hideL (HB7.out.trans (hB.mono HB7.out.size)); clear hB))
      go_ret
      exact ⟨rfl, HB9.out⟩
    · rw [if_neg he] at LRW
      have b0 : ((E : Int) == 0) = false := by rw [beq_eq_false_iff_ne]; omega
      have b1 : ((E : Int) != 0) = true := by rw [bne_iff_ne]; omega
      have LRW := hideL LRW
      have LAL := hideL LAL
      have LI := hideL (by rw [HERR.out] at LI; exact LI)
      clear hid hni hie hr0 hr1 he
      go_enter Tryz.func3, Tryz.ntmps3
      go_wp2_with (first
        | (go_at_call 13; (with_reducible refine (LP1.out _ HB0.out).mono ?_); rintro e w3 ⟨la, ln, lc, ha, hn, hc, ba, bn, bc, wa, wn, wc, rfl, g1, g2, g3, hrw, hB⟩
           rw [HERR.out]
           have hz2 := (Below.refl w3.heap.size w3).alloc (Nat.le_refl _) (pOE s E (.slice la ln lc) (.slice ha hn hc) (.slice ba bn bc))
           have HX := hideL (pOE_box w3 s E (.slice la ln lc) (.slice ha hn hc) (.slice ba bn bc))
           have G1 := hideL (g1.below hz2)
           have G2 := hideL (g2.below hz2)
           have G3 := hideL (g3.below hz2)
           have HR1 := hideL (hrw.below hz2)
           have HB1 := hideL (hB.trans (hz2.mono hB.size))
           clear g1 g2 g3 hrw hB hz2)
        | (go_at_call 14; (with_reducible refine (LAL.out _ HB1.out).mono ?_); rintro e w4 ⟨xa, xn, xc, rfl, hrw, hB⟩
           have HX4 := hideL (HX.out.next hB)
           have G14 := hideL (G1.out.below hB)
           have G24 := hideL (G2.out.below hB)
           have G34 := hideL (G3.out.below hB)
           have HR14 := hideL (HR1.out.below hB)
           have HR24 := hideL hrw
           have HB2 := hideL (HB1.out.trans (hB.mono HB1.out.size))
           clear hrw hB)
        | (go_at_call 15; (with_reducible refine (LS.out _ _ w4 HR14.out HR24.out).mono ?_); rintro e w5 ⟨⟨z, rfl, hz⟩, hB⟩
           obtain rfl : z = true := hz.2 (by trivial)
           have HX5 := hideL (HX4.out.next hB)
           have cx0 := HX5.out.c0
           have cx1 := HX5.out.c1
           have cx2 := HX5.out.c2
           have cx3 := HX5.out.c3
           have cx4 := HX5.out.c4
           have cx5 := HX5.out.c5
           have cx6 := HX5.out.c6
           have LI5 := hideL (LI.out la ln lc ha hn hc ba bn bc w5 (G14.out.below hB) (G24.out.below hB) (G34.out.below hB))
           have HR5 := hideL (HR24.out.below hB)
           have HB5 := hideL (HB2.out.trans (hB.mono HB2.out.size))
           clear hB hz)
        | (go_at_call 16; (with_reducible refine LI5.out.mono ?_); rintro e w6 ⟨rfl, hB⟩
           have HR6 := hideL (HR5.out.below hB)
           have HB6 := hideL (HB5.out.trans (hB.mono HB5.out.size))
           clear hB LI5)
        | (go_at_call 17; (with_reducible refine (LRW.out _ HB6.out).mono ?_); rintro e w7 ⟨ra, rn, rc, rfl, hrn, hrw, hB⟩
           obtain rfl : rn = 0 := hrn
           have HR7 := hideL (HR6.out.below hB)
           have HQ7 := hideL hrw
           have HB7 := hideL (HB6.out.trans (hB.mono HB6.out.size))
           clear hB hrw)
        | (go_at_call 12; refine (LA.out _ HB7.out).mono ?_; rintro e w9 ⟨rfl, hB⟩; have HB9 := hideL (HB7.out.trans (hB.mono HB7.out.size)); clear hB))
      go_ret
      exact ⟨rfl, HB9.out⟩
end Go.Proofs.YtglnfnlpkhmlnaaGreatDoor
