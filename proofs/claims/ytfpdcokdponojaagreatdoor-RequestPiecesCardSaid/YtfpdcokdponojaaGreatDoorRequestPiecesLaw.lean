/- RequestPieces: however bytes are cut, the same is read of them. -/
import Derived.Test.YtfpdcokdponojaaGreatDoorRqPieces
import Derived.Test.YtfpdcokdponojaaGreatDoorRqAwake
namespace Go.Proofs.YtfpdcokdponojaaGreatDoor
open Go.RowKit Go.Lib

theorem idle_err {s : Ps} (h : s.err ≠ 0) : idleP s = false := by
  unfold idleP
  exact decide_eq_false fun e => h e.1
abbrev pO (s : Ps) (a b c : Value) : Obj := .cells #[.int .i64 s.phase, a, .string (bo s.start), b, c, .int .i64 s.left, .int .i64 s.err] 30
theorem pO_box (w : World) (s : Ps) (a b c : Value) : RBox7 30 (w.alloc (pO s a b c)) w.heap.size (.int .i64 s.phase) a (.string (bo s.start)) b c (.int .i64 s.left) (.int .i64 s.err) := heap_alloc_new w _
def PcPost (w : World) (s : Ps) (xs : List Rw) (e : Ending) (w' : World) : Prop := ∃ (la : Option Addr) (ln lc : Nat) (ha : Option Addr) (hn hc : Nat) (ba : Option Addr) (bn bc : Nat) (wa : Option Addr) (wn wc : Nat), e = .returned (.tuple #[.agg #[.int .i64 s.phase, .slice la ln lc, .string (bo s.start), .slice ha hn hc, .slice ba bn bc, .int .i64 s.left, .int .i64 s.err], .slice wa wn wc, .bool true]) ∧ GAt KB w' (.slice la ln lc) s.line ∧ GAt KH w' (.slice ha hn hc) s.heads ∧ GAt KB w' (.slice ba bn bc) s.body ∧ RawsAt 27 w' (.slice wa wn wc) xs ∧ Below w.heap.size w w'
theorem pieces_ex (vo : Option Addr) (vc : Nat) (uo : Option Addr) (uc : Nat) (b : List UInt8) (cs : List Int) (w : World) (gv : GAt KB w (.slice vo b.length vc) b) (gu : GAt KI w (.slice uo cs.length uc) cs) (hbl : b.length ≤ 8000) (hcl : cs.length ≤ 200) (hok : ∀ c ∈ cs, intOk c) (hE : Env w) (hS : EnvS w) {s : Ps} {xs : List Rw} (hr : runP new0 b = (s, xs)) :
    Calls Tryz.prog 13 #[.slice vo b.length vc, .slice uo cs.length uc] w (PcPost w s xs) := by
  refine (pieces_any vo vc uo uc b cs w gv gu hbl hcl hok hE hS).mono ?_
  rintro e w3 ⟨pv, ⟨wa, wn, wc⟩, rfl, ⟨⟨la, ln, lc⟩, ⟨ha, hn, hc⟩, ⟨ba, bn, bc⟩, rfl, g1, g2, g3, _⟩, hrw, hB⟩
  rw [hr] at g1 g2 g3 hrw ⊢
  exact ⟨la, ln, lc, ha, hn, hc, ba, bn, bc, wa, wn, wc, rfl, g1, g2, g3, hrw.at, hB⟩
def FdPost (w : World) (s : Ps) (e : Ending) (w' : World) : Prop := ∃ (la : Option Addr) (ln lc : Nat) (ha : Option Addr) (hn hc : Nat) (ba : Option Addr) (bn bc : Nat) (wa : Option Addr) (wc : Nat), e = .returned (.tuple #[.agg #[.int .i64 s.phase, .slice la ln lc, .string (bo s.start), .slice ha hn hc, .slice ba bn bc, .int .i64 s.left, .int .i64 s.err], .slice wa 0 wc]) ∧ Below w.heap.size w w'
theorem feed_err (s : Ps) (la : Option Addr) (ln lc : Nat) (ha : Option Addr) (hn hc : Nat) (ba : Option Addr) (bn bc : Nat) (v : Value) (b : List UInt8) (w : World) (gl : GAt KB w (.slice la ln lc) s.line) (gh : GAt KH w (.slice ha hn hc) s.heads) (gb : GAt KB w (.slice ba bn bc) s.body) (gv : GAt KB w v b) (hbl : b.length ≤ 100000) (hlive : liveP s) (hg : goodS s) (hE : Env w) (hS : EnvS w) (he : s.err ≠ 0) :
    Calls Tryz.prog 32 #[.agg #[.int .i64 s.phase, .slice la ln lc, .string (bo s.start), .slice ha hn hc, .slice ba bn bc, .int .i64 s.left, .int .i64 s.err], v] w (FdPost w s) := by
  refine (feed_any s ⟨la, ln, lc⟩ ⟨ha, hn, hc⟩ ⟨ba, bn, bc⟩ v b w gl gh gb gv hbl hlive hg hE hS).mono ?_
  rintro e w3 ⟨pv, ⟨wa, wn, wc⟩, rfl, ⟨⟨la, ln, lc⟩, ⟨ha, hn, hc⟩, ⟨ba, bn, bc⟩, rfl, g1, g2, g3, _⟩, ⟨m, hr1, hr2, _⟩, hB⟩
  rw [runP_err he] at hr2 ⊢
  have hm : m = [] := List.eq_nil_of_length_eq_zero hr2.1
  subst hm
  obtain ⟨ao, cap, e1⟩ := hr1.gAt.len
  simp only [Sl.v] at e1
  injection e1 with e1 e2 e3
  subst e1 e2 e3
  exact ⟨la, ln, lc, ha, hn, hc, ba, bn, bc, wa, wc, rfl, hB⟩
theorem idle_ex (s : Ps) (la : Option Addr) (ln lc : Nat) (ha : Option Addr) (hn hc : Nat) (ba : Option Addr) (bn bc : Nat) (w : World) (gl : GAt KB w (.slice la ln lc) s.line) (gh : GAt KH w (.slice ha hn hc) s.heads) (gb : GAt KB w (.slice ba bn bc) s.body) (hl : liveP s) (hg : goodS s) : Calls Tryz.prog 16 #[.agg #[.int .i64 s.phase, .slice la ln lc, .string (bo s.start), .slice ha hn hc, .slice ba bn bc, .int .i64 s.left, .int .i64 s.err]] w fun e w' => e = .returned (.bool (idleP s)) ∧ Below w.heap.size w w' :=
  idle_any s ⟨la, ln, lc⟩ ⟨ha, hn, hc⟩ ⟨ba, bn, bc⟩ w gl gh gb hl hg
set_option maxRecDepth 100000 in
set_option maxHeartbeats 4000000 in
theorem pieces_walk (v : Value) (b : List UInt8) (u1 : Value) (c1 : List Int) (u2 : Value) (c2 : List Int) (w : World) (gv : GAt KB w v b) (g1 : GAt KI w u1 c1) (k1 : ∀ c ∈ c1, intOk c) (g2 : GAt KI w u2 c2) (k2 : ∀ c ∈ c2, intOk c) (ht : Env w ∧ EnvS w) :
    Calls Tryz.prog 7 #[v, u1, u2] w fun e w' => e = .returned (.bool true) ∧ Below w.heap.size w w' := by
  have LA := hideL (fun (W : World) (hb : Below w.heap.size w W) => awake_any W (ht.1.next hb) (ht.2.next hb))
  have HB0 := hideL (Below.refl w.heap.size w)
  obtain ⟨vo, vc, rfl⟩ := gv.len
  obtain ⟨o1, e1, rfl⟩ := g1.len
  obtain ⟨o2, e2, rfl⟩ := g2.len
  by_cases hl : 8000 < b.length
  · have i1 : (8000 : Int) < (b.length : Int) := by omega
    obtain ⟨n, hn⟩ : ∃ n, b.length = n := ⟨_, rfl⟩
    rw [hn] at i1 ⊢
    clear hl gv g1 g2 k1 k2 ht hn
    go_enter Tryz.func7, Tryz.ntmps7
    go_wp2_with (go_at_call 12; refine (LA.out _ HB0.out).mono ?_; rintro e w9 ⟨rfl, hB⟩; have HB9 := hideL hB; clear hB)
    go_ret
    exact ⟨rfl, HB9.out⟩
  by_cases hl1 : 200 < c1.length
  · have i1 : ¬ (8000 : Int) < (b.length : Int) := by omega
    have i2 : (200 : Int) < (c1.length : Int) := by omega
    obtain ⟨n, hn⟩ : ∃ n, b.length = n := ⟨_, rfl⟩
    obtain ⟨n1, hn1⟩ : ∃ n, c1.length = n := ⟨_, rfl⟩
    rw [hn] at i1 ⊢
    rw [hn1] at i2 ⊢
    clear hl hl1 gv g1 g2 k1 k2 ht hn hn1
    go_enter Tryz.func7, Tryz.ntmps7
    go_wp2_with (go_at_call 12; refine (LA.out _ HB0.out).mono ?_; rintro e w9 ⟨rfl, hB⟩; have HB9 := hideL hB; clear hB)
    go_ret
    exact ⟨rfl, HB9.out⟩
  by_cases hl2 : 200 < c2.length
  · have i1 : ¬ (8000 : Int) < (b.length : Int) := by omega
    have i2 : ¬ (200 : Int) < (c1.length : Int) := by omega
    have i3 : (200 : Int) < (c2.length : Int) := by omega
    obtain ⟨n, hn⟩ : ∃ n, b.length = n := ⟨_, rfl⟩
    obtain ⟨n1, hn1⟩ : ∃ n, c1.length = n := ⟨_, rfl⟩
    obtain ⟨n2, hn2⟩ : ∃ n, c2.length = n := ⟨_, rfl⟩
    rw [hn] at i1 ⊢
    rw [hn1] at i2 ⊢
    rw [hn2] at i3 ⊢
    clear hl hl1 hl2 gv g1 g2 k1 k2 ht hn hn1 hn2
    go_enter Tryz.func7, Tryz.ntmps7
    go_wp2_with (go_at_call 12; refine (LA.out _ HB0.out).mono ?_; rintro e w9 ⟨rfl, hB⟩; have HB9 := hideL hB; clear hB)
    go_ret
    exact ⟨rfl, HB9.out⟩
  have i1 : ¬ (8000 : Int) < (b.length : Int) := by omega
  have i2 : ¬ (200 : Int) < (c1.length : Int) := by omega
  have i3 : ¬ (200 : Int) < (c2.length : Int) := by omega
  have hlv := (con_run b live_new).1
  have hgd := good_run b live_new good_new
  have hrl := run_len b new0
  obtain ⟨⟨s, xs⟩, hr⟩ : ∃ r, runP new0 b = r := ⟨_, rfl⟩
  have LP1 := fun (W : World) (hb : Below w.heap.size w W) => pieces_ex vo vc o1 e1 b c1 W (gv.below hb) (g1.below hb) (by omega) (by omega) k1 (ht.1.next hb) (ht.2.next hb) hr
  have LP2 := fun (W : World) (hb : Below w.heap.size w W) => pieces_ex vo vc o2 e2 b c2 W (gv.below hb) (g2.below hb) (by omega) (by omega) k2 (ht.1.next hb) (ht.2.next hb) hr
  rw [hr] at hlv hgd hrl
  have hxl : xs.length ≤ 1000000 := by have h : xs.length ≤ b.length := hrl; omega
  have hxh : ∀ x ∈ xs, x.heads.length ≤ 1000 := fun x hx => by have := mayH_len (hgd.2 x hx).1; omega
  have LS := hideL (fun (va vb : Value) (W : World) (h1 : RawsAt 27 W va xs) (h2 : RawsAt 27 W vb xs) => sameRaws_any va vb xs xs W h1 h2 hxh hxl)
  have HLV := hideL hlv
  have HLEN := hideL (show b.length ≤ 100000 by omega)
  have HGD := hideL hgd.1
  have HV := hideL gv
  have HT := hideL ht
  have LI := (fun (la : Option Addr) (ln lc : Nat) (ha : Option Addr) (hn hc : Nat) (ba : Option Addr) (bn bc : Nat) (W : World) (q1 : GAt KB W (.slice la ln lc) s.line) (q2 : GAt KH W (.slice ha hn hc) s.heads) (q3 : GAt KB W (.slice ba bn bc) s.body) => idle_ex s la ln lc ha hn hc ba bn bc W q1 q2 q3 hlv hgd.1)
  have LP1 := hideL LP1
  have LP2 := hideL LP2
  obtain ⟨n, hn⟩ : ∃ n, b.length = n := ⟨_, rfl⟩
  obtain ⟨n1, hn1⟩ : ∃ n, c1.length = n := ⟨_, rfl⟩
  obtain ⟨n2, hn2⟩ : ∃ n, c2.length = n := ⟨_, rfl⟩
  rw [hn] at i1 LP1 LP2 HV ⊢
  rw [hn1] at i2 LP1 ⊢
  rw [hn2] at i3 LP2 ⊢
  clear hl hl1 hl2 gv g1 g2 k1 k2 ht hn hn1 hn2 hlv hgd hrl hxl hxh hr
  by_cases he : s.err = 0
  · have HERR := hideL he
    have LI := hideL LI
    have b0 : ((s.err : Int) == 0) = true := by rw [he]; rfl
    clear he
    go_enter Tryz.func7, Tryz.ntmps7
    go_wp2_with (first
      | (go_at_call 13; (with_reducible refine (LP1.out _ HB0.out).mono ?_); rintro e w3 ⟨la, ln, lc, ha, hn, hc, ba, bn, bc, wa, wn, wc, rfl, g1, g2, g3, hrw, hB⟩
         have hz2 := (Below.refl w3.heap.size w3).alloc (Nat.le_refl _) (pO s (.slice la ln lc) (.slice ha hn hc) (.slice ba bn bc))
         have HX := hideL (pO_box w3 s (.slice la ln lc) (.slice ha hn hc) (.slice ba bn bc))
         have G1 := hideL (g1.below hz2)
         have G2 := hideL (g2.below hz2)
         have G3 := hideL (g3.below hz2)
         have HR1 := hideL (hrw.below hz2)
         have HB1 := hideL (hB.trans (hz2.mono hB.size))
         clear g1 g2 g3 hrw hB hz2)
      | (go_at_call 13; (with_reducible refine (LP2.out _ HB1.out).mono ?_); rintro e w4 ⟨ja, jn, jc, ka, kn, kc, ma, mn, mc, xa, xn, xc, rfl, g1, g2, g3, hrw, hB⟩
         have hz2 := (Below.refl w4.heap.size w4).alloc (Nat.le_refl _) (pO s (.slice ja jn jc) (.slice ka kn kc) (.slice ma mn mc))
         have hz := hB.trans (hz2.mono hB.size)
         have HX := hideL (HX.out.next hz)
         have HY := hideL (pO_box w4 s (.slice ja jn jc) (.slice ka kn kc) (.slice ma mn mc))
         have G1 := hideL (G1.out.below hz)
         have G2 := hideL (G2.out.below hz)
         have G3 := hideL (G3.out.below hz)
         have J1 := hideL (g1.below hz2)
         have J2 := hideL (g2.below hz2)
         have J3 := hideL (g3.below hz2)
         have HR1 := hideL (HR1.out.below hz)
         have HR2 := hideL (hrw.below hz2)
         have HB2 := hideL (HB1.out.trans (hz.mono HB1.out.size))
         clear g1 g2 g3 hrw hB hz hz2))
    have hdr := (Below.refl (w4.alloc (pO s (.slice ja jn jc) (.slice ka kn kc) (.slice ma mn mc))).heap.size (w4.alloc (pO s (.slice ja jn jc) (.slice ka kn kc) (.slice ma mn mc)))).drew
    have LS2 := hideL (LS.out _ _ (w4.alloc (pO s (.slice ja jn jc) (.slice ka kn kc) (.slice ma mn mc))).drew (HR1.out.below hdr) (HR2.out.below hdr))
    have HB3 := hideL (HB2.out.trans (hdr.mono HB2.out.size))
    have HX := hideL (HX.out.next hdr)
    have HY := hideL (HY.out.next hdr)
    have G1 := hideL (G1.out.below hdr)
    have G2 := hideL (G2.out.below hdr)
    have G3 := hideL (G3.out.below hdr)
    have J1 := hideL (J1.out.below hdr)
    have J2 := hideL (J2.out.below hdr)
    have J3 := hideL (J3.out.below hdr)
    clear hdr HB2 HR1 HR2
    go_region_with (first
      | (go_at_call 15; (with_reducible refine LS2.out.mono ?_); rintro e w5 ⟨⟨z, rfl, hz⟩, hB⟩
         obtain rfl : z = true := hz.2 (by trivial)
         have HX5 := hideL (HX.out.next hB)
         have HY5 := hideL (HY.out.next hB)
         have cx0 := HX5.out.c0
         have cx1 := HX5.out.c1
         have cx2 := HX5.out.c2
         have cx3 := HX5.out.c3
         have cx4 := HX5.out.c4
         have cx5 := HX5.out.c5
         have cx6 := HX5.out.c6
         have cy0 := HY5.out.c0
         have cy1 := HY5.out.c1
         have cy2 := HY5.out.c2
         have cy3 := HY5.out.c3
         have cy4 := HY5.out.c4
         have cy5 := HY5.out.c5
         have cy6 := HY5.out.c6
         have LI5 := hideL (LI.out la ln lc ha hn hc ba bn bc w5 (G1.out.below hB) (G2.out.below hB) (G3.out.below hB))
         have J15 := hideL (J1.out.below hB)
         have J25 := hideL (J2.out.below hB)
         have J35 := hideL (J3.out.below hB)
         have G15 := hideL (G1.out.below hB)
         have G25 := hideL (G2.out.below hB)
         have G35 := hideL (G3.out.below hB)
         have HB5 := hideL (HB3.out.trans (hB.mono HB3.out.size))
         clear hB hz)
      | (go_at_call 16; (with_reducible refine LI5.out.mono ?_); rintro e w6 ⟨rfl, hB⟩
         have HX6 := hideL (HX5.out.next hB)
         have HY6 := hideL (HY5.out.next hB)
         have cz0 := HY6.out.c0
         have cz1 := HY6.out.c1
         have cz2 := HY6.out.c2
         have cz3 := HY6.out.c3
         have cz4 := HY6.out.c4
         have cz5 := HY6.out.c5
         have cz6 := HY6.out.c6
         have LI6 := hideL (LI.out ja jn jc ka kn kc ma mn mc w6 (J15.out.below hB) (J25.out.below hB) (J35.out.below hB))
         have G16 := hideL (G15.out.below hB)
         have G26 := hideL (G25.out.below hB)
         have G36 := hideL (G35.out.below hB)
         have HB6 := hideL (HB5.out.trans (hB.mono HB5.out.size))
         clear hB LI5)
      | (go_at_call 16; (with_reducible refine LI6.out.mono ?_); rintro e w7 ⟨rfl, hB⟩
         have HX7 := hideL (HX6.out.next hB)
         have h6 := HX7.out.c6
         have G17 := hideL (G16.out.below hB)
         have G27 := hideL (G26.out.below hB)
         have G37 := hideL (G36.out.below hB)
         have HB7 := hideL (HB6.out.trans (hB.mono HB6.out.size))
         clear hB LI6))
    all_goals
      go_wp2_with (go_at_call 12; refine (LA.out _ HB7.out).mono ?_; rintro e w9 ⟨rfl, hB⟩; have HB9 := hideL (HB7.out.trans (hB.mono HB7.out.size)); clear hB)
      go_ret
      exact ⟨rfl, HB9.out⟩
  · have HERR := hideL he
    have b0 : ((s.err : Int) == 0) = false := by rw [beq_eq_false_iff_ne]; omega
    rw [idle_err he] at LI
    have LI := hideL LI
    clear he
    go_enter Tryz.func7, Tryz.ntmps7
    go_wp2_with (first
      | (go_at_call 13; (with_reducible refine (LP1.out _ HB0.out).mono ?_); rintro e w3 ⟨la, ln, lc, ha, hn, hc, ba, bn, bc, wa, wn, wc, rfl, g1, g2, g3, hrw, hB⟩
         have hz2 := (Below.refl w3.heap.size w3).alloc (Nat.le_refl _) (pO s (.slice la ln lc) (.slice ha hn hc) (.slice ba bn bc))
         have HX := hideL (pO_box w3 s (.slice la ln lc) (.slice ha hn hc) (.slice ba bn bc))
         have G1 := hideL (g1.below hz2)
         have G2 := hideL (g2.below hz2)
         have G3 := hideL (g3.below hz2)
         have HR1 := hideL (hrw.below hz2)
         have HB1 := hideL (hB.trans (hz2.mono hB.size))
         clear g1 g2 g3 hrw hB hz2)
      | (go_at_call 13; (with_reducible refine (LP2.out _ HB1.out).mono ?_); rintro e w4 ⟨ja, jn, jc, ka, kn, kc, ma, mn, mc, xa, xn, xc, rfl, g1, g2, g3, hrw, hB⟩
         have hz2 := (Below.refl w4.heap.size w4).alloc (Nat.le_refl _) (pO s (.slice ja jn jc) (.slice ka kn kc) (.slice ma mn mc))
         have hz := hB.trans (hz2.mono hB.size)
         have HX := hideL (HX.out.next hz)
         have HY := hideL (pO_box w4 s (.slice ja jn jc) (.slice ka kn kc) (.slice ma mn mc))
         have G1 := hideL (G1.out.below hz)
         have G2 := hideL (G2.out.below hz)
         have G3 := hideL (G3.out.below hz)
         have J1 := hideL (g1.below hz2)
         have J2 := hideL (g2.below hz2)
         have J3 := hideL (g3.below hz2)
         have HR1 := hideL (HR1.out.below hz)
         have HR2 := hideL (hrw.below hz2)
         have HB2 := hideL (HB1.out.trans (hz.mono HB1.out.size))
         clear g1 g2 g3 hrw hB hz hz2))
    have hdr := (Below.refl (w4.alloc (pO s (.slice ja jn jc) (.slice ka kn kc) (.slice ma mn mc))).heap.size (w4.alloc (pO s (.slice ja jn jc) (.slice ka kn kc) (.slice ma mn mc)))).drew
    have LS2 := hideL (LS.out _ _ (w4.alloc (pO s (.slice ja jn jc) (.slice ka kn kc) (.slice ma mn mc))).drew (HR1.out.below hdr) (HR2.out.below hdr))
    have HB3 := hideL (HB2.out.trans (hdr.mono HB2.out.size))
    have HX := hideL (HX.out.next hdr)
    have HY := hideL (HY.out.next hdr)
    have G1 := hideL (G1.out.below hdr)
    have G2 := hideL (G2.out.below hdr)
    have G3 := hideL (G3.out.below hdr)
    have J1 := hideL (J1.out.below hdr)
    have J2 := hideL (J2.out.below hdr)
    have J3 := hideL (J3.out.below hdr)
    clear hdr HB2 HR1 HR2
    go_region_with (first
      | (go_at_call 15; (with_reducible refine LS2.out.mono ?_); rintro e w5 ⟨⟨z, rfl, hz⟩, hB⟩
         obtain rfl : z = true := hz.2 (by trivial)
         have HX5 := hideL (HX.out.next hB)
         have HY5 := hideL (HY.out.next hB)
         have cx0 := HX5.out.c0
         have cx1 := HX5.out.c1
         have cx2 := HX5.out.c2
         have cx3 := HX5.out.c3
         have cx4 := HX5.out.c4
         have cx5 := HX5.out.c5
         have cx6 := HX5.out.c6
         have cy0 := HY5.out.c0
         have cy1 := HY5.out.c1
         have cy2 := HY5.out.c2
         have cy3 := HY5.out.c3
         have cy4 := HY5.out.c4
         have cy5 := HY5.out.c5
         have cy6 := HY5.out.c6
         have LI5 := hideL (LI.out la ln lc ha hn hc ba bn bc w5 (G1.out.below hB) (G2.out.below hB) (G3.out.below hB))
         have J15 := hideL (J1.out.below hB)
         have J25 := hideL (J2.out.below hB)
         have J35 := hideL (J3.out.below hB)
         have G15 := hideL (G1.out.below hB)
         have G25 := hideL (G2.out.below hB)
         have G35 := hideL (G3.out.below hB)
         have HB5 := hideL (HB3.out.trans (hB.mono HB3.out.size))
         clear hB hz)
      | (go_at_call 16; (with_reducible refine LI5.out.mono ?_); rintro e w6 ⟨rfl, hB⟩
         have HX6 := hideL (HX5.out.next hB)
         have HY6 := hideL (HY5.out.next hB)
         have cz0 := HY6.out.c0
         have cz1 := HY6.out.c1
         have cz2 := HY6.out.c2
         have cz3 := HY6.out.c3
         have cz4 := HY6.out.c4
         have cz5 := HY6.out.c5
         have cz6 := HY6.out.c6
         have LI6 := hideL (LI.out ja jn jc ka kn kc ma mn mc w6 (J15.out.below hB) (J25.out.below hB) (J35.out.below hB))
         have G16 := hideL (G15.out.below hB)
         have G26 := hideL (G25.out.below hB)
         have G36 := hideL (G35.out.below hB)
         have HB6 := hideL (HB5.out.trans (hB.mono HB5.out.size))
         clear hB LI5)
      | (go_at_call 16; (with_reducible refine LI6.out.mono ?_); rintro e w7 ⟨rfl, hB⟩
         have HX7 := hideL (HX6.out.next hB)
         have h0 := HX7.out.c0
         have h1 := HX7.out.c1
         have h2 := HX7.out.c2
         have h3 := HX7.out.c3
         have h4 := HX7.out.c4
         have h5 := HX7.out.c5
         have h6 := HX7.out.c6
         have G17 := hideL (G16.out.below hB)
         have G27 := hideL (G26.out.below hB)
         have G37 := hideL (G36.out.below hB)
         have HB7 := hideL (HB6.out.trans (hB.mono HB6.out.size))
         clear hB LI6))
    all_goals
      have LF7 := hideL (feed_err s la ln lc ha hn hc ba bn bc _ b w7 G17.out G27.out G37.out (HV.out.below HB7.out) HLEN.out HLV.out HGD.out (HT.out.1.next HB7.out) (HT.out.2.next HB7.out) HERR.out)
      go_wp2_with (first
        | (go_at_call 32; (with_reducible refine LF7.out.mono ?_); rintro e w8 ⟨ya, yn, yc, za, zn, zc, qa, qn, qc, na, nc, rfl, hB⟩
           have hz2 := (Below.refl w8.heap.size w8).alloc (Nat.le_refl _) (pO s (.slice ya yn yc) (.slice za zn zc) (.slice qa qn qc))
           have hz := hB.trans (hz2.mono hB.size)
           have HZ := hideL (pO_box w8 s (.slice ya yn yc) (.slice za zn zc) (.slice qa qn qc))
           have HX8 := hideL (HX7.out.next hz)
           have m0 := HX8.out.c0
           have m1 := HX8.out.c1
           have m2 := HX8.out.c2
           have m3 := HX8.out.c3
           have m4 := HX8.out.c4
           have m5 := HX8.out.c5
           have m6 := HX8.out.c6
           have t6 := HZ.out.c6
           have LI8 := hideL (LI.out la ln lc ha hn hc ba bn bc _ (G17.out.below hz) (G27.out.below hz) (G37.out.below hz))
           have HB8 := hideL (HB7.out.trans (hz.mono HB7.out.size))
           clear hB hz hz2)
        | (go_at_call 16; (with_reducible refine LI8.out.mono ?_); rintro e wI ⟨rfl, hB⟩
           have HBI := hideL (HB8.out.trans (hB.mono HB8.out.size))
           clear hB)
        | (go_at_call 12; refine (LA.out _ HBI.out).mono ?_; rintro e w9 ⟨rfl, hB⟩; have HB9 := hideL (HBI.out.trans (hB.mono HBI.out.size)); clear hB))
      go_ret
      exact ⟨rfl, HB9.out⟩
end Go.Proofs.YtfpdcokdponojaaGreatDoor
