/- RequestAlone: of bytes that are one request no beginning is one; whatever stands behind them, the first message is that. -/
import Derived.Test.YtfpdcokdponojaaGreatDoorRqCon
import Derived.Test.YtfpdcokdponojaaGreatDoorRqAwake
import Derived.Test.YtfpdcokdponojaaGreatDoorRqBrow
namespace Go.Proofs.YtfpdcokdponojaaGreatDoor
open Go.RowKit Go.Lib

abbrev rqB (m t p q o : ByteArray) (h b : Value) : Obj := .cells #[.string m, .string t, .string p, .string q, .string o, h, b] 42
theorem rqB_box (w : World) (m t p q o : ByteArray) (h b : Value) : RBox7 42 (w.alloc (rqB m t p q o h b)) w.heap.size (.string m) (.string t) (.string p) (.string q) (.string o) h b := heap_alloc_new w _
abbrev psB (c0 c5 c6 : Int) (c2 : ByteArray) (a b c : Value) : Obj := .cells #[.int .i64 c0, a, .string c2, b, c, .int .i64 c5, .int .i64 c6] 30
theorem fit_mayH {h : List Hd} {body : List UInt8} (hf : fitP h body = true) : mayH h = true := by
  unfold fitP at hf
  simp only [Bool.and_eq_true, decide_eq_true_eq] at hf
  exact hf.1.1.2
theorem nilB (W : World) : GRow KB (W.alloc (.cells #[] 5)) W.heap.size (.slice (some ⟨W.heap.size, 0, none⟩) 0 0) [] := GRow.lit (K := KB) W W.heap.size [] (Nat.le_refl _) (by decide)
/-- b and more, one behind the other, in memory that is new. -/
theorem two_rows (W : World) (v u : Value) (b m : List UInt8) (gv : GAt KB W v b) (gu : GAt KB W u m) (hb : b.length ≤ 8000) (hm : m.length ≤ 8000) :
    ∃ v1 w1 v2 w2, (Builtin.append_ #[22, 22] 22 #[.slice (some ⟨W.heap.size, 0, none⟩) 0 0, v]).run Tryz.prog (W.alloc (.cells #[] 5)) = .ok v1 w1 ∧
      (Builtin.append_ #[22, 22] 22 #[v1, u]).run Tryz.prog w1 = .ok v2 w2 ∧ GAt KB w2 v2 (b ++ m) ∧ Below W.heap.size W w2 := by
  have hb0 := (Below.refl W.heap.size W).alloc (Nat.le_refl _) (.cells #[] 5)
  obtain ⟨v1, w1, q1, r1, b1⟩ := cat_b _ W.heap.size _ _ (nilB W) v b (gv.below hb0) (by rw [List.length_nil]; omega) hb0.size
  rw [List.nil_append] at r1
  have hb1 := hb0.trans b1
  obtain ⟨v2, w2, q2, r2, b2⟩ := cat_b w1 W.heap.size _ _ r1 u m (gu.below hb1) (by omega) hb1.size
  exact ⟨v1, w1, v2, w2, q1, q2, r2.gAt, hb1.trans b2⟩
set_option maxRecDepth 100000 in
set_option maxHeartbeats 4000000 in
theorem alone_walk (v : Value) (b : List UInt8) (u : Value) (m : List UInt8) (at_ : Int) (w : World) (gv : GAt KB w v b) (gu : GAt KB w u m) (_ : (Lit.int .i64 at_).wf = true) (ht : Env w ∧ EnvS w) :
    Calls Tryz.prog 8 #[v, u, .int .i64 at_] w fun e w' => e = .returned (.bool true) ∧ Below w.heap.size w w' := by
  have LA := hideL (fun (W : World) (hb : Below w.heap.size w W) => awake_any W (ht.1.next hb) (ht.2.next hb))
  have HB0 := hideL (Below.refl w.heap.size w)
  obtain ⟨vo, vc, rfl⟩ := gv.len
  obtain ⟨uo, uc, rfl⟩ := gu.len
  by_cases hl : 8000 < b.length
  · have i1 : (8000 : Int) < (b.length : Int) := by omega
    obtain ⟨n, hn⟩ : ∃ n, b.length = n := ⟨_, rfl⟩
    rw [hn] at i1 ⊢
    clear hl gv gu ht hn
    go_enter Tryz.func8, Tryz.ntmps8
    go_wp2_with (go_at_call 12; refine (LA.out _ HB0.out).mono ?_; rintro e w9 ⟨rfl, hB⟩; have HB9 := hideL hB; clear hB)
    go_ret
    exact ⟨rfl, HB9.out⟩
  have i1 : ¬ (8000 : Int) < (b.length : Int) := by omega
  by_cases hl2 : 8000 < m.length
  · have i2 : (8000 : Int) < (m.length : Int) := by omega
    obtain ⟨n, hn⟩ : ∃ n, b.length = n := ⟨_, rfl⟩
    obtain ⟨k, hk⟩ : ∃ n, m.length = n := ⟨_, rfl⟩
    rw [hn] at i1 ⊢
    rw [hk] at i2 ⊢
    clear hl hl2 gv gu ht hn hk
    go_enter Tryz.func8, Tryz.ntmps8
    go_wp2_with (go_at_call 12; refine (LA.out _ HB0.out).mono ?_; rintro e w9 ⟨rfl, hB⟩; have HB9 := hideL hB; clear hB)
    go_ret
    exact ⟨rfl, HB9.out⟩
  have i2 : ¬ (8000 : Int) < (m.length : Int) := by omega
  rcases one_shape b with ⟨r, ho⟩ | ⟨k, hk, ho⟩
  rotate_left
  · -- none: nothing is said but that there is none
    have LO := hideL (one_badC ho (.slice vo b.length vc) w gv (by omega) ht.1 ht.2)
    have ik : ((k : Int) != 0) = true := by rw [bne_iff_ne]; omega
    have ik2 : ((k : Int) == 0) = false := by rw [beq_eq_false_iff_ne]; omega
    obtain ⟨n, hn⟩ : ∃ n, b.length = n := ⟨_, rfl⟩
    obtain ⟨n2, hn2⟩ : ∃ n, m.length = n := ⟨_, rfl⟩
    rw [hn] at i1 LO ⊢
    rw [hn2] at i2 ⊢
    clear hl hl2 gv gu ht hn hn2 ho hk
    by_cases h0 : 0 < n
    · have i0 : (0 : Int) < (n : Int) := by omega
      clear h0
      go_enter Tryz.func8, Tryz.ntmps8
      go_wp2_with (first
        | (go_at_call 18; refine LO.out.mono ?_; rintro e w2 ⟨rfl, hB⟩; have hz := (Below.refl w2.heap.size w2).alloc (Nat.le_refl _) (rqB ⟨#[]⟩ ⟨#[]⟩ ⟨#[]⟩ ⟨#[]⟩ ⟨#[]⟩ (.slice none 0 0) (.slice none 0 0)); have HB2 := hideL (hB.trans (hz.mono hB.size)); clear hB hz)
        | (go_at_call 12; refine (LA.out _ HB2.out).mono ?_; rintro e w9 ⟨rfl, hB⟩; have HB9 := hideL (HB2.out.trans (hB.mono HB2.out.size)); clear hB))
      go_ret
      exact ⟨rfl, HB9.out⟩
    · have i0 : ¬ (0 : Int) < (n : Int) := by omega
      clear h0
      go_enter Tryz.func8, Tryz.ntmps8
      go_wp2_with (go_at_call 18; refine LO.out.mono ?_; rintro e w2 ⟨rfl, hB⟩; have hz := (Below.refl w2.heap.size w2).alloc (Nat.le_refl _) (rqB ⟨#[]⟩ ⟨#[]⟩ ⟨#[]⟩ ⟨#[]⟩ ⟨#[]⟩ (.slice none 0 0) (.slice none 0 0)); have HB2 := hideL (hB.trans (hz.mono hB.size)); clear hB hz)
      go_ret
      exact ⟨rfl, HB2.out⟩
  · have hbn := List.length_pos_iff.2 (one_ne ho)
    obtain ⟨z, hz⟩ : ∃ z : Nat, max 0 at_ = (z : Int) := ⟨(max 0 at_).toNat, by omega⟩
    obtain ⟨K, hKn⟩ : ∃ K, z % b.length = K := ⟨_, rfl⟩
    have hKl : K < b.length := by rw [← hKn]; exact Nat.mod_lt _ hbn
    have hKd : Int.tmod (z : Int) (b.length : Int) = (K : Int) := by rw [← hKn]; rfl
    have hKe : (z : Int) % (b.length : Int) = (K : Int) := by rw [← hKn]; rfl
    obtain ⟨k2, hk2, ho2⟩ := al_short ho K hKl
    obtain ⟨y, l, hrow, hof⟩ := al_more ho m
    have hgood := row_good (b ++ m) y (by rw [hrow]; exact List.mem_cons_self ..)
    obtain ⟨g1, g2, g3⟩ := hgood
    have LO := hideL (one_okC ho (.slice vo b.length vc) w gv (by omega) ht.1 ht.2)
    have LO2 := hideL (fun (W : World) (hb : Below w.heap.size w W) => one_badC ho2 (.slice vo K vc) W ((gv.below hb).front (by omega)) (by rw [List.length_take]; omega) (ht.1.next hb) (ht.2.next hb))
    have LT := hideL (fun (W : World) (hb : Below w.heap.size w W) => two_rows W (.slice vo b.length vc) (.slice uo m.length uc) b m (gv.below hb) (gu.below hb) (by omega) (by omega))
    have LF := hideL (fun (v2 : Value) (W : World) (hb : Below w.heap.size w W) (g : GAt KB W v2 (b ++ m)) => feed_newC (b ++ m) v2 W g (by rw [List.length_append]; omega) (ht.1.next hb) (ht.2.next hb))
    have LG := hideL (fun (s : ByteArray) (ra : Option Addr) (rn rc : Nat) (sa : Option Addr) (sn sc : Nat) (W : World) (hb : Below w.heap.size w W) (h : RawAt W ⟨s, ⟨ra, rn, rc⟩, ⟨sa, sn, sc⟩⟩ y) => of_okC hof s ra rn rc sa sn sc W h (good_fits g1) (by rw [← size_list, h.1]; omega) (by have := mayH_len g1; omega) (by omega) (ht.1.next hb) (ht.2.next hb))
    have hrh : r.heads.length ≤ 1000 := by
      have h := (one_may ho).2
      have := mayH_len (fit_mayH h)
      omega
    have HRH := hideL hrh
    have HROW := hideL hrow
    have ik : ((k2 : Int) == 0) = false := by rw [beq_eq_false_iff_ne]; omega
    have hcut := fun w => run_cut_h (P := Tryz.prog) Tryz.underlying22 sizeB vo b.length vc K (by have := gv.le; omega) w
    have LN := hideL new_anyC
    obtain ⟨n, hn⟩ : ∃ n, b.length = n := ⟨_, rfl⟩
    obtain ⟨n2, hn2⟩ : ∃ n, m.length = n := ⟨_, rfl⟩
    rw [hn] at i1 LO LT hKd hKe hcut hKl hbn ⊢
    rw [hn2] at i2 LT ⊢
    have i0 : ((n : Int) == 0) = false := by rw [beq_eq_false_iff_ne]; omega
    have i3 : (0 : Int) ≤ (K : Int) := by omega
    have i4 : (K : Int) < (n : Int) := by omega
    clear hl hl2 gv gu ht hn hn2 ho ho2 hof hKn g1 g2 g3 hk2 hrh hrow hbn
    go_enter Tryz.func8, Tryz.ntmps8
    go_wp2_with (first
      | (go_at_call 18; (with_reducible refine LO.out.mono ?_); rintro e w2 ⟨⟨m1, t1, p1, q1, o1, ha1, hn1, hc1, ba1, bn1, bc1, rfl, hreq, _⟩, hB⟩
         have hz2 := (Below.refl w2.heap.size w2).alloc (Nat.le_refl _) (rqB m1 t1 p1 q1 o1 (.slice ha1 hn1 hc1) (.slice ba1 bn1 bc1))
         have HX := hideL (rqB_box w2 m1 t1 p1 q1 o1 (.slice ha1 hn1 hc1) (.slice ba1 bn1 bc1))
         have HR := hideL (hreq.below hz2)
         have HB2 := hideL (hB.trans (hz2.mono hB.size))
         clear hB hz2 hreq)
      | (go_at_call 18; (with_reducible refine (LO2.out _ HB2.out).mono ?_); rintro e w3 ⟨rfl, hB⟩
         have hz2 := (Below.refl w3.heap.size w3).alloc (Nat.le_refl _) (rqB ⟨#[]⟩ ⟨#[]⟩ ⟨#[]⟩ ⟨#[]⟩ ⟨#[]⟩ (.slice none 0 0) (.slice none 0 0))
         have hz3 := hB.trans (hz2.mono hB.size)
         have HX := hideL (HX.out.next hz3)
         have HR := hideL (HR.out.below hz3)
         have HB3 := hideL (HB2.out.trans (hz3.mono HB2.out.size))
         clear hB hz2 hz3)
      | (go_at_call 33; refine (LN.out _).mono ?_; rintro e w4 ⟨rfl, hB⟩
         have HB4 := hideL (HB3.out.trans (hB.mono HB3.out.size))
         obtain ⟨v1, w5, v2, w6, q1', q2', g6, b6⟩ := LT.out w4 HB4.out
         have Q1 := hideL q1'
         have Q2 := hideL q2'
         have hz3 := hB.trans (b6.mono hB.size)
         have HX := hideL (HX.out.next hz3)
         have HR := hideL (HR.out.below hz3)
         have HB6 := hideL (HB3.out.trans (hz3.mono HB3.out.size))
         have LF6 := hideL (LF.out v2 w6 HB6.out g6)
         clear hB q1' q2' g6 b6 hz3)
      | (at_builtin; refine wpList_append_runP rfl (.tmp 62) (.tmp 63) 22 22 22 rfl rfl _ _ v1 w5 rfl rfl Q1.out ?_)
      | (at_builtin; refine wpList_append_runP rfl (.tmp 64) (.tmp 65) 22 22 22 rfl rfl _ _ v2 w6 rfl rfl Q2.out ?_)
      | (go_at_call 32; (with_reducible refine LF6.out.mono ?_); rintro e w7 ⟨⟨c0, c5, c6, c2, la, ln, lc, ha, hn, hc, ba, bn, bc, wa, wn, wc, rfl, hraws⟩, hB⟩
         have hwn := row_head hraws
         rw [HROW.out, List.length_cons] at hwn
         have hraw0 := hraws.at.at (k := 0) (by omega)
         rw [HROW.out] at hraw0
         obtain ⟨bb, oo, ⟨rs, ⟨ra, rn, rc⟩, ⟨sa, sn, sc⟩⟩, rfl, hlt, d0, d1, d2, hraw⟩ := hraw0
         simp only [Sl.v, Nat.zero_mul, Nat.add_zero] at d0 d1 d2
         have iw : ¬ ((wn : Int) < 1) := by omega
         have iw2 : (0 : Int) < (wn : Int) := by omega
         have hz2 := (Below.refl w7.heap.size w7).alloc (Nat.le_refl _) (psB c0 c5 c6 c2 (.slice la ln lc) (.slice ha hn hc) (.slice ba bn bc))
         have hz3 := hB.trans (hz2.mono hB.size)
         have D0 := (hz2.cell (p := ⟨bb, oo, none⟩) hlt).trans d0
         have D1 := (hz2.cell (p := ⟨bb, oo + 1, none⟩) hlt).trans d1
         have D2 := (hz2.cell (p := ⟨bb, oo + 2, none⟩) hlt).trans d2
         have HX := hideL (HX.out.next hz3)
         have HR := hideL (HR.out.below hz3)
         have HB7 := hideL (HB6.out.trans (hz3.mono HB6.out.size))
         have LG7 := hideL (LG.out rs ra rn rc sa sn sc _ HB7.out (hraw.below hz2))
         clear hB hz2 hz3 hraws hraw d0 d1 d2 hwn hlt)
      | (go_at_call 22; (with_reducible refine LG7.out.mono ?_); rintro e w8 ⟨⟨m3, t3, p3, q3, o3, ha3, hn3, hc3, ba3, bn3, bc3, rfl, hreq, _⟩, hB⟩
         have hz2 := (Below.refl w8.heap.size w8).alloc (Nat.le_refl _) (rqB m3 t3 p3 q3 o3 (.slice ha3 hn3 hc3) (.slice ba3 bn3 bc3))
         have hz3 := hB.trans (hz2.mono hB.size)
         have hb := HX.out.next hz3
         have x0 := hb.c0
         have x1 := hb.c1
         have x2 := hb.c2
         have x3 := hb.c3
         have x4 := hb.c4
         have x5 := hb.c5
         have x6 := hb.c6
         have hb2 := rqB_box w8 m3 t3 p3 q3 o3 (.slice ha3 hn3 hc3) (.slice ba3 bn3 bc3)
         have y0 := hb2.c0
         have y1 := hb2.c1
         have y2 := hb2.c2
         have y3 := hb2.c3
         have y4 := hb2.c4
         have y5 := hb2.c5
         have y6 := hb2.c6
         have LS := hideL (sameRqC m1 t1 p1 q1 o1 m3 t3 p3 q3 o3 ha1 hn1 hc1 ba1 bn1 bc1 ha3 hn3 hc3 ba3 bn3 bc3 r r _ (HR.out.below hz3) (hreq.below hz2) HRH.out)
         have HB8 := hideL (HB7.out.trans (hz3.mono HB7.out.size))
         clear hB hz2 hz3 hb hb2 hreq)
      | (go_at_call 20; (with_reducible refine LS.out.mono ?_); rintro e wS ⟨⟨zz, rfl, hzz⟩, hB⟩
         obtain rfl : zz = true := hzz.2 (by trivial)
         have HBS := hideL (HB8.out.trans (hB.mono HB8.out.size))
         clear hB hzz)
      | (go_at_call 12; refine (LA.out _ HBS.out).mono ?_; rintro e w9 ⟨rfl, hB⟩; have HB9 := hideL (HBS.out.trans (hB.mono HBS.out.size)); clear hB))
    go_ret
    exact ⟨rfl, HB9.out⟩
end Go.Proofs.YtfpdcokdponojaaGreatDoor
