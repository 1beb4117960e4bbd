/- The reading takes a header's line. -/
import Derived.Test.YtafmgoekgijfgaaGreatDoorARqM2
import Derived.Test.YtafmgoekgijfgaaGreatDoorARqM5
import Derived.Test.YtafmgoekgijfgaaGreatDoorARqM3
namespace Go.Proofs.YtafmgoekgijfgaaGreatDoor
open Go.RowKit Go.Lib
variable {Pr : List (Nat × Obj)} {W : World} {B g : Nat} {s : Ps} {xs : List Rw} {lv hv bv wv : Sl} {m : List RV}

/-- What a header's line makes of the reading. -/
def heP (s : Ps) (t : List UInt8) : Ps × List Rw :=
 if t = [] then s.hdone else
   match readP t with
   | (0, n, v) => if s.heads.length = 24 then (s.bad 3, []) else ({ s with heads := s.heads ++ [⟨bo n, bo v⟩] }, [])
   | (e, _, _) => (s.bad e, [])
/-- New headers in the box. -/
theorem headput (h : RS Pr W B g s xs lv hv bv wv m) {W1 : World} {hv' : Sl} {hs : List Hd} (hb : Below W.heap.size W W1) (hr : GRow KH W1 W.heap.size hv'.v hs) :
   RS Pr (W1.setCell ⟨g, 3, none⟩ hv'.v) B g { s with heads := hs } xs lv hv' bv wv m ∧ Below B W (W1.setCell ⟨g, 3, none⟩ hv'.v) :=
 ⟨h.headed (s' := { s with heads := hs }) hb hr (keepg_set W1 g 3 hv'.v) rfl rfl ((h.rbox.next hb).s3 _), (hb.mono h.base).trans (keepg_below (keepg_set W1 g 3 hv'.v) h.le (Nat.le_trans h.base hb.size))⟩
set_option maxRecDepth 100000 in
set_option maxHeartbeats 2000000 in
theorem head_any (h : RS Pr W B g s xs lv hv bv wv m) (hE : Env W) (hg : goodS s) (hl : s.line = []) (hb : s.body = []) (hm : m.length ≤ 1000000) (t : ByteArray) (ht : t.size ≤ 1000000) :
   Calls Tryz.prog 154 #[.pointer (some ⟨g, 0, none⟩), .string t] W (GoP Pr W B g (heP s t.data.toList).1 (xs ++ (heP s t.data.toList).2) (.tuple #[])) := by
 unfold heP
 by_cases h0 : t = ⟨#[]⟩
 · subst h0
   rw [if_pos rfl]
   have LH := hideL (headsEnd_any h hE hg hl hb hm)
   clear h hE hg hl hb
   go_enter Tryz.func154, Tryz.ntmps154
   go_wp2_with (go_at_call 198; refine LH.out.mono ?_; rintro e w2 ⟨rfl, hB, hR⟩)
   first | go_end0 | refine bodyPost_ret (results_none rfl _ _ _) rfl ?_
   exact ⟨rfl, hB, hR⟩
 · have hn := eqs_false h0
   rw [ByteArray.toList_eq ⟨#[]⟩] at hn
   rw [if_neg (fun e => h0 (bytes_ext e))]
   have LR := hideL (read_any t ht W)
   have HS := hideL h
   obtain ⟨⟨e0, n, v⟩, hr⟩ : ∃ r, readP t.data.toList = r := ⟨_, rfl⟩
   rw [hr] at LR ⊢
   simp only [readA] at LR
   have hhl := mayH_len hg.heads
   have hfit := good_fits hg.heads
   clear h0
   cases e0 with
   | succ e0 =>
     simp only [List.append_nil]
     have en : (((e0 + 1 : Nat) : Int) == 0) = false := beq_eq_false_iff_ne.2 (by omega)
     generalize e0 + 1 = k at *
     clear h hE hg hl hb hr hfit hhl
     go_enter Tryz.func154, Tryz.ntmps154
     go_wp2_with (first
       | (go_at_call 199; refine (LR.out).mono ?_; rintro e w2 ⟨rfl, hB⟩
          have hA := (Below.refl w2.heap.size w2).alloc (Nat.le_refl _) (.cells #[.string (bo n), .string (bo v)] 83)
          have HB2 := hideL (hB.trans (hA.mono hB.size))
          have HX2 := hideL (HBox.new w2 (bo n) (bo v))
          have LF := hideL (fail_any (HS.out.below HB2.out) k)
          clear hB hA)
       | (go_at_call 109; refine LF.out.mono ?_; intro e w3 hG; obtain ⟨rfl, hB, hR⟩ := (GoP.after (HS.out.seen HB2.out) hG)))
     first | go_end0 | refine bodyPost_ret (results_none rfl _ _ _) rfl ?_
     exact ⟨rfl, hB, hR⟩
   | zero =>
     simp only
     obtain ⟨r1, r2⟩ := readP_ok hr
     have n1 := (nameP_len r1).2
     have n2 := valP_len r2
     have hgp : goodP ⟨bo n, bo v⟩ = true := by unfold goodP; simp [bo_list, r1, r2]
     have LA := hideL (fun (W1 : World) (hb : Below W.heap.size W W1) => add_any hv.v s.heads ⟨bo n, bo v⟩ W1 (h.heads.gAt.below hb) hfit (by omega) ⟨by show (bo n).size ≤ 1000000; rw [bo_size]; omega, by show (bo v).size ≤ 1000000; rw [bo_size]; omega⟩)
     unfold addL addE at LA
     rw [hgp, if_neg (by decide)] at LA
     have c3 := h.c3
     obtain ⟨ha, hn', hc⟩ := hv
     simp only [Sl.v, hdV] at LA c3
     by_cases hk : s.heads.length = 24
     · rw [if_pos hk]
       rw [if_pos (by omega), if_neg (by decide)] at LA
       clear h hE hg hl hb hr hfit hhl r1 r2 n1 n2 hgp hk
       go_enter Tryz.func154, Tryz.ntmps154
       go_wp2_with (first
         | (go_at_call 199; refine (LR.out).mono ?_; rintro e w2 ⟨rfl, hB⟩
            have hA := (Below.refl w2.heap.size w2).alloc (Nat.le_refl _) (.cells #[.string (bo n), .string (bo v)] 83)
            have HB2 := hideL (hB.trans (hA.mono hB.size))
            have HX2 := hideL (HBox.new w2 (bo n) (bo v))
            have HG2 := hideL (show W.heap.size ≤ w2.heap.size from hB.size)
            have e0 := HX2.out.c0
            have e1 := HX2.out.c1
            replace c3 := (HS.out.below HB2.out).c3
            simp only [Sl.v] at c3
            clear hB hA)
         | fail)
       refine wp_region_held_drew (S := fun w' => w'.cell? ⟨w2.heap.size, 0, none⟩ = some (.string (bo n)) ∧ w'.cell? ⟨w2.heap.size, 1, none⟩ = some (.string (bo v))) (by kernel_rfl) ⟨e0, e1⟩ (fun hHeld => ?_)
       refine tl 0 rfl hHeld ?_
       try simp only [pA, pB, pC, pD]
       refine tl 1 rfl hHeld ?_
       try simp only [pA, pB, pC, pD]
       refine tl 2 rfl hHeld ?_
       try simp only [pA, pB, pC, pD]
       refine tl 3 rfl hHeld ?_
       try simp only [pA, pB, pC, pD]
       refine tl 4 rfl hHeld ?_
       try simp only [pA, pB, pC, pD]
       refine tl 5 rfl hHeld ?_
       try simp only [pA, pB, pC, pD]
       refine tm 7 (v := ?_) rfl hHeld ?_ ?_
       rotate_left
       · intro w hSw; (try dsimp only at hSw); (obtain ⟨e2, e3⟩ := hSw); go_simp; first | done | with_reducible rfl
       try simp only [pA, pB, pC, pD]
       refine wpAnyH_ready (rs := [6]) (by kernel_rfl) (by simp) ?_
       refine aC rfl (fun K hK => ?_)
       clear hHeld
       go_simp
       refine hK.out _ _ (⟨e0, e1⟩) (fun hHeld => ?_)
       clear hK K
       try simp only [pA, pB, pC, pD]
       refine wpAnyH_ready (rs := [8]) (by kernel_rfl) (by simp) ?_
       refine aC rfl (fun K hK => ?_)
       clear hHeld
       go_simp
       refine (LA.out _ HB2.out.drew).mono ?_
       rintro e w4 ⟨rr, rfl, hR, hB⟩
       obtain ⟨ra, rn, rc, rfl⟩ : ∃ a n c, rr = .slice a n c := by
         obtain ⟨a, c, e⟩ := hR.gAt.len
         exact ⟨a, _, c, e⟩
       have hB4 := HB2.out.drew.trans (hB.mono HB2.out.size)
       have x0 := (HX2.out.drew.next hB).c0
       have x1 := (HX2.out.drew.next hB).c1
       have hS2 := HS.out.below HB2.out
       have hP := headput (hv' := ⟨ra, rn, rc⟩) (HS.out.below HB2.out.drew) hB hR
       have t3 := ((HS.out.below HB2.out.drew).below hB).c3
       have ft := ((HS.out.below HB2.out.drew).below hB).fz 3
       have hne : w2.heap.size ≠ g := fun e => by have := HS.out.lt; have := HG2.out; omega
       have HP := hideL hP
       have y0 := ((HX2.out.drew.next hB).other (v := .slice ra rn rc) (o := 3) hne).c0
       have y1 := ((HX2.out.drew.next hB).other (v := .slice ra rn rc) (o := 3) hne).c1
       have HBB := hideL ((HS.out.seen HB2.out.drew).trans hP.2)
       simp only [Sl.v] at t3
       clear hS2 hP hR hB hB4
       refine hK.out _ _ (⟨x0, x1⟩) (fun hHeld => ?_)
       clear hK K
       try simp only [pA, pB, pC, pD]
       refine tl 9 rfl hHeld ?_
       try simp only [pA, pB, pC, pD]
       refine tl 10 rfl hHeld ?_
       try simp only [pA, pB, pC, pD]
       refine tl 11 rfl hHeld ?_
       try simp only [pA, pB, pC, pD]
       refine tl 12 rfl hHeld ?_
       try simp only [pA, pB, pC, pD]
       refine tl 13 rfl hHeld ?_
       try simp only [pA, pB, pC, pD]
       refine tl 14 rfl hHeld ?_
       try simp only [pA, pB, pC, pD]
       refine tl 15 rfl hHeld ?_
       try simp only [pA, pB, pC, pD]
       refine wpAnyH_ready (rs := [16]) (by kernel_rfl) (by simp) ?_
       refine aC rfl (fun K hK => ?_)
       clear hHeld
       go_simp
       refine hK.out _ _ (⟨y0, y1⟩) (fun hHeld => ?_)
       clear hK K
       try simp only [Act.put]
       refine tl 17 rfl hHeld ?_
       try simp only [pA, pB, pC, pD]
       refine wpAnyH_done (by kernel_rfl) ?_ _
       clear hHeld
       have LF := hideL (fail_any HP.out.1 3)
       clear e0 e1 t3 ft
       go_wp2_with (go_at_call 109; refine LF.out.mono ?_; intro e w3 hG; obtain ⟨rfl, hB, hR⟩ := (GoP.after HBB.out hG))
       first | go_end0 | refine bodyPost_ret (results_none rfl _ _ _) rfl ?_
       rw [List.append_nil]
       exact ⟨rfl, hB, hR⟩
     · rw [if_neg hk]
       rw [if_neg (by omega), if_pos rfl] at LA
       clear h hE hg hl hb hr hfit hhl r1 r2 n1 n2 hgp hk
       go_enter Tryz.func154, Tryz.ntmps154
       go_wp2_with (first
         | (go_at_call 199; refine (LR.out).mono ?_; rintro e w2 ⟨rfl, hB⟩
            have hA := (Below.refl w2.heap.size w2).alloc (Nat.le_refl _) (.cells #[.string (bo n), .string (bo v)] 83)
            have HB2 := hideL (hB.trans (hA.mono hB.size))
            have HX2 := hideL (HBox.new w2 (bo n) (bo v))
            have HG2 := hideL (show W.heap.size ≤ w2.heap.size from hB.size)
            have e0 := HX2.out.c0
            have e1 := HX2.out.c1
            replace c3 := (HS.out.below HB2.out).c3
            simp only [Sl.v] at c3
            clear hB hA)
         | fail)
       refine wp_region_held_drew (S := fun w' => w'.cell? ⟨w2.heap.size, 0, none⟩ = some (.string (bo n)) ∧ w'.cell? ⟨w2.heap.size, 1, none⟩ = some (.string (bo v))) (by kernel_rfl) ⟨e0, e1⟩ (fun hHeld => ?_)
       refine tl 0 rfl hHeld ?_
       try simp only [pA, pB, pC, pD]
       refine tl 1 rfl hHeld ?_
       try simp only [pA, pB, pC, pD]
       refine tl 2 rfl hHeld ?_
       try simp only [pA, pB, pC, pD]
       refine tl 3 rfl hHeld ?_
       try simp only [pA, pB, pC, pD]
       refine tl 4 rfl hHeld ?_
       try simp only [pA, pB, pC, pD]
       refine tl 5 rfl hHeld ?_
       try simp only [pA, pB, pC, pD]
       refine tm 7 (v := ?_) rfl hHeld ?_ ?_
       rotate_left
       · intro w hSw; (try dsimp only at hSw); (obtain ⟨e2, e3⟩ := hSw); go_simp; first | done | with_reducible rfl
       try simp only [pA, pB, pC, pD]
       refine wpAnyH_ready (rs := [6]) (by kernel_rfl) (by simp) ?_
       refine aC rfl (fun K hK => ?_)
       clear hHeld
       go_simp
       refine hK.out _ _ (⟨e0, e1⟩) (fun hHeld => ?_)
       clear hK K
       try simp only [pA, pB, pC, pD]
       refine wpAnyH_ready (rs := [8]) (by kernel_rfl) (by simp) ?_
       refine aC rfl (fun K hK => ?_)
       clear hHeld
       go_simp
       refine (LA.out _ HB2.out.drew).mono ?_
       rintro e w4 ⟨rr, rfl, hR, hB⟩
       obtain ⟨ra, rn, rc, rfl⟩ : ∃ a n c, rr = .slice a n c := by
         obtain ⟨a, c, e⟩ := hR.gAt.len
         exact ⟨a, _, c, e⟩
       have hB4 := HB2.out.drew.trans (hB.mono HB2.out.size)
       have x0 := (HX2.out.drew.next hB).c0
       have x1 := (HX2.out.drew.next hB).c1
       have hS2 := HS.out.below HB2.out
       have hP := headput (hv' := ⟨ra, rn, rc⟩) (HS.out.below HB2.out.drew) hB hR
       have t3 := ((HS.out.below HB2.out.drew).below hB).c3
       have ft := ((HS.out.below HB2.out.drew).below hB).fz 3
       have hne : w2.heap.size ≠ g := fun e => by have := HS.out.lt; have := HG2.out; omega
       have HP := hideL hP
       have y0 := ((HX2.out.drew.next hB).other (v := .slice ra rn rc) (o := 3) hne).c0
       have y1 := ((HX2.out.drew.next hB).other (v := .slice ra rn rc) (o := 3) hne).c1
       have HBB := hideL ((HS.out.seen HB2.out.drew).trans hP.2)
       simp only [Sl.v] at t3
       clear hS2 hP hR hB hB4
       refine hK.out _ _ (⟨x0, x1⟩) (fun hHeld => ?_)
       clear hK K
       try simp only [pA, pB, pC, pD]
       refine tl 9 rfl hHeld ?_
       try simp only [pA, pB, pC, pD]
       refine tl 10 rfl hHeld ?_
       try simp only [pA, pB, pC, pD]
       refine tl 11 rfl hHeld ?_
       try simp only [pA, pB, pC, pD]
       refine tl 12 rfl hHeld ?_
       try simp only [pA, pB, pC, pD]
       refine tl 13 rfl hHeld ?_
       try simp only [pA, pB, pC, pD]
       refine tl 14 rfl hHeld ?_
       try simp only [pA, pB, pC, pD]
       refine tl 15 rfl hHeld ?_
       try simp only [pA, pB, pC, pD]
       refine wpAnyH_ready (rs := [16]) (by kernel_rfl) (by simp) ?_
       refine aC rfl (fun K hK => ?_)
       clear hHeld
       go_simp
       refine hK.out _ _ (⟨y0, y1⟩) (fun hHeld => ?_)
       clear hK K
       try simp only [Act.put]
       refine tl 17 rfl hHeld ?_
       try simp only [pA, pB, pC, pD]
       refine wpAnyH_done (by kernel_rfl) ?_ _
       clear hHeld
       clear e0 e1 t3 ft
       go_wp2_with fail
       first | go_end0 | refine bodyPost_ret (results_none rfl _ _ _) rfl ?_
       rw [List.append_nil]
       exact ⟨rfl, HBB.out, _, _, _, _, _, HP.out.1⟩
end Go.Proofs.YtafmgoekgijfgaaGreatDoor
