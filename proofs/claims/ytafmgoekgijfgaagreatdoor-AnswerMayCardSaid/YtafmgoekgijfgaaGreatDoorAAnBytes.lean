/- An answer's bytes; whether it may be. -/
import Derived.Test.YtafmgoekgijfgaaGreatDoorARqM2
import Derived.Test.YtafmgoekgijfgaaGreatDoorAAnMade
import Derived.Test.YtafmgoekgijfgaaGreatDoorAAnDig
import Derived.Test.YtafmgoekgijfgaaGreatDoorARqM8
namespace Go.Proofs.YtafmgoekgijfgaaGreatDoor
open Go.RowKit Go.Lib

theorem wrtB_rawA {a : An} (h : codB a.code = true) : wrtB (rawA a) = mayAB a := by
 obtain ⟨_, h2, h3, h4⟩ := line_cod (c := a.code.toNat) (by rw [code_nat h]; exact h)
 unfold wrtB rawA mayAB
 simp only [h2, h, Bool.true_and]
 rw [decide_eq_true ⟨h4, h3⟩, Bool.true_and, Bool.true_and]
/-- What Bytes answers. -/
def AByPost (w : World) (x : An) (e : Ending) (w' : World) : Prop := (∃ (a : Option Addr) (n c : Nat), e = .returned (.tuple #[.slice a n c, .int .i64 (if mayAB x = true then 0 else 1)]) ∧ GAt KB w' (.slice a n c) (if mayAB x = true then wrtP (rawA x) else [])) ∧ Below w.heap.size w w'
theorem AByPost.no {w w' : World} {x : An} (h : mayAB x = false) (hB : Below w.heap.size w w') : AByPost w x (.returned (.tuple #[.slice none 0 0, .int .i64 1])) w' := by
 unfold AByPost
 rw [h]
 exact ⟨⟨none, 0, 0, rfl, GAt.nil w'⟩, hB⟩
theorem AByPost.yes {w w' : World} {x : An} {a : Option Addr} {n c : Nat} (h : mayAB x = true) (hr : GAt KB w' (.slice a n c) (wrtP (rawA x))) (hB : Below w.heap.size w w') : AByPost w x (.returned (.tuple #[.slice a n c, .int .i64 0])) w' := by
 unfold AByPost
 rw [h]
 exact ⟨⟨a, n, c, rfl, hr⟩, hB⟩
set_option maxRecDepth 100000 in
set_option maxHeartbeats 2000000 in
theorem abytes_any (c : Int) (ha : Option Addr) (hn hc : Nat) (ba : Option Addr) (bn bc : Nat) (x : An) (w0 : World) (hr : AnsAt w0 ⟨c, ⟨ha, hn, hc⟩, ⟨ba, bn, bc⟩⟩ x) (hf : Fits x.heads) (hl : x.heads.length ≤ 1000) (hE : Env w0) (hT : EnvT w0) :
   Calls Tryz.prog 31 #[.agg #[.int .i64 c, .slice ha hn hc, .slice ba bn bc]] w0 (AByPost w0 x) := by
 obtain ⟨hcx, gh, gb⟩ := hr
 simp only [Sl.v] at hcx gh gb
 have HX1 := hideL (ABox.new w0 c (.slice ha hn hc) (.slice ba bn bc))
 have HB1 := hideL ((Below.refl w0.heap.size w0).alloc (Nat.le_refl _) (anC c (.slice ha hn hc) (.slice ba bn bc)))
 have LM := fun W => mayCode_any c W
 cases hC : codB c with
 | false =>
   rw [hC] at LM
   have LM := hideL LM
   have HNO := hideL (show mayAB x = false by unfold mayAB; rw [← hcx, hC, Bool.false_and])
   have c0 := HX1.out.c0
   clear hcx gh gb hf hl hE hT hC
   go_enter Tryz.func31, Tryz.ntmps31
   go_wp2_with (go_at_call 64; refine (LM.out _).mono ?_; rintro e w2 ⟨rfl, hw⟩; rw [hw]; clear hw w2)
   exact bodyPost_ret (v := .tuple #[.slice none 0 0, .int .i64 1]) (by simp [results, Tryz.results31, go_sem]) rfl (AByPost.no HNO.out HB1.out)
 | true =>
   rw [hC] at LM
   have LM := hideL LM
   have hwb := wrtB_rawA (a := x) (by rw [← hcx]; exact hC)
   obtain ⟨n, rfl⟩ : ∃ n : Nat, c = (n : Int) := ⟨c.toNat, (code_nat hC).symm⟩
   have hcn : x.code.toNat = n := by rw [← hcx]; rfl
   have LF := hideL (fun W => firstLine_any n hC W)
   have hst : (bo (anLine n)).data.toList = (rawA x).start := by rw [bo_list, ← hcn]; rfl
   have hls := (line_cod hC).2.2.1
   have LW := fun (W : World) (hb : Below w0.heap.size w0 W) => write_any (bo (anLine n)) ha hn hc ba bn bc (rawA x) W ⟨hst, gh.below hb, gb.below hb⟩ hf (by rw [bo_size]; omega) hl (hE.next hb) (hT.next hb)
   unfold WrPost at LW
   rw [hwb] at LW
   have c0 := HX1.out.c0
   obtain ⟨S, hS⟩ : ∃ S, bo (anLine n) = S := ⟨_, rfl⟩
   rw [hS] at LW LF
   obtain ⟨M, hM⟩ : ∃ m, mayAB x = m := ⟨_, rfl⟩
   rw [hM] at LW
   have HM := hideL hM
   have HXL := hideL (HX1.out.drew)
   clear hcx gh gb hf hl hE hT hC hwb hst hls hcn hS hM
   cases M with
   | false =>
     simp only [Bool.false_eq_true, ↓reduceIte] at LW
     have LW := hideL LW
     go_enter Tryz.func31, Tryz.ntmps31
     go_wp2_with (go_at_call 64; refine (LM.out _).mono ?_; rintro e w2 ⟨rfl, hw⟩; rw [hw]; clear hw w2)
     have HX2 := hideL HX1.out.drew
     have HB2 := hideL HB1.out.drew
     clear c0
     refine wp_region_held_drew (S := fun w' => ABox w' w0.heap.size (n : Int) (.slice ha hn hc) (.slice ba bn bc)) (by kernel_rfl) HX2.out (fun hHeld => ?_)
     refine tl 0 rfl hHeld ?_
     try simp only [pA, pB, pC, pD]
     refine tm 1 (v := ?_) rfl hHeld ?_ ?_
     rotate_left
     · intro w hSw; (try dsimp only at hSw); have e0 := hSw.c0; have e1 := hSw.c1; have e2 := hSw.c2; go_simp; first | done | with_reducible rfl
     try simp only [pA, pB, pC, pD]
     refine tl 3 rfl hHeld ?_
     try simp only [pA, pB, pC, pD]
     refine tm 4 (v := ?_) rfl hHeld ?_ ?_
     rotate_left
     · intro w hSw; (try dsimp only at hSw); have e0 := hSw.c0; have e1 := hSw.c1; have e2 := hSw.c2; go_simp; first | done | with_reducible rfl
     try simp only [pA, pB, pC, pD]
     refine tl 5 rfl hHeld ?_
     try simp only [pA, pB, pC, pD]
     refine tm 6 (v := ?_) rfl hHeld ?_ ?_
     rotate_left
     · intro w hSw; (try dsimp only at hSw); have e0 := hSw.c0; have e1 := hSw.c1; have e2 := hSw.c2; go_simp; first | done | with_reducible rfl
     try simp only [pA, pB, pC, pD]
     refine wpAnyH_ready (rs := [2]) (by kernel_rfl) (by simp) ?_
     refine aC rfl (fun K hK => ?_)
     clear hHeld
     go_simp
     refine (LF.out _).mono ?_
     rintro e W4 ⟨rfl, hB⟩
     have HX4 := hideL (HX2.out.next hB)
     have HB4 := hideL (HB2.out.trans (hB.mono HB2.out.size))
     clear hB
     refine hK.out _ _ (HX4.out) (fun hHeld => ?_)
     clear hK K
     try simp only [pA, pB, pC, pD]
     refine tl 7 rfl hHeld ?_
     try simp only [pA, pB, pC, pD]
     refine wpAnyH_ready (rs := [8]) (by kernel_rfl) (by simp) ?_
     refine aC rfl (fun K hK => ?_)
     clear hHeld
     go_simp
     refine (LW.out _ HB4.out).mono ?_
     rintro e W5 ⟨rfl, hB⟩
     have HX5 := hideL (HX4.out.next hB)
     have HB5 := hideL (HB4.out.trans (hB.mono HB4.out.size))
     clear hB
     refine hK.out _ _ (HX5.out) (fun hHeld => ?_)
     clear hK K
     try simp only [pA, pB, pC, pD]
     refine tl 9 rfl hHeld ?_
     try simp only [pA, pB, pC, pD]
     refine tl 10 rfl hHeld ?_
     try simp only [pA, pB, pC, pD]
     refine tl 11 rfl hHeld ?_
     try simp only [pA, pB, pC, pD]
     refine tl 12 rfl hHeld ?_
     try simp only [pA, pB, pC, pD]
     refine wpAnyH_done (by kernel_rfl) ?_ _
     clear hHeld
     go_wp2_with fail
     exact bodyPost_ret (v := .tuple #[.slice none 0 0, .int .i64 1]) (by simp [results, Tryz.results31, go_sem]) rfl (AByPost.no HM.out HB5.out)
   | true =>
     simp only [↓reduceIte] at LW
     have LW := hideL LW
     go_enter Tryz.func31, Tryz.ntmps31
     go_wp2_with (go_at_call 64; refine (LM.out _).mono ?_; rintro e w2 ⟨rfl, hw⟩; rw [hw]; clear hw w2)
     have HX2 := hideL HX1.out.drew
     have HB2 := hideL HB1.out.drew
     clear c0
     refine wp_region_held_drew (S := fun w' => ABox w' w0.heap.size (n : Int) (.slice ha hn hc) (.slice ba bn bc)) (by kernel_rfl) HX2.out (fun hHeld => ?_)
     refine tl 0 rfl hHeld ?_
     try simp only [pA, pB, pC, pD]
     refine tm 1 (v := ?_) rfl hHeld ?_ ?_
     rotate_left
     · intro w hSw; (try dsimp only at hSw); have e0 := hSw.c0; have e1 := hSw.c1; have e2 := hSw.c2; go_simp; first | done | with_reducible rfl
     try simp only [pA, pB, pC, pD]
     refine tl 3 rfl hHeld ?_
     try simp only [pA, pB, pC, pD]
     refine tm 4 (v := ?_) rfl hHeld ?_ ?_
     rotate_left
     · intro w hSw; (try dsimp only at hSw); have e0 := hSw.c0; have e1 := hSw.c1; have e2 := hSw.c2; go_simp; first | done | with_reducible rfl
     try simp only [pA, pB, pC, pD]
     refine tl 5 rfl hHeld ?_
     try simp only [pA, pB, pC, pD]
     refine tm 6 (v := ?_) rfl hHeld ?_ ?_
     rotate_left
     · intro w hSw; (try dsimp only at hSw); have e0 := hSw.c0; have e1 := hSw.c1; have e2 := hSw.c2; go_simp; first | done | with_reducible rfl
     try simp only [pA, pB, pC, pD]
     refine wpAnyH_ready (rs := [2]) (by kernel_rfl) (by simp) ?_
     refine aC rfl (fun K hK => ?_)
     clear hHeld
     go_simp
     refine (LF.out _).mono ?_
     rintro e W4 ⟨rfl, hB⟩
     have HX4 := hideL (HX2.out.next hB)
     have HB4 := hideL (HB2.out.trans (hB.mono HB2.out.size))
     clear hB
     refine hK.out _ _ (HX4.out) (fun hHeld => ?_)
     clear hK K
     try simp only [pA, pB, pC, pD]
     refine tl 7 rfl hHeld ?_
     try simp only [pA, pB, pC, pD]
     refine wpAnyH_ready (rs := [8]) (by kernel_rfl) (by simp) ?_
     refine aC rfl (fun K hK => ?_)
     clear hHeld
     go_simp
     refine (LW.out _ HB4.out).mono ?_
     rintro e W5 ⟨⟨⟨ra, rn, rc⟩, rfl, hr⟩, hB⟩
     have HR5 := hideL hr.gAt
     simp only [Sl.v] at HR5 ⊢
     have HX5 := hideL (HX4.out.next hB)
     have HB5 := hideL (HB4.out.trans (hB.mono HB4.out.size))
     clear hB hr
     refine hK.out _ _ (HX5.out) (fun hHeld => ?_)
     clear hK K
     try simp only [pA, pB, pC, pD]
     refine tl 9 rfl hHeld ?_
     try simp only [pA, pB, pC, pD]
     refine tl 10 rfl hHeld ?_
     try simp only [pA, pB, pC, pD]
     refine tl 11 rfl hHeld ?_
     try simp only [pA, pB, pC, pD]
     refine tl 12 rfl hHeld ?_
     try simp only [pA, pB, pC, pD]
     refine wpAnyH_done (by kernel_rfl) ?_ _
     clear hHeld
     go_wp2_with fail
     exact bodyPost_ret (v := .tuple #[.slice ra rn rc, .int .i64 0]) (by simp [results, Tryz.results31, go_sem]) rfl (AByPost.yes HM.out HR5.out HB5.out)
set_option maxRecDepth 100000 in
theorem amay_any (c : Int) (ha : Option Addr) (hn hc : Nat) (ba : Option Addr) (bn bc : Nat) (x : An) (w0 : World) (hr : AnsAt w0 ⟨c, ⟨ha, hn, hc⟩, ⟨ba, bn, bc⟩⟩ x) (hf : Fits x.heads) (hl : x.heads.length ≤ 1000) (hE : Env w0) (hT : EnvT w0) :
   Calls Tryz.prog 25 #[.agg #[.int .i64 c, .slice ha hn hc, .slice ba bn bc]] w0 (fun e w' => e = .returned (.bool (mayAB x)) ∧ Below w0.heap.size w0 w') := by
 have HX1 := hideL (ABox.new w0 c (.slice ha hn hc) (.slice ba bn bc))
 have HB1 := hideL ((Below.refl w0.heap.size w0).alloc (Nat.le_refl _) (anC c (.slice ha hn hc) (.slice ba bn bc)))
 have LB := abytes_any c ha hn hc ba bn bc x _ (hr.below HB1.out) hf hl (hE.next HB1.out) (hT.next HB1.out)
 unfold AByPost at LB
 have c0 := HX1.out.c0
 have c1 := HX1.out.c1
 have c2 := HX1.out.c2
 cases hM : mayAB x with
 | false =>
   rw [hM] at LB
   simp only [Bool.false_eq_true, ↓reduceIte] at LB
   have LB := hideL LB
   clear hr hf hl hE hT hM
   go_enter Tryz.func25, Tryz.ntmps25
   go_wp2_with (go_at_call 31; refine LB.out.mono ?_; rintro e w2 ⟨⟨a, n, cc, rfl, _⟩, hB⟩; have HB2 := hideL (HB1.out.trans (hB.mono HB1.out.size)); clear hB)
   go_ret
   exact ⟨rfl, HB2.out⟩
 | true =>
   rw [hM] at LB
   simp only [↓reduceIte] at LB
   have LB := hideL LB
   clear hr hf hl hE hT hM
   go_enter Tryz.func25, Tryz.ntmps25
   go_wp2_with (go_at_call 31; refine LB.out.mono ?_; rintro e w2 ⟨⟨a, n, cc, rfl, _⟩, hB⟩; have HB2 := hideL (HB1.out.trans (hB.mono HB1.out.size)); clear hB)
   go_ret
   exact ⟨rfl, HB2.out⟩
end Go.Proofs.YtafmgoekgijfgaaGreatDoor
