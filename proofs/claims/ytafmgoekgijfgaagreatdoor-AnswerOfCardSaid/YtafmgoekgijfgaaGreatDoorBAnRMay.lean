/- The document's May at answers. -/
import Derived.Test.YtafmgoekgijfgaaGreatDoorBAnArg
import Derived.Test.YtafmgoekgijfgaaGreatDoorBRqRFit
namespace Go.Proofs.YtafmgoekgijfgaaGreatDoor
open Go.RowKit Go.Lib

set_option maxRecDepth 100000 in
set_option maxHeartbeats 2000000 in
theorem rmayA_any (c : Int) (ha : Option Addr) (hn hc : Nat) (ba : Option Addr) (bn bc : Nat) (x : An) (w : World) (hx : AnsAt w ⟨c, ⟨ha, hn, hc⟩, ⟨ba, bn, bc⟩⟩ x) (hf : Fits x.heads) (hl : x.heads.length ≤ 1000) :
   Calls Tryz.prog 26 #[.agg #[.int .i64 c, .slice ha hn hc, .slice ba bn bc]] w (fun e w' => e = .returned (.bool (mayAB x)) ∧ Below w.heap.size w w') := by
 obtain ⟨e0, gh, gb⟩ := hx
 obtain ⟨x0, h, body⟩ := x
 simp only [Sl.v] at e0 gh gb hf hl
 obtain rfl := e0
 obtain ⟨bo', bc', eb⟩ := gb.len
 have hbn : body.length = bn := by injection eb with _ e _; exact e.symm
 obtain ⟨⟨fe, ⟨fc, fk, fl⟩⟩, hfr⟩ : ∃ x, framP h = x := ⟨_, rfl⟩
 have hv : mayAB ⟨c, h, body⟩ = (decide (200 ≤ c ∧ c ≤ 599) && (decide (fe = 0) && mayH h && decide (bn ≤ 1024) && (decide (fc = 1) || decide (bn = fl)))) := by
   rw [← hbn, ← fit_of h body hfr]
   rfl
 rw [hv]
 have LF := fun (W : World) (hb : Below w.heap.size w W) => framingR_any (.slice ha hn hc) h W (gh.below hb) hf hl
 rw [hfr] at LF
 simp only [frA, bdV] at LF
 have LF := hideL LF
 have LM := hideL (fun (W : World) (hb : Below w.heap.size w W) => mayHR_any (.slice ha hn hc) h W (gh.below hb) hf hl)
 obtain ⟨M, hM⟩ : ∃ m, mayH h = m := ⟨_, rfl⟩
 rw [hM] at LM ⊢
 have HX1 := hideL (ABox.new w c (.slice ha hn hc) (.slice ba bn bc))
 have HB1 := hideL ((Below.refl w.heap.size w).alloc (Nat.le_refl _) (anC c (.slice ha hn hc) (.slice ba bn bc)))
 have c0 := HX1.out.c0
 have c1 := HX1.out.c1
 have c2 := HX1.out.c2
 clear gh gb eb hbn hf hl hfr hM hv
 by_cases h1 : 200 ≤ c
 rotate_left
 · have e1 : c < 200 := by omega
   rw [decide_eq_false (fun h => h1 h.1), Bool.false_and]
   clear h1
   go_enter Tryz.func26, Tryz.ntmps26
   go_wp2_with fail
   go_ret
   exact ⟨rfl, HB1.out⟩
 have e1 : decide (c < 200) = false := decide_eq_false (by omega)
 by_cases h2 : c ≤ 599
 rotate_left
 · have e2 : 599 < c := by omega
   rw [decide_eq_false (fun h => h2 h.2), Bool.false_and]
   clear h1 h2
   go_enter Tryz.func26, Tryz.ntmps26
   go_wp2_with fail
   go_ret
   exact ⟨rfl, HB1.out⟩
 have e2 : decide (599 < c) = false := decide_eq_false (by omega)
 rw [decide_eq_true ⟨h1, h2⟩, Bool.true_and]
 clear h1 h2
 cases M with
 | false =>
   go_enter Tryz.func26, Tryz.ntmps26
   go_wp2_with (go_at_call 63; refine (LM.out _ HB1.out).mono ?_; rintro e w2 ⟨rfl, hB⟩; have HB2 := hideL (HB1.out.trans (hB.mono HB1.out.size)); have HX2 := hideL (HX1.out.next hB); have c0 := HX2.out.c0; have c1 := HX2.out.c1; have c2 := HX2.out.c2; clear hB)
   go_ret
   exact ⟨by simp, HB2.out⟩
 | true =>
   by_cases hb : bn ≤ 1024
   rotate_left
   · have i1 : (1024 : Int) < (bn : Int) := by omega
     rw [decide_eq_false hb]
     clear hb
     go_enter Tryz.func26, Tryz.ntmps26
     go_wp2_with (go_at_call 63; refine (LM.out _ HB1.out).mono ?_; rintro e w2 ⟨rfl, hB⟩; have HB2 := hideL (HB1.out.trans (hB.mono HB1.out.size)); have HX2 := hideL (HX1.out.next hB); have c0 := HX2.out.c0; have c1 := HX2.out.c1; have c2 := HX2.out.c2; clear hB)
     go_ret
     exact ⟨by simp, HB2.out⟩
   have i1 : ¬ (1024 : Int) < (bn : Int) := by omega
   rw [decide_eq_true hb]
   clear hb
   by_cases he : fe = 0
   rotate_left
   · have i0 : ((fe : Int) == 0) = false := by rw [beq_eq_false_iff_ne]; omega
     rw [decide_eq_false he]
     clear he
     go_enter Tryz.func26, Tryz.ntmps26
     go_wp2_with (first
       | (go_at_call 63; refine (LM.out _ HB1.out).mono ?_; rintro e w2 ⟨rfl, hB⟩; have HB2 := hideL (HB1.out.trans (hB.mono HB1.out.size)); have HX2 := hideL (HX1.out.next hB); have c0 := HX2.out.c0; have c1 := HX2.out.c1; have c2 := HX2.out.c2; clear hB)
       | (go_at_call 56; refine (LF.out _ HB2.out).mono ?_; rintro e w3 ⟨rfl, hB⟩; have hz := (Below.refl w3.heap.size w3).alloc (Nat.le_refl _) (bdC fc fk fl); have HB3 := hideL (HB2.out.trans ((hB.trans (hz.mono hB.size)).mono HB2.out.size)); have HX3 := hideL (HX2.out.next (hB.trans (hz.mono hB.size))); have HD3 : HidL (BBox (w3.alloc (bdC fc fk fl)) w3.heap.size fc fk fl) := ⟨bdC_box w3 _ _ _⟩; have d0 := HD3.out.c0; have d2 := HD3.out.c2; have c2 := HX3.out.c2; clear hB hz))
     go_ret
     exact ⟨by simp, HB3.out⟩
   have i0 : ((fe : Int) == 0) = true := by rw [he]; rfl
   rw [decide_eq_true he]
   clear he
   by_cases hch : fc = 1
   · have i2 : ((fc : Int) == 1) = true := by rw [hch]; rfl
     rw [decide_eq_true hch]
     clear hch
     go_enter Tryz.func26, Tryz.ntmps26
     go_wp2_with (first
       | (go_at_call 63; refine (LM.out _ HB1.out).mono ?_; rintro e w2 ⟨rfl, hB⟩; have HB2 := hideL (HB1.out.trans (hB.mono HB1.out.size)); have HX2 := hideL (HX1.out.next hB); have c0 := HX2.out.c0; have c1 := HX2.out.c1; have c2 := HX2.out.c2; clear hB)
       | (go_at_call 56; refine (LF.out _ HB2.out).mono ?_; rintro e w3 ⟨rfl, hB⟩; have hz := (Below.refl w3.heap.size w3).alloc (Nat.le_refl _) (bdC fc fk fl); have HB3 := hideL (HB2.out.trans ((hB.trans (hz.mono hB.size)).mono HB2.out.size)); have HX3 := hideL (HX2.out.next (hB.trans (hz.mono hB.size))); have HD3 : HidL (BBox (w3.alloc (bdC fc fk fl)) w3.heap.size fc fk fl) := ⟨bdC_box w3 _ _ _⟩; have d0 := HD3.out.c0; have d2 := HD3.out.c2; have c2 := HX3.out.c2; clear hB hz))
     go_ret
     exact ⟨by simp, HB3.out⟩
   have i2 : ((fc : Int) == 1) = false := by rw [beq_eq_false_iff_ne]; omega
   rw [decide_eq_false hch, Bool.false_or]
   have i3 : ((bn : Int) == (fl : Int)) = decide (bn = fl) := by
     by_cases hq : bn = fl
     · rw [decide_eq_true hq, hq, beq_self_eq_true]
     · rw [decide_eq_false hq, beq_eq_false_iff_ne]; omega
   obtain ⟨D, hD⟩ : ∃ d, decide (bn = fl) = d := ⟨_, rfl⟩
   rw [hD] at i3 ⊢
   clear hch hD
   go_enter Tryz.func26, Tryz.ntmps26
   go_wp2_with (first
     | (go_at_call 63; refine (LM.out _ HB1.out).mono ?_; rintro e w2 ⟨rfl, hB⟩; have HB2 := hideL (HB1.out.trans (hB.mono HB1.out.size)); have HX2 := hideL (HX1.out.next hB); have c0 := HX2.out.c0; have c1 := HX2.out.c1; have c2 := HX2.out.c2; clear hB)
     | (go_at_call 56; refine (LF.out _ HB2.out).mono ?_; rintro e w3 ⟨rfl, hB⟩; have hz := (Below.refl w3.heap.size w3).alloc (Nat.le_refl _) (bdC fc fk fl); have HB3 := hideL (HB2.out.trans ((hB.trans (hz.mono hB.size)).mono HB2.out.size)); have HX3 := hideL (HX2.out.next (hB.trans (hz.mono hB.size))); have HD3 : HidL (BBox (w3.alloc (bdC fc fk fl)) w3.heap.size fc fk fl) := ⟨bdC_box w3 _ _ _⟩; have d0 := HD3.out.c0; have d2 := HD3.out.c2; have c2 := HX3.out.c2; clear hB hz))
   go_ret
   exact ⟨by simp, HB3.out⟩
end Go.Proofs.YtafmgoekgijfgaaGreatDoor
