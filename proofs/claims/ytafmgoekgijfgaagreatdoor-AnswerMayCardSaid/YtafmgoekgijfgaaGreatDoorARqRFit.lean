/- The document's fits. -/
import Derived.Test.YtafmgoekgijfgaaGreatDoorAHdRefM
import Derived.Test.YtafmgoekgijfgaaGreatDoorAHdRef
import Derived.Test.YtafmgoekgijfgaaGreatDoorARqM1
namespace Go.Proofs.YtafmgoekgijfgaaGreatDoor
open Go.RowKit Go.Lib

abbrev bdC (a b c : Int) : Obj := .cells #[.int .i64 a, .int .i64 b, .int .i64 c] 79
theorem bdC_box (w : World) (a b c : Int) : (w.alloc (bdC a b c)).heap[w.heap.size]? = some (.cells #[.int .i64 a, .int .i64 b, .int .i64 c] 79 (0, 0)) := heap_alloc_new w _
theorem fit_of (h : List Hd) (body : List UInt8) {e c k n : Nat} (hf : framP h = (e, ⟨c, k, n⟩)) : fitP h body = (decide (e = 0) && mayH h && decide (body.length ≤ 1024) && (decide (c = 1) || decide (body.length = n))) := by
 unfold fitP
 rw [hf]
set_option maxRecDepth 100000 in
set_option maxHeartbeats 2000000 in
theorem fits_any (ha : Option Addr) (hn hc : Nat) (ba : Option Addr) (bn bc : Nat) (h : List Hd) (body : List UInt8) (w : World) (gh : GAt KH w (.slice ha hn hc) h) (hbn : body.length = bn) (hf : Fits h) (hl : h.length ≤ 1000) :
   Calls Tryz.prog 55 #[.slice ha hn hc, .slice ba bn bc] w (fun e w' => e = .returned (.bool (fitP h body)) ∧ Below w.heap.size w w') := by
 obtain ⟨⟨fe, ⟨fc, fk, fl⟩⟩, hfr⟩ : ∃ x, framP h = x := ⟨_, rfl⟩
 rw [fit_of h body hfr, hbn]
 have LF := framingR_any (.slice ha hn hc) h w gh hf hl
 rw [hfr] at LF
 simp only [frA, bdV] at LF
 have LF := hideL LF
 have LM := hideL (fun (W : World) (hb : Below w.heap.size w W) => mayHR_any (.slice ha hn hc) h W (gh.below hb) hf hl)
 obtain ⟨M, hM⟩ : ∃ m, mayH h = m := ⟨_, rfl⟩
 rw [hM] at LM ⊢
 clear gh hbn hf hl hfr hM
 by_cases he : fe = 0
 · have i0 : ((fe : Int) == 0) = true := by rw [he]; rfl
   rw [decide_eq_true he]
   clear he
   cases M with
   | false =>
     go_enter Tryz.func55, Tryz.ntmps55
     go_wp2_with (first
       | (go_at_call 56; refine LF.out.mono ?_; rintro e w2 ⟨rfl, hB⟩; have hz := (Below.refl w2.heap.size w2).alloc (Nat.le_refl _) (bdC fc fk fl); have HB2 := hideL (hB.trans (hz.mono hB.size)); clear hB hz)
       | (go_at_call 63; refine (LM.out _ HB2.out).mono ?_; rintro e w3 ⟨rfl, hB⟩; have HB3 := hideL (HB2.out.trans (hB.mono HB2.out.size)); clear hB))
     go_ret
     exact ⟨by simp, HB3.out⟩
   | true =>
     by_cases hb : bn ≤ 1024
     · have i1 : (bn : Int) ≤ 1024 := by omega
       rw [decide_eq_true hb]
       by_cases hch : fc = 1
       · have i2 : ((fc : Int) == 1) = true := by rw [hch]; rfl
         rw [decide_eq_true hch]
         clear hb hch
         go_enter Tryz.func55, Tryz.ntmps55
         go_wp2_with (first
           | (go_at_call 56; refine LF.out.mono ?_; rintro e w2 ⟨rfl, hB⟩; have hz := (Below.refl w2.heap.size w2).alloc (Nat.le_refl _) (bdC fc fk fl); have HB2 := hideL (hB.trans (hz.mono hB.size)); have HX2 : HidL (BBox (w2.alloc (bdC fc fk fl)) w2.heap.size fc fk fl) := ⟨bdC_box w2 _ _ _⟩; clear hB hz)
           | (go_at_call 63; refine (LM.out _ HB2.out).mono ?_; rintro e w3 ⟨rfl, hB⟩; have HB3 := hideL (HB2.out.trans (hB.mono HB2.out.size)); have d0 := (HX2.out.next hB).c0; have d2 := (HX2.out.next hB).c2; clear hB))
         go_ret
         exact ⟨by simp, HB3.out⟩
       · have i2 : ((fc : Int) == 1) = false := by rw [beq_eq_false_iff_ne]; omega
         rw [decide_eq_false hch, Bool.false_or]
         have i3 : ((bn : Int) == (fl : Int)) = decide (bn = fl) := by
           by_cases hq : bn = fl
           · rw [decide_eq_true hq, hq, beq_self_eq_true]
           · rw [decide_eq_false hq, beq_eq_false_iff_ne]; omega
         obtain ⟨D, hD⟩ : ∃ d, decide (bn = fl) = d := ⟨_, rfl⟩
         rw [hD] at i3 ⊢
         clear hb hch hD
         go_enter Tryz.func55, Tryz.ntmps55
         go_wp2_with (first
           | (go_at_call 56; refine LF.out.mono ?_; rintro e w2 ⟨rfl, hB⟩; have hz := (Below.refl w2.heap.size w2).alloc (Nat.le_refl _) (bdC fc fk fl); have HB2 := hideL (hB.trans (hz.mono hB.size)); have HX2 : HidL (BBox (w2.alloc (bdC fc fk fl)) w2.heap.size fc fk fl) := ⟨bdC_box w2 _ _ _⟩; clear hB hz)
           | (go_at_call 63; refine (LM.out _ HB2.out).mono ?_; rintro e w3 ⟨rfl, hB⟩; have HB3 := hideL (HB2.out.trans (hB.mono HB2.out.size)); have d0 := (HX2.out.next hB).c0; have d2 := (HX2.out.next hB).c2; clear hB))
         go_ret
         exact ⟨by simp, HB3.out⟩
     · have i1 : ¬ (bn : Int) ≤ 1024 := by omega
       rw [decide_eq_false hb]
       clear hb
       go_enter Tryz.func55, Tryz.ntmps55
       go_wp2_with (first
         | (go_at_call 56; refine LF.out.mono ?_; rintro e w2 ⟨rfl, hB⟩; have hz := (Below.refl w2.heap.size w2).alloc (Nat.le_refl _) (bdC fc fk fl); have HB2 := hideL (hB.trans (hz.mono hB.size)); clear hB hz)
         | (go_at_call 63; refine (LM.out _ HB2.out).mono ?_; rintro e w3 ⟨rfl, hB⟩; have HB3 := hideL (HB2.out.trans (hB.mono HB2.out.size)); clear hB))
       go_ret
       exact ⟨by simp, HB3.out⟩
 · have i0 : ((fe : Int) == 0) = false := by rw [beq_eq_false_iff_ne]; omega
   rw [decide_eq_false he]
   clear he
   go_enter Tryz.func55, Tryz.ntmps55
   go_wp2_with (go_at_call 56; refine LF.out.mono ?_; rintro e w2 ⟨rfl, hB⟩; have hz := (Below.refl w2.heap.size w2).alloc (Nat.le_refl _) (bdC fc fk fl); have HB2 := hideL (hB.trans (hz.mono hB.size)); clear hB hz)
   go_ret
   exact ⟨by simp, HB2.out⟩
end Go.Proofs.YtafmgoekgijfgaaGreatDoor
