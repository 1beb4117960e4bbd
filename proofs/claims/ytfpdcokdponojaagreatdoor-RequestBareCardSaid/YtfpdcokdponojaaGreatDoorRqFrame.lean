/- frame: how a body's end is told, and whether the body is as told. -/
import Derived.Test.YtfpdcokdponojaaGreatDoorRqMay
import Derived.Test.YtfpdcokdponojaaGreatDoorRqM5
import Derived.Test.YtfpdcokdponojaaGreatDoorRqM3
import Derived.StillTailTactics
namespace Go.Proofs.YtfpdcokdponojaaGreatDoor
open Go.RowKit Go.Lib

abbrev bdO (a b c : Int) : Obj := .cells #[.int .i64 a, .int .i64 b, .int .i64 c] 86
def FrPost (w : World) (x : Rw) (e : Ending) (w' : World) : Prop := (∃ a b c : Nat, e = .returned (.tuple #[.agg #[.int .i64 a, .int .i64 b, .int .i64 c], .bool (fitP x.heads x.body)]) ∧ (fitP x.heads x.body = true → framP x.heads = (0, ⟨a, b, c⟩))) ∧ Below w.heap.size w w'
set_option maxRecDepth 100000 in
set_option maxHeartbeats 2000000 in
theorem frame_any (s : ByteArray) (ha : Option Addr) (hn hc : Nat) (ba : Option Addr) (bn bc : Nat) (x : Rw) (w : World) (hr : RawAt w ⟨s, ⟨ha, hn, hc⟩, ⟨ba, bn, bc⟩⟩ x) (hf : Fits x.heads) (hl : x.heads.length ≤ 1000) (hE : Env w) : Calls Tryz.prog 48 #[.agg #[.string s, .slice ha hn hc, .slice ba bn bc]] w (FrPost w x) := by
  obtain ⟨_, gh, gb⟩ := hr
  simp only [Sl.v] at gh gb
  have hbn := gb.le.1
  have b1 := (Below.refl w.heap.size w).alloc (Nat.le_refl _) (rawC s (.slice ha hn hc) (.slice ba bn bc))
  have q1 : QBox (w.alloc (rawC s (.slice ha hn hc) (.slice ba bn bc))) w.heap.size s (.slice ha hn hc) (.slice ba bn bc) := heap_alloc_new w _
  obtain ⟨W1, hW1⟩ : ∃ W, W = w.alloc (rawC s (.slice ha hn hc) (.slice ba bn bc)) := ⟨_, rfl⟩
  have hz : W1.heap.size = w.heap.size + 1 := by rw [hW1, World.size_alloc]
  rw [← hW1] at b1 q1
  have b2 := (Below.refl W1.heap.size W1).alloc (Nat.le_refl _) (bdO 0 0 0)
  have y2 : BBox (W1.alloc (bdO 0 0 0)) W1.heap.size 0 0 0 := BBox.new W1 0 0 0
  have q2 := q1.next b2
  have b12 := b1.trans (b2.mono b1.size)
  rw [hz] at y2
  rw [hW1] at q2 y2 b12
  have LF := framing_any (.slice ha hn hc) x.heads ((w.alloc (rawC s (.slice ha hn hc) (.slice ba bn bc))).alloc (bdO 0 0 0)) (gh.below b12) hf hl (hE.next b12)
  have LM := hideL (fun (W : World) (hb : Below w.heap.size w W) => mayH_any (.slice ha hn hc) x.heads W (gh.below hb) hf (by omega))
  obtain ⟨⟨k, ⟨fc, fh, fl⟩⟩, hfr⟩ : ∃ r, framP x.heads = r := ⟨_, rfl⟩
  rw [hfr] at LF
  unfold frA bdV at LF
  simp only at LF
  have LF := hideL LF
  have HQ := hideL q2
  have HY := hideL y2
  have HB := hideL b12
  have r1 := q2.c1
  obtain ⟨M, hM⟩ : ∃ b, mayH x.heads = b := ⟨_, rfl⟩
  rw [hM] at LM
  have hfit : fitP x.heads x.body = (decide (k = 0) && M && decide (x.body.length ≤ 1024) && (decide (fc = 1) || decide (x.body.length = fl))) := by
    unfold fitP
    rw [hfr, hM]
  have hle : k = 0 → fl ≤ 1024 := fun e => framP_le (by rw [hfr, e])
  unfold FrPost
  rw [hfit, ← hbn, hfr]
  simp only [rawC, bdO] at r1
  clear hW1 hz b1 q1 b2 y2 q2 b12 gh gb hf hl hE hM hfr hfit hbn
  by_cases hk : k = 0
  rotate_left
  · have ik : ((k : Int) != 0) = true := by rw [bne_iff_ne]; omega
    rw [decide_eq_false hk, Bool.false_and, Bool.false_and, Bool.false_and]
    clear hle hk
    go_enter Tryz.func48, Tryz.ntmps48
    go_wp2_with (go_at_call 86; refine LF.out.mono ?_; rintro e w3 ⟨rfl, hB⟩; have hz2 := (Below.refl w3.heap.size w3).alloc (Nat.le_refl _) (bdO fc fh fl); have hz := hB.trans (hz2.mono hB.size); have HE3 := hideL (BBox.new w3 fc fh fl); have HQ3 := hideL (HQ.out.next hz); have HY3 := hideL (HY.out.next hz); have HB3 := hideL (HB.out.trans (hz.mono HB.out.size)); have r1 := HQ3.out.c1; have y0 := HY3.out.c0; have y1 := HY3.out.c1; have y2 := HY3.out.c2; have z0 := HY3.out.frozen 0; have z1 := HY3.out.frozen 1; have z2 := HY3.out.frozen 2; have hne : ¬ w3.heap.size = w.heap.size + 1 := (by have h1 := HY.out.lt; have h2 := hB.size; omega); have hne2 : ¬ w.heap.size + 1 = w3.heap.size := (by have h1 := HY.out.lt; have h2 := hB.size; omega); clear hB hz hz2)
    have hst := HY3.out.st 0 0 0
    have hkb : Below w.heap.size w ((((w3.alloc (bdO fc fh fl)).setCell ⟨w.heap.size + 1, 0, none⟩ (.int .i64 0)).setCell ⟨w.heap.size + 1, 1, none⟩ (.int .i64 0)).setCell ⟨w.heap.size + 1, 2, none⟩ (.int .i64 0)) := ((HB3.out.setCell (p := ⟨w.heap.size + 1, 0, none⟩) (Nat.le_succ _) _).setCell (p := ⟨w.heap.size + 1, 1, none⟩) (Nat.le_succ _) _).setCell (p := ⟨w.heap.size + 1, 2, none⟩) (Nat.le_succ _) _
    have r0 := hst.c0
    have r1 := hst.c1
    have r2 := hst.c2
    exact bodyPost_ret (v := .tuple #[.agg #[.int .i64 0, .int .i64 0, .int .i64 0], .bool false]) (by simp [results, Tryz.results48, go_sem, r0, r1, r2]) rfl ⟨⟨0, 0, 0, rfl, fun h => by cases h⟩, hkb⟩
  · have ik : ((k : Int) != 0) = false := by rw [hk]; rfl
    cases M with
    | false =>
      rw [Bool.and_false, Bool.false_and, Bool.false_and]
      clear hle hk
      go_enter Tryz.func48, Tryz.ntmps48
      go_wp2_with (first
        | (go_at_call 86; refine LF.out.mono ?_; rintro e w3 ⟨rfl, hB⟩; have hz2 := (Below.refl w3.heap.size w3).alloc (Nat.le_refl _) (bdO fc fh fl); have hz := hB.trans (hz2.mono hB.size); have HE3 := hideL (BBox.new w3 fc fh fl); have HQ3 := hideL (HQ.out.next hz); have HY3 := hideL (HY.out.next hz); have HB3 := hideL (HB.out.trans (hz.mono HB.out.size)); have r1 := HQ3.out.c1; have y0 := HY3.out.c0; have y1 := HY3.out.c1; have y2 := HY3.out.c2; have z0 := HY3.out.frozen 0; have z1 := HY3.out.frozen 1; have z2 := HY3.out.frozen 2; have hne : ¬ w3.heap.size = w.heap.size + 1 := (by have h1 := HY.out.lt; have h2 := hB.size; omega); have hne2 : ¬ w.heap.size + 1 = w3.heap.size := (by have h1 := HY.out.lt; have h2 := hB.size; omega); clear hB hz hz2)
        | (go_at_call 87; refine (LM.out _ HB3.out).mono ?_; rintro e w5 ⟨rfl, hB⟩; have HE5 := hideL (HE3.out.next hB); have HQ5 := hideL (HQ3.out.next hB); have HY5 := hideL (HY3.out.next hB); have HB5 := hideL (HB3.out.trans (hB.mono HB3.out.size)); have e0 := HE5.out.c0; have e1 := HE5.out.c1; have e2 := HE5.out.c2; have s2 := HQ5.out.c2; have y0 := HY5.out.c0; have y1 := HY5.out.c1; have y2 := HY5.out.c2; have z0 := HY5.out.frozen 0; have z1 := HY5.out.frozen 1; have z2 := HY5.out.frozen 2; clear hB))
      have hst := HY5.out.st 0 0 0
      have hkb : Below w.heap.size w (((w5.setCell ⟨w.heap.size + 1, 0, none⟩ (.int .i64 0)).setCell ⟨w.heap.size + 1, 1, none⟩ (.int .i64 0)).setCell ⟨w.heap.size + 1, 2, none⟩ (.int .i64 0)) := ((HB5.out.setCell (p := ⟨w.heap.size + 1, 0, none⟩) (Nat.le_succ _) _).setCell (p := ⟨w.heap.size + 1, 1, none⟩) (Nat.le_succ _) _).setCell (p := ⟨w.heap.size + 1, 2, none⟩) (Nat.le_succ _) _
      have r0 := hst.c0
      have r1 := hst.c1
      have r2 := hst.c2
      exact bodyPost_ret (v := .tuple #[.agg #[.int .i64 0, .int .i64 0, .int .i64 0], .bool false]) (by simp [results, Tryz.results48, go_sem, r0, r1, r2]) rfl ⟨⟨0, 0, 0, rfl, fun h => by cases h⟩, hkb⟩
    | true =>
      have hle2 := hle hk
      have HK := hideL hk
      by_cases h1 : fc = 1
      · have i1 : ((fc : Int) == 1) = true := by rw [h1]; rfl
        by_cases h2 : bn ≤ 1024
        · have i2 : (bn : Int) ≤ 1024 := by omega
          rw [decide_eq_true hk, decide_eq_true h2, decide_eq_true h1, Bool.true_or, Bool.and_self, Bool.and_self, Bool.and_self]
          clear hk h1 h2 hle hle2
          go_enter Tryz.func48, Tryz.ntmps48
          go_wp2_with (first
          | (go_at_call 86; refine LF.out.mono ?_; rintro e w3 ⟨rfl, hB⟩; have hz2 := (Below.refl w3.heap.size w3).alloc (Nat.le_refl _) (bdO fc fh fl); have hz := hB.trans (hz2.mono hB.size); have HE3 := hideL (BBox.new w3 fc fh fl); have HQ3 := hideL (HQ.out.next hz); have HY3 := hideL (HY.out.next hz); have HB3 := hideL (HB.out.trans (hz.mono HB.out.size)); have r1 := HQ3.out.c1; have y0 := HY3.out.c0; have y1 := HY3.out.c1; have y2 := HY3.out.c2; have z0 := HY3.out.frozen 0; have z1 := HY3.out.frozen 1; have z2 := HY3.out.frozen 2; have hne : ¬ w3.heap.size = w.heap.size + 1 := (by have h1 := HY.out.lt; have h2 := hB.size; omega); have hne2 : ¬ w.heap.size + 1 = w3.heap.size := (by have h1 := HY.out.lt; have h2 := hB.size; omega); clear hB hz hz2)
          | (go_at_call 87; refine (LM.out _ HB3.out).mono ?_; rintro e w5 ⟨rfl, hB⟩; have HE5 := hideL (HE3.out.next hB); have HQ5 := hideL (HQ3.out.next hB); have HY5 := hideL (HY3.out.next hB); have HB5 := hideL (HB3.out.trans (hB.mono HB3.out.size)); have e0 := HE5.out.c0; have e1 := HE5.out.c1; have e2 := HE5.out.c2; have s2 := HQ5.out.c2; have y0 := HY5.out.c0; have y1 := HY5.out.c1; have y2 := HY5.out.c2; have z0 := HY5.out.frozen 0; have z1 := HY5.out.frozen 1; have z2 := HY5.out.frozen 2; clear hB))
          go_region_with fail
          all_goals
            go_wp2_with fail
            have hst := HY5.out.st fc fh fl
            have hkb : Below w.heap.size w (((w5.setCell ⟨w.heap.size + 1, 0, none⟩ (.int .i64 fc)).setCell ⟨w.heap.size + 1, 1, none⟩ (.int .i64 fh)).setCell ⟨w.heap.size + 1, 2, none⟩ (.int .i64 fl)) := ((HB5.out.setCell (p := ⟨w.heap.size + 1, 0, none⟩) (Nat.le_succ _) _).setCell (p := ⟨w.heap.size + 1, 1, none⟩) (Nat.le_succ _) _).setCell (p := ⟨w.heap.size + 1, 2, none⟩) (Nat.le_succ _) _
            have r0 := hst.c0
            have r1 := hst.c1
            have r2 := hst.c2
            have hkd := hkb.drew
            try rw [Exit.noGoto_ret]
            exact bodyPost_ret (v := .tuple #[.agg #[.int .i64 fc, .int .i64 fh, .int .i64 fl], .bool true]) (by simp [results, Tryz.results48, go_sem, r0, r1, r2]) rfl ⟨⟨fc, fh, fl, rfl, fun _ => by rw [HK.out]⟩, hkd⟩
        · have i2 : ¬ (bn : Int) ≤ 1024 := by omega
          rw [decide_eq_false h2, Bool.and_false, Bool.false_and]
          clear hk h1 h2 hle hle2
          go_enter Tryz.func48, Tryz.ntmps48
          go_wp2_with (first
          | (go_at_call 86; refine LF.out.mono ?_; rintro e w3 ⟨rfl, hB⟩; have hz2 := (Below.refl w3.heap.size w3).alloc (Nat.le_refl _) (bdO fc fh fl); have hz := hB.trans (hz2.mono hB.size); have HE3 := hideL (BBox.new w3 fc fh fl); have HQ3 := hideL (HQ.out.next hz); have HY3 := hideL (HY.out.next hz); have HB3 := hideL (HB.out.trans (hz.mono HB.out.size)); have r1 := HQ3.out.c1; have y0 := HY3.out.c0; have y1 := HY3.out.c1; have y2 := HY3.out.c2; have z0 := HY3.out.frozen 0; have z1 := HY3.out.frozen 1; have z2 := HY3.out.frozen 2; have hne : ¬ w3.heap.size = w.heap.size + 1 := (by have h1 := HY.out.lt; have h2 := hB.size; omega); have hne2 : ¬ w.heap.size + 1 = w3.heap.size := (by have h1 := HY.out.lt; have h2 := hB.size; omega); clear hB hz hz2)
          | (go_at_call 87; refine (LM.out _ HB3.out).mono ?_; rintro e w5 ⟨rfl, hB⟩; have HE5 := hideL (HE3.out.next hB); have HQ5 := hideL (HQ3.out.next hB); have HY5 := hideL (HY3.out.next hB); have HB5 := hideL (HB3.out.trans (hB.mono HB3.out.size)); have e0 := HE5.out.c0; have e1 := HE5.out.c1; have e2 := HE5.out.c2; have s2 := HQ5.out.c2; have y0 := HY5.out.c0; have y1 := HY5.out.c1; have y2 := HY5.out.c2; have z0 := HY5.out.frozen 0; have z1 := HY5.out.frozen 1; have z2 := HY5.out.frozen 2; clear hB))
          go_region_with fail
          all_goals
            go_wp2_with fail
            have hst := HY5.out.st fc fh fl
            have hkb : Below w.heap.size w (((w5.setCell ⟨w.heap.size + 1, 0, none⟩ (.int .i64 fc)).setCell ⟨w.heap.size + 1, 1, none⟩ (.int .i64 fh)).setCell ⟨w.heap.size + 1, 2, none⟩ (.int .i64 fl)) := ((HB5.out.setCell (p := ⟨w.heap.size + 1, 0, none⟩) (Nat.le_succ _) _).setCell (p := ⟨w.heap.size + 1, 1, none⟩) (Nat.le_succ _) _).setCell (p := ⟨w.heap.size + 1, 2, none⟩) (Nat.le_succ _) _
            have r0 := hst.c0
            have r1 := hst.c1
            have r2 := hst.c2
            have hkd := hkb.drew
            try rw [Exit.noGoto_ret]
            exact bodyPost_ret (v := .tuple #[.agg #[.int .i64 fc, .int .i64 fh, .int .i64 fl], .bool false]) (by simp [results, Tryz.results48, go_sem, r0, r1, r2, i2]) rfl ⟨⟨fc, fh, fl, rfl, fun _ => by rw [HK.out]⟩, hkd⟩
      · have i1 : ((fc : Int) == 1) = false := by rw [beq_eq_false_iff_ne]; omega
        by_cases h2 : bn = fl
        · have i2 : ((bn : Int) == (fl : Int)) = true := by rw [beq_iff_eq]; omega
          rw [decide_eq_true hk, decide_eq_true (show bn ≤ 1024 by omega), decide_eq_true h2, Bool.or_true, Bool.and_self, Bool.and_self, Bool.and_self]
          clear hk h1 h2 hle hle2
          go_enter Tryz.func48, Tryz.ntmps48
          go_wp2_with (first
          | (go_at_call 86; refine LF.out.mono ?_; rintro e w3 ⟨rfl, hB⟩; have hz2 := (Below.refl w3.heap.size w3).alloc (Nat.le_refl _) (bdO fc fh fl); have hz := hB.trans (hz2.mono hB.size); have HE3 := hideL (BBox.new w3 fc fh fl); have HQ3 := hideL (HQ.out.next hz); have HY3 := hideL (HY.out.next hz); have HB3 := hideL (HB.out.trans (hz.mono HB.out.size)); have r1 := HQ3.out.c1; have y0 := HY3.out.c0; have y1 := HY3.out.c1; have y2 := HY3.out.c2; have z0 := HY3.out.frozen 0; have z1 := HY3.out.frozen 1; have z2 := HY3.out.frozen 2; have hne : ¬ w3.heap.size = w.heap.size + 1 := (by have h1 := HY.out.lt; have h2 := hB.size; omega); have hne2 : ¬ w.heap.size + 1 = w3.heap.size := (by have h1 := HY.out.lt; have h2 := hB.size; omega); clear hB hz hz2)
          | (go_at_call 87; refine (LM.out _ HB3.out).mono ?_; rintro e w5 ⟨rfl, hB⟩; have HE5 := hideL (HE3.out.next hB); have HQ5 := hideL (HQ3.out.next hB); have HY5 := hideL (HY3.out.next hB); have HB5 := hideL (HB3.out.trans (hB.mono HB3.out.size)); have e0 := HE5.out.c0; have e1 := HE5.out.c1; have e2 := HE5.out.c2; have s2 := HQ5.out.c2; have y0 := HY5.out.c0; have y1 := HY5.out.c1; have y2 := HY5.out.c2; have z0 := HY5.out.frozen 0; have z1 := HY5.out.frozen 1; have z2 := HY5.out.frozen 2; clear hB))
          go_region_with fail
          all_goals
            go_wp2_with fail
            have hst := HY5.out.st fc fh fl
            have hkb : Below w.heap.size w (((w5.setCell ⟨w.heap.size + 1, 0, none⟩ (.int .i64 fc)).setCell ⟨w.heap.size + 1, 1, none⟩ (.int .i64 fh)).setCell ⟨w.heap.size + 1, 2, none⟩ (.int .i64 fl)) := ((HB5.out.setCell (p := ⟨w.heap.size + 1, 0, none⟩) (Nat.le_succ _) _).setCell (p := ⟨w.heap.size + 1, 1, none⟩) (Nat.le_succ _) _).setCell (p := ⟨w.heap.size + 1, 2, none⟩) (Nat.le_succ _) _
            have r0 := hst.c0
            have r1 := hst.c1
            have r2 := hst.c2
            have hkd := hkb.drew
            try rw [Exit.noGoto_ret]
            exact bodyPost_ret (v := .tuple #[.agg #[.int .i64 fc, .int .i64 fh, .int .i64 fl], .bool true]) (by simp [results, Tryz.results48, go_sem, r0, r1, r2]) rfl ⟨⟨fc, fh, fl, rfl, fun _ => by rw [HK.out]⟩, hkd⟩
        · have i2 : ((bn : Int) == (fl : Int)) = false := by rw [beq_eq_false_iff_ne]; omega
          rw [decide_eq_false h1, decide_eq_false h2, Bool.or_false, Bool.and_false]
          clear hk h1 h2 hle hle2
          go_enter Tryz.func48, Tryz.ntmps48
          go_wp2_with (first
          | (go_at_call 86; refine LF.out.mono ?_; rintro e w3 ⟨rfl, hB⟩; have hz2 := (Below.refl w3.heap.size w3).alloc (Nat.le_refl _) (bdO fc fh fl); have hz := hB.trans (hz2.mono hB.size); have HE3 := hideL (BBox.new w3 fc fh fl); have HQ3 := hideL (HQ.out.next hz); have HY3 := hideL (HY.out.next hz); have HB3 := hideL (HB.out.trans (hz.mono HB.out.size)); have r1 := HQ3.out.c1; have y0 := HY3.out.c0; have y1 := HY3.out.c1; have y2 := HY3.out.c2; have z0 := HY3.out.frozen 0; have z1 := HY3.out.frozen 1; have z2 := HY3.out.frozen 2; have hne : ¬ w3.heap.size = w.heap.size + 1 := (by have h1 := HY.out.lt; have h2 := hB.size; omega); have hne2 : ¬ w.heap.size + 1 = w3.heap.size := (by have h1 := HY.out.lt; have h2 := hB.size; omega); clear hB hz hz2)
          | (go_at_call 87; refine (LM.out _ HB3.out).mono ?_; rintro e w5 ⟨rfl, hB⟩; have HE5 := hideL (HE3.out.next hB); have HQ5 := hideL (HQ3.out.next hB); have HY5 := hideL (HY3.out.next hB); have HB5 := hideL (HB3.out.trans (hB.mono HB3.out.size)); have e0 := HE5.out.c0; have e1 := HE5.out.c1; have e2 := HE5.out.c2; have s2 := HQ5.out.c2; have y0 := HY5.out.c0; have y1 := HY5.out.c1; have y2 := HY5.out.c2; have z0 := HY5.out.frozen 0; have z1 := HY5.out.frozen 1; have z2 := HY5.out.frozen 2; clear hB))
          go_region_with fail
          all_goals
            go_wp2_with fail
            have hst := HY5.out.st fc fh fl
            have hkb : Below w.heap.size w (((w5.setCell ⟨w.heap.size + 1, 0, none⟩ (.int .i64 fc)).setCell ⟨w.heap.size + 1, 1, none⟩ (.int .i64 fh)).setCell ⟨w.heap.size + 1, 2, none⟩ (.int .i64 fl)) := ((HB5.out.setCell (p := ⟨w.heap.size + 1, 0, none⟩) (Nat.le_succ _) _).setCell (p := ⟨w.heap.size + 1, 1, none⟩) (Nat.le_succ _) _).setCell (p := ⟨w.heap.size + 1, 2, none⟩) (Nat.le_succ _) _
            have r0 := hst.c0
            have r1 := hst.c1
            have r2 := hst.c2
            have hkd := hkb.drew
            try rw [Exit.noGoto_ret]
            exact bodyPost_ret (v := .tuple #[.agg #[.int .i64 fc, .int .i64 fh, .int .i64 fl], .bool false]) (by simp [results, Tryz.results48, go_sem, r0, r1, r2]) rfl ⟨⟨fc, fh, fl, rfl, fun _ => by rw [HK.out]⟩, hkd⟩
end Go.Proofs.YtfpdcokdponojaaGreatDoor
