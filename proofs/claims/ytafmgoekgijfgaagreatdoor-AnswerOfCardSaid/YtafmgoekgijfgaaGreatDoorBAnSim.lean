/- Simple. -/
import Derived.Test.YtafmgoekgijfgaaGreatDoorBAnOf
import Derived.Test.YtafmgoekgijfgaaGreatDoorBRqBrow
namespace Go.Proofs.YtafmgoekgijfgaaGreatDoor
open Go.RowKit Go.Lib

/-- What Simple answers. -/
def ASiPost (w : World) (c : Int) (b : List UInt8) (e : Ending) (w' : World) : Prop := (∃ (k : Int) (ha : Option Addr) (hn hc : Nat) (ba : Option Addr) (bn bc : Nat), e = .returned (.tuple #[.agg #[.int .i64 k, .slice ha hn hc, .slice ba bn bc], .int .i64 (if mayAB (simA c b) = true then 0 else 1)]) ∧ AnsAt w' ⟨k, ⟨ha, hn, hc⟩, ⟨ba, bn, bc⟩⟩ (if mayAB (simA c b) = true then simA c b else an0)) ∧ Below w.heap.size w w'
theorem ASiPost.no {w w' : World} {c : Int} {b : List UInt8} (h : mayAB (simA c b) = false) (hB : Below w.heap.size w w') : ASiPost w c b (.returned (.tuple #[.agg #[.int .i64 0, .slice none 0 0, .slice none 0 0], .int .i64 1])) w' := by
 unfold ASiPost
 rw [h]
 exact ⟨⟨0, none, 0, 0, none, 0, 0, rfl, AnsAt.zero w'⟩, hB⟩
theorem ASiPost.yes {w w' : World} {c k : Int} {b : List UInt8} {ha : Option Addr} {hn hc : Nat} {ba : Option Addr} {bn bc : Nat} (h : mayAB (simA c b) = true) (hr : AnsAt w' ⟨k, ⟨ha, hn, hc⟩, ⟨ba, bn, bc⟩⟩ (simA c b)) (hB : Below w.heap.size w w') : ASiPost w c b (.returned (.tuple #[.agg #[.int .i64 k, .slice ha hn hc, .slice ba bn bc], .int .i64 0])) w' := by
 unfold ASiPost
 rw [h]
 exact ⟨⟨k, ha, hn, hc, ba, bn, bc, rfl, hr⟩, hB⟩
abbrev hdC (a b : ByteArray) : Obj := .cells #[.string a, .string b] 83
set_option maxRecDepth 100000 in
set_option maxHeartbeats 4000000 in
theorem asim_any (c : Int) (s : ByteArray) (hs : s.size ≤ 9999) (w0 : World) (ht : (Env w0 ∧ EnvS w0) ∧ EnvT w0) : Calls Tryz.prog 62 #[.int .i64 c, .string s] w0 (ASiPost w0 c s.data.toList) := by
 have HX1 := hideL (ABox.new w0 0 (.slice none 0 0) (.slice none 0 0))
 have HB1 := hideL ((Below.refl w0.heap.size w0).alloc (Nat.le_refl _) (anC 0 (.slice none 0 0) (.slice none 0 0)))
 generalize hW1 : w0.alloc (anC 0 (.slice none 0 0) (.slice none 0 0)) = W1 at *
 obtain ⟨c9, W9, hcv, hmk, hb9⟩ := conv_bytes W1 s (by omega)
 have hg9 := hmk.gAt
 have LD := hideL (fun W => digits_any s.size (by omega) W)
 obtain ⟨D, hD⟩ : ∃ b, bo (decS s.size) = b := ⟨_, rfl⟩
 rw [hD] at LD
 have hsz : s.data.toList.length = s.size := size_list s
 have hsim : simA c s.data.toList = ⟨c, [⟨clA, D⟩], s.data.toList⟩ := by unfold simA; rw [hsz, hD]
 have hds : D.size ≤ 4 := by rw [← hD, bo_size]; exact (decS_len (by omega)).2
 have hfit : Fits [⟨clA, D⟩] := Fits.one ⟨by show clA.size ≤ 1000000; decide, by show D.size ≤ 1000000; omega⟩
 have HB9 := hideL (HB1.out.trans (hb9.mono HB1.out.size))
 have HX9 := hideL (HX1.out.next hb9)
 have LM := hideL (fun (ba : Option Addr) (bn bc : Nat) (ha : Option Addr) (hn hc : Nat) (W : World) (gh : GAt KH W (.slice ha hn hc) [⟨clA, D⟩]) (gb : GAt KB W (.slice ba bn bc) s.data.toList) => made_any c ba bn bc ha hn hc [⟨clA, D⟩] s.data.toList W gh gb hfit (show 1 ≤ 1000 by decide) (by rw [hsz]; omega))
 obtain ⟨M, hM⟩ : ∃ m, mayAB (simA c s.data.toList) = m := ⟨_, rfl⟩
 have LY := hideL (fun (ka : Option Addr) (kn kc : Nat) (ja : Option Addr) (jn jc : Nat) (W : World) (hb : Below w0.heap.size w0 W) (h : AnsAt W ⟨c, ⟨ka, kn, kc⟩, ⟨ja, jn, jc⟩⟩ (simA c s.data.toList)) => by have := amay_any c ka kn kc ja jn jc (simA c s.data.toList) W h (by rw [hsim]; exact hfit) (by rw [hsim]; show 1 ≤ 1000; decide) (ht.1.1.next hb) (ht.2.next hb); rw [hM] at this; exact this)
 have HM := hideL hM
 have HSI := hideL hsim
 have HG9 := hideL hg9
 obtain ⟨sl, hsl⟩ : ∃ n, s.data.toList.length = n := ⟨_, rfl⟩
 rw [hsl] at hcv HG9
 clear hmk hb9 hg9 hsz hsim hds hfit hs ht hD hM hsl
 cases M with
 | false =>
   go_enter Tryz.func62, Tryz.ntmps62
   go_wp2_with (first
     | (go_at_call 101; refine (LD.out _).mono ?_; rintro e w2 ⟨rfl, hB⟩
        have hz2 := (Below.refl w2.heap.size w2).alloc (Nat.le_refl _) (hdC clA D)
        have hz3 := hB.trans (hz2.mono hB.size)
        have HX2 := hideL (HX9.out.next hz3)
        have HB2 := hideL (HB9.out.trans (hz3.mono HB9.out.size))
        have hgh : GAt KH (w2.alloc (hdC clA D)) (.slice (some ⟨w2.heap.size, 0, none⟩) 1 1) [⟨clA, D⟩] := (GRow.lit (K := KH) w2 0 [⟨clA, D⟩] (Nat.zero_le _) (show 1 ≤ maxLen by decide)).gAt
        have LM2 := hideL (LM.out (some ⟨W1.heap.size, 0, none⟩) sl c9 _ _ _ _ hgh (HG9.out.below hz3))
        clear hB hz2 hz3 hgh)
     | (go_at_call 67; refine LM2.out.mono ?_; rintro e w3 ⟨⟨ka, kn, kc⟩, ⟨ja, jn, jc⟩, rfl, g1, g2, hB⟩
        simp only [Sl.v] at g1 g2 ⊢
        have hz2 := (Below.refl w3.heap.size w3).alloc (Nat.le_refl _) (anC c (.slice ka kn kc) (.slice ja jn jc))
        have hz3 := hB.trans (hz2.mono hB.size)
        have HX3 := hideL (HX2.out.next hz3)
        have HY3 := hideL (ABox.new w3 c (.slice ka kn kc) (.slice ja jn jc))
        have HB3 := hideL (HB2.out.trans (hz3.mono HB2.out.size))
        have G1 := hideL (g1.below hz2)
        have G2 := hideL (g2.below hz2)
        have HXL := hideL HX2.out.lt
        have LY3 := hideL (LY.out ka kn kc ja jn jc _ HB3.out (by rw [HSI.out]; exact ⟨rfl, G1.out.gAt, G2.out.gAt⟩))
        have k0 := HY3.out.c0
        have k1 := HY3.out.c1
        have k2 := HY3.out.c2
        clear hB hz2 hz3 g1 g2)
     | (go_at_call 25; refine LY3.out.mono ?_; rintro e w4 ⟨rfl, hB⟩
        have HX4 := hideL (HX3.out.next hB)
        have HB4 := hideL (HB3.out.trans (hB.mono HB3.out.size))
        have q0 := HX4.out.c0
        have q1 := HX4.out.c1
        have q2 := HX4.out.c2
        have z0 := HX4.out.fz 0
        have z1 := HX4.out.fz 1
        have z2 := HX4.out.fz 2
        clear hB))
   exact bodyPost_ret (v := .tuple #[.agg #[.int .i64 0, .slice none 0 0, .slice none 0 0], .int .i64 1]) (by
     have hy := HX4.out.st 0 (.slice none 0 0) (.slice none 0 0)
     have r0 := hy.c0
     have r1 := hy.c1
     have r2 := hy.c2
     simp [results, Tryz.results62, go_sem, r0, r1, r2]) rfl (ASiPost.no HM.out (below_st3 HB4.out (Nat.le_refl _)))
 | true =>
   go_enter Tryz.func62, Tryz.ntmps62
   go_wp2_with (first
     | (go_at_call 101; refine (LD.out _).mono ?_; rintro e w2 ⟨rfl, hB⟩
        have hz2 := (Below.refl w2.heap.size w2).alloc (Nat.le_refl _) (hdC clA D)
        have hz3 := hB.trans (hz2.mono hB.size)
        have HX2 := hideL (HX9.out.next hz3)
        have HB2 := hideL (HB9.out.trans (hz3.mono HB9.out.size))
        have hgh : GAt KH (w2.alloc (hdC clA D)) (.slice (some ⟨w2.heap.size, 0, none⟩) 1 1) [⟨clA, D⟩] := (GRow.lit (K := KH) w2 0 [⟨clA, D⟩] (Nat.zero_le _) (show 1 ≤ maxLen by decide)).gAt
        have LM2 := hideL (LM.out (some ⟨W1.heap.size, 0, none⟩) sl c9 _ _ _ _ hgh (HG9.out.below hz3))
        clear hB hz2 hz3 hgh)
     | (go_at_call 67; refine LM2.out.mono ?_; rintro e w3 ⟨⟨ka, kn, kc⟩, ⟨ja, jn, jc⟩, rfl, g1, g2, hB⟩
        simp only [Sl.v] at g1 g2 ⊢
        have hz2 := (Below.refl w3.heap.size w3).alloc (Nat.le_refl _) (anC c (.slice ka kn kc) (.slice ja jn jc))
        have hz3 := hB.trans (hz2.mono hB.size)
        have HX3 := hideL (HX2.out.next hz3)
        have HY3 := hideL (ABox.new w3 c (.slice ka kn kc) (.slice ja jn jc))
        have HB3 := hideL (HB2.out.trans (hz3.mono HB2.out.size))
        have G1 := hideL (g1.below hz2)
        have G2 := hideL (g2.below hz2)
        have HXL := hideL HX2.out.lt
        have LY3 := hideL (LY.out ka kn kc ja jn jc _ HB3.out (by rw [HSI.out]; exact ⟨rfl, G1.out.gAt, G2.out.gAt⟩))
        have k0 := HY3.out.c0
        have k1 := HY3.out.c1
        have k2 := HY3.out.c2
        clear hB hz2 hz3 g1 g2)
     | (go_at_call 25; refine LY3.out.mono ?_; rintro e w4 ⟨rfl, hB⟩
        have HX4 := hideL (HX3.out.next hB)
        have HB4 := hideL (HB3.out.trans (hB.mono HB3.out.size))
        have HY4 := hideL (HY3.out.next hB)
        have k0 := HY4.out.c0
        have k1 := HY4.out.c1
        have k2 := HY4.out.c2
        have G14 := hideL (G1.out.below hB)
        have G24 := hideL (G2.out.below hB)
        have q0 := HX4.out.c0
        have q1 := HX4.out.c1
        have q2 := HX4.out.c2
        have z0 := HX4.out.fz 0
        have z1 := HX4.out.fz 1
        have z2 := HX4.out.fz 2
        clear hB))
   have hy := HX4.out.st c (.slice ka kn kc) (.slice ja jn jc)
   have r0 := hy.c0
   have r1 := hy.c1
   have r2 := hy.c2
   have kk := keep_st3 w4 w0.heap.size (.int .i64 c) (.slice ka kn kc) (.slice ja jn jc)
   have hxl := HXL.out
   have f1 := G14.out.gAt.keep kk (fun q hq e => by have := G14.out.ge hq; have e : q = w0.heap.size := e; omega)
   have f2 := G24.out.gAt.keep kk (fun q hq e => by have := G24.out.ge hq; have e : q = w0.heap.size := e; omega)
   exact bodyPost_ret (v := .tuple #[.agg #[.int .i64 c, .slice ka kn kc, .slice ja jn jc], .int .i64 0]) (by simp [results, Tryz.results62, go_sem, r0, r1, r2]) rfl (ASiPost.yes HM.out (by rw [HSI.out]; exact ⟨rfl, f1, f2⟩) (below_st3 HB4.out (Nat.le_refl _)))
end Go.Proofs.YtafmgoekgijfgaaGreatDoor
