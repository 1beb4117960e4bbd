/- Of, One, Simple. -/
import Derived.Test.YtafmgoekgijfgaaGreatDoorBAnBytes
import Derived.Test.YtafmgoekgijfgaaGreatDoorBAnCod
import Derived.Test.YtafmgoekgijfgaaGreatDoorBRqOne
namespace Go.Proofs.YtafmgoekgijfgaaGreatDoor
open Go.RowKit Go.Lib

def an0 : An := ⟨0, [], []⟩
theorem AnsAt.zero (w : World) : AnsAt w ⟨0, ⟨none, 0, 0⟩, ⟨none, 0, 0⟩⟩ an0 := ⟨rfl, GAt.nil w, GAt.nil w⟩
def AnsGe (B : Nat) (v : AV) : Prop := (∀ k, v.h.v.ownBlock = some k → B ≤ k) ∧ (∀ k, v.b.v.ownBlock = some k → B ≤ k)
theorem AnsGe.zero (B : Nat) : AnsGe B ⟨0, ⟨none, 0, 0⟩, ⟨none, 0, 0⟩⟩ := ⟨(fun k hk => by cases hk), (fun k hk => by cases hk)⟩
/-- What Of answers. -/
def AOfPost (w : World) (x : Rw) (e : Ending) (w' : World) : Prop := (∃ (c : Int) (ha : Option Addr) (hn hc : Nat) (ba : Option Addr) (bn bc : Nat), e = .returned (.tuple #[.agg #[.int .i64 c, .slice ha hn hc, .slice ba bn bc], .int .i64 (if (ofAP x).isSome = true then 0 else 2)]) ∧ AnsAt w' ⟨c, ⟨ha, hn, hc⟩, ⟨ba, bn, bc⟩⟩ ((ofAP x).getD an0) ∧ AnsGe w.heap.size ⟨c, ⟨ha, hn, hc⟩, ⟨ba, bn, bc⟩⟩) ∧ Below w.heap.size w w'
theorem AOfPost.no {w w' : World} {x : Rw} (h : ofAP x = none) (hB : Below w.heap.size w w') : AOfPost w x (.returned (.tuple #[.agg #[.int .i64 0, .slice none 0 0, .slice none 0 0], .int .i64 2])) w' := by
 unfold AOfPost
 rw [h]
 exact ⟨⟨0, none, 0, 0, none, 0, 0, rfl, AnsAt.zero w', AnsGe.zero _⟩, hB⟩
theorem AOfPost.yes {w w' : World} {x : Rw} {a : An} {c : Int} {ha : Option Addr} {hn hc : Nat} {ba : Option Addr} {bn bc : Nat} (h : ofAP x = some a) (h1 : AnsAt w' ⟨c, ⟨ha, hn, hc⟩, ⟨ba, bn, bc⟩⟩ a) (h2 : AnsGe w.heap.size ⟨c, ⟨ha, hn, hc⟩, ⟨ba, bn, bc⟩⟩) (hB : Below w.heap.size w w') : AOfPost w x (.returned (.tuple #[.agg #[.int .i64 c, .slice ha hn hc, .slice ba bn bc], .int .i64 0])) w' := by
 unfold AOfPost
 rw [h]
 exact ⟨⟨c, ha, hn, hc, ba, bn, bc, rfl, h1, h2⟩, hB⟩
theorem ofA_none {x : Rw} (h : codP x.start = none) : ofAP x = none := by unfold ofAP; rw [h]
theorem ofA_cod {x : Rw} {n : Nat} (h : codP x.start = some n) : ofAP x = if fitP x.heads x.body = true then some ⟨n, x.heads, x.body⟩ else none := by unfold ofAP; rw [h]
theorem may_cod {n : Nat} {h : List Hd} {b : List UInt8} (hc : codB n = true) : mayAB ⟨n, h, b⟩ = fitP h b := by unfold mayAB; simp only [hc, Bool.true_and]
theorem below_st3 {w W : World} {g : Nat} {a b c : Value} (h : Below w.heap.size w W) (hg : w.heap.size ≤ g) : Below w.heap.size w (((W.setCell ⟨g, 0, none⟩ a).setCell ⟨g, 1, none⟩ b).setCell ⟨g, 2, none⟩ c) := h.trans ((keep_st3 W g a b c).below (fun k e => by rw [e]; exact hg) h.size)
set_option maxRecDepth 100000 in
set_option maxHeartbeats 4000000 in
theorem aof_any (s : ByteArray) (ha : Option Addr) (hn hc : Nat) (ba : Option Addr) (bn bc : Nat) (x : Rw) (w0 : World) (hr : RawAt w0 ⟨s, ⟨ha, hn, hc⟩, ⟨ba, bn, bc⟩⟩ x) (hf : Fits x.heads) (hs0 : s.size ≤ 1000000) (hl : x.heads.length ≤ 1000) (hbl : x.body.length ≤ 1000000) (ht : (Env w0 ∧ EnvS w0) ∧ EnvT w0) :
   Calls Tryz.prog 33 #[.agg #[.string s, .slice ha hn hc, .slice ba bn bc]] w0 (AOfPost w0 x) := by
 obtain ⟨hst, gh, gb⟩ := hr
 simp only [Sl.v] at hst gh gb
 have hb1 := (Below.refl w0.heap.size w0).alloc (Nat.le_refl _) (rawC s (.slice ha hn hc) (.slice ba bn bc))
 have hq : QBox (w0.alloc (rawC s (.slice ha hn hc) (.slice ba bn bc))) w0.heap.size s (.slice ha hn hc) (.slice ba bn bc) := heap_alloc_new w0 _
 have hb2 := (Below.refl (w0.alloc (rawC s (.slice ha hn hc) (.slice ba bn bc))).heap.size (w0.alloc (rawC s (.slice ha hn hc) (.slice ba bn bc)))).alloc (Nat.le_refl _) (anC 0 (.slice none 0 0) (.slice none 0 0))
 have hx := ABox.new (w0.alloc (rawC s (.slice ha hn hc) (.slice ba bn bc))) 0 (.slice none 0 0) (.slice none 0 0)
 rw [World.size_alloc] at hx
 have HB1 := hideL (hb1.trans (hb2.mono hb1.size))
 have HQ1 := hideL (hq.next hb2)
 have HX1 := hideL hx
 have LC := fun (W : World) (hb : Below w0.heap.size w0 W) => codeOf_any s hs0 W (ht.1.1.next hb) (ht.1.2.next hb)
 rw [hst] at LC
 have LM := fun (c : Int) (W : World) (hb : Below w0.heap.size w0 W) => made_any c ba bn bc ha hn hc x.heads x.body W (gh.below hb) (gb.below hb) hf hl hbl
 have c0 := HQ1.out.c0
 cases hC : codP x.start with
 | none =>
   rw [hC] at LC
   simp only [codA] at LC
   have LC := hideL LC
   have LM := hideL (LM 0)
   have HNO := hideL (ofA_none hC)
   clear hst gh gb hf hs0 hl hbl ht hb1 hb2 hq hx hC
   go_enter Tryz.func33, Tryz.ntmps33
   go_wp2_with (first
     | (go_at_call 66; refine (LC.out _ HB1.out).mono ?_; rintro e w2 ⟨rfl, hB⟩
        have HQ2 := hideL (HQ1.out.next hB)
        have HX2 := hideL (HX1.out.next hB)
        have c1 := HQ2.out.c1
        have c2 := HQ2.out.c2
        have HB2 := hideL (HB1.out.trans (hB.mono HB1.out.size))
        clear hB)
     | (go_at_call 67; refine (LM.out _ HB2.out).mono ?_; rintro e w3 ⟨⟨ka, kn, kc⟩, ⟨ja, jn, jc⟩, rfl, _, _, hB⟩
        simp only [Sl.v]
        have hz2 := (Below.refl w3.heap.size w3).alloc (Nat.le_refl _) (anC 0 (.slice ka kn kc) (.slice ja jn jc))
        have hz3 := hB.trans (hz2.mono hB.size)
        have HX3 := hideL (HX2.out.next hz3)
        have HB3 := hideL (HB2.out.trans (hz3.mono HB2.out.size))
        have q0 := HX3.out.c0
        have q1 := HX3.out.c1
        have q2 := HX3.out.c2
        have z0 := HX3.out.fz 0
        have z1 := HX3.out.fz 1
        have z2 := HX3.out.fz 2
        clear hB hz2 hz3))
   exact bodyPost_ret (v := .tuple #[.agg #[.int .i64 0, .slice none 0 0, .slice none 0 0], .int .i64 2]) (by
     have hy := HX3.out.st 0 (.slice none 0 0) (.slice none 0 0)
     have r0 := hy.c0
     have r1 := hy.c1
     have r2 := hy.c2
     simp [results, Tryz.results33, go_sem, r0, r1, r2]) rfl (AOfPost.no HNO.out (below_st3 HB3.out (Nat.le_succ _)))
 | some n =>
   rw [hC] at LC
   simp only [codA] at LC
   have LC := hideL LC
   have LM := hideL (LM (n : Int))
   have hcb := (codP_some hC).2.1
   have hof := ofA_cod hC
   have HMC := hideL (may_cod (h := x.heads) (b := x.body) hcb)
   have HF := hideL hf
   have HL := hideL hl
   have HT := hideL ht
   obtain ⟨F, hF⟩ : ∃ f, fitP x.heads x.body = f := ⟨_, rfl⟩
   rw [hF] at hof HMC
   have HOF := hideL hof
   clear hst gh gb hf hs0 hl hbl ht hb1 hb2 hq hx hC hcb hof hF
   have LY := hideL (fun (ka : Option Addr) (kn kc : Nat) (ja : Option Addr) (jn jc : Nat) (W : World) (hb : Below w0.heap.size w0 W) (h : AnsAt W ⟨(n : Int), ⟨ka, kn, kc⟩, ⟨ja, jn, jc⟩⟩ ⟨(n : Int), x.heads, x.body⟩) => by have := amay_any (n : Int) ka kn kc ja jn jc ⟨(n : Int), x.heads, x.body⟩ W h HF.out HL.out (HT.out.1.1.next hb) (HT.out.2.next hb); rw [HMC.out] at this; exact this)
   cases F with
   | false =>
     have HO := hideL (show ofAP x = none from by rw [HOF.out]; rfl)
     go_enter Tryz.func33, Tryz.ntmps33
     go_wp2_with (first
       | (go_at_call 66; refine (LC.out _ HB1.out).mono ?_; rintro e w2 ⟨rfl, hB⟩
          have HQ2 := hideL (HQ1.out.next hB)
          have HX2 := hideL (HX1.out.next hB)
          have c1 := HQ2.out.c1
          have c2 := HQ2.out.c2
          have HB2 := hideL (HB1.out.trans (hB.mono HB1.out.size))
          clear hB)
       | (go_at_call 67; refine (LM.out _ HB2.out).mono ?_; rintro e w3 ⟨⟨ka, kn, kc⟩, ⟨ja, jn, jc⟩, rfl, g1, g2, hB⟩
          simp only [Sl.v] at g1 g2 ⊢
          have hz2 := (Below.refl w3.heap.size w3).alloc (Nat.le_refl _) (anC (n : Int) (.slice ka kn kc) (.slice ja jn jc))
          have hz3 := hB.trans (hz2.mono hB.size)
          have HX3 := hideL (HX2.out.next hz3)
          have HY3 := hideL (ABox.new w3 (n : Int) (.slice ka kn kc) (.slice ja jn jc))
          have HB3 := hideL (HB2.out.trans (hz3.mono HB2.out.size))
          have G1 := hideL (g1.below hz2)
          have G2 := hideL (g2.below hz2)
          have HXL := hideL HX2.out.lt
          have LY3 := hideL (LY.out ka kn kc ja jn jc _ HB3.out ⟨rfl, G1.out.gAt, G2.out.gAt⟩)
          have k0 := HY3.out.c0
          have k1 := HY3.out.c1
          have k2 := HY3.out.c2
          clear hB hz2 hz3 g1 g2)
       | (go_at_call 25; refine LY3.out.mono ?_; rintro e w4 ⟨rfl, hB⟩
          have HX4 := hideL (HX3.out.next hB)
          have HB4 := hideL (HB3.out.trans (hB.mono HB3.out.size))
          have q0 := HX4.out.c0
          have q1 := HX4.out.c1
          have q2 := HX4.out.c2
          have z0 := HX4.out.fz 0
          have z1 := HX4.out.fz 1
          have z2 := HX4.out.fz 2
          clear hB))
     exact bodyPost_ret (v := .tuple #[.agg #[.int .i64 0, .slice none 0 0, .slice none 0 0], .int .i64 2]) (by
       have hy := HX4.out.st 0 (.slice none 0 0) (.slice none 0 0)
       have r0 := hy.c0
       have r1 := hy.c1
       have r2 := hy.c2
       simp [results, Tryz.results33, go_sem, r0, r1, r2]) rfl (AOfPost.no HO.out (below_st3 HB4.out (Nat.le_succ _)))
   | true =>
     have HO := hideL (show ofAP x = some ⟨(n : Int), x.heads, x.body⟩ from by rw [HOF.out]; rfl)
     go_enter Tryz.func33, Tryz.ntmps33
     go_wp2_with (first
       | (go_at_call 66; refine (LC.out _ HB1.out).mono ?_; rintro e w2 ⟨rfl, hB⟩
          have HQ2 := hideL (HQ1.out.next hB)
          have HX2 := hideL (HX1.out.next hB)
          have c1 := HQ2.out.c1
          have c2 := HQ2.out.c2
          have HB2 := hideL (HB1.out.trans (hB.mono HB1.out.size))
          clear hB)
       | (go_at_call 67; refine (LM.out _ HB2.out).mono ?_; rintro e w3 ⟨⟨ka, kn, kc⟩, ⟨ja, jn, jc⟩, rfl, g1, g2, hB⟩
          simp only [Sl.v] at g1 g2 ⊢
          have hz2 := (Below.refl w3.heap.size w3).alloc (Nat.le_refl _) (anC (n : Int) (.slice ka kn kc) (.slice ja jn jc))
          have hz3 := hB.trans (hz2.mono hB.size)
          have HX3 := hideL (HX2.out.next hz3)
          have HY3 := hideL (ABox.new w3 (n : Int) (.slice ka kn kc) (.slice ja jn jc))
          have HB3 := hideL (HB2.out.trans (hz3.mono HB2.out.size))
          have G1 := hideL (g1.below hz2)
          have G2 := hideL (g2.below hz2)
          have HXL := hideL HX2.out.lt
          have LY3 := hideL (LY.out ka kn kc ja jn jc _ HB3.out ⟨rfl, G1.out.gAt, G2.out.gAt⟩)
          have k0 := HY3.out.c0
          have k1 := HY3.out.c1
          have k2 := HY3.out.c2
          clear hB hz2 hz3 g1 g2)
       | (go_at_call 25; refine LY3.out.mono ?_; rintro e w4 ⟨rfl, hB⟩
          have HX4 := hideL (HX3.out.next hB)
          have HB4 := hideL (HB3.out.trans (hB.mono HB3.out.size))
          have HY4 := hideL (HY3.out.next hB)
          have k0 := HY4.out.c0
          have k1 := HY4.out.c1
          have k2 := HY4.out.c2
          have G14 := hideL (G1.out.below hB)
          have G24 := hideL (G2.out.below hB)
          have q0 := HX4.out.c0
          have q1 := HX4.out.c1
          have q2 := HX4.out.c2
          have z0 := HX4.out.fz 0
          have z1 := HX4.out.fz 1
          have z2 := HX4.out.fz 2
          clear hB))
     have hy := HX4.out.st (n : Int) (.slice ka kn kc) (.slice ja jn jc)
     have r0 := hy.c0
     have r1 := hy.c1
     have r2 := hy.c2
     have kk := keep_st3 w4 (w0.heap.size + 1) (.int .i64 (n : Int)) (.slice ka kn kc) (.slice ja jn jc)
     have hxl := HXL.out
     have hb2 := HB2.out.size
     have f1 := G14.out.gAt.keep kk (fun q hq e => by have := G14.out.ge hq; have e : q = w0.heap.size + 1 := e; omega)
     have f2 := G24.out.gAt.keep kk (fun q hq e => by have := G24.out.ge hq; have e : q = w0.heap.size + 1 := e; omega)
     exact bodyPost_ret (v := .tuple #[.agg #[.int .i64 (n : Int), .slice ka kn kc, .slice ja jn jc], .int .i64 0]) (by simp [results, Tryz.results33, go_sem, r0, r1, r2]) rfl (AOfPost.yes HO.out ⟨rfl, f1, f2⟩ ⟨fun q hq => by have := G14.out.ge hq; omega, fun q hq => by have := G24.out.ge hq; omega⟩ (below_st3 HB4.out (Nat.le_succ _)))
end Go.Proofs.YtafmgoekgijfgaaGreatDoor
