/- AnswerMay: whether any answer may be, its bytes; reasons; whether two are the same. -/
import Derived.Test.YtafmgoekgijfgaaGreatDoorAAnCon
import Derived.Test.YtafmgoekgijfgaaGreatDoorAAnAwake
import Derived.Test.YtafmgoekgijfgaaGreatDoorAAnStart
import Derived.Test.YtafmgoekgijfgaaGreatDoorAAnRMay
import Derived.Test.YtafmgoekgijfgaaGreatDoorAAnSameP
import Derived.Test.YtafmgoekgijfgaaGreatDoorARqRWr
namespace Go.Proofs.YtafmgoekgijfgaaGreatDoor
open Go.RowKit Go.Lib

/-- The document's Write of what may be. -/
def RwOk (w : World) (l : List UInt8) (e : Ending) (w' : World) : Prop := (∃ (a : Option Addr) (n c : Nat), e = .returned (.tuple #[.slice a n c, .bool true]) ∧ GAt KB w' (.slice a n c) l) ∧ Below w.heap.size w w'
theorem rwr_ok {x : An} {n : Nat} (h : mayAB x = true) (e0 : (n : Int) = x.code) (ha : Option Addr) (hn hc : Nat) (ba : Option Addr) (bn bc : Nat) (w : World) (gh : GAt KH w (.slice ha hn hc) x.heads) (gb : GAt KB w (.slice ba bn bc) x.body) : Calls Tryz.prog 16 #[.agg #[.string (bo (anLine n)), .slice ha hn hc, .slice ba bn bc]] w (RwOk w (wrtP (rawA x))) := by
  have hm := (fit_may (mayA_fit h)).1
  have hl := mayH_len hm
  have hcb : codB x.code = true := by unfold mayAB at h; rw [Bool.and_eq_true] at h; exact h.1
  have hn' : x.code.toNat = n := by omega
  have hll := (line_cod (c := n) (by rw [e0]; exact hcb)).2.2.1
  have k := rwrite_any (bo (anLine n)) ha hn hc ba bn bc (rawA x) w ⟨by rw [bo_list, ← hn']; rfl, gh, gb⟩ (good_fits hm) (by rw [bo_size]; omega) (show x.heads.length ≤ 1000 by omega)
  unfold RWrPost at k
  simp only [mayA_wrt h, ↓reduceIte] at k
  exact k
set_option maxRecDepth 100000 in
set_option maxHeartbeats 4000000 in
theorem amayl_1 (c : Int) (ha : Option Addr) (hn hc : Nat) (ba : Option Addr) (bn bc : Nat) (d : Int) (ka : Option Addr) (kn kc : Nat) (la : Option Addr) (ln lc : Nat) (x y : An) (w0 : World) (h1 : AnsAt w0 ⟨c, ⟨ha, hn, hc⟩, ⟨ba, bn, bc⟩⟩ x) (h2 : AnsAt w0 ⟨d, ⟨ka, kn, kc⟩, ⟨la, ln, lc⟩⟩ y) (ht : (Env w0 ∧ EnvS w0) ∧ EnvT w0) (g1 : lngA bn x.heads = true) :
    Calls Tryz.prog 6 #[.agg #[.int .i64 c, .slice ha hn hc, .slice ba bn bc], .agg #[.int .i64 d, .slice ka kn kc, .slice la ln lc]] w0 fun e w' => e = .returned (.bool true) ∧ Below w0.heap.size w0 w' := by
  have LT := hideL (fun (W : World) (hb : Below w0.heap.size w0 W) => (⟨⟨ht.1.1.next hb, ht.1.2.next hb⟩, ht.2.next hb⟩ : (Env W ∧ EnvS W) ∧ EnvT W))
  have LA := hideL (fun (W : World) (hb : Below w0.heap.size w0 W) => awakeA_any W (LT.out W hb))
  have hb1 := (Below.refl w0.heap.size w0).alloc (Nat.le_refl _) (anC c (.slice ha hn hc) (.slice ba bn bc))
  have hX := (ABox.new w0 c (.slice ha hn hc) (.slice ba bn bc)).next ((Below.refl _ _).alloc (Nat.le_refl _) (anC d (.slice ka kn kc) (.slice la ln lc)))
  have hY := ABox.new (w0.alloc (anC c (.slice ha hn hc) (.slice ba bn bc))) d (.slice ka kn kc) (.slice la ln lc)
  rw [World.size_alloc] at hY
  have hb2 := (Below.refl (w0.alloc (anC c (.slice ha hn hc) (.slice ba bn bc))).heap.size (w0.alloc (anC c (.slice ha hn hc) (.slice ba bn bc)))).alloc (Nat.le_refl _) (anC d (.slice ka kn kc) (.slice la ln lc))
  have HX := hideL hX
  have HY := hideL hY
  have HB1 := hideL (hb1.trans (hb2.mono hb1.size))
  have LL1 := fun (W : World) (hb : Below w0.heap.size w0 W) => along_any c ha hn hc ba bn bc x.heads W (h1.2.1.below hb)
  have LL2 := fun (W : World) (hb : Below w0.heap.size w0 W) => along_any d ka kn kc la ln lc y.heads W (h2.2.1.below hb)
  have x0 := HX.out.c0
  have x1 := HX.out.c1
  have x2 := HX.out.c2
  have y0 := HY.out.c0
  have y1 := HY.out.c1
  have y2 := HY.out.c2
  rw [g1] at LL1
  have LL1 := hideL LL1
  clear h1 h2 ht hb1 hb2 hX hY g1 LL2
  go_enter Tryz.func6, Tryz.ntmps6
  go_wp2_with (first
    | (go_at_call 23; (with_reducible refine (LL1.out _ HB1.out).mono ?_); rintro e w2 ⟨rfl, hB⟩
       clear x0 x1 x2 y0 y1 y2
       have HX := hideL (HX.out.next hB)
       have HY := hideL (HY.out.next hB)
       have x0 := HX.out.c0
       have x1 := HX.out.c1
       have x2 := HX.out.c2
       have y0 := HY.out.c0
       have y1 := HY.out.c1
       have y2 := HY.out.c2
       have HB2 := hideL (HB1.out.trans (hB.mono HB1.out.size))
       clear hB)
    | (go_at_call 24; (with_reducible refine (LA.out _ HB2.out).mono ?_); rintro e w99 ⟨rfl, hB⟩
       have HB99 := hideL (HB2.out.trans (hB.mono HB2.out.size))
       clear hB))
  go_ret
  exact ⟨rfl, HB99.out⟩
set_option maxRecDepth 100000 in
set_option maxHeartbeats 4000000 in
theorem amayl_2 (c : Int) (ha : Option Addr) (hn hc : Nat) (ba : Option Addr) (bn bc : Nat) (d : Int) (ka : Option Addr) (kn kc : Nat) (la : Option Addr) (ln lc : Nat) (x y : An) (w0 : World) (h1 : AnsAt w0 ⟨c, ⟨ha, hn, hc⟩, ⟨ba, bn, bc⟩⟩ x) (h2 : AnsAt w0 ⟨d, ⟨ka, kn, kc⟩, ⟨la, ln, lc⟩⟩ y) (ht : (Env w0 ∧ EnvS w0) ∧ EnvT w0) (g1 : lngA bn x.heads = false) (g2 : lngA ln y.heads = true) :
    Calls Tryz.prog 6 #[.agg #[.int .i64 c, .slice ha hn hc, .slice ba bn bc], .agg #[.int .i64 d, .slice ka kn kc, .slice la ln lc]] w0 fun e w' => e = .returned (.bool true) ∧ Below w0.heap.size w0 w' := by
  have LT := hideL (fun (W : World) (hb : Below w0.heap.size w0 W) => (⟨⟨ht.1.1.next hb, ht.1.2.next hb⟩, ht.2.next hb⟩ : (Env W ∧ EnvS W) ∧ EnvT W))
  have LA := hideL (fun (W : World) (hb : Below w0.heap.size w0 W) => awakeA_any W (LT.out W hb))
  have hb1 := (Below.refl w0.heap.size w0).alloc (Nat.le_refl _) (anC c (.slice ha hn hc) (.slice ba bn bc))
  have hX := (ABox.new w0 c (.slice ha hn hc) (.slice ba bn bc)).next ((Below.refl _ _).alloc (Nat.le_refl _) (anC d (.slice ka kn kc) (.slice la ln lc)))
  have hY := ABox.new (w0.alloc (anC c (.slice ha hn hc) (.slice ba bn bc))) d (.slice ka kn kc) (.slice la ln lc)
  rw [World.size_alloc] at hY
  have hb2 := (Below.refl (w0.alloc (anC c (.slice ha hn hc) (.slice ba bn bc))).heap.size (w0.alloc (anC c (.slice ha hn hc) (.slice ba bn bc)))).alloc (Nat.le_refl _) (anC d (.slice ka kn kc) (.slice la ln lc))
  have HX := hideL hX
  have HY := hideL hY
  have HB1 := hideL (hb1.trans (hb2.mono hb1.size))
  have LL1 := fun (W : World) (hb : Below w0.heap.size w0 W) => along_any c ha hn hc ba bn bc x.heads W (h1.2.1.below hb)
  have LL2 := fun (W : World) (hb : Below w0.heap.size w0 W) => along_any d ka kn kc la ln lc y.heads W (h2.2.1.below hb)
  have x0 := HX.out.c0
  have x1 := HX.out.c1
  have x2 := HX.out.c2
  have y0 := HY.out.c0
  have y1 := HY.out.c1
  have y2 := HY.out.c2
  rw [g1] at LL1
  rw [g2] at LL2
  have LL1 := hideL LL1
  have LL2 := hideL LL2
  clear h1 h2 ht hb1 hb2 hX hY g1 g2
  go_enter Tryz.func6, Tryz.ntmps6
  go_wp2_with (first
    | (go_at_call 23; (with_reducible refine (LL1.out _ HB1.out).mono ?_); rintro e w2 ⟨rfl, hB⟩
       clear x0 x1 x2 y0 y1 y2
       have HX := hideL (HX.out.next hB)
       have HY := hideL (HY.out.next hB)
       have x0 := HX.out.c0
       have x1 := HX.out.c1
       have x2 := HX.out.c2
       have y0 := HY.out.c0
       have y1 := HY.out.c1
       have y2 := HY.out.c2
       have HB2 := hideL (HB1.out.trans (hB.mono HB1.out.size))
       clear hB)
    | (go_at_call 23; (with_reducible refine (LL2.out _ HB2.out).mono ?_); rintro e w3 ⟨rfl, hB⟩
       clear x0 x1 x2 y0 y1 y2
       have HX := hideL (HX.out.next hB)
       have HY := hideL (HY.out.next hB)
       have x0 := HX.out.c0
       have x1 := HX.out.c1
       have x2 := HX.out.c2
       have y0 := HY.out.c0
       have y1 := HY.out.c1
       have y2 := HY.out.c2
       have HB3 := hideL (HB2.out.trans (hB.mono HB2.out.size))
       clear hB)
    | (go_at_call 24; (with_reducible refine (LA.out _ HB3.out).mono ?_); rintro e w99 ⟨rfl, hB⟩
       have HB99 := hideL (HB3.out.trans (hB.mono HB3.out.size))
       clear hB))
  go_ret
  exact ⟨rfl, HB99.out⟩
set_option maxRecDepth 100000 in
set_option maxHeartbeats 4000000 in
theorem amayl_3 (c : Int) (ha : Option Addr) (hn hc : Nat) (ba : Option Addr) (bn bc : Nat) (d : Int) (ka : Option Addr) (kn kc : Nat) (la : Option Addr) (ln lc : Nat) (x y : An) (w0 : World) (h1 : AnsAt w0 ⟨c, ⟨ha, hn, hc⟩, ⟨ba, bn, bc⟩⟩ x) (h2 : AnsAt w0 ⟨d, ⟨ka, kn, kc⟩, ⟨la, ln, lc⟩⟩ y) (ht : (Env w0 ∧ EnvS w0) ∧ EnvT w0) (g1 : lngA bn x.heads = false) (g2 : lngA ln y.heads = false) (gM : mayAB x = true) (gE : x = y) :
    Calls Tryz.prog 6 #[.agg #[.int .i64 c, .slice ha hn hc, .slice ba bn bc], .agg #[.int .i64 d, .slice ka kn kc, .slice la ln lc]] w0 fun e w' => e = .returned (.bool true) ∧ Below w0.heap.size w0 w' := by
  have LT := hideL (fun (W : World) (hb : Below w0.heap.size w0 W) => (⟨⟨ht.1.1.next hb, ht.1.2.next hb⟩, ht.2.next hb⟩ : (Env W ∧ EnvS W) ∧ EnvT W))
  have LA := hideL (fun (W : World) (hb : Below w0.heap.size w0 W) => awakeA_any W (LT.out W hb))
  have hb1 := (Below.refl w0.heap.size w0).alloc (Nat.le_refl _) (anC c (.slice ha hn hc) (.slice ba bn bc))
  have hX := (ABox.new w0 c (.slice ha hn hc) (.slice ba bn bc)).next ((Below.refl _ _).alloc (Nat.le_refl _) (anC d (.slice ka kn kc) (.slice la ln lc)))
  have hY := ABox.new (w0.alloc (anC c (.slice ha hn hc) (.slice ba bn bc))) d (.slice ka kn kc) (.slice la ln lc)
  rw [World.size_alloc] at hY
  have hb2 := (Below.refl (w0.alloc (anC c (.slice ha hn hc) (.slice ba bn bc))).heap.size (w0.alloc (anC c (.slice ha hn hc) (.slice ba bn bc)))).alloc (Nat.le_refl _) (anC d (.slice ka kn kc) (.slice la ln lc))
  have HX := hideL hX
  have HY := hideL hY
  have HB1 := hideL (hb1.trans (hb2.mono hb1.size))
  have LL1 := fun (W : World) (hb : Below w0.heap.size w0 W) => along_any c ha hn hc ba bn bc x.heads W (h1.2.1.below hb)
  have LL2 := fun (W : World) (hb : Below w0.heap.size w0 W) => along_any d ka kn kc la ln lc y.heads W (h2.2.1.below hb)
  have x0 := HX.out.c0
  have x1 := HX.out.c1
  have x2 := HX.out.c2
  have y0 := HY.out.c0
  have y1 := HY.out.c1
  have y2 := HY.out.c2
  rw [g1] at LL1
  rw [g2] at LL2
  have LL1 := hideL LL1
  have LL2 := hideL LL2
  have f1 := longP_fits (lngA_no g1).2
  have e1 := (longP_no (lngA_no g1).2).1
  have e2 := (longP_no (lngA_no g2).2).1
  have LM := fun (W : World) (hb : Below w0.heap.size w0 W) => amay_any c ha hn hc ba bn bc x W (h1.below hb) f1 (by omega) (LT.out W hb).1.1 (LT.out W hb).2
  have LRM := fun (W : World) (hb : Below w0.heap.size w0 W) => rmayA_any c ha hn hc ba bn bc x W (h1.below hb) f1 (by omega)
  rw [gM] at LM LRM
  have LM := hideL LM
  have LRM := hideL LRM
  have LS := hideL (fun (W : World) (hb : Below w0.heap.size w0 W) => psameA c d ha hn hc ba bn bc ka kn kc la ln lc x y W (h1.below hb) (h2.below hb) (by omega))
  have LRS := hideL (fun (W : World) (hb : Below w0.heap.size w0 W) => rsameA c d ha hn hc ba bn bc ka kn kc la ln lc x y W (h1.below hb) (h2.below hb) (by omega))
  have LP := fun (W : World) => reason_any c W
  have LR := fun (W : World) => rreason_any c W
  obtain ⟨T, hT⟩ : ∃ t, bo (reaP c) = t := ⟨_, rfl⟩
  rw [hT] at LP LR
  have LP := hideL LP
  have LR := hideL LR
  have GE := hideL gE
  have LBY := hideL (fun (W : World) (hb : Below w0.heap.size w0 W) => abyt_okC gM c ha hn hc ba bn bc W (h1.below hb) (LT.out W hb).1.1 (LT.out W hb).2)
  have hcb : codB x.code = true := by unfold mayAB at gM; rw [Bool.and_eq_true] at gM; exact gM.1
  have hcc : c = x.code := h1.1
  have hnn := code_nat hcb
  obtain ⟨n, hn0⟩ : ∃ n : Nat, c = (n : Int) := ⟨x.code.toNat, by omega⟩
  have e0 : (n : Int) = x.code := by omega
  have LST := hideL (fun (W : World) => rstart_any n (by rw [e0]; exact hcb) W)
  have LW := hideL (fun (W : World) (hb : Below w0.heap.size w0 W) => rwr_ok gM e0 ha hn hc ba bn bc W (h1.2.1.below hb) (h1.2.2.below hb))
  obtain ⟨Y, hY0⟩ : ∃ y, wrtP (rawA x) = y := ⟨_, rfl⟩
  rw [hY0] at LBY LW
  clear hcb hcc hnn e0 hY0
  subst hn0
  clear h1 h2 ht hb1 hb2 hX hY g1 g2 f1 e1 e2 gM gE hT
  go_enter Tryz.func6, Tryz.ntmps6
  go_wp2_with (first
    | (go_at_call 23; (with_reducible refine (LL1.out _ HB1.out).mono ?_); rintro e w2 ⟨rfl, hB⟩
       clear x0 x1 x2 y0 y1 y2
       have HX := hideL (HX.out.next hB)
       have HY := hideL (HY.out.next hB)
       have x0 := HX.out.c0
       have x1 := HX.out.c1
       have x2 := HX.out.c2
       have y0 := HY.out.c0
       have y1 := HY.out.c1
       have y2 := HY.out.c2
       have HB2 := hideL (HB1.out.trans (hB.mono HB1.out.size))
       clear hB)
    | (go_at_call 23; (with_reducible refine (LL2.out _ HB2.out).mono ?_); rintro e w3 ⟨rfl, hB⟩
       clear x0 x1 x2 y0 y1 y2
       have HX := hideL (HX.out.next hB)
       have HY := hideL (HY.out.next hB)
       have x0 := HX.out.c0
       have x1 := HX.out.c1
       have x2 := HX.out.c2
       have y0 := HY.out.c0
       have y1 := HY.out.c1
       have y2 := HY.out.c2
       have HB3 := hideL (HB2.out.trans (hB.mono HB2.out.size))
       clear hB))
  have hdr := (Below.refl w3.heap.size w3).drew
  have HX5 := hideL (HX.out.next hdr)
  have HY5 := hideL (HY.out.next hdr)
  have HB5 := hideL (HB3.out.trans (hdr.mono HB3.out.size))
  clear hdr HX HY x0 x1 x2 y0 y1 y2
  refine wp_region_held_drew (S := fun w' => ABox w' w0.heap.size (n : Int) (.slice ha hn hc) (.slice ba bn bc) ∧ ABox w' (w0.heap.size + 1) d (.slice ka kn kc) (.slice la ln lc)) (by kernel_rfl) ⟨HX5.out, HY5.out⟩ (fun hHeld => ?_)
  refine tm 0 (v := ?_) rfl hHeld ?_ ?_
  rotate_left
  · intro w hSw; (try dsimp only at hSw); have p0 := hSw.1.c0; have p1 := hSw.1.c1; have p2 := hSw.1.c2; have r0 := hSw.2.c0; have r1 := hSw.2.c1; have r2 := hSw.2.c2; go_simp; first | done | with_reducible rfl
  try simp only [pA, pB, pC, pD]
  refine tm 2 (v := ?_) rfl hHeld ?_ ?_
  rotate_left
  · intro w hSw; (try dsimp only at hSw); have p0 := hSw.1.c0; have p1 := hSw.1.c1; have p2 := hSw.1.c2; have r0 := hSw.2.c0; have r1 := hSw.2.c1; have r2 := hSw.2.c2; go_simp; first | done | with_reducible rfl
  try simp only [pA, pB, pC, pD]
  refine wpAnyH_ready (rs := [1]) (by kernel_rfl) (by simp) ?_
  refine aC rfl (fun K hK => ?_)
  clear hHeld
  go_simp
  (with_reducible refine (LM.out _ HB5.out).mono ?_)
  rintro e w6 ⟨rfl, hB⟩
  have HX6 := hideL (HX5.out.next hB)
  have HY6 := hideL (HY5.out.next hB)
  have HB6 := hideL (HB5.out.trans (hB.mono HB5.out.size))
  clear hB
  refine hK.out _ _ (⟨HX6.out, HY6.out⟩) (fun hHeld => ?_)
  clear hK K
  try simp only [pA, pB, pC, pD]
  refine wpAnyH_ready (rs := [3]) (by kernel_rfl) (by simp) ?_
  refine aC rfl (fun K hK => ?_)
  clear hHeld
  go_simp
  (with_reducible refine (LRM.out _ HB6.out).mono ?_)
  rintro e w7 ⟨rfl, hB⟩
  have HX7 := hideL (HX6.out.next hB)
  have HY7 := hideL (HY6.out.next hB)
  have HB7 := hideL (HB6.out.trans (hB.mono HB6.out.size))
  clear hB
  refine hK.out _ _ (⟨HX7.out, HY7.out⟩) (fun hHeld => ?_)
  clear hK K
  try simp only [pA, pB, pC, pD]
  refine tl 4 rfl hHeld ?_
  try simp only [pA, pB, pC, pD]
  refine tl 5 rfl hHeld ?_
  try simp only [pA, pB, pC, pD]
  refine tl 6 rfl hHeld ?_
  try simp only [pA, pB, pC, pD]
  refine tm 7 (v := ?_) rfl hHeld ?_ ?_
  rotate_left
  · intro w hSw; (try dsimp only at hSw); have p0 := hSw.1.c0; have p1 := hSw.1.c1; have p2 := hSw.1.c2; have r0 := hSw.2.c0; have r1 := hSw.2.c1; have r2 := hSw.2.c2; go_simp; first | done | with_reducible rfl
  try simp only [pA, pB, pC, pD]
  refine tl 9 rfl hHeld ?_
  try simp only [pA, pB, pC, pD]
  refine tm 10 (v := ?_) rfl hHeld ?_ ?_
  rotate_left
  · intro w hSw; (try dsimp only at hSw); have p0 := hSw.1.c0; have p1 := hSw.1.c1; have p2 := hSw.1.c2; have r0 := hSw.2.c0; have r1 := hSw.2.c1; have r2 := hSw.2.c2; go_simp; first | done | with_reducible rfl
  try simp only [pA, pB, pC, pD]
  refine wpAnyH_ready (rs := [8]) (by kernel_rfl) (by simp) ?_
  refine aC rfl (fun K hK => ?_)
  clear hHeld
  go_simp
  (with_reducible refine (LP.out _).mono ?_)
  rintro e w8 ⟨rfl, hw⟩
  rw [hw]
  clear hw w8
  refine hK.out _ _ (⟨HX7.out, HY7.out⟩) (fun hHeld => ?_)
  clear hK K
  try simp only [pA, pB, pC, pD]
  refine wpAnyH_ready (rs := [11]) (by kernel_rfl) (by simp) ?_
  refine aC rfl (fun K hK => ?_)
  clear hHeld
  go_simp
  (with_reducible refine (LR.out _).mono ?_)
  rintro e w8 ⟨rfl, hB⟩
  have HX8 := hideL (HX7.out.next hB)
  have HY8 := hideL (HY7.out.next hB)
  have HB8 := hideL (HB7.out.trans (hB.mono HB7.out.size))
  clear hB
  refine hK.out _ _ (⟨HX8.out, HY8.out⟩) (fun hHeld => ?_)
  clear hK K
  try simp only [pA, pB, pC, pD]
  refine tl 12 rfl hHeld ?_
  try simp only [pA, pB, pC, pD]
  refine tl 13 rfl hHeld ?_
  try simp only [pA, pB, pC, pD]
  refine tl 14 rfl hHeld ?_
  try simp only [pA, pB, pC, pD]
  refine tm 15 (v := ?_) rfl hHeld ?_ ?_
  rotate_left
  · intro w hSw; (try dsimp only at hSw); have p0 := hSw.1.c0; have p1 := hSw.1.c1; have p2 := hSw.1.c2; have r0 := hSw.2.c0; have r1 := hSw.2.c1; have r2 := hSw.2.c2; go_simp; first | done | with_reducible rfl
  try simp only [pA, pB, pC, pD]
  refine tm 16 (v := ?_) rfl hHeld ?_ ?_
  rotate_left
  · intro w hSw; (try dsimp only at hSw); have p0 := hSw.1.c0; have p1 := hSw.1.c1; have p2 := hSw.1.c2; have r0 := hSw.2.c0; have r1 := hSw.2.c1; have r2 := hSw.2.c2; go_simp; first | done | with_reducible rfl
  try simp only [pA, pB, pC, pD]
  refine tm 18 (v := ?_) rfl hHeld ?_ ?_
  rotate_left
  · intro w hSw; (try dsimp only at hSw); have p0 := hSw.1.c0; have p1 := hSw.1.c1; have p2 := hSw.1.c2; have r0 := hSw.2.c0; have r1 := hSw.2.c1; have r2 := hSw.2.c2; go_simp; first | done | with_reducible rfl
  try simp only [pA, pB, pC, pD]
  refine tm 19 (v := ?_) rfl hHeld ?_ ?_
  rotate_left
  · intro w hSw; (try dsimp only at hSw); have p0 := hSw.1.c0; have p1 := hSw.1.c1; have p2 := hSw.1.c2; have r0 := hSw.2.c0; have r1 := hSw.2.c1; have r2 := hSw.2.c2; go_simp; first | done | with_reducible rfl
  try simp only [pA, pB, pC, pD]
  refine wpAnyH_ready (rs := [17]) (by kernel_rfl) (by simp) ?_
  refine aC rfl (fun K hK => ?_)
  clear hHeld
  go_simp
  (with_reducible refine (LS.out _ HB8.out).mono ?_)
  rintro e w9 ⟨⟨zz, rfl, hzz⟩, hB⟩
  obtain rfl : zz = true := hzz.2 GE.out
  clear hzz
  have HX9 := hideL (HX8.out.next hB)
  have HY9 := hideL (HY8.out.next hB)
  have HB9 := hideL (HB8.out.trans (hB.mono HB8.out.size))
  clear hB
  refine hK.out _ _ (⟨HX9.out, HY9.out⟩) (fun hHeld => ?_)
  clear hK K
  try simp only [pA, pB, pC, pD]
  refine wpAnyH_ready (rs := [20]) (by kernel_rfl) (by simp) ?_
  refine aC rfl (fun K hK => ?_)
  clear hHeld
  go_simp
  (with_reducible refine (LRS.out _ HB9.out).mono ?_)
  rintro e w10 ⟨⟨zz, rfl, hzz⟩, hB⟩
  obtain rfl : zz = true := hzz.2 GE.out
  clear hzz
  have HX10 := hideL (HX9.out.next hB)
  have HY10 := hideL (HY9.out.next hB)
  have HB10 := hideL (HB9.out.trans (hB.mono HB9.out.size))
  clear hB
  refine hK.out _ _ (⟨HX10.out, HY10.out⟩) (fun hHeld => ?_)
  clear hK K
  try simp only [pA, pB, pC, pD]
  refine tl 21 rfl hHeld ?_
  try simp only [pA, pB, pC, pD]
  refine tl 22 rfl hHeld ?_
  try simp only [pA, pB, pC, pD]
  refine wpAnyH_done (by kernel_rfl) ?_ _
  clear hHeld
  have HX := HX10
  have HY := HY10
  clear HX5 HX6 HX7 HX8 HX9 HX10 HY5 HY6 HY7 HY8 HY9 HY10
  have x0 := HX.out.c0
  have x1 := HX.out.c1
  have x2 := HX.out.c2
  have y0 := HY.out.c0
  have y1 := HY.out.c1
  have y2 := HY.out.c2
  go_wp2_with (first
    | (go_at_call 31; (with_reducible refine (LBY.out _ HB10.out).mono ?_); rintro e w11 ⟨⟨a6, n6, c6, rfl, hg⟩, hB⟩
       clear x0 x1 x2 y0 y1 y2
       have HX := hideL (HX.out.next hB)
       have HY := hideL (HY.out.next hB)
       have x0 := HX.out.c0
       have x1 := HX.out.c1
       have x2 := HX.out.c2
       have y0 := HY.out.c0
       have y1 := HY.out.c1
       have y2 := HY.out.c2
       have HB11 := hideL (HB10.out.trans (hB.mono HB10.out.size))
       have HG6 := hideL hg
       clear hg
       clear hB)
    | (go_at_call 26; (with_reducible refine (LRM.out _ HB11.out).mono ?_); rintro e w12 ⟨rfl, hB⟩
       clear x0 x1 x2 y0 y1 y2
       have HX := hideL (HX.out.next hB)
       have HY := hideL (HY.out.next hB)
       have x0 := HX.out.c0
       have x1 := HX.out.c1
       have x2 := HX.out.c2
       have y0 := HY.out.c0
       have y1 := HY.out.c1
       have y2 := HY.out.c2
       have HB12 := hideL (HB11.out.trans (hB.mono HB11.out.size))
       have HG7 := hideL (HG6.out.below hB)
       clear hB))
  have hdr := (Below.refl w12.heap.size w12).drew
  have HX5 := hideL (HX.out.next hdr)
  have HB13 := hideL (HB12.out.trans (hdr.mono HB12.out.size))
  have HG8 := hideL (HG7.out.below hdr)
  clear hdr HX HY x0 x1 x2 y0 y1 y2 HG6 HG7
  refine wp_region_held_drew (S := fun w' => ABox w' w0.heap.size (n : Int) (.slice ha hn hc) (.slice ba bn bc)) (by kernel_rfl) HX5.out (fun hHeld => ?_)
  refine tl 0 rfl hHeld ?_
  try simp only [pA, pB, pC, pD]
  refine tm 1 (v := ?_) rfl hHeld ?_ ?_
  rotate_left
  · intro w hSw; (try dsimp only at hSw); have p0 := hSw.c0; have p1 := hSw.c1; have p2 := hSw.c2; go_simp; first | done | with_reducible rfl
  try simp only [pA, pB, pC, pD]
  refine tl 3 rfl hHeld ?_
  try simp only [pA, pB, pC, pD]
  refine tm 4 (v := ?_) rfl hHeld ?_ ?_
  rotate_left
  · intro w hSw; (try dsimp only at hSw); have p0 := hSw.c0; have p1 := hSw.c1; have p2 := hSw.c2; go_simp; first | done | with_reducible rfl
  try simp only [pA, pB, pC, pD]
  refine tl 5 rfl hHeld ?_
  try simp only [pA, pB, pC, pD]
  refine tm 6 (v := ?_) rfl hHeld ?_ ?_
  rotate_left
  · intro w hSw; (try dsimp only at hSw); have p0 := hSw.c0; have p1 := hSw.c1; have p2 := hSw.c2; go_simp; first | done | with_reducible rfl
  try simp only [pA, pB, pC, pD]
  refine wpAnyH_ready (rs := [2]) (by kernel_rfl) (by simp) ?_
  refine aC rfl (fun K hK => ?_)
  clear hHeld
  go_simp
  (with_reducible refine (LST.out _).mono ?_)
  rintro e w14 ⟨rfl, hB⟩
  have HX6 := hideL (HX5.out.next hB)
  have HB14 := hideL (HB13.out.trans (hB.mono HB13.out.size))
  have HG9 := hideL (HG8.out.below hB)
  clear hB
  refine hK.out _ _ (HX6.out) (fun hHeld => ?_)
  clear hK K
  try simp only [pA, pB, pC, pD]
  refine tl 7 rfl hHeld ?_
  try simp only [pA, pB, pC, pD]
  refine wpAnyH_ready (rs := [8]) (by kernel_rfl) (by simp) ?_
  refine aC rfl (fun K hK => ?_)
  clear hHeld
  go_simp
  (with_reducible refine (LW.out _ HB14.out).mono ?_)
  rintro e w15 ⟨⟨a7, n7, c7, rfl, hg⟩, hB⟩
  have HX7 := hideL (HX6.out.next hB)
  have HB15 := hideL (HB14.out.trans (hB.mono HB14.out.size))
  have k6 := to_strA w15 a6 n6 c6 Y (HG9.out.below hB)
  have k7 := to_strA w15 a7 n7 c7 Y hg
  clear hB hg
  refine hK.out _ _ (HX7.out) (fun hHeld => ?_)
  clear hK K
  try simp only [pA, pB, pC, pD]
  refine tl 9 rfl hHeld ?_
  try simp only [pA, pB, pC, pD]
  refine tl 10 rfl hHeld ?_
  try simp only [pA, pB, pC, pD]
  refine tl 11 rfl hHeld ?_
  try simp only [pA, pB, pC, pD]
  refine tl 12 rfl hHeld ?_
  try simp only [pA, pB, pC, pD]
  refine tl 13 rfl hHeld ?_
  try simp only [pA, pB, pC, pD]
  refine wpAnyH_done (by kernel_rfl) ?_ _
  clear hHeld
  go_wp2_with (first
    | (go_at_call 24; (with_reducible refine (LA.out _ HB15.out).mono ?_); rintro e w99 ⟨rfl, hB⟩
       have HB99 := hideL (HB15.out.trans (hB.mono HB15.out.size))
       clear hB))
  go_ret
  exact ⟨rfl, HB99.out⟩
set_option maxRecDepth 100000 in
set_option maxHeartbeats 4000000 in
theorem amayl_4 (c : Int) (ha : Option Addr) (hn hc : Nat) (ba : Option Addr) (bn bc : Nat) (d : Int) (ka : Option Addr) (kn kc : Nat) (la : Option Addr) (ln lc : Nat) (x y : An) (w0 : World) (h1 : AnsAt w0 ⟨c, ⟨ha, hn, hc⟩, ⟨ba, bn, bc⟩⟩ x) (h2 : AnsAt w0 ⟨d, ⟨ka, kn, kc⟩, ⟨la, ln, lc⟩⟩ y) (ht : (Env w0 ∧ EnvS w0) ∧ EnvT w0) (g1 : lngA bn x.heads = false) (g2 : lngA ln y.heads = false) (gM : mayAB x = true) (gE : x ≠ y) :
    Calls Tryz.prog 6 #[.agg #[.int .i64 c, .slice ha hn hc, .slice ba bn bc], .agg #[.int .i64 d, .slice ka kn kc, .slice la ln lc]] w0 fun e w' => e = .returned (.bool true) ∧ Below w0.heap.size w0 w' := by
  have LT := hideL (fun (W : World) (hb : Below w0.heap.size w0 W) => (⟨⟨ht.1.1.next hb, ht.1.2.next hb⟩, ht.2.next hb⟩ : (Env W ∧ EnvS W) ∧ EnvT W))
  have LA := hideL (fun (W : World) (hb : Below w0.heap.size w0 W) => awakeA_any W (LT.out W hb))
  have hb1 := (Below.refl w0.heap.size w0).alloc (Nat.le_refl _) (anC c (.slice ha hn hc) (.slice ba bn bc))
  have hX := (ABox.new w0 c (.slice ha hn hc) (.slice ba bn bc)).next ((Below.refl _ _).alloc (Nat.le_refl _) (anC d (.slice ka kn kc) (.slice la ln lc)))
  have hY := ABox.new (w0.alloc (anC c (.slice ha hn hc) (.slice ba bn bc))) d (.slice ka kn kc) (.slice la ln lc)
  rw [World.size_alloc] at hY
  have hb2 := (Below.refl (w0.alloc (anC c (.slice ha hn hc) (.slice ba bn bc))).heap.size (w0.alloc (anC c (.slice ha hn hc) (.slice ba bn bc)))).alloc (Nat.le_refl _) (anC d (.slice ka kn kc) (.slice la ln lc))
  have HX := hideL hX
  have HY := hideL hY
  have HB1 := hideL (hb1.trans (hb2.mono hb1.size))
  have LL1 := fun (W : World) (hb : Below w0.heap.size w0 W) => along_any c ha hn hc ba bn bc x.heads W (h1.2.1.below hb)
  have LL2 := fun (W : World) (hb : Below w0.heap.size w0 W) => along_any d ka kn kc la ln lc y.heads W (h2.2.1.below hb)
  have x0 := HX.out.c0
  have x1 := HX.out.c1
  have x2 := HX.out.c2
  have y0 := HY.out.c0
  have y1 := HY.out.c1
  have y2 := HY.out.c2
  rw [g1] at LL1
  rw [g2] at LL2
  have LL1 := hideL LL1
  have LL2 := hideL LL2
  have f1 := longP_fits (lngA_no g1).2
  have e1 := (longP_no (lngA_no g1).2).1
  have e2 := (longP_no (lngA_no g2).2).1
  have LM := fun (W : World) (hb : Below w0.heap.size w0 W) => amay_any c ha hn hc ba bn bc x W (h1.below hb) f1 (by omega) (LT.out W hb).1.1 (LT.out W hb).2
  have LRM := fun (W : World) (hb : Below w0.heap.size w0 W) => rmayA_any c ha hn hc ba bn bc x W (h1.below hb) f1 (by omega)
  rw [gM] at LM LRM
  have LM := hideL LM
  have LRM := hideL LRM
  have LS := hideL (fun (W : World) (hb : Below w0.heap.size w0 W) => psameA c d ha hn hc ba bn bc ka kn kc la ln lc x y W (h1.below hb) (h2.below hb) (by omega))
  have LRS := hideL (fun (W : World) (hb : Below w0.heap.size w0 W) => rsameA c d ha hn hc ba bn bc ka kn kc la ln lc x y W (h1.below hb) (h2.below hb) (by omega))
  have LP := fun (W : World) => reason_any c W
  have LR := fun (W : World) => rreason_any c W
  obtain ⟨T, hT⟩ : ∃ t, bo (reaP c) = t := ⟨_, rfl⟩
  rw [hT] at LP LR
  have LP := hideL LP
  have LR := hideL LR
  have GE := hideL gE
  have LBY := hideL (fun (W : World) (hb : Below w0.heap.size w0 W) => abyt_okC gM c ha hn hc ba bn bc W (h1.below hb) (LT.out W hb).1.1 (LT.out W hb).2)
  have hcb : codB x.code = true := by unfold mayAB at gM; rw [Bool.and_eq_true] at gM; exact gM.1
  have hcc : c = x.code := h1.1
  have hnn := code_nat hcb
  obtain ⟨n, hn0⟩ : ∃ n : Nat, c = (n : Int) := ⟨x.code.toNat, by omega⟩
  have e0 : (n : Int) = x.code := by omega
  have LST := hideL (fun (W : World) => rstart_any n (by rw [e0]; exact hcb) W)
  have LW := hideL (fun (W : World) (hb : Below w0.heap.size w0 W) => rwr_ok gM e0 ha hn hc ba bn bc W (h1.2.1.below hb) (h1.2.2.below hb))
  obtain ⟨Y, hY0⟩ : ∃ y, wrtP (rawA x) = y := ⟨_, rfl⟩
  rw [hY0] at LBY LW
  clear hcb hcc hnn e0 hY0
  subst hn0
  clear h1 h2 ht hb1 hb2 hX hY g1 g2 f1 e1 e2 gM gE hT
  go_enter Tryz.func6, Tryz.ntmps6
  go_wp2_with (first
    | (go_at_call 23; (with_reducible refine (LL1.out _ HB1.out).mono ?_); rintro e w2 ⟨rfl, hB⟩
       clear x0 x1 x2 y0 y1 y2
       have HX := hideL (HX.out.next hB)
       have HY := hideL (HY.out.next hB)
       have x0 := HX.out.c0
       have x1 := HX.out.c1
       have x2 := HX.out.c2
       have y0 := HY.out.c0
       have y1 := HY.out.c1
       have y2 := HY.out.c2
       have HB2 := hideL (HB1.out.trans (hB.mono HB1.out.size))
       clear hB)
    | (go_at_call 23; (with_reducible refine (LL2.out _ HB2.out).mono ?_); rintro e w3 ⟨rfl, hB⟩
       clear x0 x1 x2 y0 y1 y2
       have HX := hideL (HX.out.next hB)
       have HY := hideL (HY.out.next hB)
       have x0 := HX.out.c0
       have x1 := HX.out.c1
       have x2 := HX.out.c2
       have y0 := HY.out.c0
       have y1 := HY.out.c1
       have y2 := HY.out.c2
       have HB3 := hideL (HB2.out.trans (hB.mono HB2.out.size))
       clear hB))
  have hdr := (Below.refl w3.heap.size w3).drew
  have HX5 := hideL (HX.out.next hdr)
  have HY5 := hideL (HY.out.next hdr)
  have HB5 := hideL (HB3.out.trans (hdr.mono HB3.out.size))
  clear hdr HX HY x0 x1 x2 y0 y1 y2
  refine wp_region_held_drew (S := fun w' => ABox w' w0.heap.size (n : Int) (.slice ha hn hc) (.slice ba bn bc) ∧ ABox w' (w0.heap.size + 1) d (.slice ka kn kc) (.slice la ln lc)) (by kernel_rfl) ⟨HX5.out, HY5.out⟩ (fun hHeld => ?_)
  refine tm 0 (v := ?_) rfl hHeld ?_ ?_
  rotate_left
  · intro w hSw; (try dsimp only at hSw); have p0 := hSw.1.c0; have p1 := hSw.1.c1; have p2 := hSw.1.c2; have r0 := hSw.2.c0; have r1 := hSw.2.c1; have r2 := hSw.2.c2; go_simp; first | done | with_reducible rfl
  try simp only [pA, pB, pC, pD]
  refine tm 2 (v := ?_) rfl hHeld ?_ ?_
  rotate_left
  · intro w hSw; (try dsimp only at hSw); have p0 := hSw.1.c0; have p1 := hSw.1.c1; have p2 := hSw.1.c2; have r0 := hSw.2.c0; have r1 := hSw.2.c1; have r2 := hSw.2.c2; go_simp; first | done | with_reducible rfl
  try simp only [pA, pB, pC, pD]
  refine wpAnyH_ready (rs := [1]) (by kernel_rfl) (by simp) ?_
  refine aC rfl (fun K hK => ?_)
  clear hHeld
  go_simp
  (with_reducible refine (LM.out _ HB5.out).mono ?_)
  rintro e w6 ⟨rfl, hB⟩
  have HX6 := hideL (HX5.out.next hB)
  have HY6 := hideL (HY5.out.next hB)
  have HB6 := hideL (HB5.out.trans (hB.mono HB5.out.size))
  clear hB
  refine hK.out _ _ (⟨HX6.out, HY6.out⟩) (fun hHeld => ?_)
  clear hK K
  try simp only [pA, pB, pC, pD]
  refine wpAnyH_ready (rs := [3]) (by kernel_rfl) (by simp) ?_
  refine aC rfl (fun K hK => ?_)
  clear hHeld
  go_simp
  (with_reducible refine (LRM.out _ HB6.out).mono ?_)
  rintro e w7 ⟨rfl, hB⟩
  have HX7 := hideL (HX6.out.next hB)
  have HY7 := hideL (HY6.out.next hB)
  have HB7 := hideL (HB6.out.trans (hB.mono HB6.out.size))
  clear hB
  refine hK.out _ _ (⟨HX7.out, HY7.out⟩) (fun hHeld => ?_)
  clear hK K
  try simp only [pA, pB, pC, pD]
  refine tl 4 rfl hHeld ?_
  try simp only [pA, pB, pC, pD]
  refine tl 5 rfl hHeld ?_
  try simp only [pA, pB, pC, pD]
  refine tl 6 rfl hHeld ?_
  try simp only [pA, pB, pC, pD]
  refine tm 7 (v := ?_) rfl hHeld ?_ ?_
  rotate_left
  · intro w hSw; (try dsimp only at hSw); have p0 := hSw.1.c0; have p1 := hSw.1.c1; have p2 := hSw.1.c2; have r0 := hSw.2.c0; have r1 := hSw.2.c1; have r2 := hSw.2.c2; go_simp; first | done | with_reducible rfl
  try simp only [pA, pB, pC, pD]
  refine tl 9 rfl hHeld ?_
  try simp only [pA, pB, pC, pD]
  refine tm 10 (v := ?_) rfl hHeld ?_ ?_
  rotate_left
  · intro w hSw; (try dsimp only at hSw); have p0 := hSw.1.c0; have p1 := hSw.1.c1; have p2 := hSw.1.c2; have r0 := hSw.2.c0; have r1 := hSw.2.c1; have r2 := hSw.2.c2; go_simp; first | done | with_reducible rfl
  try simp only [pA, pB, pC, pD]
  refine wpAnyH_ready (rs := [8]) (by kernel_rfl) (by simp) ?_
  refine aC rfl (fun K hK => ?_)
  clear hHeld
  go_simp
  (with_reducible refine (LP.out _).mono ?_)
  rintro e w8 ⟨rfl, hw⟩
  rw [hw]
  clear hw w8
  refine hK.out _ _ (⟨HX7.out, HY7.out⟩) (fun hHeld => ?_)
  clear hK K
  try simp only [pA, pB, pC, pD]
  refine wpAnyH_ready (rs := [11]) (by kernel_rfl) (by simp) ?_
  refine aC rfl (fun K hK => ?_)
  clear hHeld
  go_simp
  (with_reducible refine (LR.out _).mono ?_)
  rintro e w8 ⟨rfl, hB⟩
  have HX8 := hideL (HX7.out.next hB)
  have HY8 := hideL (HY7.out.next hB)
  have HB8 := hideL (HB7.out.trans (hB.mono HB7.out.size))
  clear hB
  refine hK.out _ _ (⟨HX8.out, HY8.out⟩) (fun hHeld => ?_)
  clear hK K
  try simp only [pA, pB, pC, pD]
  refine tl 12 rfl hHeld ?_
  try simp only [pA, pB, pC, pD]
  refine tl 13 rfl hHeld ?_
  try simp only [pA, pB, pC, pD]
  refine tl 14 rfl hHeld ?_
  try simp only [pA, pB, pC, pD]
  refine tm 15 (v := ?_) rfl hHeld ?_ ?_
  rotate_left
  · intro w hSw; (try dsimp only at hSw); have p0 := hSw.1.c0; have p1 := hSw.1.c1; have p2 := hSw.1.c2; have r0 := hSw.2.c0; have r1 := hSw.2.c1; have r2 := hSw.2.c2; go_simp; first | done | with_reducible rfl
  try simp only [pA, pB, pC, pD]
  refine tm 16 (v := ?_) rfl hHeld ?_ ?_
  rotate_left
  · intro w hSw; (try dsimp only at hSw); have p0 := hSw.1.c0; have p1 := hSw.1.c1; have p2 := hSw.1.c2; have r0 := hSw.2.c0; have r1 := hSw.2.c1; have r2 := hSw.2.c2; go_simp; first | done | with_reducible rfl
  try simp only [pA, pB, pC, pD]
  refine tm 18 (v := ?_) rfl hHeld ?_ ?_
  rotate_left
  · intro w hSw; (try dsimp only at hSw); have p0 := hSw.1.c0; have p1 := hSw.1.c1; have p2 := hSw.1.c2; have r0 := hSw.2.c0; have r1 := hSw.2.c1; have r2 := hSw.2.c2; go_simp; first | done | with_reducible rfl
  try simp only [pA, pB, pC, pD]
  refine tm 19 (v := ?_) rfl hHeld ?_ ?_
  rotate_left
  · intro w hSw; (try dsimp only at hSw); have p0 := hSw.1.c0; have p1 := hSw.1.c1; have p2 := hSw.1.c2; have r0 := hSw.2.c0; have r1 := hSw.2.c1; have r2 := hSw.2.c2; go_simp; first | done | with_reducible rfl
  try simp only [pA, pB, pC, pD]
  refine wpAnyH_ready (rs := [17]) (by kernel_rfl) (by simp) ?_
  refine aC rfl (fun K hK => ?_)
  clear hHeld
  go_simp
  (with_reducible refine (LS.out _ HB8.out).mono ?_)
  rintro e w9 ⟨⟨zz, rfl, hzz⟩, hB⟩
  obtain rfl : zz = false := Bool.eq_false_iff.2 (fun h => GE.out (hzz.1 h))
  clear hzz
  have HX9 := hideL (HX8.out.next hB)
  have HY9 := hideL (HY8.out.next hB)
  have HB9 := hideL (HB8.out.trans (hB.mono HB8.out.size))
  clear hB
  refine hK.out _ _ (⟨HX9.out, HY9.out⟩) (fun hHeld => ?_)
  clear hK K
  try simp only [pA, pB, pC, pD]
  refine wpAnyH_ready (rs := [20]) (by kernel_rfl) (by simp) ?_
  refine aC rfl (fun K hK => ?_)
  clear hHeld
  go_simp
  (with_reducible refine (LRS.out _ HB9.out).mono ?_)
  rintro e w10 ⟨⟨zz, rfl, hzz⟩, hB⟩
  obtain rfl : zz = false := Bool.eq_false_iff.2 (fun h => GE.out (hzz.1 h))
  clear hzz
  have HX10 := hideL (HX9.out.next hB)
  have HY10 := hideL (HY9.out.next hB)
  have HB10 := hideL (HB9.out.trans (hB.mono HB9.out.size))
  clear hB
  refine hK.out _ _ (⟨HX10.out, HY10.out⟩) (fun hHeld => ?_)
  clear hK K
  try simp only [pA, pB, pC, pD]
  refine tl 21 rfl hHeld ?_
  try simp only [pA, pB, pC, pD]
  refine tl 22 rfl hHeld ?_
  try simp only [pA, pB, pC, pD]
  refine wpAnyH_done (by kernel_rfl) ?_ _
  clear hHeld
  have HX := HX10
  have HY := HY10
  clear HX5 HX6 HX7 HX8 HX9 HX10 HY5 HY6 HY7 HY8 HY9 HY10
  have x0 := HX.out.c0
  have x1 := HX.out.c1
  have x2 := HX.out.c2
  have y0 := HY.out.c0
  have y1 := HY.out.c1
  have y2 := HY.out.c2
  go_wp2_with (first
    | (go_at_call 31; (with_reducible refine (LBY.out _ HB10.out).mono ?_); rintro e w11 ⟨⟨a6, n6, c6, rfl, hg⟩, hB⟩
       clear x0 x1 x2 y0 y1 y2
       have HX := hideL (HX.out.next hB)
       have HY := hideL (HY.out.next hB)
       have x0 := HX.out.c0
       have x1 := HX.out.c1
       have x2 := HX.out.c2
       have y0 := HY.out.c0
       have y1 := HY.out.c1
       have y2 := HY.out.c2
       have HB11 := hideL (HB10.out.trans (hB.mono HB10.out.size))
       have HG6 := hideL hg
       clear hg
       clear hB)
    | (go_at_call 26; (with_reducible refine (LRM.out _ HB11.out).mono ?_); rintro e w12 ⟨rfl, hB⟩
       clear x0 x1 x2 y0 y1 y2
       have HX := hideL (HX.out.next hB)
       have HY := hideL (HY.out.next hB)
       have x0 := HX.out.c0
       have x1 := HX.out.c1
       have x2 := HX.out.c2
       have y0 := HY.out.c0
       have y1 := HY.out.c1
       have y2 := HY.out.c2
       have HB12 := hideL (HB11.out.trans (hB.mono HB11.out.size))
       have HG7 := hideL (HG6.out.below hB)
       clear hB))
  have hdr := (Below.refl w12.heap.size w12).drew
  have HX5 := hideL (HX.out.next hdr)
  have HB13 := hideL (HB12.out.trans (hdr.mono HB12.out.size))
  have HG8 := hideL (HG7.out.below hdr)
  clear hdr HX HY x0 x1 x2 y0 y1 y2 HG6 HG7
  refine wp_region_held_drew (S := fun w' => ABox w' w0.heap.size (n : Int) (.slice ha hn hc) (.slice ba bn bc)) (by kernel_rfl) HX5.out (fun hHeld => ?_)
  refine tl 0 rfl hHeld ?_
  try simp only [pA, pB, pC, pD]
  refine tm 1 (v := ?_) rfl hHeld ?_ ?_
  rotate_left
  · intro w hSw; (try dsimp only at hSw); have p0 := hSw.c0; have p1 := hSw.c1; have p2 := hSw.c2; go_simp; first | done | with_reducible rfl
  try simp only [pA, pB, pC, pD]
  refine tl 3 rfl hHeld ?_
  try simp only [pA, pB, pC, pD]
  refine tm 4 (v := ?_) rfl hHeld ?_ ?_
  rotate_left
  · intro w hSw; (try dsimp only at hSw); have p0 := hSw.c0; have p1 := hSw.c1; have p2 := hSw.c2; go_simp; first | done | with_reducible rfl
  try simp only [pA, pB, pC, pD]
  refine tl 5 rfl hHeld ?_
  try simp only [pA, pB, pC, pD]
  refine tm 6 (v := ?_) rfl hHeld ?_ ?_
  rotate_left
  · intro w hSw; (try dsimp only at hSw); have p0 := hSw.c0; have p1 := hSw.c1; have p2 := hSw.c2; go_simp; first | done | with_reducible rfl
  try simp only [pA, pB, pC, pD]
  refine wpAnyH_ready (rs := [2]) (by kernel_rfl) (by simp) ?_
  refine aC rfl (fun K hK => ?_)
  clear hHeld
  go_simp
  (with_reducible refine (LST.out _).mono ?_)
  rintro e w14 ⟨rfl, hB⟩
  have HX6 := hideL (HX5.out.next hB)
  have HB14 := hideL (HB13.out.trans (hB.mono HB13.out.size))
  have HG9 := hideL (HG8.out.below hB)
  clear hB
  refine hK.out _ _ (HX6.out) (fun hHeld => ?_)
  clear hK K
  try simp only [pA, pB, pC, pD]
  refine tl 7 rfl hHeld ?_
  try simp only [pA, pB, pC, pD]
  refine wpAnyH_ready (rs := [8]) (by kernel_rfl) (by simp) ?_
  refine aC rfl (fun K hK => ?_)
  clear hHeld
  go_simp
  (with_reducible refine (LW.out _ HB14.out).mono ?_)
  rintro e w15 ⟨⟨a7, n7, c7, rfl, hg⟩, hB⟩
  have HX7 := hideL (HX6.out.next hB)
  have HB15 := hideL (HB14.out.trans (hB.mono HB14.out.size))
  have k6 := to_strA w15 a6 n6 c6 Y (HG9.out.below hB)
  have k7 := to_strA w15 a7 n7 c7 Y hg
  clear hB hg
  refine hK.out _ _ (HX7.out) (fun hHeld => ?_)
  clear hK K
  try simp only [pA, pB, pC, pD]
  refine tl 9 rfl hHeld ?_
  try simp only [pA, pB, pC, pD]
  refine tl 10 rfl hHeld ?_
  try simp only [pA, pB, pC, pD]
  refine tl 11 rfl hHeld ?_
  try simp only [pA, pB, pC, pD]
  refine tl 12 rfl hHeld ?_
  try simp only [pA, pB, pC, pD]
  refine tl 13 rfl hHeld ?_
  try simp only [pA, pB, pC, pD]
  refine wpAnyH_done (by kernel_rfl) ?_ _
  clear hHeld
  go_wp2_with (first
    | (go_at_call 24; (with_reducible refine (LA.out _ HB15.out).mono ?_); rintro e w99 ⟨rfl, hB⟩
       have HB99 := hideL (HB15.out.trans (hB.mono HB15.out.size))
       clear hB))
  go_ret
  exact ⟨rfl, HB99.out⟩
set_option maxRecDepth 100000 in
set_option maxHeartbeats 4000000 in
theorem amayl_5 (c : Int) (ha : Option Addr) (hn hc : Nat) (ba : Option Addr) (bn bc : Nat) (d : Int) (ka : Option Addr) (kn kc : Nat) (la : Option Addr) (ln lc : Nat) (x y : An) (w0 : World) (h1 : AnsAt w0 ⟨c, ⟨ha, hn, hc⟩, ⟨ba, bn, bc⟩⟩ x) (h2 : AnsAt w0 ⟨d, ⟨ka, kn, kc⟩, ⟨la, ln, lc⟩⟩ y) (ht : (Env w0 ∧ EnvS w0) ∧ EnvT w0) (g1 : lngA bn x.heads = false) (g2 : lngA ln y.heads = false) (gM : mayAB x = false) (gE : x = y) :
    Calls Tryz.prog 6 #[.agg #[.int .i64 c, .slice ha hn hc, .slice ba bn bc], .agg #[.int .i64 d, .slice ka kn kc, .slice la ln lc]] w0 fun e w' => e = .returned (.bool true) ∧ Below w0.heap.size w0 w' := by
  have LT := hideL (fun (W : World) (hb : Below w0.heap.size w0 W) => (⟨⟨ht.1.1.next hb, ht.1.2.next hb⟩, ht.2.next hb⟩ : (Env W ∧ EnvS W) ∧ EnvT W))
  have LA := hideL (fun (W : World) (hb : Below w0.heap.size w0 W) => awakeA_any W (LT.out W hb))
  have hb1 := (Below.refl w0.heap.size w0).alloc (Nat.le_refl _) (anC c (.slice ha hn hc) (.slice ba bn bc))
  have hX := (ABox.new w0 c (.slice ha hn hc) (.slice ba bn bc)).next ((Below.refl _ _).alloc (Nat.le_refl _) (anC d (.slice ka kn kc) (.slice la ln lc)))
  have hY := ABox.new (w0.alloc (anC c (.slice ha hn hc) (.slice ba bn bc))) d (.slice ka kn kc) (.slice la ln lc)
  rw [World.size_alloc] at hY
  have hb2 := (Below.refl (w0.alloc (anC c (.slice ha hn hc) (.slice ba bn bc))).heap.size (w0.alloc (anC c (.slice ha hn hc) (.slice ba bn bc)))).alloc (Nat.le_refl _) (anC d (.slice ka kn kc) (.slice la ln lc))
  have HX := hideL hX
  have HY := hideL hY
  have HB1 := hideL (hb1.trans (hb2.mono hb1.size))
  have LL1 := fun (W : World) (hb : Below w0.heap.size w0 W) => along_any c ha hn hc ba bn bc x.heads W (h1.2.1.below hb)
  have LL2 := fun (W : World) (hb : Below w0.heap.size w0 W) => along_any d ka kn kc la ln lc y.heads W (h2.2.1.below hb)
  have x0 := HX.out.c0
  have x1 := HX.out.c1
  have x2 := HX.out.c2
  have y0 := HY.out.c0
  have y1 := HY.out.c1
  have y2 := HY.out.c2
  rw [g1] at LL1
  rw [g2] at LL2
  have LL1 := hideL LL1
  have LL2 := hideL LL2
  have f1 := longP_fits (lngA_no g1).2
  have e1 := (longP_no (lngA_no g1).2).1
  have e2 := (longP_no (lngA_no g2).2).1
  have LM := fun (W : World) (hb : Below w0.heap.size w0 W) => amay_any c ha hn hc ba bn bc x W (h1.below hb) f1 (by omega) (LT.out W hb).1.1 (LT.out W hb).2
  have LRM := fun (W : World) (hb : Below w0.heap.size w0 W) => rmayA_any c ha hn hc ba bn bc x W (h1.below hb) f1 (by omega)
  rw [gM] at LM LRM
  have LM := hideL LM
  have LRM := hideL LRM
  have LS := hideL (fun (W : World) (hb : Below w0.heap.size w0 W) => psameA c d ha hn hc ba bn bc ka kn kc la ln lc x y W (h1.below hb) (h2.below hb) (by omega))
  have LRS := hideL (fun (W : World) (hb : Below w0.heap.size w0 W) => rsameA c d ha hn hc ba bn bc ka kn kc la ln lc x y W (h1.below hb) (h2.below hb) (by omega))
  have LP := fun (W : World) => reason_any c W
  have LR := fun (W : World) => rreason_any c W
  obtain ⟨T, hT⟩ : ∃ t, bo (reaP c) = t := ⟨_, rfl⟩
  rw [hT] at LP LR
  have LP := hideL LP
  have LR := hideL LR
  have GE := hideL gE
  have LBY := hideL (fun (W : World) (hb : Below w0.heap.size w0 W) => abyt_noC gM c ha hn hc ba bn bc W (h1.below hb) f1 (by omega) (LT.out W hb).1.1 (LT.out W hb).2)
  clear h1 h2 ht hb1 hb2 hX hY g1 g2 f1 e1 e2 gM gE hT
  go_enter Tryz.func6, Tryz.ntmps6
  go_wp2_with (first
    | (go_at_call 23; (with_reducible refine (LL1.out _ HB1.out).mono ?_); rintro e w2 ⟨rfl, hB⟩
       clear x0 x1 x2 y0 y1 y2
       have HX := hideL (HX.out.next hB)
       have HY := hideL (HY.out.next hB)
       have x0 := HX.out.c0
       have x1 := HX.out.c1
       have x2 := HX.out.c2
       have y0 := HY.out.c0
       have y1 := HY.out.c1
       have y2 := HY.out.c2
       have HB2 := hideL (HB1.out.trans (hB.mono HB1.out.size))
       clear hB)
    | (go_at_call 23; (with_reducible refine (LL2.out _ HB2.out).mono ?_); rintro e w3 ⟨rfl, hB⟩
       clear x0 x1 x2 y0 y1 y2
       have HX := hideL (HX.out.next hB)
       have HY := hideL (HY.out.next hB)
       have x0 := HX.out.c0
       have x1 := HX.out.c1
       have x2 := HX.out.c2
       have y0 := HY.out.c0
       have y1 := HY.out.c1
       have y2 := HY.out.c2
       have HB3 := hideL (HB2.out.trans (hB.mono HB2.out.size))
       clear hB))
  have hdr := (Below.refl w3.heap.size w3).drew
  have HX5 := hideL (HX.out.next hdr)
  have HY5 := hideL (HY.out.next hdr)
  have HB5 := hideL (HB3.out.trans (hdr.mono HB3.out.size))
  clear hdr HX HY x0 x1 x2 y0 y1 y2
  refine wp_region_held_drew (S := fun w' => ABox w' w0.heap.size c (.slice ha hn hc) (.slice ba bn bc) ∧ ABox w' (w0.heap.size + 1) d (.slice ka kn kc) (.slice la ln lc)) (by kernel_rfl) ⟨HX5.out, HY5.out⟩ (fun hHeld => ?_)
  refine tm 0 (v := ?_) rfl hHeld ?_ ?_
  rotate_left
  · intro w hSw; (try dsimp only at hSw); have p0 := hSw.1.c0; have p1 := hSw.1.c1; have p2 := hSw.1.c2; have r0 := hSw.2.c0; have r1 := hSw.2.c1; have r2 := hSw.2.c2; go_simp; first | done | with_reducible rfl
  try simp only [pA, pB, pC, pD]
  refine tm 2 (v := ?_) rfl hHeld ?_ ?_
  rotate_left
  · intro w hSw; (try dsimp only at hSw); have p0 := hSw.1.c0; have p1 := hSw.1.c1; have p2 := hSw.1.c2; have r0 := hSw.2.c0; have r1 := hSw.2.c1; have r2 := hSw.2.c2; go_simp; first | done | with_reducible rfl
  try simp only [pA, pB, pC, pD]
  refine wpAnyH_ready (rs := [1]) (by kernel_rfl) (by simp) ?_
  refine aC rfl (fun K hK => ?_)
  clear hHeld
  go_simp
  (with_reducible refine (LM.out _ HB5.out).mono ?_)
  rintro e w6 ⟨rfl, hB⟩
  have HX6 := hideL (HX5.out.next hB)
  have HY6 := hideL (HY5.out.next hB)
  have HB6 := hideL (HB5.out.trans (hB.mono HB5.out.size))
  clear hB
  refine hK.out _ _ (⟨HX6.out, HY6.out⟩) (fun hHeld => ?_)
  clear hK K
  try simp only [pA, pB, pC, pD]
  refine wpAnyH_ready (rs := [3]) (by kernel_rfl) (by simp) ?_
  refine aC rfl (fun K hK => ?_)
  clear hHeld
  go_simp
  (with_reducible refine (LRM.out _ HB6.out).mono ?_)
  rintro e w7 ⟨rfl, hB⟩
  have HX7 := hideL (HX6.out.next hB)
  have HY7 := hideL (HY6.out.next hB)
  have HB7 := hideL (HB6.out.trans (hB.mono HB6.out.size))
  clear hB
  refine hK.out _ _ (⟨HX7.out, HY7.out⟩) (fun hHeld => ?_)
  clear hK K
  try simp only [pA, pB, pC, pD]
  refine tl 4 rfl hHeld ?_
  try simp only [pA, pB, pC, pD]
  refine tl 5 rfl hHeld ?_
  try simp only [pA, pB, pC, pD]
  refine tl 6 rfl hHeld ?_
  try simp only [pA, pB, pC, pD]
  refine tm 7 (v := ?_) rfl hHeld ?_ ?_
  rotate_left
  · intro w hSw; (try dsimp only at hSw); have p0 := hSw.1.c0; have p1 := hSw.1.c1; have p2 := hSw.1.c2; have r0 := hSw.2.c0; have r1 := hSw.2.c1; have r2 := hSw.2.c2; go_simp; first | done | with_reducible rfl
  try simp only [pA, pB, pC, pD]
  refine tl 9 rfl hHeld ?_
  try simp only [pA, pB, pC, pD]
  refine tm 10 (v := ?_) rfl hHeld ?_ ?_
  rotate_left
  · intro w hSw; (try dsimp only at hSw); have p0 := hSw.1.c0; have p1 := hSw.1.c1; have p2 := hSw.1.c2; have r0 := hSw.2.c0; have r1 := hSw.2.c1; have r2 := hSw.2.c2; go_simp; first | done | with_reducible rfl
  try simp only [pA, pB, pC, pD]
  refine wpAnyH_ready (rs := [8]) (by kernel_rfl) (by simp) ?_
  refine aC rfl (fun K hK => ?_)
  clear hHeld
  go_simp
  (with_reducible refine (LP.out _).mono ?_)
  rintro e w8 ⟨rfl, hw⟩
  rw [hw]
  clear hw w8
  refine hK.out _ _ (⟨HX7.out, HY7.out⟩) (fun hHeld => ?_)
  clear hK K
  try simp only [pA, pB, pC, pD]
  refine wpAnyH_ready (rs := [11]) (by kernel_rfl) (by simp) ?_
  refine aC rfl (fun K hK => ?_)
  clear hHeld
  go_simp
  (with_reducible refine (LR.out _).mono ?_)
  rintro e w8 ⟨rfl, hB⟩
  have HX8 := hideL (HX7.out.next hB)
  have HY8 := hideL (HY7.out.next hB)
  have HB8 := hideL (HB7.out.trans (hB.mono HB7.out.size))
  clear hB
  refine hK.out _ _ (⟨HX8.out, HY8.out⟩) (fun hHeld => ?_)
  clear hK K
  try simp only [pA, pB, pC, pD]
  refine tl 12 rfl hHeld ?_
  try simp only [pA, pB, pC, pD]
  refine tl 13 rfl hHeld ?_
  try simp only [pA, pB, pC, pD]
  refine tl 14 rfl hHeld ?_
  try simp only [pA, pB, pC, pD]
  refine tm 15 (v := ?_) rfl hHeld ?_ ?_
  rotate_left
  · intro w hSw; (try dsimp only at hSw); have p0 := hSw.1.c0; have p1 := hSw.1.c1; have p2 := hSw.1.c2; have r0 := hSw.2.c0; have r1 := hSw.2.c1; have r2 := hSw.2.c2; go_simp; first | done | with_reducible rfl
  try simp only [pA, pB, pC, pD]
  refine tm 16 (v := ?_) rfl hHeld ?_ ?_
  rotate_left
  · intro w hSw; (try dsimp only at hSw); have p0 := hSw.1.c0; have p1 := hSw.1.c1; have p2 := hSw.1.c2; have r0 := hSw.2.c0; have r1 := hSw.2.c1; have r2 := hSw.2.c2; go_simp; first | done | with_reducible rfl
  try simp only [pA, pB, pC, pD]
  refine tm 18 (v := ?_) rfl hHeld ?_ ?_
  rotate_left
  · intro w hSw; (try dsimp only at hSw); have p0 := hSw.1.c0; have p1 := hSw.1.c1; have p2 := hSw.1.c2; have r0 := hSw.2.c0; have r1 := hSw.2.c1; have r2 := hSw.2.c2; go_simp; first | done | with_reducible rfl
  try simp only [pA, pB, pC, pD]
  refine tm 19 (v := ?_) rfl hHeld ?_ ?_
  rotate_left
  · intro w hSw; (try dsimp only at hSw); have p0 := hSw.1.c0; have p1 := hSw.1.c1; have p2 := hSw.1.c2; have r0 := hSw.2.c0; have r1 := hSw.2.c1; have r2 := hSw.2.c2; go_simp; first | done | with_reducible rfl
  try simp only [pA, pB, pC, pD]
  refine wpAnyH_ready (rs := [17]) (by kernel_rfl) (by simp) ?_
  refine aC rfl (fun K hK => ?_)
  clear hHeld
  go_simp
  (with_reducible refine (LS.out _ HB8.out).mono ?_)
  rintro e w9 ⟨⟨zz, rfl, hzz⟩, hB⟩
  obtain rfl : zz = true := hzz.2 GE.out
  clear hzz
  have HX9 := hideL (HX8.out.next hB)
  have HY9 := hideL (HY8.out.next hB)
  have HB9 := hideL (HB8.out.trans (hB.mono HB8.out.size))
  clear hB
  refine hK.out _ _ (⟨HX9.out, HY9.out⟩) (fun hHeld => ?_)
  clear hK K
  try simp only [pA, pB, pC, pD]
  refine wpAnyH_ready (rs := [20]) (by kernel_rfl) (by simp) ?_
  refine aC rfl (fun K hK => ?_)
  clear hHeld
  go_simp
  (with_reducible refine (LRS.out _ HB9.out).mono ?_)
  rintro e w10 ⟨⟨zz, rfl, hzz⟩, hB⟩
  obtain rfl : zz = true := hzz.2 GE.out
  clear hzz
  have HX10 := hideL (HX9.out.next hB)
  have HY10 := hideL (HY9.out.next hB)
  have HB10 := hideL (HB9.out.trans (hB.mono HB9.out.size))
  clear hB
  refine hK.out _ _ (⟨HX10.out, HY10.out⟩) (fun hHeld => ?_)
  clear hK K
  try simp only [pA, pB, pC, pD]
  refine tl 21 rfl hHeld ?_
  try simp only [pA, pB, pC, pD]
  refine tl 22 rfl hHeld ?_
  try simp only [pA, pB, pC, pD]
  refine wpAnyH_done (by kernel_rfl) ?_ _
  clear hHeld
  have HX := HX10
  have HY := HY10
  clear HX5 HX6 HX7 HX8 HX9 HX10 HY5 HY6 HY7 HY8 HY9 HY10
  have x0 := HX.out.c0
  have x1 := HX.out.c1
  have x2 := HX.out.c2
  have y0 := HY.out.c0
  have y1 := HY.out.c1
  have y2 := HY.out.c2
  go_wp2_with (first
    | (go_at_call 31; (with_reducible refine (LBY.out _ HB10.out).mono ?_); rintro e w11 ⟨⟨a6, n6, c6, rfl, hg⟩, hB⟩
       clear x0 x1 x2 y0 y1 y2
       have HX := hideL (HX.out.next hB)
       have HY := hideL (HY.out.next hB)
       have x0 := HX.out.c0
       have x1 := HX.out.c1
       have x2 := HX.out.c2
       have y0 := HY.out.c0
       have y1 := HY.out.c1
       have y2 := HY.out.c2
       have HB11 := hideL (HB10.out.trans (hB.mono HB10.out.size))
       obtain rfl : n6 = 0 := hg.le.1
       clear hg
       clear hB)
    | (go_at_call 26; (with_reducible refine (LRM.out _ HB11.out).mono ?_); rintro e w12 ⟨rfl, hB⟩
       clear x0 x1 x2 y0 y1 y2
       have HX := hideL (HX.out.next hB)
       have HY := hideL (HY.out.next hB)
       have x0 := HX.out.c0
       have x1 := HX.out.c1
       have x2 := HX.out.c2
       have y0 := HY.out.c0
       have y1 := HY.out.c1
       have y2 := HY.out.c2
       have HB12 := hideL (HB11.out.trans (hB.mono HB11.out.size))
       clear hB)
    | (go_at_call 24; (with_reducible refine (LA.out _ HB12.out).mono ?_); rintro e w99 ⟨rfl, hB⟩
       have HB99 := hideL (HB12.out.trans (hB.mono HB12.out.size))
       clear hB))
  go_ret
  exact ⟨rfl, HB99.out⟩
set_option maxRecDepth 100000 in
set_option maxHeartbeats 4000000 in
theorem amayl_6 (c : Int) (ha : Option Addr) (hn hc : Nat) (ba : Option Addr) (bn bc : Nat) (d : Int) (ka : Option Addr) (kn kc : Nat) (la : Option Addr) (ln lc : Nat) (x y : An) (w0 : World) (h1 : AnsAt w0 ⟨c, ⟨ha, hn, hc⟩, ⟨ba, bn, bc⟩⟩ x) (h2 : AnsAt w0 ⟨d, ⟨ka, kn, kc⟩, ⟨la, ln, lc⟩⟩ y) (ht : (Env w0 ∧ EnvS w0) ∧ EnvT w0) (g1 : lngA bn x.heads = false) (g2 : lngA ln y.heads = false) (gM : mayAB x = false) (gE : x ≠ y) :
    Calls Tryz.prog 6 #[.agg #[.int .i64 c, .slice ha hn hc, .slice ba bn bc], .agg #[.int .i64 d, .slice ka kn kc, .slice la ln lc]] w0 fun e w' => e = .returned (.bool true) ∧ Below w0.heap.size w0 w' := by
  have LT := hideL (fun (W : World) (hb : Below w0.heap.size w0 W) => (⟨⟨ht.1.1.next hb, ht.1.2.next hb⟩, ht.2.next hb⟩ : (Env W ∧ EnvS W) ∧ EnvT W))
  have LA := hideL (fun (W : World) (hb : Below w0.heap.size w0 W) => awakeA_any W (LT.out W hb))
  have hb1 := (Below.refl w0.heap.size w0).alloc (Nat.le_refl _) (anC c (.slice ha hn hc) (.slice ba bn bc))
  have hX := (ABox.new w0 c (.slice ha hn hc) (.slice ba bn bc)).next ((Below.refl _ _).alloc (Nat.le_refl _) (anC d (.slice ka kn kc) (.slice la ln lc)))
  have hY := ABox.new (w0.alloc (anC c (.slice ha hn hc) (.slice ba bn bc))) d (.slice ka kn kc) (.slice la ln lc)
  rw [World.size_alloc] at hY
  have hb2 := (Below.refl (w0.alloc (anC c (.slice ha hn hc) (.slice ba bn bc))).heap.size (w0.alloc (anC c (.slice ha hn hc) (.slice ba bn bc)))).alloc (Nat.le_refl _) (anC d (.slice ka kn kc) (.slice la ln lc))
  have HX := hideL hX
  have HY := hideL hY
  have HB1 := hideL (hb1.trans (hb2.mono hb1.size))
  have LL1 := fun (W : World) (hb : Below w0.heap.size w0 W) => along_any c ha hn hc ba bn bc x.heads W (h1.2.1.below hb)
  have LL2 := fun (W : World) (hb : Below w0.heap.size w0 W) => along_any d ka kn kc la ln lc y.heads W (h2.2.1.below hb)
  have x0 := HX.out.c0
  have x1 := HX.out.c1
  have x2 := HX.out.c2
  have y0 := HY.out.c0
  have y1 := HY.out.c1
  have y2 := HY.out.c2
  rw [g1] at LL1
  rw [g2] at LL2
  have LL1 := hideL LL1
  have LL2 := hideL LL2
  have f1 := longP_fits (lngA_no g1).2
  have e1 := (longP_no (lngA_no g1).2).1
  have e2 := (longP_no (lngA_no g2).2).1
  have LM := fun (W : World) (hb : Below w0.heap.size w0 W) => amay_any c ha hn hc ba bn bc x W (h1.below hb) f1 (by omega) (LT.out W hb).1.1 (LT.out W hb).2
  have LRM := fun (W : World) (hb : Below w0.heap.size w0 W) => rmayA_any c ha hn hc ba bn bc x W (h1.below hb) f1 (by omega)
  rw [gM] at LM LRM
  have LM := hideL LM
  have LRM := hideL LRM
  have LS := hideL (fun (W : World) (hb : Below w0.heap.size w0 W) => psameA c d ha hn hc ba bn bc ka kn kc la ln lc x y W (h1.below hb) (h2.below hb) (by omega))
  have LRS := hideL (fun (W : World) (hb : Below w0.heap.size w0 W) => rsameA c d ha hn hc ba bn bc ka kn kc la ln lc x y W (h1.below hb) (h2.below hb) (by omega))
  have LP := fun (W : World) => reason_any c W
  have LR := fun (W : World) => rreason_any c W
  obtain ⟨T, hT⟩ : ∃ t, bo (reaP c) = t := ⟨_, rfl⟩
  rw [hT] at LP LR
  have LP := hideL LP
  have LR := hideL LR
  have GE := hideL gE
  have LBY := hideL (fun (W : World) (hb : Below w0.heap.size w0 W) => abyt_noC gM c ha hn hc ba bn bc W (h1.below hb) f1 (by omega) (LT.out W hb).1.1 (LT.out W hb).2)
  clear h1 h2 ht hb1 hb2 hX hY g1 g2 f1 e1 e2 gM gE hT
  go_enter Tryz.func6, Tryz.ntmps6
  go_wp2_with (first
    | (go_at_call 23; (with_reducible refine (LL1.out _ HB1.out).mono ?_); rintro e w2 ⟨rfl, hB⟩
       clear x0 x1 x2 y0 y1 y2
       have HX := hideL (HX.out.next hB)
       have HY := hideL (HY.out.next hB)
       have x0 := HX.out.c0
       have x1 := HX.out.c1
       have x2 := HX.out.c2
       have y0 := HY.out.c0
       have y1 := HY.out.c1
       have y2 := HY.out.c2
       have HB2 := hideL (HB1.out.trans (hB.mono HB1.out.size))
       clear hB)
    | (go_at_call 23; (with_reducible refine (LL2.out _ HB2.out).mono ?_); rintro e w3 ⟨rfl, hB⟩
       clear x0 x1 x2 y0 y1 y2
       have HX := hideL (HX.out.next hB)
       have HY := hideL (HY.out.next hB)
       have x0 := HX.out.c0
       have x1 := HX.out.c1
       have x2 := HX.out.c2
       have y0 := HY.out.c0
       have y1 := HY.out.c1
       have y2 := HY.out.c2
       have HB3 := hideL (HB2.out.trans (hB.mono HB2.out.size))
       clear hB))
  have hdr := (Below.refl w3.heap.size w3).drew
  have HX5 := hideL (HX.out.next hdr)
  have HY5 := hideL (HY.out.next hdr)
  have HB5 := hideL (HB3.out.trans (hdr.mono HB3.out.size))
  clear hdr HX HY x0 x1 x2 y0 y1 y2
  refine wp_region_held_drew (S := fun w' => ABox w' w0.heap.size c (.slice ha hn hc) (.slice ba bn bc) ∧ ABox w' (w0.heap.size + 1) d (.slice ka kn kc) (.slice la ln lc)) (by kernel_rfl) ⟨HX5.out, HY5.out⟩ (fun hHeld => ?_)
  refine tm 0 (v := ?_) rfl hHeld ?_ ?_
  rotate_left
  · intro w hSw; (try dsimp only at hSw); have p0 := hSw.1.c0; have p1 := hSw.1.c1; have p2 := hSw.1.c2; have r0 := hSw.2.c0; have r1 := hSw.2.c1; have r2 := hSw.2.c2; go_simp; first | done | with_reducible rfl
  try simp only [pA, pB, pC, pD]
  refine tm 2 (v := ?_) rfl hHeld ?_ ?_
  rotate_left
  · intro w hSw; (try dsimp only at hSw); have p0 := hSw.1.c0; have p1 := hSw.1.c1; have p2 := hSw.1.c2; have r0 := hSw.2.c0; have r1 := hSw.2.c1; have r2 := hSw.2.c2; go_simp; first | done | with_reducible rfl
  try simp only [pA, pB, pC, pD]
  refine wpAnyH_ready (rs := [1]) (by kernel_rfl) (by simp) ?_
  refine aC rfl (fun K hK => ?_)
  clear hHeld
  go_simp
  (with_reducible refine (LM.out _ HB5.out).mono ?_)
  rintro e w6 ⟨rfl, hB⟩
  have HX6 := hideL (HX5.out.next hB)
  have HY6 := hideL (HY5.out.next hB)
  have HB6 := hideL (HB5.out.trans (hB.mono HB5.out.size))
  clear hB
  refine hK.out _ _ (⟨HX6.out, HY6.out⟩) (fun hHeld => ?_)
  clear hK K
  try simp only [pA, pB, pC, pD]
  refine wpAnyH_ready (rs := [3]) (by kernel_rfl) (by simp) ?_
  refine aC rfl (fun K hK => ?_)
  clear hHeld
  go_simp
  (with_reducible refine (LRM.out _ HB6.out).mono ?_)
  rintro e w7 ⟨rfl, hB⟩
  have HX7 := hideL (HX6.out.next hB)
  have HY7 := hideL (HY6.out.next hB)
  have HB7 := hideL (HB6.out.trans (hB.mono HB6.out.size))
  clear hB
  refine hK.out _ _ (⟨HX7.out, HY7.out⟩) (fun hHeld => ?_)
  clear hK K
  try simp only [pA, pB, pC, pD]
  refine tl 4 rfl hHeld ?_
  try simp only [pA, pB, pC, pD]
  refine tl 5 rfl hHeld ?_
  try simp only [pA, pB, pC, pD]
  refine tl 6 rfl hHeld ?_
  try simp only [pA, pB, pC, pD]
  refine tm 7 (v := ?_) rfl hHeld ?_ ?_
  rotate_left
  · intro w hSw; (try dsimp only at hSw); have p0 := hSw.1.c0; have p1 := hSw.1.c1; have p2 := hSw.1.c2; have r0 := hSw.2.c0; have r1 := hSw.2.c1; have r2 := hSw.2.c2; go_simp; first | done | with_reducible rfl
  try simp only [pA, pB, pC, pD]
  refine tl 9 rfl hHeld ?_
  try simp only [pA, pB, pC, pD]
  refine tm 10 (v := ?_) rfl hHeld ?_ ?_
  rotate_left
  · intro w hSw; (try dsimp only at hSw); have p0 := hSw.1.c0; have p1 := hSw.1.c1; have p2 := hSw.1.c2; have r0 := hSw.2.c0; have r1 := hSw.2.c1; have r2 := hSw.2.c2; go_simp; first | done | with_reducible rfl
  try simp only [pA, pB, pC, pD]
  refine wpAnyH_ready (rs := [8]) (by kernel_rfl) (by simp) ?_
  refine aC rfl (fun K hK => ?_)
  clear hHeld
  go_simp
  (with_reducible refine (LP.out _).mono ?_)
  rintro e w8 ⟨rfl, hw⟩
  rw [hw]
  clear hw w8
  refine hK.out _ _ (⟨HX7.out, HY7.out⟩) (fun hHeld => ?_)
  clear hK K
  try simp only [pA, pB, pC, pD]
  refine wpAnyH_ready (rs := [11]) (by kernel_rfl) (by simp) ?_
  refine aC rfl (fun K hK => ?_)
  clear hHeld
  go_simp
  (with_reducible refine (LR.out _).mono ?_)
  rintro e w8 ⟨rfl, hB⟩
  have HX8 := hideL (HX7.out.next hB)
  have HY8 := hideL (HY7.out.next hB)
  have HB8 := hideL (HB7.out.trans (hB.mono HB7.out.size))
  clear hB
  refine hK.out _ _ (⟨HX8.out, HY8.out⟩) (fun hHeld => ?_)
  clear hK K
  try simp only [pA, pB, pC, pD]
  refine tl 12 rfl hHeld ?_
  try simp only [pA, pB, pC, pD]
  refine tl 13 rfl hHeld ?_
  try simp only [pA, pB, pC, pD]
  refine tl 14 rfl hHeld ?_
  try simp only [pA, pB, pC, pD]
  refine tm 15 (v := ?_) rfl hHeld ?_ ?_
  rotate_left
  · intro w hSw; (try dsimp only at hSw); have p0 := hSw.1.c0; have p1 := hSw.1.c1; have p2 := hSw.1.c2; have r0 := hSw.2.c0; have r1 := hSw.2.c1; have r2 := hSw.2.c2; go_simp; first | done | with_reducible rfl
  try simp only [pA, pB, pC, pD]
  refine tm 16 (v := ?_) rfl hHeld ?_ ?_
  rotate_left
  · intro w hSw; (try dsimp only at hSw); have p0 := hSw.1.c0; have p1 := hSw.1.c1; have p2 := hSw.1.c2; have r0 := hSw.2.c0; have r1 := hSw.2.c1; have r2 := hSw.2.c2; go_simp; first | done | with_reducible rfl
  try simp only [pA, pB, pC, pD]
  refine tm 18 (v := ?_) rfl hHeld ?_ ?_
  rotate_left
  · intro w hSw; (try dsimp only at hSw); have p0 := hSw.1.c0; have p1 := hSw.1.c1; have p2 := hSw.1.c2; have r0 := hSw.2.c0; have r1 := hSw.2.c1; have r2 := hSw.2.c2; go_simp; first | done | with_reducible rfl
  try simp only [pA, pB, pC, pD]
  refine tm 19 (v := ?_) rfl hHeld ?_ ?_
  rotate_left
  · intro w hSw; (try dsimp only at hSw); have p0 := hSw.1.c0; have p1 := hSw.1.c1; have p2 := hSw.1.c2; have r0 := hSw.2.c0; have r1 := hSw.2.c1; have r2 := hSw.2.c2; go_simp; first | done | with_reducible rfl
  try simp only [pA, pB, pC, pD]
  refine wpAnyH_ready (rs := [17]) (by kernel_rfl) (by simp) ?_
  refine aC rfl (fun K hK => ?_)
  clear hHeld
  go_simp
  (with_reducible refine (LS.out _ HB8.out).mono ?_)
  rintro e w9 ⟨⟨zz, rfl, hzz⟩, hB⟩
  obtain rfl : zz = false := Bool.eq_false_iff.2 (fun h => GE.out (hzz.1 h))
  clear hzz
  have HX9 := hideL (HX8.out.next hB)
  have HY9 := hideL (HY8.out.next hB)
  have HB9 := hideL (HB8.out.trans (hB.mono HB8.out.size))
  clear hB
  refine hK.out _ _ (⟨HX9.out, HY9.out⟩) (fun hHeld => ?_)
  clear hK K
  try simp only [pA, pB, pC, pD]
  refine wpAnyH_ready (rs := [20]) (by kernel_rfl) (by simp) ?_
  refine aC rfl (fun K hK => ?_)
  clear hHeld
  go_simp
  (with_reducible refine (LRS.out _ HB9.out).mono ?_)
  rintro e w10 ⟨⟨zz, rfl, hzz⟩, hB⟩
  obtain rfl : zz = false := Bool.eq_false_iff.2 (fun h => GE.out (hzz.1 h))
  clear hzz
  have HX10 := hideL (HX9.out.next hB)
  have HY10 := hideL (HY9.out.next hB)
  have HB10 := hideL (HB9.out.trans (hB.mono HB9.out.size))
  clear hB
  refine hK.out _ _ (⟨HX10.out, HY10.out⟩) (fun hHeld => ?_)
  clear hK K
  try simp only [pA, pB, pC, pD]
  refine tl 21 rfl hHeld ?_
  try simp only [pA, pB, pC, pD]
  refine tl 22 rfl hHeld ?_
  try simp only [pA, pB, pC, pD]
  refine wpAnyH_done (by kernel_rfl) ?_ _
  clear hHeld
  have HX := HX10
  have HY := HY10
  clear HX5 HX6 HX7 HX8 HX9 HX10 HY5 HY6 HY7 HY8 HY9 HY10
  have x0 := HX.out.c0
  have x1 := HX.out.c1
  have x2 := HX.out.c2
  have y0 := HY.out.c0
  have y1 := HY.out.c1
  have y2 := HY.out.c2
  go_wp2_with (first
    | (go_at_call 31; (with_reducible refine (LBY.out _ HB10.out).mono ?_); rintro e w11 ⟨⟨a6, n6, c6, rfl, hg⟩, hB⟩
       clear x0 x1 x2 y0 y1 y2
       have HX := hideL (HX.out.next hB)
       have HY := hideL (HY.out.next hB)
       have x0 := HX.out.c0
       have x1 := HX.out.c1
       have x2 := HX.out.c2
       have y0 := HY.out.c0
       have y1 := HY.out.c1
       have y2 := HY.out.c2
       have HB11 := hideL (HB10.out.trans (hB.mono HB10.out.size))
       obtain rfl : n6 = 0 := hg.le.1
       clear hg
       clear hB)
    | (go_at_call 26; (with_reducible refine (LRM.out _ HB11.out).mono ?_); rintro e w12 ⟨rfl, hB⟩
       clear x0 x1 x2 y0 y1 y2
       have HX := hideL (HX.out.next hB)
       have HY := hideL (HY.out.next hB)
       have x0 := HX.out.c0
       have x1 := HX.out.c1
       have x2 := HX.out.c2
       have y0 := HY.out.c0
       have y1 := HY.out.c1
       have y2 := HY.out.c2
       have HB12 := hideL (HB11.out.trans (hB.mono HB11.out.size))
       clear hB)
    | (go_at_call 24; (with_reducible refine (LA.out _ HB12.out).mono ?_); rintro e w99 ⟨rfl, hB⟩
       have HB99 := hideL (HB12.out.trans (hB.mono HB12.out.size))
       clear hB))
  go_ret
  exact ⟨rfl, HB99.out⟩
theorem amayl_walk (a b : AV) (w : World) (ha0 : AnsOk w a) (hb0 : AnsOk w b) (ht : (Env w ∧ EnvS w) ∧ EnvT w) :
    Calls Tryz.prog 6 #[a.v, b.v] w fun e w' => e = .returned (.bool true) ∧ Below w.heap.size w w' := by
  obtain ⟨x, h1, _, _, _, _⟩ := ha0
  obtain ⟨y, h2, _, _, _, _⟩ := hb0
  obtain ⟨c, ⟨ha, hn, hc⟩, ⟨ba, bn, bc⟩⟩ := a
  obtain ⟨d, ⟨ka, kn, kc⟩, ⟨la, ln, lc⟩⟩ := b
  simp only [Sl.v, AV.v]
  cases g1 : lngA bn x.heads with
  | true => exact amayl_1 c ha hn hc ba bn bc d ka kn kc la ln lc x y w h1 h2 ht g1
  | false =>
    cases g2 : lngA ln y.heads with
    | true => exact amayl_2 c ha hn hc ba bn bc d ka kn kc la ln lc x y w h1 h2 ht g1 g2
    | false =>
      cases gM : mayAB x with
      | true =>
        by_cases gE : x = y
        · exact amayl_3 c ha hn hc ba bn bc d ka kn kc la ln lc x y w h1 h2 ht g1 g2 gM gE
        · exact amayl_4 c ha hn hc ba bn bc d ka kn kc la ln lc x y w h1 h2 ht g1 g2 gM gE
      | false =>
        by_cases gE : x = y
        · exact amayl_5 c ha hn hc ba bn bc d ka kn kc la ln lc x y w h1 h2 ht g1 g2 gM gE
        · exact amayl_6 c ha hn hc ba bn bc d ka kn kc la ln lc x y w h1 h2 ht g1 g2 gM gE
end Go.Proofs.YtafmgoekgijfgaaGreatDoor
