/- How great a request's texts are, as they come in; the wrap that hands that on. How great a request's five texts are, as they come in. What the condition gives of math/bits' table. -/
import Derived.Test.YtafmgoekgijfgaaGreatDoorYRqM6
import Derived.SizedLaws
import Derived.Test.YtafmgoekgijfgaaGreatDoorYRqHex
import Derived.Lib.LaidTab
import Derived.Lib.TrailingZeros
namespace Go.Proofs.YtafmgoekgijfgaaGreatDoor
open Go.ChangeShapes Go.WideShapes Go.ChangeAt Go.RowKit

theorem max_two {a b : Nat} (h1 : a ≤ reachBytes) (h2 : b ≤ reachBytes) : ¬ 9223372036854775807 < a + b := by
 have : reachBytes + reachBytes ≤ 9223372036854775807 := by decide
 omega
section
variable {H : Type} {enc : TypeId × Value → H}
/-- The wrap that hands on what the row lists, the world's shape, and how great things are. -/
theorem handed_laidZ {a : Assume} {C : Checked} {os : Os} {f : FuncId} {fn : Func} {s : ChangeSpec} {conds : List PathCond} {apart fresh handsOn again : Bool} {X : World → Array Value → Prop}
   (hX : ∀ (w w' : World) (args : Array Value), w.heap = w'.heap → X w args → X w' args)
   (own : ownKnob C.prog.godebug = none) (started : os.Started) (noInit : C.prog.inits.idxOf? f = none) (hfn : C.prog.funcs[f]? = some fn)
   (witness : ∃ (w : World) (tape : Tape) (i : Input), w.os = os ∧ (w.forCall tape i).Shaped C.prog ∧ i.vars = [] ∧ Input.okWide C.prog (w.forCall tape i) .any w.heap.size f i ∧
     ((s.pre enc C.prog fn conds apart (w.forCall tape i).memory i.args ∧ X (w.forCall tape i).memory i.args) ∧ sizedMet enc C.prog fn (OpenSpec.ofChange s) apart (w.forCall tape i).memory i.args) ∧ a.holds C.prog (lone (Frame.enter C.prog f i.args .normal) [] (w.forCall tape i)))
   (contract : ∀ (W : World) (base : Nat) (args : Array Value) (ds gs : List (DataW H)) (before : List MemPlace),
     (∀ (j : Nat) t v, fn.params[j]? = some t → args[j]? = some v → Value.okWide C.prog W .any base t v) →
     DataW.Whole enc C.prog fn.params.toList s.vars apart W args.toList ds gs before →
     conds.all (PathCond.test C.prog ⟨fn.params.toList, ds, s.plain.varTypes C.prog, gs⟩) = true → X W args → W.ShapedOpen C.prog →
     (DataW.weightsEach C.prog (fn.params.toList ++ s.plain.varTypes C.prog) (ds ++ gs)).all (· ≤ reachBytes) = true →
     Calls C.prog f args W fun e W' => ∃ v, e = .returned v ∧ s.post enc C.prog fn apart fresh handsOn again W args v W') :
   ReturnsInHanded a C os f .any (fun w args => (s.pre enc C.prog fn conds apart w args ∧ X w args) ∧ sizedMet enc C.prog fn (OpenSpec.ofChange s) apart w args) (s.post enc C.prog fn apart fresh handsOn again) := by
 refine returnsInHanded_of_calls own started noInit witness ?_
 intro w tape i _ hsh _ hok hpre _
 obtain ⟨_, _, _, fn', hfn', _, _, _, _, hval⟩ := hok
 have e : fn' = fn := Option.some.inj (hfn'.symm.trans hfn)
 subst e
 obtain ⟨⟨⟨ds, gs, before, hw, hc⟩, hx⟩, hz⟩ := hpre
 have hw' := DataW.Whole.of_heap (w' := w.forCall tape i) (by rfl) hw
 refine (contract (w.forCall tape i) w.heap.size i.args ds gs before hval hw' hc (hX _ _ _ (by rfl) hx) hsh (hz.weights hw)).mono fun e W' ⟨v, he, hp⟩ => ?_
 subst he
 exact ChangeSpec.post_blind hp
end
end Go.Proofs.YtafmgoekgijfgaaGreatDoor
namespace Go.Proofs.YtafmgoekgijfgaaGreatDoor
open Go.ChangeShapes Go.WideShapes Go.ChangeAt Go.RowKit

def RqSz5 (c : QV) : Prop := c.m.size ≤ reachBytes ∧ c.t.size ≤ reachBytes ∧ c.p.size ≤ reachBytes ∧ c.q.size ≤ reachBytes ∧ c.o.size ≤ reachBytes
set_option maxRecDepth 100000 in
theorem req_szZ5 {H : Type} {enc : TypeId × Value → H} {W : World} {base : Nat} {sp : Nat → Bool} {held : Bool} {n : Nat} {c : QV} {x : DataW H × List MemPlace} (h : DataW.trod enc Tryz.prog W base sp held n 26 (QV.cells c) = some x)
   (hw : ∀ k ∈ x.1.weights Tryz.prog 26, k ≤ reachBytes) : RqSz5 c := by
 have hu := Tryz.underlying26
 obtain ⟨xs, k, _, hx, hlen, hxl, hf⟩ := DataW.trod_struct hu h
 match xs, hxl with
 | [y0, y1, y2, y3, y4, y5, y6], _ =>
   have g0 := hf 0 _ rfl
   have g1 := hf 1 _ rfl
   have g2 := hf 2 _ rfl
   have g3 := hf 3 _ rfl
   have g4 := hf 4 _ rfl
   have cst : Tryz.prog.cellsOf 9 = 1 := by kernel_rfl
   simp only [QV.cells, List.getElem?_cons_zero, List.getElem?_cons_succ] at g0 g1 g2 g3 g4
   obtain ⟨a0, e0, f0, _⟩ := DataW.trod_string Tryz.underlying9 g0
   obtain ⟨a1, e1, f1, _⟩ := DataW.trod_string Tryz.underlying9 g1
   obtain ⟨a2, e2, f2, _⟩ := DataW.trod_string Tryz.underlying9 g2
   obtain ⟨a3, e3, f3, _⟩ := DataW.trod_string Tryz.underlying9 g3
   obtain ⟨a4, e4, f4, _⟩ := DataW.trod_string Tryz.underlying9 g4
   injection e0 with e0
   injection e0 with e0
   injection e1 with e1
   injection e1 with e1
   injection e2 with e2
   injection e2 with e2
   injection e3 with e3
   injection e3 with e3
   injection e4 with e4
   injection e4 with e4
   have hx1 : x.1 = .agg [y0.1, y1.1, y2.1, y3.1, y4.1, y5.1, y6.1] := by rw [hx]; rfl
   rw [hx1] at hw
   have hws : ∀ (j : Nat) (d : DataW H) (s : List UInt8), ([y0.1, y1.1, y2.1, y3.1, y4.1, y5.1, y6.1] : List (DataW H))[j]? = some d → d = .lit (.string s) → j < 5 → s.length ≤ reachBytes := fun j d s hj hd hj2 => by
     refine hw s.length ?_
     unfold DataW.weights
     rw [hu]
     refine DataW.weights_mem_each (j := j) (t := 9) ?_ hj _ (by rw [hd]; simp [DataW.weights])
     match j, hj2 with
     | 0, _ => rfl
     | 1, _ => rfl
     | 2, _ => rfl
     | 3, _ => rfl
     | 4, _ => rfl
   have h0 := hws 0 y0.1 a0.data.toList rfl (by rw [f0]) (by decide)
   have h1 := hws 1 y1.1 a1.data.toList rfl (by rw [f1]) (by decide)
   have h2 := hws 2 y2.1 a2.data.toList rfl (by rw [f2]) (by decide)
   have h3 := hws 3 y3.1 a3.data.toList rfl (by rw [f3]) (by decide)
   have h4 := hws 4 y4.1 a4.data.toList rfl (by rw [f4]) (by decide)
   rw [size_list] at h0 h1 h2 h3 h4
   exact ⟨e0 ▸ h0, e1 ▸ h1, e2 ▸ h2, e3 ▸ h3, e4 ▸ h4⟩
theorem req_szD5 {H : Type} {enc : TypeId × Value → H} {W : World} {base : Nat} {sp : Nat → Bool} {held : Bool} {c : QV} {d : DataW H} {p : List MemPlace} (h0 : DataW.Trod enc Tryz.prog W base sp held 26 (QV.v c) d p) (hw : ∀ k ∈ d.weights Tryz.prog 26, k ≤ reachBytes) : RqSz5 c := by
 obtain ⟨fuel, hf⟩ := h0
 exact req_szZ5 (c := c) hf hw
end Go.Proofs.YtafmgoekgijfgaaGreatDoor
namespace Go.Proofs.YtafmgoekgijfgaaGreatDoor
open Go.ChangeShapes Go.WideShapes Go.ChangeAt Go.RowKit

def zs64 : List Int := Lib.deBruijn64tab.map fun n : Nat => (n : Int)
theorem laid64 : (Rows.laid_math_bits_deBruijn64tab : DataW Unit) = Lib.tabData .u8 zs64 := by kernel_rfl
theorem gT64 : Tryz.prog.globalNamed "math/bits.deBruijn64tab" = some 8 := by kernel_rfl
theorem tT64 : (Tryz.prog.globals[8]?).map (·.type) = some 241 := by kernel_rfl
theorem envT_of_laid {W : World} (h : laidMetH Tryz.prog laidL W) : EnvT W := by
 rw [MakeChecks.laidMetH_plain _ _ _ (by kernel_rfl)] at h
 obtain ⟨ps, ⟨g0, t0, cs0, f0, p0, q0, hg0, ht0, hv0, hd0, ⟨g1, t1, cs1, f1, p1, q1, hg1, ht1, hv1, hd1, _⟩, _⟩, _⟩ := h
 obtain rfl := Option.some.inj (gT64.symm.trans hg1)
 obtain rfl := Option.some.inj (tT64.symm.trans ht1)
 rw [laid64] at hd1
 have e := Lib.cells_of_tab Tryz.underlying241 Tryz.underlying5 (by kernel_rfl) (by kernel_rfl) hd1
 refine ⟨?_⟩
 obtain rfl : cs1 = (zs64.map fun z => Value.int .u8 z).toArray := Array.toList_inj.1 e
 rw [World.var?_cell gT64 hv1 15]
 rfl
theorem env_of_laid3 {W : World} (h : laidMetH Tryz.prog laidL W) : (Env W ∧ EnvS W) ∧ EnvT W := ⟨env_of_laid h, envT_of_laid h⟩
end Go.Proofs.YtafmgoekgijfgaaGreatDoor
