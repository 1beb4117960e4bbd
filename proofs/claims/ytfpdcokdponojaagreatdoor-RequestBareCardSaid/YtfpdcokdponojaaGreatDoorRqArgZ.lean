/- How great a request's texts are, as they come in; the wrap that hands that on. -/
import Derived.Test.YtfpdcokdponojaaGreatDoorRqM6
import Derived.SizedLaws
namespace Go.Proofs.YtfpdcokdponojaaGreatDoor
open Go.ChangeShapes Go.WideShapes Go.ChangeAt Go.RowKit

def RqSz (c : QV) : Prop := c.m.size ≤ reachBytes ∧ c.t.size ≤ reachBytes
theorem max_two {a b : Nat} (h1 : a ≤ reachBytes) (h2 : b ≤ reachBytes) : ¬ 9223372036854775807 < a + b := by
  have : reachBytes + reachBytes ≤ 9223372036854775807 := by decide
  omega
set_option maxRecDepth 100000 in
theorem req_szZ {H : Type} {enc : TypeId × Value → H} {W : World} {base : Nat} {sp : Nat → Bool} {held : Bool} {n : Nat} {c : QV} {x : DataW H × List MemPlace} (h : DataW.trod enc Tryz.prog W base sp held n 42 (QV.cells c) = some x)
    (hw : ∀ k ∈ x.1.weights Tryz.prog 42, k ≤ reachBytes) : RqSz c := by
  have hu := Tryz.underlying42
  obtain ⟨xs, k, _, hx, hlen, hxl, hf⟩ := DataW.trod_struct hu h
  match xs, hxl with
  | [y0, y1, y2, y3, y4, y5, y6], _ =>
    have g0 := hf 0 _ rfl
    have g1 := hf 1 _ rfl
    have cst : Tryz.prog.cellsOf 9 = 1 := by kernel_rfl
    simp only [QV.cells, List.getElem?_cons_zero, List.getElem?_cons_succ] at g0 g1
    obtain ⟨a0, e0, f0, _⟩ := DataW.trod_string Tryz.underlying9 g0
    obtain ⟨a1, e1, f1, _⟩ := DataW.trod_string Tryz.underlying9 g1
    injection e0 with e0
    injection e1 with e1
    injection e0 with e0
    injection e1 with e1
    have hx1 : x.1 = .agg [y0.1, y1.1, y2.1, y3.1, y4.1, y5.1, y6.1] := by rw [hx]; rfl
    rw [hx1] at hw
    have hws : ∀ (j : Nat) (d : DataW H) (s : List UInt8), ([y0.1, y1.1, y2.1, y3.1, y4.1, y5.1, y6.1] : List (DataW H))[j]? = some d → d = .lit (.string s) → j < 2 → s.length ≤ reachBytes := fun j d s hj hd hj2 => by
      refine hw s.length ?_
      unfold DataW.weights
      rw [hu]
      refine DataW.weights_mem_each (j := j) (t := 9) ?_ hj _ (by rw [hd]; simp [DataW.weights])
      match j, hj2 with
      | 0, _ => rfl
      | 1, _ => rfl
    have h0 := hws 0 y0.1 a0.data.toList rfl (by rw [f0]) (by decide)
    have h1 := hws 1 y1.1 a1.data.toList rfl (by rw [f1]) (by decide)
    rw [size_list] at h0 h1
    exact ⟨e0 ▸ h0, e1 ▸ h1⟩
theorem req_szD {H : Type} {enc : TypeId × Value → H} {W : World} {base : Nat} {sp : Nat → Bool} {held : Bool} {c : QV} {d : DataW H} {p : List MemPlace} (h0 : DataW.Trod enc Tryz.prog W base sp held 42 (QV.v c) d p) (hw : ∀ k ∈ d.weights Tryz.prog 42, k ≤ reachBytes) : RqSz c := by
  obtain ⟨fuel, hf⟩ := h0
  exact req_szZ (c := c) hf hw
theorem weights_all {H : Type} {P : Program} {e : TypeId} : ∀ {l : List (DataW H)} {d : DataW H}, d ∈ l → ∀ n ∈ d.weights P e, n ∈ DataW.weightsAll P e l
  | a :: l, d, h, n, hn => by
    rw [DataW.weightsAll, List.mem_append]
    rcases List.mem_cons.1 h with rfl | h
    · exact .inl hn
    · exact .inr (weights_all h n hn)
set_option maxRecDepth 100000 in
theorem reqs_szD {H : Type} {enc : TypeId × Value → H} {W : World} {base : Nat} {sp : Nat → Bool} {held : Bool} {v : Value} {l : List QV} {d : DataW H} {p : List MemPlace} (h0 : DataW.Trod enc Tryz.prog W base sp held 68 v d p) (gv : GAt KQ W v l) (hw : ∀ k ∈ d.weights Tryz.prog 68, k ≤ reachBytes) : ∀ c ∈ l, RqSz c := by
  obtain ⟨fuel, hf⟩ := h0
  obtain ⟨ao, cap, rfl, _, hn, ha⟩ := gv
  have hu := Tryz.underlying68
  rcases Go.Deep.open_slice hu hf with ⟨hcs0, _⟩ | ⟨a, len, cap', m, n, D, Pl, hcs0, _, hl, hm, hmm, hx, hel⟩
  · simp [Value.cells] at hcs0
    have hl0 : l = [] := hcs0.2.1
    intro c hc
    rw [hl0] at hc
    cases hc
  · simp [Value.cells] at hcs0
    obtain ⟨rfl, hll, _⟩ := hcs0
    intro c hc
    obtain ⟨i, hi, rfl⟩ := List.getElem_of_mem hc
    have hlm : len ≤ m := by rw [hmm]; split <;> omega
    obtain ⟨cs', h1, h2⟩ := hel i (by omega)
    rw [show Tryz.prog.cellsOf 42 = 7 by kernel_rfl] at h1
    obtain ⟨_, hlen, hcl⟩ := World.cells?_some h1
    have hcell := (ha a rfl i hi).2.2
    have hcs : cs' = QV.cells l[i] := by
      refine List.ext_getElem? fun j => ?_
      rcases Nat.lt_or_ge j 7 with hj | hj
      · have e1 := hcl j hj
        have e2 := hcell j hj
        rw [show l.getD i KQ.dft = l[i] by simp [List.getD, hi]] at e2
        rw [← Go.Deep.add_add, show KQ.s = 7 from rfl, e1] at e2
        exact e2
      · rw [List.getElem?_eq_none (by omega), List.getElem?_eq_none (by show 7 ≤ j; exact hj)]
    rw [hcs] at h2
    refine req_szZ h2 fun k hk => hw k ?_
    have hx1 : d = .slice ((List.range len).map D) ((List.range (m - len)).map fun j => D (len + j)) := congrArg Prod.fst hx
    rw [hx1]
    unfold DataW.weights
    rw [hu]
    refine List.mem_cons_of_mem _ (List.mem_append_left _ (weights_all (d := D i) (List.mem_map.2 ⟨i, List.mem_range.2 (by omega), rfl⟩) k hk))
section
variable {H : Type} {enc : TypeId × Value → H}
/-- The wrap that hands on what the row lists, the world's shape, and how great things are. -/
theorem handed_laidZ {a : Assume} {C : Checked} {os : Os} {f : FuncId} {fn : Func} {s : ChangeSpec} {conds : List PathCond} {apart fresh handsOn again : Bool} {X : World → Array Value → Prop}
    (hX : ∀ (w w' : World) (args : Array Value), w.heap = w'.heap → X w args → X w' args)
    (own : ownKnob C.prog.godebug = none) (started : os.Started) (noInit : C.prog.inits.idxOf? f = none) (hfn : C.prog.funcs[f]? = some fn)
    (witness : ∃ (w : World) (tape : Tape) (i : Input), w.os = os ∧ (w.forCall tape i).Shaped C.prog ∧ i.vars = [] ∧ Input.okWide C.prog (w.forCall tape i) .any w.heap.size f i ∧
      ((s.pre enc C.prog fn conds apart (w.forCall tape i).memory i.args ∧ X (w.forCall tape i).memory i.args) ∧ sizedMet enc C.prog fn (OpenSpec.ofChange s) apart (w.forCall tape i).memory i.args) ∧ a.holds C.prog (lone (Frame.enter C.prog f i.args .normal) [] (w.forCall tape i)))
    (contract : ∀ (W : World) (base : Nat) (args : Array Value) (ds gs : List (DataW H)) (before : List MemPlace),
      (∀ (j : Nat) t v, fn.params[j]? = some t → args[j]? = some v → Value.okWide C.prog W .any base t v) →
      DataW.Whole enc C.prog fn.params.toList s.vars apart W args.toList ds gs before →
      conds.all (PathCond.test C.prog ⟨fn.params.toList, ds, s.plain.varTypes C.prog, gs⟩) = true → X W args → W.ShapedOpen C.prog →
      (DataW.weightsEach C.prog (fn.params.toList ++ s.plain.varTypes C.prog) (ds ++ gs)).all (· ≤ reachBytes) = true →
      Calls C.prog f args W fun e W' => ∃ v, e = .returned v ∧ s.post enc C.prog fn apart fresh handsOn again W args v W') :
    ReturnsInHanded a C os f .any (fun w args => (s.pre enc C.prog fn conds apart w args ∧ X w args) ∧ sizedMet enc C.prog fn (OpenSpec.ofChange s) apart w args) (s.post enc C.prog fn apart fresh handsOn again) := by
  refine returnsInHanded_of_calls own started noInit witness ?_
  intro w tape i _ hsh _ hok hpre _
  obtain ⟨_, _, _, fn', hfn', _, _, _, _, hval⟩ := hok
  have e : fn' = fn := Option.some.inj (hfn'.symm.trans hfn)
  subst e
  obtain ⟨⟨⟨ds, gs, before, hw, hc⟩, hx⟩, hz⟩ := hpre
  have hw' := DataW.Whole.of_heap (w' := w.forCall tape i) (by rfl) hw
  refine (contract (w.forCall tape i) w.heap.size i.args ds gs before hval hw' hc (hX _ _ _ (by rfl) hx) hsh (hz.weights hw)).mono fun e W' ⟨v, he, hp⟩ => ?_
  subst he
  exact ChangeSpec.post_blind hp
end
end Go.Proofs.YtfpdcokdponojaaGreatDoor
