/- The frame that all laws share: a call that returns true and leaves all that was there as it was, meets the row's 'behind the call'. What a law's arguments are: a struct by value, a slice of structs, of any kind; no program is named here. What the rows of the requests' laws list: what their condition gives, and a heap that meets it; what the laws' arguments are. What the requests' laws' arguments are: bytes, numbers, a message, a request, requests. -/
import Derived.Test.YtafmgoekgijfgaaGreatDoorRows
import Derived.WalkKit
import Derived.ProofKit
import Derived.OpenShut
import Derived.Test.YtafmgoekgijfgaaGreatDoorBRqM2
import Derived.Deep.Slices
import Derived.ChangeSlices
import Derived.WideShapes
import Derived.ChangeAt
import Derived.LaidMore
import Derived.MakeChecks
import Derived.Stop.Joined
import Derived.Lay
import Derived.SizedLaws
import Derived.Shelf.Vars
import Derived.Lib.LaidTab
import Derived.ChangeMaps5
namespace Go.Proofs.YtafmgoekgijfgaaGreatDoor
open Go.ChangeShapes Go.WideShapes Go.ChangeAt Go.RowKit

theorem Tryz.own : ownKnob Tryz.prog.godebug = none := by kernel_rfl
theorem Tryz.laidOut : laidOutB Tryz.prog = true := by kernel_rfl

theorem trodAll_below {H : Type} {enc : TypeId × Value → H} {P : Program} (hl : laidOutB P = true) {W W' : World} (hb : Below W.heap.size W W') (ts : List TypeId) : ∀ (vs : List Value) (ds : List (DataW H)) (ps : List MemPlace),
   DataW.TrodAll enc P W 0 (fun _ => true) true ts vs ds ps → (∀ t ∈ ts, P.readableRec t = true ∧ t < P.types.size) → (∀ x ∈ ps, x.block < W.heap.size) →
   DataW.TrodAll enc P W' 0 (fun b => decide (b < W.heap.size)) true ts vs ds ps := by
 induction ts with
 | nil =>
   intro vs ds ps h _ _
   obtain ⟨rfl, rfl, rfl⟩ := trodAll_nil h
   exact trodAll_mk0
 | cons t ts ih =>
   intro vs ds ps h hr hlt
   obtain ⟨v, vs1, d, ds1, p, q, rfl, rfl, rfl, h0, h1⟩ := trodAll_cons h
   have ht := hr t (List.mem_cons_self ..)
   exact trodAll_cons_mk (Below.trod hl ht.1 ht.2 h0 hb (fun x hx => hlt x (List.mem_append_left _ hx))) (ih _ _ _ h1 (fun u hu => hr u (List.mem_cons_of_mem _ hu)) (fun x hx => hlt x (List.mem_append_right _ hx)))

theorem law_post {H : Type} {enc : TypeId × Value → H} {f : Func} {s : ChangeSpec} {apart : Bool} {W W' : World} {args : Array Value} {ds : List (DataW H)} {before : List MemPlace}
   (hv : s.vars = []) (hW : DataW.Whole enc Tryz.prog f.params.toList s.vars apart W args.toList ds [] before) (hb : Below W.heap.size W W')
   (hr : ∀ t ∈ f.params.toList, Tryz.prog.readableRec t = true ∧ t < Tryz.prog.types.size) (hf : f.resultTypes = #[4])
   (hres : (s.fn H (ds ++ [])).results = [.lit (.bool true)]) (hargs : (s.fn H (ds ++ [])).args = ds) (hvars : (s.fn H (ds ++ [])).vars = []) :
   s.post enc Tryz.prog f apart true false false W args (.bool true) W' := by
 have hW' := hW
 obtain ⟨p, q, hA, hV, hbefore, hfz, hnd⟩ := hW
 have hq : q = [] := by rw [hv] at hV; exact (trodVars_none hV).2
 subst hq
 rw [List.append_nil] at hbefore
 have hlt : ∀ x ∈ p, x.block < W.heap.size := fun x hx => by simpa using hW'.lt x (by rw [hbefore]; exact hx)
 refine ⟨ds, [], before, [], p, [], hW', ?_, ?_, ?_, hb.frame _, fun h => by cases h⟩
 · rw [hres, hf]; exact trodAll_cons_mk (shut_bool Tryz.underlying4 _) trodAll_mk0
 · rw [hargs]; exact trodAll_below Tryz.laidOut hb _ _ _ _ hA hr hlt
 · rw [hvars, hv]; rfl
end Go.Proofs.YtafmgoekgijfgaaGreatDoor
namespace Go.Proofs.YtafmgoekgijfgaaGreatDoor
open Go.ChangeShapes Go.WideShapes Go.ChangeAt Go.RowKit

theorem spot_of' {a : Addr} (h : (a.add 0).spot = none) : a.spot = none := by simpa [Addr.add] using h
theorem list_of_each' {α : Type} (d : α) {p : Nat → α → Prop} : ∀ n : Nat, (∀ i, i < n → ∃ a, p i a) → ∃ l : List α, l.length = n ∧ ∀ i, i < n → p i (l.getD i d)
 | 0, _ => ⟨[], rfl, fun i h => absurd h (Nat.not_lt_zero i)⟩
 | n + 1, h => by
   obtain ⟨l, hl, hp⟩ := list_of_each' d n (fun i hi => h i (by omega))
   obtain ⟨a, ha⟩ := h n (by omega)
   refine ⟨l ++ [a], by simp [hl], fun i hi => ?_⟩
   by_cases hin : i < n
   · have := hp i hin
     simpa [List.getD, List.getElem?_append_left (show i < l.length by omega)] using this
   · obtain rfl : i = n := by omega
     simpa [List.getD, hl] using ha
section
variable {P : Program} {H : Type} {enc : TypeId × Value → H} {W : World} {α : Type} {K : Kd α} {ok : α → Prop}
set_option maxRecDepth 100000 in
theorem arg_g {T : TypeId} (hu : P.underlying T = some (.slice K.t)) (hcs : P.cellsOf K.t = K.s)
   (ho : ∀ {base : Nat} {sp : Nat → Bool} {held : Bool} {n : Nat} {cs : List Value} {x : DataW H × List MemPlace}, DataW.trod enc P W base sp held n K.t cs = some x → ∃ a, ok a ∧ cs = K.cells a)
   {r : Reach} {base : Nat} {v : Value} {d : DataW H} {p : List MemPlace} (hval : Value.okWide P W r base T v)
   (h0 : DataW.Trod enc P W 0 (fun _ => true) true T v d p) : ∃ l : List α, GAt K W v l ∧ (∀ c ∈ l, ok c) ∧ l.length ≤ maxLen := by
 obtain ⟨a0, len, cap, rfl⟩ := okWide_slice hu hval
 obtain ⟨fuel, hf⟩ := h0
 rcases Go.Deep.open_slice hu hf with ⟨hcs0, _⟩ | ⟨a, len', cap', m, n, D, Pl, hcs0, _, hl, hm, hmm, _, hx⟩
 · simp [Value.cells] at hcs0
   obtain ⟨rfl, rfl, rfl⟩ := hcs0
   exact ⟨[], GAt.nil W, (fun f h => by cases h), by simp⟩
 · simp [Value.cells] at hcs0
   obtain ⟨rfl, rfl, rfl⟩ := hcs0
   simp only [if_true] at hmm
   rw [hcs] at hx
   have hpos := K.pos
   obtain ⟨l, hll, hp⟩ := list_of_each' K.dft (p := fun i (f : α) => ok f ∧ ∀ j, j < K.s → W.cell? (a.add (i * K.s + j)) = (K.cells f)[j]?) len (fun i hi => by
     obtain ⟨cs', h1, h2⟩ := hx i (by omega)
     obtain ⟨f, hok, rfl⟩ := ho h2
     obtain ⟨_, _, hc⟩ := World.cells?_some h1
     exact ⟨f, hok, fun j hj => by rw [← hc j hj, Go.Deep.add_add]⟩)
   refine ⟨l, ⟨some a, cap, by rw [hll], by omega, (fun h => by cases h), fun ad had i hi => ?_⟩, fun f hf => ?_, by omega⟩
   · cases had
     rw [hll] at hi
     have hc := (hp i hi).2
     have hs : a.spot = none := by
       have h3 := (hp 0 (by omega)).2 0 hpos
       rw [Nat.zero_mul, Nat.add_zero] at h3
       have h4 : 0 < (K.cells (l.getD 0 K.dft)).length := by rw [K.len]; exact hpos
       rw [List.getElem?_eq_getElem h4] at h3
       exact spot_of' (World.cell?_spot h3)
     refine ⟨hs, ?_, hc⟩
     rcases Nat.lt_or_ge a.block W.heap.size with h | h
     · exact h
     · have h3 := hc 0 hpos
       have h4 : 0 < (K.cells (l.getD i K.dft)).length := by rw [K.len]; exact hpos
       rw [List.getElem?_eq_getElem h4] at h3
       simp [World.cell?, addr_block, Array.getElem?_eq_none h] at h3
   · obtain ⟨i, hi, rfl⟩ := List.getElem_of_mem hf
     have := (hp i (by omega)).1
     simpa [List.getD, hi] using this
theorem arg_g1 {fs : Array Field} (hu : P.underlying K.t = some (.struct fs))
   (ho : ∀ {base : Nat} {sp : Nat → Bool} {held : Bool} {n : Nat} {cs : List Value} {x : DataW H × List MemPlace}, DataW.trod enc P W base sp held n K.t cs = some x → ∃ a, ok a ∧ cs = K.cells a)
   {r : Reach} {base : Nat} {v : Value} {d : DataW H} {p : List MemPlace} (hval : Value.okWide P W r base K.t v)
   (h0 : DataW.Trod enc P W 0 (fun _ => true) true K.t v d p) : ∃ c : α, v = .agg (K.cells c).toArray ∧ ok c := by
 obtain ⟨cs, rfl, h2⟩ := okWide_struct hu hval
 obtain ⟨fuel, hf⟩ := h0
 obtain ⟨c, h3, h4⟩ := ho hf
 refine ⟨c, ?_, h3⟩
 rw [← h4]
 rfl
end
end Go.Proofs.YtafmgoekgijfgaaGreatDoor
namespace Go.Proofs.YtafmgoekgijfgaaGreatDoor
open Go.ChangeShapes Go.WideShapes Go.ChangeAt Go.RowKit

section
variable {H : Type} {enc : TypeId × Value → H}
/-- The wrap that hands on what the row lists and the world's shape. -/
theorem handed_laid {a : Assume} {C : Checked} {os : Os} {f : FuncId} {fn : Func} {s : ChangeSpec} {conds : List PathCond} {apart fresh handsOn again : Bool} {X : World → Array Value → Prop}
   (hX : ∀ (w w' : World) (args : Array Value), w.heap = w'.heap → X w args → X w' args)
   (own : ownKnob C.prog.godebug = none) (started : os.Started) (noInit : C.prog.inits.idxOf? f = none) (hfn : C.prog.funcs[f]? = some fn)
   (witness : ∃ (w : World) (tape : Tape) (i : Input), w.os = os ∧ (w.forCall tape i).Shaped C.prog ∧ i.vars = [] ∧ Input.okWide C.prog (w.forCall tape i) .any w.heap.size f i ∧
     ((s.pre enc C.prog fn conds apart (w.forCall tape i).memory i.args ∧ X (w.forCall tape i).memory i.args) ∧ sizedMet enc C.prog fn (OpenSpec.ofChange s) apart (w.forCall tape i).memory i.args) ∧ a.holds C.prog (lone (Frame.enter C.prog f i.args .normal) [] (w.forCall tape i)))
   (contract : ∀ (W : World) (base : Nat) (args : Array Value) (ds gs : List (DataW H)) (before : List MemPlace),
     (∀ (j : Nat) t v, fn.params[j]? = some t → args[j]? = some v → Value.okWide C.prog W .any base t v) →
     DataW.Whole enc C.prog fn.params.toList s.vars apart W args.toList ds gs before →
     conds.all (PathCond.test C.prog ⟨fn.params.toList, ds, s.plain.varTypes C.prog, gs⟩) = true → X W args → W.ShapedOpen C.prog →
     Calls C.prog f args W fun e W' => ∃ v, e = .returned v ∧ s.post enc C.prog fn apart fresh handsOn again W args v W') :
   ReturnsInHanded a C os f .any (fun w args => (s.pre enc C.prog fn conds apart w args ∧ X w args) ∧ sizedMet enc C.prog fn (OpenSpec.ofChange s) apart w args) (s.post enc C.prog fn apart fresh handsOn again) := by
 refine returnsInHanded_of_calls own started noInit witness ?_
 intro w tape i _ hsh _ hok hpre _
 obtain ⟨_, _, _, fn', hfn', _, _, _, _, hval⟩ := hok
 have e : fn' = fn := Option.some.inj (hfn'.symm.trans hfn)
 subst e
 obtain ⟨⟨⟨ds, gs, before, hw, hc⟩, hx⟩, _⟩ := hpre
 have hw' := DataW.Whole.of_heap (w' := w.forCall tape i) (by rfl) hw
 refine (contract (w.forCall tape i) w.heap.size i.args ds gs before hval hw' hc (hX _ _ _ (by rfl) hx) hsh).mono fun e W' ⟨v, he, hp⟩ => ?_
 subst he
 exact ChangeSpec.post_blind hp
end

theorem gErr : Tryz.prog.globalNamed "strconv.ErrRange" = some 6 := by kernel_rfl
theorem tErr : (Tryz.prog.globals[6]?).map (·.type) = some 131 := by kernel_rfl
theorem gErrS : Tryz.prog.globalNamed "strconv.ErrSyntax" = some 5 := by kernel_rfl
theorem tErrS : (Tryz.prog.globals[5]?).map (·.type) = some 131 := by kernel_rfl
/-- What an interface's cells are. -/
theorem iface_of_trod {H : Type} {enc : TypeId × Value → H} {P : Program} {w : World} {base : Nat} {sp : Nat → Bool} {held : Bool} {fuel : Nat} {t : TypeId} {ms : Array (String × TypeId)} {cs : List Value} {x : DataW H × List MemPlace} (hu : P.underlying t = some (.interface ms))
   (h : DataW.trod enc P w base sp held fuel t cs = some x) : ∃ ev, cs = [ev] ∧ (ev = .nilIface ∨ ∃ te pe, ev = .iface te pe) := by
 cases fuel with
 | zero => simp [DataW.trod] at h
 | succ n =>
   unfold DataW.trod at h
   rw [hu] at h
   split at h <;> simp_all

set_option maxRecDepth 100000 in
theorem head_of_trod {H : Type} {enc : TypeId × Value → H} {W : World} {base : Nat} {sp : Nat → Bool} {held : Bool} {n : Nat} {cs : List Value} {x : DataW H × List MemPlace} (h : DataW.trod enc Tryz.prog W base sp held n 83 cs = some x) : ∃ c : Hd, c.ok ∧ cs = KH.cells c := by
 have hu := Tryz.underlying83
 obtain ⟨xs, k, _, _, hlen, hxl, hf⟩ := DataW.trod_struct hu h
 rw [show Tryz.prog.cellsOf 83 = 2 by kernel_rfl] at hlen
 match cs, hlen with
 | [c0, c1], _ =>
   match xs, hxl with
   | [y0, y1], _ =>
     have g0 := hf 0 _ rfl
     have g1 := hf 1 _ rfl
     simp only [List.getElem?_cons_zero, List.getElem?_cons_succ] at g0 g1
     obtain ⟨a0, e0, _, w0⟩ := DataW.trod_string Tryz.underlying9 g0
     obtain ⟨a1, e1, _, w1⟩ := DataW.trod_string Tryz.underlying9 g1
     injection e0 with e0
     injection e1 with e1
     subst e0 e1
     exact ⟨⟨a0, a1⟩, ⟨w0, w1⟩, rfl⟩
end Go.Proofs.YtafmgoekgijfgaaGreatDoor
namespace Go.Proofs.YtafmgoekgijfgaaGreatDoor
open Go.ChangeShapes Go.WideShapes Go.ChangeAt Go.RowKit

section
variable {P : Program} {H : Type} {enc : TypeId × Value → H} {W : World} {α : Type} {K : Kd α} {ok : α → Prop}
set_option maxRecDepth 100000 in
/-- A slice that is gone through. -/
theorem gat_of_trod {T : TypeId} (hu : P.underlying T = some (.slice K.t)) (hcs : P.cellsOf K.t = K.s)
   (ho : ∀ {base : Nat} {sp : Nat → Bool} {held : Bool} {n : Nat} {cs : List Value} {x : DataW H × List MemPlace}, DataW.trod enc P W base sp held n K.t cs = some x → ∃ a, ok a ∧ cs = K.cells a)
   {base fuel : Nat} {sp : Nat → Bool} {held : Bool} {cs : List Value} {x : DataW H × List MemPlace} (h0 : DataW.trod enc P W base sp held fuel T cs = some x) :
   ∃ (ao : Option Addr) (cap : Nat) (l : List α), cs = [.slice ao l.length cap] ∧ GAt K W (.slice ao l.length cap) l ∧ (∀ c ∈ l, ok c) ∧ l.length ≤ maxLen := by
 rcases Go.Deep.open_slice hu h0 with ⟨hcs0, _⟩ | ⟨a, len, cap, m, n, D, Pl, hcs0, _, hl, hm, hmm, _, hx⟩
 · exact ⟨none, 0, [], hcs0, GAt.nil W, (fun f h => by cases h), by simp⟩
 · have hlm : len ≤ m := by rw [hmm]; split <;> omega
   rw [hcs] at hx
   have hpos := K.pos
   obtain ⟨l, hll, hp⟩ := list_of_each' K.dft (p := fun i (f : α) => ok f ∧ ∀ j, j < K.s → W.cell? (a.add (i * K.s + j)) = (K.cells f)[j]?) len (fun i hi => by
     obtain ⟨cs', h1, h2⟩ := hx i (by omega)
     obtain ⟨f, hok, rfl⟩ := ho h2
     obtain ⟨_, _, hc⟩ := World.cells?_some h1
     exact ⟨f, hok, fun j hj => by rw [← hc j hj, Go.Deep.add_add]⟩)
   refine ⟨some a, cap, l, by rw [hcs0, hll], ⟨some a, cap, rfl, by omega, (fun h => by cases h), fun ad had i hi => ?_⟩, fun f hf => ?_, by omega⟩
   · cases had
     rw [hll] at hi
     have hc := (hp i hi).2
     have hs : a.spot = none := by
       have h3 := (hp 0 (by omega)).2 0 hpos
       rw [Nat.zero_mul, Nat.add_zero] at h3
       have h4 : 0 < (K.cells (l.getD 0 K.dft)).length := by rw [K.len]; exact hpos
       rw [List.getElem?_eq_getElem h4] at h3
       exact spot_of' (World.cell?_spot h3)
     refine ⟨hs, ?_, hc⟩
     rcases Nat.lt_or_ge a.block W.heap.size with h | h
     · exact h
     · have h3 := hc 0 hpos
       have h4 : 0 < (K.cells (l.getD i K.dft)).length := by rw [K.len]; exact hpos
       rw [List.getElem?_eq_getElem h4] at h3
       simp [World.cell?, addr_block, Array.getElem?_eq_none h] at h3
   · obtain ⟨i, hi, rfl⟩ := List.getElem_of_mem hf
     have := (hp i (by omega)).1
     simpa [List.getD, hi] using this
end
set_option maxRecDepth 100000 in
theorem byte_of_trod {H : Type} {enc : TypeId × Value → H} {W : World} {base : Nat} {sp : Nat → Bool} {held : Bool} {n : Nat} {cs : List Value} {x : DataW H × List MemPlace} (h : DataW.trod enc Tryz.prog W base sp held n 5 cs = some x) : ∃ c : UInt8, True ∧ cs = KB.cells c := by
 obtain ⟨a0, e0, _, w0⟩ := DataW.trod_int Tryz.underlying5 h
 simp [Lit.wf, IntKind.min, IntKind.max, IntKind.signed, IntKind.bits] at w0
 refine ⟨UInt8.ofNat a0.toNat, trivial, ?_⟩
 rw [e0]
 show [Value.int IntKind.u8 a0] = [Value.int IntKind.u8 ((UInt8.ofNat a0.toNat).toNat : Int)]
 rw [UInt8.toNat_ofNat']
 congr 2
 omega
set_option maxRecDepth 100000 in
theorem arg_bytes {H : Type} {enc : TypeId × Value → H} {W : World} {r : Reach} {base : Nat} {v : Value} {d : DataW H} {p : List MemPlace} (hval : Value.okWide Tryz.prog W r base 22 v)
   (h0 : DataW.Trod enc Tryz.prog W 0 (fun _ => true) true 22 v d p) : ∃ l : List UInt8, GAt KB W v l ∧ l.length ≤ maxLen := by
 obtain ⟨l, h1, _, h3⟩ := arg_g (K := KB) (ok := fun _ => True) Tryz.underlying22 (by kernel_rfl) (fun h => byte_of_trod h) hval h0
 exact ⟨l, h1, h3⟩
/-- What a message's cells are, as it comes in. -/
def RawOk (W : World) (r : RV) : Prop := ∃ x : Rw, RawAt W r x ∧ (∀ c ∈ x.heads, c.ok) ∧ r.s.size ≤ maxLen ∧ x.heads.length ≤ maxLen ∧ x.body.length ≤ maxLen
set_option maxRecDepth 100000 in
theorem raw_of_trod {H : Type} {enc : TypeId × Value → H} {W : World} {base : Nat} {sp : Nat → Bool} {held : Bool} {n : Nat} {cs : List Value} {x : DataW H × List MemPlace} (h : DataW.trod enc Tryz.prog W base sp held n 33 cs = some x) : ∃ r : RV, RawOk W r ∧ cs = RV.cells r := by
 have hu := Tryz.underlying33
 obtain ⟨xs, k, _, _, hlen, hxl, hf⟩ := DataW.trod_struct hu h
 rw [show Tryz.prog.cellsOf 33 = 3 by kernel_rfl] at hlen
 match cs, hlen with
 | [c0, c1, c2], _ =>
   match xs, hxl with
   | [y0, y1, y2], _ =>
     have g0 := hf 0 _ rfl
     have g1 := hf 1 _ rfl
     have g2 := hf 2 _ rfl
     have cst : Tryz.prog.cellsOf 9 = 1 := by kernel_rfl
     have ch : Tryz.prog.cellsOf 24 = 1 := by kernel_rfl
     have cb : Tryz.prog.cellsOf 22 = 1 := by kernel_rfl
     simp only [List.getElem?_cons_zero, List.getElem?_cons_succ] at g0 g1 g2
     obtain ⟨a0, e0, _, w0⟩ := DataW.trod_string Tryz.underlying9 g0
     obtain ⟨ao1, cap1, l1, e1, h1, k1, m1⟩ := gat_of_trod (K := KH) (ok := Hd.ok) Tryz.underlying24 (by kernel_rfl) (fun h => head_of_trod h) g1
     obtain ⟨ao2, cap2, l2, e2, h2, _, m2⟩ := gat_of_trod (K := KB) (ok := fun _ => True) Tryz.underlying22 (by kernel_rfl) (fun h => byte_of_trod h) g2
     injection e0 with e0
     injection e1 with e1
     injection e2 with e2
     subst e0 e1 e2
     exact ⟨⟨a0, ⟨ao1, l1.length, cap1⟩, ⟨ao2, l2.length, cap2⟩⟩, ⟨⟨a0.data.toList, l1, l2⟩, ⟨rfl, h1, h2⟩, k1, w0, m1, m2⟩, rfl⟩
set_option maxRecDepth 100000 in
theorem arg_raw {H : Type} {enc : TypeId × Value → H} {W : World} {r : Reach} {base : Nat} {v : Value} {d : DataW H} {p : List MemPlace} (hval : Value.okWide Tryz.prog W r base 33 v)
   (h0 : DataW.Trod enc Tryz.prog W 0 (fun _ => true) true 33 v d p) : ∃ c : RV, v = .agg (RV.cells c).toArray ∧ RawOk W c := by
 exact arg_g1 (K := KR 33) (ok := RawOk W) Tryz.underlying33 (fun h => raw_of_trod h) hval h0

/-- A request's cells. -/
structure QV where
 m : ByteArray
 t : ByteArray
 p : ByteArray
 q : ByteArray
 o : ByteArray
 h : Sl
 b : Sl
def QV.cells (r : QV) : List Value := [.string r.m, .string r.t, .string r.p, .string r.q, .string r.o, r.h.v, r.b.v]
abbrev QV.v (r : QV) : Value := .agg #[.string r.m, .string r.t, .string r.p, .string r.q, .string r.o, r.h.v, r.b.v]
/-- The cells read as the request x. -/
def ReqAt (W : World) (r : QV) (x : Rq) : Prop := r.m.data.toList = x.method ∧ r.t.data.toList = x.target ∧ r.p.data.toList = x.path ∧ r.q.data.toList = x.query ∧ r.o.data.toList = x.host ∧ GAt KH W r.h.v x.heads ∧ GAt KB W r.b.v x.body
theorem ReqAt.below {w w' : World} {r : QV} {x : Rq} (h : ReqAt w r x) (hb : Below w.heap.size w w') : ReqAt w' r x :=
 ⟨h.1, h.2.1, h.2.2.1, h.2.2.2.1, h.2.2.2.2.1, h.2.2.2.2.2.1.below hb, h.2.2.2.2.2.2.below hb⟩
end Go.Proofs.YtafmgoekgijfgaaGreatDoor
