/- The tables that the rows list: what their condition gives, and a heap that meets it. -/
import Derived.Test.YtaomigfmjglggaaDoorRows
import Derived.Test.YtaomigfmjglggaaDoorCdWr
import Derived.ProofKit
import Derived.LaidMore
import Derived.OpenShut
import Derived.MakeChecks
import Derived.Stop.Joined
namespace Go.Proofs.YtaomigfmjglggaaDoor
open Go.ChangeShapes Go.WideShapes Go.ChangeAt Go.RowKit

noncomputable def laidL : List (String × DataW Unit) := [("gatepost/code.placesOfU32", Rows.laid_gatepost_code_placesOfU32), ("gatepost/code.placesOfUint", Rows.laid_gatepost_code_placesOfUint)]

theorem cells_of_laid {P : Program} {w : World} {sp : Nat → Bool} {fuel : Nat} {t e : TypeId} {n : Nat} {k : IntKind} {cs : Array Value} {l : List Int} {p : List MemPlace} (hu : P.underlying t = some (.array n e)) (he : P.underlying e = some (.int k)) (hc : P.cellsOf e = 1) (hct : P.cellsOf t = n) (hl : l.length = n)
    (h : DataW.trod (fun _ => ()) P w 0 sp false fuel t cs.toList = some (.agg (l.map fun z => .lit (.int k z)), p)) : cs = cellsOf k l := by
  obtain ⟨xs, m, _, hx, hlen, hxl, hel⟩ := DataW.trod_array hu h
  rw [hct] at hlen
  simp only [Prod.mk.injEq, DataW.agg.injEq] at hx
  apply Array.toList_inj.1
  rw [toArray_cellsOf]
  refine List.ext_getElem (by rw [hlen, List.length_map, hl]) fun i h1 h2 => ?_
  have hi : i < n := by omega
  have h3 := hel i hi
  rw [hc, Nat.mul_one, List.getElem?_eq_getElem (by omega), List.drop_eq_getElem_cons h1] at h3
  simp only [List.take_succ_cons, List.take_zero] at h3
  obtain ⟨q, e1, e2, _⟩ := DataW.trod_int he h3
  have e3 : (xs.map (·.1))[i]? = (l.map fun z => DataW.lit (Lit.int k z))[i]? := by rw [← hx.1]
  rw [List.getElem?_map, List.getElem?_map, List.getElem?_eq_getElem (by omega : i < xs.length), List.getElem?_eq_getElem (by omega : i < l.length), Option.map_some, Option.map_some] at e3
  injection e3 with e3
  rw [e2] at e3
  injection e3 with e3
  injection e3 with _ e3
  injection e1 with e1
  rw [e1, List.getElem_map]
  congr 1

theorem gU32 : Tryd.prog.globalNamed "gatepost/code.placesOfU32" = some 0 := by kernel_rfl
theorem gUint : Tryd.prog.globalNamed "gatepost/code.placesOfUint" = some 1 := by kernel_rfl
theorem tU32 : (Tryd.prog.globals[0]?).map (·.type) = some 111 := by kernel_rfl
theorem tUint : (Tryd.prog.globals[1]?).map (·.type) = some 133 := by kernel_rfl

theorem row_of_var {P : Program} {w : World} {name : String} {g : Nat} {cs : Array Value} (hg : P.globalNamed name = some g) (h : w.var? P name = some cs) : ∃ t fr, w.heap[g]? = some (.cells cs t fr) := by
  unfold World.var? at h
  rw [hg] at h
  simp only [Option.bind_some] at h
  split at h
  · rename_i t fr heq
    injection h with h
    exact ⟨_, _, by rw [heq, h]⟩
  · cases h

/-- WHAT THE CONDITION GIVES. -/
theorem tab_of_laid {W : World} (h : laidMetH Tryd.prog laidL W) : Tab W := by
  rw [MakeChecks.laidMetH_plain _ _ _ (by kernel_rfl)] at h
  obtain ⟨ps, ⟨g0, t0, cs0, f0, p0, q0, hg0, ht0, hv0, hd0, ⟨g1, t1, cs1, f1, p1, q1, hg1, ht1, hv1, hd1, _, _⟩, _⟩, _, _⟩ := h
  obtain rfl := Option.some.inj (gU32.symm.trans hg0)
  obtain rfl := Option.some.inj (gUint.symm.trans hg1)
  obtain rfl := Option.some.inj (tU32.symm.trans ht0)
  obtain rfl := Option.some.inj (tUint.symm.trans ht1)
  have e0 := cells_of_laid (l := places4) Tryd.underlying111 Tryd.underlying3 (by kernel_rfl) (by kernel_rfl) rfl hd0
  have e1 := cells_of_laid (l := places10) Tryd.underlying133 Tryd.underlying3 (by kernel_rfl) (by kernel_rfl) rfl hd1
  subst e0 e1
  exact ⟨row_of_var hg0 hv0, row_of_var hg1 hv1⟩

/-- The door's own heap meets the condition. -/
theorem door_met (os : Os) (args : Array Value) : laidMetH Tryd.prog laidL ((World.doorLaid Tryd.prog 400 os).forCall (fun _ _ => 0) ⟨#[], args, []⟩).memory :=
  laidMetH_of_parts3 (fuel := 8) (laidMet_of_run' 8 (by kernel_rfl) (by kernel_rfl)) (by kernel_rfl) (by kernel_rfl)
end Go.Proofs.YtaomigfmjglggaaDoor
