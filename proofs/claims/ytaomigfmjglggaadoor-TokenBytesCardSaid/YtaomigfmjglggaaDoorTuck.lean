/- A fact that no tactic looks into. -/
import Derived.Test.YtaomigfmjglggaaDoorProg
namespace Go.Proofs.YtaomigfmjglggaaDoor

/-- A fact that no tactic looks into. -/
structure Tuck (p : Prop) : Prop where
  out : p
theorem tuck {p : Prop} (h : p) : Tuck p := ⟨h⟩
end Go.Proofs.YtaomigfmjglggaaDoor
