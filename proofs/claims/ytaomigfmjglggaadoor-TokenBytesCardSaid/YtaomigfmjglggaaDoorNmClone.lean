/- strings.Clone. -/
import Derived.Test.YtaomigfmjglggaaDoorNmLab
import Derived.Test.YtaomigfmjglggaaDoorShelf
import Derived.Below
import Derived.StillTactics
namespace Go.Proofs.YtaomigfmjglggaaDoor
open Go.RowKit Go.Lib

set_option maxRecDepth 100000 in
theorem strClone_any (s : ByteArray) (hs : s.size ≤ 281474976710656) (w : World) : Calls Tryd.prog 34 #[.string s] w (fun e w' => e = .returned (.string s) ∧ Below w.heap.size w w') := by
  have HC := hideL (fun W : World => Any.stringslite_Clone Tryd.laysM316 s W hs)
  go_enter Tryd.func34, Tryd.ntmps34
  go_wp2_with (go_at_call 47; refine (HC.out _).mono ?_; rintro e w2 ⟨rfl, hB2⟩)
  go_ret
  exact ⟨rfl, hB2⟩

end Go.Proofs.YtaomigfmjglggaaDoor
