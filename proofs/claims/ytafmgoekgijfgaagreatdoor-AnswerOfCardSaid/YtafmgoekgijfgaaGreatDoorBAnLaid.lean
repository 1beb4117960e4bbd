/- What the rows of the answers' laws list (no table of cases): what their condition gives, and a heap that meets it. -/
import Derived.Test.YtafmgoekgijfgaaGreatDoorBRqM6
import Derived.Test.YtafmgoekgijfgaaGreatDoorBRqMB
namespace Go.Proofs.YtafmgoekgijfgaaGreatDoor
open Go.ChangeShapes Go.WideShapes Go.ChangeAt Go.RowKit

noncomputable def laidA : List (String × DataW Unit) := [("math/bits.deBruijn32tab", Rows.laid_math_bits_deBruijn32tab), ("math/bits.deBruijn64tab", Rows.laid_math_bits_deBruijn64tab), ("internal/strconv.uint64pow10", Rows.laid_internal_strconv_uint64pow10), ("unicode/utf8.acceptRanges", Rows.laid_unicode_utf8_acceptRanges), ("strconv.ErrRange", Rows.laid_strconv_ErrRange), ("strconv.ErrSyntax", Rows.laid_strconv_ErrSyntax), ("unicode/utf8.first", Rows.laid_unicode_utf8_first)]
theorem env_of_laidA {W : World} (h : laidMetH Tryz.prog laidA W) : (Env W ∧ EnvS W) ∧ EnvT W := by
 rw [MakeChecks.laidMetH_plain _ _ _ (by kernel_rfl)] at h
 obtain ⟨ps, ⟨g0, t0, cs0, f0, p0, q0, hg0, ht0, hv0, hd0, ⟨g1, t1, cs1, f1, p1, q1, hg1, ht1, hv1, hd1, ⟨g2, t2, cs2, f2, p2, q2, hg2, ht2, hv2, hd2, ⟨g3, t3, cs3, f3, p3, q3, hg3, ht3, hv3, hd3, ⟨g4, t4, cs4, f4, p4, q4, hg4, ht4, hv4, hd4, ⟨g5, t5, cs5, f5, p5, q5, hg5, ht5, hv5, hd5, _⟩, _⟩, _⟩, _⟩, _⟩, _⟩, _⟩ := h
 refine ⟨⟨?_, ?_⟩, ?_⟩
 · obtain rfl := Option.some.inj (gErr.symm.trans hg4)
   obtain rfl := Option.some.inj (tErr.symm.trans ht4)
   obtain ⟨ev, he, hi⟩ := iface_of_trod Tryz.underlying131 hd4
   refine ⟨ev, ?_, hi⟩
   obtain rfl : cs4 = #[ev] := Array.toList_inj.1 he
   rw [World.var?_cell gErr hv4 0]
   rfl
 · obtain rfl := Option.some.inj (gErrS.symm.trans hg5)
   obtain rfl := Option.some.inj (tErrS.symm.trans ht5)
   obtain ⟨ev, he, hi⟩ := iface_of_trod Tryz.underlying131 hd5
   refine ⟨ev, ?_, hi⟩
   obtain rfl : cs5 = #[ev] := Array.toList_inj.1 he
   rw [World.var?_cell gErrS hv5 0]
   rfl
 · obtain rfl := Option.some.inj (gT64.symm.trans hg1)
   obtain rfl := Option.some.inj (tT64.symm.trans ht1)
   rw [laid64] at hd1
   have e := Lib.cells_of_tab Tryz.underlying241 Tryz.underlying5 (by kernel_rfl) (by kernel_rfl) hd1
   refine ⟨?_⟩
   obtain rfl : cs1 = (zs64.map fun z => Value.int .u8 z).toArray := Array.toList_inj.1 e
   rw [World.var?_cell gT64 hv1 15]
   rfl
/-- A heap that meets the condition. -/
theorem door_metA (os : Os) (args : Array Value) : laidMetH Tryz.prog laidA ((World.laidAll Tryz.prog os laidA).forCall (fun _ _ => 0) ⟨#[], args, []⟩).memory := by
 rw [MakeChecks.laidMetH_plain _ _ _ (by kernel_rfl)]; exact laidMet_laidAll _ (by kernel_rfl) (by kernel_rfl)
end Go.Proofs.YtafmgoekgijfgaaGreatDoor
