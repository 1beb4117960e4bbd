/- The law HeadsOne (P9.7; the stage's theorem). -/
import Derived.Test.YtilefgmlnmpeoaaDoorHeadsOne1
import Derived.Test.YtilefgmlnmpeoaaDoorHeadsOne2
import Derived.Test.YtilefgmlnmpeoaaDoorHeadsOne3
namespace Go.Proofs.YtilefgmlnmpeoaaDoor
open Go.RowKit Go.Lib

theorem one_law (v : Value) (l : List Hd) (at_ : Int) (other : Hd) (value : ByteArray) (w0 : World) (hv : GAt KH w0 v l) (hE : Env w0) : Calls Tryd.prog 7 #[v, .int .i64 at_, hdV other, .string value] w0 (fun e w' => e = .returned (.bool true) ∧ Below w0.heap.size w0 w') := by
  cases hl : longP l
  · cases hh : longH other
    · by_cases hs : 500 < value.size
      · exact one_long3 v l at_ other value w0 hv hE hl hh hs
      · have hs2 : value.size ≤ 500 := by omega
        obtain ⟨⟨e0, x⟩, hr⟩ : ∃ r, framP l = r := ⟨_, rfl⟩
        rcases Nat.eq_zero_or_pos l.length with h0 | h0
        · have hn := List.length_eq_zero_iff.1 h0
          have hr0 : framP l = (0, ⟨0, 0, 0⟩) := by rw [hn]; rfl
          by_cases hc1 : other.n = clA
          · exact one_cl_0_none v l at_ other value w0 hv hE hl hh hs2 0 hr0 h0 hc1
          · by_cases hc2 : other.n = teA
            · exact one_te_0_none v l at_ other value w0 hv hE hl hh hs2 0 hr0 h0 hc2
            · exact one_free_0_none v l at_ other value w0 hv hE hl hh hs2 0 hr0 h0 hc1 hc2
        · rcases frm_shape hr with rfl | rfl | ⟨z, rfl⟩
          · by_cases hc1 : other.n = clA
            · exact one_cl_0 v l at_ other value w0 hv hE hl hh hs2 e0 hr h0 hc1
            · by_cases hc2 : other.n = teA
              · exact one_te_0 v l at_ other value w0 hv hE hl hh hs2 e0 hr h0 hc2
              · exact one_free_0 v l at_ other value w0 hv hE hl hh hs2 e0 hr h0 hc1 hc2
          · by_cases hc1 : other.n = clA
            · exact one_cl_1 v l at_ other value w0 hv hE hl hh hs2 e0 hr h0 hc1
            · by_cases hc2 : other.n = teA
              · exact one_te_1 v l at_ other value w0 hv hE hl hh hs2 e0 hr h0 hc2
              · exact one_free_1 v l at_ other value w0 hv hE hl hh hs2 e0 hr h0 hc1 hc2
          · by_cases hc1 : other.n = clA
            · exact one_cl_2 v l at_ other value w0 hv hE hl hh hs2 e0 z hr h0 hc1
            · by_cases hc2 : other.n = teA
              · exact one_te_2 v l at_ other value w0 hv hE hl hh hs2 e0 z hr h0 hc2
              · exact one_free_2 v l at_ other value w0 hv hE hl hh hs2 e0 z hr h0 hc1 hc2
    · exact one_long2 v l at_ other value w0 hv hE hl hh
  · exact one_long1 v l at_ other value w0 hv hE hl
end Go.Proofs.YtilefgmlnmpeoaaDoor
