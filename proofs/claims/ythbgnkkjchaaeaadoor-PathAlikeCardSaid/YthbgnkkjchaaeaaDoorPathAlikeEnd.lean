/- The law PathAlike, whatever its arguments. -/
import Derived.Test.YthbgnkkjchaaeaaDoorPathAlikeLaw
namespace Go.Proofs.YthbgnkkjchaaeaaDoor
open Go.RowKit

theorem palike_law (s : ByteArray) (z what : Int) (w0 : World) (hE : Env w0) : Calls Tryd.prog 5 #[.string s, .int .i64 z, .int .i64 what] w0 (fun e w' => e = .returned (.bool true) ∧ Below w0.heap.size w0 w') := by
  by_cases h0 : 300 < s.size
  · exact palike_long s z what h0 w0 hE
  by_cases h1 : z < 0
  · exact palike_low s z what h0 h1 w0 hE
  by_cases h2 : (s.size : Int) ≤ z
  · exact palike_high s z what h0 h1 h2 w0 hE
  obtain ⟨m, rfl⟩ := Int.eq_ofNat_of_zero_le (show 0 ≤ z by omega)
  have hm : m < s.size := by omega
  cases hn : norP s.data.toList with
  | none => exact palike_none s m what h0 hm hn w0 hE
  | some pq =>
    obtain ⟨p, q⟩ := pq
    exact palike_main s m what h0 hm p q hn w0 hE
end Go.Proofs.YthbgnkkjchaaeaaDoor
