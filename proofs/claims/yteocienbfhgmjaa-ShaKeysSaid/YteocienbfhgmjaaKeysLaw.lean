/- The law ShaKeys: its walk. -/
import Derived.Test.YteocienbfhgmjaaRt6
import Derived.Test.YteocienbfhgmjaaAwake
namespace Go.Proofs.Yteocienbfhgmjaa
open Go.RowKit

set_option maxRecDepth 100000 in
theorem keys_walk (w : World) : Calls Try.prog 3 #[] w (LawPost w) := by
  obtain ⟨K, hK⟩ : ∃ K, K = keysS := ⟨_, rfl⟩
  obtain ⟨F, hF⟩ : ∃ F, F = firstS := ⟨_, rfl⟩
  have hk := eqAgg 64 26 23 Try.underlying26 Try.underlying23 size23 K (by rw [hK]; rfl)
  have hf := eqAgg 8 24 23 Try.underlying24 Try.underlying23 size23 F (by rw [hF]; rfl)
  have HK := hide hK
  have HF := hide hF
  clear hK hF
  go_enter Try.func3, Try.ntmps3
  go_wp2_with fail
  refine (right_ref _).mono ?_
  rintro e w1 ⟨rfl, hB1⟩
  have HB1 := hide hB1
  clear hB1
  go_wp2_with fail
  refine (first_any _).mono ?_
  rintro e w2 ⟨rfl, hB2⟩
  have HB2 := hide (below_through hB2 HB1.out)
  clear hB2
  rw [← HF.out]
  go_wp2_with fail
  refine (firstR _).mono ?_
  rintro e w3 ⟨rfl, hB3⟩
  have HB3 := hide (below_through hB3 HB2.out)
  clear hB3
  rw [← HF.out]
  go_wp2_with fail
  refine (keys_any _).mono ?_
  rintro e w4 ⟨rfl, hB4⟩
  have HB4 := hide (below_through hB4 HB3.out)
  clear hB4
  rw [← HK.out]
  go_wp2_with fail
  refine (keysR _).mono ?_
  rintro e w5 ⟨rfl, hB5⟩
  have HB5 := hide (below_through hB5 HB4.out)
  clear hB5
  rw [← HK.out]
  go_wp2_with fail
  refine (awake_any _).mono ?_
  rintro e w6 ⟨rfl, hB6⟩
  have HB6 := hide (below_through hB6 HB5.out)
  clear hB6
  go_wp2_with fail
  go_ret
  exact ⟨rfl, HB6.out⟩
end Go.Proofs.Yteocienbfhgmjaa
