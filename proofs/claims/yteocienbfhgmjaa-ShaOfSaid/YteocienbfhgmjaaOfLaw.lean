/- The law ShaOf: its walk. -/
import Derived.Test.YteocienbfhgmjaaRefOf
import Derived.Test.YteocienbfhgmjaaAwake
namespace Go.Proofs.Yteocienbfhgmjaa
open Go.RowKit

set_option maxRecDepth 100000 in
set_option maxHeartbeats 1000000 in
theorem of_walk (xs : List Int) (v : Value) (w : World) (hx : SlAt w v xs) (hb : ∀ x ∈ xs, 0 ≤ x ∧ x < 256) (hm : xs.length ≤ maxLen) :
    Calls Try.prog 5 #[v] w (LawPost w) := by
  obtain ⟨ao, cap, rfl⟩ := hx.len
  have HX := hide hx
  have HBY := hide hb
  obtain ⟨n, hn⟩ : ∃ n, n = xs.length := ⟨_, rfl⟩
  have HN := hide hn
  rw [← hn] at HX hm ⊢
  unfold maxLen at hm
  clear hx hn hb
  go_enter Try.func5, Try.ntmps5
  by_cases hbig : 4000 < n
  · go_wp2_with fail
    refine (awake_any _).mono ?_
    rintro e w1 ⟨rfl, hB⟩
    go_wp2_with fail
    go_ret
    exact ⟨rfl, hB⟩
  · go_wp2_with fail
    have hB0 : Below w.heap.size w (w.alloc (.cells #[.slice ao n cap] 28)) := (Below.refl _ _).alloc (Nat.le_refl _) _
    have hO := of_any [xs] w.heap.size 0 1 (w.alloc (.cells #[.slice ao n cap] 28)) (parts_one (sv := .slice ao n cap) ((cell_of_row _ _ 0 _ _ _ (heap_alloc_new _ _)).trans rfl) (by simp) (HX.out.below hB0)) (by simp) (by simp) (by simp [← HN.out]; omega)
    have HO := hide hO
    have HB0 := hide hB0
    clear hO hB0
    refine HO.out.mono ?_
    rintro e w1 ⟨rfl, hB1⟩
    have HB1 : Hid (Below w.heap.size w w1) := hide (below_through hB1 HB0.out)
    clear hB1 HO HB0
    rw [show [xs].flatten = xs by simp]
    have HR := hide (ofR_any xs (.slice ao n cap) w1 (HX.out.below HB1.out) HBY.out (by have := HN.out; omega))
    obtain ⟨T, hT⟩ : ∃ T, T = sumS xs := ⟨_, rfl⟩
    have hTl : T.length = 32 := by rw [hT]; exact length_outS _
    rw [← hT] at HR ⊢
    have HTL := hide hTl
    clear hT hTl
    have heq : ∀ w, (Op.equalIn 10000 36 (.agg (cellsOf .u8 T)) (.agg (cellsOf .u8 T))).run Try.prog w = .ok true w := eq36 _ T rfl HTL.out
    go_wp2_with fail
    refine HR.out.mono ?_
    rintro e w2 ⟨rfl, hB2⟩
    have HB2 := hide (below_through hB2 HB1.out)
    clear hB2 HR HB1
    go_wp2_with fail
    refine (awake_any _).mono ?_
    rintro e w3 ⟨rfl, hB3⟩
    have HB3 := hide (below_through hB3 HB2.out)
    clear hB3
    go_wp2_with fail
    go_ret
    exact ⟨rfl, HB3.out⟩
end Go.Proofs.Yteocienbfhgmjaa
