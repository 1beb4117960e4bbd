/- squareRootBits and cubicRootBits of package sha: their contracts. -/
import Derived.Test.YteocienbfhgmjaaProg
import Derived.Test.YteocienbfhgmjaaPrimeP
import Derived.Test.YteocienbfhgmjaaRoot2
import Derived.WalkKit
import Derived.WalkSpells
import Derived.WalkLawsBesides
namespace Go.Proofs.Yteocienbfhgmjaa
open Go.RowKit

set_option maxRecDepth 100000 in
set_option maxHeartbeats 400000 in
theorem sqBits_any (p : Nat) (w : World) (hp : p < 400) :
    Calls Try.prog 32 #[.int .u32 p] w fun e w' => e = .returned (.int .u32 ((sqRoot p : Nat) : Int)) ∧ Below w.heap.size w w' := by
  go_enter Try.func32, Try.ntmps32
  go_wp2_with fail
  refine (sqLast p ⟨w.heap.size, 0, none⟩ _ hp (by simp) (by simp)).mono ?_
  obtain ⟨z, hz⟩ : ∃ z, z = (halves (sqB p) 35).1 := ⟨_, rfl⟩
  rw [← hz]
  have HZ := hide hz
  clear hz
  rintro e w' ⟨rfl, hB⟩
  have hB2 : Below w.heap.size w w' := ((Below.refl _ _).alloc (Nat.le_refl _) _).trans (hB.mono (by simp))
  clear hB
  go_wp2_with fail
  go_ret
  exact ⟨by rw [sqRoot, ← HZ.out]; rfl, hB2⟩

set_option maxRecDepth 100000 in
set_option maxHeartbeats 400000 in
theorem cbBits_any (p : Nat) (w : World) (hp : p < 400) :
    Calls Try.prog 34 #[.int .u32 p] w fun e w' => e = .returned (.int .u32 ((cbRoot p : Nat) : Int)) ∧ Below w.heap.size w w' := by
  go_enter Try.func34, Try.ntmps34
  go_wp2_with fail
  refine (cbLast p ⟨w.heap.size, 0, none⟩ _ hp (by simp) (by simp)).mono ?_
  obtain ⟨z, hz⟩ : ∃ z, z = (halves (cbB p) 35).1 := ⟨_, rfl⟩
  rw [← hz]
  have HZ := hide hz
  clear hz
  rintro e w' ⟨rfl, hB⟩
  have hB2 : Below w.heap.size w w' := ((Below.refl _ _).alloc (Nat.le_refl _) _).trans (hB.mono (by simp))
  clear hB
  go_wp2_with fail
  go_ret
  exact ⟨by rw [cbRoot, ← HZ.out]; rfl, hB2⟩
end Go.Proofs.Yteocienbfhgmjaa
