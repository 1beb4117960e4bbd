/- The roots of package sha, square and cubic: their contracts. -/
import Derived.Test.YtaomigfmjglggaaDoorProg
import Derived.Test.YtaomigfmjglggaaDoorBase
import Derived.Test.YtaomigfmjglggaaDoorRoots
import Derived.Test.YtaomigfmjglggaaDoorSpread
import Derived.WalkKit
import Derived.WalkSpells
import Derived.WalkLawsBesides
import Derived.Deep.LoopGhost
namespace Go.Proofs.YtaomigfmjglggaaDoor
open Go.RowKit

set_option maxRecDepth 100000 in
set_option maxHeartbeats 400000 in
theorem sqLast (p : Nat) (pa : Addr) (w : World) (hp : p < 400) (hpa : pa.block < w.heap.size) (hc : w.cell? pa = some (.int .u32 (p : Int))) :
    Calls Tryd.prog 114 #[.func (.func 115) #[] #[.pointer (some pa)]] w
      fun e w' => e = .returned (.int .u64 (((halves (sqB p) 35).1 : Nat) : Int)) ∧ Below w.heap.size w w' := by
  go_enter Tryd.func114, Tryd.ntmps114
  go_wp2_with fail
  go_loopg [7] 35 (fun g _ wr => ∃ k : Nat, k + g = 35 ∧ wr.cell? ⟨w.heap.size, 0, none⟩ = some (.func (.func 115) #[] #[.pointer (some pa)]) ∧
      wr.cell? ⟨w.heap.size + 1, 0, none⟩ = some (.int .u64 (((halves (sqB p) k).1 : Nat) : Int)) ∧ wr.cell? ⟨w.heap.size + 1 + 1, 0, none⟩ = some (.int .u64 (((halves (sqB p) k).2 : Nat) : Int)) ∧
      wr.frozen? ⟨w.heap.size + 1, 0, none⟩ = false ∧ wr.frozen? ⟨w.heap.size + 1 + 1, 0, none⟩ = false ∧ Below w.heap.size w wr)
  case atStart =>
    exact ⟨0, rfl, (cell_of_row _ _ 0 _ _ _ (heap3_0 _ _ _ _)).trans rfl, (cell_of_row _ _ 0 _ _ _ (heap3_1 _ _ _ _)).trans rfl, (cell_of_row _ _ 0 _ _ _ (heap3_2 _ _ _ _)).trans rfl, frozen_of_row _ _ 0 _ _ (heap3_1 _ _ _ _), frozen_of_row _ _ 0 _ _ (heap3_2 _ _ _ _), (((Below.refl _ _).alloc (Nat.le_refl _) _).alloc (by simp) _).alloc (by simp; omega) _⟩
  case round =>
    obtain ⟨k, hk, hbx, hlo, hhi, hfl, hfh, hB⟩ := hrel
    have hgap := halves_gap (sqB p) k (by omega)
    have hcp : wr.cell? pa = some (.int .u32 (p : Int)) := (hB.cell hpa).trans hc
    by_cases hg : gk = 0
    · have h35 : k = 35 := by omega
      subst h35
      obtain ⟨lo, hlo'⟩ : ∃ lo, lo = (halves (sqB p) 35).1 := ⟨_, rfl⟩
      obtain ⟨hi, hhi'⟩ : ∃ hi, hi = (halves (sqB p) 35).2 := ⟨_, rfl⟩
      rw [← hlo'] at hlo
      rw [← hhi'] at hhi
      rw [← hlo', ← hhi'] at hgap
      have hle : lo ≤ hi := by omega
      have ht : ¬ (1 : Int) < (hi : Int) - (lo : Int) := by omega
      have HLO := hide hlo'
      clear hgap hk hg hlo' hhi'
      go_wp2_with fail
      go_ret
      exact ⟨by rw [← HLO.out]; rfl, hB⟩
    · have hstep : halves (sqB p) (k + 1) = (if sqB p ((halves (sqB p) k).1 + ((halves (sqB p) k).2 - (halves (sqB p) k).1) / 2) then ((halves (sqB p) k).1 + ((halves (sqB p) k).2 - (halves (sqB p) k).1) / 2, (halves (sqB p) k).2) else ((halves (sqB p) k).1, (halves (sqB p) k).1 + ((halves (sqB p) k).2 - (halves (sqB p) k).1) / 2)) := rfl
      have h2 : 2 ≤ 2 ^ (35 - k) := by
        have : 2 ^ (35 - k) = 2 * 2 ^ (35 - (k + 1)) := by rw [← Nat.pow_succ']; congr 1; omega
        have := Nat.two_pow_pos (35 - (k + 1)); omega
      generalize halves (sqB p) k = hv at hlo hhi hgap hstep
      obtain ⟨lo, hi⟩ := hv
      simp only at hlo hhi hgap hstep
      have ht : (1 : Int) < (hi : Int) - (lo : Int) := by omega
      have hlt : lo < hi := by omega
      have hhi2 : hi ≤ 34359738368 := hgap.2
      have hH := hide (sqHalve p lo hi pa w.heap.size wr hp hlt (hide hgap.2) hlo hhi hfl hfh hbx hcp)
      have HSTEP := hide hstep
      have HK := hide hk
      have HG := hide hg
      clear hgap hstep hk hg h2
      go_wp2_with fail
      refine hH.out.mono ?_
      cases hb : sqB p (lo + (hi - lo) / 2)
      · rintro e w' ⟨rfl, hw'⟩
        simp only at hw'
        have HST := hide (HSTEP.out.trans (by rw [if_neg (by rw [hb]; decide)]))
        have hB1 := hide (hB.setCell (p := ⟨w.heap.size + 1 + 1, 0, none⟩) (by show w.heap.size ≤ w.heap.size + 1 + 1; omega) (.int .u64 ((lo + (hi - lo) / 2 : Nat) : Int)))
        rw [← hw'] at hB1
        have hbx1 : w'.cell? ⟨w.heap.size, 0, none⟩ = some (.func (.func 115) #[] #[.pointer (some pa)]) := by rw [hw']; exact (World.cell?_setCell_other _ _ _ _ (by intro h; injection h with h1; omega)).trans hbx
        have hlo1 : w'.cell? ⟨w.heap.size + 1, 0, none⟩ = some (.int .u64 (lo : Int)) := by rw [hw']; exact (World.cell?_setCell_other _ _ _ _ (by intro h; injection h with h1; omega)).trans hlo
        have hhi1 : w'.cell? ⟨w.heap.size + 1 + 1, 0, none⟩ = some (.int .u64 ((lo + (hi - lo) / 2 : Nat) : Int)) := by rw [hw']; exact World.cell?_setCell_same' _ _ _ (by rw [hhi]; rfl)
        have hfl1 : w'.frozen? ⟨w.heap.size + 1, 0, none⟩ = false := by rw [hw', World.frozen?_setCell]; exact hfl
        have hfh1 : w'.frozen? ⟨w.heap.size + 1 + 1, 0, none⟩ = false := by rw [hw', World.frozen?_setCell]; exact hfh
        clear hw' hbx hlo hhi hfl hfh hb HSTEP hH hcp
        go_wp2_with fail
        go_roundg (gk - 1)
        case measure => have := HG.out; omega
        case rel => exact ⟨k + 1, by have := HK.out; have := HG.out; omega, hbx1, by rw [HST.out]; exact hlo1, by rw [HST.out]; exact hhi1, hfl1, hfh1, hB1.out⟩
      · rintro e w' ⟨rfl, hw'⟩
        simp only at hw'
        have HST := hide (HSTEP.out.trans (by rw [if_pos hb]))
        have hB1 := hide (hB.setCell (p := ⟨w.heap.size + 1, 0, none⟩) (by show w.heap.size ≤ w.heap.size + 1; omega) (.int .u64 ((lo + (hi - lo) / 2 : Nat) : Int)))
        rw [← hw'] at hB1
        have hbx1 : w'.cell? ⟨w.heap.size, 0, none⟩ = some (.func (.func 115) #[] #[.pointer (some pa)]) := by rw [hw']; exact (World.cell?_setCell_other _ _ _ _ (by intro h; injection h with h1; omega)).trans hbx
        have hlo1 : w'.cell? ⟨w.heap.size + 1, 0, none⟩ = some (.int .u64 ((lo + (hi - lo) / 2 : Nat) : Int)) := by rw [hw']; exact World.cell?_setCell_same' _ _ _ (by rw [hlo]; rfl)
        have hhi1 : w'.cell? ⟨w.heap.size + 1 + 1, 0, none⟩ = some (.int .u64 (hi : Int)) := by rw [hw']; exact (World.cell?_setCell_other _ _ _ _ (by intro h; injection h with h1; omega)).trans hhi
        have hfl1 : w'.frozen? ⟨w.heap.size + 1, 0, none⟩ = false := by rw [hw', World.frozen?_setCell]; exact hfl
        have hfh1 : w'.frozen? ⟨w.heap.size + 1 + 1, 0, none⟩ = false := by rw [hw', World.frozen?_setCell]; exact hfh
        clear hw' hbx hlo hhi hfl hfh hb HSTEP hH hcp
        go_wp2_with fail
        go_roundg (gk - 1)
        case measure => have := HG.out; omega
        case rel => exact ⟨k + 1, by have := HK.out; have := HG.out; omega, hbx1, by rw [HST.out]; exact hlo1, by rw [HST.out]; exact hhi1, hfl1, hfh1, hB1.out⟩

set_option maxRecDepth 100000 in
set_option maxHeartbeats 400000 in
theorem cbLast (p : Nat) (pa : Addr) (w : World) (hp : p < 400) (hpa : pa.block < w.heap.size) (hc : w.cell? pa = some (.int .u32 (p : Int))) :
    Calls Tryd.prog 114 #[.func (.func 118) #[] #[.pointer (some pa)]] w
      fun e w' => e = .returned (.int .u64 (((halves (cbB p) 35).1 : Nat) : Int)) ∧ Below w.heap.size w w' := by
  go_enter Tryd.func114, Tryd.ntmps114
  go_wp2_with fail
  go_loopg [7] 35 (fun g _ wr => ∃ k : Nat, k + g = 35 ∧ wr.cell? ⟨w.heap.size, 0, none⟩ = some (.func (.func 118) #[] #[.pointer (some pa)]) ∧
      wr.cell? ⟨w.heap.size + 1, 0, none⟩ = some (.int .u64 (((halves (cbB p) k).1 : Nat) : Int)) ∧ wr.cell? ⟨w.heap.size + 1 + 1, 0, none⟩ = some (.int .u64 (((halves (cbB p) k).2 : Nat) : Int)) ∧
      wr.frozen? ⟨w.heap.size + 1, 0, none⟩ = false ∧ wr.frozen? ⟨w.heap.size + 1 + 1, 0, none⟩ = false ∧ Below w.heap.size w wr)
  case atStart =>
    exact ⟨0, rfl, (cell_of_row _ _ 0 _ _ _ (heap3_0 _ _ _ _)).trans rfl, (cell_of_row _ _ 0 _ _ _ (heap3_1 _ _ _ _)).trans rfl, (cell_of_row _ _ 0 _ _ _ (heap3_2 _ _ _ _)).trans rfl, frozen_of_row _ _ 0 _ _ (heap3_1 _ _ _ _), frozen_of_row _ _ 0 _ _ (heap3_2 _ _ _ _), (((Below.refl _ _).alloc (Nat.le_refl _) _).alloc (by simp) _).alloc (by simp; omega) _⟩
  case round =>
    obtain ⟨k, hk, hbx, hlo, hhi, hfl, hfh, hB⟩ := hrel
    have hgap := halves_gap (cbB p) k (by omega)
    have hcp : wr.cell? pa = some (.int .u32 (p : Int)) := (hB.cell hpa).trans hc
    by_cases hg : gk = 0
    · have h35 : k = 35 := by omega
      subst h35
      obtain ⟨lo, hlo'⟩ : ∃ lo, lo = (halves (cbB p) 35).1 := ⟨_, rfl⟩
      obtain ⟨hi, hhi'⟩ : ∃ hi, hi = (halves (cbB p) 35).2 := ⟨_, rfl⟩
      rw [← hlo'] at hlo
      rw [← hhi'] at hhi
      rw [← hlo', ← hhi'] at hgap
      have hle : lo ≤ hi := by omega
      have ht : ¬ (1 : Int) < (hi : Int) - (lo : Int) := by omega
      have HLO := hide hlo'
      clear hgap hk hg hlo' hhi'
      go_wp2_with fail
      go_ret
      exact ⟨by rw [← HLO.out]; rfl, hB⟩
    · have hstep : halves (cbB p) (k + 1) = (if cbB p ((halves (cbB p) k).1 + ((halves (cbB p) k).2 - (halves (cbB p) k).1) / 2) then ((halves (cbB p) k).1 + ((halves (cbB p) k).2 - (halves (cbB p) k).1) / 2, (halves (cbB p) k).2) else ((halves (cbB p) k).1, (halves (cbB p) k).1 + ((halves (cbB p) k).2 - (halves (cbB p) k).1) / 2)) := rfl
      have h2 : 2 ≤ 2 ^ (35 - k) := by
        have : 2 ^ (35 - k) = 2 * 2 ^ (35 - (k + 1)) := by rw [← Nat.pow_succ']; congr 1; omega
        have := Nat.two_pow_pos (35 - (k + 1)); omega
      generalize halves (cbB p) k = hv at hlo hhi hgap hstep
      obtain ⟨lo, hi⟩ := hv
      simp only at hlo hhi hgap hstep
      have ht : (1 : Int) < (hi : Int) - (lo : Int) := by omega
      have hlt : lo < hi := by omega
      have hhi2 : hi ≤ 34359738368 := hgap.2
      have hH := hide (cbHalve p lo hi pa w.heap.size wr hp hlt (hide hgap.2) hlo hhi hfl hfh hbx hcp)
      have HSTEP := hide hstep
      have HK := hide hk
      have HG := hide hg
      clear hgap hstep hk hg h2
      go_wp2_with fail
      refine hH.out.mono ?_
      cases hb : cbB p (lo + (hi - lo) / 2)
      · rintro e w' ⟨rfl, hw'⟩
        simp only at hw'
        have HST := hide (HSTEP.out.trans (by rw [if_neg (by rw [hb]; decide)]))
        have hB1 := hide (hB.setCell (p := ⟨w.heap.size + 1 + 1, 0, none⟩) (by show w.heap.size ≤ w.heap.size + 1 + 1; omega) (.int .u64 ((lo + (hi - lo) / 2 : Nat) : Int)))
        rw [← hw'] at hB1
        have hbx1 : w'.cell? ⟨w.heap.size, 0, none⟩ = some (.func (.func 118) #[] #[.pointer (some pa)]) := by rw [hw']; exact (World.cell?_setCell_other _ _ _ _ (by intro h; injection h with h1; omega)).trans hbx
        have hlo1 : w'.cell? ⟨w.heap.size + 1, 0, none⟩ = some (.int .u64 (lo : Int)) := by rw [hw']; exact (World.cell?_setCell_other _ _ _ _ (by intro h; injection h with h1; omega)).trans hlo
        have hhi1 : w'.cell? ⟨w.heap.size + 1 + 1, 0, none⟩ = some (.int .u64 ((lo + (hi - lo) / 2 : Nat) : Int)) := by rw [hw']; exact World.cell?_setCell_same' _ _ _ (by rw [hhi]; rfl)
        have hfl1 : w'.frozen? ⟨w.heap.size + 1, 0, none⟩ = false := by rw [hw', World.frozen?_setCell]; exact hfl
        have hfh1 : w'.frozen? ⟨w.heap.size + 1 + 1, 0, none⟩ = false := by rw [hw', World.frozen?_setCell]; exact hfh
        clear hw' hbx hlo hhi hfl hfh hb HSTEP hH hcp
        go_wp2_with fail
        go_roundg (gk - 1)
        case measure => have := HG.out; omega
        case rel => exact ⟨k + 1, by have := HK.out; have := HG.out; omega, hbx1, by rw [HST.out]; exact hlo1, by rw [HST.out]; exact hhi1, hfl1, hfh1, hB1.out⟩
      · rintro e w' ⟨rfl, hw'⟩
        simp only at hw'
        have HST := hide (HSTEP.out.trans (by rw [if_pos hb]))
        have hB1 := hide (hB.setCell (p := ⟨w.heap.size + 1, 0, none⟩) (by show w.heap.size ≤ w.heap.size + 1; omega) (.int .u64 ((lo + (hi - lo) / 2 : Nat) : Int)))
        rw [← hw'] at hB1
        have hbx1 : w'.cell? ⟨w.heap.size, 0, none⟩ = some (.func (.func 118) #[] #[.pointer (some pa)]) := by rw [hw']; exact (World.cell?_setCell_other _ _ _ _ (by intro h; injection h with h1; omega)).trans hbx
        have hlo1 : w'.cell? ⟨w.heap.size + 1, 0, none⟩ = some (.int .u64 ((lo + (hi - lo) / 2 : Nat) : Int)) := by rw [hw']; exact World.cell?_setCell_same' _ _ _ (by rw [hlo]; rfl)
        have hhi1 : w'.cell? ⟨w.heap.size + 1 + 1, 0, none⟩ = some (.int .u64 (hi : Int)) := by rw [hw']; exact (World.cell?_setCell_other _ _ _ _ (by intro h; injection h with h1; omega)).trans hhi
        have hfl1 : w'.frozen? ⟨w.heap.size + 1, 0, none⟩ = false := by rw [hw', World.frozen?_setCell]; exact hfl
        have hfh1 : w'.frozen? ⟨w.heap.size + 1 + 1, 0, none⟩ = false := by rw [hw', World.frozen?_setCell]; exact hfh
        clear hw' hbx hlo hhi hfl hfh hb HSTEP hH hcp
        go_wp2_with fail
        go_roundg (gk - 1)
        case measure => have := HG.out; omega
        case rel => exact ⟨k + 1, by have := HK.out; have := HG.out; omega, hbx1, by rw [HST.out]; exact hlo1, by rw [HST.out]; exact hhi1, hfl1, hfh1, hB1.out⟩
end Go.Proofs.YtaomigfmjglggaaDoor
namespace Go.Proofs.YtaomigfmjglggaaDoor
open Go.RowKit

set_option maxRecDepth 100000 in
set_option maxHeartbeats 400000 in
theorem sqBits_any (p : Nat) (w : World) (hp : p < 400) :
    Calls Tryd.prog 104 #[.int .u32 p] w fun e w' => e = .returned (.int .u32 ((sqRoot p : Nat) : Int)) ∧ Below w.heap.size w w' := by
  go_enter Tryd.func104, Tryd.ntmps104
  go_wp2_with fail
  refine (sqLast p ⟨w.heap.size, 0, none⟩ _ hp (by simp) (by simp)).mono ?_
  obtain ⟨z, hz⟩ : ∃ z, z = (halves (sqB p) 35).1 := ⟨_, rfl⟩
  rw [← hz]
  have HZ := hide hz
  clear hz
  rintro e w' ⟨rfl, hB⟩
  have hB2 : Below w.heap.size w w' := ((Below.refl _ _).alloc (Nat.le_refl _) _).trans (hB.mono (by simp))
  clear hB
  go_wp2_with fail
  go_ret
  exact ⟨by rw [sqRoot, ← HZ.out]; rfl, hB2⟩

set_option maxRecDepth 100000 in
set_option maxHeartbeats 400000 in
theorem cbBits_any (p : Nat) (w : World) (hp : p < 400) :
    Calls Tryd.prog 109 #[.int .u32 p] w fun e w' => e = .returned (.int .u32 ((cbRoot p : Nat) : Int)) ∧ Below w.heap.size w w' := by
  go_enter Tryd.func109, Tryd.ntmps109
  go_wp2_with fail
  refine (cbLast p ⟨w.heap.size, 0, none⟩ _ hp (by simp) (by simp)).mono ?_
  obtain ⟨z, hz⟩ : ∃ z, z = (halves (cbB p) 35).1 := ⟨_, rfl⟩
  rw [← hz]
  have HZ := hide hz
  clear hz
  rintro e w' ⟨rfl, hB⟩
  have hB2 : Below w.heap.size w w' := ((Below.refl _ _).alloc (Nat.le_refl _) _).trans (hB.mono (by simp))
  clear hB
  go_wp2_with fail
  go_ret
  exact ⟨by rw [cbRoot, ← HZ.out]; rfl, hB2⟩
end Go.Proofs.YtaomigfmjglggaaDoor
