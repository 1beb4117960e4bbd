/- slices.Grow and slices.Concat, the small functions of package sha, End and haveBlock: their contracts. -/
import Derived.Test.YtaomigfmjglggaaDoorProg
import Derived.Test.YtaomigfmjglggaaDoorBase
import Derived.WalkKit
import Derived.WalkSpells
import Derived.WalkLawsBesides
import Derived.IntWalk
import Derived.Lib.AppendZerosOnto
namespace Go.Proofs.YtaomigfmjglggaaDoor
open Go.RowKit

set_option maxHeartbeats 400000 in
theorem rotl_any (x : Int) (n : Nat) (w : World) (hn0 : 1 ≤ n) (hn1 : n ≤ 31) :
    Calls Tryd.prog 121 #[.int .u32 x, .int .i64 (-n)] w fun e w' => e = .returned (.int .u32 (rorS x n)) ∧ w = w' := by
  have hs := and31 ⟨n, by omega⟩ hn0
  simp only at hs
  have h2 : 32 - (32 - n) = n := by omega
  go_enter Tryd.func121, Tryd.ntmps121
  go_wp2
  go_ret
  exact ⟨by simp [rorS], rfl⟩

set_option maxHeartbeats 400000 in
theorem ror_any (x : Int) (n : Nat) (w : World) (hn0 : 1 ≤ n) (hn1 : n ≤ 31) :
    Calls Tryd.prog 119 #[.int .u32 x, .int .i64 n] w fun e w' => e = .returned (.int .u32 (rorS x n)) ∧ w = w' := by
  go_enter Tryd.func119, Tryd.ntmps119
  go_wp2_with (go_at_call 121; refine (rotl_any _ _ _ hn0 hn1).mono ?_; rintro e w' ⟨rfl, rfl⟩)
  go_ret
  exact ⟨rfl, rfl⟩

theorem ror_int (x v : Int) (w : World) (h0 : 1 ≤ v) (h1 : v ≤ 31) :
    Calls Tryd.prog 119 #[.int .u32 x, .int .i64 v] w fun e w' => e = .returned (.int .u32 (rorS x v.toNat)) ∧ w = w' := by
  obtain ⟨n, rfl⟩ := Int.eq_ofNat_of_zero_le (show 0 ≤ v by omega)
  exact ror_any x n w (by omega) (by omega)

set_option maxHeartbeats 400000 in
theorem turn_any (x : Int) (i j k : Nat) (w : World) (hi0 : 1 ≤ i) (hi1 : i ≤ 31) (hj0 : 1 ≤ j) (hj1 : j ≤ 31) (hk0 : 1 ≤ k) (hk1 : k ≤ 31) :
    Calls Tryd.prog 111 #[.int .u32 x, .int .i64 i, .int .i64 j, .int .i64 k] w fun e w' => e = .returned (.int .u32 (turnS x i j k)) ∧ w = w' := by
  go_enter Tryd.func111, Tryd.ntmps111
  go_wp2_with fail
  refine (ror_any _ _ _ hi0 hi1).mono ?_
  rintro e w' ⟨rfl, rfl⟩
  go_wp2_with fail
  refine (ror_any _ _ _ hj0 hj1).mono ?_
  rintro e w' ⟨rfl, rfl⟩
  go_wp2_with fail
  refine (ror_any _ _ _ hk0 hk1).mono ?_
  rintro e w' ⟨rfl, rfl⟩
  go_wp2_with fail
  go_ret
  exact ⟨rfl, rfl⟩

theorem turn_int (x i j k : Int) (w : World) (hi0 : 1 ≤ i) (hi1 : i ≤ 31) (hj0 : 1 ≤ j) (hj1 : j ≤ 31) (hk0 : 1 ≤ k) (hk1 : k ≤ 31) :
    Calls Tryd.prog 111 #[.int .u32 x, .int .i64 i, .int .i64 j, .int .i64 k] w fun e w' => e = .returned (.int .u32 (turnS x i.toNat j.toNat k.toNat)) ∧ w = w' := by
  obtain ⟨a, rfl⟩ := Int.eq_ofNat_of_zero_le (show 0 ≤ i by omega)
  obtain ⟨b, rfl⟩ := Int.eq_ofNat_of_zero_le (show 0 ≤ j by omega)
  obtain ⟨c, rfl⟩ := Int.eq_ofNat_of_zero_le (show 0 ≤ k by omega)
  exact turn_any x a b c w (by omega) (by omega) (by omega) (by omega) (by omega) (by omega)
end Go.Proofs.YtaomigfmjglggaaDoor
namespace Go.Proofs.YtaomigfmjglggaaDoor
open Go.RowKit


theorem own_start (n : Nat) (w : World) : (w.alloc (.cells ((madeCells #[.int .u8 0] (padZ n + 9)).setIfInBounds 0 (.int .u8 128)) 5)).ownsRow w.heap.size 5 1
    (.slice (some ⟨w.heap.size, 0, none⟩) (1 + padZ n) (padZ n + 9)) (1 + padZ n) ((endP n 0).map (Value.int .u8)) := by
  have hp : padZ n ≤ 63 := by unfold padZ; omega
  refine ⟨by simp [length_endP], .inr ⟨w.heap.size, padZ n + 9, _, rfl, Nat.le_refl _, heap_alloc_new _ _, by omega, by unfold maxLen; omega, by simp [size_madeCells], ?_⟩⟩
  rw [Array.toList_setIfInBounds, toList_madeCells_one]
  simp only [Nat.mul_one, endP, lenBytes, List.range_zero, List.map_nil, List.append_nil, List.map_cons, List.map_replicate]
  rw [show padZ n + 9 = (padZ n + 8) + 1 from by omega, List.replicate_succ, List.set_cons_zero, show 1 + padZ n = padZ n + 1 from by omega, List.take_succ_cons, List.take_replicate]
  congr 2; omega

/-- Behind End(n): a new row of just so many bytes, which are the end of n bytes; nothing that was there has changed. -/
def EndPost (n : Nat) (w : World) (e : Ending) (w' : World) : Prop :=
  e = .returned (.slice (some ⟨w.heap.size, 0, none⟩) (padZ n + 9) (padZ n + 9)) ∧
    w'.ownsRow w.heap.size 5 1 (.slice (some ⟨w.heap.size, 0, none⟩) (padZ n + 9) (padZ n + 9)) (padZ n + 9) ((endS n).map (.int .u8)) ∧ Below w.heap.size w w'

set_option maxRecDepth 100000 in
set_option maxHeartbeats 400000 in
theorem end_any (n : Nat) (w : World) :
    Calls Tryd.prog 90 #[.int .u64 n] w (EndPost n w) := by
  obtain ⟨i0, hi, hz0, hz1, hz2⟩ := info_parts Tryd.info5
  have hz : (120 - ((n : Int) % 64 + 1)) % 64 = (padZ n : Int) := by unfold padZ; omega
  have hp : padZ n ≤ 63 := by unfold padZ; omega
  have hmk : ∀ w : World, (Instr.makeSlice 22 (.int .u64 (1 + (padZ n : Int))) (.int .u64 (1 + (padZ n : Int) + 8))).run Tryd.prog w = .ok (.slice (some ⟨w.heap.size, 0, none⟩) (1 + padZ n) (padZ n + 9)) (w.alloc (.cells (madeCells #[.int .u8 0] (padZ n + 9)) 5)) := by
    intro w
    have h := run_make (P := Tryd.prog) w 22 5 i0 (.int .u8 0) Tryd.underlying22 hi hz0 .u64 .u64 (1 + (padZ n : Int)) (1 + (padZ n : Int) + 8) (by omega) (by omega) (by rw [hz2]; omega) (by omega)
    rw [hz1] at h
    have e1 : (1 + (padZ n : Int)).toNat = 1 + padZ n := by omega
    have e2 : (1 + (padZ n : Int) + 8).toNat = padZ n + 9 := by omega
    rw [e1, e2] at h
    simpa [Value.cells] using h
  clear hz0 hz2
  have hm0 : (madeCells #[.int .u8 0] (padZ n + 9))[0]? = some (.int .u8 0) := by
    rw [← Array.getElem?_toList, toList_madeCells_one]; simp
  go_enter Tryd.func90, Tryd.ntmps90
  go_wp2_with fail
  go_loopw [5, 21] (fun v i wr => ∃ k : Nat, k ≤ 8 ∧ i = .int .i64 k ∧ v = .slice (some ⟨w.heap.size, 0, none⟩) (1 + padZ n + k) (padZ n + 9) ∧
      wr.ownsRow w.heap.size 5 1 (.slice (some ⟨w.heap.size, 0, none⟩) (1 + padZ n + k) (padZ n + 9)) (1 + padZ n + k) ((endP n k).map (Value.int .u8)) ∧ Below w.heap.size w wr)
    (fun _ i _ => 8 - (intOf i).toNat)
  case atStart => exact ⟨0, by omega, rfl, rfl, own_start n w, (Below.refl _ _).alloc (Nat.le_refl _) _⟩
  case round =>
    obtain ⟨k, hk, rfl, rfl, hown, hB⟩ := hrel
    clear hmk hm0 hz
    by_cases hlt : k < 8
    · go_wp2_with (at_builtin; refine wpList_append_fits _ rfl _ _ 22 rfl w.heap.size 5 i0 1 Tryd.underlying22 hi hz1 w.heap.size _ _ _ rfl (hown.alloc _) ⟨wr.heap.size, 0, none⟩ 1 1 [.int .u8 (lenByte n k)] rfl rfl (cell_one_new _ _ _) (by simp [Value.oneCell']) (by omega) ?_; intro w1 hown1 hgrow1)
      have hB1 : Below w.heap.size w w1 := (hB.alloc hB.size _).grown hgrow1 (by have := hB.size; simp; omega) (fun j e => by cases e; exact Nat.le_refl _)
      go_roundw
      case rel => exact ⟨k + 1, by omega, by go_num, rfl, by rw [endP_succ, List.map_append]; exact hown1, hB1⟩
      case measure => simp [intOf]; omega
    · go_wp2
      obtain rfl : k = 8 := by omega
      have e9 : 1 + padZ n + 8 = padZ n + 9 := by omega
      rw [e9] at hown
      go_ret
      exact ⟨by show Ending.returned (Value.slice _ (1 + padZ n + 8) _) = _; rw [e9], hown, hB⟩
end Go.Proofs.YtaomigfmjglggaaDoor
namespace Go.Proofs.YtaomigfmjglggaaDoor
open Go.RowKit


set_option maxRecDepth 100000 in
theorem grow_none (w : World) :
    Calls Tryd.prog 108 #[.slice none 0 0, .int .i64 0] w fun e w' => e = .returned (.slice none 0 0) ∧ w = w' := by
  go_enter Tryd.func108, Tryd.ntmps108
  go_wp2
  go_ret
  exact ⟨rfl, rfl⟩

def GrowPost (k : Nat) (w : World) (e : Ending) (w' : World) : Prop :=
  ∃ cap, e = .returned (.slice (some ⟨w.heap.size, 0, none⟩) 0 cap) ∧ k ≤ cap ∧ w'.ownsRow w.heap.size 5 1 (.slice (some ⟨w.heap.size, 0, none⟩) 0 cap) 0 [] ∧ Below w.heap.size w w'

theorem growCells (k : Nat) (w : World) (h0 : 0 < k) (hk : k ≤ 140737488355328) : ∃ (cap : Nat) (C : Array Value), k ≤ cap ∧ C.size = cap ∧ cap ≤ maxLen ∧
    (Builtin.append_ #[22, 3] 22 #[.slice none 0 0, .int .i64 k]).run Tryd.prog w = .ok (.slice (some ⟨w.heap.size, 0, none⟩) k cap) (w.drew.alloc (.cells C 5)) := by
  obtain ⟨i0, hi, hz0, hz1, hz2⟩ := info_parts Tryd.info5
  have h := Lib.run_append_grow_zeros (P := Tryd.prog) w 22 3 22 5 i0 (.int .u8 0) .i64 .i64 Tryd.underlying22 Tryd.underlying3 hi hz0 none 0 0 [] (by simp [Builtin.firstCells]) k h0 (by omega) (by omega) (by omega) (by rw [hz2]; omega)
    (by rw [hz2]; simp [Builtin.nextslicecap, h0]; omega)
  rw [Nat.zero_add] at h
  have hge := grownCap_ge w k 0 5
  have hle := grownCap_le_maxLen w k 0 5 (by unfold maxLen; omega)
  refine ⟨_, _, hge, ?_, hle, h⟩
  simp [Builtin.zeroCells, Value.cells]
  omega

set_option maxRecDepth 100000 in
set_option maxHeartbeats 400000 in
theorem grow_any (k : Nat) (w : World) (h0 : 0 < k) (hk : k ≤ 140737488355328) :
    Calls Tryd.prog 108 #[.slice none 0 0, .int .i64 k] w (GrowPost k w) := by
  obtain ⟨cap, C, hkc, hC, hmax, hrun⟩ := growCells k w h0 hk
  have HC := hide hC
  have HM := hide hmax
  clear hC hmax
  go_enter Tryd.func108, Tryd.ntmps108
  have HR := hide hrun
  clear hrun
  go_wp2_with (with_reducible refine wpList_append_run rfl (.tmp 20) (.tmp 21) 22 3 22 rfl rfl (.slice none 0 0) (.int .i64 k) _ _ rfl rfl HR.out ?_)
  go_ret
  have hsz : C.size = cap * 1 := by rw [HC.out]; omega
  exact ⟨cap, rfl, hkc, World.ownsRow_made w.drew C cap (Nat.le_refl _) HM.out hsz, (Below.refl _ _).drew.alloc (Nat.le_refl _) _⟩
end Go.Proofs.YtaomigfmjglggaaDoor
namespace Go.Proofs.YtaomigfmjglggaaDoor
open Go.RowKit

def haveB (t : Nat) : Bool := decide (64 ≤ t)

set_option maxRecDepth 100000 in
set_option maxHeartbeats 1000000 in
theorem have_any (ps : List (List Int)) (b o c : Nat) (w : World) (hP : PartsAt w b o ps) (hn : ps.length ≤ 1000000) (hX : ps.flatten.length ≤ 140737488355328) :
    Calls Tryd.prog 99 #[.slice (some ⟨b, o, none⟩) ps.length c] w (fun e w' => e = .returned (.bool (haveB ps.flatten.length)) ∧ w = w') := by
  obtain ⟨n, hnn⟩ : ∃ n, n = ps.length := ⟨_, rfl⟩
  have HN := hide hnn
  rw [← hnn] at hn ⊢
  have HP := hide hP
  obtain ⟨T, hT⟩ : ∃ T, T = ps.flatten.length := ⟨_, rfl⟩
  have HT := hide hT
  rw [← hT] at hX ⊢
  clear hP hnn hT
  go_enter Tryd.func99, Tryd.ntmps99
  go_wp2_with fail
  go_loop [3, 8] (fun s i => ∃ k : Nat, k ≤ n ∧ i = .int .i64 k ∧ s = .int .i64 ((cat ps k).length : Int) ∧ ((cat ps k).length < 64)) (fun _ i => n - (intOf i).toNat)
  case atStart => exact ⟨0, Nat.zero_le _, rfl, rfl, by simp [cat_zero]⟩
  case round =>
    obtain ⟨k, hk, rfl, rfl, h64⟩ := hrel
    by_cases hlt : k < n
    · obtain ⟨sv, hc, ao, cp, rfl, _, _, _⟩ := HP.out.2 k (by rw [← HN.out]; exact hlt)
      have hle := part_le ps k (by rw [← HN.out]; exact hlt)
      rw [← HT.out] at hle
      have HS := hide (cat_succ ps k (by rw [← HN.out]; exact hlt))
      obtain ⟨s, hs⟩ : ∃ s, s = (cat ps k).length := ⟨_, rfl⟩
      obtain ⟨m, hm⟩ : ∃ m, m = (part ps k).length := ⟨_, rfl⟩
      rw [← hm] at hc
      rw [← hs, ← hm] at hle
      rw [← hs] at h64 ⊢
      have HSM := hide (And.intro hs hm)
      clear hs hm
      by_cases hge : 64 ≤ s + m
      · have HB := hide (show haveB T = true by unfold haveB; simp; omega)
        go_wp2_with fail
        go_ret
        exact ⟨by rw [HB.out]; rfl, rfl⟩
      · go_wp2_with fail
        go_round
        case rel => exact ⟨k + 1, by omega, by go_num, by rw [HS.out, List.length_append, ← HSM.out.1, ← HSM.out.2]; go_num, by rw [HS.out, List.length_append, ← HSM.out.1, ← HSM.out.2]; omega⟩
        case measure => simp [intOf]; omega
    · have hkn : cat ps k = ps.flatten := by rw [show k = ps.length from by have := HN.out; omega]; exact cat_all ps
      rw [hkn, ← HT.out] at h64
      rw [hkn]
      have HB := hide (show haveB T = false by unfold haveB; simp; omega)
      clear hkn
      go_wp2_with fail
      go_ret
      exact ⟨by rw [HB.out]; rfl, rfl⟩
end Go.Proofs.YtaomigfmjglggaaDoor
namespace Go.Proofs.YtaomigfmjglggaaDoor
open Go.RowKit

def CatPost (X : List Int) (w : World) (e : Ending) (w' : World) : Prop :=
  ∃ cap, e = .returned (.slice (some ⟨w.heap.size, 0, none⟩) X.length cap) ∧ w'.ownsRow w.heap.size 5 1 (.slice (some ⟨w.heap.size, 0, none⟩) X.length cap) X.length (X.map (.int .u8)) ∧ Below w.heap.size w w'

set_option maxRecDepth 100000 in
set_option maxHeartbeats 1000000 in
theorem concat_any (ps : List (List Int)) (b o c : Nat) (w : World) (hP : PartsAt w b o ps) (hn : ps.length ≤ 1000000) (h0 : 0 < ps.flatten.length) (hX : ps.flatten.length ≤ 140737488355328) :
    Calls Tryd.prog 100 #[.slice (some ⟨b, o, none⟩) ps.length c] w (CatPost ps.flatten w) := by
  obtain ⟨i0, hi, hz0, hz1, hz2⟩ := info_parts Tryd.info5
  clear hz0 hz2
  obtain ⟨n, hnn⟩ : ∃ n, n = ps.length := ⟨_, rfl⟩
  have HN := hide hnn
  rw [← hnn] at hn ⊢
  have HP := hide hP
  obtain ⟨T, hT⟩ : ∃ T, T = ps.flatten.length := ⟨_, rfl⟩
  have HT := hide hT
  rw [← hT] at h0 hX
  clear hP hnn hT
  go_enter Tryd.func100, Tryd.ntmps100
  go_wp2_with fail
  go_loop [3, 11] (fun s i => ∃ k : Nat, k ≤ n ∧ i = .int .i64 k ∧ s = .int .i64 ((cat ps k).length : Int)) (fun _ i => n - (intOf i).toNat)
  case atStart => exact ⟨0, Nat.zero_le _, rfl, rfl⟩
  case round =>
    obtain ⟨k, hk, rfl, rfl⟩ := hrel
    by_cases hlt : k < n
    · obtain ⟨sv, hc, ao, cp, rfl, _, _, _⟩ := HP.out.2 k (by rw [← HN.out]; exact hlt)
      have hle := part_le ps k (by rw [← HN.out]; exact hlt)
      rw [← HT.out] at hle
      have HS := hide (cat_succ ps k (by rw [← HN.out]; exact hlt))
      obtain ⟨s, hs⟩ : ∃ s, s = (cat ps k).length := ⟨_, rfl⟩
      obtain ⟨m, hm⟩ : ∃ m, m = (part ps k).length := ⟨_, rfl⟩
      rw [← hm] at hc
      rw [← hs, ← hm] at hle
      rw [← hs]
      have HSM := hide (And.intro hs hm)
      clear hs hm
      go_wp2_with fail
      go_round
      case rel => exact ⟨k + 1, by omega, by go_num, by rw [HS.out, List.length_append, ← HSM.out.1, ← HSM.out.2]; go_num⟩
      case measure => simp [intOf]; omega
    · have hkn : cat ps k = ps.flatten := by rw [show k = ps.length from by have := HN.out; omega]; exact cat_all ps
      rw [hkn, ← HT.out]
      clear hkn
      go_wp2_with fail
      refine (grow_any T w h0 hX).mono ?_
      rintro e w1 ⟨cp, rfl, hTc, hown, hB⟩
      have HC := hide hTc
      clear hlt hk
      generalize (k : Int) = kx
      go_wp2_with fail
      go_loopw [6, 27] (fun v i wr => ∃ k : Nat, k ≤ n ∧ i = .int .i64 k ∧ v = .slice (some ⟨w.heap.size, 0, none⟩) (cat ps k).length cp ∧
          wr.ownsRow w.heap.size 5 1 (.slice (some ⟨w.heap.size, 0, none⟩) (cat ps k).length cp) (cat ps k).length ((cat ps k).map (.int .u8)) ∧ Below w.heap.size w wr)
        (fun _ i _ => n - (intOf i).toNat)
      case atStart => exact ⟨0, Nat.zero_le _, rfl, rfl, hown, hB⟩
      case round =>
        clear hown hB hTc w1
        obtain ⟨k, hk, rfl, rfl, hown, hB⟩ := hrel
        by_cases hlt : k < n
        · obtain ⟨sv, hc, ao, cq, rfl, hnone, _, ha⟩ := (HP.out.below hB).2 k (by rw [← HN.out]; exact hlt)
          have hle := part_le ps k (by rw [← HN.out]; exact hlt)
          rw [← HT.out] at hle
          have HS := hide (cat_succ ps k (by rw [← HN.out]; exact hlt))
          have hle2 : (cat ps k).length + (part ps k).length ≤ cp := by have := HC.out; omega
          have HA := hide (slAt_news ha)
          have HNO := hide hnone
          clear ha hnone hle
          go_wp2_with (at_builtin; refine wpList_append_fits_any _ rfl (.tmp 31) (.tmp 32) 22 rfl w.heap.size 5 i0 1 Tryd.underlying22 hi hz1 w.heap.size _ cp _ rfl hown ao _ cq ((part ps k).map (.int .u8)) rfl (by simp) (fun e => ⟨by rw [(HNO.out e).1]; rfl, (HNO.out e).2⟩) HA.out (ints_oneCell _ _) hle2 ?_; intro w2 hown2 hgrow2)
          have hB2 : Below w.heap.size w w2 := hB.grown hgrow2 hB.size (fun j e => by cases e; exact Nat.le_refl _)
          go_roundw
          case rel => exact ⟨k + 1, by omega, by go_num, by rw [HS.out, List.length_append], by rw [HS.out, List.length_append, List.map_append]; exact hown2, hB2⟩
          case measure => simp [intOf]; omega
        · have hkn : cat ps k = ps.flatten := by rw [show k = ps.length from by have := HN.out; omega]; exact cat_all ps
          rw [hkn] at hown ⊢
          clear hkn
          go_wp2_with fail
          go_ret
          exact ⟨cp, rfl, hown, hB⟩
end Go.Proofs.YtaomigfmjglggaaDoor
namespace Go.Proofs.YtaomigfmjglggaaDoor
open Go.RowKit

theorem run_append_nothing (w : World) (ao : Option Addr) (c : Nat) : (Builtin.append_ #[22, 22] 22 #[.slice none 0 0, .slice ao 0 c]).run Tryd.prog w = .ok (.slice none 0 0) w := by
  obtain ⟨i0, hi, _, _, _⟩ := info_parts Tryd.info5
  have hu := run_underlying (P := Tryd.prog) Tryd.underlying22
  cases ao with
  | none => simp [Builtin.append_, hu, sizeOf, typeInfo, hi, Builtin.lenOf, Builtin.firstCells]
  | some a =>
    have hl : (loadCells a 0).run Tryd.prog w = .ok #[] w := run_loadCells_list (P := Tryd.prog) w a [] (fun j v h => by simp at h)
    simp [Builtin.append_, hu, sizeOf, typeInfo, hi, Builtin.lenOf, Builtin.firstCells, hl]

set_option maxRecDepth 100000 in
set_option maxHeartbeats 1000000 in
theorem concat_zero (ps : List (List Int)) (b o c : Nat) (w : World) (hP : PartsAt w b o ps) (hn : ps.length ≤ 1000000) (hX : ps.flatten.length = 0) :
    Calls Tryd.prog 100 #[.slice (some ⟨b, o, none⟩) ps.length c] w (fun e w' => e = .returned (.slice none 0 0) ∧ w = w') := by
  have hpart : ∀ k, k < ps.length → (part ps k).length = 0 := fun k hk => by have := part_le ps k hk; omega
  obtain ⟨n, hnn⟩ : ∃ n, n = ps.length := ⟨_, rfl⟩
  have HN := hide hnn
  have HPT := hide hpart
  rw [← hnn] at hn ⊢
  have HP := hide hP
  clear hP hnn hX hpart
  go_enter Tryd.func100, Tryd.ntmps100
  go_wp2_with fail
  go_loop [3, 11] (fun s i => ∃ k : Nat, k ≤ n ∧ i = .int .i64 k ∧ s = .int .i64 0) (fun _ i => n - (intOf i).toNat)
  case atStart => exact ⟨0, Nat.zero_le _, rfl, rfl⟩
  case round =>
    obtain ⟨k, hk, rfl, rfl⟩ := hrel
    by_cases hlt : k < n
    · obtain ⟨sv, hc, ao, cp, rfl, _, _, _⟩ := HP.out.2 k (by rw [← HN.out]; exact hlt)
      rw [HPT.out k (by rw [← HN.out]; exact hlt)] at hc
      go_wp2_with fail
      go_round
      case rel => exact ⟨k + 1, by omega, by go_num, rfl⟩
      case measure => simp [intOf]; omega
    · go_wp2_with fail
      refine (grow_none w).mono ?_
      rintro e w1 ⟨rfl, rfl⟩
      clear hlt hk
      generalize (k : Int) = kx
      go_wp2_with fail
      go_loop [6, 27] (fun v i => ∃ k : Nat, k ≤ n ∧ i = .int .i64 k ∧ v = .slice none 0 0) (fun _ i => n - (intOf i).toNat)
      case atStart => exact ⟨0, Nat.zero_le _, rfl, rfl⟩
      case round =>
        obtain ⟨k, hk, rfl, rfl⟩ := hrel
        by_cases hlt : k < n
        · obtain ⟨sv, hc, ao, cp, rfl, _, _, _⟩ := HP.out.2 k (by rw [← HN.out]; exact hlt)
          rw [HPT.out k (by rw [← HN.out]; exact hlt)] at hc
          go_wp2_with (with_reducible refine wpList_append_run rfl (.tmp 31) (.tmp 32) 22 22 22 rfl rfl (.slice none 0 0) (.slice ao 0 cp) _ _ rfl rfl (run_append_nothing _ _ _) ?_)
          go_round
          case rel => exact ⟨k + 1, by omega, by go_num, rfl⟩
          case measure => simp [intOf]; omega
        · go_wp2_with fail
          go_ret
          exact ⟨rfl, rfl⟩
end Go.Proofs.YtaomigfmjglggaaDoor
namespace Go.Proofs.YtaomigfmjglggaaDoor
open Go.RowKit

theorem Tryd.info28 : (Tryd.prog.info? 22).map (fun i => (i.zero, i.size, i.bytes)) = some (some (.slice none 0 0), 1, 24) := by kernel_rfl

/-- The slice value v reads as these values. -/
def RowAt (w : World) (v : Value) (xs : List Value) : Prop := ∃ (ao : Option Addr) (cap : Nat), v = .slice ao xs.length cap ∧ (ao = none → xs = [] ∧ cap = 0) ∧ xs.length ≤ cap ∧
  ∀ ad, ao = some ad → ∀ i u, xs[i]? = some u → ad.block < w.heap.size ∧ w.cell? (ad.add i) = some u

theorem RowAt.below {w w' : World} {v : Value} {xs : List Value} (h : RowAt w v xs) (hb : Below w.heap.size w w') : RowAt w' v xs := by
  obtain ⟨ao, cap, hv, hn, hc, ha⟩ := h
  refine ⟨ao, cap, hv, hn, hc, fun ad had i u hi => ?_⟩
  obtain ⟨h1, h2⟩ := ha ad had i u hi
  refine ⟨Nat.lt_of_lt_of_le h1 hb.size, (hb.cell (p := ad.add i) ?_).trans h2⟩
  unfold Addr.add
  split <;> exact h1

def partG {α : Type} (ps : List (List α)) (k : Nat) : List α := ps.getD k []
def catG {α : Type} (ps : List (List α)) (k : Nat) : List α := (ps.take k).flatten
theorem catG_succ {α : Type} (ps : List (List α)) (k : Nat) (h : k < ps.length) : catG ps (k + 1) = catG ps k ++ partG ps k := by
  rw [catG, List.take_succ_eq_append_getElem h, List.flatten_append]
  simp [catG, partG, List.getD, h]
theorem catG_all {α : Type} (ps : List (List α)) : catG ps ps.length = ps.flatten := by rw [catG, List.take_length]
theorem catG_le {α : Type} (ps : List (List α)) (k : Nat) : (catG ps k).length ≤ ps.flatten.length := by
  have h : ps.flatten = catG ps k ++ (ps.drop k).flatten := by rw [catG, ← List.flatten_append, List.take_append_drop]
  rw [h, List.length_append]; omega
theorem partG_le {α : Type} (ps : List (List α)) (k : Nat) (h : k < ps.length) : (catG ps k).length + (partG ps k).length ≤ ps.flatten.length := by
  have h1 := catG_le ps (k + 1)
  rw [catG_succ ps k h, List.length_append] at h1
  exact h1
theorem partG_mem {α : Type} (ps : List (List α)) (k : Nat) (h : k < ps.length) : partG ps k ∈ ps := by simp [partG, List.getD, h]

/-- The slices of block b from place o on read as these rows. -/
def RowsAt (w : World) (b o : Nat) (ps : List (List Value)) : Prop := b < w.heap.size ∧ ∀ i, i < ps.length → ∃ sv, w.cell? ⟨b, o + i, none⟩ = some sv ∧ RowAt w sv (partG ps i)

theorem RowsAt.below {w w' : World} {b o : Nat} {ps : List (List Value)} (h : RowsAt w b o ps) (hb : Below w.heap.size w w') : RowsAt w' b o ps :=
  ⟨Nat.lt_of_lt_of_le h.1 hb.size, fun i hi => by
    obtain ⟨sv, h1, h2⟩ := h.2 i hi
    exact ⟨sv, (hb.cell (p := ⟨b, o + i, none⟩) h.1).trans h1, h2.below hb⟩⟩

def GrowPostV (k : Nat) (w : World) (e : Ending) (w' : World) : Prop :=
  ∃ cap, e = .returned (.slice (some ⟨w.heap.size, 0, none⟩) 0 cap) ∧ k ≤ cap ∧ w'.ownsRow w.heap.size 22 1 (.slice (some ⟨w.heap.size, 0, none⟩) 0 cap) 0 [] ∧ Below w.heap.size w w'

theorem growCellsV (k : Nat) (w : World) (h0 : 0 < k) (hk : k ≤ 1000000) : ∃ (cap : Nat) (C : Array Value), k ≤ cap ∧ C.size = cap ∧ cap ≤ maxLen ∧
    (Builtin.append_ #[98, 3] 98 #[.slice none 0 0, .int .i64 k]).run Tryd.prog w = .ok (.slice (some ⟨w.heap.size, 0, none⟩) k cap) (w.drew.alloc (.cells C 22)) := by
  obtain ⟨i0, hi, hz0, hz1, hz2⟩ := info_parts Tryd.info28
  have h := Lib.run_append_grow_zeros (P := Tryd.prog) w 98 3 98 22 i0 (.slice none 0 0) .i64 .i64 Tryd.underlying98 Tryd.underlying3 hi hz0 none 0 0 [] (by simp [Builtin.firstCells]) k h0 (by omega) (by omega) (by omega) (by rw [hz2]; omega)
    (by rw [hz2]; simp [Builtin.nextslicecap, h0]; omega)
  rw [Nat.zero_add] at h
  have hge := grownCap_ge w k 0 22
  have hle := grownCap_le_maxLen w k 0 22 (by unfold maxLen; omega)
  refine ⟨_, _, hge, ?_, hle, h⟩
  simp [Builtin.zeroCells, Value.cells]
  omega

set_option maxRecDepth 100000 in
set_option maxHeartbeats 400000 in
theorem grow_rows (k : Nat) (w : World) (h0 : 0 < k) (hk : k ≤ 1000000) :
    Calls Tryd.prog 105 #[.slice none 0 0, .int .i64 k] w (GrowPostV k w) := by
  obtain ⟨cap, C, hkc, hC, hmax, hrun⟩ := growCellsV k w h0 hk
  have HC := hide hC
  have HM := hide hmax
  clear hC hmax
  go_enter Tryd.func105, Tryd.ntmps105
  have HR := hide hrun
  clear hrun
  go_wp2_with (with_reducible refine wpList_append_run rfl (.tmp 20) (.tmp 21) 98 3 98 rfl rfl (.slice none 0 0) (.int .i64 k) _ _ rfl rfl HR.out ?_)
  go_ret
  have hsz : C.size = cap * 1 := by rw [HC.out]; omega
  exact ⟨cap, rfl, hkc, World.ownsRow_made w.drew C cap (Nat.le_refl _) HM.out hsz, (Below.refl _ _).drew.alloc (Nat.le_refl _) _⟩
def CatPostV (X : List Value) (w : World) (e : Ending) (w' : World) : Prop :=
  ∃ cap, e = .returned (.slice (some ⟨w.heap.size, 0, none⟩) X.length cap) ∧ w'.ownsRow w.heap.size 22 1 (.slice (some ⟨w.heap.size, 0, none⟩) X.length cap) X.length X ∧ Below w.heap.size w w'

set_option maxRecDepth 100000 in
set_option maxHeartbeats 1000000 in
theorem concat_rows (ps : List (List Value)) (b o c : Nat) (w : World) (hP : RowsAt w b o ps) (hn : ps.length ≤ 1000000) (h0 : 0 < ps.flatten.length) (hX : ps.flatten.length ≤ 1000000) (h1 : ∀ q ∈ ps, ∀ u ∈ q, u.oneCell' = true) :
    Calls Tryd.prog 89 #[.slice (some ⟨b, o, none⟩) ps.length c] w (CatPostV ps.flatten w) := by
  obtain ⟨i0, hi, hz0, hz1, hz2⟩ := info_parts Tryd.info28
  clear hz0 hz2
  obtain ⟨n, hnn⟩ : ∃ n, n = ps.length := ⟨_, rfl⟩
  have HN := hide hnn
  rw [← hnn] at hn ⊢
  have HP := hide hP
  have H1 := hide h1
  clear h1
  obtain ⟨T, hT⟩ : ∃ T, T = ps.flatten.length := ⟨_, rfl⟩
  have HT := hide hT
  rw [← hT] at h0 hX
  clear hP hnn hT
  go_enter Tryd.func89, Tryd.ntmps89
  go_wp2_with fail
  go_loop [3, 11] (fun s i => ∃ k : Nat, k ≤ n ∧ i = .int .i64 k ∧ s = .int .i64 ((catG ps k).length : Int)) (fun _ i => n - (intOf i).toNat)
  case atStart => exact ⟨0, Nat.zero_le _, rfl, rfl⟩
  case round =>
    obtain ⟨k, hk, rfl, rfl⟩ := hrel
    by_cases hlt : k < n
    · obtain ⟨sv, hc, ao, cp, rfl, _, _, _⟩ := HP.out.2 k (by rw [← HN.out]; exact hlt)
      have hle := partG_le ps k (by rw [← HN.out]; exact hlt)
      rw [← HT.out] at hle
      have HS := hide (catG_succ ps k (by rw [← HN.out]; exact hlt))
      obtain ⟨s, hs⟩ : ∃ s, s = (catG ps k).length := ⟨_, rfl⟩
      obtain ⟨m, hm⟩ : ∃ m, m = (partG ps k).length := ⟨_, rfl⟩
      rw [← hm] at hc
      rw [← hs, ← hm] at hle
      rw [← hs]
      have HSM := hide (And.intro hs hm)
      clear hs hm
      go_wp2_with fail
      go_round
      case rel => exact ⟨k + 1, by omega, by go_num, by rw [HS.out, List.length_append, ← HSM.out.1, ← HSM.out.2]; go_num⟩
      case measure => simp [intOf]; omega
    · have hkn : catG ps k = ps.flatten := by rw [show k = ps.length from by have := HN.out; omega]; exact catG_all ps
      rw [hkn, ← HT.out]
      clear hkn
      go_wp2_with fail
      refine (grow_rows T w h0 hX).mono ?_
      rintro e w1 ⟨cp, rfl, hTc, hown, hB⟩
      have HC := hide hTc
      clear hlt hk
      generalize (k : Int) = kx
      go_wp2_with fail
      go_loopw [6, 27] (fun v i wr => ∃ k : Nat, k ≤ n ∧ i = .int .i64 k ∧ v = .slice (some ⟨w.heap.size, 0, none⟩) (catG ps k).length cp ∧
          wr.ownsRow w.heap.size 22 1 (.slice (some ⟨w.heap.size, 0, none⟩) (catG ps k).length cp) (catG ps k).length (catG ps k) ∧ Below w.heap.size w wr)
        (fun _ i _ => n - (intOf i).toNat)
      case atStart => exact ⟨0, Nat.zero_le _, rfl, rfl, hown, hB⟩
      case round =>
        clear hown hB hTc w1
        obtain ⟨k, hk, rfl, rfl, hown, hB⟩ := hrel
        by_cases hlt : k < n
        · obtain ⟨sv, hc, ao, cq, rfl, hnone, _, ha⟩ := (HP.out.below hB).2 k (by rw [← HN.out]; exact hlt)
          have hle := partG_le ps k (by rw [← HN.out]; exact hlt)
          rw [← HT.out] at hle
          have HS := hide (catG_succ ps k (by rw [← HN.out]; exact hlt))
          have hle2 : (catG ps k).length + (partG ps k).length ≤ cp := by have := HC.out; omega
          have HA : Hid (∀ ad, ao = some ad → ∀ j u, (partG ps k)[j]? = some u → wr.cell? (ad.add j) = some u) := hide (fun ad had j u hu => (ha ad had j u hu).2)
          have HNO := hide hnone
          have HO := hide (H1.out _ (partG_mem ps k (by rw [← HN.out]; exact hlt)))
          clear ha hnone hle
          go_wp2_with (at_builtin; refine wpList_append_fits_any _ rfl (.tmp 31) (.tmp 32) 98 rfl w.heap.size 22 i0 1 Tryd.underlying98 hi hz1 w.heap.size _ cp _ rfl hown ao _ cq (partG ps k) rfl (by simp) (fun e => ⟨by rw [(HNO.out e).1]; rfl, (HNO.out e).2⟩) HA.out HO.out hle2 ?_; intro w2 hown2 hgrow2)
          have hB2 : Below w.heap.size w w2 := hB.grown hgrow2 hB.size (fun j e => by cases e; exact Nat.le_refl _)
          go_roundw
          case rel => exact ⟨k + 1, by omega, by go_num, by rw [HS.out, List.length_append], by rw [HS.out, List.length_append]; exact hown2, hB2⟩
          case measure => simp [intOf]; omega
        · have hkn : catG ps k = ps.flatten := by rw [show k = ps.length from by have := HN.out; omega]; exact catG_all ps
          rw [hkn] at hown ⊢
          clear hkn
          go_wp2_with fail
          go_ret
          exact ⟨cp, rfl, hown, hB⟩
end Go.Proofs.YtaomigfmjglggaaDoor
