/- slices.Concat and slices.Grow of rows of byte slices: their contracts. -/
import Derived.Test.YteocienbfhgmjaaProg
import Derived.Test.YteocienbfhgmjaaGrow
import Derived.Test.YteocienbfhgmjaaConcat
namespace Go.Proofs.Yteocienbfhgmjaa
open Go.RowKit

theorem Try.info28 : (Try.prog.info? 28).map (fun i => (i.zero, i.size, i.bytes)) = some (some (.slice none 0 0), 1, 24) := by kernel_rfl

/-- The slice value v reads as these values. -/
def RowAt (w : World) (v : Value) (xs : List Value) : Prop := ∃ (ao : Option Addr) (cap : Nat), v = .slice ao xs.length cap ∧ (ao = none → xs = [] ∧ cap = 0) ∧ xs.length ≤ cap ∧
  ∀ ad, ao = some ad → ∀ i u, xs[i]? = some u → ad.block < w.heap.size ∧ w.cell? (ad.add i) = some u

theorem RowAt.below {w w' : World} {v : Value} {xs : List Value} (h : RowAt w v xs) (hb : Below w.heap.size w w') : RowAt w' v xs := by
  obtain ⟨ao, cap, hv, hn, hc, ha⟩ := h
  refine ⟨ao, cap, hv, hn, hc, fun ad had i u hi => ?_⟩
  obtain ⟨h1, h2⟩ := ha ad had i u hi
  refine ⟨Nat.lt_of_lt_of_le h1 hb.size, (hb.cell (p := ad.add i) ?_).trans h2⟩
  unfold Addr.add
  split <;> exact h1

def partG {α : Type} (ps : List (List α)) (k : Nat) : List α := ps.getD k []
def catG {α : Type} (ps : List (List α)) (k : Nat) : List α := (ps.take k).flatten
theorem catG_succ {α : Type} (ps : List (List α)) (k : Nat) (h : k < ps.length) : catG ps (k + 1) = catG ps k ++ partG ps k := by
  rw [catG, List.take_succ_eq_append_getElem h, List.flatten_append]
  simp [catG, partG, List.getD, h]
theorem catG_all {α : Type} (ps : List (List α)) : catG ps ps.length = ps.flatten := by rw [catG, List.take_length]
theorem catG_le {α : Type} (ps : List (List α)) (k : Nat) : (catG ps k).length ≤ ps.flatten.length := by
  have h : ps.flatten = catG ps k ++ (ps.drop k).flatten := by rw [catG, ← List.flatten_append, List.take_append_drop]
  rw [h, List.length_append]; omega
theorem partG_le {α : Type} (ps : List (List α)) (k : Nat) (h : k < ps.length) : (catG ps k).length + (partG ps k).length ≤ ps.flatten.length := by
  have h1 := catG_le ps (k + 1)
  rw [catG_succ ps k h, List.length_append] at h1
  exact h1
theorem partG_mem {α : Type} (ps : List (List α)) (k : Nat) (h : k < ps.length) : partG ps k ∈ ps := by simp [partG, List.getD, h]

/-- The slices of block b from place o on read as these rows. -/
def RowsAt (w : World) (b o : Nat) (ps : List (List Value)) : Prop := b < w.heap.size ∧ ∀ i, i < ps.length → ∃ sv, w.cell? ⟨b, o + i, none⟩ = some sv ∧ RowAt w sv (partG ps i)

theorem RowsAt.below {w w' : World} {b o : Nat} {ps : List (List Value)} (h : RowsAt w b o ps) (hb : Below w.heap.size w w') : RowsAt w' b o ps :=
  ⟨Nat.lt_of_lt_of_le h.1 hb.size, fun i hi => by
    obtain ⟨sv, h1, h2⟩ := h.2 i hi
    exact ⟨sv, (hb.cell (p := ⟨b, o + i, none⟩) h.1).trans h1, h2.below hb⟩⟩

def GrowPostV (k : Nat) (w : World) (e : Ending) (w' : World) : Prop :=
  ∃ cap, e = .returned (.slice (some ⟨w.heap.size, 0, none⟩) 0 cap) ∧ k ≤ cap ∧ w'.ownsRow w.heap.size 28 1 (.slice (some ⟨w.heap.size, 0, none⟩) 0 cap) 0 [] ∧ Below w.heap.size w w'

theorem growCellsV (k : Nat) (w : World) (h0 : 0 < k) (hk : k ≤ 1000000) : ∃ (cap : Nat) (C : Array Value), k ≤ cap ∧ C.size = cap ∧ cap ≤ maxLen ∧
    (Builtin.append_ #[62, 3] 62 #[.slice none 0 0, .int .i64 k]).run Try.prog w = .ok (.slice (some ⟨w.heap.size, 0, none⟩) k cap) (w.drew.alloc (.cells C 28)) := by
  obtain ⟨i0, hi, hz0, hz1, hz2⟩ := info_parts Try.info28
  have h := Lib.run_append_grow_zeros (P := Try.prog) w 62 3 62 28 i0 (.slice none 0 0) .i64 .i64 Try.underlying62 Try.underlying3 hi hz0 none 0 0 [] (by simp [Builtin.firstCells]) k h0 (by omega) (by omega) (by omega) (by rw [hz2]; omega)
    (by rw [hz2]; simp [Builtin.nextslicecap, h0]; omega)
  rw [Nat.zero_add] at h
  have hge := grownCap_ge w k 0 28
  have hle := grownCap_le_maxLen w k 0 28 (by unfold maxLen; omega)
  refine ⟨_, _, hge, ?_, hle, h⟩
  simp [Builtin.zeroCells, Value.cells]
  omega

set_option maxRecDepth 100000 in
set_option maxHeartbeats 400000 in
theorem grow_rows (k : Nat) (w : World) (h0 : 0 < k) (hk : k ≤ 1000000) :
    Calls Try.prog 50 #[.slice none 0 0, .int .i64 k] w (GrowPostV k w) := by
  obtain ⟨cap, C, hkc, hC, hmax, hrun⟩ := growCellsV k w h0 hk
  have HC := hide hC
  have HM := hide hmax
  clear hC hmax
  go_enter Try.func50, Try.ntmps50
  have HR := hide hrun
  clear hrun
  go_wp2_with (with_reducible refine wpList_append_run rfl (.tmp 20) (.tmp 21) 62 3 62 rfl rfl (.slice none 0 0) (.int .i64 k) _ _ rfl rfl HR.out ?_)
  go_ret
  have hsz : C.size = cap * 1 := by rw [HC.out]; omega
  exact ⟨cap, rfl, hkc, World.ownsRow_made w.drew C cap (Nat.le_refl _) HM.out hsz, (Below.refl _ _).drew.alloc (Nat.le_refl _) _⟩
def CatPostV (X : List Value) (w : World) (e : Ending) (w' : World) : Prop :=
  ∃ cap, e = .returned (.slice (some ⟨w.heap.size, 0, none⟩) X.length cap) ∧ w'.ownsRow w.heap.size 28 1 (.slice (some ⟨w.heap.size, 0, none⟩) X.length cap) X.length X ∧ Below w.heap.size w w'

set_option maxRecDepth 100000 in
set_option maxHeartbeats 1000000 in
theorem concat_rows (ps : List (List Value)) (b o c : Nat) (w : World) (hP : RowsAt w b o ps) (hn : ps.length ≤ 1000000) (h0 : 0 < ps.flatten.length) (hX : ps.flatten.length ≤ 1000000) (h1 : ∀ q ∈ ps, ∀ u ∈ q, u.oneCell' = true) :
    Calls Try.prog 37 #[.slice (some ⟨b, o, none⟩) ps.length c] w (CatPostV ps.flatten w) := by
  obtain ⟨i0, hi, hz0, hz1, hz2⟩ := info_parts Try.info28
  clear hz0 hz2
  obtain ⟨n, hnn⟩ : ∃ n, n = ps.length := ⟨_, rfl⟩
  have HN := hide hnn
  rw [← hnn] at hn ⊢
  have HP := hide hP
  have H1 := hide h1
  clear h1
  obtain ⟨T, hT⟩ : ∃ T, T = ps.flatten.length := ⟨_, rfl⟩
  have HT := hide hT
  rw [← hT] at h0 hX
  clear hP hnn hT
  go_enter Try.func37, Try.ntmps37
  go_wp2_with fail
  go_loop [3, 11] (fun s i => ∃ k : Nat, k ≤ n ∧ i = .int .i64 k ∧ s = .int .i64 ((catG ps k).length : Int)) (fun _ i => n - (intOf i).toNat)
  case atStart => exact ⟨0, Nat.zero_le _, rfl, rfl⟩
  case round =>
    obtain ⟨k, hk, rfl, rfl⟩ := hrel
    by_cases hlt : k < n
    · obtain ⟨sv, hc, ao, cp, rfl, _, _, _⟩ := HP.out.2 k (by rw [← HN.out]; exact hlt)
      have hle := partG_le ps k (by rw [← HN.out]; exact hlt)
      rw [← HT.out] at hle
      have HS := hide (catG_succ ps k (by rw [← HN.out]; exact hlt))
      obtain ⟨s, hs⟩ : ∃ s, s = (catG ps k).length := ⟨_, rfl⟩
      obtain ⟨m, hm⟩ : ∃ m, m = (partG ps k).length := ⟨_, rfl⟩
      rw [← hm] at hc
      rw [← hs, ← hm] at hle
      rw [← hs]
      have HSM := hide (And.intro hs hm)
      clear hs hm
      go_wp2_with fail
      go_round
      case rel => exact ⟨k + 1, by omega, by go_num, by rw [HS.out, List.length_append, ← HSM.out.1, ← HSM.out.2]; go_num⟩
      case measure => simp [intOf]; omega
    · have hkn : catG ps k = ps.flatten := by rw [show k = ps.length from by have := HN.out; omega]; exact catG_all ps
      rw [hkn, ← HT.out]
      clear hkn
      go_wp2_with fail
      refine (grow_rows T w h0 hX).mono ?_
      rintro e w1 ⟨cp, rfl, hTc, hown, hB⟩
      have HC := hide hTc
      clear hlt hk
      generalize (k : Int) = kx
      go_wp2_with fail
      go_loopw [6, 27] (fun v i wr => ∃ k : Nat, k ≤ n ∧ i = .int .i64 k ∧ v = .slice (some ⟨w.heap.size, 0, none⟩) (catG ps k).length cp ∧
          wr.ownsRow w.heap.size 28 1 (.slice (some ⟨w.heap.size, 0, none⟩) (catG ps k).length cp) (catG ps k).length (catG ps k) ∧ Below w.heap.size w wr)
        (fun _ i _ => n - (intOf i).toNat)
      case atStart => exact ⟨0, Nat.zero_le _, rfl, rfl, hown, hB⟩
      case round =>
        clear hown hB hTc w1
        obtain ⟨k, hk, rfl, rfl, hown, hB⟩ := hrel
        by_cases hlt : k < n
        · obtain ⟨sv, hc, ao, cq, rfl, hnone, _, ha⟩ := (HP.out.below hB).2 k (by rw [← HN.out]; exact hlt)
          have hle := partG_le ps k (by rw [← HN.out]; exact hlt)
          rw [← HT.out] at hle
          have HS := hide (catG_succ ps k (by rw [← HN.out]; exact hlt))
          have hle2 : (catG ps k).length + (partG ps k).length ≤ cp := by have := HC.out; omega
          have HA : Hid (∀ ad, ao = some ad → ∀ j u, (partG ps k)[j]? = some u → wr.cell? (ad.add j) = some u) := hide (fun ad had j u hu => (ha ad had j u hu).2)
          have HNO := hide hnone
          have HO := hide (H1.out _ (partG_mem ps k (by rw [← HN.out]; exact hlt)))
          clear ha hnone hle
          go_wp2_with (at_builtin; refine wpList_append_fits_any _ rfl (.tmp 31) (.tmp 32) 62 rfl w.heap.size 28 i0 1 Try.underlying62 hi hz1 w.heap.size _ cp _ rfl hown ao _ cq (partG ps k) rfl (by simp) (fun e => ⟨by rw [(HNO.out e).1]; rfl, (HNO.out e).2⟩) HA.out HO.out hle2 ?_; intro w2 hown2 hgrow2)
          have hB2 : Below w.heap.size w w2 := hB.grown hgrow2 hB.size (fun j e => by cases e; exact Nat.le_refl _)
          go_roundw
          case rel => exact ⟨k + 1, by omega, by go_num, by rw [HS.out, List.length_append], by rw [HS.out, List.length_append]; exact hown2, hB2⟩
          case measure => simp [intOf]; omega
        · have hkn : catG ps k = ps.flatten := by rw [show k = ps.length from by have := HN.out; omega]; exact catG_all ps
          rw [hkn] at hown ⊢
          clear hkn
          go_wp2_with fail
          go_ret
          exact ⟨cp, rfl, hown, hB⟩
end Go.Proofs.Yteocienbfhgmjaa
