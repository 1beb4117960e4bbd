/- has of the law NameOrder: is a name among others? -/
import Derived.Test.YtjbfaaoeoggkpaaNmSort
namespace Go.Proofs.Ytjbfaaoeoggkpaa
open Go.RowKit Go.Lib

theorem cmp_belowO (a b : Nm) (w : World) : Calls Try.prog 13 #[.agg #[.string a.ns, .string a.sa], .agg #[.string b.ns, .string b.sa]] w (fun e w' => e = .returned (.int .i64 (cmpN a b)) ∧ Below w.heap.size w w') :=
  (cmp_any a b w).mono (by rintro e w' ⟨h, rfl⟩; exact ⟨h, ((Below.refl w.heap.size w).alloc (Nat.le_refl _) _).alloc (by simp) _⟩)

set_option maxRecDepth 100000 in
set_option maxHeartbeats 1000000 in
theorem has_yes (v : Value) (l : List Nm) (x : Nm) (w : World) (hv : GAt KN w v l) (hl : l.length ≤ 1000) (hx : x ∈ l) : Calls Try.prog 21 #[v, .agg #[.string x.ns, .string x.sa]] w (fun e w' => e = .returned (.bool true) ∧ Below w.heap.size w w') := by
  obtain ⟨ao, cap, rfl⟩ := hv.len
  obtain ⟨n, hn⟩ : ∃ n, l.length = n := ⟨_, rfl⟩
  rw [hn] at hv hl ⊢
  obtain ⟨p, q⟩ := x
  dsimp only
  have HB0 := hideL ((Below.refl w.heap.size w).alloc (Nat.le_refl _) (.cells #[.string p, .string q] 23))
  have HX := hideL (NBox.new w p q)
  have HV := hideL (hv.below HB0.out)
  have HM : HidL (∃ i, i < n ∧ l.getD i KN.dft = ⟨p, q⟩) := hideL (by
    obtain ⟨i, hi, he⟩ := List.getElem_of_mem hx
    exact ⟨i, by omega, by simp [List.getD, hi, he]⟩)
  clear hx hv hn
  go_enter Try.func21, Try.ntmps21
  go_wp2_with fail
  obtain ⟨w1, hw1⟩ : ∃ w1, w.alloc (.cells #[.string p, .string q] 23) = w1 := ⟨_, rfl⟩
  rw [hw1] at HB0 HX HV ⊢
  clear hw1
  go_loopw [5] (fun i wr => ∃ k : Nat, k ≤ n ∧ i = .int .i64 k ∧ Below w1.heap.size w1 wr ∧ HidL (∀ j, j < k → l.getD j KN.dft ≠ ⟨p, q⟩)) (fun i _ => n - (intOf i).toNat)
  case atStart => exact ⟨0, Nat.zero_le _, rfl, Below.refl _ _, ⟨fun _ h => absurd h (by omega)⟩⟩
  case round =>
    obtain ⟨k, hk, rfl, hB, hall⟩ := hrel
    by_cases hlt : k < n
    · have hlt' : (k : Int) < (n : Int) := by omega
      obtain ⟨b, o, hao, hbl, hcell⟩ := HV.out.at (k := k) hlt
      subst hao
      have hnext : l.getD k KN.dft ≠ ⟨p, q⟩ → HidL (∀ j, j < k + 1 → l.getD j KN.dft ≠ ⟨p, q⟩) := fun h1 => ⟨fun j hj => if he : j < k then hall.out j he else (show j = k by omega) ▸ h1⟩
      generalize l.getD k KN.dft = y at *
      obtain ⟨p2, q2⟩ := y
      have e0 : wr.cell? ⟨b, o + k * 2, none⟩ = some (.string p2) := (hB.cell (p := ⟨b, o + k * 2, none⟩) hbl).trans (hcell 0 (by decide))
      have e1 : wr.cell? ⟨b, o + k * 2 + 1, none⟩ = some (.string q2) := (hB.cell (p := ⟨b, o + k * 2 + 1, none⟩) hbl).trans (hcell 1 (by decide))
      have x0 := (HX.out.next hB).c0
      have x1 := (HX.out.next hB).c1
      clear hcell hbl
      by_cases h0 : p2 = p
      · subst h0
        have ep := eqs_true (rfl : p2 = p2)
        by_cases h1 : q2 = q
        · subst h1
          have eq := eqs_true (rfl : q2 = q2)
          clear hnext hall HM
          go_wp2_with (go_region)
          go_ret
          exact ⟨rfl, HB0.out.trans ((hB.drew).mono HB0.out.size)⟩
        · have eq := eqs_false h1
          have HNX := hnext (fun h => h1 (by injection h))
          clear hnext hall HM
          go_wp2_with (go_region)
          exact ⟨⟨k + 1, by omega, by go_num, hB.drew, HNX⟩, by simp [intOf]; omega⟩
      · have ep := eqs_false h0
        have HNX := hnext (fun h => h0 (by injection h))
        clear hnext hall HM
        go_wp2_with (go_region)
        exact ⟨⟨k + 1, by omega, by go_num, hB.drew, HNX⟩, by simp [intOf]; omega⟩
    · obtain rfl : k = n := by omega
      obtain ⟨i, h1, h2⟩ := HM.out
      exact absurd h2 (hall.out i h1)
end Go.Proofs.Ytjbfaaoeoggkpaa
