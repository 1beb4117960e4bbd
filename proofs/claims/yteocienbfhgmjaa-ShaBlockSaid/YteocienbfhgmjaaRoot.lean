/- The roots of package sha by halving: closures and their contracts. -/
import Derived.Test.YteocienbfhgmjaaProg
import Derived.Test.YteocienbfhgmjaaPrimeP
import Derived.Test.YteocienbfhgmjaaMul
import Derived.WalkKit
import Derived.WalkSpells
import Derived.WalkLawsBesides
import Derived.Deep.LoopGhost
namespace Go.Proofs.Yteocienbfhgmjaa
open Go.RowKit

set_option maxRecDepth 100000 in
set_option maxHeartbeats 400000 in
theorem sqBel_any (x : Nat) (p : Nat) (pa : Addr) (w : World) (hx : Hid (x < 18446744073709551616)) (hc : w.cell? pa = some (.int .u32 (p : Int))) (hp : p < 400) :
    Calls Try.prog 43 #[.int .u64 x, .pointer (some pa)] w fun e w' => e = .returned (.bool (sqB p x)) ∧ w = w' := by
  have hb : ∀ z : Nat, decide (((z : Nat) : Int) < (p : Int)) = decide (z < p) := fun z => by simp
  go_enter Try.func43, Try.ntmps43
  go_wp2_with fail
  refine (mul_any x x hx.out hx.out w).mono ?_
  generalize hq : x * x / 18446744073709551616 = q
  generalize x * x % 18446744073709551616 = r
  have HQ := hide hq
  clear hq
  rintro e w' ⟨rfl, rfl⟩
  go_wp2_with fail
  go_ret
  exact ⟨by show Ending.returned (Value.bool (decide (q < p))) = _; rw [sqB, HQ.out], rfl⟩

set_option maxRecDepth 100000 in
set_option maxHeartbeats 400000 in
theorem cbBel_any (x : Nat) (p : Nat) (pa : Addr) (w : World) (hx : Hid (x ≤ 34359738368)) (hc : w.cell? pa = some (.int .u32 (p : Int))) (hp : p < 400) :
    Calls Try.prog 46 #[.int .u64 x, .pointer (some pa)] w fun e w' => e = .returned (.bool (cbB p x)) ∧ w = w' := by
  have hb : ∀ z y : Nat, decide (((z : Nat) : Int) < (y : Int)) = decide (z < y) := fun z y => by simp
  have hxx : x * x ≤ 34359738368 * 34359738368 := Nat.mul_le_mul hx.out hx.out
  have hs : x * x / 18446744073709551616 ≤ 64 := by omega
  have hsx : x * x / 18446744073709551616 * x ≤ 64 * 34359738368 := Nat.mul_le_mul hs hx.out
  have hl : x * x % 18446744073709551616 < 18446744073709551616 := by omega
  have hlx : (x * x % 18446744073709551616) * x ≤ 18446744073709551616 * 34359738368 := Nat.mul_le_mul (by omega) hx.out
  have hl2 : (x * x % 18446744073709551616) * x / 18446744073709551616 ≤ 34359738368 := by omega
  have hx64 : x < 18446744073709551616 := by have := hx.out; omega
  obtain ⟨q, hq⟩ : ∃ q, q = x * x / 18446744073709551616 := ⟨_, rfl⟩
  obtain ⟨r, hr⟩ : ∃ r, r = x * x % 18446744073709551616 := ⟨_, rfl⟩
  obtain ⟨s, hs'⟩ : ∃ s, s = r * x / 18446744073709551616 := ⟨_, rfl⟩
  have hm1 : Calls Try.prog 44 #[.int .u64 x, .int .u64 x] w fun e w' => e = .returned (.tuple #[.int .u64 (q : Int), .int .u64 (r : Int)]) ∧ w = w' := by
    rw [hq, hr]; exact mul_any x x hx64 hx64 w
  have hm2 : ∃ t : Nat, Calls Try.prog 44 #[.int .u64 r, .int .u64 x] w fun e w' => e = .returned (.tuple #[.int .u64 (s : Int), .int .u64 (t : Int)]) ∧ w = w' :=
    ⟨_, by rw [hs']; exact mul_any r x (by omega) hx64 w⟩
  obtain ⟨t, hm2⟩ := hm2
  have hqx : Hid (IntKind.u64.wrap ((q : Int) * (x : Int)) = ((q * x : Nat) : Int)) := hide (by rw [← Int.natCast_mul, IntKind.wrap_u64]; rw [← hq] at hsx; omega)
  have hsq : Hid (IntKind.u64.wrap ((s : Int) + ((q * x : Nat) : Int)) = ((s + q * x : Nat) : Int)) := hide (by
    rw [← Int.natCast_add, IntKind.wrap_u64]; rw [← hq] at hsx; rw [← hr, ← hs'] at hl2; omega)
  have hps : Hid (IntKind.u64.wrap ((p : Int) * 4294967296) = ((p * 4294967296 : Nat) : Int)) := hide (by rw [IntKind.wrap_u64]; omega)
  have HR := hide (show cbB p x = decide (s + q * x < p * 4294967296) from by rw [cbB, ← hr, ← hs', ← hq])
  have HM1 := hide hm1
  have HM2 := hide hm2
  clear hq hr hs' hxx hs hsx hl hlx hl2 hx64 hm1 hm2 hx
  go_enter Try.func46, Try.ntmps46
  go_wp2_with fail
  refine HM1.out.mono ?_
  rintro e w' ⟨rfl, rfl⟩
  go_wp2_with fail
  refine HM2.out.mono ?_
  rintro e w' ⟨rfl, rfl⟩
  go_wp2_with fail
  go_ret
  refine ⟨?_, rfl⟩
  show Ending.returned (Value.bool (decide (IntKind.u64.wrap ((s : Int) + IntKind.u64.wrap ((q : Int) * (x : Int))) < (p : Int) * 4294967296))) = _
  rw [hqx.out, hsq.out, HR.out]
  generalize s + q * x = m
  congr 2
  exact decide_eq_decide.2 (by omega)

set_option maxRecDepth 100000 in
set_option maxHeartbeats 400000 in
theorem sqHalve (p lo hi : Nat) (pa : Addr) (B : Nat) (w : World) (hp : p < 400) (h1 : lo < hi) (h2 : Hid (hi ≤ 34359738368)) (hlo : w.cell? ⟨B + 1, 0, none⟩ = some (.int .u64 (lo : Int))) (hhi : w.cell? ⟨B + 1 + 1, 0, none⟩ = some (.int .u64 (hi : Int)))
    (hfl : w.frozen? ⟨B + 1, 0, none⟩ = false) (hfh : w.frozen? ⟨B + 1 + 1, 0, none⟩ = false) (hbx : w.cell? ⟨B, 0, none⟩ = some (.func (.func 43) #[] #[.pointer (some pa)])) (hc : w.cell? pa = some (.int .u32 (p : Int))) :
    Calls Try.prog 51 #[.pointer (some ⟨B + 1, 0, none⟩), .pointer (some ⟨B + 1 + 1, 0, none⟩), .pointer (some ⟨B, 0, none⟩)] w
      fun e w' => e = .returned (.tuple #[]) ∧ w' = (match sqB p (lo + (hi - lo) / 2) with
        | true => w.setCell ⟨B + 1, 0, none⟩ (.int .u64 ((lo + (hi - lo) / 2 : Nat) : Int))
        | false => w.setCell ⟨B + 1 + 1, 0, none⟩ (.int .u64 ((lo + (hi - lo) / 2 : Nat) : Int))) := by
  have hmid : (lo : Int) + ((hi : Int) - (lo : Int)) / 2 = ((lo + (hi - lo) / 2 : Nat) : Int) := by omega
  have hm2 : lo + (hi - lo) / 2 ≤ 34359738368 := by have := h2.out; omega
  have HC := hide (sqBel_any (lo + (hi - lo) / 2) p pa w (hide (by omega)) hc hp)
  obtain ⟨m, hm⟩ : ∃ m, m = lo + (hi - lo) / 2 := ⟨_, rfl⟩
  rw [← hm] at hmid hm2 HC ⊢
  have hA : (lo : Int) + ((hi : Int) - (lo : Int)) / 2 ≤ 34359738368 := by omega
  have HM := hide hmid
  clear hm hm2 hmid
  cases hb : sqB p m
  all_goals
    rw [hb] at HC
    clear hb
    go_enter Try.func51, Try.ntmps51
    go_wp2_with fail
    rw [HM.out]
    refine HC.out.mono ?_
    rintro e w' ⟨rfl, rfl⟩
    go_wp2_with fail
    go_end0
    exact ⟨rfl, rfl⟩

set_option maxRecDepth 100000 in
set_option maxHeartbeats 400000 in
theorem cbHalve (p lo hi : Nat) (pa : Addr) (B : Nat) (w : World) (hp : p < 400) (h1 : lo < hi) (h2 : Hid (hi ≤ 34359738368)) (hlo : w.cell? ⟨B + 1, 0, none⟩ = some (.int .u64 (lo : Int))) (hhi : w.cell? ⟨B + 1 + 1, 0, none⟩ = some (.int .u64 (hi : Int)))
    (hfl : w.frozen? ⟨B + 1, 0, none⟩ = false) (hfh : w.frozen? ⟨B + 1 + 1, 0, none⟩ = false) (hbx : w.cell? ⟨B, 0, none⟩ = some (.func (.func 46) #[] #[.pointer (some pa)])) (hc : w.cell? pa = some (.int .u32 (p : Int))) :
    Calls Try.prog 51 #[.pointer (some ⟨B + 1, 0, none⟩), .pointer (some ⟨B + 1 + 1, 0, none⟩), .pointer (some ⟨B, 0, none⟩)] w
      fun e w' => e = .returned (.tuple #[]) ∧ w' = (match cbB p (lo + (hi - lo) / 2) with
        | true => w.setCell ⟨B + 1, 0, none⟩ (.int .u64 ((lo + (hi - lo) / 2 : Nat) : Int))
        | false => w.setCell ⟨B + 1 + 1, 0, none⟩ (.int .u64 ((lo + (hi - lo) / 2 : Nat) : Int))) := by
  have hmid : (lo : Int) + ((hi : Int) - (lo : Int)) / 2 = ((lo + (hi - lo) / 2 : Nat) : Int) := by omega
  have hm2 : lo + (hi - lo) / 2 ≤ 34359738368 := by have := h2.out; omega
  have HC := hide (cbBel_any (lo + (hi - lo) / 2) p pa w (hide hm2) hc hp)
  obtain ⟨m, hm⟩ : ∃ m, m = lo + (hi - lo) / 2 := ⟨_, rfl⟩
  rw [← hm] at hmid hm2 HC ⊢
  have hA : (lo : Int) + ((hi : Int) - (lo : Int)) / 2 ≤ 34359738368 := by omega
  have HM := hide hmid
  clear hm hm2 hmid
  cases hb : cbB p m
  all_goals
    rw [hb] at HC
    clear hb
    go_enter Try.func51, Try.ntmps51
    go_wp2_with fail
    rw [HM.out]
    refine HC.out.mono ?_
    rintro e w' ⟨rfl, rfl⟩
    go_wp2_with fail
    go_end0
    exact ⟨rfl, rfl⟩
end Go.Proofs.Yteocienbfhgmjaa
