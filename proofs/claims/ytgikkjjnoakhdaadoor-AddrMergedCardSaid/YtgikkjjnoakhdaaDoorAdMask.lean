/- Package addr: Mask, around. -/
import Derived.Test.YtgikkjjnoakhdaaDoorProg
import Derived.Test.YtgikkjjnoakhdaaDoorAdPl
import Derived.WalkKit
import Derived.WalkSpells
import Derived.WalkLawsBesides
import Derived.IntWalk
import Derived.Laws.StructEq
import Derived.Outline
import Derived.Deep.RegionHeld3
import Derived.Deep.QuietTactic
import Derived.BigQuiet
namespace Go.Proofs.YtgikkjjnoakhdaaDoor
open Go.RowKit

theorem mask_pow : ∀ n, n < 33 → (4294967295 * 2 ^ n % 4294967296 : Int) = ((4294967296 - 2 ^ n : Nat) : Int) := by decide +kernel
theorem mask_of (b : Int) (h0 : 0 ≤ b) (h1 : b ≤ 32) : (4294967295 * 2 ^ (32 - b).toNat % 4294967296 : Int) = ((4294967296 - sz b : Nat) : Int) := by
  have h := mask_pow (32 - b).toNat (by omega)
  have e : ex b = (32 - b).toNat := by unfold ex; omega
  unfold sz
  rw [e]
  exact h
theorem sz_low (b : Int) (h : b ≤ 0) : sz b = 4294967296 := by
  unfold sz
  rw [show ex b = 32 by unfold ex; omega]
theorem sz_high (b : Int) (h : 32 ≤ b) : sz b = 1 := by
  unfold sz
  rw [show ex b = 0 by unfold ex; omega]

set_option maxRecDepth 100000 in
theorem mask_any (b : Int) (w : World) : Calls Tryd.prog 24 #[.int .i64 b] w (fun e w' => e = .returned (.int .u32 (4294967296 - sz b : Nat)) ∧ w = w') := by
  by_cases h0 : b < 0
  · rw [sz_low b (by omega)]
    go_enter Tryd.func24, Tryd.ntmps24
    go_wp2_with fail
    go_ret
    exact ⟨rfl, rfl⟩
  · by_cases h1 : 32 < b
    · rw [sz_high b (by omega)]
      go_enter Tryd.func24, Tryd.ntmps24
      go_wp2_with fail
      go_ret
      exact ⟨rfl, rfl⟩
    · have hm := hide (mask_of b (by omega) (by omega))
      go_enter Tryd.func24, Tryd.ntmps24
      go_wp2_with fail
      rw [hm.out]
      go_ret
      exact ⟨rfl, rfl⟩

theorem land_mask (a n : Nat) (ha : a < 4294967296) (hn : n ≤ 32) : a &&& (4294967296 - 2 ^ n) = a / 2 ^ n * 2 ^ n := by
  apply Nat.eq_of_testBit_eq
  intro i
  have hp := Nat.pow_pos (a := 2) (n := n) (by omega)
  have h1 : 2 ^ n - 1 < 2 ^ 32 := Nat.lt_of_lt_of_le (by omega) (Nat.pow_le_pow_right (by omega) hn)
  rw [Nat.testBit_and, show 4294967296 - 2 ^ n = 2 ^ 32 - ((2 ^ n - 1) + 1) by rw [Nat.sub_add_cancel hp], Nat.testBit_two_pow_sub_succ h1, Nat.testBit_two_pow_sub_one]
  rw [← Nat.shiftRight_eq_div_pow, ← Nat.shiftLeft_eq, Nat.testBit_shiftLeft, Nat.testBit_shiftRight]
  by_cases h : n ≤ i
  · rw [show n + (i - n) = i by omega]
    by_cases h2 : i < 32
    · simp [h, h2]
    · have h3 : a.testBit i = false := Nat.testBit_lt_two_pow (Nat.lt_of_lt_of_le ha (Nat.pow_le_pow_right (show 2 > 0 by omega) (show 32 ≤ i by omega)))
      simp [h3]
  · simp [h]
    omega
theorem and_mask (a : Nat) (ha : a < 4294967296) (b : Int) : bits BinOp.and IntKind.u32 (a : Int) ((4294967296 - sz b : Nat) : Int) = (flo a b : Nat) := by
  have hs := sz_pos b
  have e : bits BinOp.and IntKind.u32 (a : Int) ((4294967296 - sz b : Nat) : Int) = IntKind.u32.wrap ((a &&& (4294967296 - sz b) : Nat) : Int) := by
    simp [bits, show IntKind.u32.bits = 32 from rfl, BitVec.toNat_and, Nat.mod_eq_of_lt ha, Nat.mod_eq_of_lt (show 4294967296 - sz b < 4294967296 by omega)]
  rw [e]
  unfold sz
  rw [land_mask a (ex b) ha (ex_le b)]
  have := flo_le a b
  exact IntWalk.u32_in _ (by have : a / 2 ^ ex b * 2 ^ ex b ≤ a := flo_le a b; omega)

set_option maxRecDepth 100000 in
theorem around_any (a : Nat) (ha : a < 4294967296) (b : Int) (w : World) : Calls Tryd.prog 46 #[.int .u32 a, .int .i64 b] w (fun e w' => e = .returned (.agg #[.int .u32 (flo a b : Nat), .int .i64 b]) ∧ Below w.heap.size w w') := by
  have hm := hide (and_mask a ha b)
  have HM := hide (fun W => mask_any b W)
  generalize 4294967296 - sz b = m at hm HM
  go_enter Tryd.func46, Tryd.ntmps46
  go_wp2_with fail
  refine (HM.out _).mono ?_
  rintro e w' ⟨rfl, rfl⟩
  go_wp2_with fail
  rw [hm.out]
  exact bodyPost_ret (v := .agg #[.int .u32 (flo a b : Nat), .int .i64 b]) (by simp [results, Tryd.results46, go_sem]) rfl ⟨rfl, (Below.refl _ _).alloc (Nat.le_refl _) _⟩

theorem mayB_lo {c : Net} (h : c.b < 0) : mayB c = false := by unfold mayB; simp; omega
theorem mayB_hi {c : Net} (h : 32 < c.b) : mayB c = false := by unfold mayB; simp; omega
theorem mayB_in {c : Net} (h0 : 0 ≤ c.b) (h1 : c.b ≤ 32) : mayB c = decide (c.a = flo c.a c.b) := by unfold mayB; simp [h0, h1]
def Net.val (c : Net) : Value := .agg #[.int .u32 (c.a : Int), .int .i64 c.b]

theorem below_drewN {B : Nat} {a w : World} (h : Below B a w) (n : Nat) : Below B a (w.drewN n) := ⟨h.os, h.tape, h.output, h.size, h.block⟩
theorem net_eql (a c : Nat) (b d : Int) (w : World) : (binOp BinOp.eql 24 (.agg #[.int .u32 (a : Int), .int .i64 b]) (.agg #[.int .u32 (c : Int), .int .i64 d])).run Tryd.prog w = .ok (.bool (decide (a = c) && decide (b = d))) w := by
  have hf : (Tryd.prog.fieldsOf 24).toList = [⟨"Addr", 22, 0, false, "", "", 0⟩, ⟨"Bits", 3, 1, false, "", "", 8⟩] := by kernel_rfl
  rw [run_eql_struct, run_equalIn_struct w 9999 24 _ _ (by kernel_rfl) (by kernel_rfl), hf]
  have p0 : ∀ (x y : Value) (w : World), (Go.part 22 #[x, y] 0).run Tryd.prog w = .ok x w := fun _ _ _ => by kernel_rfl
  have p1 : ∀ (x y : Value) (w : World), (Go.part 3 #[x, y] 1).run Tryd.prog w = .ok y w := fun _ _ _ => by kernel_rfl
  have e0 : ∀ (x y : Int) (w : World), (Op.equalIn 9999 22 (.int .u32 x) (.int .u32 y)).run Tryd.prog w = .ok (x == y) w := fun _ _ _ => run_equalIn_int _ 9998 _ _ _ _ _ Tryd.underlying22
  have e1 : ∀ (x y : Int) (w : World), (Op.equalIn 9999 3 (.int .i64 x) (.int .i64 y)).run Tryd.prog w = .ok (x == y) w := fun _ _ _ => run_equalIn_int _ 9998 _ _ _ _ _ Tryd.underlying3
  simp only [Op.eqFields]
  rw [if_pos (by simp)]
  simp only [Sem.run_bind]
  rw [p0]
  simp only [Result.andThen_ok]
  rw [p0]
  simp only [Result.andThen_ok]
  rw [e0]
  simp only [Result.andThen_ok]
  by_cases h : (a : Int) = c
  · have h1 : a = c := by omega
    subst h1
    simp only [beq_self_eq_true, Bool.not_true, Bool.false_eq_true, if_false, decide_true, Bool.true_and]
    rw [if_pos (by simp)]
    simp only [Sem.run_bind]
    rw [p1]
    simp only [Result.andThen_ok]
    rw [p1]
    simp only [Result.andThen_ok]
    rw [e1]
    by_cases h2 : b = d <;> simp [h2]
  · have h1 : ¬ a = c := by omega
    have h3 : ((a : Int) == c) = false := by simpa using h
    rw [h3]
    simp [h1]
set_option maxRecDepth 100000 in
theorem may_any (c : Net) (ha : c.a < 4294967296) (w : World) : Calls Tryd.prog 26 #[c.val] w (fun e w' => e = .returned (.bool (mayB c)) ∧ Below w.heap.size w w') := by
  obtain ⟨a, b⟩ := c
  unfold Net.val
  dsimp only at ha ⊢
  by_cases h0 : b < 0
  · have hd0 : decide (0 ≤ b) = false := by simpa using h0
    rw [mayB_lo h0]
    go_enter Tryd.func26, Tryd.ntmps26
    go_wp2_with fail
    go_quiet (fail)
    go_wp2_with fail
    go_ret
    exact ⟨rfl, below_drewN ((Below.refl _ _).alloc (Nat.le_refl _) _) _⟩
  · by_cases h1 : 32 < b
    · have hd1 : decide (b ≤ 32) = false := by simpa using h1
      have hd0 : decide (0 ≤ b) = true := by simp; omega
      rw [mayB_hi h1]
      go_enter Tryd.func26, Tryd.ntmps26
      go_wp2_with fail
      go_quiet (fail)
      go_wp2_with fail
      go_ret
      exact ⟨rfl, below_drewN ((Below.refl _ _).alloc (Nat.le_refl _) _) _⟩
    · have h0' : 0 ≤ b := by omega
      have h1' : b ≤ 32 := by omega
      have hd1 : decide (b ≤ 32) = true := by simpa using h1'
      have hd0 : decide (0 ≤ b) = true := by simpa using h0'
      rw [mayB_in h0' h1']
      have HM := hide (fun W => around_any a ha b W)
      generalize flo a b = x at HM ⊢
      clear h0 h1
      have he := fun W : World => net_eql a x b b W
      rw [show (decide (a = x) && decide (b = b)) = decide (a = x) by simp] at he
      generalize decide (a = x) = y at he ⊢
      go_enter Tryd.func26, Tryd.ntmps26
      go_wp2_with fail
      have hB0 : Below w.heap.size w (w.alloc (.cells #[.int .u32 a, .int .i64 b] 24)) := (Below.refl _ _).alloc (Nat.le_refl _) _
      have c0 : (w.alloc (.cells #[.int .u32 a, .int .i64 b] 24)).cell? ⟨w.heap.size, 0, none⟩ = some (.int .u32 a) := by simp
      have c1 : (w.alloc (.cells #[.int .u32 a, .int .i64 b] 24)).cell? ⟨w.heap.size, 1, none⟩ = some (.int .i64 b) := by simp
      have hl : w.heap.size < (w.alloc (.cells #[.int .u32 a, .int .i64 b] 24)).heap.size := by simp
      generalize w.alloc (.cells #[.int .u32 a, .int .i64 b] 24) = W1 at *
      obtain ⟨g, hg⟩ : ∃ g, w.heap.size = g := ⟨_, rfl⟩
      have HB0 := hide hB0
      rw [hg] at c0 c1 hl ⊢
      clear hg hB0
      go_region_held3 (fun w' => w'.cell? ⟨g, 0, none⟩ = some (.int .u32 a) ∧ w'.cell? ⟨g, 1, none⟩ = some (.int .i64 b))
        (go_keep)
        (first | (go_at_call 46; refine (HM.out _).mono ?_; rintro e w2 ⟨rfl, hB⟩; (have d0 : w2.cell? ⟨g, 0, none⟩ = some (.int .u32 a) := (hB.cell (p := ⟨g, 0, none⟩) hl).trans c0); (have d1 : w2.cell? ⟨g, 1, none⟩ = some (.int .i64 b) := (hB.cell (p := ⟨g, 1, none⟩) hl).trans c1); have HB2 := hide hB; clear hB))
      go_wp2_with fail
      go_ret
      exact ⟨rfl, HB0.out.drew.trans (HB2.out.mono HB0.out.size)⟩
end Go.Proofs.YtgikkjjnoakhdaaDoor
