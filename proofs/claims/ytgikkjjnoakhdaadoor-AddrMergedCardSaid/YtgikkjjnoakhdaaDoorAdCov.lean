/- Package addr: Covers, First, Last. -/
import Derived.Test.YtgikkjjnoakhdaaDoorAdIn
namespace Go.Proofs.YtgikkjjnoakhdaaDoor
open Go.RowKit

theorem BoxAt.keepd {W0 W W' : World} {g a : Nat} {b : Int} (h : BoxAt W0 g a b) (hb : Below W.heap.size W W') (e : W.heap = W0.heap := by rfl) : W'.cell? ⟨g, 0, none⟩ = some (.int .u32 a) ∧ W'.cell? ⟨g, 1, none⟩ = some (.int .i64 b) := ⟨(h.next hb e).c0, (h.next hb e).c1⟩

set_option maxRecDepth 100000 in
theorem covers_any (c d : Net) (ha : c.a < 4294967296) (hd : d.a < 4294967296) (w : World) : Calls Tryd.prog 29 #[c.val, d.val] w (fun e w' => e = .returned (.bool (coversB c d)) ∧ Below w.heap.size w w') := by
  have HM := hide (fun W => may_any d hd W)
  have HI := hide (fun W => in_any c ha d.a hd W)
  have hc : coversB c d = (mayB d && decide (c.b ≤ d.b) && inB c d.a) := rfl
  rw [hc]
  clear hc
  generalize inB c d.a = y at HI ⊢
  generalize mayB d = x at HM ⊢
  obtain ⟨a, b⟩ := c
  obtain ⟨a', b'⟩ := d
  unfold Net.val at *
  dsimp only at *
  go_enter Tryd.func29, Tryd.ntmps29
  go_wp2_with fail
  have hB0 : Below w.heap.size w ((w.alloc (.cells #[.int .u32 a, .int .i64 b] 24)).alloc (.cells #[.int .u32 a', .int .i64 b'] 24)) := ((Below.refl _ _).alloc (Nat.le_refl _) _).alloc (by simp) _
  have HX := hide (show BoxAt ((w.alloc (.cells #[.int .u32 a, .int .i64 b] 24)).alloc (.cells #[.int .u32 a', .int .i64 b'] 24)) w.heap.size a b from (Below.heap_alloc _ _ _ (by simp)).trans (BoxAt.new w a b))
  have HY := hide (BoxAt.new (w.alloc (.cells #[.int .u32 a, .int .i64 b] 24)) a' b')
  have HB0 := hide hB0
  refine (HM.out _).mono ?_
  rintro e w2 ⟨rfl, hB⟩
  have HB2 := hide (HB0.out.trans (hB.mono HB0.out.size))
  cases x with
  | false =>
    clear hB hB0 HX HY HM
    go_wp2_with fail
    go_ret
    exact ⟨rfl, HB2.out⟩
  | true =>
    have c0 := (HX.out.next hB).c0
    have c1 := (HX.out.next hB).c1
    have d0 := (HY.out.next hB).c0
    have d1 := (HY.out.next hB).c1
    rw [World.size_alloc] at d0 d1
    clear hB hB0 HX HY HM
    by_cases hle : b ≤ b'
    · go_wp2_with fail
      refine (HI.out _).mono ?_
      rintro e w3 ⟨rfl, hB⟩
      have HB3 := hide (HB2.out.trans (hB.mono HB2.out.size))
      clear hB
      go_wp2_with fail
      go_ret
      exact ⟨by simp [hle], HB3.out⟩
    · go_wp2_with fail
      go_ret
      exact ⟨by simp [show ¬ b ≤ b' by omega], HB2.out⟩

set_option maxRecDepth 100000 in
theorem first_any (c : Net) (ha : c.a < 4294967296) (w : World) : Calls Tryd.prog 20 #[c.val] w (fun e w' => e = .returned (.tuple #[.int .u32 (if mayB c = true then c.a else 0 : Nat), .bool (mayB c)]) ∧ Below w.heap.size w w') := by
  have HM := hide (fun W => may_any c ha W)
  generalize mayB c = x at HM ⊢
  obtain ⟨a, b⟩ := c
  unfold Net.val at *
  dsimp only at *
  have HB0 : Hid (Below w.heap.size w (w.alloc (.cells #[.int .u32 a, .int .i64 b] 24))) := hide ((Below.refl _ _).alloc (Nat.le_refl _) _)
  have HX := hide (BoxAt.new w a b)
  cases x with
  | false =>
    go_enter Tryd.func20, Tryd.ntmps20
    go_wp2_with fail
    refine (HM.out _).mono ?_
    rintro e w2 ⟨rfl, hB⟩
    go_wp2_with fail
    go_ret2
    exact ⟨rfl, HB0.out.trans (hB.mono HB0.out.size)⟩
  | true =>
    go_enter Tryd.func20, Tryd.ntmps20
    go_wp2_with fail
    refine (HM.out _).mono ?_
    rintro e w2 ⟨rfl, hB⟩
    have c0 := (HX.out.next hB).c0
    go_wp2_with fail
    go_ret2
    exact ⟨rfl, HB0.out.trans (hB.mono HB0.out.size)⟩

theorem xor_ones (m : Nat) (h : m < 4294967296) : 4294967295 ^^^ m = 4294967295 - m := by
  apply Nat.eq_of_testBit_eq
  intro i
  rw [show 4294967295 - m = 2 ^ 32 - (m + 1) by omega, Nat.testBit_two_pow_sub_succ h, Nat.testBit_xor, show 4294967295 = 2 ^ 32 - 1 from rfl, Nat.testBit_two_pow_sub_one]
  by_cases h2 : i < 32
  · simp [h2]
  · have h3 : m.testBit i = false := Nat.testBit_lt_two_pow (Nat.lt_of_lt_of_le h (Nat.pow_le_pow_right (show 2 > 0 by omega) (show 32 ≤ i by omega)))
    simp [h2, h3]
theorem u32_xor2 (x y : Nat) (hx : x < 4294967296) (hy : y < 4294967296) : bits BinOp.xor IntKind.u32 x y = ((x ^^^ y : Nat) : Int) := by
  have h := Nat.xor_lt_two_pow (n := 32) hx hy
  have e : bits BinOp.xor IntKind.u32 (x : Int) (y : Int) = IntKind.u32.wrap ((x ^^^ y : Nat) : Int) := by
    simp [bits, show IntKind.u32.bits = 32 from rfl, BitVec.toNat_xor, Nat.mod_eq_of_lt hx, Nat.mod_eq_of_lt hy]
  rw [e]
  exact IntWalk.u32_in _ (by omega)
theorem u32_or2 (x y : Nat) (hx : x < 4294967296) (hy : y < 4294967296) : bits BinOp.or IntKind.u32 x y = ((x ||| y : Nat) : Int) := by
  have h := Nat.or_lt_two_pow (n := 32) hx hy
  have e : bits BinOp.or IntKind.u32 (x : Int) (y : Int) = IntKind.u32.wrap ((x ||| y : Nat) : Int) := by
    simp [bits, show IntKind.u32.bits = 32 from rfl, BitVec.toNat_or, Nat.mod_eq_of_lt hx, Nat.mod_eq_of_lt hy]
  rw [e]
  exact IntWalk.u32_in _ (by omega)
theorem not_mask (b : Int) : bits BinOp.xor IntKind.u32 IntKind.u32.max ((4294967296 - sz b : Nat) : Int) = ((sz b - 1 : Nat) : Int) := by
  have h := sz_pos b
  have h2 := sz_le32 b
  have e := u32_xor2 4294967295 (4294967296 - sz b) (by omega) (by omega)
  rw [xor_ones _ (by omega)] at e
  rw [show IntKind.u32.max = ((4294967295 : Nat) : Int) from rfl, e]
  omega
theorem or_low {a : Nat} {b : Int} (ha : a < 4294967296) (hd : sz b ∣ a) : bits BinOp.or IntKind.u32 (a : Int) ((sz b - 1 : Nat) : Int) = ((a + (sz b - 1) : Nat) : Int) := by
  have h := sz_pos b
  have h2 := sz_le32 b
  rw [u32_or2 a (sz b - 1) ha (by omega)]
  obtain ⟨q, rfl⟩ := hd
  unfold sz at h ⊢
  rw [Nat.two_pow_add_eq_or_of_lt (by omega) q]

set_option maxRecDepth 100000 in
theorem last_any (c : Net) (ha : c.a < 4294967296) (w : World) : Calls Tryd.prog 21 #[c.val] w (fun e w' => e = .returned (.tuple #[.int .u32 (if mayB c = true then c.a + (sz c.b - 1) else 0 : Nat), .bool (mayB c)]) ∧ Below w.heap.size w w') := by
  have HM := hide (fun W => may_any c ha W)
  have HK := hide (fun W => mask_any c.b W)
  have hmay := hide (mayB_iff c)
  generalize mayB c = x at HM hmay ⊢
  obtain ⟨a, b⟩ := c
  unfold Net.val at *
  dsimp only at *
  have HB0 : Hid (Below w.heap.size w (w.alloc (.cells #[.int .u32 a, .int .i64 b] 24))) := hide ((Below.refl _ _).alloc (Nat.le_refl _) _)
  have HX := hide (BoxAt.new w a b)
  cases x with
  | false =>
    go_enter Tryd.func21, Tryd.ntmps21
    go_wp2_with fail
    refine (HM.out _).mono ?_
    rintro e w2 ⟨rfl, hB⟩
    go_wp2_with fail
    go_ret2
    exact ⟨rfl, HB0.out.trans (hB.mono HB0.out.size)⟩
  | true =>
    have hor := hide (or_low (b := b) ha (hmay.out.1 rfl).dvd)
    have hnm := hide (not_mask b)
    have hsg : IntKind.u32.signed = false := rfl
    clear hmay HK
    go_enter Tryd.func21, Tryd.ntmps21
    go_wp2_with fail
    refine (HM.out _).mono ?_
    rintro e w2 ⟨rfl, hB⟩
    have c0 := (HX.out.next hB).c0
    have c1 := (HX.out.next hB).c1
    have HB2 := hide (HB0.out.trans (hB.mono HB0.out.size))
    clear hB HX HB0 HM
    go_wp2_with fail
    go_quiet ((go_at_call 24; first | exact quiet_left (mask_any b _) | exact quiet_add_left (mask_any b _)))
    go_wp2_with fail
    rw [hnm.out, hor.out]
    go_ret2
    exact ⟨rfl, below_drewN HB2.out _⟩
end Go.Proofs.YtgikkjjnoakhdaaDoor
