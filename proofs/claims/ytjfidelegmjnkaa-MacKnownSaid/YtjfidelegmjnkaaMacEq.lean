/- Package mac: Equal. -/
import Derived.Test.YtjfidelegmjnkaaProg
import Derived.Test.YtjfidelegmjnkaaMacPl
import Derived.Test.YtjfidelegmjnkaaSpread
import Derived.Laws.BitsLemmas
namespace Go.Proofs.Ytjfidelegmjnkaa
open Go.RowKit

/-- What the first k bytes of two rows differ by, gathered. -/
def diffTo (a b : List Int) : Nat → Int
  | 0 => 0
  | k + 1 => bits BinOp.or IntKind.u8 (diffTo a b k) (bits BinOp.xor IntKind.u8 (nth a k) (nth b k))

theorem xor_zero (x y : Nat) : x ^^^ y = 0 ↔ x = y := by
  constructor
  · intro e
    have : x ^^^ (x ^^^ y) = x ^^^ 0 := by rw [e]
    rw [← Nat.xor_assoc, Nat.xor_self, Nat.zero_xor, Nat.xor_zero] at this
    exact this.symm
  · rintro rfl
    exact Nat.xor_self x

theorem u8_xor (x y : Nat) (hx : x < 256) (hy : y < 256) : bits BinOp.xor IntKind.u8 x y = ((x ^^^ y : Nat) : Int) := by
  have h := Nat.xor_lt_two_pow (n := 8) hx hy
  simp only [bits, BitVec.ofInt_natCast, BitVec.toNat_xor, BitVec.toNat_ofNat, show IntKind.u8.bits = 8 from rfl]
  rw [Nat.mod_eq_of_lt (a := x) (by omega), Nat.mod_eq_of_lt (a := y) (by omega)]
  exact wraps_u8 _ (by omega) (by omega)

theorem u8_range (a b : Int) (ha : 0 ≤ a ∧ a < 256) (hb : 0 ≤ b ∧ b < 256) :
    (∃ m : Nat, m < 256 ∧ bits BinOp.xor IntKind.u8 a b = m ∧ (m = 0 ↔ a = b)) ∧ (∃ m : Nat, m < 256 ∧ bits BinOp.or IntKind.u8 a b = m ∧ (m = 0 ↔ a = 0 ∧ b = 0)) := by
  obtain ⟨x, rfl⟩ : ∃ x : Nat, a = x := ⟨a.toNat, by omega⟩
  obtain ⟨y, rfl⟩ : ∃ y : Nat, b = y := ⟨b.toNat, by omega⟩
  have h := bits_nat .u8 8 (by decide) wraps_u8 x y (by omega) (by omega)
  refine ⟨⟨x ^^^ y, Nat.xor_lt_two_pow (n := 8) (by omega) (by omega), u8_xor x y (by omega) (by omega), ?_⟩, ⟨x ||| y, Nat.or_lt_two_pow (n := 8) (by omega) (by omega), h.2, ?_⟩⟩
  · rw [xor_zero]; omega
  · rw [Nat.or_eq_zero_iff]
    omega

theorem diffTo_spec (a b : List Int) (ha : ∀ i, i < 32 → 0 ≤ nth a i ∧ nth a i < 256) (hb : ∀ i, i < 32 → 0 ≤ nth b i ∧ nth b i < 256) :
    ∀ k, k ≤ 32 → (0 ≤ diffTo a b k ∧ diffTo a b k < 256) ∧ (diffTo a b k = 0 ↔ ∀ i, i < k → nth a i = nth b i)
  | 0, _ => by simp [diffTo]
  | k + 1, h => by
    obtain ⟨h1, h2⟩ := diffTo_spec a b ha hb k (by omega)
    obtain ⟨m, hm, e1, e2⟩ := (u8_range (nth a k) (nth b k) (ha k (by omega)) (hb k (by omega))).1
    obtain ⟨n, hn, f1, f2⟩ := (u8_range (diffTo a b k) m h1 (by omega)).2
    rw [diffTo, e1, f1]
    refine ⟨by omega, ?_⟩
    constructor
    · intro e i hi
      have h0 := f2.1 (by omega)
      rcases Nat.lt_succ_iff_lt_or_eq.1 hi with hi | rfl
      · exact h2.1 h0.1 i hi
      · exact e2.1 (by omega)
    · intro e
      have := f2.2 ⟨h2.2 (fun i hi => e i (by omega)), by have := e2.2 (e k (by omega)); omega⟩
      omega

/-- Whether two rows of 32 bytes are the same. -/
theorem diffTo_all (a b : List Int) (la : a.length = 32) (lb : b.length = 32) (ha : ∀ i, i < 32 → 0 ≤ nth a i ∧ nth a i < 256) (hb : ∀ i, i < 32 → 0 ≤ nth b i ∧ nth b i < 256) :
    (diffTo a b 32 == 0) = (a == b) := by
  have h := (diffTo_spec a b ha hb 32 (Nat.le_refl _)).2
  rw [Bool.eq_iff_iff, beq_iff_eq, beq_iff_eq, h]
  constructor
  · intro e
    apply List.ext_getElem (by omega)
    intro i h1 h2
    have := e i (by omega)
    simpa [nth, List.getD, h1, h2] using this
  · rintro rfl i _
    rfl

theorem heap4_0 (w : World) (a b c d : Obj) : ((((w.alloc a).alloc b).alloc c).alloc d).heap[w.heap.size]? = some a := by
  rw [Below.heap_alloc _ _ _ (by simp; omega), heap3_0]
theorem heap4_1 (w : World) (a b c d : Obj) : ((((w.alloc a).alloc b).alloc c).alloc d).heap[w.heap.size + 1]? = some b := by
  rw [Below.heap_alloc _ _ _ (by simp), heap3_1]
theorem heap4_2 (w : World) (a b c d : Obj) : ((((w.alloc a).alloc b).alloc c).alloc d).heap[w.heap.size + 1 + 1]? = some c := by
  rw [Below.heap_alloc _ _ _ (by simp), heap3_2]
theorem heap4_3 (w : World) (a b c d : Obj) : ((((w.alloc a).alloc b).alloc c).alloc d).heap[w.heap.size + 1 + 1 + 1]? = some d := by
  have := heap_alloc_new (((w.alloc a).alloc b).alloc c) d
  simpa using this

theorem size_one (x : Int) : (Try.prog.info? 42).map (·.size) = some (cellsOf .u8 [x]).size := by kernel_rfl

set_option maxRecDepth 100000 in
set_option maxHeartbeats 1000000 in
theorem equal_any (a b : List Int) (w : World) (la : Hid (a.length = 32)) (lb : Hid (b.length = 32)) :
    Calls Try.prog 13 #[.agg (cellsOf .u8 a), .agg (cellsOf .u8 b)] w (fun e w' => e = .returned (.bool (diffTo a b 32 == 0)) ∧ Below w.heap.size w w') := by
  go_enter Try.func13, Try.ntmps13
  go_wp2_with fail
  go_loopw [8] (fun i wr => ∃ k : Nat, k ≤ 32 ∧ i = .int .i64 k ∧ Blk wr w.heap.size 25 .u8 a ∧ Blk wr (w.heap.size + 1) 25 .u8 b ∧
      Blk wr (w.heap.size + 1 + 1) 42 .u8 [diffTo a b k] ∧ Blk wr (w.heap.size + 1 + 1 + 1) 42 .u8 [0] ∧ Below w.heap.size w wr)
    (fun i _ => 32 - (intOf i).toNat)
  case atStart => exact ⟨0, by omega, rfl, heap4_0 _ _ _ _ _, heap4_1 _ _ _ _ _, heap4_2 _ _ _ _ _, heap4_3 _ _ _ _ _, ((((Below.refl _ _).alloc (Nat.le_refl _) _).alloc (by simp) _).alloc (by simp; omega) _).alloc (by simp; omega) _⟩
  case round =>
    obtain ⟨k, hk, rfl, ha, hb, h5, h6, hB⟩ := hrel
    have hc5 := h5.cell 0 (by simp)
    rw [show nth [diffTo a b k] 0 = diffTo a b k from rfl] at hc5
    by_cases hlt : k < 32
    · have hca := ha.cell k (by rw [la.out]; exact hlt)
      have hcb := hb.cell k (by rw [lb.out]; exact hlt)
      have hf := h5.free 0
      have H5 := hide (h5.set 0 (diffTo a b (k + 1)))
      have HA := hide (ha.other ⟨w.heap.size + 1 + 1, 0, none⟩ (.int .u8 (diffTo a b (k + 1))) (by simp <;> omega))
      have HB' := hide (hb.other ⟨w.heap.size + 1 + 1, 0, none⟩ (.int .u8 (diffTo a b (k + 1))) (by simp <;> omega))
      have H6 := hide (h6.other ⟨w.heap.size + 1 + 1, 0, none⟩ (.int .u8 (diffTo a b (k + 1))) (by simp <;> omega))
      have HB := hide (hB.setCell (p := ⟨w.heap.size + 1 + 1, 0, none⟩) (by show w.heap.size ≤ w.heap.size + 1 + 1; omega) (.int .u8 (diffTo a b (k + 1))))
      clear ha hb h5 h6 hB
      go_wp2_with (go_region)
      go_roundw
      case rel => exact ⟨k + 1, by omega, by go_num, HA.out.drew, HB'.out.drew, H5.out.drew, H6.out.drew, HB.out.drew⟩
      case measure => simp [intOf]; omega
    · obtain rfl : k = 32 := by omega
      clear hc5
      have heq : ∀ w : World, (Op.equalIn 10000 42 (.agg (cellsOf .u8 [diffTo a b 32])) (.agg (cellsOf .u8 [0]))).run Try.prog w = .ok ([diffTo a b 32] == [0]) w := run_equalIn_cells (P := Try.prog) 9998 42 5 1 .u8 Try.underlying42 Try.underlying5 size5 [diffTo a b 32] [0] rfl rfl
      go_wp2_with (first | (with_reducible refine wpList_load_row rfl 42 (.tmp 5) rfl (w.heap.size + 1 + 1) rfl _ _ (0, 0) _ h5.row Try.underlying42 rfl (size_one _) ?_) | (with_reducible refine wpList_load_row rfl 42 (.tmp 6) rfl (w.heap.size + 1 + 1 + 1) rfl _ _ (0, 0) _ h6.row Try.underlying42 rfl (size_one _) ?_))
      go_ret
      exact ⟨by simp, hB⟩
end Go.Proofs.Ytjfidelegmjnkaa
