/- The document's limbs of layer 1: its contract; slices of numbers that are known whole. -/
import Derived.Test.YteocienbfhgmjaaProg
import Derived.Test.YteocienbfhgmjaaRtP
import Derived.Test.YteocienbfhgmjaaArr
import Derived.Test.YteocienbfhgmjaaEndP
import Derived.Test.YteocienbfhgmjaaSum
import Derived.IntWalk
namespace Go.Proofs.Yteocienbfhgmjaa
open Go.RowKit

def ints (l : List Nat) : List Int := l.map fun n : Nat => (n : Int)
theorem ln_eq : ∀ l : List Nat, ln l = l.length
  | [] => rfl
  | _ :: l => by rw [ln, ln_eq l, List.length_cons]
theorem length_ints (l : List Nat) : (ints l).length = l.length := by simp [ints]
theorem gt_eq : ∀ (l : List Nat) (i : Nat), nth (ints l) i = (gt l i : Int)
  | [], i => by simp [ints, nth, gt]
  | a :: l, 0 => by simp [ints, nth, gt]
  | a :: l, i + 1 => by
    have h := gt_eq l i
    simp [ints, nth, gt] at h ⊢
    exact h
theorem st_eq : ∀ (l : List Nat) (i v : Nat), ints (st l i v) = (ints l).set i (v : Int)
  | [], i, v => by simp [ints, st]
  | a :: l, 0, v => by simp [ints, st]
  | a :: l, i + 1, v => by
    have h := st_eq l i v
    simp [ints, st] at h ⊢
    exact h
theorem length_st : ∀ (l : List Nat) (i v : Nat), (st l i v).length = l.length
  | [], _, _ => rfl
  | _ :: _, 0, _ => rfl
  | _ :: l, i + 1, v => by rw [st, List.length_cons, length_st l i v, List.length_cons]

/-- The slice value v is a whole block of the numbers l. -/
def UB (w : World) (v : Value) (l : List Nat) : Prop := ∃ g, v = .slice (some ⟨g, 0, none⟩) l.length l.length ∧ Blk w g 23 .u32 (ints l)
theorem UB.below {w w' : World} {v : Value} {l : List Nat} (h : UB w v l) (hb : Below w.heap.size w w') : UB w' v l := by
  obtain ⟨g, hv, h⟩ := h
  exact ⟨g, hv, blk_through hb h⟩

theorem and16 (n : Nat) (h : n < 18446744073709551616) : bits BinOp.and IntKind.u64 (n : Int) 65535 = ((n % 65536 : Nat) : Int) := by
  have := u64_and_nat n 65535 h (by omega)
  rw [show (65535 : Nat) = 2 ^ 16 - 1 from rfl, Nat.and_two_pow_sub_one_eq_mod] at this
  exact this

/-- Behind limbs. -/
def UPost (l : List Nat) (w : World) (e : Ending) (w' : World) : Prop := ∃ g, e = .returned (.slice (some ⟨g, 0, none⟩) l.length l.length) ∧ w.heap.size ≤ g ∧ Blk w' g 23 .u32 (ints l) ∧ Below w.heap.size w w'

set_option maxRecDepth 100000 in
theorem limbs_ref (n : Nat) (w : World) (hn : n < 18446744073709551616) : Calls Try.prog 52 #[.int .u64 n] w (UPost (limbsN n) w) := by
  have h0 := and16 n hn
  have h1 := and16 (n / 65536) (by omega)
  have h2 := and16 (n / 4294967296) (by omega)
  rw [show (((n / 65536 : Nat)) : Int) = (n : Int) / 65536 by omega] at h1
  rw [show (((n / 4294967296 : Nat)) : Int) = (n : Int) / 4294967296 by omega] at h2
  go_enter Try.func52, Try.ntmps52
  go_wp2_with fail
  have hl : cellsOf .u32 (ints (limbsN n)) = #[.int .u32 ((n : Int) % 65536), .int .u32 ((n : Int) / 65536 % 65536), .int .u32 ((n : Int) / 4294967296 % 65536), .int .u32 ((n : Int) / 281474976710656)] := by
    have h3 : (((n / 281474976710656 % 4294967296 : Nat)) : Int) = (n : Int) / 281474976710656 := by omega
    simp [cellsOf, ints, limbsN, h3]
  have HL := hide hl
  clear hl h0 h1 h2
  go_ret
  exact ⟨w.heap.size, rfl, Nat.le_refl _, by unfold Blk; rw [HL.out]; exact heap_alloc_new _ _, (Below.refl _ _).alloc (Nat.le_refl _) _⟩
end Go.Proofs.Yteocienbfhgmjaa
