/- Package mac: plain words of it, and the closure that turns a key's block. -/
import Derived.Test.YtaomigfmjglggaaDoorProg
import Derived.Test.YtaomigfmjglggaaDoorBase
import Derived.Test.YtaomigfmjglggaaDoorCat
import Derived.WalkKit
import Derived.WalkSpells
import Derived.WalkLawsBesides
import Derived.Laws.CopyOwn
namespace Go.Proofs.YtaomigfmjglggaaDoor
open Go.RowKit

/-- Each byte turned by exclusive or with y. -/
def turnB (y : Int) (l : List Int) : List Int := l.map (fun x => bits BinOp.xor IntKind.u8 x y)
theorem length_turnB (y : Int) (l : List Int) : (turnB y l).length = l.length := List.length_map ..

/-- The first k of a row turned, the others as they are. -/
def turnTo (y : Int) (l : List Int) (k : Nat) : List Int := turnB y (l.take k) ++ l.drop k
theorem length_turnTo (y : Int) (l : List Int) (k : Nat) : (turnTo y l k).length = l.length := by simp [turnTo, length_turnB]; omega
theorem turnTo_zero (y : Int) (l : List Int) : turnTo y l 0 = l := rfl
theorem turnTo_all (y : Int) (l : List Int) (k : Nat) (h : l.length ≤ k) : turnTo y l k = turnB y l := by
  rw [turnTo, List.take_of_length_le h, List.drop_eq_nil_of_le h, List.append_nil]
theorem nth_turnTo (y : Int) (l : List Int) (k : Nat) (h : k < l.length) : nth (turnTo y l k) k = nth l k := by
  rw [turnTo, nth, nth, List.getD, List.getD, List.getElem?_append_right (by rw [length_turnB]; simp; omega)]
  simp [length_turnB, Nat.min_eq_left (Nat.le_of_lt h)]
theorem turnTo_succ (y : Int) (l : List Int) (k : Nat) (h : k < l.length) : turnTo y l (k + 1) = (turnTo y l k).set k (bits BinOp.xor IntKind.u8 (nth l k) y) := by
  have e : l.drop k = l[k] :: l.drop (k + 1) := List.drop_eq_getElem_cons h
  have e2 : nth l k = l[k] := by simp [nth, List.getD, h]
  have h3 : (turnB y (l.take k)).length = k := by rw [length_turnB]; simp; omega
  rw [turnTo, turnTo, e, e2, List.set_append_right _ _ (by omega), h3, Nat.sub_self, List.set_cons_zero, List.take_succ_eq_append_getElem h, turnB, turnB, List.map_append, List.append_assoc]
  rfl

theorem zeroK (w : World) : (zeroValue 122).run Tryd.prog w = .ok (.agg (cellsOf .u8 zeros64)) w := by kernel_rfl
theorem sizeK : (Tryd.prog.info? 122).map (·.size) = some 64 := by kernel_rfl
theorem szK (l : List Int) (h : l.length = 64) : (Tryd.prog.info? 122).map (·.size) = some (cellsOf .u8 l).size := by rw [size_cellsOf, h]; exact sizeK
theorem szZK (l : List Int) (h : l.length = 64) : (cellsOf .u8 zeros64).size = (cellsOf .u8 l).size := by rw [size_cellsOf, size_cellsOf, h]; rfl
theorem lenK {l : List Int} (h : l.length = 64) : zeros64.length = l.length := h.symm

/-- A row of 64 bytes as a slice. -/
theorem slAt_blkN {W : World} {g n : Nat} {t : TypeId} {l : List Int} (h : Blk W g t .u8 l) (hl : l.length = n) : SlAt W (.slice (some ⟨g, 0, none⟩) n n) l := by
  refine ⟨_, n, by rw [hl], (fun h => by cases h), by omega, fun ad had i hi => ?_⟩
  cases had
  refine ⟨rfl, h.lt, ?_⟩
  rw [addr_plain', Nat.zero_add]
  exact h.cell i hi

set_option maxRecDepth 100000 in
set_option maxHeartbeats 1000000 in
theorem turnKey_any (y : Int) (g : Nat) (bl : List Int) (w : World) (hb : Blk w g 122 .u8 bl) (hl : Hid (bl.length = 64)) :
    Calls Tryd.prog 86 #[.int .u8 y, .pointer (some ⟨g, 0, none⟩)] w (fun e w' => ∃ g', e = .returned (.slice (some ⟨g', 0, none⟩) 64 64) ∧ SlAt w' (.slice (some ⟨g', 0, none⟩) 64 64) (turnB y bl) ∧ Below w.heap.size w w') := by
  have hal : Tryd.prog.arrayLen 122 = 64 := by kernel_rfl
  go_enter Tryd.func86, Tryd.ntmps86
  go_wp2_with (first
    | (with_reducible refine wpList_load_row rfl 122 (.tmp 1) rfl g rfl _ _ (0, 0) _ hb.row Tryd.underlying122 rfl (szK bl hl.out) ?_)
    | (with_reducible refine wpList_alloc_row rfl 122 rfl (cellsOf .u8 zeros64) zeroK ?_)
    | (with_reducible refine wpList_store_row rfl 122 (.tmp 4) (.tmp 6) rfl w.heap.size (cellsOf .u8 bl) rfl rfl _ _ (heap_alloc_new _ _) (szK bl hl.out) (szZK bl hl.out) (oneCell_cellsOf _ _) ?_))
  go_loopw [7] (fun i wr => ∃ k : Nat, k ≤ 64 ∧ i = .int .i64 k ∧ Blk wr w.heap.size 122 .u8 (turnTo y bl k) ∧ Below w.heap.size w wr)
    (fun i _ => 64 - (intOf i).toNat)
  case atStart => exact ⟨0, by omega, rfl, (Blk.new w 122 .u8 zeros64).setRow bl, below_setRow ((Below.refl _ _).alloc (Nat.le_refl _) _) (Nat.le_refl _) _⟩
  case round =>
    clear hb
    obtain ⟨k, hk, rfl, hw, hB⟩ := hrel
    by_cases hlt : k < 64
    · have hc := hw.cell k (by rw [length_turnTo, hl.out]; exact hlt)
      rw [nth_turnTo y bl k (by rw [hl.out]; exact hlt)] at hc
      have hf := hw.free k
      have Hs := hide (hw.set k (bits BinOp.xor IntKind.u8 (nth bl k) y))
      have HB := hide (hB.setCell (p := ⟨w.heap.size, k, none⟩) (Nat.le_refl _) (.int .u8 (bits BinOp.xor IntKind.u8 (nth bl k) y)))
      clear hw hB
      go_wp2_with fail
      go_roundw
      case rel => exact ⟨k + 1, by omega, by go_num, by rw [turnTo_succ y bl k (by rw [hl.out]; exact hlt)]; exact Hs.out, HB.out⟩
      case measure => simp [intOf]; omega
    · have hk64 : k = 64 := by omega
      subst hk64
      rw [turnTo_all y bl 64 (by rw [hl.out]; exact Nat.le_refl _)] at hw
      have HW := hide (slAt_blkN hw (n := 64) (by rw [length_turnB, hl.out]))
      clear hw
      go_wp2_with fail
      go_ret
      exact ⟨_, rfl, HW.out, hB⟩
end Go.Proofs.YtaomigfmjglggaaDoor
