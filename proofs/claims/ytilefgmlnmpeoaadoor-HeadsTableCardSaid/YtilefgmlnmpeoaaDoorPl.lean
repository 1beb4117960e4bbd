/- Plain words: rows of numbers and of bytes in memory, SHA-256 in the model's words, the end of a number of bytes, primes and roots, bytes taken block by block; no program is named here. -/
import Derived.WalkKit
import Derived.WalkSpells
import Derived.Deep.QuietTactic
import Derived.Laws.BytesArg
import Derived.OwnWalkIn
import Derived.RangeFuncBound
import Derived.RangeFuncFrom
import Derived.Laws.StructEq
namespace Go.Proofs.YtilefgmlnmpeoaaDoor
open Go.RowKit

theorem quiet_left {P : Program} {f : FuncId} {args : Array Value} {w : World} {n : Nat} {v : Value}
    (h : Calls P f args (w.drewN n) fun e w' => e = .returned v ∧ w.drewN n = w') : Calls P f args (w.drewN n) fun e w'' => e = .returned v ∧ ∃ m, w'' = w.drewN m :=
  h.mono fun _ _ ⟨he, hm⟩ => ⟨he, n, hm.symm⟩

theorem quiet_add_left {P : Program} {f : FuncId} {args : Array Value} {w : World} {a n : Nat} {v : Value}
    (h : Calls P f args (w.drewN (a + n)) fun e w' => e = .returned v ∧ w.drewN (a + n) = w') :
    Calls P f args (w.drewN (a + n)) fun e w'' => e = .returned v ∧ ∃ m, w'' = w.drewN (a + m) :=
  h.mono fun _ _ ⟨he, hm⟩ => ⟨he, n, hm.symm⟩

theorem hide {p : Prop} (h : p) : Hid p := h

/-- The i-th number of a list, 0 behind its end: a name that the walk does not open. -/
def nth (l : List Int) (i : Nat) : Int := l.getD i 0

/-- The cells of a row of numbers. -/
def cellsOf (k : IntKind) (l : List Int) : Array Value := (l.map (Value.int k)).toArray

theorem size_cellsOf (k : IntKind) (l : List Int) : (cellsOf k l).size = l.length := by simp [cellsOf]

theorem get_cellsOf (k : IntKind) (l : List Int) (i : Nat) (h : i < l.length) : (cellsOf k l)[i]? = some (.int k (nth l i)) := by
  simp [cellsOf, nth, h, List.getD]

theorem set_cellsOf (k : IntKind) (l : List Int) (i : Nat) (v : Int) : (cellsOf k l).setIfInBounds i (.int k v) = cellsOf k (l.set i v) := by
  simp [cellsOf, List.map_set]

theorem oneCell_cellsOf (k : IntKind) (l : List Int) : (cellsOf k l).all (·.oneCell') = true := by
  rw [Array.all_eq_true_iff_forall_mem]
  intro x hx
  simp [cellsOf] at hx
  obtain ⟨a, _, rfl⟩ := hx
  rfl

theorem toArray_cellsOf (k : IntKind) (l : List Int) : (cellsOf k l).toList = l.map (Value.int k) := by simp [cellsOf]

/-- The block g is a row of numbers of kind k. -/
def Blk (w : World) (g : Nat) (t : TypeId) (k : IntKind) (l : List Int) : Prop := w.heap[g]? = some (.cells (cellsOf k l) t (0, 0))

theorem Blk.row {w : World} {g : Nat} {t : TypeId} {k : IntKind} {l : List Int} (h : Blk w g t k l) : w.heap[g]? = some (.cells (cellsOf k l) t (0, 0)) := h

theorem Blk.cell {w : World} {g : Nat} {t : TypeId} {k : IntKind} {l : List Int} (h : Blk w g t k l) (i : Nat) (hi : i < l.length) : w.cell? ⟨g, i, none⟩ = some (.int k (nth l i)) := by
  rw [cell_of_row w g i _ t (0, 0) h, get_cellsOf k l i hi]

theorem Blk.free {w : World} {g : Nat} {t : TypeId} {k : IntKind} {l : List Int} (h : Blk w g t k l) (i : Nat) : w.frozen? ⟨g, i, none⟩ = false := frozen_of_row w g i _ t h

theorem Blk.lt {w : World} {g : Nat} {t : TypeId} {k : IntKind} {l : List Int} (h : Blk w g t k l) : g < w.heap.size := (Array.getElem?_eq_some_iff.1 h).1

theorem Blk.set {w : World} {g : Nat} {t : TypeId} {k : IntKind} {l : List Int} (h : Blk w g t k l) (i : Nat) (v : Int) : Blk (w.setCell ⟨g, i, none⟩ (.int k v)) g t k (l.set i v) := by
  unfold Blk
  rw [heap_setCell_same w g i _ t _ h, set_cellsOf]

theorem Blk.other {w : World} {g : Nat} {t : TypeId} {k : IntKind} {l : List Int} (h : Blk w g t k l) (a : Addr) (v : Value) (hne : g ≠ a.block) : Blk (w.setCell a v) g t k l := by
  unfold Blk
  rw [heap_setCell_other w a g v hne]; exact h

theorem Blk.setRow {w : World} {g : Nat} {t : TypeId} {k : IntKind} {l : List Int} (h : Blk w g t k l) (l' : List Int) : Blk (w.setRow g (cellsOf k l')) g t k l' := setRow_heap w g _ _ t (0, 0) h

theorem Blk.rowOther {w : World} {g : Nat} {t : TypeId} {k : IntKind} {l : List Int} (h : Blk w g t k l) (g' : Nat) (cs : Array Value) (hne : g ≠ g') : Blk (w.setRow g' cs) g t k l := by
  unfold Blk
  rw [setRow_other w g' g cs hne]; exact h

theorem Blk.below {w w' : World} {g B : Nat} {t : TypeId} {k : IntKind} {l : List Int} (h : Blk w g t k l) (hb : Below B w w') (hg : g < B) : Blk w' g t k l := (hb.block g hg).trans h

theorem Blk.alloc {w : World} {g : Nat} {t : TypeId} {k : IntKind} {l : List Int} (h : Blk w g t k l) (o : Obj) : Blk (w.alloc o) g t k l := (Below.heap_alloc w o g h.lt).trans h

theorem Blk.drew {w : World} {g : Nat} {t : TypeId} {k : IntKind} {l : List Int} (h : Blk w g t k l) : Blk w.drew g t k l := h

theorem Blk.new (w : World) (t : TypeId) (k : IntKind) (l : List Int) : Blk (w.alloc (.cells (cellsOf k l) t)) w.heap.size t k l := heap_alloc_new w _

theorem below_setRow {B : Nat} {a w : World} (h : Below B a w) {g : Nat} (hg : B ≤ g) (cs : Array Value) : Below B a (w.setRow g cs) :=
  ⟨h.os, h.tape, h.output, by rw [size_setRow]; exact h.size, fun j hj => (setRow_other w g j cs (by omega)).trans (h.block j hj)⟩

section
variable {P : Program}

/-- 'var x T': a new block of zeros, under a name of its own. -/
theorem wpList_alloc_row {ops : Array Oper} {rest : List Oper} {o : Oper} {a : Act} {w : World} {Q : Exit → Act → World → Prop} (hgd : o.guard = none) (ty : TypeId) (ho : o.op = .alloc ty) (Z : Array Value)
    (hz : ∀ w : World, (zeroValue ty).run P w = .ok (.agg Z) w)
    (h : wpList P ops Q rest (a.put o.dst (.pointer (some ⟨w.heap.size, 0, none⟩))) (w.alloc (.cells Z ty))) : wpList P ops Q (o :: rest) a w := by
  refine wpList_plain hgd fun K hK => ?_
  unfold Oper.wp execOp
  simp [ho, Instr.alloc, hz, newVar, Value.cells]
  exact hK _ _ h

/-- 'var x T': the same, the new world under a name of its own: leave the 'intro' for behind the walk. -/
theorem wpList_alloc_blk {ops : Array Oper} {rest : List Oper} {o : Oper} {a : Act} {w : World} {Q : Exit → Act → World → Prop} (hgd : o.guard = none) (ty : TypeId) (ho : o.op = .alloc ty) (k : IntKind) (l : List Int)
    (hz : ∀ w : World, (zeroValue ty).run P w = .ok (.agg (cellsOf k l)) w)
    (h : ∀ w', Blk w' w.heap.size ty k l → w'.heap.size = w.heap.size + 1 → Below w.heap.size w w' → wpList P ops Q rest (a.put o.dst (.pointer (some ⟨w.heap.size, 0, none⟩))) w') : wpList P ops Q (o :: rest) a w :=
  wpList_alloc_row hgd ty ho (cellsOf k l) hz (h _ (Blk.new w ty k l) (by simp) ((Below.refl _ _).alloc (Nat.le_refl _) _))

/-- A whole array stored: the new world under a name of its own. -/
theorem wpList_store_blk {ops : Array Oper} {rest : List Oper} {o : Oper} {a : Act} {w : World} {Q : Exit → Act → World → Prop} (hgd : o.guard = none) (ty : TypeId) (x y : Operand) (ho : o.op = .store ty x y)
    (g : Nat) (k : IntKind) (new : List Int) (hx : a.eval x = .pointer (some ⟨g, 0, none⟩)) (hy : a.eval y = .agg (cellsOf k new)) (t : TypeId) (old : List Int) (hg : Blk w g t k old)
    (hi : (P.info? ty).map (·.size) = some (cellsOf k new).size) (hl : old.length = new.length)
    (h : ∀ w', Blk w' g t k new → w'.heap.size = w.heap.size → (∀ B, B ≤ g → Below B w w') → (∀ j, j ≠ g → w'.heap[j]? = w.heap[j]?) → wpList P ops Q rest (a.put o.dst undef) w') : wpList P ops Q (o :: rest) a w :=
  wpList_store_row hgd ty x y ho g (cellsOf k new) hx hy t (cellsOf k old) hg hi (by rw [size_cellsOf, size_cellsOf, hl]) (oneCell_cellsOf _ _)
    (h _ (hg.setRow new) (size_setRow _ _ _) (fun _ hB => below_setRow (Below.refl _ _) hB _) (fun j hj => _root_.Go.setRow_other w g j _ hj))

theorem Blk.kept {w w' : World} {g g' : Nat} {t : TypeId} {k : IntKind} {l : List Int} (h : Blk w g t k l) (hk : ∀ j, j ≠ g' → w'.heap[j]? = w.heap[j]?) (hne : g ≠ g') : Blk w' g t k l := (hk g hne).trans h

/-- An array of numbers, indexed within its bounds. -/
theorem run_index_cells (t e : TypeId) (n : Nat) (k k' : IntKind) (hu : P.underlying t = some (.array n e)) (he : P.underlying e = some (.int k')) (hs : (P.info? e).map (·.size) = some 1)
    (l : List Int) (hl : l.length = n) (i : Nat) (hi : i < n) (w : World) : (Instr.index t (.agg (cellsOf k l)) (.int .i64 (i : Int))).run P w = .ok (.int k (nth l i)) w := by
  obtain ⟨ie, hie, hes⟩ := Option.map_eq_some_iff.1 hs
  have hagg : (isAgg e).run P w = .ok false w := by
    unfold isAgg
    rw [Sem.run_bind, run_underlying he w]
    simp
  have hc : (0 : Int) ≤ (i : Int) ∧ (i : Int) < (n : Int) := by omega
  have hg := get_cellsOf k l i (by omega)
  simp [Instr.index, asIntOf, run_underlying hu, sizeOf, typeInfo, hie, hes, part, hagg, hc, hg, hi]
end
end Go.Proofs.YtilefgmlnmpeoaaDoor
namespace Go.Proofs.YtilefgmlnmpeoaaDoor
open Go.RowKit

theorem grownBy_of_below {w w' : World} (h : Below w.heap.size w w') : w.grownBy w' none := ⟨h.os, h.tape, h.output, h.size, fun k hk _ => h.block k hk⟩

theorem ownsRow_below {w w' : World} {base : Nat} {e : TypeId} {size : Nat} {v : Value} {n : Nat} {xs : List Value} (h : w.ownsRow base e size v n xs) (hb : Below w.heap.size w w') : w'.ownsRow base e size v n xs := by
  refine h.kept (grownBy_of_below hb) ?_
  cases hv : v.ownBlock with
  | none => exact .inl rfl
  | some k => exact .inr (by simp)

/-- The bytes xs stand in block g from place off on. -/
def BytesAt (w : World) (g off : Nat) (xs : List Int) : Prop := ∀ i, i < xs.length → w.cell? ⟨g, off + i, none⟩ = some (.int .u8 (xs.getD i 0))

theorem bytesAt_of_owns {w : World} {base : Nat} {e : TypeId} {g n cap : Nat} {xs : List Int} (h : w.ownsRow base e 1 (.slice (some ⟨g, 0, none⟩) n cap) n (xs.map (.int .u8))) : BytesAt w g 0 xs := by
  intro i hi
  have hl := h.1
  simp at hl
  have := h.cellAt i (by omega)
  rw [Nat.zero_add, this]
  simp [List.getElem?_eq_getElem hi, List.getD]

theorem BytesAt.below {w w' : World} {B g off : Nat} {xs : List Int} (h : BytesAt w g off xs) (hb : Below B w w') (hg : g < B) : BytesAt w' g off xs :=
  fun i hi => (hb.cell (p := ⟨g, off + i, none⟩) hg).trans (h i hi)

theorem BytesAt.string {P : Program} {w : World} {g off : Nat} {xs : List Int} (h : BytesAt w g off xs) (src e dst cap len : Nat) (hlen : xs.length = len) (hs : P.underlying src = some (.slice e)) (he : P.underlying e = some (.int .u8)) (hd : P.underlying dst = some .string) :
    (convert src dst (.slice (some ⟨g, off, none⟩) len cap)).run P w = .ok (.string (strOfNums xs)) w :=
  run_convert_bytes_arg w src e hs he g off len cap xs hlen (fun i hi => h i (by omega)) dst hd
end Go.Proofs.YtilefgmlnmpeoaaDoor
namespace Go.Proofs.YtilefgmlnmpeoaaDoor
open Go.RowKit

/-- A word turned right by n places, as a left shift by 32 - n beside a right shift by n. -/
def rorS (x : Int) (n : Nat) : Int := bits BinOp.or IntKind.u32 (x * 2 ^ (32 - n) % 4294967296) (x / 2 ^ n)

def turnS (x : Int) (i j k : Nat) : Int := bits BinOp.xor IntKind.u32 (bits BinOp.xor IntKind.u32 (rorS x i) (rorS x j)) (rorS x k)

theorem and31 : ∀ k : Fin 32, 1 ≤ k.val → bits BinOp.and IntKind.u64 (IntKind.u64.wrap (-(k.val : Int))) 31 = ((32 - k.val : Nat) : Int) := by decide +kernel

def zeros64 : List Int := List.replicate 64 0
theorem length_zeros64 : zeros64.length = 64 := rfl

/-- The first sixteen words of a block, byte by byte: the word that byte k goes into, behind it; all words behind k bytes. -/
def packStep (old b : Int) : Int := bits BinOp.or IntKind.u32 (old * 256 % 4294967296) (b % 4294967296)
def packW (bs : List Int) : Nat → List Int
  | 0 => zeros64
  | k + 1 => (packW bs k).set (k / 4) (packStep (nth (packW bs k) (k / 4)) (nth bs k))
def packV (bs : List Int) (k : Nat) : Int := packStep (nth (packW bs k) (k / 4)) (nth bs k)
theorem length_packW (bs : List Int) : ∀ k, (packW bs k).length = 64
  | 0 => rfl
  | k + 1 => by rw [packW, List.length_set, length_packW bs k]

/-- The further words of a block. -/
def sig0 (x : Int) : Int := bits BinOp.xor IntKind.u32 (bits BinOp.xor IntKind.u32 (rorS x 7) (rorS x 18)) (x / 8)
def sig1 (x : Int) : Int := bits BinOp.xor IntKind.u32 (bits BinOp.xor IntKind.u32 (rorS x 17) (rorS x 19)) (x / 1024)
def schedVal (v : List Int) (k : Nat) : Int := (sig1 (nth v (k - 2)) + nth v (k - 7) + sig0 (nth v (k - 15)) + nth v (k - 16)) % 4294967296
def sched (v : List Int) : Nat → List Int
  | 0 => v
  | k + 1 => if 16 ≤ k then (sched v k).set k (schedVal (sched v k) k) else sched v k
theorem length_sched (v : List Int) : ∀ k, (sched v k).length = v.length
  | 0 => rfl
  | k + 1 => by
    rw [sched]
    split
    · rw [List.length_set, length_sched v k]
    · exact length_sched v k
theorem sched_succ (v : List Int) (k : Nat) (h : 16 ≤ k) : sched v (k + 1) = (sched v k).set k (schedVal (sched v k) k) := by rw [sched, if_pos h]
theorem sched_16 (v : List Int) : sched v 16 = v := by simp [sched]
/-- All words of a block. -/
def wordsS (bs : List Int) : List Int := sched (packW bs 64) 64
theorem length_wordsS (bs : List Int) : (wordsS bs).length = 64 := by rw [wordsS, length_sched, length_packW]

/-- The state behind a block. -/
def not32 (x : Int) : Int := bits BinOp.xor IntKind.u32 IntKind.u32.max x
def chS (e f g : Int) : Int := bits BinOp.xor IntKind.u32 (bits BinOp.and IntKind.u32 e f) (bits BinOp.and IntKind.u32 (not32 e) g)
def majS (a b c : Int) : Int := bits BinOp.xor IntKind.u32 (bits BinOp.xor IntKind.u32 (bits BinOp.and IntKind.u32 a b) (bits BinOp.and IntKind.u32 a c)) (bits BinOp.and IntKind.u32 b c)
def t1S (s : List Int) (k w : Int) : Int := nth s 7 + turnS (nth s 4) 6 11 25 + chS (nth s 4) (nth s 5) (nth s 6) + k + w
def t2S (s : List Int) : Int := turnS (nth s 0) 2 13 22 + majS (nth s 0) (nth s 1) (nth s 2)
def stepS (s : List Int) (k w : Int) : List Int :=
  [(t1S s k w + t2S s) % 4294967296, nth s 0, nth s 1, nth s 2, (nth s 3 + t1S s k w) % 4294967296, nth s 4, nth s 5, nth s 6]
def roundsS (h ks ws : List Int) : Nat → List Int
  | 0 => h
  | k + 1 => stepS (roundsS h ks ws k) (nth ks k) (nth ws k)
def addUp (h s : List Int) : Nat → List Int
  | 0 => h
  | i + 1 => (addUp h s i).set i ((nth (addUp h s i) i + nth s i) % 4294967296)
def takeS (h ks bs : List Int) : List Int := addUp h (roundsS h ks (wordsS bs) 64) 8
theorem length_roundsS (h ks ws : List Int) (hl : h.length = 8) : ∀ k, (roundsS h ks ws k).length = 8
  | 0 => hl
  | _ + 1 => rfl
theorem length_addUp (h s : List Int) : ∀ i, (addUp h s i).length = h.length
  | 0 => rfl
  | i + 1 => by rw [addUp, List.length_set, length_addUp h s i]
theorem length_takeS (h ks bs : List Int) : (takeS h ks bs).length = h.length := length_addUp _ _ _

/-- The bytes of a state. -/
def zeros32 : List Int := List.replicate 32 0
def byteOf (x : Int) (j : Nat) : Int := x / 2 ^ (24 - 8 * j) % 256
def bytesTo (sv : List Int) : Nat → List Int
  | 0 => zeros32
  | m + 1 => (bytesTo sv m).set m (byteOf (nth sv (m / 4)) (m % 4))
def outS (sv : List Int) : List Int := bytesTo sv 32
theorem length_bytesTo (sv : List Int) : ∀ m, (bytesTo sv m).length = 32
  | 0 => rfl
  | m + 1 => by rw [bytesTo, List.length_set, length_bytesTo sv m]
theorem length_outS (sv : List Int) : (outS sv).length = 32 := length_bytesTo sv 32
theorem bytesTo_succ (sv : List Int) (k j : Nat) (h : j < 4) : bytesTo sv (4 * k + j + 1) = (bytesTo sv (4 * k + j)).set (4 * k + j) (byteOf (nth sv k) j) := by
  rw [bytesTo, show (4 * k + j) / 4 = k from by omega, show (4 * k + j) % 4 = j from by omega]
end Go.Proofs.YtilefgmlnmpeoaaDoor
namespace Go.Proofs.YtilefgmlnmpeoaaDoor
open Go.RowKit

/-- How many noughts the end of n bytes has. -/
def padZ (n : Nat) : Nat := (119 - n % 64) % 64

/-- The k-th byte of the number of bits, highest first. -/
def lenByte (n : Nat) (k : Nat) : Int := IntKind.u64.wrap ((n : Int) * 8) / 2 ^ (56 - 8 * k) % 256

/-- The first k bytes of the number of bits. -/
def lenBytes (n : Nat) (k : Nat) : List Int := (List.range k).map (lenByte n)

/-- The end of n bytes, without the last 8 - k of its bytes. -/
def endP (n k : Nat) : List Int := 128 :: (List.replicate (padZ n) 0 ++ lenBytes n k)

/-- The end of n bytes. -/
def endS (n : Nat) : List Int := endP n 8

theorem lenBytes_succ (n k : Nat) : lenBytes n (k + 1) = lenBytes n k ++ [lenByte n k] := by simp [lenBytes, List.range_succ]

theorem length_endP (n k : Nat) : (endP n k).length = 1 + padZ n + k := by simp [endP, lenBytes]; omega

theorem length_endS (n : Nat) : (endS n).length = padZ n + 9 := by unfold endS; rw [length_endP]; omega

theorem endP_succ (n k : Nat) : endP n (k + 1) = endP n k ++ [lenByte n k] := by simp [endP, lenBytes_succ]

theorem and63 (n : Nat) (h : n < 18446744073709551616) : bits BinOp.and IntKind.u64 (n : Int) 63 = ((n % 64 : Nat) : Int) := by
  have := u64_and_nat n 63 h (by omega)
  rw [show (63 : Nat) = 2 ^ 6 - 1 from rfl, Nat.and_two_pow_sub_one_eq_mod] at this
  exact this

theorem endWhole (m : Nat) : bits BinOp.and IntKind.u64 ((m : Int) % 64 + ((padZ m : Int) + 9)) 63 = 0 := by
  have h := and63 (m % 64 + (padZ m + 9)) (by unfold padZ; omega)
  rw [show (m % 64 + (padZ m + 9)) % 64 = 0 from by unfold padZ; omega] at h
  rw [← show (((m % 64 + (padZ m + 9) : Nat)) : Int) = (m : Int) % 64 + ((padZ m : Int) + 9) from by omega]
  exact h

theorem lenByte_nat (n k : Nat) : lenByte n k = ((n * 8 % 18446744073709551616 / 2 ^ (56 - 8 * k) % 256 : Nat) : Int) := by
  unfold lenByte
  rw [IntKind.wrap_u64]
  simp only [Int.natCast_emod, Int.natCast_ediv, Int.natCast_mul, Int.natCast_pow, Int.cast_ofNat_Int]

theorem lenByte_range (n k : Nat) : 0 ≤ lenByte n k ∧ lenByte n k < 256 := by rw [lenByte_nat]; omega

theorem byte_inj (a b : Int) (ha : 0 ≤ a) (ha' : a < 256) (hb : 0 ≤ b) (hb' : b < 256) (h : UInt8.ofNat a.toNat = UInt8.ofNat b.toNat) : a = b := by
  have := congrArg UInt8.toNat h
  simp at this
  omega

theorem endS_inj (m n : Nat) (hm : m < 2305843009213693952) (hn : n < 2305843009213693952) (h : (endS m).map (fun x => UInt8.ofNat x.toNat) = (endS n).map (fun x => UInt8.ofNat x.toNat)) : m = n := by
  have hl := congrArg List.length h
  simp only [List.length_map, length_endS] at hl
  have hp : padZ m = padZ n := by omega
  have hk : ∀ k, k < 8 → lenByte m k = lenByte n k := by
    intro k hk
    have := congrArg (fun l => l[1 + padZ m + k]?) h
    simp only [endS, endP, List.map_cons, List.map_append, List.map_replicate, lenBytes, List.map_map] at this
    rw [show 1 + padZ m + k = (padZ m + k) + 1 from by omega, List.getElem?_cons_succ, List.getElem?_cons_succ, List.getElem?_append_right (by simp), List.getElem?_append_right (by simp [hp]), ] at this
    simp [hp, hk] at this
    exact byte_inj _ _ (lenByte_range m k).1 (lenByte_range m k).2 (lenByte_range n k).1 (lenByte_range n k).2 this
  have h0 := hk 0 (by omega)
  have h1 := hk 1 (by omega)
  have h2 := hk 2 (by omega)
  have h3 := hk 3 (by omega)
  have h4 := hk 4 (by omega)
  have h5 := hk 5 (by omega)
  have h6 := hk 6 (by omega)
  have h7 := hk 7 (by omega)
  simp only [lenByte_nat, Nat.reduceMul, Nat.reduceSub, Nat.reducePow] at h0 h1 h2 h3 h4 h5 h6 h7
  omega
end Go.Proofs.YtilefgmlnmpeoaaDoor
namespace Go.Proofs.YtilefgmlnmpeoaaDoor
open Go.RowKit

section
variable {F : Fence} {n : Nat} {P : Program}

theorem wpListIn_alloc_row {ops : Array Oper} {rest : List Oper} {o : Oper} {a : Act} {w : World} {Q : Exit → Act → World → Prop} (hgd : o.guard = none) (ty : TypeId) (ho : o.op = .alloc ty) (Z : Array Value)
    (hz : ∀ w : World, (zeroValue ty).run P w = .ok (.agg Z) w)
    (h : wpListIn F n P ops Q rest (a.put o.dst (.pointer (some ⟨w.heap.size, 0, none⟩))) (w.alloc (.cells Z ty))) : wpListIn F n P ops Q (o :: rest) a w := by
  refine wpListIn_plain hgd fun K hK => ?_
  unfold Oper.wpIn
  refine ⟨by simp [Oper.about, ho], ?_⟩
  rw [Oper.semAt_plain F _ _ (by rw [ho]; intro c hc; cases hc)]
  simp [execOp, ho, Instr.alloc, hz, newVar, Value.cells]
  exact hK _ _ h

theorem wpListIn_load_row {ops : Array Oper} {rest : List Oper} {o : Oper} {a : Act} {w : World} {Q : Exit → Act → World → Prop} (hgd : o.guard = none) (ty : TypeId) (x : Operand) (ho : o.op = .load ty x)
    (g : Nat) (hx : a.eval x = .pointer (some ⟨g, 0, none⟩)) (t : TypeId) (cs : Array Value) (fr : Nat × Nat) (d : TypeDesc) (hg : w.heap[g]? = some (.cells cs t fr))
    (hu : P.underlying ty = some d) (hd : (match d with | .struct _ | .array _ _ => true | _ => false) = true) (hi : (P.info? ty).map (·.size) = some cs.size)
    (h : wpListIn F n P ops Q rest (a.put o.dst (.agg cs)) w) : wpListIn F n P ops Q (o :: rest) a w := by
  refine wpListIn_plain hgd fun K hK => ?_
  unfold Oper.wpIn
  refine ⟨by simp [Oper.about, ho], ?_⟩
  rw [Oper.semAt_plain F _ _ (by rw [ho]; intro c hc; cases hc)]
  unfold execOp
  simp only [ho, hx, Instr.loadAt, Instr.sureAddr, Sem.run_bind, Sem.run_pure, Result.andThen_ok, run_loadVar_row w g t ty cs fr d hg hu hd hi]
  exact hK _ _ h

theorem wpListIn_store_row {ops : Array Oper} {rest : List Oper} {o : Oper} {a : Act} {w : World} {Q : Exit → Act → World → Prop} (hgd : o.guard = none) (ty : TypeId) (x y : Operand) (ho : o.op = .store ty x y)
    (g : Nat) (cells : Array Value) (hx : a.eval x = .pointer (some ⟨g, 0, none⟩)) (hy : a.eval y = .agg cells)
    (t : TypeId) (old : Array Value) (hg : w.heap[g]? = some (.cells old t (0, 0))) (hi : (P.info? ty).map (·.size) = some cells.size)
    (hold : old.size = cells.size) (h1 : cells.all (·.oneCell') = true)
    (h : wpListIn F n P ops Q rest (a.put o.dst undef) (w.setRow g cells)) : wpListIn F n P ops Q (o :: rest) a w := by
  refine wpListIn_plain hgd fun K hK => ?_
  unfold Oper.wpIn
  refine ⟨by simp [Oper.about, ho], ?_⟩
  rw [Oper.semAt_plain F _ _ (by rw [ho]; intro c hc; cases hc)]
  unfold execOp
  simp only [ho, hx, hy, Instr.storeAt, Instr.sureAddr, Sem.run_bind, Sem.run_pure, Result.andThen_ok, run_storeVar_row w g t ty old cells hg hi hold h1]
  exact hK _ _ h
end

theorem blk_own {β : Type} (g : Nat) (t : TypeId) (k : IntKind) (f : β → List Int) : Own (fun s W => Blk W g t k (f s)) :=
  fun _ _ _ _ hs hg hr => (grownBy_keeps_cells hg hr hs rfl).trans hs

theorem keepsOthers_of_below {W W' : World} (h : Below W.heap.size W W') : KeepsOthers W W' := KeepsOthers.of_grownBy (row := none) ⟨h.os, h.tape, h.output, h.size, fun k hk _ => h.block k hk⟩ (fun _ _ e _ => by cases e)
end Go.Proofs.YtilefgmlnmpeoaaDoor
namespace Go.Proofs.YtilefgmlnmpeoaaDoor
open Go.RowKit

/-- No number from 2 on, below d, divides p. -/
def noneBelow (p d : Nat) : Prop := ∀ e, 2 ≤ e → e < d → p % e ≠ 0
/-- Is p a prime, as far as the divisors up to 20 tell (which they do below 441)? -/
def primeB (p : Nat) : Bool := (List.range 21).all fun d => decide (d < 2) || decide (p < d * d) || decide (p % d ≠ 0)

/-- The primes below p. -/
def primesTo : Nat → List Nat
  | 0 => []
  | p + 1 => if 2 ≤ p ∧ primeB p = true then primesTo p ++ [p] else primesTo p

theorem primesTo_succ_no (p : Nat) (h : primeB p = false) : primesTo (p + 1) = primesTo p := by rw [primesTo, if_neg (by simp [h])]
theorem primesTo_succ_yes (p : Nat) (h2 : 2 ≤ p) (h : primeB p = true) : primesTo (p + 1) = primesTo p ++ [p] := by rw [primesTo, if_pos ⟨h2, h⟩]

theorem primesTo_prefix (p : Nat) : ∀ q, p ≤ q → primesTo p <+: primesTo q
  | 0, h => by rw [show p = 0 from by omega]; exact List.prefix_refl _
  | q + 1, h => by
    by_cases hq : p = q + 1
    · rw [hq]; exact List.prefix_refl _
    · have ih := primesTo_prefix p q (by omega)
      rw [primesTo]
      split
      · exact ih.trans (List.prefix_append _ _)
      · exact ih

theorem primes_312 : (primesTo 312).length = 64 := by decide +kernel

/-- As long as there are fewer than 64 of them p is at most 311. -/
theorem primesTo_short (p : Nat) (h : (primesTo p).length < 64) : p ≤ 311 := by
  by_cases hp : 312 ≤ p
  · have := (primesTo_prefix 312 p hp).length_le
    rw [primes_312] at this
    omega
  · omega

/-- What is known of the halving behind k rounds: the lower end, and the upper one. -/
def halves (bel : Nat → Bool) : Nat → Nat × Nat
  | 0 => (0, 34359738368)
  | k + 1 =>
    let lo := (halves bel k).1
    let hi := (halves bel k).2
    let mid := lo + (hi - lo) / 2
    if bel mid then (mid, hi) else (lo, mid)

theorem halves_gap (bel : Nat → Bool) (k : Nat) : k ≤ 35 → (halves bel k).2 = (halves bel k).1 + 2 ^ (35 - k) ∧ (halves bel k).2 ≤ 34359738368 := by
  induction k with
  | zero => intro _; simp [halves]
  | succ k ih =>
    intro h
    obtain ⟨ih1, ih2⟩ := ih (by omega)
    have e : 2 ^ (35 - k) = 2 * 2 ^ (35 - (k + 1)) := by rw [← Nat.pow_succ']; congr 1; omega
    simp only [halves]
    split
    · simp only; omega
    · simp only; omega

def sqB (p x : Nat) : Bool := decide (x * x / 18446744073709551616 < p)
def cbB (p x : Nat) : Bool := decide (((x * x % 18446744073709551616) * x / 18446744073709551616 + x * x / 18446744073709551616 * x) < p * 4294967296)
def sqRoot (p : Nat) : Nat := (halves (sqB p) 35).1 % 4294967296
def cbRoot (p : Nat) : Nat := (halves (cbB p) 35).1 % 4294967296

/-- The first state and the keys, as the standard lists them. -/
def firstS : List Int := [0x6a09e667, 0xbb67ae85, 0x3c6ef372, 0xa54ff53a, 0x510e527f, 0x9b05688c, 0x1f83d9ab, 0x5be0cd19]
def keysS : List Int := [
  0x428a2f98, 0x71374491, 0xb5c0fbcf, 0xe9b5dba5, 0x3956c25b, 0x59f111f1, 0x923f82a4, 0xab1c5ed5, 0xd807aa98, 0x12835b01, 0x243185be, 0x550c7dc3, 0x72be5d74, 0x80deb1fe, 0x9bdc06a7, 0xc19bf174,
  0xe49b69c1, 0xefbe4786, 0x0fc19dc6, 0x240ca1cc, 0x2de92c6f, 0x4a7484aa, 0x5cb0a9dc, 0x76f988da, 0x983e5152, 0xa831c66d, 0xb00327c8, 0xbf597fc7, 0xc6e00bf3, 0xd5a79147, 0x06ca6351, 0x14292967,
  0x27b70a85, 0x2e1b2138, 0x4d2c6dfc, 0x53380d13, 0x650a7354, 0x766a0abb, 0x81c2c92e, 0x92722c85, 0xa2bfe8a1, 0xa81a664b, 0xc24b8b70, 0xc76c51a3, 0xd192e819, 0xd6990624, 0xf40e3585, 0x106aa070,
  0x19a4c116, 0x1e376c08, 0x2748774c, 0x34b0bcb5, 0x391c0cb3, 0x4ed8aa4a, 0x5b9cca4f, 0x682e6ff3, 0x748f82ee, 0x78a5636f, 0x84c87814, 0x8cc70208, 0x90befffa, 0xa4506ceb, 0xbef9a3f7, 0xc67178f2]

theorem firstS_eq : ((primesTo 312).take 8).map (fun p => ((sqRoot p : Nat) : Int)) = firstS := by decide +kernel
theorem keysS_eq : (primesTo 312).map (fun p => ((cbRoot p : Nat) : Int)) = keysS := by decide +kernel
end Go.Proofs.YtilefgmlnmpeoaaDoor
namespace Go.Proofs.YtilefgmlnmpeoaaDoor
open Go.RowKit

/-- The slice value v reads as the bytes xs. -/
def SlAt (w : World) (v : Value) (xs : List Int) : Prop := ∃ (ao : Option Addr) (cap : Nat), v = .slice ao xs.length cap ∧ (ao = none → xs = [] ∧ cap = 0) ∧ xs.length ≤ cap ∧
  ∀ ad, ao = some ad → ∀ i, i < xs.length → ad.spot = none ∧ ad.block < w.heap.size ∧ w.cell? (ad.add i) = some (.int .u8 (nth xs i))

theorem SlAt.below {w w' : World} {v : Value} {xs : List Int} (h : SlAt w v xs) (hb : Below w.heap.size w w') : SlAt w' v xs := by
  obtain ⟨ao, cap, hv, hn, hc, ha⟩ := h
  refine ⟨ao, cap, hv, hn, hc, fun ad had i hi => ?_⟩
  obtain ⟨h0, h1, h2⟩ := ha ad had i hi
  refine ⟨h0, Nat.lt_of_lt_of_le h1 hb.size, (hb.cell (p := ad.add i) ?_).trans h2⟩
  unfold Addr.add
  split <;> exact h1

/-- The k-th of some lists of bytes. -/
def part (ps : List (List Int)) (k : Nat) : List Int := ps.getD k []
/-- The first k of them, one behind the other. -/
def cat (ps : List (List Int)) (k : Nat) : List Int := (ps.take k).flatten
theorem cat_zero (ps : List (List Int)) : cat ps 0 = [] := rfl
theorem cat_succ (ps : List (List Int)) (k : Nat) (h : k < ps.length) : cat ps (k + 1) = cat ps k ++ part ps k := by
  rw [cat, List.take_succ_eq_append_getElem h, List.flatten_append]
  simp [cat, part, List.getD, h]
theorem cat_all (ps : List (List Int)) : cat ps ps.length = ps.flatten := by rw [cat, List.take_length]
theorem cat_le (ps : List (List Int)) (k : Nat) : (cat ps k).length ≤ ps.flatten.length := by
  have h : ps.flatten = cat ps k ++ (ps.drop k).flatten := by rw [cat, ← List.flatten_append, List.take_append_drop]
  rw [h, List.length_append]; omega
theorem part_le (ps : List (List Int)) (k : Nat) (h : k < ps.length) : (cat ps k).length + (part ps k).length ≤ ps.flatten.length := by
  have h1 := cat_le ps (k + 1)
  rw [cat_succ ps k h, List.length_append] at h1
  exact h1

/-- The slices of block b from place o on read as these lists. -/
def PartsAt (w : World) (b o : Nat) (ps : List (List Int)) : Prop := b < w.heap.size ∧ ∀ i, i < ps.length → ∃ sv, w.cell? ⟨b, o + i, none⟩ = some sv ∧ SlAt w sv (part ps i)

theorem PartsAt.below {w w' : World} {b o : Nat} {ps : List (List Int)} (h : PartsAt w b o ps) (hb : Below w.heap.size w w') : PartsAt w' b o ps :=
  ⟨Nat.lt_of_lt_of_le h.1 hb.size, fun i hi => by
    obtain ⟨sv, h1, h2⟩ := h.2 i hi
    exact ⟨sv, (hb.cell (p := ⟨b, o + i, none⟩) h.1).trans h1, h2.below hb⟩⟩

theorem slAt_news {w : World} {ao : Option Addr} {xs : List Int} (ha : ∀ ad, ao = some ad → ∀ i, i < xs.length → ad.spot = none ∧ ad.block < w.heap.size ∧ w.cell? (ad.add i) = some (.int .u8 (nth xs i))) :
    ∀ ad, ao = some ad → ∀ j u, (xs.map (Value.int .u8))[j]? = some u → w.cell? (ad.add j) = some u := by
  intro ad had j u hu
  have hj : j < xs.length := by
    rcases Nat.lt_or_ge j xs.length with h | h
    · exact h
    · simp [h] at hu
  rw [(ha ad had j hj).2.2]
  simp [hj] at hu
  simp [nth, hj, List.getD, hu]
end Go.Proofs.YtilefgmlnmpeoaaDoor
namespace Go.Proofs.YtilefgmlnmpeoaaDoor
open Go.RowKit

/-- The state behind the first m blocks of the bytes X. -/
def stAt (sv X : List Int) : Nat → List Int
  | 0 => sv
  | m + 1 => takeS (stAt sv X m) keysS ((X.drop (64 * m)).take 64)
theorem length_stAt (sv X : List Int) (h : sv.length = 8) : ∀ m, (stAt sv X m).length = 8
  | 0 => h
  | m + 1 => by rw [stAt, length_takeS, length_stAt sv X h m]

/-- Numbers put over others from a place on. -/
def put (l : List Int) (off : Nat) (c : List Int) : List Int := l.take off ++ c ++ l.drop (off + c.length)
theorem length_put (l : List Int) (off : Nat) (c : List Int) (h : off + c.length ≤ l.length) : (put l off c).length = l.length := by
  simp [put]; omega
theorem take_put (l : List Int) (off : Nat) (c : List Int) (h : off + c.length ≤ l.length) : (put l off c).take (off + c.length) = l.take off ++ c := by
  rw [put, List.take_append_of_le_length (by simp; omega), List.take_of_length_le (by simp; omega)]

/-- What a buffer of 64 bytes holds behind y bytes of X. -/
def Buf (X : List Int) (y : Nat) (bl : List Int) : Prop := bl.length = 64 ∧ bl.take (y % 64) = (X.take y).drop (64 * (y / 64))

theorem buf_step (X : List Int) (y c : Nat) (bl : List Int) (h : Buf X y bl) (hc : y % 64 + c ≤ 64) (hX : y + c ≤ X.length) :
    (put bl (y % 64) ((X.drop y).take c)).length = 64 ∧ (put bl (y % 64) ((X.drop y).take c)).take (y % 64 + c) = (X.take (y + c)).drop (64 * (y / 64)) := by
  have hl : ((X.drop y).take c).length = c := by simp; omega
  have hf : y % 64 + ((X.drop y).take c).length ≤ bl.length := by rw [hl, h.1]; exact hc
  refine ⟨by rw [length_put _ _ _ hf, h.1], ?_⟩
  have ht := take_put bl (y % 64) _ hf
  rw [hl] at ht
  rw [ht, h.2, List.take_add, List.drop_append_of_le_length (by simp; omega)]

theorem buf_more (X : List Int) (y c : Nat) (bl : List Int) (h : Buf X y bl) (hc : y % 64 + c < 64) (hX : y + c ≤ X.length) : Buf X (y + c) (put bl (y % 64) ((X.drop y).take c)) := by
  obtain ⟨h1, h2⟩ := buf_step X y c bl h (by omega) hX
  refine ⟨h1, ?_⟩
  rw [show (y + c) % 64 = y % 64 + c from by omega, show (y + c) / 64 = y / 64 from by omega]
  exact h2

theorem buf_full (X : List Int) (y c : Nat) (bl : List Int) (h : Buf X y bl) (hc : y % 64 + c = 64) (hX : y + c ≤ X.length) :
    put bl (y % 64) ((X.drop y).take c) = (X.drop (64 * (y / 64))).take 64 ∧ Buf X (y + c) (put bl (y % 64) ((X.drop y).take c)) ∧ (y + c) / 64 = y / 64 + 1 := by
  obtain ⟨h1, h2⟩ := buf_step X y c bl h (by omega) hX
  have e : (y + c) / 64 = y / 64 + 1 := by omega
  refine ⟨?_, ⟨h1, ?_⟩, e⟩
  · rw [hc, List.take_of_length_le (by omega)] at h2
    rw [h2, List.drop_take, show y + c - 64 * (y / 64) = 64 from by omega]
  · rw [show (y + c) % 64 = 0 from by omega, e, List.take_zero]
    symm
    rw [List.drop_eq_nil_iff]
    simp; omega

theorem buf_zero (X bl : List Int) (h : bl.length = 64) : Buf X 0 bl := ⟨h, by simp⟩

/-- The bytes of the k-th part from r on are those of the whole. -/
theorem part_bytes (ps : List (List Int)) (k r c : Nat) (h : k < ps.length) (hr : r + c ≤ (part ps k).length) : ((part ps k).drop r).take c = (ps.flatten.drop ((cat ps k).length + r)).take c := by
  have e : ps.flatten = cat ps k ++ (part ps k ++ (ps.drop (k + 1)).flatten) := by
    rw [← List.append_assoc, ← cat_succ ps k h, cat, ← List.flatten_append, List.take_append_drop]
  rw [e, ← List.drop_drop, List.drop_left, List.drop_append_of_le_length (by omega), List.take_append_of_le_length (by simp; omega)]
end Go.Proofs.YtilefgmlnmpeoaaDoor
namespace Go.Proofs.YtilefgmlnmpeoaaDoor
open Go.RowKit

theorem stAt_add (sv X : List Int) (m : Nat) : ∀ j, stAt sv X (m + j) = stAt (stAt sv X m) (X.drop (64 * m)) j
  | 0 => rfl
  | j + 1 => by
    rw [← Nat.add_assoc, stAt, stAt_add sv X m j, stAt, List.drop_drop, show 64 * m + 64 * j = 64 * (m + j) from by omega]

theorem stAt_left (sv A B : List Int) : ∀ m, 64 * m ≤ A.length → stAt sv (A ++ B) m = stAt sv A m
  | 0, _ => rfl
  | m + 1, h => by
    rw [stAt, stAt, stAt_left sv A B m (by omega), List.drop_append_of_le_length (by omega), List.take_append_of_le_length (by simp; omega)]

/-- What is left of bytes behind their whole blocks. -/
def leftS (A : List Int) : List Int := A.drop (64 * (A.length / 64))
theorem length_leftS (A : List Int) : (leftS A).length = A.length % 64 := by simp [leftS]; omega

/-- Bytes behind bytes: the state, and what is left, go on from the state and what was left. -/
theorem stAt_more (sv A B : List Int) : stAt sv (A ++ B) ((A ++ B).length / 64) = stAt (stAt sv A (A.length / 64)) (leftS A ++ B) ((leftS A ++ B).length / 64) := by
  have hl : (leftS A ++ B).length = A.length % 64 + B.length := by rw [List.length_append, length_leftS]
  have hk : (A ++ B).length / 64 = A.length / 64 + (leftS A ++ B).length / 64 := by rw [hl, List.length_append]; omega
  rw [hk, stAt_add, stAt_left sv A B _ (by omega), List.drop_append_of_le_length (by omega)]
  rfl

theorem leftS_more (A B : List Int) : leftS (A ++ B) = leftS (leftS A ++ B) := by
  have hl : (leftS A ++ B).length = A.length % 64 + B.length := by rw [List.length_append, length_leftS]
  have hk : 64 * ((A ++ B).length / 64) = 64 * (A.length / 64) + 64 * ((leftS A ++ B).length / 64) := by rw [hl, List.length_append]; omega
  rw [leftS, hk, ← List.drop_drop, List.drop_append_of_le_length (by omega)]
  rfl

theorem leftS_drop (A : List Int) : A.drop (64 * (A.length / 64)) = leftS A := rfl
end Go.Proofs.YtilefgmlnmpeoaaDoor
namespace Go.Proofs.YtilefgmlnmpeoaaDoor
open Go.RowKit

theorem all_range_nth : ∀ (xs ys : List Int), xs.length = ys.length → ((List.range xs.length).all fun i => nth xs i == nth ys i) = (xs == ys)
  | [], [], _ => rfl
  | x :: xs, y :: ys, h => by
    have ih := all_range_nth xs ys (by simpa using h)
    unfold nth at ih ⊢
    rw [List.length_cons, List.range_succ_eq_map, List.all_cons, List.all_map]
    simp only [List.getD_cons_zero, Function.comp_def, List.getD_cons_succ, ih]
    simp [List.cons_beq_cons]
  | [], _ :: _, h => by simp at h
  | _ :: _, [], h => by simp at h

theorem run_equalIn_cells {P : Program} (d : Nat) (t e : TypeId) (n : Nat) (k : IntKind) (ht : P.underlying t = some (.array n e)) (he : P.underlying e = some (.int k)) (hsz : (P.info? e).map (·.size) = some 1)
    (xs ys : List Int) (hx : xs.length = n) (hy : ys.length = n) (w : World) :
    (Op.equalIn (d + 2) t (.agg (cellsOf k xs)) (.agg (cellsOf k ys))).run P w = .ok (xs == ys) w := by
  obtain ⟨ie, hie, hes⟩ := Option.map_eq_some_iff.1 hsz
  have hs : ∀ w, (sizeOf e).run P w = .ok 1 w := fun w => by simp [sizeOf, typeInfo, hie, hes]
  rw [← all_range_nth xs ys (hx.trans hy.symm), hx, List.range_eq_range', Op.equalIn]
  simp only [Sem.run_bind, run_underlying ht, Result.andThen_ok, hs, Std.Legacy.Range.forIn_eq_forIn_range', Std.Legacy.Range.size, Nat.sub_zero, Nat.add_sub_cancel, Nat.div_one]
  have hl : ∀ i ∈ List.range' 0 n 1, i < n := fun i hi => by simpa using (List.mem_range'_1.1 hi).2
  generalize List.range' 0 n 1 = l at hl ⊢
  induction l with
  | nil => simp
  | cons i l ih =>
    have hi : i < n := hl i (by simp)
    have hagg : ∀ w, (isAgg e).run P w = .ok false w := fun w => by
      unfold isAgg
      rw [Sem.run_bind, run_underlying he w]
      simp
    have gx := get_cellsOf k xs i (by omega)
    have gy := get_cellsOf k ys i (by omega)
    have px : (_root_.Go.part e (cellsOf k xs) (i * 1)).run P w = .ok (.int k (nth xs i)) w := by
      simp [_root_.Go.part, hagg, gx]
    have py : (_root_.Go.part e (cellsOf k ys) (i * 1)).run P w = .ok (.int k (nth ys i)) w := by
      simp [_root_.Go.part, hagg, gy]
    have pe : (Op.equalIn (d + 1) e (.int k (nth xs i)) (.int k (nth ys i))).run P w = .ok (nth xs i == nth ys i) w := run_equalIn_int w d e k k _ _ he
    simp only [List.forIn_cons, Sem.run_bind, px, py, pe, Result.andThen_ok, List.all_cons]
    cases hb : (nth xs i == nth ys i)
    · simp
    · simp only [Bool.not_true, Bool.false_eq_true, if_false, Sem.run_pure, Result.andThen_ok, Bool.true_and]
      exact ih fun j hj => hl j (by simp [hj])
end Go.Proofs.YtilefgmlnmpeoaaDoor
namespace Go.Proofs.YtilefgmlnmpeoaaDoor
open Go.RowKit

/-- What 's[l:l+m]' answers. -/
def sl (a : Option Addr) (l m cap : Nat) : Value := .slice (if cap = l then a else a.map (·.add l)) m (cap - l)

theorem SlAt.le {w : World} {ao : Option Addr} {n c : Nat} {xs : List Int} (h : SlAt w (.slice ao n c) xs) : n ≤ c ∧ n = xs.length := by
  obtain ⟨ao', cap, hv, _, hc, _⟩ := h
  simp at hv
  obtain ⟨_, rfl, rfl⟩ := hv
  exact ⟨hc, rfl⟩

theorem sl_len (a : Option Addr) (l m cap : Nat) : ∃ b, sl a l m cap = .slice b m (cap - l) := ⟨_, rfl⟩

theorem addr_plain' (b o i : Nat) : (⟨b, o, none⟩ : Addr).add i = ⟨b, o + i, none⟩ := by simp [Addr.add]

theorem add_add' (a : Addr) (h : a.spot = none) (i j : Nat) : (a.add i).add j = a.add (i + j) := by
  obtain ⟨b, o, s⟩ := a
  cases h
  rw [addr_plain', addr_plain', addr_plain', Nat.add_assoc]

theorem SlAt.cut {w : World} {ao : Option Addr} {n c : Nat} {xs : List Int} (h : SlAt w (.slice ao n c) xs) {lo m : Nat} (hm : lo + m ≤ n) : SlAt w (sl ao lo m c) ((xs.drop lo).take m) := by
  obtain ⟨ao', cap, hv, hn, hc, ha⟩ := h
  simp at hv
  obtain ⟨rfl, rfl, rfl⟩ := hv
  have hl : ((xs.drop lo).take m).length = m := by simp; omega
  by_cases e : c = lo
  · have hm0 : m = 0 := by omega
    subst hm0
    refine ⟨ao, c - lo, by simp [sl, e], fun h => by simp [(hn h).2], by simp, fun ad had i hi => by simp at hi⟩
  · refine ⟨ao.map (·.add lo), c - lo, by rw [hl, sl, if_neg e], fun h => ?_, by rw [hl]; omega, fun ad had i hi => ?_⟩
    · have hz := hn (by cases ao <;> simp_all)
      simp [hz.1, hz.2]
    · cases hao : ao with
      | none => rw [hao] at had; cases had
      | some x =>
        rw [hao] at had
        simp at had
        subst had
        rw [hl] at hi
        obtain ⟨h1, h2, h3⟩ := ha x hao (lo + i) (by omega)
        refine ⟨by unfold Addr.add; split <;> simp_all, ?_, ?_⟩
        · have hb : (x.add lo).block = x.block := by unfold Addr.add; split <;> rfl
          rw [hb]; exact h2
        · rw [add_add' x h1, h3]
          have hi2 : lo + i < xs.length := by omega
          simp [nth, List.getD, List.getElem?_drop, hi]

theorem SlAt.front' {w : World} {ao : Option Addr} {n c : Nat} {xs : List Int} (h : SlAt w (.slice ao n c) xs) {m : Nat} (hm : m ≤ n) : SlAt w (.slice ao m c) (xs.take m) := by
  obtain ⟨ao', cap, hv, hn, hc, ha⟩ := h
  simp at hv
  obtain ⟨rfl, rfl, rfl⟩ := hv
  refine ⟨ao, c, by simp [Nat.min_eq_left hm], fun h => by simp [(hn h).1, (hn h).2], by simp; omega, fun ad had i hi => ?_⟩
  have hi2 : i < m := by simp at hi; omega
  obtain ⟨h1, h2, h3⟩ := ha ad had i (by omega)
  refine ⟨h1, h2, h3.trans ?_⟩
  have hl : i < xs.length := by omega
  simp [nth, List.getD, hi2, hl]

section
variable {P : Program}
theorem run_sizeOf {e : TypeId} {s : Nat} (hs : (P.info? e).map (·.size) = some s) (w : World) : (sizeOf e).run P w = .ok s w := by
  obtain ⟨i, hi, rfl⟩ := Option.map_eq_some_iff.1 hs
  simp [sizeOf, typeInfo, hi]

theorem run_cut_lh {t e : TypeId} (hu : P.underlying t = some (.slice e)) (hs : (P.info? e).map (·.size) = some 1) (ao : Option Addr) (n cap l m : Nat) (h : l + m ≤ cap) (w : World) :
    (Instr.sliceAt t (.slice ao n cap) (some (.int .i64 (l : Int))) (some (.int .i64 ((l : Int) + (m : Int)))) none).run P w = .ok (sl ao l m cap) w := by
  have h1 : (0 : Int) ≤ (l : Int) + (m : Int) ∧ (l : Int) + (m : Int) ≤ (cap : Int) := by omega
  have h2 : ((l : Int) + (m : Int)).toNat = l + m := by omega
  have h3 : (0 : Int) ≤ (l : Int) ∧ (l : Int) ≤ ((l + m : Nat) : Int) := by omega
  have h6 : l + m - l = m := by omega
  simp [Instr.sliceAt, Instr.slice, run_underlying hu, Instr.sliceBounds, run_sliceBound_if, run_sizeOf hs, sl, h1, h2, h3, h6]

theorem run_cut_lh2 {t e : TypeId} (hu : P.underlying t = some (.slice e)) (hs : (P.info? e).map (·.size) = some 1) (ao : Option Addr) (n cap l h : Nat) (h0 : l ≤ h) (h1 : h ≤ cap) (w : World) :
    (Instr.sliceAt t (.slice ao n cap) (some (.int .i64 (l : Int))) (some (.int .i64 (h : Int))) none).run P w = .ok (sl ao l (h - l) cap) w := by
  have e : (h : Int) = (l : Int) + ((h - l : Nat) : Int) := by omega
  rw [e]
  exact run_cut_lh hu hs ao n cap l (h - l) (by omega) w

theorem run_cut_l {t e : TypeId} (hu : P.underlying t = some (.slice e)) (hs : (P.info? e).map (·.size) = some 1) (ao : Option Addr) (n cap l : Nat) (h : l ≤ n) (w : World) :
    (Instr.sliceAt t (.slice ao n cap) (some (.int .i64 (l : Int))) none none).run P w = .ok (sl ao l (n - l) cap) w := by
  have h3 : (0 : Int) ≤ (l : Int) ∧ (l : Int) ≤ (n : Int) := by omega
  simp [Instr.sliceAt, Instr.slice, run_underlying hu, Instr.sliceBounds, run_sliceBound_if, run_sizeOf hs, sl, h3]

theorem run_cut_h {t e : TypeId} (hu : P.underlying t = some (.slice e)) (hs : (P.info? e).map (·.size) = some 1) (ao : Option Addr) (n cap m : Nat) (h0 : m ≤ cap) (w : World) :
    (Instr.sliceAt t (.slice ao n cap) none (some (.int .i64 (m : Int))) none).run P w = .ok (.slice ao m cap) w := by
  have h1 : (0 : Int) ≤ (m : Int) ∧ (m : Int) ≤ (cap : Int) := by omega
  simp [Instr.sliceAt, Instr.slice, run_underlying hu, Instr.sliceBounds, run_sliceBound_if, run_sizeOf hs, h1]
  intro he
  cases ao with
  | none => rfl
  | some a => simp [Addr.add]
end
end Go.Proofs.YtilefgmlnmpeoaaDoor
