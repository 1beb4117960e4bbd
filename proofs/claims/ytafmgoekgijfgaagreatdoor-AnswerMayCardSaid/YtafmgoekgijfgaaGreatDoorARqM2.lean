/- A read of a drawn region taken first, in few words. What a call leaves of the memory that is not its own; no program is named here. Plain words: rows of numbers and of bytes in memory, SHA-256 in the model's words, the end of a number of bytes, primes and roots, bytes taken block by block; no program is named here. Rows in memory of anything that has a fixed number of cells: read, grown, cut; no program is named here. The library's small functions of texts: HasPrefix, IndexByte, Cut at one byte. Rows of bytes and of texts of the call's own. Headers as things of rows. strings.Clone. The library's functions by the shelf's contracts: Clone, Trim of blanks, ContainsFunc, Atoi. How a body's end is told: isNumber, byLength. More of the library's small functions of texts. What bytes may: the program's mayStand, isPlain, noPathHas, none. The byte that a % says: the program's saidBy, by strconv.ParseUint at two letters. The program's saidBy. Rows of bytes and of texts of the call's own. The program's segments: its closure calls yield for each part between the slashes. The program's left. Messages in memory: a message as three cells, rows of messages. No program's type of a message is named here: t is its number. Slices that lie apart. No program is named here. -/
import Derived.OrdersHeld
import Derived.WalkKit
import Derived.Deep.RegionHeld
import Derived.KernelRfl
import Derived.Below
import Derived.WalkSpells
import Derived.Deep.QuietTactic
import Derived.Laws.BytesArg
import Derived.OwnWalkIn
import Derived.RangeFuncBound
import Derived.RangeFuncFrom
import Derived.Laws.StructEq
import Derived.Laws.OwnMore
import Derived.Maps.AppendAt
import Derived.Test.YtafmgoekgijfgaaGreatDoorProg
import Derived.Test.YtafmgoekgijfgaaGreatDoorARqM1
import Derived.WalkLawsBesides
import Derived.IntWalk
import Derived.Outline
import Derived.BigQuiet
import Derived.Laws.Strings
import Derived.Lib.Bytealg
import Derived.WideShapes
import Derived.StillTactics
import Derived.Laws.EntriesVeiled
import Derived.Laws.RangeAny
import Derived.Laws.MakeOwn
import Derived.Laws.IdiomStrings
import Derived.Lib.AppendStr
import Derived.Test.YtafmgoekgijfgaaGreatDoorShelf
import Derived.Shelf.GgClosure.StringsIndexFuncTop
import Derived.Shelf.Strings.SlTrimAscii
import Derived.Shelf.Strconv.AtoiAll
import Derived.Lib.ConvBytes
import Derived.Lib.Walk
import Derived.Lib.Hide
import Derived.Laws.Strings3
import Derived.Laws.Closers25
import Derived.Laws.Closers25b
import Derived.BigCall
import Derived.BigGuard
import Derived.RangeFuncNested
import Derived.RangeFuncCalls
import Derived.RangeFuncLeaves
import Derived.Shelf.Abstract
import Derived.Shelf.RegionOpen
import Derived.TacticsInMore
import Derived.LoopNIn
import Derived.LoopIn
import Derived.RangeFuncBox
namespace Go.Proofs.YtafmgoekgijfgaaGreatDoor

variable {P : Program} {ops : Array Oper} {Q : Exit → Act → World → Prop} {md : Region.Mode} {S : World → Prop}
theorem tk (i : Nat) {d : Option Tmp} {o : Op} {t : TypeId} {p : String} {f : Array Edge} {g : Option (Nat × Bool)} {v : Value} {fuel : Nat} {listed : Array Bool} {a : Act} {w : World} (hi : ops[i]? = some ⟨d, o, t, p, f, g⟩)
    (hs : (Region.noSelect ops && Region.free md ops listed i && (Region.ready md ops listed).contains i) = true)
    (hQ : ∀ c a w, Q (.panic c) (a.put d v) w → Q (.panic c) a w) (hy : YieldsIf P ops S ⟨d, o, t, p, f, g⟩ v a) (hS : S w)
    (h : wpAnyH P md ops Q S fuel (listed.setIfInBounds i true) (a.put d v) w) : wpAnyH P md ops Q S (fuel + 1) listed a w := by
  simp only [Bool.and_eq_true] at hs
  exact wpAnyH_take hi hs.1.1 hs.1.2 hs.2 hQ hy hS h
theorem tm (i : Nat) {d : Option Tmp} {o : Op} {t : TypeId} {p : String} {f : Array Edge} {g : Option (Nat × Bool)} {v : Value} {fuel : Nat} {listed : Array Bool} {a : Act} {w : World} (hi : ops[i]? = some ⟨d, o, t, p, f, g⟩) (hS : S w)
    (hv : ∀ w, S w → (execOp a.eval ⟨d, o, t, p, f, g⟩).run P w = .ok (.value v) w)
    (h : wpAnyH P md ops Q S fuel (listed.setIfInBounds i true) (a.put d v) w)
    (hs : (Region.noSelect ops && Region.free md ops listed i && (Region.ready md ops listed).contains i) = true := by kernel_rfl)
    (hw : Region.wanted ⟨d, o, t, p, f, g⟩ (yielded ops a.tmps) = true := by rfl)
    (hQ : ∀ c a w, Q (.panic c) (a.put d v) w → Q (.panic c) a w := by exact fun _ _ _ h => h) : wpAnyH P md ops Q S (fuel + 1) listed a w :=
  tk i hi hs hQ (Or.inl ⟨hw, hv⟩) hS h
theorem tl (i : Nat) {d : Option Tmp} {o : Op} {t : TypeId} {p : String} {f : Array Edge} {g : Option (Nat × Bool)} {v : Value} {fuel : Nat} {listed : Array Bool} {a : Act} {w : World} (hi : ops[i]? = some ⟨d, o, t, p, f, g⟩) (hS : S w)
    (h : wpAnyH P md ops Q S fuel (listed.setIfInBounds i true) (a.put d v) w)
    (hv : ∀ w, S w → (execOp a.eval ⟨d, o, t, p, f, g⟩).run P w = .ok (.value v) w := by intros; go_simp; first | done | with_reducible rfl)
    (hs : (Region.noSelect ops && Region.free md ops listed i && (Region.ready md ops listed).contains i) = true := by kernel_rfl)
    (hw : Region.wanted ⟨d, o, t, p, f, g⟩ (yielded ops a.tmps) = true := by rfl)
    (hQ : ∀ c a w, Q (.panic c) (a.put d v) w → Q (.panic c) a w := by exact fun _ _ _ h => h) : wpAnyH P md ops Q S (fuel + 1) listed a w :=
  tk i hi hs hQ (Or.inl ⟨hw, hv⟩) hS h
theorem tr (i : Nat) {d : Option Tmp} {o : Op} {t : TypeId} {p : String} {f : Array Edge} {g : Option (Nat × Bool)} {fuel : Nat} {listed : Array Bool} {a : Act} {w : World} (hi : ops[i]? = some ⟨d, o, t, p, f, g⟩) (hS : S w)
    (h : wpAnyH P md ops Q S fuel (listed.setIfInBounds i true) (a.put d undef) w)
    (hs : (Region.noSelect ops && Region.free md ops listed i && (Region.ready md ops listed).contains i) = true := by kernel_rfl)
    (hw : Region.wanted ⟨d, o, t, p, f, g⟩ (yielded ops a.tmps) = false := by rfl)
    (hQ : ∀ c a w, Q (.panic c) (a.put d undef) w → Q (.panic c) a w := by exact fun _ _ _ h => h) : wpAnyH P md ops Q S (fuel + 1) listed a w :=
  tk i hi hs hQ (Or.inr ⟨hw, rfl⟩) hS h
theorem aC {fuel : Nat} {listed : Array Bool} {a : Act} {w : World} {i : Nat} {d : Option Tmp} {o : Op} {t : TypeId} {p : String} {f : Array Edge} {g : Option (Nat × Bool)} (ho : ops[i]? = some ⟨d, o, t, p, f, g⟩)
    (h : ∀ K' : Act → World → Prop, Shut (∀ a w, S w → (S w → wpAnyH P md ops Q S fuel (listed.setIfInBounds i true) a w) → K' a w) → if Region.wanted ⟨d, o, t, p, f, g⟩ (yielded ops a.tmps) = true then Oper.wp P ⟨d, o, t, p, f, g⟩ a w K' Q else K' (a.put d undef) w) :
    AllReadyH P md ops Q S fuel listed a w [i] := AllReadyH.cons ho h AllReadyH.nil
theorem pA (a : Act) (t : Tmp) (v : Value) : a.put (some t) v = { a with tmps := a.tmps.setIfInBounds t v } := rfl
theorem pB {α : Type} (l : List α) (i : Nat) (a : α) : l.toArray.setIfInBounds i a = (l.set i a).toArray := List.setIfInBounds_toArray ..
theorem pC {α : Type} (x : α) (xs : List α) (a : α) : (x :: xs).set 0 a = a :: xs := rfl
theorem pD {α : Type} (x : α) (xs : List α) (i : Nat) (a : α) : (x :: xs).set (i + 1) a = x :: xs.set i a := rfl
end Go.Proofs.YtafmgoekgijfgaaGreatDoor
namespace Go.Proofs.YtafmgoekgijfgaaGreatDoor
open Go.RowKit

/-- All blocks that were there stay as they are, but those of F. -/
structure Keep (F : Nat → Prop) (w w' : World) : Prop where
 os : w'.os = w.os
 tape : w'.tape = w.tape
 output : w'.output = w.output
 size : w.heap.size ≤ w'.heap.size
 block : ∀ k, k < w.heap.size → ¬ F k → w'.heap[k]? = w.heap[k]?

theorem Keep.refl (F : Nat → Prop) (w : World) : Keep F w w := ⟨rfl, rfl, rfl, Nat.le_refl _, fun _ _ _ => rfl⟩
theorem Keep.trans {F G : Nat → Prop} {a b c : World} (h : Keep F a b) (k : Keep G b c) (hg : ∀ x, G x → F x ∨ a.heap.size ≤ x) : Keep F a c :=
 ⟨k.os.trans h.os, k.tape.trans h.tape, k.output.trans h.output, Nat.le_trans h.size k.size, fun i hi hf =>
   (k.block i (Nat.lt_of_lt_of_le hi h.size) (fun hgi => by rcases hg i hgi with h1 | h1; exact hf h1; omega)).trans (h.block i hi hf)⟩
theorem Keep.mono {F G : Nat → Prop} {a b : World} (h : Keep F a b) (hg : ∀ x, F x → G x ∨ a.heap.size ≤ x) : Keep G a b :=
 ⟨h.os, h.tape, h.output, h.size, fun i hi hf => h.block i hi (fun hfi => by rcases hg i hfi with h1 | h1; exact hf h1; omega)⟩
theorem Keep.of_below {F : Nat → Prop} {w w' : World} (h : Below w.heap.size w w') : Keep F w w' := ⟨h.os, h.tape, h.output, h.size, fun k hk _ => h.block k hk⟩
theorem Keep.below {F : Nat → Prop} {w w' : World} {B : Nat} (h : Keep F w w') (hF : ∀ k, F k → B ≤ k) (hB : B ≤ w.heap.size) : Below B w w' :=
 ⟨h.os, h.tape, h.output, h.size, fun k hk => h.block k (Nat.lt_of_lt_of_le hk hB) (fun hf => by have := hF k hf; omega)⟩
/-- What was so below B is so still. -/
theorem Keep.through {F : Nat → Prop} {w0 w w' : World} {B : Nat} (h : Keep F w w') (hb : Below B w0 w) (hF : ∀ k, F k → B ≤ k) (hB : B ≤ w.heap.size) : Below B w0 w' := hb.trans (h.below hF hB)
theorem Keep.alloc (F : Nat → Prop) (w : World) (o : Obj) : Keep F w (w.alloc o) := Keep.of_below ((Below.refl _ _).alloc (Nat.le_refl _) o)
theorem Keep.drew (F : Nat → Prop) (w : World) : Keep F w w.drew := Keep.of_below ((Below.refl _ w).drew)
theorem Keep.drewR {F : Nat → Prop} {w w' : World} (h : Keep F w w') : Keep F w w'.drew := h.trans (Keep.drew F w') (fun _ hx => .inl hx)
theorem Keep.set {F : Nat → Prop} (w : World) (p : Addr) (v : Value) (hp : F p.block) : Keep F w (w.setCell p v) := by
 refine ⟨?_, ?_, ?_, by simp, fun k hk hf => ?_⟩
 · exact (Below.setCell (Below.refl 0 w) (Nat.zero_le _) v).os
 · exact (Below.setCell (Below.refl 0 w) (Nat.zero_le _) v).tape
 · exact (Below.setCell (Below.refl 0 w) (Nat.zero_le _) v).output
 · exact Below.heap_setCell _ _ _ _ (fun e => hf (e ▸ hp))

theorem addr_block (a : Addr) (i : Nat) : (a.add i).block = a.block := by unfold Addr.add; split <;> rfl

/-- The block of a slice is not of F. -/
def Off (F : Nat → Prop) (v : Value) : Prop := ∀ k, v.ownBlock = some k → ¬ F k
end Go.Proofs.YtafmgoekgijfgaaGreatDoor
namespace Go.Proofs.YtafmgoekgijfgaaGreatDoor
open Go.RowKit

/-- The i-th number of a list, 0 behind its end: a name that the walk does not open. -/
def nth (l : List Int) (i : Nat) : Int := l.getD i 0

/-- The cells of a row of numbers. -/
def cellsOf (k : IntKind) (l : List Int) : Array Value := (l.map (Value.int k)).toArray

theorem get_cellsOf (k : IntKind) (l : List Int) (i : Nat) (h : i < l.length) : (cellsOf k l)[i]? = some (.int k (nth l i)) := by
 simp [cellsOf, nth, h, List.getD]

theorem set_cellsOf (k : IntKind) (l : List Int) (i : Nat) (v : Int) : (cellsOf k l).setIfInBounds i (.int k v) = cellsOf k (l.set i v) := by
 simp [cellsOf, List.map_set]

/-- The block g is a row of numbers of kind k. -/
def Blk (w : World) (g : Nat) (t : TypeId) (k : IntKind) (l : List Int) : Prop := w.heap[g]? = some (.cells (cellsOf k l) t (0, 0))

theorem Blk.row {w : World} {g : Nat} {t : TypeId} {k : IntKind} {l : List Int} (h : Blk w g t k l) : w.heap[g]? = some (.cells (cellsOf k l) t (0, 0)) := h

theorem Blk.cell {w : World} {g : Nat} {t : TypeId} {k : IntKind} {l : List Int} (h : Blk w g t k l) (i : Nat) (hi : i < l.length) : w.cell? ⟨g, i, none⟩ = some (.int k (nth l i)) := by
 rw [cell_of_row w g i _ t (0, 0) h, get_cellsOf k l i hi]

theorem Blk.free {w : World} {g : Nat} {t : TypeId} {k : IntKind} {l : List Int} (h : Blk w g t k l) (i : Nat) : w.frozen? ⟨g, i, none⟩ = false := frozen_of_row w g i _ t h

theorem Blk.lt {w : World} {g : Nat} {t : TypeId} {k : IntKind} {l : List Int} (h : Blk w g t k l) : g < w.heap.size := (Array.getElem?_eq_some_iff.1 h).1

theorem Blk.set {w : World} {g : Nat} {t : TypeId} {k : IntKind} {l : List Int} (h : Blk w g t k l) (i : Nat) (v : Int) : Blk (w.setCell ⟨g, i, none⟩ (.int k v)) g t k (l.set i v) := by
 unfold Blk
 rw [heap_setCell_same w g i _ t _ h, set_cellsOf]

theorem Blk.other {w : World} {g : Nat} {t : TypeId} {k : IntKind} {l : List Int} (h : Blk w g t k l) (a : Addr) (v : Value) (hne : g ≠ a.block) : Blk (w.setCell a v) g t k l := by
 unfold Blk
 rw [heap_setCell_other w a g v hne]; exact h

theorem Blk.setRow {w : World} {g : Nat} {t : TypeId} {k : IntKind} {l : List Int} (h : Blk w g t k l) (l' : List Int) : Blk (w.setRow g (cellsOf k l')) g t k l' := setRow_heap w g _ _ t (0, 0) h

theorem Blk.below {w w' : World} {g B : Nat} {t : TypeId} {k : IntKind} {l : List Int} (h : Blk w g t k l) (hb : Below B w w') (hg : g < B) : Blk w' g t k l := (hb.block g hg).trans h

theorem Blk.alloc {w : World} {g : Nat} {t : TypeId} {k : IntKind} {l : List Int} (h : Blk w g t k l) (o : Obj) : Blk (w.alloc o) g t k l := (Below.heap_alloc w o g h.lt).trans h

theorem Blk.drew {w : World} {g : Nat} {t : TypeId} {k : IntKind} {l : List Int} (h : Blk w g t k l) : Blk w.drew g t k l := h

theorem Blk.new (w : World) (t : TypeId) (k : IntKind) (l : List Int) : Blk (w.alloc (.cells (cellsOf k l) t)) w.heap.size t k l := heap_alloc_new w _

theorem below_setRow {B : Nat} {a w : World} (h : Below B a w) {g : Nat} (hg : B ≤ g) (cs : Array Value) : Below B a (w.setRow g cs) :=
 ⟨h.os, h.tape, h.output, by rw [size_setRow]; exact h.size, fun j hj => (setRow_other w g j cs (by omega)).trans (h.block j hj)⟩

section
variable {P : Program}

/-- 'var x T': a new block of zeros, under a name of its own. -/
theorem wpList_alloc_row {ops : Array Oper} {rest : List Oper} {o : Oper} {a : Act} {w : World} {Q : Exit → Act → World → Prop} (hgd : o.guard = none) (ty : TypeId) (ho : o.op = .alloc ty) (Z : Array Value)
   (hz : ∀ w : World, (zeroValue ty).run P w = .ok (.agg Z) w)
   (h : wpList P ops Q rest (a.put o.dst (.pointer (some ⟨w.heap.size, 0, none⟩))) (w.alloc (.cells Z ty))) : wpList P ops Q (o :: rest) a w := by
 refine wpList_plain hgd fun K hK => ?_
 unfold Oper.wp execOp
 simp [ho, Instr.alloc, hz, newVar, Value.cells]
 exact hK _ _ h

theorem Blk.kept {w w' : World} {g g' : Nat} {t : TypeId} {k : IntKind} {l : List Int} (h : Blk w g t k l) (hk : ∀ j, j ≠ g' → w'.heap[j]? = w.heap[j]?) (hne : g ≠ g') : Blk w' g t k l := (hk g hne).trans h

end
end Go.Proofs.YtafmgoekgijfgaaGreatDoor
namespace Go.Proofs.YtafmgoekgijfgaaGreatDoor
open Go.RowKit

/-- The bytes xs stand in block g from place off on. -/
def BytesAt (w : World) (g off : Nat) (xs : List Int) : Prop := ∀ i, i < xs.length → w.cell? ⟨g, off + i, none⟩ = some (.int .u8 (xs.getD i 0))

theorem BytesAt.below {w w' : World} {B g off : Nat} {xs : List Int} (h : BytesAt w g off xs) (hb : Below B w w') (hg : g < B) : BytesAt w' g off xs :=
 fun i hi => (hb.cell (p := ⟨g, off + i, none⟩) hg).trans (h i hi)

theorem BytesAt.string {P : Program} {w : World} {g off : Nat} {xs : List Int} (h : BytesAt w g off xs) (src e dst cap len : Nat) (hlen : xs.length = len) (hs : P.underlying src = some (.slice e)) (he : P.underlying e = some (.int .u8)) (hd : P.underlying dst = some .string) :
   (convert src dst (.slice (some ⟨g, off, none⟩) len cap)).run P w = .ok (.string (strOfNums xs)) w :=
 run_convert_bytes_arg w src e hs he g off len cap xs hlen (fun i hi => h i (by omega)) dst hd
end Go.Proofs.YtafmgoekgijfgaaGreatDoor
namespace Go.Proofs.YtafmgoekgijfgaaGreatDoor
open Go.RowKit

end Go.Proofs.YtafmgoekgijfgaaGreatDoor
namespace Go.Proofs.YtafmgoekgijfgaaGreatDoor
open Go.RowKit

end Go.Proofs.YtafmgoekgijfgaaGreatDoor
namespace Go.Proofs.YtafmgoekgijfgaaGreatDoor
open Go.RowKit

section
variable {F : Fence} {n : Nat} {P : Program}

end

end Go.Proofs.YtafmgoekgijfgaaGreatDoor
namespace Go.Proofs.YtafmgoekgijfgaaGreatDoor
open Go.RowKit

end Go.Proofs.YtafmgoekgijfgaaGreatDoor
namespace Go.Proofs.YtafmgoekgijfgaaGreatDoor
open Go.RowKit

/-- The slice value v reads as the bytes xs. -/
def SlAt (w : World) (v : Value) (xs : List Int) : Prop := ∃ (ao : Option Addr) (cap : Nat), v = .slice ao xs.length cap ∧ (ao = none → xs = [] ∧ cap = 0) ∧ xs.length ≤ cap ∧
 ∀ ad, ao = some ad → ∀ i, i < xs.length → ad.spot = none ∧ ad.block < w.heap.size ∧ w.cell? (ad.add i) = some (.int .u8 (nth xs i))

theorem SlAt.below {w w' : World} {v : Value} {xs : List Int} (h : SlAt w v xs) (hb : Below w.heap.size w w') : SlAt w' v xs := by
 obtain ⟨ao, cap, hv, hn, hc, ha⟩ := h
 refine ⟨ao, cap, hv, hn, hc, fun ad had i hi => ?_⟩
 obtain ⟨h0, h1, h2⟩ := ha ad had i hi
 refine ⟨h0, Nat.lt_of_lt_of_le h1 hb.size, (hb.cell (p := ad.add i) ?_).trans h2⟩
 unfold Addr.add
 split <;> exact h1

/-- The k-th of some lists of bytes. -/
def part (ps : List (List Int)) (k : Nat) : List Int := ps.getD k []
/-- The slices of block b from place o on read as these lists. -/
def PartsAt (w : World) (b o : Nat) (ps : List (List Int)) : Prop := b < w.heap.size ∧ ∀ i, i < ps.length → ∃ sv, w.cell? ⟨b, o + i, none⟩ = some sv ∧ SlAt w sv (part ps i)

theorem PartsAt.below {w w' : World} {b o : Nat} {ps : List (List Int)} (h : PartsAt w b o ps) (hb : Below w.heap.size w w') : PartsAt w' b o ps :=
 ⟨Nat.lt_of_lt_of_le h.1 hb.size, fun i hi => by
   obtain ⟨sv, h1, h2⟩ := h.2 i hi
   exact ⟨sv, (hb.cell (p := ⟨b, o + i, none⟩) h.1).trans h1, h2.below hb⟩⟩

end Go.Proofs.YtafmgoekgijfgaaGreatDoor
namespace Go.Proofs.YtafmgoekgijfgaaGreatDoor
open Go.RowKit

/-- Numbers put over others from a place on. -/
def put (l : List Int) (off : Nat) (c : List Int) : List Int := l.take off ++ c ++ l.drop (off + c.length)
end Go.Proofs.YtafmgoekgijfgaaGreatDoor
namespace Go.Proofs.YtafmgoekgijfgaaGreatDoor
open Go.RowKit

end Go.Proofs.YtafmgoekgijfgaaGreatDoor
namespace Go.Proofs.YtafmgoekgijfgaaGreatDoor
open Go.RowKit

end Go.Proofs.YtafmgoekgijfgaaGreatDoor
namespace Go.Proofs.YtafmgoekgijfgaaGreatDoor
open Go.RowKit

/-- What 's[l:l+m]' answers. -/
def sl (a : Option Addr) (l m cap : Nat) : Value := .slice (if cap = l then a else a.map (·.add l)) m (cap - l)

theorem SlAt.le {w : World} {ao : Option Addr} {n c : Nat} {xs : List Int} (h : SlAt w (.slice ao n c) xs) : n ≤ c ∧ n = xs.length := by
 obtain ⟨ao', cap, hv, _, hc, _⟩ := h
 simp at hv
 obtain ⟨_, rfl, rfl⟩ := hv
 exact ⟨hc, rfl⟩

theorem addr_plain' (b o i : Nat) : (⟨b, o, none⟩ : Addr).add i = ⟨b, o + i, none⟩ := by simp [Addr.add]

theorem add_add' (a : Addr) (h : a.spot = none) (i j : Nat) : (a.add i).add j = a.add (i + j) := by
 obtain ⟨b, o, s⟩ := a
 cases h
 rw [addr_plain', addr_plain', addr_plain', Nat.add_assoc]

theorem SlAt.cut {w : World} {ao : Option Addr} {n c : Nat} {xs : List Int} (h : SlAt w (.slice ao n c) xs) {lo m : Nat} (hm : lo + m ≤ n) : SlAt w (sl ao lo m c) ((xs.drop lo).take m) := by
 obtain ⟨ao', cap, hv, hn, hc, ha⟩ := h
 simp at hv
 obtain ⟨rfl, rfl, rfl⟩ := hv
 have hl : ((xs.drop lo).take m).length = m := by simp; omega
 by_cases e : c = lo
 · have hm0 : m = 0 := by omega
   subst hm0
   refine ⟨ao, c - lo, by simp [sl, e], fun h => by simp [(hn h).2], by simp, fun ad had i hi => by simp at hi⟩
 · refine ⟨ao.map (·.add lo), c - lo, by rw [hl, sl, if_neg e], fun h => ?_, by rw [hl]; omega, fun ad had i hi => ?_⟩
   · have hz := hn (by cases ao <;> simp_all)
     simp [hz.1, hz.2]
   · cases hao : ao with
     | none => rw [hao] at had; cases had
     | some x =>
       rw [hao] at had
       simp at had
       subst had
       rw [hl] at hi
       obtain ⟨h1, h2, h3⟩ := ha x hao (lo + i) (by omega)
       refine ⟨by unfold Addr.add; split <;> simp_all, ?_, ?_⟩
       · have hb : (x.add lo).block = x.block := by unfold Addr.add; split <;> rfl
         rw [hb]; exact h2
       · rw [add_add' x h1, h3]
         have hi2 : lo + i < xs.length := by omega
         simp [nth, List.getD, List.getElem?_drop, hi]

section
variable {P : Program}
theorem run_sizeOf {e : TypeId} {s : Nat} (hs : (P.info? e).map (·.size) = some s) (w : World) : (sizeOf e).run P w = .ok s w := by
 obtain ⟨i, hi, rfl⟩ := Option.map_eq_some_iff.1 hs
 simp [sizeOf, typeInfo, hi]

end
end Go.Proofs.YtafmgoekgijfgaaGreatDoor
namespace Go.Proofs.YtafmgoekgijfgaaGreatDoor
open Go.RowKit

/-- A kind of thing: its type, its cells. -/
structure Kd (α : Type) where
 t : TypeId
 s : Nat
 dft : α
 cells : α → List Value
 len : ∀ a, (cells a).length = s
 pos : 0 < s
 one : ∀ a, ∀ v ∈ cells a, v.oneCell' = true

section
variable {α : Type} {K : Kd α}
def Kd.all (K : Kd α) (l : List α) : List Value := l.flatMap K.cells
theorem Kd.all_length (l : List α) : (K.all l).length = l.length * K.s := by
 induction l with
 | nil => simp [Kd.all]
 | cons c l ih => simp only [Kd.all, List.flatMap_cons, List.length_append, List.length_cons] at ih ⊢; rw [ih, K.len, Nat.succ_mul, Nat.add_comm]
theorem Kd.all_append (l m : List α) : K.all (l ++ m) = K.all l ++ K.all m := by simp [Kd.all]
theorem Kd.get_all (l : List α) (i j : Nat) (hi : i < l.length) (hj : j < K.s) : (K.all l)[i * K.s + j]? = (K.cells (l.getD i K.dft))[j]? := by
 have h : l = l.take i ++ (l.getD i K.dft :: l.drop (i + 1)) := by
   conv => lhs; rw [← List.take_append_drop i l, List.drop_eq_getElem_cons hi]
   simp [List.getD, hi]
 have hl : (K.all (l.take i)).length = i * K.s := by rw [Kd.all_length, List.length_take, Nat.min_eq_left (by omega)]
 conv => lhs; rw [h, Kd.all_append]
 rw [List.getElem?_append_right (by omega), hl, show i * K.s + j - i * K.s = j by omega]
 rw [show K.all (l.getD i K.dft :: l.drop (i + 1)) = K.cells (l.getD i K.dft) ++ K.all (l.drop (i + 1)) by simp [Kd.all]]
 rw [List.getElem?_append_left (by rw [K.len]; exact hj)]
theorem Kd.all_one1 (l : List α) : ∀ v ∈ K.all l, v.oneCell' = true := by
 intro v hv
 obtain ⟨c, _, hc⟩ := List.mem_flatMap.1 hv
 exact K.one c v hc
theorem Kd.all_take (l : List α) (k : Nat) (hk : k ≤ l.length) : (K.all l).take (k * K.s) = K.all (l.take k) := by
 conv => lhs; rw [← List.take_append_drop k l, Kd.all_append]
 rw [List.take_left' (by rw [Kd.all_length, List.length_take, Nat.min_eq_left hk])]

/-- The slice value v reads as l. -/
def GAt (K : Kd α) (w : World) (v : Value) (l : List α) : Prop := ∃ (ao : Option Addr) (cap : Nat), v = .slice ao l.length cap ∧ l.length ≤ cap ∧ (ao = none → l = [] ∧ cap = 0) ∧
 ∀ ad, ao = some ad → ∀ i, i < l.length → ad.spot = none ∧ ad.block < w.heap.size ∧ ∀ j, j < K.s → w.cell? (ad.add (i * K.s + j)) = (K.cells (l.getD i K.dft))[j]?
theorem GAt.len {w : World} {v : Value} {l : List α} (h : GAt K w v l) : ∃ ao cap, v = .slice ao l.length cap := by
 obtain ⟨ao, cap, hv, _⟩ := h
 exact ⟨ao, cap, hv⟩
theorem GAt.le {w : World} {ao : Option Addr} {n cap : Nat} {l : List α} (h : GAt K w (.slice ao n cap) l) : n = l.length ∧ n ≤ cap := by
 obtain ⟨ao', cap', hv, hc, _⟩ := h
 injection hv with _ e2 e3
 exact ⟨e2, by omega⟩
theorem GAt.nil (w : World) : GAt K w (.slice none 0 0) [] := ⟨none, 0, rfl, Nat.le_refl _, fun _ => ⟨rfl, rfl⟩, fun ad h => by cases h⟩
theorem GAt.keep {F : Nat → Prop} {w w' : World} {v : Value} {l : List α} (h : GAt K w v l) (hk : Keep F w w') (hf : Off F v) : GAt K w' v l := by
 obtain ⟨ao, cap, rfl, hc, hn, ha⟩ := h
 refine ⟨ao, cap, rfl, hc, hn, fun ad had i hi => ?_⟩
 subst had
 obtain ⟨h0, h1, h2⟩ := ha ad rfl i hi
 refine ⟨h0, Nat.lt_of_lt_of_le h1 hk.size, fun j hj => ?_⟩
 rw [← h2 j hj]
 have hb := hk.block ad.block h1 (hf _ rfl)
 simp only [World.cell?, addr_block, hb]
theorem GAt.below {w w' : World} {v : Value} {l : List α} (h : GAt K w v l) (hb : Below w.heap.size w w') : GAt K w' v l :=
 h.keep (Keep.of_below hb : Keep (fun _ => False) w w') (fun _ _ => id)
/-- Where the k-th thing lies. -/
theorem GAt.at {w : World} {ao : Option Addr} {n cap : Nat} {l : List α} (h : GAt K w (.slice ao n cap) l) {k : Nat} (hk : k < n) : ∃ b o, ao = some ⟨b, o, none⟩ ∧ b < w.heap.size ∧
   ∀ j, j < K.s → w.cell? ⟨b, o + k * K.s + j, none⟩ = (K.cells (l.getD k K.dft))[j]? := by
 obtain ⟨ao', cap', hv, _, hn, ha⟩ := h
 injection hv with e1 e2 e3
 subst e1 e2
 cases hao : ao with
 | none => rw [(hn hao).1] at hk; simp at hk
 | some ad =>
   obtain ⟨h0, h1, h2⟩ := ha ad hao k hk
   obtain ⟨b, o, s⟩ := ad
   cases h0
   exact ⟨b, o, rfl, h1, fun j hj => by
     have := addr_plain' b o (k * K.s + j) ▸ h2 j hj
     rw [Nat.add_assoc]
     exact this⟩
/-- The first k. -/
theorem GAt.front {w : World} {ao : Option Addr} {n cap : Nat} {l : List α} (h : GAt K w (.slice ao n cap) l) {k : Nat} (hk : k ≤ n) : GAt K w (.slice ao k cap) (l.take k) := by
 obtain ⟨ao', cap', hv, hc, hn, ha⟩ := h
 injection hv with e1 e2 e3
 subst e1 e2 e3
 have hl : (l.take k).length = k := by rw [List.length_take, Nat.min_eq_left hk]
 refine ⟨ao, cap, by rw [hl], by omega, fun h => ⟨by rw [(hn h).1]; simp, (hn h).2⟩, fun ad had i hi => ?_⟩
 rw [hl] at hi
 obtain ⟨h0, h1, h2⟩ := ha ad had i (by omega)
 refine ⟨h0, h1, fun j hj => ?_⟩
 rw [h2 j hj]
 simp [List.getD, hi, show i < l.length by omega]
/-- One thing that lies in a block of its own. -/
theorem GAt.box (w : World) (g : Nat) (c : α) (fr : Nat × Nat) (h : w.heap[g]? = some (.cells (K.cells c).toArray K.t fr)) (k : Nat) (hk : 1 ≤ k) : GAt K w (.slice (some ⟨g, 0, none⟩) 1 k) [c] := by
 refine ⟨_, k, rfl, hk, (fun h => by cases h), fun ad had i hi => ?_⟩
 cases had
 have hi0 : i = 0 := by simp at hi; omega
 subst hi0
 refine ⟨rfl, (Array.getElem?_eq_some_iff.1 h).1, fun j hj => ?_⟩
 rw [addr_plain', cell_of_row w g _ _ _ fr h, Nat.zero_mul, Nat.zero_add, Nat.zero_add, List.getElem?_toArray]
 rfl

/-- v is a row of the call's own (at B or above) with l. -/
def GRow (K : Kd α) (W : World) (B : Nat) (v : Value) (l : List α) : Prop := W.ownsRow B K.t K.s v l.length (K.all l)
theorem GRow.nil (W : World) (B : Nat) : GRow K W B (.slice none 0 0) [] := World.ownsRow_nil _ _ _ _
theorem GRow.lit (W : World) (B : Nat) (l : List α) (hB : B ≤ W.heap.size) (hm : l.length ≤ maxLen) : GRow K (W.alloc (.cells (K.all l).toArray K.t)) B (.slice (some ⟨W.heap.size, 0, none⟩) l.length l.length) l := by
 have h := World.ownsRow_lit (base := B) (e := K.t) (size := K.s) W (K.all l).toArray l.length hB hm (by rw [List.size_toArray, Kd.all_length])
 exact h
theorem GRow.alloc {W : World} {B : Nat} {v : Value} {l : List α} (h : GRow K W B v l) (o : Obj) : GRow K (W.alloc o) B v l := World.ownsRow.alloc h o
theorem GRow.drew {W : World} {B : Nat} {v : Value} {l : List α} (h : GRow K W B v l) : GRow K W.drew B v l := h
theorem GRow.lt {W : World} {B : Nat} {v : Value} {l : List α} (h : GRow K W B v l) {k : Nat} (hk : v.ownBlock = some k) : k < W.heap.size := (World.ownsRow.lt h k hk).2
theorem GRow.ge {W : World} {B : Nat} {v : Value} {l : List α} (h : GRow K W B v l) {k : Nat} (hk : v.ownBlock = some k) : B ≤ k := (World.ownsRow.lt h k hk).1
theorem GRow.base {W : World} {B B' : Nat} {v : Value} {l : List α} (h : GRow K W B v l) (hb : B' ≤ B) : GRow K W B' v l := by
 obtain ⟨h1, h2 | ⟨g, cap, cur, e1, e2, r⟩⟩ := h
 · exact ⟨h1, .inl h2⟩
 · exact ⟨h1, .inr ⟨g, cap, cur, e1, Nat.le_trans hb e2, r⟩⟩
theorem GRow.keep {F : Nat → Prop} {W W' : World} {B : Nat} {v : Value} {l : List α} (h : GRow K W B v l) (hk : Keep F W W') (hf : Off F v) : GRow K W' B v l := by
 obtain ⟨h1, h2 | ⟨g, cap, cur, e1, e2, e3, r⟩⟩ := h
 · exact ⟨h1, .inl h2⟩
 · refine ⟨h1, .inr ⟨g, cap, cur, e1, e2, ?_, r⟩⟩
   rw [hk.block g (Array.getElem?_eq_some_iff.1 e3).1 (hf g (by rw [e1]; rfl))]
   exact e3
theorem GRow.below {W W' : World} {B : Nat} {v : Value} {l : List α} (h : GRow K W B v l) (hb : Below W.heap.size W W') : GRow K W' B v l :=
 h.keep (Keep.of_below hb : Keep (fun _ => False) W W') (fun _ _ => id)
theorem GRow.own {W : World} {B : Nat} {v : Value} {l : List α} (h : GRow K W B v l) : (v = .slice none 0 0 ∧ l = []) ∨ ∃ g c, v = .slice (some ⟨g, 0, none⟩) l.length c := by
 obtain ⟨_, h2 | ⟨g', cap, cur, e1, _⟩⟩ := h
 · exact .inl ⟨h2.1, List.length_eq_zero_iff.1 h2.2⟩
 · exact .inr ⟨g', cap, e1⟩
/-- The row's block. -/
theorem GRow.block {W : World} {B : Nat} {v : Value} {l : List α} (h : GRow K W B v l) : (v = .slice none 0 0 ∧ l = []) ∨ ∃ g c cs, v = .slice (some ⟨g, 0, none⟩) l.length c ∧ B ≤ g ∧ W.heap[g]? = some (.cells cs K.t (0, 0)) ∧ cs.size = c * K.s ∧ l.length ≤ c ∧ c ≤ maxLen ∧ cs.toList.take (l.length * K.s) = K.all l := by
 obtain ⟨h1, h2 | ⟨g', cap', cur, e1, e2, e3, e4, e5, e6, e7⟩⟩ := h
 · exact .inl ⟨h2.1, List.length_eq_zero_iff.1 h2.2⟩
 · exact .inr ⟨g', cap', cur, e1, e2, e3, e6, e4, e5, e7⟩
theorem GRow.of_block {W : World} {B g c : Nat} {l : List α} {cs : Array Value} (hB : B ≤ g) (hb : W.heap[g]? = some (.cells cs K.t (0, 0))) (hs : cs.size = c * K.s) (hl : l.length ≤ c) (hc : c ≤ maxLen) (ht : cs.toList.take (l.length * K.s) = K.all l) : GRow K W B (.slice (some ⟨g, 0, none⟩) l.length c) l :=
 ⟨Kd.all_length l, .inr ⟨g, c, cs, rfl, hB, hb, hl, hc, hs, ht⟩⟩
theorem GRow.le {W : World} {B n c : Nat} {ao : Option Addr} {l : List α} (h : GRow K W B (.slice ao n c) l) : n ≤ c := by
 obtain ⟨_, h2 | ⟨g', cap', cur, e1, e2, e3, e4, e5, e6, e7⟩⟩ := h
 · have h3 := h2.1
   injection h3 with _ h4 h5
   omega
 · injection e1 with _ h4 h5
   omega
theorem GRow.gAt {W : World} {B : Nat} {v : Value} {l : List α} (h : GRow K W B v l) : GAt K W v l := by
 have hl := fun k hk => GRow.lt h (k := k) hk
 have hc := fun g hg => World.ownsRow.cells h (g := g) hg
 rcases h.own with ⟨rfl, rfl⟩ | ⟨g, c, rfl⟩
 · exact GAt.nil W
 · refine ⟨_, c, rfl, h.le, (fun h => by cases h), fun ad had i hi => ?_⟩
   cases had
   refine ⟨rfl, hl g rfl, fun j hj => ?_⟩
   have h1 := Kd.get_all l i j hi hj
   have h2 : j < (K.cells (l.getD i K.dft)).length := by rw [K.len]; exact hj
   rw [List.getElem?_eq_getElem h2] at h1 ⊢
   exact hc g rfl (i * K.s + j) _ h1
/-- The first k of a row. -/
theorem GRow.take {W : World} {B n c : Nat} {ao : Option Addr} {l : List α} (h : GRow K W B (.slice ao n c) l) (k : Nat) (hk : k ≤ l.length) (h0 : 0 < l.length) : GRow K W B (.slice ao k c) (l.take k) := by
 have hkl : (l.take k).length = k := by rw [List.length_take, Nat.min_eq_left hk]
 obtain ⟨h1, h2 | ⟨g, cap, cur, e1, e2, e3, e4, e5, e6, e7⟩⟩ := h
 · omega
 · injection e1 with a1 a2 a3
   subst a1 a2 a3
   refine ⟨by rw [hkl, Kd.all_length, hkl], .inr ⟨g, c, cur, by rw [hkl], e2, e3, by rw [hkl]; omega, e5, e6, ?_⟩⟩
   rw [hkl, ← Kd.all_take l k hk, ← e7, List.take_take, Nat.min_eq_left (Nat.mul_le_mul_right _ hk)]

variable {P : Program}
/-- A row of the call's own that an append makes longer. -/
theorem append_g (T : TypeId) (z : Value) (bytes : Nat) (hu : P.underlying T = some (.slice K.t)) (hi : (P.info? K.t).map (fun i => (i.zero, i.size, i.bytes)) = some (some z, K.s, bytes)) (hz : z.cells.size = K.s)
   (W : World) (B : Nat) (v : Value) (l : List α) (h : GRow K W B v l) (sv : Value) (m : List α) (hs : GAt K W sv m) (hb : l.length + m.length ≤ maxLen) (hby : (l.length + m.length) * bytes ≤ 140737488355328) (hB : B ≤ W.heap.size) :
   ∃ v' w', (Builtin.append_ #[T, T] T #[v, sv]).run P W = .ok v' w' ∧ GRow K w' B v' (l ++ m) ∧ Keep (fun k => v.ownBlock = some k) W w' ∧ (v'.ownBlock = v.ownBlock ∨ v'.ownBlock = some W.heap.size) := by
 obtain ⟨i0, hi, hz0, hz1, hz2⟩ := info_parts hi
 obtain ⟨ao, cap, rfl, _, hn, ha⟩ := hs
 cases hao : ao with
 | none =>
   obtain ⟨rfl, rfl⟩ := hn hao
   refine ⟨v, W, ?_, by simpa using h, Keep.refl _ _, .inl rfl⟩
   rcases h.2 with ⟨rfl, hl⟩ | ⟨g, c, cur, rfl, _, _, hnc, _⟩
   · simp [Builtin.append_, run_underlying hu, sizeOf, typeInfo, hi, Builtin.lenOf, Builtin.firstCells]
   · simp [Builtin.append_, run_underlying hu, sizeOf, typeInfo, hi, Builtin.lenOf, Builtin.firstCells, hnc, storeCells]
 | some ad =>
   have hnews : ∀ j u, (K.all m)[j]? = some u → W.cell? (ad.add j) = some u := by
     intro j u hu
     have hj : j < m.length * K.s := by rw [← Kd.all_length]; exact (List.getElem?_eq_some_iff.1 hu).1
     have hj2 : j / K.s * K.s + j % K.s = j := by rw [Nat.mul_comm]; exact Nat.div_add_mod j K.s
     have hj3 : j / K.s < m.length := by rw [Nat.div_lt_iff_lt_mul K.pos]; exact hj
     have hj4 := Nat.mod_lt j K.pos
     obtain ⟨_, _, h2⟩ := ha ad hao (j / K.s) hj3
     have h3 := h2 (j % K.s) hj4
     have h4 := Kd.get_all (K := K) m (j / K.s) (j % K.s) hj3 hj4
     rw [hj2] at h3 h4
     rw [h3, ← h4, hu]
   obtain ⟨v', w', a1, a2, a3, _, a5⟩ := run_append_own_at (P := P) W B T T K.t i0 z K.s bytes hu hi hz0 hz1 hz2 hz K.pos v l.length (K.all l) h ad m.length cap (K.all m) (Kd.all_length m) hnews (Kd.all_one1 m) hb hby hB
   refine ⟨v', w', a1, ?_, ⟨a3.os, a3.tape, a3.output, a3.size, fun k hk hf => a3.block k hk (fun e => hf e.symm)⟩, a5⟩
   unfold GRow
   rw [List.length_append, Kd.all_append]
   exact a2
/-- 's[:m]'. -/
theorem run_cut_gh {T e : TypeId} {s : Nat} (hu : P.underlying T = some (.slice e)) (hs : (P.info? e).map (·.size) = some s) (ao : Option Addr) (n cap m : Nat) (h0 : m ≤ cap) (w : World) :
   (Instr.sliceAt T (.slice ao n cap) none (some (.int .i64 (m : Int))) none).run P w = .ok (.slice ao m cap) w := by
 have h1 : (0 : Int) ≤ (m : Int) ∧ (m : Int) ≤ (cap : Int) := by omega
 simp [Instr.sliceAt, Instr.slice, run_underlying hu, Instr.sliceBounds, run_sliceBound_if, run_sizeOf hs, h1]
 intro he
 cases ao with
 | none => rfl
 | some a => simp [Addr.add]
end
end Go.Proofs.YtafmgoekgijfgaaGreatDoor
namespace Go.Proofs.YtafmgoekgijfgaaGreatDoor
open Go.RowKit Go.Lib

structure HidL (p : Prop) : Prop where
 out : p
theorem hideL {p : Prop} (h : p) : HidL p := ⟨h⟩
theorem size_list (s : ByteArray) : s.data.toList.length = s.size := by rw [Array.length_toList]; rfl
theorem byte_at (s : ByteArray) (k : Nat) (h : k < s.size) : s.data.toList.drop k = s[k] :: s.data.toList.drop (k + 1) := by
 have h2 : k < s.data.toList.length := by rw [Array.length_toList]; exact h
 rw [List.drop_eq_getElem_cons h2]
 congr 1
theorem ex_list (s : ByteArray) (i j : Nat) : (s.extract i j).data.toList = (s.data.toList.drop i).take (j - i) := by
 rw [ByteArray.data_extract, Array.toList_extract, List.extract_eq_take_drop]
theorem eqs_true {s t : ByteArray} (h : s = t) : (s.toList == t.toList) = true := by rw [h]; exact beq_self_eq_true _
theorem eqs_false {s t : ByteArray} (h : s ≠ t) : (s.toList == t.toList) = false := beq_eq_false_iff_ne.2 fun e => h (bytes_ext (by rw [ByteArray.toList_eq, ByteArray.toList_eq] at e; exact e))
theorem eqs_dec (s t : ByteArray) : (s.toList == t.toList) = decide (s = t) := by
 by_cases h : s = t
 · rw [eqs_true h, decide_eq_true h]
 · rw [eqs_false h, decide_eq_false h]
theorem below_drewN5 (w : World) : ∀ n, Below w.heap.size w (w.drewN n)
 | 0 => Below.refl _ _
 | n + 1 => (below_drewN5 w n).drew
theorem pre_iff (s p : ByteArray) (_ : p.size ≤ s.size) : ((s.extract 0 p.size).toList == p.toList) = decide (p.data.toList <+: s.data.toList) := by
 rw [eqs_dec]
 apply decide_eq_decide.2
 rw [List.prefix_iff_eq_take, size_list]
 constructor
 · intro e
   have : (_ : ByteArray).data.toList = _ := congrArg (fun b : ByteArray => b.data.toList) e
   rw [ex_list, Nat.sub_zero, List.drop_zero] at this
   exact this.symm
 · intro e
   apply bytes_ext
   rw [ex_list, Nat.sub_zero, List.drop_zero]
   exact e.symm
theorem pre_no (s p : ByteArray) (h : ¬ p.size ≤ s.size) : decide (p.data.toList <+: s.data.toList) = false := decide_eq_false fun e => h (by have := e.length_le; rwa [size_list, size_list] at this)
theorem pre_one (c : UInt8) (l : List UInt8) : decide ([c] <+: l) = decide (l.head? = some c) := by
 apply decide_eq_decide.2
 cases l with
 | nil => simp
 | cons d l => simp [List.cons_prefix_cons, eq_comm]

set_option maxRecDepth 100000 in
set_option maxHeartbeats 400000 in
theorem hasPre_any (s p : ByteArray) (w : World) : Calls Tryz.prog 100 #[.string s, .string p] w (fun e w' => e = .returned (.bool (decide (p.data.toList <+: s.data.toList))) ∧ w' = w) := by
 by_cases h : p.size ≤ s.size
 · rw [← pre_iff s p h]
   go_enter Tryz.func100, Tryz.ntmps100
   go_wp2
   go_ret
   exact ⟨rfl, rfl⟩
 · rw [pre_no s p h]
   go_enter Tryz.func100, Tryz.ntmps100
   go_wp2
   go_ret
   exact ⟨rfl, rfl⟩
set_option maxRecDepth 100000 in
theorem indexByte_any (s : ByteArray) (c : Int) (w : World) : Calls Tryz.prog 183 #[.string s, .int .u8 c] w (fun e w' => e = .returned (.int .i64 (Lib.indexByte s.data.toList c.toNat.toUInt8)) ∧ w' = w) := by
 go_enter Tryz.func183, Tryz.ntmps183
 go_wp2
 rw [run_callFunc_extern Tryz.func201 (by kernel_rfl) (by kernel_rfl) (by kernel_rfl) (e := Extern.BytealgIndexByte.indexByte) (by kernel_rfl), Lib.run_indexByteString]
 simp only [Result.andThen]
 rw [Oper.upon_value]
 go_wp2
 go_ret
 exact ⟨rfl, rfl⟩
theorem idx_none {c : UInt8} : ∀ {l : List UInt8}, c ∉ l → Lib.indexByte l c = -1
 | [], _ => rfl
 | b :: l, h => by
   rw [Lib.indexByte, if_neg (by simpa using not_head h), idx_none (fun e => h (List.mem_cons_of_mem _ e))]
   rfl
theorem idx_hit {c : UInt8} (b : List UInt8) : ∀ {a : List UInt8}, c ∉ a → Lib.indexByte (a ++ c :: b) c = a.length
 | [], _ => by rw [List.nil_append, Lib.indexByte, if_pos (by simp)]; rfl
 | d :: a, h => by
   rw [List.cons_append, Lib.indexByte, if_neg (by simpa using not_head h), idx_hit b (fun e => h (List.mem_cons_of_mem _ e)), if_neg (by rw [beq_iff_eq]; omega), List.length_cons]
   rfl
theorem idx_iff {c : UInt8} {l : List UInt8} : Lib.indexByte l c < 0 ↔ c ∉ l := by
 constructor
 · intro h hm
   obtain ⟨a, b, rfl, ha⟩ := List.eq_append_cons_of_mem hm
   rw [idx_hit b ha] at h
   omega
 · intro h; rw [idx_none h]; decide
set_option maxRecDepth 100000 in
theorem ix_any (s : ByteArray) (c : UInt8) (w : World) : Calls Tryz.prog 162 #[.string s, .int .u8 c.toNat] w (fun e w' => e = .returned (.int .i64 (Lib.indexByte s.data.toList c)) ∧ w' = w) := by
 have hc : ((c.toNat : Nat) : Int).toNat.toUInt8 = c := by simp
 go_enter Tryz.func162, Tryz.ntmps162
 go_wp2
 rw [run_callFunc_extern Tryz.func201 (by kernel_rfl) (by kernel_rfl) (by kernel_rfl) (e := Extern.BytealgIndexByte.indexByte) (by kernel_rfl), Lib.run_indexByteString, hc]
 simp only [Result.andThen]
 rw [Oper.upon_value]
 go_wp2
 go_ret
 exact ⟨rfl, rfl⟩
set_option maxRecDepth 100000 in
set_option maxHeartbeats 1000000 in
theorem index_any (s : ByteArray) (c : UInt8) (w : World) : Calls Tryz.prog 117 #[.string s, .string ⟨#[c]⟩] w (fun e w' => e = .returned (.int .i64 (Lib.indexByte s.data.toList c)) ∧ w' = w) := by
 obtain ⟨V, hV⟩ : ∃ V, Lib.indexByte s.data.toList c = V := ⟨_, rfl⟩
 have HX := hideL (fun W : World => ix_any s c W)
 rw [hV] at HX ⊢
 by_cases h : (⟨#[c]⟩ : ByteArray) = s
 · have h0 : V = 0 := by
     rw [← hV, ← h]
     exact idx_hit (c := c) [] (a := []) (by simp)
   have h1 : ([c] == s.toList) = true := by have := eqs_true h; rwa [ByteArray.toList_eq ⟨#[c]⟩] at this
   subst h0
   clear h hV HX
   go_enter Tryz.func117, Tryz.ntmps117
   go_wp2_with fail
   go_ret
   exact ⟨rfl, rfl⟩
 · have h1 : ([c] == s.toList) = false := by have := eqs_false h; rwa [ByteArray.toList_eq ⟨#[c]⟩] at this
   clear h hV
   go_enter Tryz.func117, Tryz.ntmps117
   go_wp2_with (go_at_call 162; refine (HX.out _).mono ?_; rintro e w2 ⟨rfl, rfl⟩)
   go_ret
   exact ⟨rfl, rfl⟩
theorem bo_pre {s : ByteArray} {a b : List UInt8} {c : UInt8} (h : s.data.toList = a ++ c :: b) : s.extract 0 a.length = bo a ∧ s.extract (a.length + 1) s.size = bo b ∧ a.length + 1 ≤ s.size := by
 have hl : s.size = a.length + (b.length + 1) := by rw [← size_list, h, List.length_append, List.length_cons]
 refine ⟨bytes_ext ?_, bytes_ext ?_, by omega⟩
 · rw [ex_list, h, List.drop_zero, Nat.sub_zero, bo_list, List.take_left' rfl]
 · rw [ex_list, h, bo_list, List.drop_append, List.drop_of_length_le (by omega), show a.length + 1 - a.length = 1 by omega, List.nil_append, List.drop_succ_cons, List.drop_zero, List.take_of_length_le (by omega)]
set_option maxRecDepth 100000 in
set_option maxHeartbeats 1000000 in
theorem scut_none (s : ByteArray) (c : UInt8) (h : c ∉ s.data.toList) (w : World) : Calls Tryz.prog 72 #[.string s, .string ⟨#[c]⟩] w (fun e w' => e = .returned (.tuple #[.string s, .string ⟨#[]⟩, .bool false]) ∧ ∃ n, w' = w.drewN n) := by
 have HX := hideL (fun W : World => index_any s c W)
 rw [idx_none h] at HX
 go_enter Tryz.func72, Tryz.ntmps72
 go_wp2_with (first
   | (go_at_call 117; refine (HX.out _).mono ?_; rintro e w2 ⟨rfl, rfl⟩)
   | go_region)
 all_goals go_ret3
 all_goals exact ⟨rfl, 0, rfl⟩
set_option maxRecDepth 100000 in
set_option maxHeartbeats 1000000 in
theorem scut_hit (s : ByteArray) (c : UInt8) (a b : List UInt8) (h : s.data.toList = a ++ c :: b) (ha : c ∉ a) (hs : s.size ≤ 1000000) (w : World) : Calls Tryz.prog 72 #[.string s, .string ⟨#[c]⟩] w (fun e w' => e = .returned (.tuple #[.string (bo a), .string (bo b), .bool true]) ∧ ∃ n, w' = w.drewN n) := by
 have HX := hideL (fun W : World => index_any s c W)
 rw [h, idx_hit b ha] at HX
 obtain ⟨e1, e2, e3⟩ := bo_pre h
 obtain ⟨n, hn⟩ : ∃ n, a.length = n := ⟨_, rfl⟩
 rw [hn] at HX e1 e2 e3
 rw [← e1, ← e2]
 clear hn e1 e2 h ha
 have w1 : IntKind.i64.wrap ((n : Int) + 1) = ((n + 1 : Nat) : Int) := by rw [IntKind.wrap_i64]; omega
 have w2 : ((n : Int) + 1).toNat = n + 1 := by omega
 go_enter Tryz.func72, Tryz.ntmps72
 go_wp2_with (first
   | (go_at_call 117; refine (HX.out _).mono ?_; rintro e w2 ⟨rfl, rfl⟩)
   | go_region)
 all_goals go_ret3
 all_goals exact ⟨rfl, 1, rfl⟩
set_option maxRecDepth 100000 in
theorem cut_none (s : ByteArray) (c : UInt8) (h : c ∉ s.data.toList) (w : World) : Calls Tryz.prog 41 #[.string s, .string ⟨#[c]⟩] w (fun e w' => e = .returned (.tuple #[.string s, .string ⟨#[]⟩, .bool false]) ∧ ∃ n, w' = w.drewN n) := by
 have HX := hideL (fun W : World => scut_none s c h W)
 clear h
 go_enter Tryz.func41, Tryz.ntmps41
 go_wp2_with (go_at_call 72; refine (HX.out _).mono ?_; rintro e w2 ⟨rfl, n, rfl⟩)
 go_ret3
 exact ⟨rfl, n, rfl⟩
set_option maxRecDepth 100000 in
theorem cut_hit (s : ByteArray) (c : UInt8) (a b : List UInt8) (h : s.data.toList = a ++ c :: b) (ha : c ∉ a) (hs : s.size ≤ 1000000) (w : World) : Calls Tryz.prog 41 #[.string s, .string ⟨#[c]⟩] w (fun e w' => e = .returned (.tuple #[.string (bo a), .string (bo b), .bool true]) ∧ ∃ n, w' = w.drewN n) := by
 have HX := hideL (fun W : World => scut_hit s c a b h ha hs W)
 clear h ha
 go_enter Tryz.func41, Tryz.ntmps41
 go_wp2_with (go_at_call 72; refine (HX.out _).mono ?_; rintro e w2 ⟨rfl, n, rfl⟩)
 go_ret3
 exact ⟨rfl, n, rfl⟩
theorem wpList_append_runP {P : Program} {ops : Array Oper} {rest : List Oper} {o : Oper} {a : Act} {w : World} {Q : Exit → Act → World → Prop} (hg : o.guard = none) (s x : Operand) (t tn ty : TypeId) (hop : o.op = Op.call { callee := Callee.builtin Builtin.append, args := #[s, x], argTypes := #[t, tn] })
   (hty : o.type = ty) (vs vx v : Value) (w' : World) (hs : a.eval s = vs) (hx : a.eval x = vx) (hrun : (Builtin.append_ #[t, tn] ty #[vs, vx]).run P w = .ok v w')
   (h : wpList P ops Q rest (a.put o.dst v) w') : wpList P ops Q (o :: rest) a w := by
 subst hty
 refine wpList_plain hg fun K hK => ?_
 unfold Oper.wp
 simp [execOp, hop, resolve, invoke, builtin, hs, hx, hrun, Result.andThen]
 exact hK _ _ h
end Go.Proofs.YtafmgoekgijfgaaGreatDoor
namespace Go.Proofs.YtafmgoekgijfgaaGreatDoor
open Go.RowKit

/-- Bytes, texts as things of rows. -/
def KB : Kd UInt8 where
 t := 5
 s := 1
 dft := 0
 cells := fun c => [.int .u8 c.toNat]
 len := fun _ => rfl
 pos := by decide
 one := by intro a v hv; simp at hv; subst hv; rfl
def KS : Kd ByteArray where
 t := 9
 s := 1
 dft := ByteArray.empty
 cells := fun s => [.string s]
 len := fun _ => rfl
 pos := by decide
 one := by intro a v hv; simp at hv; subst hv; rfl
theorem infoB : (Tryz.prog.info? 5).map (fun i => (i.zero, i.size, i.bytes)) = some (some (.int .u8 0), 1, 1) := by kernel_rfl
theorem infoS : (Tryz.prog.info? 9).map (fun i => (i.zero, i.size, i.bytes)) = some (some (.string ByteArray.empty), 1, 16) := by kernel_rfl
theorem gat_byte {w : World} {ao : Option Addr} {n cap : Nat} {l : List UInt8} (h : GAt KB w (.slice ao n cap) l) {k : Nat} (hk : k < n) : ∃ b o, ao = some ⟨b, o, none⟩ ∧ b < w.heap.size ∧ w.cell? ⟨b, o + k, none⟩ = some (.int .u8 (l.getD k 0).toNat) := by
 obtain ⟨b, o, h1, h2, h3⟩ := h.at hk
 refine ⟨b, o, h1, h2, ?_⟩
 have := h3 0 (by decide)
 rw [Nat.add_zero, show k * KB.s = k from Nat.mul_one k] at this
 exact this
theorem gat_text {w : World} {ao : Option Addr} {n cap : Nat} {l : List ByteArray} (h : GAt KS w (.slice ao n cap) l) {k : Nat} (hk : k < n) : ∃ b o, ao = some ⟨b, o, none⟩ ∧ b < w.heap.size ∧ w.cell? ⟨b, o + k, none⟩ = some (.string (l.getD k ByteArray.empty)) := by
 obtain ⟨b, o, h1, h2, h3⟩ := h.at hk
 refine ⟨b, o, h1, h2, ?_⟩
 have := h3 0 (by decide)
 rw [Nat.add_zero, show k * KS.s = k from Nat.mul_one k] at this
 exact this
/-- A text's bytes more. -/
theorem push_str (W : World) (B : Nat) (v : Value) (l : List UInt8) (h : GRow KB W B v l) (s : ByteArray) (hl : l.length + s.size ≤ 1000000000) (hB : B ≤ W.heap.size) :
   ∃ v' w', (Builtin.append_ #[22, 9] 22 #[v, .string s]).run Tryz.prog W = .ok v' w' ∧ GRow KB w' B v' (l ++ s.data.toList) ∧ Below B W w' := by
 have hm : (1000000000 : Nat) ≤ maxLen := by decide
 obtain ⟨i0, hi, hz0, hz1, hz2⟩ := info_parts infoB
 obtain ⟨v', w', h1, h2, h3, _⟩ := Lib.run_append_own_string (P := Tryz.prog) (w := W) B 22 9 22 5 i0 Tryz.underlying22 Tryz.underlying9 hi hz0 hz1 hz2 v l.length (KB.all l) h s (by omega) (by omega) hB
 refine ⟨v', w', h1, ?_, (Below.refl B W).grown h3 hB (fun k e => h.ge e)⟩
 unfold GRow
 rw [List.length_append, size_list, Kd.all_append]
 have e : Lib.strCells s = KB.all s.data.toList := by
   unfold Lib.strCells Kd.all
   rw [List.map_eq_flatMap]
   rfl
 rw [← e]
 exact h2
/-- string(b). -/
theorem to_str (W : World) (B : Nat) (v : Value) (l : List UInt8) (h : GRow KB W B v l) : (convert 22 9 v).run Tryz.prog W = .ok (.string (bo l)) W := by
 rcases h.own with ⟨rfl, rfl⟩ | ⟨g, c, rfl⟩
 · exact run_convert_bytes_nil W 22 5 Tryz.underlying22 Tryz.underlying5 0 0 9 Tryz.underlying9
 · have hr := run_convert_bytes_back (P := Tryz.prog) W 22 9 5 ⟨g, 0, none⟩ c l Tryz.underlying22 Tryz.underlying5 Tryz.underlying9 (fun j hj => ?_)
   · rw [hr]
     rfl
   · obtain ⟨b, o, e, _, h3⟩ := gat_byte h.gAt (k := j) hj
     injection e with e
     injection e with e1 e2
     subst e1 e2
     rw [addr_plain', h3]
     simp [List.getD, hj]
/-- One text more. -/
theorem push_s (W : World) (B : Nat) (v : Value) (l : List ByteArray) (h : GRow KS W B v l) (c : ByteArray) (hl : l.length ≤ 1000000) (hB : B ≤ W.heap.size) :
   ∃ v' w', (Builtin.append_ #[69, 69] 69 #[v, .slice (some ⟨W.heap.size, 0, none⟩) 1 1]).run Tryz.prog (W.alloc (.cells #[.string c] 9)) = .ok v' w' ∧ GRow KS w' B v' (l ++ [c]) ∧ Below B W w' := by
 have hm : (1000001 : Nat) ≤ maxLen := by decide
 have hb := (Below.refl W.heap.size W).alloc (Nat.le_refl _) (.cells #[.string c] 9)
 obtain ⟨v', w', h1, h2, h3, _⟩ := append_g (K := KS) (P := Tryz.prog) 69 (.string ByteArray.empty) 16 Tryz.underlying69 infoS rfl (W.alloc (.cells #[.string c] 9)) B v l (h.below hb) (.slice (some ⟨W.heap.size, 0, none⟩) 1 1) [c] (GAt.box _ _ c (0, 0) (heap_alloc_new W _) 1 (Nat.le_refl _)) (by simp; omega) (by simp; omega) (by simp; omega)
 exact ⟨v', w', h1, h2, (hb.mono hB).trans (h3.below (fun k hk => (h.below hb).ge hk) (by simp; omega))⟩
end Go.Proofs.YtafmgoekgijfgaaGreatDoor
namespace Go.Proofs.YtafmgoekgijfgaaGreatDoor
open Go.RowKit

def KH : Kd Hd where
 t := 83
 s := 2
 dft := ⟨ByteArray.empty, ByteArray.empty⟩
 cells := fun n => [.string n.n, .string n.v]
 len := fun _ => rfl
 pos := by decide
 one := by intro a v hv; simp at hv; rcases hv with rfl | rfl <;> rfl
def Hd.ok (n : Hd) : Prop := n.n.size ≤ maxLen ∧ n.v.size ≤ maxLen
/-- A header as a value. -/
abbrev hdV (h : Hd) : Value := .agg #[.string h.n, .string h.v]
theorem infoH : (Tryz.prog.info? 83).map (fun i => (i.zero, i.size, i.bytes)) = some (some (.agg #[.string ByteArray.empty, .string ByteArray.empty]), 2, 32) := by kernel_rfl
/-- Headers of which no part is too great. -/
def Fits (l : List Hd) : Prop := ∀ a ∈ l, a.n.size ≤ 1000000 ∧ a.v.size ≤ 1000000
theorem Fits.get {l : List Hd} (h : Fits l) {k : Nat} (hk : k < l.length) : (l.getD k KH.dft).n.size ≤ 1000000 ∧ (l.getD k KH.dft).v.size ≤ 1000000 :=
 h (l.getD k KH.dft) (by simp [List.getD, hk])
theorem Fits.nil : Fits [] := fun _ h => by cases h
theorem Fits.append {a b : List Hd} (h : Fits a) (k : Fits b) : Fits (a ++ b) := fun x hx => by
 rcases List.mem_append.1 hx with hx | hx
 · exact h x hx
 · exact k x hx
theorem Fits.one {a : Hd} (h : a.n.size ≤ 1000000 ∧ a.v.size ≤ 1000000) : Fits [a] := fun x hx => by
 rw [List.mem_singleton.1 hx]; exact h
theorem hdrop_at (l : List Hd) (k : Nat) (h : k < l.length) : l.drop k = l.getD k KH.dft :: l.drop (k + 1) := by
 rw [List.drop_eq_getElem_cons h]
 simp [List.getD, h]
/-- One header more. -/
theorem push_h (W : World) (B : Nat) (v : Value) (l : List Hd) (h : GRow KH W B v l) (c : Hd) (hl : l.length ≤ 1000000) (hB : B ≤ W.heap.size) :
   ∃ v' w', (Builtin.append_ #[24, 24] 24 #[v, .slice (some ⟨W.heap.size, 0, none⟩) 1 1]).run Tryz.prog (W.alloc (.cells #[.string c.n, .string c.v] 83)) = .ok v' w' ∧ GRow KH w' B v' (l ++ [c]) ∧ Below B W w' := by
 have hm : (1000001 : Nat) ≤ maxLen := by decide
 have hb := (Below.refl W.heap.size W).alloc (Nat.le_refl _) (.cells #[.string c.n, .string c.v] 83)
 obtain ⟨v', w', h1, h2, h3, _⟩ := append_g (K := KH) (P := Tryz.prog) 24 (.agg #[.string ByteArray.empty, .string ByteArray.empty]) 32 Tryz.underlying24 infoH rfl (W.alloc (.cells #[.string c.n, .string c.v] 83)) B v l (h.below hb) (.slice (some ⟨W.heap.size, 0, none⟩) 1 1) [c] (GAt.box _ _ c (0, 0) (heap_alloc_new W _) 1 (Nat.le_refl _)) (by simp; omega) (by simp; omega) (by simp; omega)
 exact ⟨v', w', h1, h2, (hb.mono hB).trans (h3.below (fun k hk => (h.below hb).ge hk) (by simp; omega))⟩
/-- A box that holds a text. -/
def SBox (W : World) (g : Nat) (s : ByteArray) : Prop := W.heap[g]? = some (.cells #[.string s] 9 (0, 0))
theorem SBox.c0 {W : World} {g : Nat} {s : ByteArray} (h : SBox W g s) : W.cell? ⟨g, 0, none⟩ = some (.string s) := (cell_of_row W g 0 _ _ _ h).trans rfl
theorem SBox.lt {W : World} {g : Nat} {s : ByteArray} (h : SBox W g s) : g < W.heap.size := (Array.getElem?_eq_some_iff.1 h).1
theorem SBox.new (w : World) (s : ByteArray) : SBox (w.alloc (.cells #[.string s] 9)) w.heap.size s := heap_alloc_new w _
theorem SBox.next {W W' : World} {g : Nat} {s : ByteArray} (h : SBox W g s) (hb : Below W.heap.size W W') : SBox W' g s := (hb.block g h.lt).trans h
/-- A box that holds a header. -/
def HBox (W : World) (g : Nat) (s t : ByteArray) : Prop := W.heap[g]? = some (.cells #[.string s, .string t] 83 (0, 0))
theorem HBox.c0 {W : World} {g : Nat} {s t : ByteArray} (h : HBox W g s t) : W.cell? ⟨g, 0, none⟩ = some (.string s) := (cell_of_row W g 0 _ _ _ h).trans rfl
theorem HBox.c1 {W : World} {g : Nat} {s t : ByteArray} (h : HBox W g s t) : W.cell? ⟨g, 1, none⟩ = some (.string t) := (cell_of_row W g 1 _ _ _ h).trans rfl
theorem HBox.lt {W : World} {g : Nat} {s t : ByteArray} (h : HBox W g s t) : g < W.heap.size := (Array.getElem?_eq_some_iff.1 h).1
theorem HBox.new (w : World) (s t : ByteArray) : HBox (w.alloc (.cells #[.string s, .string t] 83)) w.heap.size s t := heap_alloc_new w _
theorem HBox.next {W W' : World} {g : Nat} {s t : ByteArray} (h : HBox W g s t) (hb : Below W.heap.size W W') : HBox W' g s t := (hb.block g h.lt).trans h
theorem HBox.nextB {W W' : World} {g B : Nat} {s t : ByteArray} (h : HBox W g s t) (hb : Below B W W') (hg : g < B) : HBox W' g s t := (hb.block g hg).trans h
theorem HBox.drew {W : World} {g : Nat} {s t : ByteArray} (h : HBox W g s t) : HBox W.drew g s t := h
theorem HBox.frozen {W : World} {g : Nat} {s t : ByteArray} (h : HBox W g s t) (i : Nat) : W.frozen? ⟨g, i, none⟩ = false := frozen_of_row W g i _ _ h
theorem HBox.st {W : World} {g : Nat} {s t : ByteArray} (h : HBox W g s t) (x y : ByteArray) : HBox ((W.setCell ⟨g, 0, none⟩ (.string x)).setCell ⟨g, 1, none⟩ (.string y)) g x y := by
 have h1 := heap_setCell_same W g 0 _ _ (.string x) h
 exact heap_setCell_same _ g 1 _ _ (.string y) h1
theorem HBox.other {W : World} {g k o : Nat} {s t : ByteArray} {v : Value} (h : HBox W g s t) (hne : g ≠ k) : HBox (W.setCell ⟨k, o, none⟩ v) g s t := (heap_setCell_other W ⟨k, o, none⟩ g v hne).trans h
end Go.Proofs.YtafmgoekgijfgaaGreatDoor
namespace Go.Proofs.YtafmgoekgijfgaaGreatDoor
open Go.RowKit Go.Lib
theorem clone_any (s : ByteArray) (hs : s.size ≤ 281474976710656) (w : World) : Calls Tryz.prog 47 #[.string s] w (fun e w' => e = .returned (.string s) ∧ Below w.heap.size w w') := by
 have HC := hideL (fun W : World => Any.stringslite_Clone Tryz.laysM316 s W hs)
 go_enter Tryz.func47, Tryz.ntmps47
 go_wp2_with (go_at_call 82; refine (HC.out _).mono ?_; rintro e w2 ⟨rfl, hB2⟩)
 go_ret
 exact ⟨rfl, hB2⟩
end Go.Proofs.YtafmgoekgijfgaaGreatDoor
namespace Go.Proofs.YtafmgoekgijfgaaGreatDoor
open Go.RowKit Go.Lib

set_option maxRecDepth 100000 in
set_option maxRecDepth 100000 in
/-- strings.Trim(s, " \t"). -/
theorem trim_any (s : ByteArray) (hs : s.size ≤ 281474976710656) (w : World) : Calls Tryz.prog 60 #[.string s, .string ⟨#[32, 9]⟩] w (fun e w' => e = .returned (.string (bo (trimP s.data.toList))) ∧ Below w.heap.size w w') := by
 have h := Any.strings_Trim_laid Tryz.lays160 (by kernel_rfl) s ⟨#[32, 9]⟩ w (by omega) (by decide) (ascii_of_all (by decide))
 refine h.mono ?_
 rintro e w' ⟨rfl, hb⟩
 refine ⟨?_, hb⟩
 rw [show (⟨#[32, 9]⟩ : ByteArray).data.toList = [32, 9] from rfl, trimS_eq]
 rfl
/-- What stands between two digits: no rune else. -/
def noDig (r : Nat) : Bool := decide (r < 48) || decide (57 < r)
theorem noDig_any (w : World) : PredAt Tryz.prog 209 #[] encR noDig w := fun W r _ => by
 unfold FnGives
 by_cases h1 : r < 48
 · have e : noDig r = true := by simp [noDig, h1]
   have i1 : (r : Int) < 48 := by omega
   rw [e]
   go_enter Tryz.func209, Tryz.ntmps209
   go_wp2
   go_ret
   exact ⟨rfl, 0, rfl⟩
 · have i1 : ¬ (r : Int) < 48 := by omega
   by_cases h2 : 57 < r
   · have e : noDig r = true := by simp [noDig, h2]
     have i2 : (57 : Int) < (r : Int) := by omega
     rw [e]
     go_enter Tryz.func209, Tryz.ntmps209
     go_wp2
     go_ret
     exact ⟨rfl, 0, rfl⟩
   · have e : noDig r = false := by simp [noDig, h1, h2]
     have i2 : ¬ (57 : Int) < (r : Int) := by omega
     rw [e]
     go_enter Tryz.func209, Tryz.ntmps209
     go_wp2
     go_ret
     exact ⟨rfl, 0, rfl⟩
theorem idx_dig (s : ByteArray) : ∀ (f pos : Nat), s.size ≤ pos + f → pos ≤ s.size → decide (0 ≤ Lib.idxFuncFrom noDig true s f pos) = !((s.data.toList.drop pos).all digB)
 | 0, pos, h, hp => by
   rw [List.drop_of_length_le (by rw [size_list]; omega)]
   rfl
 | f + 1, pos, h, hp => by
   unfold Lib.idxFuncFrom
   by_cases hlt : pos < s.size
   · rw [if_pos hlt, byte_at s pos hlt, List.all_cons]
     by_cases hd : digB s[pos] = true
     · have hd' : 48 ≤ s[pos].toNat ∧ s[pos].toNat ≤ 57 := of_decide_eq_true hd
       rw [decode_ascii s pos hlt (by omega)]
       simp only
       rw [if_neg (by simp [noDig]; omega), hd, Bool.true_and]
       exact idx_dig s f (pos + 1) (by omega) (by omega)
     · have hd' : ¬ (48 ≤ s[pos].toNat ∧ s[pos].toNat ≤ 57) := fun h => hd (decide_eq_true h)
       have hp' : noDig (Utf8.decode s pos).1 = true := by
         by_cases ha : s[pos].toNat < 128
         · rw [decode_ascii s pos hlt ha]
           simp [noDig]; omega
         · have := (decode_high s pos hlt (by omega)).1
           simp [noDig]; omega
       rw [if_pos hp']
       have : digB s[pos] = false := by simpa using hd
       rw [this]
       simp
   · rw [if_neg hlt, List.drop_of_length_le (by rw [size_list]; omega)]
     rfl
set_option maxRecDepth 100000 in
/-- Whether a text has anything but digits. -/
theorem hasNoDig_any (s : ByteArray) (w : World) : Calls Tryz.prog 75 #[.string s, .func (.func 209) #[] #[]] w (fun e w' => e = .returned (.bool (!(s.data.toList.all digB))) ∧ Below w.heap.size w w') := by
 have h := Any.strings_ContainsFunc Tryz.laysGw17 209 #[] (enters_of Tryz.func209 (by kernel_rfl) rfl) noDig s w (noDig_any w)
 have e : decide (0 ≤ Lib.idxFunc noDig true s) = !(s.data.toList.all digB) := idx_dig s s.size 0 (by omega) (by omega)
 rw [← e]
 exact h
/-- The library's error variable, whatever it holds. -/
structure Env (W : World) : Prop where
 err : ∃ ev, W.cell? ⟨6, 0, none⟩ = some ev ∧ (ev = .nilIface ∨ ∃ te pe, ev = .iface te pe)
theorem Env.next {W W' : World} (h : Env W) (hb : Below W.heap.size W W') : Env W' := by
 obtain ⟨ev, h1, h2⟩ := h.err
 have hl : 6 < W.heap.size := Lib.lt_of_cell h1
 exact ⟨ev, (hb.cell (p := ⟨6, 0, none⟩) hl).trans h1, h2⟩
set_option maxRecDepth 100000 in
theorem atoi_ok (s : ByteArray) (hs : s.size ≤ 281474976710656) (n : Nat) (h0 : s.data.toList ≠ []) (hd : ∀ c ∈ s.data.toList, digB c = true) (hn : numN 0 s.data.toList = n) (hl : n < 9223372036854775808) (w : World) :
   Calls Tryz.prog 104 #[.string s] w (fun e w' => e = .returned (.tuple #[.int .i64 n, .nilIface]) ∧ Below w.heap.size w w') := by
 have ha := atoi_digits _ h0 hd
 rw [hn, if_pos hl] at ha
 refine (Any.strconv_Atoi_ok Tryz.laysC172 s (by omega) n ha w).mono ?_
 rintro e w' ⟨rfl, h⟩
 refine ⟨rfl, ?_⟩
 rcases h with rfl | ⟨t, rfl⟩
 · exact Below.refl _ _
 · exact Lib.bytesWorld_below w _ t
set_option maxRecDepth 100000 in
theorem atoi_far (s : ByteArray) (hs : s.size ≤ 281474976710656) (h0 : s.data.toList ≠ []) (hd : ∀ c ∈ s.data.toList, digB c = true) (hl : 9223372036854775808 ≤ numN 0 s.data.toList) (w : World) (hE : Env w) :
   Calls Tryz.prog 104 #[.string s] w (fun e w' => ∃ x te pe, e = .returned (.tuple #[.int .i64 x, .iface te pe]) ∧ Below w.heap.size w w') := by
 have ha := atoi_digits _ h0 hd
 rw [if_neg (by omega)] at ha
 obtain ⟨ev, h1, h2⟩ := hE.err
 refine (Any.strconv_Atoi_range Tryz.laysC172 s hs ha ev w h1 h2).mono ?_
 rintro e w' ⟨N, rfl, _, _, hb⟩
 exact ⟨_, _, _, rfl, hb⟩
end Go.Proofs.YtafmgoekgijfgaaGreatDoor
namespace Go.Proofs.YtafmgoekgijfgaaGreatDoor
open Go.RowKit Go.Lib

/-- Digits alone, no nought ahead of others. -/
def isNum (s : List UInt8) : Bool := !decide (s = [] ∨ (1 < s.length ∧ s.head? = some 48) ∨ s.all digB = false)
theorem isNum_zero : isNum [48] = true := by decide
theorem isNum_head {s : List UInt8} (h0 : s ≠ []) (h1 : s ≠ [48]) (h : s.head? = some 48) : isNum s = false := by
 have hl : 1 < s.length := by
   match s, h0, h1, h with
   | [c], _, h1, h => exact absurd (by simpa using h) (fun e => h1 (by rw [e]))
   | _ :: _ :: _, _, _, _ => simp
 unfold isNum
 rw [decide_eq_true (.inr (.inl ⟨hl, h⟩))]
 rfl
theorem isNum_else {s : List UInt8} (h0 : s ≠ []) (h : s.head? ≠ some 48) : isNum s = s.all digB := by
 unfold isNum
 cases hd : s.all digB
 · rw [decide_eq_true (.inr (.inr rfl))]; rfl
 · rw [decide_eq_false]
   · rfl
   · rintro (e | ⟨_, e⟩ | e)
     · exact h0 e
     · exact h e
     · exact Bool.noConfusion e
theorem isNum_yes {s : List UInt8} (h : isNum s = true) : s ≠ [] ∧ ∀ c ∈ s, digB c = true := by
 unfold isNum at h
 simp only [Bool.not_eq_true', decide_eq_false_iff_not, not_or] at h
 exact ⟨h.1, List.all_eq_true.1 (by simpa using h.2.2)⟩
theorem lenP_num (s : List UInt8) : lenP s = if isNum s = false then (2, bd0) else if 1024 < numN 0 s then (6, bd0) else (0, ⟨0, 1, numN 0 s⟩) := by
 unfold lenP isNum
 by_cases h : s = [] ∨ (1 < s.length ∧ s.head? = some 48) ∨ s.all digB = false
 · rw [if_pos h, decide_eq_true h]; rfl
 · rw [if_neg h, decide_eq_false h]; rfl
set_option maxRecDepth 100000 in
set_option maxHeartbeats 1000000 in
theorem isNumber_any (s : ByteArray) (w : World) : Calls Tryz.prog 180 #[.string s] w (fun e w' => e = .returned (.bool (isNum s.data.toList)) ∧ Below w.heap.size w w') := by
 by_cases h0 : s = ⟨#[]⟩
 · subst h0
   go_enter Tryz.func180, Tryz.ntmps180
   go_wp2_with fail
   go_ret
   exact ⟨rfl, Below.refl _ _⟩
 have he : (s.toList == ([] : List UInt8)) = false := by
   have := eqs_false h0
   rwa [show (⟨#[]⟩ : ByteArray).toList = [] from by rw [ByteArray.toList_eq]] at this
 have LC := hideL (hasNoDig_any s)
 have LP := hideL (hasPre_any s ⟨#[48]⟩)
 have h0' : s.data.toList ≠ [] := fun e => h0 (bytes_ext e)
 by_cases h1 : s = ⟨#[48]⟩
 · subst h1
   have hd : (!((⟨#[48]⟩ : ByteArray).data.toList.all digB)) = false := by decide
   rw [hd] at LC
   rw [show isNum (⟨#[48]⟩ : ByteArray).data.toList = true from isNum_zero]
   clear h0 h0' hd he LP
   go_enter Tryz.func180, Tryz.ntmps180
   go_wp2_with (first
     | (go_at_call 75; refine (LC.out _).mono ?_; rintro e w2 ⟨rfl, hB2⟩))
   go_ret
   exact ⟨rfl, hB2⟩
 have hx : (s.toList == [48]) = false := by
   have := eqs_false h1
   rwa [show (⟨#[48]⟩ : ByteArray).toList = [48] from by rw [ByteArray.toList_eq]] at this
 have h1' : s.data.toList ≠ [48] := fun e => h1 (bytes_ext e)
 have hpo := pre_one 48 s.data.toList
 by_cases hh : s.data.toList.head? = some 48
 · rw [isNum_head h0' h1' hh]
   rw [decide_eq_true hh] at hpo
   have LP2 : HidL (∀ w : World, Calls Tryz.prog 100 #[.string s, .string ⟨#[48]⟩] w (fun e w' => e = .returned (.bool true) ∧ w' = w)) := ⟨fun w => by have h := LP.out w; rwa [show decide ((⟨#[48]⟩ : ByteArray).data.toList <+: s.data.toList) = true from hpo] at h⟩
   clear hh hpo h1' h1 h0' h0 LP LC
   go_enter Tryz.func180, Tryz.ntmps180
   go_wp2_with (first
     | (go_at_call 100; refine (LP2.out _).mono ?_; rintro e w2 ⟨rfl, rfl⟩))
   go_ret
   exact ⟨rfl, Below.refl _ _⟩
 · rw [isNum_else h0' hh]
   rw [decide_eq_false hh] at hpo
   have LP2 : HidL (∀ w : World, Calls Tryz.prog 100 #[.string s, .string ⟨#[48]⟩] w (fun e w' => e = .returned (.bool false) ∧ w' = w)) := ⟨fun w => by have h := LP.out w; rwa [show decide ((⟨#[48]⟩ : ByteArray).data.toList <+: s.data.toList) = false from hpo] at h⟩
   generalize s.data.toList.all digB = D at *
   clear hh hpo h1' h1 h0' h0 LP
   go_enter Tryz.func180, Tryz.ntmps180
   go_wp2_with (first
     | (go_at_call 100; refine (LP2.out _).mono ?_; rintro e w2 ⟨rfl, rfl⟩)
     | (go_at_call 75; refine (LC.out _).mono ?_; rintro e w3 ⟨rfl, hB3⟩))
   go_ret
   exact ⟨rfl, hB3⟩

/-- A body's end as a value, in a box. -/
def bdV (b : Bd) : Value := .agg #[.int .i64 b.chunked, .int .i64 b.has, .int .i64 b.len]
def frA (r : Nat × Bd) : Value := .tuple #[bdV r.2, .int .i64 r.1]
def BBox (W : World) (g : Nat) (a b c : Int) : Prop := W.heap[g]? = some (.cells #[.int .i64 a, .int .i64 b, .int .i64 c] 79 (0, 0))
theorem BBox.c0 {W : World} {g : Nat} {a b c : Int} (h : BBox W g a b c) : W.cell? ⟨g, 0, none⟩ = some (.int .i64 a) := (cell_of_row W g 0 _ _ _ h).trans rfl
theorem BBox.c1 {W : World} {g : Nat} {a b c : Int} (h : BBox W g a b c) : W.cell? ⟨g, 1, none⟩ = some (.int .i64 b) := (cell_of_row W g 1 _ _ _ h).trans rfl
theorem BBox.c2 {W : World} {g : Nat} {a b c : Int} (h : BBox W g a b c) : W.cell? ⟨g, 2, none⟩ = some (.int .i64 c) := (cell_of_row W g 2 _ _ _ h).trans rfl
theorem BBox.lt {W : World} {g : Nat} {a b c : Int} (h : BBox W g a b c) : g < W.heap.size := (Array.getElem?_eq_some_iff.1 h).1
theorem BBox.new (w : World) (a b c : Int) : BBox (w.alloc (.cells #[.int .i64 a, .int .i64 b, .int .i64 c] 79)) w.heap.size a b c := heap_alloc_new w _
theorem BBox.next {W W' : World} {g : Nat} {a b c : Int} (h : BBox W g a b c) (hb : Below W.heap.size W W') : BBox W' g a b c := (hb.block g h.lt).trans h
theorem BBox.nextB {W W' : World} {g B : Nat} {a b c : Int} (h : BBox W g a b c) (hb : Below B W W') (hg : g < B) : BBox W' g a b c := (hb.block g hg).trans h
theorem BBox.drew {W : World} {g : Nat} {a b c : Int} (h : BBox W g a b c) : BBox W.drew g a b c := h
theorem BBox.frozen {W : World} {g : Nat} {a b c : Int} (h : BBox W g a b c) (i : Nat) : W.frozen? ⟨g, i, none⟩ = false := frozen_of_row W g i _ _ h
theorem BBox.st {W : World} {g : Nat} {a b c : Int} (h : BBox W g a b c) (x y z : Int) : BBox (((W.setCell ⟨g, 0, none⟩ (.int .i64 x)).setCell ⟨g, 1, none⟩ (.int .i64 y)).setCell ⟨g, 2, none⟩ (.int .i64 z)) g x y z := by
 have h1 := heap_setCell_same W g 0 _ _ (.int .i64 x) h
 have h2 := heap_setCell_same _ g 1 _ _ (.int .i64 y) h1
 exact heap_setCell_same _ g 2 _ _ (.int .i64 z) h2
theorem below_st {B : Nat} {a W : World} (h : Below B a W) {g : Nat} (hg : B ≤ g) (x y z : Value) : Below B a (((W.setCell ⟨g, 0, none⟩ x).setCell ⟨g, 1, none⟩ y).setCell ⟨g, 2, none⟩ z) :=
 ((h.setCell (p := ⟨g, 0, none⟩) hg x).setCell (p := ⟨g, 1, none⟩) hg y).setCell (p := ⟨g, 2, none⟩) hg z
set_option maxRecDepth 100000 in
set_option maxHeartbeats 1000000 in
theorem byLength_any (s : ByteArray) (hs : s.size ≤ 1000000) (w : World) (hE : Env w) : Calls Tryz.prog 133 #[.string s] w (fun e w' => e = .returned (frA (lenP s.data.toList)) ∧ Below w.heap.size w w') := by
 have HB0 := hideL ((Below.refl w.heap.size w).alloc (Nat.le_refl _) (.cells #[.int .i64 0, .int .i64 0, .int .i64 0] 79))
 have HX := hideL (BBox.new w 0 0 0)
 have HE := hideL (hE.next HB0.out)
 have LN := hideL (isNumber_any s)
 rw [lenP_num]
 obtain ⟨y, hy⟩ : ∃ y, isNum s.data.toList = y := ⟨_, rfl⟩
 rw [hy] at LN ⊢
 clear hE
 cases y
 · rw [if_pos rfl]
   clear hy
   go_enter Tryz.func133, Tryz.ntmps133
   go_wp2_with (first
     | (go_at_call 180; refine (LN.out _).mono ?_; rintro e w1 ⟨rfl, hB1⟩
        have HX1 := hideL (HX.out.next hB1)
        have HB1 := hideL (HB0.out.trans (hB1.mono HB0.out.size))
        have f0 := HX1.out.frozen 0
        have f1 := HX1.out.frozen 1
        have f2 := HX1.out.frozen 2
        have c0 := HX1.out.c0
        have c1 := HX1.out.c1
        have c2 := HX1.out.c2
        have HE1 := hideL (HE.out.next hB1)
        clear hB1))
   have HXF := hideL (HX1.out.st 0 0 0)
   have HBF := hideL (below_st HB1.out (g := w.heap.size) (Nat.le_refl _) (.int .i64 0) (.int .i64 0) (.int .i64 0))
   clear f0 f1 f2 c0 c1 c2 HE1 LN HX HE
   generalize World.setCell (World.setCell (World.setCell w1 ⟨w.heap.size, 0, none⟩ (.int .i64 0)) ⟨w.heap.size, 1, none⟩ (.int .i64 0)) ⟨w.heap.size, 2, none⟩ (.int .i64 0) = WF at *
   have r0 := HXF.out.c0
   have r1 := HXF.out.c1
   have r2 := HXF.out.c2
   exact bodyPost_ret (v := frA (2, bd0)) (by simp [results, Tryz.results133, go_sem, r0, r1, r2]; rfl) rfl ⟨rfl, HBF.out⟩
 · rw [if_neg (by decide)]
   obtain ⟨h0, hd⟩ := isNum_yes hy
   obtain ⟨n, hn⟩ : ∃ n, numN 0 s.data.toList = n := ⟨_, rfl⟩
   rw [hn]
   by_cases hbig : n < 9223372036854775808
   · have LA := hideL (fun W => atoi_ok s (by omega) n h0 hd hn hbig W)
     by_cases hk : 1024 < n
     · rw [if_pos hk]
       have hk' : (1024 : Int) < (n : Int) := by omega
       clear hy h0 hd hn
       go_enter Tryz.func133, Tryz.ntmps133
       go_wp2_with (first
     | (go_at_call 180; refine (LN.out _).mono ?_; rintro e w1 ⟨rfl, hB1⟩
        have HX1 := hideL (HX.out.next hB1)
        have HB1 := hideL (HB0.out.trans (hB1.mono HB0.out.size))
        have f0 := HX1.out.frozen 0
        have f1 := HX1.out.frozen 1
        have f2 := HX1.out.frozen 2
        have c0 := HX1.out.c0
        have c1 := HX1.out.c1
        have c2 := HX1.out.c2
        have HE1 := hideL (HE.out.next hB1)
        clear hB1)
     | (go_at_call 104; refine (LA.out _).mono ?_; rintro e w2 ⟨rfl, hB2⟩
        have HX2 := hideL (HX1.out.next hB2)
        have HB2 := hideL (HB1.out.trans (hB2.mono HB1.out.size))
        have g0 := HX2.out.frozen 0
        have g1 := HX2.out.frozen 1
        have g2 := HX2.out.frozen 2
        have d0 := HX2.out.c0
        have d1 := HX2.out.c1
        have d2 := HX2.out.c2
        clear hB2))
       have HXF := hideL (HX2.out.st 0 0 0)
       have HBF := hideL (below_st HB2.out (g := w.heap.size) (Nat.le_refl _) (.int .i64 0) (.int .i64 0) (.int .i64 0))
       clear f0 f1 f2 c0 c1 c2 g0 g1 g2 d0 d1 d2 HE1 LN HX HE LA
       generalize World.setCell (World.setCell (World.setCell w2 ⟨w.heap.size, 0, none⟩ (.int .i64 0)) ⟨w.heap.size, 1, none⟩ (.int .i64 0)) ⟨w.heap.size, 2, none⟩ (.int .i64 0) = WF at *
       have r0 := HXF.out.c0
       have r1 := HXF.out.c1
       have r2 := HXF.out.c2
       exact bodyPost_ret (v := frA (6, bd0)) (by simp [results, Tryz.results133, go_sem, r0, r1, r2]; rfl) rfl ⟨rfl, HBF.out⟩
     · rw [if_neg hk]
       have hk' : ¬ (1024 : Int) < (n : Int) := by omega
       clear hy h0 hd hn
       go_enter Tryz.func133, Tryz.ntmps133
       go_wp2_with (first
     | (go_at_call 180; refine (LN.out _).mono ?_; rintro e w1 ⟨rfl, hB1⟩
        have HX1 := hideL (HX.out.next hB1)
        have HB1 := hideL (HB0.out.trans (hB1.mono HB0.out.size))
        have f0 := HX1.out.frozen 0
        have f1 := HX1.out.frozen 1
        have f2 := HX1.out.frozen 2
        have c0 := HX1.out.c0
        have c1 := HX1.out.c1
        have c2 := HX1.out.c2
        have HE1 := hideL (HE.out.next hB1)
        clear hB1)
     | (go_at_call 104; refine (LA.out _).mono ?_; rintro e w2 ⟨rfl, hB2⟩
        have HX2 := hideL (HX1.out.next hB2)
        have HB2 := hideL (HB1.out.trans (hB2.mono HB1.out.size))
        have g0 := HX2.out.frozen 0
        have g1 := HX2.out.frozen 1
        have g2 := HX2.out.frozen 2
        have d0 := HX2.out.c0
        have d1 := HX2.out.c1
        have d2 := HX2.out.c2
        clear hB2))
       have HXF := hideL (HX2.out.st 0 1 (n : Int))
       have HBF := hideL (below_st HB2.out (g := w.heap.size) (Nat.le_refl _) (.int .i64 0) (.int .i64 1) (.int .i64 (n : Int)))
       clear f0 f1 f2 c0 c1 c2 g0 g1 g2 d0 d1 d2 HE1 LN HX HE LA
       generalize World.setCell (World.setCell (World.setCell w2 ⟨w.heap.size, 0, none⟩ (.int .i64 0)) ⟨w.heap.size, 1, none⟩ (.int .i64 1)) ⟨w.heap.size, 2, none⟩ (.int .i64 (n : Int)) = WF at *
       have r0 := HXF.out.c0
       have r1 := HXF.out.c1
       have r2 := HXF.out.c2
       exact bodyPost_ret (v := frA (0, ⟨0, 1, n⟩)) (by simp [results, Tryz.results133, go_sem, r0, r1, r2]; rfl) rfl ⟨rfl, HBF.out⟩
   · have LA := hideL (fun W (hE : Env W) => atoi_far s (by omega) h0 hd (by omega) W hE)
     rw [if_pos (by omega)]
     clear hy h0 hd hn
     go_enter Tryz.func133, Tryz.ntmps133
     go_wp2_with (first
     | (go_at_call 180; refine (LN.out _).mono ?_; rintro e w1 ⟨rfl, hB1⟩
        have HX1 := hideL (HX.out.next hB1)
        have HB1 := hideL (HB0.out.trans (hB1.mono HB0.out.size))
        have f0 := HX1.out.frozen 0
        have f1 := HX1.out.frozen 1
        have f2 := HX1.out.frozen 2
        have c0 := HX1.out.c0
        have c1 := HX1.out.c1
        have c2 := HX1.out.c2
        have HE1 := hideL (HE.out.next hB1)
        clear hB1)
     | (go_at_call 104; refine (LA.out _ HE1.out).mono ?_; rintro e w2 ⟨x, te, pe, rfl, hB2⟩
        have HX2 := hideL (HX1.out.next hB2)
        have HB2 := hideL (HB1.out.trans (hB2.mono HB1.out.size))
        have g0 := HX2.out.frozen 0
        have g1 := HX2.out.frozen 1
        have g2 := HX2.out.frozen 2
        have d0 := HX2.out.c0
        have d1 := HX2.out.c1
        have d2 := HX2.out.c2
        clear hB2))
     have HXF := hideL (HX2.out.st 0 0 0)
     have HBF := hideL (below_st HB2.out (g := w.heap.size) (Nat.le_refl _) (.int .i64 0) (.int .i64 0) (.int .i64 0))
     clear f0 f1 f2 c0 c1 c2 g0 g1 g2 d0 d1 d2 HE1 LN HX HE LA
     generalize World.setCell (World.setCell (World.setCell w2 ⟨w.heap.size, 0, none⟩ (.int .i64 0)) ⟨w.heap.size, 1, none⟩ (.int .i64 0)) ⟨w.heap.size, 2, none⟩ (.int .i64 0) = WF at *
     have r0 := HXF.out.c0
     have r1 := HXF.out.c1
     have r2 := HXF.out.c2
     exact bodyPost_ret (v := frA (6, bd0)) (by simp [results, Tryz.results133, go_sem, r0, r1, r2]; rfl) rfl ⟨rfl, HBF.out⟩
end Go.Proofs.YtafmgoekgijfgaaGreatDoor
namespace Go.Proofs.YtafmgoekgijfgaaGreatDoor
open Go.RowKit Go.Lib

end Go.Proofs.YtafmgoekgijfgaaGreatDoor
namespace Go.Proofs.YtafmgoekgijfgaaGreatDoor
open Go.RowKit Go.Lib

end Go.Proofs.YtafmgoekgijfgaaGreatDoor
namespace Go.Proofs.YtafmgoekgijfgaaGreatDoor
open Go.RowKit Go.Lib

/-- The library's error variable, whatever it holds. -/
structure EnvS (W : World) : Prop where
 err : ∃ ev, W.cell? ⟨5, 0, none⟩ = some ev ∧ (ev = .nilIface ∨ ∃ te pe, ev = .iface te pe)
theorem EnvS.next {W W' : World} (h : EnvS W) (hb : Below W.heap.size W W') : EnvS W' := by
 obtain ⟨ev, h1, h2⟩ := h.err
 have hl : 5 < W.heap.size := Lib.lt_of_cell h1
 exact ⟨ev, (hb.cell (p := ⟨5, 0, none⟩) hl).trans h1, h2⟩

def lowN (n : Nat) : Nat := n ||| 32
theorem bits_low : ∀ n : Nat, n < 256 → bits .or .u8 (n : Int) 32 = ((lowN n : Nat) : Int) := by decide +kernel
theorem low_lt : ∀ n : Nat, n < 256 → lowN n < 256 := by decide +kernel
set_option maxRecDepth 100000 in
theorem lower_any (n : Nat) (hn : n < 256) (w : World) : Calls Tryz.prog 191 #[.int .u8 n] w (fun e w' => e = .returned (.int .u8 (lowN n)) ∧ w' = w) := by
 rw [← bits_low n hn]
 go_enter Tryz.func191, Tryz.ntmps191
 go_wp2
 go_ret
 exact ⟨rfl, rfl⟩
/-- What a letter is to the library's loop: a digit below 16; a digit above; none. -/
def hexN (n : Nat) : Option Nat := if 48 ≤ n ∧ n ≤ 57 then some (n - 48) else if 97 ≤ lowN n ∧ lowN n ≤ 102 then some (lowN n - 87) else none
theorem hexN_eq : ∀ n : Nat, n < 256 → hexN n = if 48 ≤ n ∧ n ≤ 57 then some (n - 48) else if 65 ≤ n ∧ n ≤ 70 then some (n - 55) else if 97 ≤ n ∧ n ≤ 102 then some (n - 87) else none := by decide +kernel
theorem hexN_hexV (c : UInt8) : hexN c.toNat = hexV c := hexN_eq _ c.toNat_lt
end Go.Proofs.YtafmgoekgijfgaaGreatDoor
namespace Go.Proofs.YtafmgoekgijfgaaGreatDoor
open Go.RowKit Go.Lib

end Go.Proofs.YtafmgoekgijfgaaGreatDoor
namespace Go.Proofs.YtafmgoekgijfgaaGreatDoor
end Go.Proofs.YtafmgoekgijfgaaGreatDoor
namespace Go.Proofs.YtafmgoekgijfgaaGreatDoor
open Go.RowKit Go.Shelf

attribute [local go_sem] Oper.semAt_some

end Go.Proofs.YtafmgoekgijfgaaGreatDoor
namespace Go.Proofs.YtafmgoekgijfgaaGreatDoor
open Go.RowKit Go.Shelf

attribute [local go_sem] Oper.semAt_some

/-- A row of the call's own, or what is left of one behind a cut: full to its end. -/
def LRow (W : World) (B : Nat) (v : Value) (l : List ByteArray) : Prop := GRow KS W B v l ∨ ∃ g c, v = .slice (some ⟨g, 0, none⟩) l.length l.length ∧ GRow KS W B (.slice (some ⟨g, 0, none⟩) l.length c) l
theorem LRow.nil (W : World) (B : Nat) : LRow W B (.slice none 0 0) [] := .inl (GRow.nil W B)
theorem LRow.kept {W W' : World} {B : Nat} {v : Value} {l : List ByteArray} {row : Option Nat} (h : LRow W B v l) (hg : W.grownBy W' row) (hr : ∀ r, row = some r → v.ownBlock ≠ some r) : LRow W' B v l := by
 rcases h with h | ⟨g, c, rfl, h⟩
 · refine .inl (World.ownsRow.kept h hg ?_)
   cases hv : v.ownBlock with
   | none => exact .inl rfl
   | some k => exact .inr (fun e => hr k e.symm hv)
 · exact .inr ⟨g, c, rfl, World.ownsRow.kept h hg (.inr (fun e => hr g e.symm rfl))⟩
theorem LRow.cells {W : World} {B : Nat} {v : Value} {l : List ByteArray} (h : LRow W B v l) {k : Nat} (hk : v.ownBlock = some k) : B ≤ k ∧ k < W.heap.size ∧ ∃ cs, W.heap[k]? = some (.cells cs 9 (0, 0)) := by
 rcases h with h | ⟨g, c, rfl, h⟩
 · rcases h.block with ⟨rfl, _⟩ | ⟨g, c, cs, rfl, h1, h2, _⟩
   · cases hk
   · cases hk
     exact ⟨h1, (Array.getElem?_eq_some_iff.1 h2).1, cs, h2⟩
 · cases hk
   rcases h.block with ⟨h1, _⟩ | ⟨g', c', cs, h0, h1, h2, _⟩
   · cases h1
   · injection h0 with h0
     injection h0 with h0
     injection h0 with h0
     subst h0
     exact ⟨h1, (Array.getElem?_eq_some_iff.1 h2).1, cs, h2⟩
theorem LRow.far {W W' : World} {B : Nat} {v : Value} {l : List ByteArray} {row : Option Nat} (h : LRow W B v l) (hg : W.grownBy W' row) (hr : ∀ r, row = some r → ∃ o : Obj, W.heap[r]? = some o ∧ o.isCells = false) : LRow W' B v l :=
 h.kept hg (fun r e hv => by
   obtain ⟨_, _, cs, hc⟩ := h.cells hv
   obtain ⟨o, ho, hn⟩ := hr r e
   rw [hc] at ho
   cases ho
   cases hn)
theorem LRow.alloc {W : World} {B : Nat} {v : Value} {l : List ByteArray} (h : LRow W B v l) (o : Obj) : LRow (W.alloc o) B v l := h.kept (World.grownBy_alloc W o none) (fun r e => by cases e)
theorem LRow.gAt {W : World} {B : Nat} {v : Value} {l : List ByteArray} (h : LRow W B v l) : GAt KS W v l := by
 rcases h with h | ⟨g, c, rfl, h⟩
 · exact h.gAt
 · obtain ⟨ao, cap, e, h1, h2, h3⟩ := h.gAt
   injection e with e1 e2 e3
   subst e1
   exact ⟨_, l.length, rfl, Nat.le_refl _, (fun e => by cases e), h3⟩
theorem LRow.len {W : World} {B : Nat} {v : Value} {l : List ByteArray} (h : LRow W B v l) : ∃ ao cap, v = .slice ao l.length cap := h.gAt.len
theorem LRow.cut {W : World} {B : Nat} {v : Value} {l : List ByteArray} (h : LRow W B v l) (h0 : l ≠ []) : ∃ g n c, v = .slice (some ⟨g, 0, none⟩) (n + 1) c ∧ n + 1 = l.length ∧ n + 1 ≤ c ∧ LRow W B (.slice (some ⟨g, 0, none⟩) n n) l.dropLast := by
 have hl : 0 < l.length := List.length_pos_iff.2 h0
 have hd : l.dropLast = l.take (l.length - 1) := List.dropLast_eq_take
 have hdl : l.dropLast.length = l.length - 1 := List.length_dropLast
 rcases h with h | ⟨g, c, rfl, h⟩
 · rcases h.own with ⟨_, e⟩ | ⟨g, c, rfl⟩
   · exact absurd e h0
   · have ht := GRow.take h (l.length - 1) (by omega) hl
     refine ⟨g, l.length - 1, c, by rw [show l.length - 1 + 1 = l.length by omega], by omega, by have := h.le; omega, .inr ⟨g, c, by rw [hdl], ?_⟩⟩
     rw [hdl, hd]
     exact ht
 · have ht := GRow.take h (l.length - 1) (by omega) hl
   refine ⟨g, l.length - 1, l.length, by rw [show l.length - 1 + 1 = l.length by omega], by omega, by omega, .inr ⟨g, c, by rw [hdl], ?_⟩⟩
   rw [hdl, hd]
   exact ht
end Go.Proofs.YtafmgoekgijfgaaGreatDoor
namespace Go.Proofs.YtafmgoekgijfgaaGreatDoor
open Go.RowKit

/-- A slice's three words. -/
structure Sl where
 a : Option Addr
 n : Nat
 c : Nat
def Sl.v (s : Sl) : Value := .slice s.a s.n s.c
/-- A message's cells: its line, its headers, its body. -/
structure RV where
 s : ByteArray
 h : Sl
 b : Sl
def rv0 : RV := ⟨ByteArray.empty, ⟨none, 0, 0⟩, ⟨none, 0, 0⟩⟩
def RV.cells (r : RV) : List Value := [.string r.s, r.h.v, r.b.v]
def KR (t : TypeId) : Kd RV where
 t := t
 s := 3
 dft := rv0
 cells := RV.cells
 len := fun _ => rfl
 pos := by decide
 one := by intro a v hv; simp [RV.cells, Sl.v] at hv; rcases hv with rfl | rfl | rfl <;> rfl
/-- The cells r read as the message x. -/
def RawAt (w : World) (r : RV) (x : Rw) : Prop := r.s.data.toList = x.start ∧ GAt KH w r.h.v x.heads ∧ GAt KB w r.b.v x.body
/-- They do not lie in F. -/
def RawOff (F : Nat → Prop) (r : RV) : Prop := Off F r.h.v ∧ Off F r.b.v
theorem RawAt.keep {F : Nat → Prop} {w w' : World} {r : RV} {x : Rw} (h : RawAt w r x) (hk : Keep F w w') (hf : RawOff F r) : RawAt w' r x :=
 ⟨h.1, h.2.1.keep hk hf.1, h.2.2.keep hk hf.2⟩
theorem RawAt.below {w w' : World} {r : RV} {x : Rw} (h : RawAt w r x) (hb : Below w.heap.size w w') : RawAt w' r x :=
 ⟨h.1, h.2.1.below hb, h.2.2.below hb⟩
theorem RawAt.zero (w : World) : RawAt w rv0 ⟨[], [], []⟩ := ⟨rfl, GAt.nil w, GAt.nil w⟩
/-- Messages, thing by thing. -/
def RawsOf (w : World) (l : List RV) (xs : List Rw) : Prop := l.length = xs.length ∧ ∀ i (h : i < l.length) (h' : i < xs.length), RawAt w l[i] xs[i]
theorem RawsOf.nil (w : World) : RawsOf w [] [] := ⟨rfl, fun i h => by cases h⟩
theorem RawsOf.keep {F : Nat → Prop} {w w' : World} {l : List RV} {xs : List Rw} (h : RawsOf w l xs) (hk : Keep F w w') (hf : ∀ r ∈ l, RawOff F r) : RawsOf w' l xs :=
 ⟨h.1, fun i h1 h2 => (h.2 i h1 h2).keep hk (hf _ (List.getElem_mem h1))⟩
theorem RawsOf.below {w w' : World} {l : List RV} {xs : List Rw} (h : RawsOf w l xs) (hb : Below w.heap.size w w') : RawsOf w' l xs :=
 ⟨h.1, fun i h1 h2 => (h.2 i h1 h2).below hb⟩
theorem RawsOf.append {w : World} {l m : List RV} {xs ys : List Rw} (h : RawsOf w l xs) (k : RawsOf w m ys) : RawsOf w (l ++ m) (xs ++ ys) := by
 have hl := h.1
 refine ⟨by simp [h.1, k.1], fun i h1 h2 => ?_⟩
 rw [List.getElem_append, List.getElem_append]
 by_cases hi : i < l.length
 · rw [dif_pos hi, dif_pos (by omega)]
   exact h.2 i hi (by omega)
 · rw [dif_neg hi, dif_neg (by omega)]
   simp only [← hl]
   rw [List.length_append] at h1 h2
   exact k.2 (i - l.length) (by omega) (by omega)
theorem RawsOf.one {w : World} {r : RV} {x : Rw} (h : RawAt w r x) : RawsOf w [r] [x] := by
 refine ⟨rfl, fun i h1 h2 => ?_⟩
 have : i = 0 := by simp at h1; omega
 subst this
 exact h
theorem RawsOf.get {w : World} {l : List RV} {xs : List Rw} (h : RawsOf w l xs) {i : Nat} (hi : i < l.length) : RawAt w (l.getD i rv0) (xs.getD i ⟨[], [], []⟩) := by
 have h' : i < xs.length := by rw [← h.1]; exact hi
 have := h.2 i hi h'
 simpa [List.getD, hi, h'] using this
/-- v reads as the messages xs. -/
def RawsAt (t : TypeId) (w : World) (v : Value) (xs : List Rw) : Prop := ∃ l, GAt (KR t) w v l ∧ RawsOf w l xs
theorem RawsAt.nil (t : TypeId) (w : World) : RawsAt t w (.slice none 0 0) [] := ⟨[], GAt.nil w, RawsOf.nil w⟩
theorem RawsAt.below {t : TypeId} {w w' : World} {v : Value} {xs : List Rw} (h : RawsAt t w v xs) (hb : Below w.heap.size w w') : RawsAt t w' v xs := by
 obtain ⟨l, h1, h2⟩ := h
 exact ⟨l, h1.below hb, h2.below hb⟩
theorem RawsAt.len {t : TypeId} {w : World} {v : Value} {xs : List Rw} (h : RawsAt t w v xs) : ∃ ao cap, v = .slice ao xs.length cap := by
 obtain ⟨l, h1, h2⟩ := h
 obtain ⟨ao, cap, e⟩ := h1.len
 exact ⟨ao, cap, by rw [e, h2.1]⟩
/-- Where the k-th message lies. -/
theorem RawsAt.at {t : TypeId} {w : World} {ao : Option Addr} {n cap : Nat} {xs : List Rw} (h : RawsAt t w (.slice ao n cap) xs) {k : Nat} (hk : k < n) : ∃ b o r, ao = some ⟨b, o, none⟩ ∧ b < w.heap.size ∧
   w.cell? ⟨b, o + k * 3, none⟩ = some (.string r.s) ∧ w.cell? ⟨b, o + k * 3 + 1, none⟩ = some r.h.v ∧ w.cell? ⟨b, o + k * 3 + 2, none⟩ = some r.b.v ∧ RawAt w r (xs.getD k ⟨[], [], []⟩) := by
 obtain ⟨l, h1, h2⟩ := h
 obtain ⟨b, o, e, hb, hc⟩ := h1.at hk
 have hl := h1.le.1
 refine ⟨b, o, l.getD k rv0, e, hb, ?_, ?_, ?_, h2.get (by omega)⟩
 · exact hc 0 (show 0 < 3 by decide)
 · exact hc 1 (show 1 < 3 by decide)
 · exact hc 2 (show 2 < 3 by decide)
/-- Its blocks are there. -/
def RawLt (w : World) (r : RV) : Prop := (∀ k, r.h.v.ownBlock = some k → k < w.heap.size) ∧ (∀ k, r.b.v.ownBlock = some k → k < w.heap.size)
theorem RawLt.mono {w w' : World} {r : RV} (h : RawLt w r) (hs : w.heap.size ≤ w'.heap.size) : RawLt w' r :=
 ⟨fun k e => Nat.lt_of_lt_of_le (h.1 k e) hs, fun k e => Nat.lt_of_lt_of_le (h.2 k e) hs⟩
/-- The block of a slice. -/
def ownF (v : Value) (k : Nat) : Prop := v.ownBlock = some k
/-- A row of the call's own with the messages xs, of which none lies in the row's own block. -/
def RawsRow (t : TypeId) (w : World) (B : Nat) (v : Value) (xs : List Rw) : Prop := ∃ l, GRow (KR t) w B v l ∧ RawsOf w l xs ∧ ∀ r ∈ l, RawLt w r ∧ RawOff (ownF v) r
theorem RawsRow.nil (t : TypeId) (w : World) (B : Nat) : RawsRow t w B (.slice none 0 0) [] := ⟨[], GRow.nil w B, RawsOf.nil w, fun r h => by cases h⟩
theorem RawsRow.at {t : TypeId} {w : World} {B : Nat} {v : Value} {xs : List Rw} (h : RawsRow t w B v xs) : RawsAt t w v xs := by
 obtain ⟨l, h1, h2, _⟩ := h
 exact ⟨l, h1.gAt, h2⟩
theorem RawsRow.below {t : TypeId} {w w' : World} {B : Nat} {v : Value} {xs : List Rw} (h : RawsRow t w B v xs) (hb : Below w.heap.size w w') : RawsRow t w' B v xs := by
 obtain ⟨l, h1, h2, h3⟩ := h
 exact ⟨l, h1.below hb, h2.below hb, fun r hr => ⟨(h3 r hr).1.mono hb.size, (h3 r hr).2⟩⟩
theorem RawsRow.keep {F : Nat → Prop} {t : TypeId} {w w' : World} {B : Nat} {v : Value} {xs : List Rw} (h : RawsRow t w B v xs) (hk : Keep F w w') (hf : Off F v) (hr : ∀ k, F k → ∀ l, GRow (KR t) w B v l → ∀ r ∈ l, ¬ ownF r.h.v k ∧ ¬ ownF r.b.v k) : RawsRow t w' B v xs := by
 obtain ⟨l, h1, h2, h3⟩ := h
 exact ⟨l, h1.keep hk hf, h2.keep hk (fun r hm => ⟨fun k e hF => (hr k hF l h1 r hm).1 e, fun k e hF => (hr k hF l h1 r hm).2 e⟩), fun r hm => ⟨(h3 r hm).1.mono hk.size, (h3 r hm).2⟩⟩
end Go.Proofs.YtafmgoekgijfgaaGreatDoor
namespace Go.Proofs.YtafmgoekgijfgaaGreatDoor

/-- Two slices do not share their block. -/
def Dis (u v : Value) : Prop := ∀ k, u.ownBlock = some k → v.ownBlock ≠ some k
theorem Dis.symm {u v : Value} (h : Dis u v) : Dis v u := fun k h1 h2 => h k h2 h1
/-- Blocks from B on, none of them g, none twice. -/
def Ap (B : Nat) (W : World) (g : Nat) (l : List Value) : Prop := l.Pairwise Dis ∧ ∀ v ∈ l, ∀ k, v.ownBlock = some k → B ≤ k ∧ k < W.heap.size ∧ k ≠ g
variable {B g : Nat} {W W' : World} {l m : List Value}
theorem Ap.mono (h : Ap B W g l) (hs : W.heap.size ≤ W'.heap.size) : Ap B W' g l :=
 ⟨h.1, fun v hv k hk => by obtain ⟨h1, h2, h3⟩ := h.2 v hv k hk; exact ⟨h1, Nat.lt_of_lt_of_le h2 hs, h3⟩⟩
theorem Ap.perm (h : Ap B W g l) (hp : l.Perm m) : Ap B W g m :=
 ⟨(hp.pairwise_iff (fun h => Dis.symm h)).1 h.1, fun v hv => h.2 v (hp.mem_iff.2 hv)⟩
theorem Ap.head {u : Value} (h : Ap B W g (u :: l)) : ∀ k, u.ownBlock = some k → B ≤ k ∧ k < W.heap.size ∧ k ≠ g := h.2 u (List.mem_cons_self ..)
theorem Ap.tail {u : Value} (h : Ap B W g (u :: l)) : Ap B W g l := ⟨(List.pairwise_cons.1 h.1).2, fun v hv => h.2 v (List.mem_cons_of_mem _ hv)⟩
theorem Ap.off {u : Value} (h : Ap B W g (u :: l)) : ∀ v ∈ l, Off (fun k => u.ownBlock = some k) v := fun v hv k hk hu => (List.pairwise_cons.1 h.1).1 v hv k hu hk
theorem Ap.offg (h : Ap B W g l) : ∀ v ∈ l, Off (fun k => k = g) v := fun v hv k hk hu => (h.2 v hv k hk).2.2 hu
theorem Ap.lt (h : Ap B W g l) {v : Value} (hv : v ∈ l) {k : Nat} (hk : v.ownBlock = some k) : k < W.heap.size := (h.2 v hv k hk).2.1
theorem Ap.ge (h : Ap B W g l) {v : Value} (hv : v ∈ l) {k : Nat} (hk : v.ownBlock = some k) : B ≤ k := (h.2 v hv k hk).1
/-- The first one's place is taken by one of the same block, or of a new one. -/
theorem Ap.put {u u' : Value} (h : Ap B W g (u :: l)) (hs : W.heap.size ≤ W'.heap.size) (hg : g < W.heap.size) (hB : B ≤ W.heap.size)
   (hu : ∀ k, u'.ownBlock = some k → u.ownBlock = some k ∨ (W.heap.size ≤ k ∧ k < W'.heap.size)) : Ap B W' g (u' :: l) := by
 obtain ⟨p1, p2⟩ := List.pairwise_cons.1 h.1
 refine ⟨List.pairwise_cons.2 ⟨fun v hv k hk hk' => ?_, p2⟩, fun v hv k hk => ?_⟩
 · rcases hu k hk with hk2 | ⟨hk2, _⟩
   · exact p1 v hv k hk2 hk'
   · have := (h.2 v (List.mem_cons_of_mem _ hv) k hk').2.1
     omega
 · rcases List.mem_cons.1 hv with rfl | hv
   · rcases hu k hk with hk2 | ⟨hk2, hk3⟩
     · obtain ⟨h1, h2, h3⟩ := h.2 u (List.mem_cons_self ..) k hk2
       exact ⟨h1, Nat.lt_of_lt_of_le h2 hs, h3⟩
     · exact ⟨by omega, hk3, by omega⟩
   · obtain ⟨h1, h2, h3⟩ := h.2 v (List.mem_cons_of_mem _ hv) k hk
     exact ⟨h1, Nat.lt_of_lt_of_le h2 hs, h3⟩
theorem Ap.at {a : List Value} {u : Value} (h : Ap B W g (a ++ u :: l)) : Ap B W g (u :: (a ++ l)) := h.perm List.perm_middle
theorem Ap.back {a : List Value} {u : Value} (h : Ap B W g (u :: (a ++ l))) : Ap B W g (a ++ u :: l) := h.perm List.perm_middle.symm
/-- One that has no block. -/
theorem Ap.without {u u' : Value} (h : Ap B W g (u :: l)) (hu : u'.ownBlock = none) : Ap B W g (u' :: l) := by
 obtain ⟨p1, p2⟩ := List.pairwise_cons.1 h.1
 refine ⟨List.pairwise_cons.2 ⟨fun v hv k hk => (by rw [hu] at hk; cases hk), p2⟩, fun v hv k hk => ?_⟩
 rcases List.mem_cons.1 hv with rfl | hv
 · rw [hu] at hk; cases hk
 · exact h.2 v (List.mem_cons_of_mem _ hv) k hk
theorem Ap.more (h : Ap B W g l) {u : Value} (hu : u.ownBlock = none) : Ap B W g (u :: l) :=
 ⟨List.pairwise_cons.2 ⟨fun v hv k hk => (by rw [hu] at hk; cases hk), h.1⟩, fun v hv k hk => by
   rcases List.mem_cons.1 hv with rfl | hv
   · rw [hu] at hk; cases hk
   · exact h.2 v hv k hk⟩
/-- One of a new block. -/
theorem Ap.new {u : Value} (h : Ap B W g l) (hs : W.heap.size ≤ W'.heap.size) (hg : g < W.heap.size) (hB : B ≤ W.heap.size) (hu : ∀ k, u.ownBlock = some k → W.heap.size ≤ k ∧ k < W'.heap.size) : Ap B W' g (u :: l) :=
 (h.more (u := .slice none 0 0) rfl).put hs hg hB fun k hk => .inr (hu k hk)
theorem Ap.nil (B : Nat) (W : World) (g : Nat) : Ap B W g [] := ⟨List.Pairwise.nil, fun v hv => by cases hv⟩
end Go.Proofs.YtafmgoekgijfgaaGreatDoor
