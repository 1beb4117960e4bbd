/- Small facts on rows of bytes in memory, over any program. -/
import Derived.WalkKit
import Derived.WalkSpells
import Derived.Laws.BytesArg
namespace Go.Proofs.Yteocienbfhgmjaa
open Go.RowKit

theorem grownBy_of_below {w w' : World} (h : Below w.heap.size w w') : w.grownBy w' none := ⟨h.os, h.tape, h.output, h.size, fun k hk _ => h.block k hk⟩

theorem ownsRow_below {w w' : World} {base : Nat} {e : TypeId} {size : Nat} {v : Value} {n : Nat} {xs : List Value} (h : w.ownsRow base e size v n xs) (hb : Below w.heap.size w w') : w'.ownsRow base e size v n xs := by
  refine h.kept (grownBy_of_below hb) ?_
  cases hv : v.ownBlock with
  | none => exact .inl rfl
  | some k => exact .inr (by simp)

/-- The bytes xs stand in block g from place off on. -/
def BytesAt (w : World) (g off : Nat) (xs : List Int) : Prop := ∀ i, i < xs.length → w.cell? ⟨g, off + i, none⟩ = some (.int .u8 (xs.getD i 0))

theorem bytesAt_of_owns {w : World} {base : Nat} {e : TypeId} {g n cap : Nat} {xs : List Int} (h : w.ownsRow base e 1 (.slice (some ⟨g, 0, none⟩) n cap) n (xs.map (.int .u8))) : BytesAt w g 0 xs := by
  intro i hi
  have hl := h.1
  simp at hl
  have := h.cellAt i (by omega)
  rw [Nat.zero_add, this]
  simp [List.getElem?_eq_getElem hi, List.getD]

theorem BytesAt.below {w w' : World} {B g off : Nat} {xs : List Int} (h : BytesAt w g off xs) (hb : Below B w w') (hg : g < B) : BytesAt w' g off xs :=
  fun i hi => (hb.cell (p := ⟨g, off + i, none⟩) hg).trans (h i hi)

theorem BytesAt.string {P : Program} {w : World} {g off : Nat} {xs : List Int} (h : BytesAt w g off xs) (src e dst cap len : Nat) (hlen : xs.length = len) (hs : P.underlying src = some (.slice e)) (he : P.underlying e = some (.int .u8)) (hd : P.underlying dst = some .string) :
    (convert src dst (.slice (some ⟨g, off, none⟩) len cap)).run P w = .ok (.string (strOfNums xs)) w :=
  run_convert_bytes_arg w src e hs he g off len cap xs hlen (fun i hi => h i (by omega)) dst hd
end Go.Proofs.Yteocienbfhgmjaa
