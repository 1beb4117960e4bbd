/- Package code: objects that own a span of blocks; what reads of a literal. -/
import Derived.Test.YtdlhengfhmkpdaaDoorCdMeth
namespace Go.Proofs.YtdlhengfhmkpdaaDoor
open Go.RowKit

/-- The blocks from lo to below hi. -/
def iv (lo hi : Nat) : Nat → Prop := fun k => lo ≤ k ∧ k < hi

set_option maxRecDepth 100000 in
theorem newWriter_iv (W : World) :
    Calls Tryd.prog 54 #[] W (fun e w' => ∃ g, e = .returned (.pointer (some ⟨g, 0, none⟩)) ∧ Below W.heap.size W w' ∧ Wr w' W.heap.size (iv W.heap.size w'.heap.size) g []) := by
  refine (newWriter_any W).mono ?_
  rintro e w' ⟨rfl, rfl⟩
  exact ⟨_, rfl, (Below.refl _ _).alloc (Nat.le_refl _) _, ⟨Nat.le_refl _, by simp⟩, fun k h => h, .inl ⟨rfl, heap_alloc_new _ _⟩⟩

theorem WrPost.iv {W w' : World} {lo hi g : Nat} {xs : List Int} {e : Ending} (h : WrPost W lo (iv lo hi) g xs e w') (hh : hi = W.heap.size) (hl : lo ≤ hi) : e = .returned (.tuple #[]) ∧ W.heap.size ≤ w'.heap.size ∧ Keep (Proofs.YtdlhengfhmkpdaaDoor.iv lo hi) W w' ∧ Wr w' lo (Proofs.YtdlhengfhmkpdaaDoor.iv lo w'.heap.size) g xs := by
  obtain ⟨he, hk, hw⟩ := h
  have hs := hk.size
  refine ⟨he, hs, hk, hw.mono (fun k hk => ?_) (fun k hk => hk)⟩
  rcases hk with hk | hk
  · exact ⟨hk.1, Nat.lt_of_lt_of_le hk.2 (by omega)⟩
  · exact ⟨by omega, hk.2⟩

/-- A reader of what a literal builds. -/
theorem newReader_lit (bs : List Int) (W : World) (hb : bs.length ≤ 140737488355328) :
    Calls Tryd.prog 13 #[.slice (some ⟨W.heap.size, 0, none⟩) bs.length bs.length] (W.alloc (.cells (cellsOf .u8 bs) 5)) (fun e w' => ∃ g, e = .returned (.pointer (some ⟨g, 0, none⟩)) ∧ Below W.heap.size W w' ∧ Rd w' W.heap.size (iv W.heap.size w'.heap.size) g bs false) := by
  refine (newReader_any _ bs _ (slAt_lit (heap_alloc_new _ _) (Nat.le_refl _)) hb).mono ?_
  rintro e w' ⟨g, rfl, hB, hr⟩
  have hs : (W.alloc (.cells (cellsOf .u8 bs) 5)).heap.size = W.heap.size + 1 := by simp
  refine ⟨g, rfl, ((Below.refl W.heap.size W).alloc (Nat.le_refl _) _).trans (hB.mono (by rw [hs]; omega)), ⟨by have := hr.own; rw [hs] at this; omega, hr.own.2⟩, fun k h => h, ?_⟩
  obtain ⟨v, h1, h2, h3⟩ := hr.shape
  exact ⟨v, h1, h2, fun k e => ⟨⟨by have := (h3 k e).1; rw [hs] at this; omega, (h3 k e).1.2⟩, (h3 k e).2⟩⟩

theorem raw_lit (ys : List Int) (W : World) (lo g : Nat) (xs : List Int) (h : Wr W lo (iv lo W.heap.size) g xs) (hb : xs.length + ys.length ≤ 140737488355328) :
    Calls Tryd.prog 59 #[.pointer (some ⟨g, 0, none⟩), .slice (some ⟨W.heap.size, 0, none⟩) ys.length ys.length] (W.alloc (.cells (cellsOf .u8 ys) 5)) (WrPost W lo (iv lo W.heap.size) g (xs ++ ys)) := by
  have hB : Below W.heap.size W (W.alloc (.cells (cellsOf .u8 ys) 5)) := (Below.refl _ _).alloc (Nat.le_refl _) _
  refine (raw_any _ ys _ lo (iv lo W.heap.size) g xs (h.keep (Keep.of_below hB : Keep (fun _ => False) _ _) (fun _ _ => id)) (slAt_lit (heap_alloc_new _ _) (Nat.le_refl _)) (off_new h.ge (Nat.le_refl _)) hb).mono ?_
  exact fun e w' hp => hp.pre hB h.ge h.hB

theorem put_lit (l : List Nat) (W : World) (lo g : Nat) (xs : List Int) (ht : Tab W) (hl2 : 2 ≤ lo) (h : Wr W lo (iv lo W.heap.size) g xs) (hr : ∀ x ∈ l, x < 18446744073709551616) (hb : xs.length + 10 * l.length ≤ 140737488355328) :
    Calls Tryd.prog 60 #[.pointer (some ⟨g, 0, none⟩), .slice (some ⟨W.heap.size, 0, none⟩) l.length l.length] (W.alloc (.cells (cellsOf .u64 (l.map fun (x : Nat) => (x : Int))) 31)) (WrPost W lo (iv lo W.heap.size) g (xs ++ putS l)) := by
  have hB : Below W.heap.size W (W.alloc (.cells (cellsOf .u64 (l.map fun (x : Nat) => (x : Int))) 31)) := (Below.refl _ _).alloc (Nat.le_refl _) _
  refine (put_any l _ _ lo (iv lo W.heap.size) g xs (ht.below hB ht.two) hl2 (h.keep (Keep.of_below hB : Keep (fun _ => False) _ _) (fun _ _ => id)) ?_ (off_new h.ge (Nat.le_refl _)) hr hb).mono (fun e w' hp => hp.pre hB h.ge h.hB)
  refine ⟨_, _, rfl, (fun h => by cases h), fun ad had i hi => ?_⟩
  cases had
  refine ⟨rfl, by simp, ?_⟩
  rw [addr_plain', Nat.zero_add, cell_of_row _ _ _ _ _ _ (heap_alloc_new _ _), get_cellsOf _ _ _ (by simpa using hi)]
  simp [nth, List.getD, hi]

theorem RdPost.none {W w' : World} {B g : Nat} {F : Nat → Prop} {bs : List Int} {z : Value} {P : Value → World → Prop} {r : Option (List Int)} {e : Ending} (h : RdPost W B F g bs z P r e w') (hr : r = none) : Keep F W w' ∧ W.heap.size ≤ w'.heap.size ∧ e = .returned z ∧ Rd w' B F g bs true := by
  subst hr
  exact ⟨h.1, h.1.size, h.2⟩
theorem RdPost.some {W w' : World} {B g : Nat} {F : Nat → Prop} {bs rest : List Int} {z : Value} {P : Value → World → Prop} {r : Option (List Int)} {e : Ending} (h : RdPost W B F g bs z P r e w') (hr : r = some rest) : Keep F W w' ∧ W.heap.size ≤ w'.heap.size ∧ ∃ f, e = .returned f ∧ P f w' ∧ Rd w' B F g rest false := by
  subst hr
  exact ⟨h.1, h.1.size, h.2⟩

theorem Row.str {w : World} {B : Nat} {v : Value} {xs : List Int} (h : Row w B v xs) : (convert 22 9 v).run Tryd.prog w = .ok (.string (strOfNums xs)) w :=
  h.slAt.string (P := Tryd.prog) 22 5 9 Tryd.underlying22 Tryd.underlying5 Tryd.underlying9
end Go.Proofs.YtdlhengfhmkpdaaDoor
