/- Rows of bytes of the call's own: what an append makes of one of them, and leaves of the others. -/
import Derived.Test.YtgikkjjnoakhdaaDoorPl
import Derived.Test.YtgikkjjnoakhdaaDoorLow
namespace Go.Proofs.YtgikkjjnoakhdaaDoor
open Go.RowKit

/-- v is a row of the call's own (at B or above) with the bytes xs. -/
def Row (W : World) (B : Nat) (v : Value) (xs : List Int) : Prop := W.ownsRow B 5 1 v xs.length (xs.map (.int .u8))
/-- The blocks of two rows are two. -/
def Apart (u v : Value) : Prop := ∀ x, u.ownBlock = some x → v.ownBlock ≠ some x
theorem Apart.symm {u v : Value} (h : Apart u v) : Apart v u := fun x hv hu => h x hu hv
theorem Apart.nil (v : Value) : Apart v (.slice none 0 0) := fun x _ h => by simp [Value.ownBlock] at h

theorem Row.nil (W : World) (B : Nat) : Row W B (.slice none 0 0) [] := World.ownsRow_nil _ _ _ _
theorem Row.alloc {W : World} {B : Nat} {v : Value} {xs : List Int} (h : Row W B v xs) (o : Obj) : Row (W.alloc o) B v xs := World.ownsRow.alloc h o
theorem Row.drew {W : World} {B : Nat} {v : Value} {xs : List Int} (h : Row W B v xs) : Row W.drew B v xs := h
theorem Row.slAt {W : World} {B : Nat} {v : Value} {xs : List Int} (h : Row W B v xs) : SlAt W v xs := slAt_ownV h
theorem Row.base {W : World} {B B' : Nat} {v : Value} {xs : List Int} (h : Row W B v xs) (hb : B' ≤ B) : Row W B' v xs := ownsRow_base h hb
theorem Row.below {W W' : World} {B : Nat} {v : Value} {xs : List Int} (h : Row W B v xs) (hb : Below W.heap.size W W') : Row W' B v xs := ownsRow_below h hb
theorem Row.lt {W : World} {B : Nat} {v : Value} {xs : List Int} (h : Row W B v xs) {k : Nat} (hk : v.ownBlock = some k) : k < W.heap.size := own_block_lt h hk
theorem Row.ge {W : World} {B : Nat} {v : Value} {xs : List Int} (h : Row W B v xs) {k : Nat} (hk : v.ownBlock = some k) : B ≤ k := own_block_le h k hk
/-- An empty row that the call builds. -/
theorem Row.empty (W : World) : Row (W.alloc (.cells #[] 5)) W.heap.size (.slice (some ⟨W.heap.size, 0, none⟩) 0 0) [] := own_empty W 5
theorem Row.apart_new {W : World} {B : Nat} {v : Value} {xs : List Int} (h : Row W B v xs) (n c : Nat) : Apart v (.slice (some ⟨W.heap.size, 0, none⟩) n c) := fun x hx e => by
  simp [Value.ownBlock] at e
  have := h.lt hx
  omega

/-- What an append of the row v leaves of all else; v' is the row behind it. -/
structure Pushed (W w' : World) (v v' : Value) : Prop where
  below : ∀ B0 w0, Below B0 w0 W → B0 ≤ W.heap.size → (∀ k, v.ownBlock = some k → B0 ≤ k) → Below B0 w0 w'
  row : ∀ B u ys, Row W B u ys → Apart u v → Row w' B u ys ∧ Apart u v'
  blk : ∀ g t k l, Blk W g t k l → (∀ x, v.ownBlock = some x → x ≠ g) → Blk w' g t k l ∧ (∀ x, v'.ownBlock = some x → x ≠ g)
  size : W.heap.size ≤ w'.heap.size

theorem append_row (W : World) (B : Nat) (v : Value) (xs : List Int) (h : Row W B v xs) (sv : Value) (ys : List Int) (hs : SlAt W sv ys) (hb : xs.length + ys.length ≤ 140737488355328) (hB : B ≤ W.heap.size) :
    ∃ v' w', (Builtin.append_ #[62, 62] 62 #[v, sv]).run Tryd.prog W = .ok v' w' ∧ Row w' B v' (xs ++ ys) ∧ Pushed W w' v v' := by
  obtain ⟨i0, hi, hz0, hz1, hz2⟩ := info_parts Tryd.info5
  obtain ⟨v', w', hrun, hown, hgr, hat⟩ := append_sl (P := Tryd.prog) (w := W) (t := 62) (e := 5) Tryd.underlying62 hi hz0 hz1 hz2 B v xs.length xs h sv ys hs hb hB 62
  refine ⟨v', w', hrun, by unfold Row; rw [List.length_append]; exact hown, ?_, ?_, ?_, hgr.size⟩
  · exact fun B0 w0 hb0 hs0 hk => hb0.grown hgr hs0 hk
  · intro B' u zs hu ha
    have hne : u.ownBlock = none ∨ u.ownBlock ≠ v.ownBlock := by
      cases hx : u.ownBlock with
      | none => exact .inl rfl
      | some x => exact .inr (fun e => ha x hx e.symm)
    refine ⟨World.ownsRow.kept hu hgr hne, fun x hx e => ?_⟩
    rcases hat with h1 | h1
    · exact ha x hx (h1 ▸ e)
    · rw [h1] at e
      injection e with e
      have := Row.lt hu hx
      omega
  · intro g t k l hg hx
    refine ⟨(hgr.block g hg.lt (fun e => hx g e.symm rfl)).trans hg, fun x e => ?_⟩
    rcases hat with h1 | h1
    · exact hx x (h1 ▸ e)
    · rw [h1] at e
      injection e with e
      have := hg.lt
      omega
end Go.Proofs.YtgikkjjnoakhdaaDoor
