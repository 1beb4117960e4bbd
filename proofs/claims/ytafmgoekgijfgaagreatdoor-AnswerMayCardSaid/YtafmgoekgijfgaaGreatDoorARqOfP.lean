/- Of: the request that a message is. -/
import Derived.Test.YtafmgoekgijfgaaGreatDoorARqM2
import Derived.Test.YtafmgoekgijfgaaGreatDoorARqM5
import Derived.Test.YtafmgoekgijfgaaGreatDoorARqM3
import Derived.Test.YtafmgoekgijfgaaGreatDoorAPhLeftW
import Derived.Shelf.Strings.Search3
import Derived.Shelf.Pu.ErrVarParseUint
import Derived.Test.YtafmgoekgijfgaaGreatDoorARqOwn
import Derived.Test.YtafmgoekgijfgaaGreatDoorARqM6
import Derived.Deep.RegionHeld3
namespace Go.Proofs.YtafmgoekgijfgaaGreatDoor
open Go.RowKit Go.Lib

/-- What stands ahead of the first blank, and behind it. -/
def hdB (l : List UInt8) : List UInt8 := l.takeWhile (· != 32)
def tlB (l : List UInt8) : List UInt8 := (l.dropWhile (· != 32)).drop 1
theorem bla_parts (l : List UInt8) : ((32 : UInt8) ∉ l ∧ hdB l = l ∧ tlB l = []) ∨ (l = hdB l ++ 32 :: tlB l ∧ (32 : UInt8) ∉ hdB l) := by
 have hn : (32 : UInt8) ∉ hdB l := fun h => by
   have := List.all_eq_true.1 (List.all_takeWhile (p := (· != 32)) (l := l)) 32 h
   simp at this
 have hd := List.takeWhile_append_dropWhile (p := (· != 32)) (l := l)
 cases he : l.dropWhile (· != 32) with
 | nil =>
   refine .inl ⟨?_, ?_, ?_⟩
   · rw [he, List.append_nil] at hd
     rw [← hd]; exact hn
   · rw [he, List.append_nil] at hd
     exact hd
   · unfold tlB; rw [he]; rfl
 | cons c r =>
   have hc : c = 32 := by
     have := List.head?_dropWhile_not (p := (· != 32)) (l := l)
     rw [he] at this
     simpa using this
   refine .inr ⟨?_, hn⟩
   unfold hdB tlB
   rw [he]
   conv => lhs; rw [← hd, he, hc]
   rfl
theorem hdB_len (l : List UInt8) : (hdB l).length ≤ l.length := (List.takeWhile_sublist _).length_le
/-- What stays while Of works. -/
structure OfSt (w : World) (s : ByteArray) (h b : Value) (W : World) : Prop where
 raw : QBox W w.heap.size s h b
 res : RBox7 26 W (w.heap.size + 1) (.string ⟨#[]⟩) (.string ⟨#[]⟩) (.string ⟨#[]⟩) (.string ⟨#[]⟩) (.string ⟨#[]⟩) (.slice none 0 0) (.slice none 0 0)
 be : Below w.heap.size w W
theorem OfSt.next {w : World} {s : ByteArray} {h b : Value} {W W' : World} (o : OfSt w s h b W) (hb : Below W.heap.size W W') : OfSt w s h b W' := ⟨o.raw.next hb, o.res.next hb, o.be.trans (hb.mono o.be.size)⟩
abbrev rqO : Obj := .cells #[.string ⟨#[]⟩, .string ⟨#[]⟩, .string ⟨#[]⟩, .string ⟨#[]⟩, .string ⟨#[]⟩, .slice none 0 0, .slice none 0 0] 26
theorem OfSt.first (w : World) (s : ByteArray) (h b : Value) : OfSt w s h b ((w.alloc (rawC s h b)).alloc rqO) := by
 have b1 := (Below.refl w.heap.size w).alloc (Nat.le_refl _) (rawC s h b)
 have b2 := (Below.refl (w.alloc (rawC s h b)).heap.size (w.alloc (rawC s h b))).alloc (Nat.le_refl _) rqO
 have hr : RBox7 26 ((w.alloc (rawC s h b)).alloc rqO) (w.alloc (rawC s h b)).heap.size (.string ⟨#[]⟩) (.string ⟨#[]⟩) (.string ⟨#[]⟩) (.string ⟨#[]⟩) (.string ⟨#[]⟩) (.slice none 0 0) (.slice none 0 0) := heap_alloc_new _ _
 rw [World.size_alloc] at hr
 exact ⟨QBox.next (heap_alloc_new w _) b2, hr, b1.trans (b2.mono b1.size)⟩
end Go.Proofs.YtafmgoekgijfgaaGreatDoor
