/- Rows of bytes of the call's own, also those that '[]byte(s)' made: these are marked behind their end. -/
import Derived.Test.YtafmgoekgijfgaaGreatDoorORqHex
import Derived.Lib.ConvBytes
import Derived.Lib.AppendStr
namespace Go.Proofs.YtafmgoekgijfgaaGreatDoor
open Go.RowKit Go.Lib

/-- The block that '[]byte(s)' made. -/
def Mk (W : World) (g c : Nat) (l : List UInt8) : Prop := ∃ cur : Array Value, W.heap[g]? = some (.cells cur 5 (cur.size, cur.size + 1)) ∧ cur.size = c ∧ l.length ≤ c ∧ c ≤ maxLen ∧ cur.toList.take l.length = KB.all l
theorem Mk.lt {W : World} {g c : Nat} {l : List UInt8} (h : Mk W g c l) : g < W.heap.size := by obtain ⟨cur, hg, _⟩ := h; exact (Array.getElem?_eq_some_iff.1 hg).1
theorem Mk.below {W W' : World} {g c : Nat} {l : List UInt8} (h : Mk W g c l) (hb : Below W.heap.size W W') : Mk W' g c l := by
 have hl := h.lt
 obtain ⟨cur, hg, hr⟩ := h
 exact ⟨cur, (hb.block g hl).trans hg, hr⟩
theorem Mk.cell {W : World} {g c : Nat} {l : List UInt8} (h : Mk W g c l) (i : Nat) (hi : i < l.length) : W.cell? ⟨g, i, none⟩ = some (.int .u8 (l.getD i 0).toNat) := by
 obtain ⟨cur, hg, hc, hn, _, ht⟩ := h
 rw [cell_of_row W g i cur 5 _ hg]
 have h1 : (cur.toList.take l.length)[i]? = some (.int .u8 (l.getD i 0).toNat) := by
   rw [ht]
   have h4 := Kd.get_all (K := KB) l i 0 hi (by decide)
   rw [show KB.s = 1 from rfl, Nat.mul_one, Nat.add_zero] at h4
   rw [h4]
   rfl
 rw [List.getElem?_take, if_pos hi] at h1
 simpa using h1
theorem Mk.gAt {W : World} {g c : Nat} {l : List UInt8} (h : Mk W g c l) : GAt KB W (.slice (some ⟨g, 0, none⟩) l.length c) l := by
 refine ⟨some ⟨g, 0, none⟩, c, rfl, ?_, (fun e => by cases e), ?_⟩
 · obtain ⟨_, _, _, hn, _⟩ := h
   exact hn
 · intro ad had i hi
   injection had with had
   subst had
   refine ⟨rfl, h.lt, fun j hj => ?_⟩
   obtain rfl : j = 0 := Nat.lt_one_iff.1 hj
   rw [addr_plain', show KB.s = 1 from rfl, Nat.mul_one, Nat.add_zero, Nat.zero_add]
   exact h.cell i hi
/-- Of the call's own, marked or not. -/
def BRow (W : World) (B : Nat) (v : Value) (l : List UInt8) : Prop := GRow KB W B v l ∨ ∃ g c, v = .slice (some ⟨g, 0, none⟩) l.length c ∧ B ≤ g ∧ Mk W g c l
theorem BRow.gAt {W : World} {B : Nat} {v : Value} {l : List UInt8} (h : BRow W B v l) : GAt KB W v l := by
 rcases h with h | ⟨g, c, rfl, _, h⟩
 · exact h.gAt
 · exact h.gAt
theorem BRow.below {W W' : World} {B : Nat} {v : Value} {l : List UInt8} (h : BRow W B v l) (hb : Below W.heap.size W W') : BRow W' B v l := by
 rcases h with h | ⟨g, c, rfl, hB, h⟩
 · exact .inl (h.below hb)
 · exact .inr ⟨g, c, rfl, hB, h.below hb⟩
theorem BRow.ge {W : World} {B : Nat} {v : Value} {l : List UInt8} (h : BRow W B v l) {k : Nat} (hk : v.ownBlock = some k) : B ≤ k := by
 rcases h with h | ⟨g, c, rfl, hB, h⟩
 · exact h.ge hk
 · injection hk with hk
   exact hk ▸ hB
theorem BRow.lt {W : World} {B : Nat} {v : Value} {l : List UInt8} (h : BRow W B v l) {k : Nat} (hk : v.ownBlock = some k) : k < W.heap.size := by
 rcases h with h | ⟨g, c, rfl, hB, h⟩
 · exact h.lt hk
 · injection hk with hk
   exact hk ▸ h.lt
theorem BRow.base {W : World} {B B' : Nat} {v : Value} {l : List UInt8} (h : BRow W B v l) (hb : B' ≤ B) : BRow W B' v l := by
 rcases h with h | ⟨g, c, rfl, hB, h⟩
 · exact .inl (h.base hb)
 · exact .inr ⟨g, c, rfl, Nat.le_trans hb hB, h⟩
end Go.Proofs.YtafmgoekgijfgaaGreatDoor
