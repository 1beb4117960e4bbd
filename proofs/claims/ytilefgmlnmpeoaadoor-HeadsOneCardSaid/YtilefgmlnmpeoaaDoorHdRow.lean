/- Rows of bytes and of texts of the call's own. -/
import Derived.Test.YtilefgmlnmpeoaaDoorHdStr
import Derived.Test.YtilefgmlnmpeoaaDoorGRow
import Derived.Laws.MakeOwn
import Derived.Laws.IdiomStrings
import Derived.Lib.AppendStr
namespace Go.Proofs.YtilefgmlnmpeoaaDoor
open Go.RowKit

/-- Bytes, texts as things of rows. -/
def KB : Kd UInt8 where
  t := 5
  s := 1
  dft := 0
  cells := fun c => [.int .u8 c.toNat]
  len := fun _ => rfl
  pos := by decide
  one := by intro a v hv; simp at hv; subst hv; rfl
def KS : Kd ByteArray where
  t := 9
  s := 1
  dft := ByteArray.empty
  cells := fun s => [.string s]
  len := fun _ => rfl
  pos := by decide
  one := by intro a v hv; simp at hv; subst hv; rfl
theorem infoB : (Tryd.prog.info? 5).map (fun i => (i.zero, i.size, i.bytes)) = some (some (.int .u8 0), 1, 1) := by kernel_rfl
theorem infoS : (Tryd.prog.info? 9).map (fun i => (i.zero, i.size, i.bytes)) = some (some (.string ByteArray.empty), 1, 16) := by kernel_rfl
theorem gat_byte {w : World} {ao : Option Addr} {n cap : Nat} {l : List UInt8} (h : GAt KB w (.slice ao n cap) l) {k : Nat} (hk : k < n) : ∃ b o, ao = some ⟨b, o, none⟩ ∧ b < w.heap.size ∧ w.cell? ⟨b, o + k, none⟩ = some (.int .u8 (l.getD k 0).toNat) := by
  obtain ⟨b, o, h1, h2, h3⟩ := h.at hk
  refine ⟨b, o, h1, h2, ?_⟩
  have := h3 0 (by decide)
  rw [Nat.add_zero, show k * KB.s = k from Nat.mul_one k] at this
  exact this
theorem gat_text {w : World} {ao : Option Addr} {n cap : Nat} {l : List ByteArray} (h : GAt KS w (.slice ao n cap) l) {k : Nat} (hk : k < n) : ∃ b o, ao = some ⟨b, o, none⟩ ∧ b < w.heap.size ∧ w.cell? ⟨b, o + k, none⟩ = some (.string (l.getD k ByteArray.empty)) := by
  obtain ⟨b, o, h1, h2, h3⟩ := h.at hk
  refine ⟨b, o, h1, h2, ?_⟩
  have := h3 0 (by decide)
  rw [Nat.add_zero, show k * KS.s = k from Nat.mul_one k] at this
  exact this
/-- make([]byte, 0, n). -/
theorem make_b (W : World) (n : Nat) (hn : n ≤ 1000000000) : ∃ w', (Instr.makeSlice 52 (.int .i64 0) (.int .i64 (n : Int))).run Tryd.prog W = .ok (.slice (some ⟨W.heap.size, 0, none⟩) 0 n) w' ∧ GRow KB w' W.heap.size (.slice (some ⟨W.heap.size, 0, none⟩) 0 n) [] ∧ Below W.heap.size W w' := by
  obtain ⟨i0, hi, hz0, hz1, hz2⟩ := info_parts infoB
  have hm : (1000000000 : Nat) ≤ maxLen := by decide
  obtain ⟨w', h1, h2, h3⟩ := run_make_own (P := Tryd.prog) W W.heap.size 52 5 i0 (.int .u8 0) 1 Tryd.underlying52 hi hz0 hz1 .i64 .i64 n (by rw [hz2]; omega) (by omega) (Nat.le_refl _)
  exact ⟨w', h1, h2, (Below.refl _ W).grown h3 (Nat.le_refl _) (fun k e => by cases e)⟩
/-- One byte more: the row that is built for it lies at the heap's end. -/
theorem push_b (W : World) (B : Nat) (v : Value) (l : List UInt8) (h : GRow KB W B v l) (c : UInt8) (hl : l.length ≤ 1000000000) (hB : B ≤ W.heap.size) :
    ∃ v' w', (Builtin.append_ #[52, 52] 52 #[v, .slice (some ⟨W.heap.size, 0, none⟩) 1 1]).run Tryd.prog (W.alloc (.cells #[.int .u8 c.toNat] 5)) = .ok v' w' ∧ GRow KB w' B v' (l ++ [c]) ∧ Below B W w' := by
  have hm : (1000000001 : Nat) ≤ maxLen := by decide
  have hb := (Below.refl W.heap.size W).alloc (Nat.le_refl _) (.cells #[.int .u8 c.toNat] 5)
  obtain ⟨v', w', h1, h2, h3, _⟩ := append_g (K := KB) (P := Tryd.prog) 52 (.int .u8 0) 1 Tryd.underlying52 infoB rfl (W.alloc (.cells #[.int .u8 c.toNat] 5)) B v l (h.below hb) (.slice (some ⟨W.heap.size, 0, none⟩) 1 1) [c] (GAt.box _ _ c (0, 0) (heap_alloc_new W _) 1 (Nat.le_refl _)) (by simp; omega) (by simp; omega) (by simp; omega)
  exact ⟨v', w', h1, h2, (hb.mono hB).trans (h3.below (fun k hk => (h.below hb).ge hk) (by simp; omega))⟩
/-- A text's bytes more. -/
theorem push_str (W : World) (B : Nat) (v : Value) (l : List UInt8) (h : GRow KB W B v l) (s : ByteArray) (hl : l.length + s.size ≤ 1000000000) (hB : B ≤ W.heap.size) :
    ∃ v' w', (Builtin.append_ #[52, 9] 52 #[v, .string s]).run Tryd.prog W = .ok v' w' ∧ GRow KB w' B v' (l ++ s.data.toList) ∧ Below B W w' := by
  have hm : (1000000000 : Nat) ≤ maxLen := by decide
  obtain ⟨i0, hi, hz0, hz1, hz2⟩ := info_parts infoB
  obtain ⟨v', w', h1, h2, h3, _⟩ := Lib.run_append_own_string (P := Tryd.prog) (w := W) B 52 9 52 5 i0 Tryd.underlying52 Tryd.underlying9 hi hz0 hz1 hz2 v l.length (KB.all l) h s (by omega) (by omega) hB
  refine ⟨v', w', h1, ?_, (Below.refl B W).grown h3 hB (fun k e => h.ge e)⟩
  unfold GRow
  rw [List.length_append, size_list, Kd.all_append]
  have e : Lib.strCells s = KB.all s.data.toList := by
    unfold Lib.strCells Kd.all
    rw [List.map_eq_flatMap]
    rfl
  rw [← e]
  exact h2
/-- string(b). -/
theorem to_str (W : World) (B : Nat) (v : Value) (l : List UInt8) (h : GRow KB W B v l) : (convert 52 9 v).run Tryd.prog W = .ok (.string (bo l)) W := by
  rcases h.own with ⟨rfl, rfl⟩ | ⟨g, c, rfl⟩
  · exact run_convert_bytes_nil W 52 5 Tryd.underlying52 Tryd.underlying5 0 0 9 Tryd.underlying9
  · have hr := run_convert_bytes_back (P := Tryd.prog) W 52 9 5 ⟨g, 0, none⟩ c l Tryd.underlying52 Tryd.underlying5 Tryd.underlying9 (fun j hj => ?_)
    · rw [hr]
      rfl
    · obtain ⟨b, o, e, _, h3⟩ := gat_byte h.gAt (k := j) hj
      injection e with e
      injection e with e1 e2
      subst e1 e2
      rw [addr_plain', h3]
      simp [List.getD, hj]
/-- One text more. -/
theorem push_s (W : World) (B : Nat) (v : Value) (l : List ByteArray) (h : GRow KS W B v l) (c : ByteArray) (hl : l.length ≤ 1000000) (hB : B ≤ W.heap.size) :
    ∃ v' w', (Builtin.append_ #[36, 36] 36 #[v, .slice (some ⟨W.heap.size, 0, none⟩) 1 1]).run Tryd.prog (W.alloc (.cells #[.string c] 9)) = .ok v' w' ∧ GRow KS w' B v' (l ++ [c]) ∧ Below B W w' := by
  have hm : (1000001 : Nat) ≤ maxLen := by decide
  have hb := (Below.refl W.heap.size W).alloc (Nat.le_refl _) (.cells #[.string c] 9)
  obtain ⟨v', w', h1, h2, h3, _⟩ := append_g (K := KS) (P := Tryd.prog) 36 (.string ByteArray.empty) 16 Tryd.underlying36 infoS rfl (W.alloc (.cells #[.string c] 9)) B v l (h.below hb) (.slice (some ⟨W.heap.size, 0, none⟩) 1 1) [c] (GAt.box _ _ c (0, 0) (heap_alloc_new W _) 1 (Nat.le_refl _)) (by simp; omega) (by simp; omega) (by simp; omega)
  exact ⟨v', w', h1, h2, (hb.mono hB).trans (h3.below (fun k hk => (h.below hb).ge hk) (by simp; omega))⟩
end Go.Proofs.YtilefgmlnmpeoaaDoor
