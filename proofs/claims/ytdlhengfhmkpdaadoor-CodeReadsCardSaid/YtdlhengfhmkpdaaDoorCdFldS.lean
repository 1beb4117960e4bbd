/- The bytes of fields, in plain words; the law's own function kind. -/
import Derived.Test.YtdlhengfhmkpdaaDoorCdFld
namespace Go.Proofs.YtdlhengfhmkpdaaDoor
open Go.RowKit

/-- A field's kind. -/
def Fld.kd (f : Fld) : Int := Int.tmod (bits BinOp.and IntKind.i64 f.kind 65535) 5
def Fld.val (f : Fld) : Value := .agg #[.int .i64 f.kind, .int .i64 f.most, .int .i64 f.more, .int .u64 (f.n : Nat), .string f.s]

/-- A field's bytes. -/
def fieldS (f : Fld) : List Int :=
  if f.kd = 0 then [((f.n % 256 : Nat) : Int)] else if f.kd = 1 then u32S (f.n % 4294967296) else if f.kd = 2 then uintS f.n else if f.kd = 3 then textS f.s else bytesOf f.s

theorem fieldS_len (f : Fld) : (fieldS f).length ≤ 10 + f.s.size := by
  unfold fieldS
  have h1 := uintS_len f.n
  have h2 := uintS_len f.s.size
  have h3 := length_bytesOf f.s
  have h4 : (u32S (f.n % 4294967296)).length = 4 := length_u32T _ 4
  (repeat' split) <;> simp [textS] <;> omega

set_option maxRecDepth 100000 in
theorem kind_any (f : Fld) (w : World) : Calls Tryd.prog 14 #[f.val] w (fun e w' => e = .returned (.int .i64 f.kd) ∧ Below w.heap.size w w') := by
  obtain ⟨a, b, c, n, s⟩ := f
  unfold Fld.val Fld.kd
  dsimp only
  go_enter Tryd.func14, Tryd.ntmps14
  go_wp2_with fail
  go_ret
  exact ⟨rfl, (Below.refl _ _).alloc (Nat.le_refl _) _⟩

/-- Fields' bytes, one behind the other. -/
def fieldsS (l : List Fld) : List Int := (l.map fieldS).flatten
theorem fieldsS_succ (l : List Fld) (k : Nat) (h : k < l.length) : fieldsS (l.take (k + 1)) = fieldsS (l.take k) ++ fieldS (l.getD k default) := by
  rw [List.take_succ_eq_append_getElem h, fieldsS, List.map_append, List.flatten_append]
  simp [fieldsS, List.getD, h]
theorem fieldsS_take_le (l : List Fld) (k : Nat) : (fieldsS (l.take k)).length ≤ (fieldsS l).length := by
  conv => rhs; rw [← List.take_append_drop k l]
  rw [fieldsS, fieldsS, List.map_append, List.flatten_append, List.length_append]
  omega
theorem fieldsS_cnt (l : List Fld) : (fieldsS l).length + l.length ≤ 100 * cnt l := by
  induction l with
  | nil => simp [fieldsS, cnt]
  | cons f l ih =>
    have := fieldS_len f
    simp only [fieldsS, cnt, List.map_cons, List.flatten_cons, List.length_append, List.sum_cons, List.length_cons] at ih ⊢
    omega
theorem size_in (l : List Fld) (f : Fld) (h : f ∈ l) : f.s.size < 50 * cnt l := by
  induction l with
  | nil => cases h
  | cons x l ih =>
    simp only [cnt, List.map_cons, List.sum_cons] at ih ⊢
    rcases List.mem_cons.1 h with rfl | h
    · omega
    · have := ih h
      omega

end Go.Proofs.YtdlhengfhmkpdaaDoor
