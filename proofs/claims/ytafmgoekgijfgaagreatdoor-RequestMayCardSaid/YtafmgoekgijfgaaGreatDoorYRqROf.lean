/- The document's Of. -/
import Derived.Test.YtafmgoekgijfgaaGreatDoorYRqBla
import Derived.Test.YtafmgoekgijfgaaGreatDoorYRqOfP
import Derived.Test.YtafmgoekgijfgaaGreatDoorYRqOwn2
import Derived.Test.YtafmgoekgijfgaaGreatDoorYRqRMes
import Derived.Test.YtafmgoekgijfgaaGreatDoorYHdRefT
import Derived.Test.YtafmgoekgijfgaaGreatDoorYPhRefN
import Derived.Test.YtafmgoekgijfgaaGreatDoorYRqHostW
import Derived.Test.YtafmgoekgijfgaaGreatDoorYRqM3
import Derived.Test.YtafmgoekgijfgaaGreatDoorYRqM6
import Derived.StillTailTactics
namespace Go.Proofs.YtafmgoekgijfgaaGreatDoor
open Go.RowKit Go.Lib

theorem infoI : (Tryz.prog.info? 3).map (fun i => (i.zero, i.size, i.bytes)) = some (some (.int .i64 0), 1, 8) := by kernel_rfl
theorem push_i (W : World) (B : Nat) (ao : Option Addr) (m c : Nat) (l : List Int) (h : GRow KI W B (.slice ao m c) l) (x : Int) (hl : l.length ≤ 1000000) (hB : B ≤ W.heap.size) :
   ∃ a' c' w', (Builtin.append_ #[75, 75] 75 #[.slice ao m c, .slice (some ⟨W.heap.size, 0, none⟩) 1 1]).run Tryz.prog (W.alloc (.cells #[.int .i64 x] 3)) = .ok (.slice a' (l ++ [x]).length c') w' ∧ GRow KI w' B (.slice a' (l ++ [x]).length c') (l ++ [x]) ∧ Below B W w' := by
 have hm : (1000001 : Nat) ≤ maxLen := by decide
 have hb := (Below.refl W.heap.size W).alloc (Nat.le_refl _) (.cells #[.int .i64 x] 3)
 obtain ⟨v', w', h1, h2, h3, _⟩ := append_g (K := KI) (P := Tryz.prog) 75 (.int .i64 0) 8 Tryz.underlying75 infoI rfl (W.alloc (.cells #[.int .i64 x] 3)) B (.slice ao m c) l (h.below hb) (.slice (some ⟨W.heap.size, 0, none⟩) 1 1) [x] (GAt.box _ _ x (0, 0) (heap_alloc_new W _) 1 (Nat.le_refl _)) (by simp only [List.length_cons, List.length_nil]; omega) (by simp only [List.length_cons, List.length_nil]; omega) (by simp; omega)
 obtain ⟨a', c', e⟩ := h2.gAt.len
 subst e
 exact ⟨a', c', w', h1, h2, (hb.mono hB).trans (h3.below (fun k hk => (h.below hb).ge hk) (by simp; omega))⟩
theorem two_ints {W : World} {B : Nat} {ao : Option Addr} {m c i j : Nat} (h : GRow KI W B (.slice ao m c) [(i : Int), (j : Int)]) : ∃ g, ao = some ⟨g, 0, none⟩ ∧ m = 2 ∧ W.cell? ⟨g, 0, none⟩ = some (.int .i64 (i : Int)) ∧ W.cell? ⟨g, 1, none⟩ = some (.int .i64 (j : Int)) ∧ g < W.heap.size := by
 have hm : m = 2 := h.gAt.le.1
 subst hm
 rcases h.own with ⟨_, e⟩ | ⟨g, c', e⟩
 · cases e
 injection e with e1 _ _
 subst e1
 obtain ⟨b0, o0, e0, hlt, hc0⟩ := h.gAt.at (k := 0) (by decide)
 obtain ⟨b1, o1, e1, _, hc1⟩ := h.gAt.at (k := 1) (by decide)
 injection e0 with e0
 injection e0 with e0 e0' _
 injection e1 with e1
 injection e1 with e1 e1' _
 subst e0 e0' e1 e1'
 exact ⟨g, rfl, rfl, hc0 0 (by decide), hc1 0 (by decide), hlt⟩
theorem one_str {W : World} {B : Nat} {ao : Option Addr} {m c : Nat} {x : ByteArray} (h : GRow KS W B (.slice ao m c) [x]) : ∃ g, ao = some ⟨g, 0, none⟩ ∧ m = 1 ∧ W.cell? ⟨g, 0, none⟩ = some (.string x) ∧ g < W.heap.size := by
 have hm : m = 1 := h.gAt.le.1
 subst hm
 rcases h.own with ⟨_, e⟩ | ⟨g, c', e⟩
 · cases e
 injection e with e1 _ _
 subst e1
 obtain ⟨b0, o0, e0, hlt, hc0⟩ := h.gAt.at (k := 0) (by decide)
 injection e0 with e0
 injection e0 with e0 e0' _
 subst e0 e0'
 exact ⟨g, rfl, rfl, hc0 0 (by decide), hlt⟩
theorem OfSt.room {w W : World} {s : ByteArray} {h b : Value} (o : OfSt w s h b W) : w.heap.size + 2 ≤ W.heap.size := by have := o.res.lt; omega
theorem OfSt.nextB {w W W' : World} {s : ByteArray} {h b : Value} (o : OfSt w s h b W) (hb : Below (w.heap.size + 2) W W') : OfSt w s h b W' :=
 ⟨o.raw.nextB hb (by omega), (hb.block _ (by omega)).trans o.res, o.be.trans (hb.mono (by omega))⟩
theorem OfSt.set {w W : World} {s : ByteArray} {h b v : Value} {g i : Nat} (o : OfSt w s h b W) (hg : w.heap.size + 2 ≤ g) : OfSt w s h b (W.setCell ⟨g, i, none⟩ v) :=
 ⟨o.raw.other (by omega), o.res.other (by omega), o.be.setCell (p := ⟨g, i, none⟩) (show w.heap.size ≤ g by omega) v⟩
/-- What it answers. -/
def ROfPost (w : World) (x : Rw) (e : Ending) (w' : World) : Prop := (match ofRP x with
 | some q => ∃ v : QV, e = .returned (.tuple #[v.v, .bool true]) ∧ ReqAt w' v q ∧ ReqGe w.heap.size v
 | none => e = .returned (.tuple #[.agg #[.string ⟨#[]⟩, .string ⟨#[]⟩, .string ⟨#[]⟩, .string ⟨#[]⟩, .string ⟨#[]⟩, .slice none 0 0, .slice none 0 0], .bool false])) ∧ Below w.heap.size w w'
theorem sizeRq {a b c d e : ByteArray} {h i : Value} : (Tryz.prog.info? 26).map (·.size) = some (#[Value.string a, .string b, .string c, .string d, .string e, h, i] : Array Value).size := by kernel_rfl
theorem oneRq (a b c d e : ByteArray) : (#[Value.string a, .string b, .string c, .string d, .string e, .slice none 0 0, .slice none 0 0] : Array Value).all (·.oneCell') = true := by simp [Value.oneCell']
theorem RBox7.put {tr : TypeId} {W : World} {g : Nat} {a0 a1 a2 a3 a4 a5 a6 : Value} (h : RBox7 tr W g a0 a1 a2 a3 a4 a5 a6) (b0 b1 b2 b3 b4 b5 b6 : Value) : RBox7 tr (W.setRow g #[b0, b1, b2, b3, b4, b5, b6]) g b0 b1 b2 b3 b4 b5 b6 := setRow_heap _ _ _ _ _ (0, 0) h
theorem wp_alloc_q {op : Oper} {a : Act} {w : World} {K : Act → World → Prop} {Q : Exit → Act → World → Prop} (ho : op.op = .alloc 26)
   (h : K (a.put op.dst (.pointer (some ⟨w.heap.size, 0, none⟩))) (w.alloc rqO)) : Oper.wp Tryz.prog op a w K Q := by
 unfold Oper.wp execOp
 simp [ho, Instr.alloc, newVar, Value.cells]
 exact h
theorem len_two {l : List Nat} (h : l.length = 2) : ∃ i j, l = [i, j] := by
 match l, h with
 | [i, j], _ => exact ⟨i, j, rfl⟩
theorem met_of {m : List UInt8} (h1 : 1 ≤ m.length) (h2 : m.length ≤ 16) (h : ∀ c ∈ m, bigB c = true) : metP m = true := by
 unfold metP
 rw [decide_eq_true ⟨h1, h2⟩, Bool.true_and]
 exact List.all_eq_true.2 h
theorem met_len {m : List UInt8} (h : m.length < 1 ∨ 16 < m.length) : metP m = false := by
 unfold metP
 rw [decide_eq_false (by omega), Bool.false_and]
theorem met_bad {m : List UInt8} {c : UInt8} (hc : c ∈ m) (h : bigB c = false) : metP m = false := by
 cases hm : metP m with
 | false => rfl
 | true =>
   unfold metP at hm
   rw [Bool.and_eq_true] at hm
   rw [List.all_eq_true.1 hm.2 c hc] at h
   cases h
theorem big_of {c : UInt8} (h1 : ¬ c.toNat < 65) (h2 : ¬ 90 < c.toNat) : bigB c = true := decide_eq_true (by omega)
theorem big_not {c : UInt8} (h : c.toNat < 65 ∨ 90 < c.toNat) : bigB c = false := decide_eq_false (by omega)
theorem rq_new' (w : World) : RBox7 26 (w.alloc rqO) w.heap.size (.string ⟨#[]⟩) (.string ⟨#[]⟩) (.string ⟨#[]⟩) (.string ⟨#[]⟩) (.string ⟨#[]⟩) (.slice none 0 0) (.slice none 0 0) := heap_alloc_new w _
theorem GRow.setB9 {W : World} {B g i : Nat} {v u : Value} {l : List UInt8} (h : GRow KB W B v l) (hg : g < B) : GRow KB (W.setCell ⟨g, i, none⟩ u) B v l := h.keep (Keep.set (F := fun k => k = g) W ⟨g, i, none⟩ u rfl) (fun k hk he => by have := h.ge hk; omega)
end Go.Proofs.YtafmgoekgijfgaaGreatDoor
