/- Rows of terms in memory of the call's own. -/
import Derived.Test.YtffbmkocmjpmeaaMtRow
namespace Go.Proofs.Ytffbmkocmjpmeaa
open Go.RowKit

theorem infoT : (Try.prog.info? 23).map (fun i => (i.zero, i.size, i.bytes)) = some (some (.agg #[.int .i64 0, .string ByteArray.empty]), 2, 24) := by kernel_rfl
/-- An append to a row of the call's own. -/
theorem grow_tm (W : World) (B : Nat) (v : Value) (l : List Tm) (h : GRow KT W B v l) (sv : Value) (m : List Tm) (hs : GAt KT W sv m) (hl : l.length + m.length ≤ 1000) (hB : B ≤ W.heap.size) :
    ∃ v' w', (Builtin.append_ #[24, 24] 24 #[v, sv]).run Try.prog W = .ok v' w' ∧ GRow KT w' B v' (l ++ m) ∧ Below B W w' := by
  have hm : (1000 : Nat) ≤ maxLen := by decide
  obtain ⟨v', w', h1, h2, h3, _⟩ := append_g (K := KT) (P := Try.prog) 24 (.agg #[.int .i64 0, .string ByteArray.empty]) 24 Try.underlying24 infoT rfl W B v l h sv m hs (by omega) (by omega) hB
  exact ⟨v', w', h1, h2, h3.below (fun k hk => h.ge hk) hB⟩
/-- As above: which block alone is written. -/
theorem grow_keep (W : World) (B : Nat) (v : Value) (l : List Tm) (h : GRow KT W B v l) (sv : Value) (m : List Tm) (hs : GAt KT W sv m) (hl : l.length + m.length ≤ 1000) (hB : B ≤ W.heap.size) :
    ∃ v' w', (Builtin.append_ #[24, 24] 24 #[v, sv]).run Try.prog W = .ok v' w' ∧ GRow KT w' B v' (l ++ m) ∧ Keep (fun k => v.ownBlock = some k) W w' := by
  have hm : (1000 : Nat) ≤ maxLen := by decide
  obtain ⟨v', w', h1, h2, h3, _⟩ := append_g (K := KT) (P := Try.prog) 24 (.agg #[.int .i64 0, .string ByteArray.empty]) 24 Try.underlying24 infoT rfl W B v l h sv m hs (by omega) (by omega) hB
  exact ⟨v', w', h1, h2, h3⟩
/-- A row's copy: append([]api.Term{}, l...). -/
theorem copy_tm (w : World) (sv : Value) (l : List Tm) (h : GAt KT w sv l) (hl : l.length ≤ 1000) :
    ∃ v' w', (Builtin.append_ #[24, 24] 24 #[.slice (some ⟨w.heap.size, 0, none⟩) 0 0, sv]).run Try.prog (w.alloc (.cells #[] 23)) = .ok v' w' ∧ GRow KT w' w.heap.size v' l ∧ Below w.heap.size w w' := by
  have h0 := GRow.lit (K := KT) w w.heap.size [] (Nat.le_refl _) (by simp)
  have hb := (Below.refl w.heap.size w).alloc (Nat.le_refl _) (.cells #[] 23)
  obtain ⟨v', w', h1, h2, h3⟩ := grow_tm (w.alloc (.cells #[] 23)) w.heap.size _ [] h0 sv l (h.below hb) (by simp; omega) (by simp)
  exact ⟨v', w', h1, h2, hb.trans h3⟩
theorem wp_append_runM {P : Program} {o : Oper} {a : Act} {w : World} {K : Act → World → Prop} {Q : Exit → Act → World → Prop} (s x : Operand) (t tn ty : TypeId) (hop : o.op = Op.call { callee := Callee.builtin Builtin.append, args := #[s, x], argTypes := #[t, tn] })
    (hty : o.type = ty) (vs vx v : Value) (w' : World) (hs : a.eval s = vs) (hx : a.eval x = vx) (hrun : (Builtin.append_ #[t, tn] ty #[vs, vx]).run P w = .ok v w')
    (h : K (a.put o.dst v) w') : o.wp P a w K Q := by
  subst hty
  unfold Oper.wp
  simp [execOp, hop, resolve, invoke, builtin, hs, hx, hrun, Result.andThen]
  exact h
theorem wpList_append_runM {P : Program} {ops : Array Oper} {rest : List Oper} {o : Oper} {a : Act} {w : World} {Q : Exit → Act → World → Prop} (hg : o.guard = none) (s x : Operand) (t tn ty : TypeId) (hop : o.op = Op.call { callee := Callee.builtin Builtin.append, args := #[s, x], argTypes := #[t, tn] })
    (hty : o.type = ty) (vs vx v : Value) (w' : World) (hs : a.eval s = vs) (hx : a.eval x = vx) (hrun : (Builtin.append_ #[t, tn] ty #[vs, vx]).run P w = .ok v w')
    (h : wpList P ops Q rest (a.put o.dst v) w') : wpList P ops Q (o :: rest) a w := by
  refine wpList_plain hg fun K hK => ?_
  exact wp_append_runM s x t tn ty hop hty vs vx v w' hs hx hrun (hK _ _ h)
end Go.Proofs.Ytffbmkocmjpmeaa
