/- What the laws share: the state that they carry. -/
import Derived.Test.YtilefgmlnmpeoaaDoorHdAwake
import Derived.Deep.Slices
namespace Go.Proofs.YtilefgmlnmpeoaaDoor
open Go.RowKit Go.Lib

/-- The row that came in, the header's box, the library's variable, and that all that was there is there. -/
structure SL (w0 : World) (v : Value) (l : List Hd) (g : Nat) (h : Hd) (W : World) : Prop where
  row : GAt KH W v l
  bx : HBox W g h.n h.v
  be : Below w0.heap.size w0 W
  env : Env W
theorem SL.next {w0 W W' : World} {v : Value} {l : List Hd} {g : Nat} {h : Hd} (s : SL w0 v l g h W) (hb : Below W.heap.size W W') : SL w0 v l g h W' :=
  ⟨s.row.below hb, s.bx.next hb, s.be.trans (hb.mono s.be.size), s.env.next hb⟩
theorem SL.new {w0 : World} {v : Value} {l : List Hd} (h : Hd) (hv : GAt KH w0 v l) (hE : Env w0) : SL w0 v l w0.heap.size h (w0.alloc (.cells #[.string h.n, .string h.v] 23)) := by
  have hb := (Below.refl w0.heap.size w0).alloc (Nat.le_refl _) (.cells #[.string h.n, .string h.v] 23)
  exact ⟨hv.below hb, HBox.new w0 h.n h.v, hb, hE.next hb⟩
theorem SL.drew {w0 W : World} {v : Value} {l : List Hd} {g : Nat} {h : Hd} (s : SL w0 v l g h W) : SL w0 v l g h W.drew := s.next (Below.refl _ _).drew
theorem longP_one (h : Hd) : longP [h] = longH h := by
  unfold longP
  simp
theorem long_lit (h : Hd) (W : World) : Calls Tryd.prog 9 #[.slice (some ⟨W.heap.size, 0, none⟩) 1 1] (W.alloc (.cells #[.string h.n, .string h.v] 23)) (fun e w' => e = .returned (.bool (longH h)) ∧ Below W.heap.size W w') := by
  have hb := (Below.refl W.heap.size W).alloc (Nat.le_refl _) (.cells #[.string h.n, .string h.v] 23)
  have := long_any (.slice (some ⟨W.heap.size, 0, none⟩) 1 1) [h] _ (GAt.box (K := KH) _ _ h (0, 0) (heap_alloc_new W _) 1 (Nat.le_refl _))
  rw [longP_one] at this
  exact this.mono fun e w' ⟨he, h2⟩ => ⟨he, hb.trans (h2.mono hb.size)⟩
theorem longH_no {h : Hd} (hl : longH h = false) : h.n.size ≤ 1000 ∧ h.v.size ≤ 2000 := by
  unfold longH at hl
  rw [Bool.or_eq_false_iff, decide_eq_false_iff_not, decide_eq_false_iff_not] at hl
  omega
/-- What was written lies above the box. -/
theorem SL.over {w0 W W' : World} {v : Value} {l : List Hd} {h : Hd} {B : Nat} (s : SL w0 v l w0.heap.size h W) (hg : w0.heap.size < B) (hv : GAt KH w0 v l) (hE : Env w0) (hb : Below B W W') : SL w0 v l w0.heap.size h W' := by
  have be := s.be.trans (hb.mono (Nat.le_of_lt hg))
  exact ⟨hv.below be, s.bx.nextB hb hg, be, hE.next be⟩
/-- An append to a row of the call's own: which block alone is written. -/
theorem cat_keep (W : World) (B : Nat) (v : Value) (l : List Hd) (h : GRow KH W B v l) (sv : Value) (m : List Hd) (hs : GAt KH W sv m) (hl : l.length + m.length ≤ 1000000) (hB : B ≤ W.heap.size) :
    ∃ v' w', (Builtin.append_ #[24, 24] 24 #[v, sv]).run Tryd.prog W = .ok v' w' ∧ GRow KH w' B v' (l ++ m) ∧ Keep (fun k => v.ownBlock = some k) W w' := by
  have hm : (1000000 : Nat) ≤ maxLen := by decide
  obtain ⟨v', w', h1, h2, h3, _⟩ := append_g (K := KH) (P := Tryd.prog) 24 (.agg #[.string ByteArray.empty, .string ByteArray.empty]) 32 Tryd.underlying24 infoH rfl W B v l h sv m hs (by omega) (by omega) hB
  exact ⟨v', w', h1, h2, h3⟩
/-- A row's copy: append([]api.Head{}, l...). -/
theorem copy_h (w : World) (B : Nat) (hB : B ≤ w.heap.size) (sv : Value) (l : List Hd) (h : GAt KH w sv l) (hl : l.length ≤ 1000) :
    ∃ v' w', (Builtin.append_ #[24, 24] 24 #[.slice (some ⟨w.heap.size, 0, none⟩) 0 0, sv]).run Tryd.prog (w.alloc (.cells #[] 23)) = .ok v' w' ∧ GRow KH w' B v' l ∧ Below B w w' := by
  have h0 := GRow.lit (K := KH) w B [] hB (by simp)
  have hb := (Below.refl w.heap.size w).alloc (Nat.le_refl _) (.cells #[] 23)
  obtain ⟨v', w', h1, h2, h3⟩ := cat_h (w.alloc (.cells #[] 23)) B _ [] h0 sv l (h.below hb) (by simp; omega) (Nat.le_trans hB (by simp))
  exact ⟨v', w', h1, h2, (hb.mono hB).trans h3⟩
theorem wp_append_runM {P : Program} {o : Oper} {a : Act} {w : World} {K : Act → World → Prop} {Q : Exit → Act → World → Prop} (s x : Operand) (t tn ty : TypeId) (hop : o.op = Op.call { callee := Callee.builtin Builtin.append, args := #[s, x], argTypes := #[t, tn] })
    (hty : o.type = ty) (vs vx v : Value) (w' : World) (hs : a.eval s = vs) (hx : a.eval x = vx) (hrun : (Builtin.append_ #[t, tn] ty #[vs, vx]).run P w = .ok v w')
    (h : K (a.put o.dst v) w') : o.wp P a w K Q := by
  subst hty
  unfold Oper.wp
  simp [execOp, hop, resolve, invoke, builtin, hs, hx, hrun, Result.andThen]
  exact h
/-- What 'l[k:]' answers. -/
def slH (ao : Option Addr) (k m cap : Nat) : Value := .slice (if cap = k then ao else ao.map (·.add (k * 2))) m (cap - k)
theorem run_cut_hl (ao : Option Addr) (n cap k : Nat) (h : k ≤ n) (w : World) :
    (Instr.sliceAt 24 (.slice ao n cap) (some (.int .i64 (k : Int))) none none).run Tryd.prog w = .ok (slH ao k (n - k) cap) w := by
  have h3 : (0 : Int) ≤ (k : Int) ∧ (k : Int) ≤ (n : Int) := by omega
  simp [Instr.sliceAt, Instr.slice, run_underlying Tryd.underlying24, Instr.sliceBounds, run_sliceBound_if, run_sizeOf (show (Tryd.prog.info? 23).map (·.size) = some 2 by kernel_rfl), slH, h3]
theorem run_cut_hh (ao : Option Addr) (n cap k : Nat) (h : k ≤ cap) (w : World) :
    (Instr.sliceAt 24 (.slice ao n cap) none (some (.int .i64 (k : Int))) none).run Tryd.prog w = .ok (.slice ao k cap) w :=
  run_cut_gh (P := Tryd.prog) Tryd.underlying24 (show (Tryd.prog.info? 23).map (·.size) = some 2 by kernel_rfl) ao n cap k h w
theorem GAt.tail {w : World} {ao : Option Addr} {n cap k : Nat} {l : List Hd} (h : GAt KH w (.slice ao n cap) l) (hk : k ≤ n) : GAt KH w (slH ao k (n - k) cap) (l.drop k) := by
  obtain ⟨ao', cap', hv, hc, hn, ha⟩ := h
  injection hv with e1 e2 e3
  subst e1 e2 e3
  refine ⟨if cap = k then ao else ao.map (·.add (k * 2)), cap - k, ?_, ?_, ?_, ?_⟩
  · unfold slH
    rw [List.length_drop]
  · rw [List.length_drop]; omega
  · intro e
    by_cases hck : cap = k
    · exact ⟨List.length_eq_zero_iff.1 (by rw [List.length_drop]; omega), by omega⟩
    · rw [if_neg hck] at e
      have hao : ao = none := by
        cases ao with
        | none => rfl
        | some a => cases e
      obtain ⟨h1, h2⟩ := hn hao
      exact ⟨by rw [h1, List.drop_nil], by omega⟩
  · intro ad had i hi
    rw [List.length_drop] at hi
    have hck : ¬ cap = k := by omega
    rw [if_neg hck] at had
    obtain ⟨a, rfl⟩ : ∃ a, ao = some a := by
      cases ao with
      | none => cases had
      | some a => exact ⟨a, rfl⟩
    have hadd : ad = a.add (k * 2) := (Option.some.inj had).symm
    obtain ⟨h0, h1, h2⟩ := ha a rfl (k + i) (by omega)
    refine ⟨by rw [hadd]; unfold Addr.add; split <;> simp_all, by rw [hadd, addr_block]; exact h1, fun j hj => ?_⟩
    have hg : (l.drop k).getD i KH.dft = l.getD (k + i) KH.dft := by simp [List.getD]
    rw [hg, ← h2 j hj, hadd, Go.Deep.add_add, show KH.s = 2 from rfl, Nat.add_mul, Nat.add_assoc]
end Go.Proofs.YtilefgmlnmpeoaaDoor
