/- The program's left. -/
import Derived.Test.YthbgnkkjchaaeaaDoorPhSegs
import Derived.Maps.AppendAt
import Derived.RangeFuncBox
namespace Go.Proofs.YthbgnkkjchaaeaaDoor
open Go.RowKit Go.Shelf

attribute [local go_sem] Oper.semAt_some

/-- A row of the call's own, or what is left of one behind a cut: full to its end. -/
def LRow (W : World) (B : Nat) (v : Value) (l : List ByteArray) : Prop := GRow KS W B v l ∨ ∃ g c, v = .slice (some ⟨g, 0, none⟩) l.length l.length ∧ GRow KS W B (.slice (some ⟨g, 0, none⟩) l.length c) l
theorem LRow.nil (W : World) (B : Nat) : LRow W B (.slice none 0 0) [] := .inl (GRow.nil W B)
theorem LRow.kept {W W' : World} {B : Nat} {v : Value} {l : List ByteArray} {row : Option Nat} (h : LRow W B v l) (hg : W.grownBy W' row) (hr : ∀ r, row = some r → v.ownBlock ≠ some r) : LRow W' B v l := by
  rcases h with h | ⟨g, c, rfl, h⟩
  · refine .inl (World.ownsRow.kept h hg ?_)
    cases hv : v.ownBlock with
    | none => exact .inl rfl
    | some k => exact .inr (fun e => hr k e.symm hv)
  · exact .inr ⟨g, c, rfl, World.ownsRow.kept h hg (.inr (fun e => hr g e.symm rfl))⟩
theorem LRow.cells {W : World} {B : Nat} {v : Value} {l : List ByteArray} (h : LRow W B v l) {k : Nat} (hk : v.ownBlock = some k) : B ≤ k ∧ k < W.heap.size ∧ ∃ cs, W.heap[k]? = some (.cells cs 9 (0, 0)) := by
  rcases h with h | ⟨g, c, rfl, h⟩
  · rcases h.block with ⟨rfl, _⟩ | ⟨g, c, cs, rfl, h1, h2, _⟩
    · cases hk
    · cases hk
      exact ⟨h1, (Array.getElem?_eq_some_iff.1 h2).1, cs, h2⟩
  · cases hk
    rcases h.block with ⟨h1, _⟩ | ⟨g', c', cs, h0, h1, h2, _⟩
    · cases h1
    · injection h0 with h0
      injection h0 with h0
      injection h0 with h0
      subst h0
      exact ⟨h1, (Array.getElem?_eq_some_iff.1 h2).1, cs, h2⟩
theorem LRow.far {W W' : World} {B : Nat} {v : Value} {l : List ByteArray} {row : Option Nat} (h : LRow W B v l) (hg : W.grownBy W' row) (hr : ∀ r, row = some r → ∃ o : Obj, W.heap[r]? = some o ∧ o.isCells = false) : LRow W' B v l :=
  h.kept hg (fun r e hv => by
    obtain ⟨_, _, cs, hc⟩ := h.cells hv
    obtain ⟨o, ho, hn⟩ := hr r e
    rw [hc] at ho
    cases ho
    cases hn)
theorem LRow.alloc {W : World} {B : Nat} {v : Value} {l : List ByteArray} (h : LRow W B v l) (o : Obj) : LRow (W.alloc o) B v l := h.kept (World.grownBy_alloc W o none) (fun r e => by cases e)
theorem LRow.gAt {W : World} {B : Nat} {v : Value} {l : List ByteArray} (h : LRow W B v l) : GAt KS W v l := by
  rcases h with h | ⟨g, c, rfl, h⟩
  · exact h.gAt
  · obtain ⟨ao, cap, e, h1, h2, h3⟩ := h.gAt
    injection e with e1 e2 e3
    subst e1
    exact ⟨_, l.length, rfl, Nat.le_refl _, (fun e => by cases e), h3⟩
theorem LRow.len {W : World} {B : Nat} {v : Value} {l : List ByteArray} (h : LRow W B v l) : ∃ ao cap, v = .slice ao l.length cap := h.gAt.len
/-- One text more. -/
theorem LRow.push {W : World} {B : Nat} {v : Value} {l : List ByteArray} (h : LRow W B v l) (c : ByteArray) (hl : l.length ≤ 1000000) (hB : B ≤ W.heap.size) :
    ∃ v' w', (Builtin.append_ #[29, 29] 29 #[v, .slice (some ⟨W.heap.size, 0, none⟩) 1 1]).run Tryd.prog (W.alloc (.cells #[.string c] 9)) = .ok v' w' ∧ LRow w' B v' (l ++ [c]) ∧ W.grownBy w' v.ownBlock := by
  have hm : (1000001 : Nat) ≤ maxLen := by decide
  obtain ⟨i0, hi, hz0, hz1, hz2⟩ := info_parts infoS
  have hA := World.grownBy_alloc W (.cells #[.string c] 9) v.ownBlock
  rcases h with h | ⟨g, cp, rfl, h⟩
  · have hb := (Below.refl W.heap.size W).alloc (Nat.le_refl _) (.cells #[.string c] 9)
    obtain ⟨v', w', a1, a2, a3, _, a5⟩ := run_append_own_at (P := Tryd.prog) (W.alloc (.cells #[.string c] 9)) B 29 29 9 i0 (.string ByteArray.empty) 1 16 Tryd.underlying29 hi hz0 hz1 hz2 rfl (by decide) v l.length (KS.all l) (h.below hb) ⟨W.heap.size, 0, none⟩ 1 1 [.string c] rfl (cell_one_new W _ _) (by simp [Value.oneCell']) (by omega) (by omega) (by simp; omega)
    refine ⟨v', w', a1, .inl ?_, hA.trans a3⟩
    unfold GRow
    rw [List.length_append, Kd.all_append, Kd.all_one]
    exact a2
  · have hx : (KS.all l).length = l.length * 1 := Kd.all_length l
    have holds : ∀ j u, (KS.all l)[j]? = some u → (W.alloc (.cells #[.string c] 9)).cell? ((⟨g, 0, none⟩ : Addr).add j) = some u := by
      have hb := (Below.refl W.heap.size W).alloc (Nat.le_refl _) (.cells #[.string c] 9)
      exact World.ownsRow.cells (h.below hb) (g := g) rfl
    have hr := run_append_grow (P := Tryd.prog) (W.alloc (.cells #[.string c] 9)) 29 29 9 i0 (.string ByteArray.empty) Tryd.underlying29 hi hz0 ⟨g, 0, none⟩ l.length l.length (KS.all l) (by rw [hz1]; exact hx) holds ⟨W.heap.size, 0, none⟩ 1 1 [.string c] (by rw [hz1]; rfl) (cell_one_new W _ _) (by omega) (by omega) (growslice_fits (by omega) (by rw [hz2]; omega))
    have hge := grownCap_ge (W.alloc (.cells #[.string c] 9)) (l.length + 1) l.length 9
    have hcm := grownCap_le_maxLen (W.alloc (.cells #[.string c] 9)) (l.length + 1) l.length 9 (by omega)
    refine ⟨_, _, hr, .inl ?_, hA.trans ⟨rfl, rfl, rfl, by simp, fun k hk _ => heap_alloc_old _ _ k hk⟩⟩
    unfold GRow
    rw [List.length_append, Kd.all_append, Kd.all_one]
    refine ⟨by rw [List.length_append, hx]; rfl, .inr ⟨_, _, _, rfl, by simp; omega, heap_alloc_new _ _, hge, hcm, ?_, ?_⟩⟩
    · simp only [Array.size_append, List.size_toArray, size_zeroCells, hx, List.length_cons, List.length_nil, Value.cells]
      rw [show KS.s = 1 from rfl, Nat.mul_one]
      simp
      omega
    · simp only [Array.toList_append, List.append_assoc]
      rw [← List.append_assoc]
      refine List.take_left' ?_
      rw [List.length_append, hx]
      rfl
/-- 'l[:last:last]'. -/
theorem run_cut3 (ao : Option Addr) (n cap m : Nat) (h0 : m ≤ cap) (w : World) :
    (Instr.sliceAt 29 (.slice ao n cap) none (some (.int .i64 (m : Int))) (some (.int .i64 (m : Int)))).run Tryd.prog w = .ok (.slice ao m m) w := by
  have h1 : (0 : Int) ≤ (m : Int) ∧ (m : Int) ≤ (cap : Int) := by omega
  obtain ⟨i0, hi, _, hz1, _⟩ := info_parts infoS
  have hs : (Tryd.prog.info? 9).map (·.size) = some 1 := by rw [hi, Option.map_some, hz1]
  simp [Instr.sliceAt, Instr.slice, run_underlying Tryd.underlying29, Instr.sliceBounds, run_sliceBound_if, run_sizeOf hs, h1]
  intro _
  cases ao with
  | none => rfl
  | some a => simp [Addr.add]
theorem LRow.cut {W : World} {B : Nat} {v : Value} {l : List ByteArray} (h : LRow W B v l) (h0 : l ≠ []) : ∃ g n c, v = .slice (some ⟨g, 0, none⟩) (n + 1) c ∧ n + 1 = l.length ∧ n + 1 ≤ c ∧ LRow W B (.slice (some ⟨g, 0, none⟩) n n) l.dropLast := by
  have hl : 0 < l.length := List.length_pos_iff.2 h0
  have hd : l.dropLast = l.take (l.length - 1) := List.dropLast_eq_take
  have hdl : l.dropLast.length = l.length - 1 := List.length_dropLast
  rcases h with h | ⟨g, c, rfl, h⟩
  · rcases h.own with ⟨_, e⟩ | ⟨g, c, rfl⟩
    · exact absurd e h0
    · have ht := GRow.take h (l.length - 1) (by omega) hl
      refine ⟨g, l.length - 1, c, by rw [show l.length - 1 + 1 = l.length by omega], by omega, by have := h.le; omega, .inr ⟨g, c, by rw [hdl], ?_⟩⟩
      rw [hdl, hd]
      exact ht
  · have ht := GRow.take h (l.length - 1) (by omega) hl
    refine ⟨g, l.length - 1, l.length, by rw [show l.length - 1 + 1 = l.length by omega], by omega, by omega, .inr ⟨g, c, by rw [hdl], ?_⟩⟩
    rw [hdl, hd]
    exact ht
end Go.Proofs.YthbgnkkjchaaeaaDoor
