/- Package code: what an operation of a writer leaves; the tables of places. -/
import Derived.Test.YtdlhengfhmkpdaaDoorCdFirst
namespace Go.Proofs.YtdlhengfhmkpdaaDoor
open Go.RowKit

/-- The blocks of F, and those that were made between two worlds. -/
def Up (F : Nat → Prop) (W w' : World) : Nat → Prop := fun k => F k ∨ (W.heap.size ≤ k ∧ k < w'.heap.size)

theorem Up.off {F G : Nat → Prop} {W w' : World} (h : ∀ k, F k → ¬ G k) (hg : ∀ k, G k → k < W.heap.size) : ∀ k, Up F W w' k → ¬ G k := fun k hk hG => by
  rcases hk with hk | hk
  · exact h k hk hG
  · have := hg k hG; omega

theorem Wr.mono {F G : Nat → Prop} {W : World} {B g : Nat} {xs : List Int} (h : Wr W B F g xs) (hs : ∀ k, F k → G k) (hg : ∀ k, G k → B ≤ k ∧ k < W.heap.size) : Wr W B G g xs := by
  refine ⟨hs g h.own, hg, ?_⟩
  rcases h.shape with h1 | ⟨q, v, hq, hFq, hgg, hqq, hr, hv⟩
  · exact .inl h1
  · exact .inr ⟨q, v, hq, hs q hFq, hgg, hqq, hr, fun k e => ⟨hs k (hv k e).1, (hv k e).2⟩⟩

/-- Behind an operation of a writer. -/
def WrPost (W : World) (B : Nat) (F : Nat → Prop) (g : Nat) (xs : List Int) (e : Ending) (w' : World) : Prop := e = .returned (.tuple #[]) ∧ Keep F W w' ∧ Wr w' B (Up F W w') g xs

theorem Wr.hB {W : World} {B g : Nat} {F : Nat → Prop} {xs : List Int} (h : Wr W B F g xs) : B ≤ W.heap.size := Nat.le_of_lt (Nat.lt_of_le_of_lt (h.ge g h.own).1 (h.ge g h.own).2)

theorem add_any (W : World) (B : Nat) (F : Nat → Prop) (g : Nat) (xs : List Int) (h : Wr W B F g xs) (sv : Value) (ys : List Int) (hs : SlAt W sv ys) (ho : Off F sv) (hb : xs.length + ys.length ≤ 140737488355328) :
    Calls Tryd.prog 90 #[.pointer (some ⟨g, 0, none⟩), sv] W (WrPost W B F g (xs ++ ys)) := by
  have hB := h.hB
  have hgl := (h.ge g h.own).2
  have hge : ∀ (w' : World), W.heap.size ≤ w'.heap.size → ∀ k, Up F W w' k → B ≤ k ∧ k < w'.heap.size := fun w' hw k hk => by
    rcases hk with hk | hk
    · exact ⟨(h.ge k hk).1, Nat.lt_of_lt_of_le (h.ge k hk).2 hw⟩
    · exact ⟨Nat.le_trans hB hk.1, hk.2⟩
  rcases h.shape with ⟨rfl, hg⟩ | ⟨q, v, hq, hFq, hg, hqq, hr, hv⟩
  · refine (add_first W B g hg hB hgl sv ys hs (fun k e hk => ho k e (hk ▸ h.own)) (by simpa using hb)).mono ?_
    rintro e w' ⟨rfl, v', h1, h2, h3, h4, h5⟩
    have hk : Keep F W w' := h5.mono (fun x e => .inl (e ▸ h.own))
    have hlt : W.heap.size < w'.heap.size := (Array.getElem?_eq_some_iff.1 h2).1
    refine ⟨rfl, hk, .inl h.own, hge w' hk.size, .inr ⟨W.heap.size, v', by omega, .inr ⟨Nat.le_refl _, hlt⟩, by simpa using h1, h2, by simpa using h3, fun k e => ?_⟩⟩
    have e1 := h4 k e
    have e2 := h3.lt e
    exact ⟨.inr ⟨by omega, e2⟩, by omega, by omega⟩
  · refine (add_some W B g q v xs hg hqq hr hq hB hgl (h.ge q hFq).2 (fun k e => (hv k e).2) sv ys hs hb).mono ?_
    rintro e w' ⟨rfl, v', h1, h2, h3, h4, h5⟩
    have hk : Keep F W w' := h5.mono (fun x e => .inl (by
      rcases e with rfl | rfl | e
      · exact h.own
      · exact hFq
      · exact (hv x e).1))
    have hq2 := (h.ge q hFq).2
    refine ⟨rfl, hk, .inl h.own, hge w' hk.size, .inr ⟨q, v', hq, .inl hFq, h1, h2, h3, fun k e => ?_⟩⟩
    have e2 := h3.lt e
    rcases h4 with h4 | h4
    · have := hv k (h4 ▸ e)
      exact ⟨.inl this.1, this.2⟩
    · rw [h4] at e
      injection e with e
      exact ⟨.inr ⟨by omega, e2⟩, by omega, by omega⟩

/-- An operation that first makes memory of its own. -/
theorem WrPost.pre {W W1 : World} {B g : Nat} {F : Nat → Prop} {xs : List Int} {e : Ending} {w' : World} (h : WrPost W1 B F g xs e w') (hb : Below W.heap.size W W1) (hF : ∀ k, F k → B ≤ k ∧ k < W.heap.size) (hB : B ≤ W.heap.size) : WrPost W B F g xs e w' := by
  obtain ⟨he, hk, hw⟩ := h
  have hk' : Keep F W w' := (Keep.of_below hb : Keep F W W1).trans hk (fun _ h => .inl h)
  refine ⟨he, hk', hw.mono (fun k hk => ?_) (fun k hk => ?_)⟩
  · rcases hk with hk | hk
    · exact .inl hk
    · exact .inr ⟨Nat.le_trans hb.size hk.1, hk.2⟩
  · rcases hk with hk | hk
    · exact ⟨(hF k hk).1, Nat.lt_of_lt_of_le (hF k hk).2 hk'.size⟩
    · exact ⟨Nat.le_trans hB hk.1, hk.2⟩

/-- A second operation behind a first one. -/
theorem WrPost.seq {W W1 : World} {B g : Nat} {F : Nat → Prop} {xs : List Int} {e : Ending} {w' : World} (hk1 : Keep F W W1) (h : WrPost W1 B (Up F W W1) g xs e w') (hF : ∀ k, F k → B ≤ k ∧ k < W.heap.size) (hB : B ≤ W.heap.size) : WrPost W B F g xs e w' := by
  obtain ⟨he, hk, hw⟩ := h
  have hk' : Keep F W w' := hk1.trans hk (fun x hx => by
    rcases hx with hx | hx
    · exact .inl hx
    · exact .inr hx.1)
  refine ⟨he, hk', hw.mono (fun k hk => ?_) (fun k hk => ?_)⟩
  · rcases hk with (hk | hk) | hk
    · exact .inl hk
    · exact .inr ⟨hk.1, Nat.lt_of_lt_of_le hk.2 (by assumption : Keep (Up F W W1) W1 w').size⟩
    · exact .inr ⟨Nat.le_trans hk1.size hk.1, hk.2⟩
  · rcases hk with hk | hk
    · exact ⟨(hF k hk).1, Nat.lt_of_lt_of_le (hF k hk).2 hk'.size⟩
    · exact ⟨Nat.le_trans hB hk.1, hk.2⟩

/-- A block that is new is none of F. -/
theorem off_new {F : Nat → Prop} {W : World} {B : Nat} (hF : ∀ k, F k → B ≤ k ∧ k < W.heap.size) {g n c : Nat} (hg : W.heap.size ≤ g) : Off F (.slice (some ⟨g, 0, none⟩) n c) := fun k e hk => by
  simp [Value.ownBlock] at e
  have := (hF k hk).2
  omega

def places4 : List Int := [0, 8, 16, 24]
def places10 : List Int := [0, 7, 14, 21, 28, 35, 42, 49, 56, 63]

/-- The two tables of places. -/
def Tab (W : World) : Prop := (∃ t fr, W.heap[0]? = some (.cells (cellsOf .i64 places4) t fr)) ∧ (∃ t fr, W.heap[1]? = some (.cells (cellsOf .i64 places10) t fr))
theorem Tab.below {W w' : World} {B : Nat} (h : Tab W) (hb : Below B W w') (hB : 2 ≤ B) : Tab w' := by
  obtain ⟨⟨t, fr, h1⟩, ⟨t2, fr2, h2⟩⟩ := h
  exact ⟨⟨t, fr, (hb.block _ (by omega)).trans h1⟩, ⟨t2, fr2, (hb.block _ (by omega)).trans h2⟩⟩
theorem Tab.two {W : World} (h : Tab W) : 2 ≤ W.heap.size := by
  obtain ⟨⟨t, fr, h1⟩, ⟨t2, fr2, h2⟩⟩ := h
  have a := (Array.getElem?_eq_some_iff.1 h1).1
  have b := (Array.getElem?_eq_some_iff.1 h2).1
  omega
theorem nth_places4 : ∀ k : Fin 4, nth places4 k.val = 8 * (k.val : Int) := by decide
theorem nth_places10 : ∀ k : Fin 10, nth places10 k.val = 7 * (k.val : Int) := by decide
theorem size_p4 : (Tryd.prog.info? 88).map (·.size) = some (cellsOf .i64 places4).size := by kernel_rfl
theorem size_p10 : (Tryd.prog.info? 124).map (·.size) = some (cellsOf .i64 places10).size := by kernel_rfl
end Go.Proofs.YtdlhengfhmkpdaaDoor
