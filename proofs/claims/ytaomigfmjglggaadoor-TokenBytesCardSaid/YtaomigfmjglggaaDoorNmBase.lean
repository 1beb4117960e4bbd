/- Names in boxes; the document's May. -/
import Derived.Test.YtaomigfmjglggaaDoorNmLab
import Derived.Below
namespace Go.Proofs.YtaomigfmjglggaaDoor
open Go.RowKit Go.Lib

theorem below_drewN5 (w : World) : ∀ n, Below w.heap.size w (w.drewN n)
  | 0 => Below.refl _ _
  | n + 1 => (below_drewN5 w n).drew
def mayN (a : Nm) : Bool := labelS a.ns.data.toList && labelS a.sa.data.toList
/-- A box that holds a name. -/
def NBox (W : World) (g : Nat) (s t : ByteArray) : Prop := W.heap[g]? = some (.cells #[.string s, .string t] 27 (0, 0))
theorem NBox.c0 {W : World} {g : Nat} {s t : ByteArray} (h : NBox W g s t) : W.cell? ⟨g, 0, none⟩ = some (.string s) := (cell_of_row W g 0 _ _ _ h).trans rfl
theorem NBox.c1 {W : World} {g : Nat} {s t : ByteArray} (h : NBox W g s t) : W.cell? ⟨g, 1, none⟩ = some (.string t) := (cell_of_row W g 1 _ _ _ h).trans rfl
theorem NBox.lt {W : World} {g : Nat} {s t : ByteArray} (h : NBox W g s t) : g < W.heap.size := (Array.getElem?_eq_some_iff.1 h).1
theorem NBox.new (w : World) (s t : ByteArray) : NBox (w.alloc (.cells #[.string s, .string t] 27)) w.heap.size s t := heap_alloc_new w _
theorem NBox.next {W W' : World} {g : Nat} {s t : ByteArray} (h : NBox W g s t) (hb : Below W.heap.size W W') : NBox W' g s t := (hb.block g h.lt).trans h
theorem labelR_below (s : ByteArray) (hs : s.size ≤ 9223372036854775807) (w : World) : Calls Tryd.prog 45 #[.string s] w (fun e w' => e = .returned (.bool (labelS s.data.toList)) ∧ Below w.heap.size w w') :=
  (labelR_any s hs w).mono (by rintro e w' ⟨h, n, rfl⟩; exact ⟨h, below_drewN5 w n⟩)
set_option maxRecDepth 100000 in
set_option maxHeartbeats 400000 in
theorem mayNR_any (a : Nm) (h1 : a.ns.size ≤ 9223372036854775807) (h2 : a.sa.size ≤ 9223372036854775807) (w : World) : Calls Tryd.prog 30 #[.agg #[.string a.ns, .string a.sa]] w (fun e w' => e = .returned (.bool (mayN a)) ∧ Below w.heap.size w w') := by
  obtain ⟨s, t⟩ := a
  change s.size ≤ _ at h1
  change t.size ≤ _ at h2
  unfold mayN
  dsimp only
  have L1 := hideL (labelR_below s h1)
  have L2 := hideL (labelR_below t h2)
  have HX := hideL (NBox.new w s t)
  have HB := hideL ((Below.refl w.heap.size w).alloc (Nat.le_refl _) (.cells #[.string s, .string t] 27))
  obtain ⟨x, hx⟩ : ∃ x, labelS s.data.toList = x := ⟨_, rfl⟩
  obtain ⟨y, hy⟩ : ∃ x, labelS t.data.toList = x := ⟨_, rfl⟩
  rw [hx] at L1 ⊢
  rw [hy] at L2 ⊢
  clear hx hy
  cases x
  · go_enter Tryd.func30, Tryd.ntmps30
    go_wp2_with (go_at_call 45; refine (L1.out _).mono ?_; rintro e w2 ⟨rfl, hB2⟩)
    go_ret
    exact ⟨rfl, HB.out.trans (hB2.mono HB.out.size)⟩
  · go_enter Tryd.func30, Tryd.ntmps30
    go_wp2_with (go_at_call 45; first
      | (with_reducible refine (L1.out _).mono ?_; rintro e w2 ⟨rfl, hB2⟩; have hc := (HX.out.next hB2).c1)
      | (with_reducible refine (L2.out _).mono ?_; rintro e w3 ⟨rfl, hB3⟩))
    go_ret
    exact ⟨rfl, HB.out.trans ((hB2.trans (hB3.mono hB2.size)).mono HB.out.size)⟩

end Go.Proofs.YtaomigfmjglggaaDoor
