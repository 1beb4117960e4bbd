/- The document's May, Cmp, Print. -/
import Derived.Test.YtjbfaaoeoggkpaaNmText
import Derived.Below
namespace Go.Proofs.Ytjbfaaoeoggkpaa
open Go.RowKit Go.Lib

theorem below_drewN5 (w : World) : ∀ n, Below w.heap.size w (w.drewN n)
  | 0 => Below.refl _ _
  | n + 1 => (below_drewN5 w n).drew
def mayN (a : Nm) : Bool := labelS a.ns.data.toList && labelS a.sa.data.toList
/-- A box that holds a name. -/
def NBox (W : World) (g : Nat) (s t : ByteArray) : Prop := W.heap[g]? = some (.cells #[.string s, .string t] 23 (0, 0))
theorem NBox.c0 {W : World} {g : Nat} {s t : ByteArray} (h : NBox W g s t) : W.cell? ⟨g, 0, none⟩ = some (.string s) := (cell_of_row W g 0 _ _ _ h).trans rfl
theorem NBox.c1 {W : World} {g : Nat} {s t : ByteArray} (h : NBox W g s t) : W.cell? ⟨g, 1, none⟩ = some (.string t) := (cell_of_row W g 1 _ _ _ h).trans rfl
theorem NBox.lt {W : World} {g : Nat} {s t : ByteArray} (h : NBox W g s t) : g < W.heap.size := (Array.getElem?_eq_some_iff.1 h).1
theorem NBox.new (w : World) (s t : ByteArray) : NBox (w.alloc (.cells #[.string s, .string t] 23)) w.heap.size s t := heap_alloc_new w _
theorem NBox.next {W W' : World} {g : Nat} {s t : ByteArray} (h : NBox W g s t) (hb : Below W.heap.size W W') : NBox W' g s t := (hb.block g h.lt).trans h
theorem labelR_below (s : ByteArray) (hs : s.size ≤ 9223372036854775807) (w : World) : Calls Try.prog 10 #[.string s] w (fun e w' => e = .returned (.bool (labelS s.data.toList)) ∧ Below w.heap.size w w') :=
  (labelR_any s hs w).mono (by rintro e w' ⟨h, n, rfl⟩; exact ⟨h, below_drewN5 w n⟩)
theorem textR_below (s t : ByteArray) (hs : s.size ≤ 9223372036854775807) (ht : t.size ≤ 9223372036854775807) (w : World) : Calls Try.prog 23 #[.string s, .string t] w (fun e w' => e = .returned (.int .i64 (cmpL s.data.toList t.data.toList)) ∧ Below w.heap.size w w') :=
  (textR_any s t hs ht w).mono (by rintro e w' ⟨h, n, rfl⟩; exact ⟨h, below_drewN5 w n⟩)

set_option maxRecDepth 100000 in
set_option maxHeartbeats 400000 in
theorem mayNR_any (a : Nm) (h1 : a.ns.size ≤ 9223372036854775807) (h2 : a.sa.size ≤ 9223372036854775807) (w : World) : Calls Try.prog 12 #[.agg #[.string a.ns, .string a.sa]] w (fun e w' => e = .returned (.bool (mayN a)) ∧ Below w.heap.size w w') := by
  obtain ⟨s, t⟩ := a
  change s.size ≤ _ at h1
  change t.size ≤ _ at h2
  unfold mayN
  dsimp only
  have L1 := hideL (labelR_below s h1)
  have L2 := hideL (labelR_below t h2)
  have HX := hideL (NBox.new w s t)
  have HB := hideL ((Below.refl w.heap.size w).alloc (Nat.le_refl _) (.cells #[.string s, .string t] 23))
  obtain ⟨x, hx⟩ : ∃ x, labelS s.data.toList = x := ⟨_, rfl⟩
  obtain ⟨y, hy⟩ : ∃ x, labelS t.data.toList = x := ⟨_, rfl⟩
  rw [hx] at L1 ⊢
  rw [hy] at L2 ⊢
  clear hx hy
  cases x
  · go_enter Try.func12, Try.ntmps12
    go_wp2_with (go_at_call 10; refine (L1.out _).mono ?_; rintro e w2 ⟨rfl, hB2⟩)
    go_ret
    exact ⟨rfl, HB.out.trans (hB2.mono HB.out.size)⟩
  · go_enter Try.func12, Try.ntmps12
    go_wp2_with (go_at_call 10; first
      | (with_reducible refine (L1.out _).mono ?_; rintro e w2 ⟨rfl, hB2⟩; have hc := (HX.out.next hB2).c1)
      | (with_reducible refine (L2.out _).mono ?_; rintro e w3 ⟨rfl, hB3⟩))
    go_ret
    exact ⟨rfl, HB.out.trans ((hB2.trans (hB3.mono hB2.size)).mono HB.out.size)⟩

set_option maxRecDepth 100000 in
set_option maxHeartbeats 400000 in
theorem cmpNR_any (a b : Nm) (h1 : a.ns.size ≤ 9223372036854775807) (h2 : a.sa.size ≤ 9223372036854775807) (h3 : b.ns.size ≤ 9223372036854775807) (h4 : b.sa.size ≤ 9223372036854775807) (w : World) : Calls Try.prog 14 #[.agg #[.string a.ns, .string a.sa], .agg #[.string b.ns, .string b.sa]] w (fun e w' => e = .returned (.int .i64 (cmpN a b)) ∧ Below w.heap.size w w') := by
  obtain ⟨s, t⟩ := a
  obtain ⟨s2, t2⟩ := b
  change s.size ≤ _ at h1
  change t.size ≤ _ at h2
  change s2.size ≤ _ at h3
  change t2.size ≤ _ at h4
  unfold cmpN
  dsimp only
  have L1 := hideL (textR_below s s2 h1 h3)
  have L2 := hideL (textR_below t t2 h2 h4)
  have HB1 := hideL ((Below.refl w.heap.size w).alloc (Nat.le_refl _) (.cells #[.string s, .string t] 23))
  have HX := hideL ((NBox.new w s t).next ((Below.refl _ _).alloc (Nat.le_refl _) (.cells #[.string s2, .string t2] 23)))
  have HY := hideL (NBox.new (w.alloc (.cells #[.string s, .string t] 23)) s2 t2)
  rw [World.size_alloc] at HY
  have HB := hideL (HB1.out.alloc HB1.out.size (.cells #[.string s2, .string t2] 23))
  clear HB1
  obtain ⟨x, hx⟩ : ∃ x, cmpL s.data.toList s2.data.toList = x := ⟨_, rfl⟩
  rw [hx] at L1 ⊢
  obtain ⟨y, hy⟩ : ∃ x, cmpL t.data.toList t2.data.toList = x := ⟨_, rfl⟩
  rw [hy] at L2 ⊢
  clear hx hy
  by_cases h0 : x = 0
  · subst h0
    rw [if_pos rfl]
    go_enter Try.func14, Try.ntmps14
    go_wp2_with (go_at_call 23; first
      | (with_reducible refine (L1.out _).mono ?_; rintro e w2 ⟨rfl, hB2⟩; have hc := (HX.out.next hB2).c1; have hc2 := (HY.out.next hB2).c1)
      | (with_reducible refine (L2.out _).mono ?_; rintro e w3 ⟨rfl, hB3⟩))
    go_ret
    exact ⟨rfl, HB.out.trans ((hB2.trans (hB3.mono hB2.size)).mono HB.out.size)⟩
  · rw [if_neg h0]
    go_enter Try.func14, Try.ntmps14
    go_wp2_with (go_at_call 23; refine (L1.out _).mono ?_; rintro e w2 ⟨rfl, hB2⟩)
    go_ret
    exact ⟨rfl, HB.out.trans (hB2.mono HB.out.size)⟩
/-- A name's text as bytes. -/
def prN (a : Nm) : ByteArray := ⟨#[115, 112, 105, 102, 102, 101, 58, 47, 47, 109, 101, 115, 104, 47, 110, 115, 47]⟩ ++ a.ns ++ ⟨#[47, 115, 97, 47]⟩ ++ a.sa
theorem prN_list (a : Nm) : (prN a).data.toList = textS a.ns.data.toList a.sa.data.toList := by simp [prN, textS, preS, midS]
set_option maxRecDepth 100000 in
set_option maxHeartbeats 400000 in
theorem printNR_any (a : Nm) (h1 : a.ns.size ≤ 10000) (h2 : a.sa.size ≤ 10000) (w : World) : Calls Try.prog 16 #[.agg #[.string a.ns, .string a.sa]] w (fun e w' => e = .returned (.string (prN a)) ∧ Below w.heap.size w w') := by
  obtain ⟨s, t⟩ := a
  change s.size ≤ _ at h1
  change t.size ≤ _ at h2
  unfold prN
  dsimp only
  go_enter Try.func16, Try.ntmps16
  go_wp2_with fail
  go_ret
  exact ⟨rfl, (Below.refl w.heap.size w).alloc (Nat.le_refl _) _⟩
end Go.Proofs.Ytjbfaaoeoggkpaa
