/- Package addr: In, Covers, First, Last. -/
import Derived.Test.YtgikkjjnoakhdaaDoorAdMask
namespace Go.Proofs.YtgikkjjnoakhdaaDoor
open Go.RowKit

theorem inB_no {c : Net} {x : Nat} (h : mayB c = false) : inB c x = false := by unfold inB; rw [h]; rfl
theorem inB_may {c : Net} {x : Nat} (h : mayB c = true) : inB c x = decide (c.a = flo x c.b) := by unfold inB; rw [h]; rfl

/-- A box of a net. -/
def BoxAt (W : World) (g : Nat) (a : Nat) (b : Int) : Prop := W.heap[g]? = some (.cells #[.int .u32 a, .int .i64 b] 24 (0, 0))
theorem BoxAt.c0 {W : World} {g a : Nat} {b : Int} (h : BoxAt W g a b) : W.cell? ⟨g, 0, none⟩ = some (.int .u32 a) := (cell_of_row W g 0 _ _ _ h).trans rfl
theorem BoxAt.c1 {W : World} {g a : Nat} {b : Int} (h : BoxAt W g a b) : W.cell? ⟨g, 1, none⟩ = some (.int .i64 b) := (cell_of_row W g 1 _ _ _ h).trans rfl
theorem BoxAt.lt {W : World} {g a : Nat} {b : Int} (h : BoxAt W g a b) : g < W.heap.size := (Array.getElem?_eq_some_iff.1 h).1
theorem BoxAt.new (w : World) (a : Nat) (b : Int) : BoxAt (w.alloc (.cells #[.int .u32 a, .int .i64 b] 24)) w.heap.size a b := heap_alloc_new w _
theorem BoxAt.next {W0 W W' : World} {g a : Nat} {b : Int} (h : BoxAt W0 g a b) (hb : Below W.heap.size W W') (e : W.heap = W0.heap := by rfl) : BoxAt W' g a b := (hb.block g (by rw [e]; exact h.lt)).trans (by rw [e]; exact h)
theorem below_next {B : Nat} {w0 W0 W W' : World} (h : Below B w0 W0) (hb : Below W.heap.size W W') (hB : B ≤ W0.heap.size) (e : W = W0 ∨ W = W0.drew) : Below B w0 W' := by
  rcases e with rfl | rfl
  · exact h.trans (hb.mono hB)
  · exact h.drew.trans (hb.mono hB)

set_option maxRecDepth 100000 in
theorem in_any (c : Net) (ha : c.a < 4294967296) (y : Nat) (hy : y < 4294967296) (w : World) : Calls Tryd.prog 27 #[c.val, .int .u32 y] w (fun e w' => e = .returned (.bool (inB c y)) ∧ Below w.heap.size w w') := by
  have HM := hide (fun W => may_any c ha W)
  cases hm : mayB c with
  | false =>
    rw [inB_no hm]
    rw [hm] at HM
    obtain ⟨a, b⟩ := c
    unfold Net.val at HM ⊢
    dsimp only at ha HM ⊢
    clear hm ha
    go_enter Tryd.func27, Tryd.ntmps27
    go_wp2_with fail
    have hB0 : Below w.heap.size w (w.alloc (.cells #[.int .u32 a, .int .i64 b] 24)) := (Below.refl _ _).alloc (Nat.le_refl _) _
    have HX := hide (BoxAt.new w a b)
    have c0 := HX.out.c0
    have c1 := HX.out.c1
    generalize w.alloc (.cells #[.int .u32 a, .int .i64 b] 24) = W1 at *
    obtain ⟨g, hg⟩ : ∃ g, w.heap.size = g := ⟨_, rfl⟩
    have HB0 := hide hB0
    rw [hg] at c0 c1 HX ⊢
    clear hg hB0
    refine wp_region_held_drew (S := fun w' => BoxAt w' g a b) (by kernel_rfl) HX.out (fun hHeld => ?_)
    refine wpAnyH_take (i := 0) (oi := { dst := some 5, op := Op.load 24 (Operand.tmp 2), type := 24, pos := "nets.go:28", after := #[], guard := none }) (v := ?_) rfl (by kernel_rfl) (by kernel_rfl) (by kernel_rfl) (fun _ _ _ h => h) (Or.inl ⟨by rfl, ?_⟩) hHeld ?_
    rotate_left
    · intro w hSw; (try dsimp only at hSw); have e0 := hSw.c0; have e1 := hSw.c1; go_simp; first | done | with_reducible rfl
    try simp only [Act.put, List.setIfInBounds_toArray, List.set_cons_zero, List.set_cons_succ]
    refine wpAnyH_ready (rs := [1]) (by kernel_rfl) (by simp) ?_
    refine AllReadyH.cons (o := { dst := some 6, op := Op.call { callee := Callee.value (Operand.func 26), args := #[Operand.tmp 5], argTypes := #[24] }, type := 4, pos := "nets.go:28", after := #[{ on := 0, ground := Ground.data }], guard := none }) rfl (fun K hK => ?_) AllReadyH.nil
    clear hHeld
    go_simp
    refine (HM.out _).mono ?_
    rintro e w2 ⟨rfl, hB⟩
    have HX2 := hide (HX.out.next hB)
    have HB2 := hide hB
    clear hB
    refine hK.out _ _ (HX2.out) (fun hHeld => ?_)
    clear hK K
    try simp only [Act.put, List.setIfInBounds_toArray, List.set_cons_zero, List.set_cons_succ]
    refine wpAnyH_take (i := 2) (oi := { dst := some 7, op := Op.move (Operand.tmp 6), type := 4, pos := "nets.go:28", after := #[{ on := 1, ground := Ground.data }, { on := 1, ground := Ground.chain }], guard := none }) (v := ?_) rfl (by kernel_rfl) (by kernel_rfl) (by kernel_rfl) (fun _ _ _ h => h) (Or.inl ⟨by rfl, ?_⟩) hHeld ?_
    rotate_left
    · intro w hSw; (try dsimp only at hSw); go_simp; first | done | with_reducible rfl
    try simp only [Act.put, List.setIfInBounds_toArray, List.set_cons_zero, List.set_cons_succ]
    refine wpAnyH_take (i := 3) (oi := { dst := some 8, op := Op.load 24 (Operand.tmp 2), type := 24, pos := "nets.go:28", after := #[{ on := 2, ground := Ground.guard }], guard := some (2, true) }) (v := undef) rfl (by kernel_rfl) (by kernel_rfl) (by kernel_rfl) (fun _ _ _ h => h) (Or.inr ⟨by rfl, rfl⟩) hHeld ?_
    try simp only [Act.put, List.setIfInBounds_toArray, List.set_cons_zero, List.set_cons_succ]
    refine wpAnyH_take (i := 4) (oi := { dst := some 9, op := Op.move (Operand.tmp 1), type := 22, pos := "nets.go:28", after := #[{ on := 2, ground := Ground.guard }], guard := some (2, true) }) (v := undef) rfl (by kernel_rfl) (by kernel_rfl) (by kernel_rfl) (fun _ _ _ h => h) (Or.inr ⟨by rfl, rfl⟩) hHeld ?_
    try simp only [Act.put, List.setIfInBounds_toArray, List.set_cons_zero, List.set_cons_succ]
    refine wpAnyH_take (i := 5) (oi := { dst := some 10, op := Op.fieldAddr 24 (Operand.tmp 2) 1, type := 0, pos := "nets.go:28", after := #[{ on := 2, ground := Ground.guard }], guard := some (2, true) }) (v := undef) rfl (by kernel_rfl) (by kernel_rfl) (by kernel_rfl) (fun _ _ _ h => h) (Or.inr ⟨by rfl, rfl⟩) hHeld ?_
    try simp only [Act.put, List.setIfInBounds_toArray, List.set_cons_zero, List.set_cons_succ]
    refine wpAnyH_take (i := 6) (oi := { dst := some 11, op := Op.load 3 (Operand.tmp 10), type := 3, pos := "nets.go:28", after := #[{ on := 5, ground := Ground.data }, { on := 2, ground := Ground.guard }], guard := some (2, true) }) (v := undef) rfl (by kernel_rfl) (by kernel_rfl) (by kernel_rfl) (fun _ _ _ h => h) (Or.inr ⟨by rfl, rfl⟩) hHeld ?_
    try simp only [Act.put, List.setIfInBounds_toArray, List.set_cons_zero, List.set_cons_succ]
    refine wpAnyH_take (i := 7) (oi := { dst := some 12, op := Op.call { callee := Callee.value (Operand.func 46), args := #[Operand.tmp 9, Operand.tmp 11], argTypes := #[22, 3] }, type := 24, pos := "nets.go:28", after := #[{ on := 4, ground := Ground.data }, { on := 6, ground := Ground.data }, { on := 2, ground := Ground.chain }, { on := 2, ground := Ground.guard }], guard := some (2, true) }) (v := undef) rfl (by kernel_rfl) (by kernel_rfl) (by kernel_rfl) (fun _ _ _ h => h) (Or.inr ⟨by rfl, rfl⟩) hHeld ?_
    try simp only [Act.put, List.setIfInBounds_toArray, List.set_cons_zero, List.set_cons_succ]
    refine wpAnyH_take (i := 8) (oi := { dst := some 13, op := Op.binOp BinOp.eql 24 (Operand.tmp 8) (Operand.tmp 12) 24, type := 4, pos := "nets.go:28", after := #[{ on := 3, ground := Ground.data }, { on := 7, ground := Ground.data }, { on := 2, ground := Ground.guard }], guard := some (2, true) }) (v := undef) rfl (by kernel_rfl) (by kernel_rfl) (by kernel_rfl) (fun _ _ _ h => h) (Or.inr ⟨by rfl, rfl⟩) hHeld ?_
    try simp only [Act.put, List.setIfInBounds_toArray, List.set_cons_zero, List.set_cons_succ]
    refine wpAnyH_take (i := 9) (oi := { dst := some 14, op := Op.pick (Operand.tmp 7) (Operand.tmp 13) (Operand.const (Value.bool false)), type := 4, pos := "nets.go:28", after := #[{ on := 2, ground := Ground.data }, { on := 8, ground := Ground.data }], guard := none }) (v := ?_) rfl (by kernel_rfl) (by kernel_rfl) (by kernel_rfl) (fun _ _ _ h => h) (Or.inl ⟨by rfl, ?_⟩) hHeld ?_
    rotate_left
    · intro w hSw; (try dsimp only at hSw); go_simp; first | done | with_reducible rfl
    try simp only [Act.put, List.setIfInBounds_toArray, List.set_cons_zero, List.set_cons_succ]
    refine wpAnyH_take (i := 10) (oi := { dst := some 4, op := Op.assign (Operand.tmp 14), type := 4, pos := "nets.go:28", after := #[{ on := 9, ground := Ground.data }, { on := 7, ground := Ground.chain }, { on := 0, ground := Ground.phase }, { on := 1, ground := Ground.phase }, { on := 2, ground := Ground.phase }, { on := 3, ground := Ground.phase }, { on := 4, ground := Ground.phase }, { on := 5, ground := Ground.phase }, { on := 6, ground := Ground.phase }, { on := 7, ground := Ground.phase }, { on := 8, ground := Ground.phase }, { on := 9, ground := Ground.phase }], guard := none }) (v := ?_) rfl (by kernel_rfl) (by kernel_rfl) (by kernel_rfl) (fun _ _ _ h => h) (Or.inl ⟨by rfl, ?_⟩) hHeld ?_
    rotate_left
    · intro w hSw; (try dsimp only at hSw); go_simp; first | done | with_reducible rfl
    try simp only [Act.put, List.setIfInBounds_toArray, List.set_cons_zero, List.set_cons_succ]
    refine wpAnyH_done (by kernel_rfl) ?_ _
    clear hHeld
    go_wp2_with fail
    go_ret
    exact ⟨rfl, HB0.out.drew.trans (HB2.out.mono HB0.out.size)⟩
  | true =>
    rw [inB_may hm]
    rw [hm] at HM
    obtain ⟨a, b⟩ := c
    unfold Net.val at HM ⊢
    dsimp only at ha HM ⊢
    have HA := hide (fun W => around_any y hy b W)
    have he := fun W : World => net_eql a (flo y b) b b W
    rw [show (decide (a = flo y b) && decide (b = b)) = decide (a = flo y b) by simp] at he
    generalize decide (a = flo y b) = z at he ⊢
    generalize flo y b = x at he HA
    clear hm ha hy
    go_enter Tryd.func27, Tryd.ntmps27
    go_wp2_with fail
    have hB0 : Below w.heap.size w (w.alloc (.cells #[.int .u32 a, .int .i64 b] 24)) := (Below.refl _ _).alloc (Nat.le_refl _) _
    have HX := hide (BoxAt.new w a b)
    have c0 := HX.out.c0
    have c1 := HX.out.c1
    generalize w.alloc (.cells #[.int .u32 a, .int .i64 b] 24) = W1 at *
    obtain ⟨g, hg⟩ : ∃ g, w.heap.size = g := ⟨_, rfl⟩
    have HB0 := hide hB0
    rw [hg] at c0 c1 HX ⊢
    clear hg hB0
    go_region_held3 (fun w' => w'.cell? ⟨g, 0, none⟩ = some (.int .u32 a) ∧ w'.cell? ⟨g, 1, none⟩ = some (.int .i64 b))
      (go_keep)
      (first | (go_at_call 26; refine (HM.out _).mono ?_; rintro e w2 ⟨rfl, hB⟩; have d0 := (HX.out.next hB).c0; have d1 := (HX.out.next hB).c1; have HX2 := hide (HX.out.next hB); have HB2 := hide hB; clear hB)
             | (go_at_call 46; refine (HA.out _).mono ?_; rintro e w3 ⟨rfl, hB⟩; have d2 := (HX2.out.next hB).c0; have d3 := (HX2.out.next hB).c1; have HB3 := hide hB; clear hB))
    go_wp2_with fail
    go_ret
    exact ⟨rfl, (HB0.out.drew.trans (HB2.out.mono HB0.out.size)).trans (HB3.out.mono (Nat.le_trans HB0.out.size HB2.out.size))⟩
end Go.Proofs.YtgikkjjnoakhdaaDoor
