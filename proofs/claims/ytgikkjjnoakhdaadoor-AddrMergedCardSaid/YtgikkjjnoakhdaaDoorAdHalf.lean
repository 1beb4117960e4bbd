/- Package addr: halves. -/
import Derived.Test.YtgikkjjnoakhdaaDoorAdCov
namespace Go.Proofs.YtgikkjjnoakhdaaDoor
open Go.RowKit

theorem BoxAt.frozen {W : World} {g a : Nat} {b : Int} (h : BoxAt W g a b) (i : Nat) : W.frozen? ⟨g, i, none⟩ = false := frozen_of_row W g i _ _ h
theorem BoxAt.st {W : World} {g a : Nat} {b : Int} (h : BoxAt W g a b) (x : Nat) (y : Int) : BoxAt ((W.setCell ⟨g, 0, none⟩ (.int .u32 x)).setCell ⟨g, 1, none⟩ (.int .i64 y)) g x y := by
  have h1 := heap_setCell_same W g 0 _ _ (.int .u32 x) h
  exact heap_setCell_same _ g 1 _ _ (.int .i64 y) h1
theorem BoxAt.other {W : World} {g a k o : Nat} {b : Int} {v : Value} (h : BoxAt W g a b) (hne : g ≠ k) : BoxAt (W.setCell ⟨k, o, none⟩ v) g a b := (heap_setCell_other W ⟨k, o, none⟩ g v hne).trans h

/-- What halves answers. -/
def TwoPost (w : World) (c d : Net) (e : Ending) (w' : World) : Prop := e = .returned (.tuple #[c.val, d.val]) ∧ Below w.heap.size w w'

set_option maxRecDepth 100000 in
set_option maxHeartbeats 400000 in
theorem halves_any (c : Net) (ha : c.a < 4294967296) (hd : sz c.b ∣ c.a) (h0 : -1 ≤ c.b) (h1 : c.b ≤ 32) (w : World) : Calls Tryd.prog 44 #[c.val] w (TwoPost w (lowOf c) (highOf c)) := by
  have hs := sz_pos c.b
  have htop : c.a + (sz c.b - 1) < 4294967296 := by have := mul_step hd (sz_dvd32 c.b) ha; omega
  have hor := hide (or_low (b := c.b) ha hd)
  have hnm := hide (not_mask c.b)
  have HM := hide (fun W => mask_any c.b W)
  have HA := hide (fun W => around_any c.a ha (c.b + 1) W)
  have HA2 := hide (fun W => around_any (c.a + (sz c.b - 1)) htop (c.b + 1) W)
  unfold lowOf highOf
  obtain ⟨a, b⟩ := c
  unfold Net.val
  dsimp only at *
  generalize flo a (b + 1) = x at HA ⊢
  generalize flo (a + (sz b - 1)) (b + 1) = y at HA2 ⊢
  clear hs hd
  go_enter Tryd.func44, Tryd.ntmps44
  go_wp2_with fail
  have hB0 : Below w.heap.size w (((w.alloc (.cells #[.int .u32 a, .int .i64 b] 24)).alloc (.cells #[.int .u32 0, .int .i64 0] 24)).alloc (.cells #[.int .u32 0, .int .i64 0] 24)) := (((Below.refl _ _).alloc (Nat.le_refl _) _).alloc (by simp) _).alloc (by simp; omega) _
  have hX : BoxAt (((w.alloc (.cells #[.int .u32 a, .int .i64 b] 24)).alloc (.cells #[.int .u32 0, .int .i64 0] 24)).alloc (.cells #[.int .u32 0, .int .i64 0] 24)) w.heap.size a b := (Below.heap_alloc _ _ _ (by simp; omega)).trans ((Below.heap_alloc _ _ _ (by simp)).trans (BoxAt.new w a b))
  have hY : BoxAt (((w.alloc (.cells #[.int .u32 a, .int .i64 b] 24)).alloc (.cells #[.int .u32 (0 : Nat), .int .i64 0] 24)).alloc (.cells #[.int .u32 0, .int .i64 0] 24)) (w.heap.size + 1) 0 0 := by
    have := BoxAt.new (w.alloc (.cells #[.int .u32 a, .int .i64 b] 24)) 0 0
    rw [World.size_alloc] at this
    exact (Below.heap_alloc _ _ _ (by simp)).trans this
  have hZ : BoxAt (((w.alloc (.cells #[.int .u32 a, .int .i64 b] 24)).alloc (.cells #[.int .u32 0, .int .i64 0] 24)).alloc (.cells #[.int .u32 (0 : Nat), .int .i64 0] 24)) (w.heap.size + 1 + 1) 0 0 := by
    have := BoxAt.new ((w.alloc (.cells #[.int .u32 a, .int .i64 b] 24)).alloc (.cells #[.int .u32 0, .int .i64 0] 24)) 0 0
    rw [World.size_alloc, World.size_alloc] at this
    exact this
  have hG : w.heap.size ≤ (((w.alloc (.cells #[.int .u32 a, .int .i64 b] 24)).alloc (.cells #[.int .u32 0, .int .i64 0] 24)).alloc (.cells #[.int .u32 0, .int .i64 0] 24)).heap.size := by simp; omega
  have HX := hide hX
  have HY := hide hY
  have HZ := hide hZ
  have HB0 := hide hB0
  have HG := hide hG
  clear hX hY hZ hB0 hG
  generalize (((w.alloc (.cells #[.int .u32 a, .int .i64 b] 24)).alloc (.cells #[.int .u32 0, .int .i64 0] 24)).alloc (.cells #[.int .u32 0, .int .i64 0] 24)) = W1 at *
  obtain ⟨g, hg⟩ : ∃ g, w.heap.size = g := ⟨_, rfl⟩
  rw [hg] at HX HY HZ ⊢
  have HGg := hide (Nat.le_of_eq hg)
  clear hg
  have hwr : IntKind.i64.wrap (b + 1) = b + 1 := IntWalk.i64_in _ (by omega)
  refine wp_region_held_drew (S := fun w' => BoxAt w' g a b) (by kernel_rfl) HX.out (fun hHeld => ?_)
  refine wpAnyH_take (i := 0) (oi := { dst := some 4, op := Op.fieldAddr 24 (Operand.tmp 1) 0, type := 0, pos := "nets.go:63", after := #[], guard := none }) (v := ?_) rfl (by kernel_rfl) (by kernel_rfl) (by kernel_rfl) (fun _ _ _ h => h) (Or.inl ⟨by rfl, ?_⟩) hHeld ?_
  rotate_left
  · intro w hSw; (try dsimp only at hSw); go_simp; first | done | with_reducible rfl
  try simp only [Act.put, List.setIfInBounds_toArray, List.set_cons_zero, List.set_cons_succ]
  refine wpAnyH_take (i := 1) (oi := { dst := some 5, op := Op.load 22 (Operand.tmp 4), type := 22, pos := "nets.go:63", after := #[{ on := 0, ground := Ground.data }], guard := none }) (v := ?_) rfl (by kernel_rfl) (by kernel_rfl) (by kernel_rfl) (fun _ _ _ h => h) (Or.inl ⟨by rfl, ?_⟩) hHeld ?_
  rotate_left
  · intro w hSw; (try dsimp only at hSw); have e0 := hSw.c0; have e1 := hSw.c1; go_simp; first | done | with_reducible rfl
  try simp only [Act.put, List.setIfInBounds_toArray, List.set_cons_zero, List.set_cons_succ]
  refine wpAnyH_take (i := 2) (oi := { dst := some 6, op := Op.fieldAddr 24 (Operand.tmp 1) 1, type := 0, pos := "nets.go:63", after := #[], guard := none }) (v := ?_) rfl (by kernel_rfl) (by kernel_rfl) (by kernel_rfl) (fun _ _ _ h => h) (Or.inl ⟨by rfl, ?_⟩) hHeld ?_
  rotate_left
  · intro w hSw; (try dsimp only at hSw); go_simp; first | done | with_reducible rfl
  try simp only [Act.put, List.setIfInBounds_toArray, List.set_cons_zero, List.set_cons_succ]
  refine wpAnyH_take (i := 3) (oi := { dst := some 7, op := Op.load 3 (Operand.tmp 6), type := 3, pos := "nets.go:63", after := #[{ on := 2, ground := Ground.data }], guard := none }) (v := ?_) rfl (by kernel_rfl) (by kernel_rfl) (by kernel_rfl) (fun _ _ _ h => h) (Or.inl ⟨by rfl, ?_⟩) hHeld ?_
  rotate_left
  · intro w hSw; (try dsimp only at hSw); have e0 := hSw.c0; have e1 := hSw.c1; go_simp; first | done | with_reducible rfl
  try simp only [Act.put, List.setIfInBounds_toArray, List.set_cons_zero, List.set_cons_succ]
  refine wpAnyH_take (i := 4) (oi := { dst := some 8, op := Op.binOp BinOp.add 3 (Operand.tmp 7) (Operand.const (Value.int IntKind.i64 1)) 3, type := 3, pos := "nets.go:63", after := #[{ on := 3, ground := Ground.data }], guard := none }) (v := ?_) rfl (by kernel_rfl) (by kernel_rfl) (by kernel_rfl) (fun _ _ _ h => h) (Or.inl ⟨by rfl, ?_⟩) hHeld ?_
  rotate_left
  · intro w hSw; (try dsimp only at hSw); go_simp; first | done | with_reducible rfl
  try simp only [Act.put, List.setIfInBounds_toArray, List.set_cons_zero, List.set_cons_succ]
  refine wpAnyH_take (i := 6) (oi := { dst := some 10, op := Op.fieldAddr 24 (Operand.tmp 1) 0, type := 0, pos := "nets.go:63", after := #[], guard := none }) (v := ?_) rfl (by kernel_rfl) (by kernel_rfl) (by kernel_rfl) (fun _ _ _ h => h) (Or.inl ⟨by rfl, ?_⟩) hHeld ?_
  rotate_left
  · intro w hSw; (try dsimp only at hSw); go_simp; first | done | with_reducible rfl
  try simp only [Act.put, List.setIfInBounds_toArray, List.set_cons_zero, List.set_cons_succ]
  refine wpAnyH_take (i := 7) (oi := { dst := some 11, op := Op.load 22 (Operand.tmp 10), type := 22, pos := "nets.go:63", after := #[{ on := 6, ground := Ground.data }], guard := none }) (v := ?_) rfl (by kernel_rfl) (by kernel_rfl) (by kernel_rfl) (fun _ _ _ h => h) (Or.inl ⟨by rfl, ?_⟩) hHeld ?_
  rotate_left
  · intro w hSw; (try dsimp only at hSw); have e0 := hSw.c0; have e1 := hSw.c1; go_simp; first | done | with_reducible rfl
  try simp only [Act.put, List.setIfInBounds_toArray, List.set_cons_zero, List.set_cons_succ]
  refine wpAnyH_take (i := 8) (oi := { dst := some 12, op := Op.fieldAddr 24 (Operand.tmp 1) 1, type := 0, pos := "nets.go:63", after := #[], guard := none }) (v := ?_) rfl (by kernel_rfl) (by kernel_rfl) (by kernel_rfl) (fun _ _ _ h => h) (Or.inl ⟨by rfl, ?_⟩) hHeld ?_
  rotate_left
  · intro w hSw; (try dsimp only at hSw); go_simp; first | done | with_reducible rfl
  try simp only [Act.put, List.setIfInBounds_toArray, List.set_cons_zero, List.set_cons_succ]
  refine wpAnyH_take (i := 9) (oi := { dst := some 13, op := Op.load 3 (Operand.tmp 12), type := 3, pos := "nets.go:63", after := #[{ on := 8, ground := Ground.data }], guard := none }) (v := ?_) rfl (by kernel_rfl) (by kernel_rfl) (by kernel_rfl) (fun _ _ _ h => h) (Or.inl ⟨by rfl, ?_⟩) hHeld ?_
  rotate_left
  · intro w hSw; (try dsimp only at hSw); have e0 := hSw.c0; have e1 := hSw.c1; go_simp; first | done | with_reducible rfl
  try simp only [Act.put, List.setIfInBounds_toArray, List.set_cons_zero, List.set_cons_succ]
  refine wpAnyH_take (i := 13) (oi := { dst := some 17, op := Op.fieldAddr 24 (Operand.tmp 1) 1, type := 0, pos := "nets.go:63", after := #[], guard := none }) (v := ?_) rfl (by kernel_rfl) (by kernel_rfl) (by kernel_rfl) (fun _ _ _ h => h) (Or.inl ⟨by rfl, ?_⟩) hHeld ?_
  rotate_left
  · intro w hSw; (try dsimp only at hSw); go_simp; first | done | with_reducible rfl
  try simp only [Act.put, List.setIfInBounds_toArray, List.set_cons_zero, List.set_cons_succ]
  refine wpAnyH_take (i := 14) (oi := { dst := some 18, op := Op.load 3 (Operand.tmp 17), type := 3, pos := "nets.go:63", after := #[{ on := 13, ground := Ground.data }], guard := none }) (v := ?_) rfl (by kernel_rfl) (by kernel_rfl) (by kernel_rfl) (fun _ _ _ h => h) (Or.inl ⟨by rfl, ?_⟩) hHeld ?_
  rotate_left
  · intro w hSw; (try dsimp only at hSw); have e0 := hSw.c0; have e1 := hSw.c1; go_simp; first | done | with_reducible rfl
  try simp only [Act.put, List.setIfInBounds_toArray, List.set_cons_zero, List.set_cons_succ]
  refine wpAnyH_take (i := 15) (oi := { dst := some 19, op := Op.binOp BinOp.add 3 (Operand.tmp 18) (Operand.const (Value.int IntKind.i64 1)) 3, type := 3, pos := "nets.go:63", after := #[{ on := 14, ground := Ground.data }], guard := none }) (v := ?_) rfl (by kernel_rfl) (by kernel_rfl) (by kernel_rfl) (fun _ _ _ h => h) (Or.inl ⟨by rfl, ?_⟩) hHeld ?_
  rotate_left
  · intro w hSw; (try dsimp only at hSw); go_simp; first | done | with_reducible rfl
  try simp only [Act.put, List.setIfInBounds_toArray, List.set_cons_zero, List.set_cons_succ]
  refine wpAnyH_ready (rs := [5]) (by kernel_rfl) (by simp) ?_
  refine AllReadyH.cons (o := { dst := some 9, op := Op.call { callee := Callee.value (Operand.func 46), args := #[Operand.tmp 5, Operand.tmp 8], argTypes := #[22, 3] }, type := 24, pos := "nets.go:63", after := #[{ on := 1, ground := Ground.data }, { on := 4, ground := Ground.data }], guard := none }) rfl (fun K hK => ?_) AllReadyH.nil
  clear hHeld
  go_simp
  refine (HA.out _).mono ?_
  rintro e w2 ⟨rfl, hB⟩
  have HX2 := hide (HX.out.next hB)
  have HY2 := hide (HY.out.next hB)
  have HZ2 := hide (HZ.out.next hB)
  have HB2 := hide (below_next HB0.out hB HG.out (.inr rfl))
  have HG2 := hide (Nat.le_trans HG.out hB.size)
  clear hB
  dsimp only
  refine hK.out _ _ (HX2.out) (fun hHeld => ?_)
  clear hK K
  try simp only [Act.put, List.setIfInBounds_toArray, List.set_cons_zero, List.set_cons_succ]
  refine wpAnyH_ready (rs := [10]) (by kernel_rfl) (by simp) ?_
  refine AllReadyH.cons (o := { dst := some 14, op := Op.call { callee := Callee.value (Operand.func 24), args := #[Operand.tmp 13], argTypes := #[3] }, type := 22, pos := "nets.go:63", after := #[{ on := 9, ground := Ground.data }, { on := 5, ground := Ground.chain }], guard := none }) rfl (fun K hK => ?_) AllReadyH.nil
  clear hHeld
  go_simp
  refine (HM.out _).mono ?_
  rintro e w2 ⟨rfl, rfl⟩
  refine hK.out _ _ (HX2.out) (fun hHeld => ?_)
  clear hK K
  try simp only [Act.put, List.setIfInBounds_toArray, List.set_cons_zero, List.set_cons_succ]
  refine wpAnyH_take (i := 11) (oi := { dst := some 15, op := Op.unOp UnOp.xor 22 (Operand.tmp 14), type := 22, pos := "nets.go:63", after := #[{ on := 10, ground := Ground.data }], guard := none }) (v := ?_) rfl (by kernel_rfl) (by kernel_rfl) (by kernel_rfl) (fun _ _ _ h => h) (Or.inl ⟨by rfl, ?_⟩) hHeld ?_
  rotate_left
  · intro w hSw; (try dsimp only at hSw); go_simp; first | done | with_reducible rfl
  try simp only [Act.put, List.setIfInBounds_toArray, List.set_cons_zero, List.set_cons_succ]
  refine wpAnyH_take (i := 12) (oi := { dst := some 16, op := Op.binOp BinOp.or 22 (Operand.tmp 11) (Operand.tmp 15) 22, type := 22, pos := "nets.go:63", after := #[{ on := 7, ground := Ground.data }, { on := 11, ground := Ground.data }], guard := none }) (v := ?_) rfl (by kernel_rfl) (by kernel_rfl) (by kernel_rfl) (fun _ _ _ h => h) (Or.inl ⟨by rfl, ?_⟩) hHeld ?_
  rotate_left
  · intro w hSw; (try dsimp only at hSw); go_simp; first | done | with_reducible rfl
  try simp only [Act.put, List.setIfInBounds_toArray, List.set_cons_zero, List.set_cons_succ]
  refine wpAnyH_ready (rs := [16]) (by kernel_rfl) (by simp) ?_
  refine AllReadyH.cons (o := { dst := some 20, op := Op.call { callee := Callee.value (Operand.func 46), args := #[Operand.tmp 16, Operand.tmp 19], argTypes := #[22, 3] }, type := 24, pos := "nets.go:63", after := #[{ on := 12, ground := Ground.data }, { on := 15, ground := Ground.data }, { on := 10, ground := Ground.chain }], guard := none }) rfl (fun K hK => ?_) AllReadyH.nil
  clear hHeld
  go_simp
  rw [show (if IntKind.u32.signed = true then (-1 : Int) else IntKind.u32.max) = IntKind.u32.max from rfl, hnm.out, hor.out]
  refine (HA2.out _).mono ?_
  rintro e w3 ⟨rfl, hB⟩
  have HX3 := hide (HX2.out.next hB)
  have HY3 := hide (HY2.out.next hB)
  have HZ3 := hide (HZ2.out.next hB)
  have HB3 := hide (below_next HB2.out hB HG2.out (.inl rfl))
  have HG3 := hide (Nat.le_trans HG2.out hB.size)
  clear hB
  dsimp only
  refine hK.out _ _ (HX3.out) (fun hHeld => ?_)
  clear hK K
  try simp only [Act.put, List.setIfInBounds_toArray, List.set_cons_zero, List.set_cons_succ]
  have d0 := HY3.out.c0
  have d1 := HY3.out.c1
  have d2 := HZ3.out.c0
  have d3 := HZ3.out.c1
  have f0 := HY3.out.frozen 0
  have f1 := HY3.out.frozen 1
  have f2 := HZ3.out.frozen 0
  have f3 := HZ3.out.frozen 1
  refine wpAnyH_ready (rs := [17]) (by kernel_rfl) (by simp) ?_
  refine AllReadyH.cons (o := { dst := none, op := Op.store 24 (Operand.tmp 2) (Operand.tmp 9), type := 0, pos := "nets.go:63", after := #[{ on := 5, ground := Ground.data }, { on := 16, ground := Ground.chain }, { on := 0, ground := Ground.phase }, { on := 1, ground := Ground.phase }, { on := 2, ground := Ground.phase }, { on := 3, ground := Ground.phase }, { on := 4, ground := Ground.phase }, { on := 5, ground := Ground.phase }, { on := 6, ground := Ground.textOnly Departure.lateStores }, { on := 7, ground := Ground.textOnly Departure.lateStores }, { on := 8, ground := Ground.textOnly Departure.lateStores }, { on := 9, ground := Ground.textOnly Departure.lateStores }, { on := 10, ground := Ground.textOnly Departure.lateStoresUnsure }, { on := 11, ground := Ground.textOnly Departure.lateStores }, { on := 12, ground := Ground.textOnly Departure.lateStores }, { on := 13, ground := Ground.textOnly Departure.lateStores }, { on := 14, ground := Ground.textOnly Departure.lateStores }, { on := 15, ground := Ground.textOnly Departure.lateStores }, { on := 16, ground := Ground.textOnly Departure.lateStoresUnsure }], guard := none }) rfl (fun K hK => ?_) AllReadyH.nil
  clear hHeld
  go_simp
  obtain ⟨w4, hw4⟩ : ∃ w4, w4 = (w3.setCell ⟨g + 1, 0, none⟩ (.int .u32 x)).setCell ⟨g + 1, 1, none⟩ (.int .i64 (b + 1)) := ⟨_, rfl⟩
  have HX4 : Hid (BoxAt w4 g a b) := hide (by rw [hw4]; exact (HX3.out.other (by omega)).other (by omega))
  have HY4 : Hid (BoxAt w4 (g + 1) x (b + 1)) := hide (by rw [hw4]; exact HY3.out.st x (b + 1))
  have HZ4 := hide (show BoxAt w4 _ _ _ by rw [hw4]; exact (HZ3.out.other (k := g + 1) (by omega)).other (by omega))
  have HB4 : Hid (Below w.heap.size w w4) := hide (by rw [hw4]; exact (HB3.out.setCell (by have := HGg.out; simp; omega) _).setCell (by have := HGg.out; simp; omega) _)
  rw [← hw4]
  clear hw4
  clear d0 d1 d2 d3 f0 f1 f2 f3
  refine hK.out _ _ (HX4.out) (fun hHeld => ?_)
  clear hK K
  try simp only [Act.put]
  have d0 := HY4.out.c0
  have d1 := HY4.out.c1
  have d2 := HZ4.out.c0
  have d3 := HZ4.out.c1
  have f0 := HY4.out.frozen 0
  have f1 := HY4.out.frozen 1
  have f2 := HZ4.out.frozen 0
  have f3 := HZ4.out.frozen 1
  refine wpAnyH_ready (rs := [18]) (by kernel_rfl) (by simp) ?_
  refine AllReadyH.cons (o := { dst := none, op := Op.store 24 (Operand.tmp 3) (Operand.tmp 20), type := 0, pos := "nets.go:63", after := #[{ on := 16, ground := Ground.data }, { on := 17, ground := Ground.chain }, { on := 0, ground := Ground.phase }, { on := 1, ground := Ground.phase }, { on := 2, ground := Ground.phase }, { on := 3, ground := Ground.phase }, { on := 4, ground := Ground.phase }, { on := 5, ground := Ground.phase }, { on := 6, ground := Ground.phase }, { on := 7, ground := Ground.phase }, { on := 8, ground := Ground.phase }, { on := 9, ground := Ground.phase }, { on := 10, ground := Ground.phase }, { on := 11, ground := Ground.phase }, { on := 12, ground := Ground.phase }, { on := 13, ground := Ground.phase }, { on := 14, ground := Ground.phase }, { on := 15, ground := Ground.phase }, { on := 16, ground := Ground.phase }, { on := 17, ground := Ground.phase }], guard := none }) rfl (fun K hK => ?_) AllReadyH.nil
  clear hHeld
  go_simp
  obtain ⟨w5, hw5⟩ : ∃ w5, w5 = (w4.setCell ⟨g + 1 + 1, 0, none⟩ (.int .u32 y)).setCell ⟨g + 1 + 1, 1, none⟩ (.int .i64 (b + 1)) := ⟨_, rfl⟩
  have HX5 : Hid (BoxAt w5 g a b) := hide (by rw [hw5]; exact (HX4.out.other (by omega)).other (by omega))
  have HZ5 : Hid (BoxAt w5 (g + 1 + 1) y (b + 1)) := hide (by rw [hw5]; exact HZ4.out.st y (b + 1))
  have HY5 := hide (show BoxAt w5 _ _ _ by rw [hw5]; exact (HY4.out.other (k := g + 1 + 1) (by omega)).other (by omega))
  have HB5 : Hid (Below w.heap.size w w5) := hide (by rw [hw5]; exact (HB4.out.setCell (by have := HGg.out; simp; omega) _).setCell (by have := HGg.out; simp; omega) _)
  rw [← hw5]
  clear hw5
  clear d0 d1 d2 d3 f0 f1 f2 f3
  refine hK.out _ _ (HX5.out) (fun hHeld => ?_)
  clear hK K
  try simp only [Act.put]
  refine wpAnyH_done (by kernel_rfl) ?_ _
  clear hHeld
  have d0 := HY5.out.c0
  have d1 := HY5.out.c1
  have d2 := HZ5.out.c0
  have d3 := HZ5.out.c1
  go_wp2_with fail
  exact bodyPost_ret (v := .tuple #[.agg #[.int .u32 x, .int .i64 (b + 1)], .agg #[.int .u32 y, .int .i64 (b + 1)]]) (by simp [results, Tryd.results44, go_sem, d0, d1, d2, d3]) rfl ⟨rfl, HB5.out⟩
end Go.Proofs.YtgikkjjnoakhdaaDoor
