/- The law MacEqual: its walk. -/
import Derived.Test.YtjfidelegmjnkaaProg
import Derived.Test.YtjfidelegmjnkaaMacAwake
import Derived.Test.YtjfidelegmjnkaaGen
import Derived.Deep.RegionHeld3
import Derived.Deep.MidRow
namespace Go.Proofs.Ytjfidelegmjnkaa
open Go.RowKit

theorem under32 : Try.prog.underlying 25 = some (.array 32 5) := Try.underlying25

theorem size_row32 {C : List Value} (h : C.length = 32) : (Try.prog.info? 25).map (·.size) = some C.length := by rw [h]; exact size36

/-- A row of numbers, cell by cell. -/
theorem rangeAt_of {w : World} {g : Nat} {t : TypeId} {k : IntKind} {l : List Int} (h : Blk w g t k l) : w.rangeAt g 0 (l.map (Value.int k)) := blk_range h

set_option maxRecDepth 100000 in
set_option maxHeartbeats 2000000 in
theorem equal_walk (a b : List Int) (w : World) (la : a.length = 32) (ra : ∀ i, i < 32 → 0 ≤ nth a i ∧ nth a i < 256) (lb : b.length = 32) (rb : ∀ i, i < 32 → 0 ≤ nth b i ∧ nth b i < 256) :
    Calls Try.prog 4 #[.agg (cellsOf .u8 a), .agg (cellsOf .u8 b)] w (LawPost w) := by
  have hd := diffTo_all a b la lb ra rb
  have hs := diff_self b lb rb
  have HEQ : Hid (∀ w : World, (Op.equalIn 10000 25 (.agg (cellsOf .u8 a)) (.agg (cellsOf .u8 b))).run Try.prog w = .ok (a == b) w) := hide (run_equalIn_cells (P := Try.prog) 9998 25 5 32 .u8 Try.underlying25 Try.underlying5 size5 a b la lb)
  have HE := hide (fun W => equal_any a b W (hide la) (hide lb))
  have HF := hide (fun W => equal_any b b W (hide lb) (hide lb))
  rw [hd] at HE
  rw [hs] at HF
  go_enter Try.func4, Try.ntmps4
  go_wp2_with fail
  have hb0 : Blk ((w.alloc (.cells (cellsOf .u8 a) 25)).alloc (.cells (cellsOf .u8 b) 25)) w.heap.size 25 .u8 a := (Blk.new w _ _ _).alloc _
  have hb1 : Blk ((w.alloc (.cells (cellsOf .u8 a) 25)).alloc (.cells (cellsOf .u8 b) 25)) (w.heap.size + 1) 25 .u8 b := by
    have := Blk.new (w.alloc (.cells (cellsOf .u8 a) 25)) 25 .u8 b
    simpa using this
  have hB0 : Below w.heap.size w ((w.alloc (.cells (cellsOf .u8 a) 25)).alloc (.cells (cellsOf .u8 b) 25)) := ((Below.refl _ _).alloc (Nat.le_refl _) _).alloc (by simp) _
  generalize (w.alloc (.cells (cellsOf .u8 a) 25)).alloc (.cells (cellsOf .u8 b) 25) = w0 at hb0 hb1 hB0 ⊢
  have hl0 := hb0.lt
  have hl1 := hb1.lt
  rw [show cellsOf .u8 a = (a.map (Value.int .u8)).toArray from rfl, show cellsOf .u8 b = (b.map (Value.int .u8)).toArray from rfl] at HEQ HE ⊢
  rw [show cellsOf .u8 b = (b.map (Value.int .u8)).toArray from rfl] at HF
  have hr0 := blk_range hb0
  have hr1 := blk_range hb1
  have HIA := hide (size_row32 (C := a.map (Value.int .u8)) (by rw [List.length_map, la]))
  have HIB := hide (size_row32 (C := b.map (Value.int .u8)) (by rw [List.length_map, lb]))
  generalize a.map (Value.int .u8) = CA at HEQ HE HIA hr0 ⊢
  generalize b.map (Value.int .u8) = CB at HEQ HE HF HIB hr1 ⊢
  have HS : Hid (∀ W, Below w0.heap.size w0 W → W.rangeAt w.heap.size 0 CA ∧ W.rangeAt (w.heap.size + 1) 0 CB) := hide (fun W hb => ⟨fun j v hv => (hb.cell (p := ⟨w.heap.size, 0 + j, none⟩) hl0).trans (hr0 j v hv), fun j v hv => (hb.cell (p := ⟨w.heap.size + 1, 0 + j, none⟩) hl1).trans (hr1 j v hv)⟩)
  have heq := HEQ.out
  have HB0 := hide hB0
  clear hb0 hb1 hl0 hl1 hr0 hr1 hB0 HEQ hd hs la lb ra rb
  generalize (a == b) = r at heq HE
  cases r
  all_goals
    refine wp_region_held_drew (S := fun w' => w'.rangeAt w.heap.size 0 CA ∧ w'.rangeAt (w.heap.size + 1) 0 CB) (by kernel_rfl) (HS.out _ (Below.refl _ _).drew) (fun hHeld => ?_)
    refine wpAnyH_take (i := 0) (oi := { dst := some 5, op := Op.load 25 (Operand.tmp 2), type := 25, pos := "law.go:28", after := #[], guard := none }) (v := .agg CA.toArray) rfl (by kernel_rfl) (by kernel_rfl) (by kernel_rfl) (fun _ _ _ h => h) (yieldsIf_load_mid (by rfl) _ _ rfl w.heap.size 0 rfl CA _ (fun w hS => hS.1) under32 rfl HIA.out) hHeld ?_
    try simp only [Act.put, List.setIfInBounds_toArray, List.set_cons_zero, List.set_cons_succ]
    refine wpAnyH_take (i := 1) (oi := { dst := some 6, op := Op.load 25 (Operand.tmp 3), type := 25, pos := "law.go:28", after := #[], guard := none }) (v := .agg CB.toArray) rfl (by kernel_rfl) (by kernel_rfl) (by kernel_rfl) (fun _ _ _ h => h) (yieldsIf_load_mid (by rfl) _ _ rfl (w.heap.size + 1) 0 rfl CB _ (fun w hS => hS.2) under32 rfl HIB.out) hHeld ?_
    try simp only [Act.put, List.setIfInBounds_toArray, List.set_cons_zero, List.set_cons_succ]
    refine wpAnyH_take (i := 3) (oi := { dst := some 8, op := Op.load 25 (Operand.tmp 2), type := 25, pos := "law.go:28", after := #[], guard := none }) (v := .agg CA.toArray) rfl (by kernel_rfl) (by kernel_rfl) (by kernel_rfl) (fun _ _ _ h => h) (yieldsIf_load_mid (by rfl) _ _ rfl w.heap.size 0 rfl CA _ (fun w hS => hS.1) under32 rfl HIA.out) hHeld ?_
    try simp only [Act.put, List.setIfInBounds_toArray, List.set_cons_zero, List.set_cons_succ]
    refine wpAnyH_take (i := 4) (oi := { dst := some 9, op := Op.load 25 (Operand.tmp 3), type := 25, pos := "law.go:28", after := #[], guard := none }) (v := .agg CB.toArray) rfl (by kernel_rfl) (by kernel_rfl) (by kernel_rfl) (fun _ _ _ h => h) (yieldsIf_load_mid (by rfl) _ _ rfl (w.heap.size + 1) 0 rfl CB _ (fun w hS => hS.2) under32 rfl HIB.out) hHeld ?_
    try simp only [Act.put, List.setIfInBounds_toArray, List.set_cons_zero, List.set_cons_succ]
    refine wpAnyH_take (i := 5) (oi := { dst := some 10, op := Op.binOp BinOp.eql 25 (Operand.tmp 8) (Operand.tmp 9) 25, type := 4, pos := "law.go:28", after := #[{ on := 3, ground := Ground.data }, { on := 4, ground := Ground.data }], guard := none }) (v := ?_) rfl (by kernel_rfl) (by kernel_rfl) (by kernel_rfl) (fun _ _ _ h => h) (Or.inl ⟨by rfl, ?_⟩) hHeld ?_
    rotate_left
    · intro w hSw; (try dsimp only at hSw); go_simp; first | done | with_reducible rfl
    try simp only [Act.put, List.setIfInBounds_toArray, List.set_cons_zero, List.set_cons_succ]
    refine wpAnyH_ready (rs := [2]) (by kernel_rfl) (by simp) ?_
    refine AllReadyH.cons (o := { dst := some 7, op := Op.call { callee := Callee.value (Operand.func 13), args := #[Operand.tmp 5, Operand.tmp 6], argTypes := #[25, 25] }, type := 4, pos := "law.go:28", after := #[{ on := 0, ground := Ground.data }, { on := 1, ground := Ground.data }], guard := none }) rfl (fun K hK => ?_) AllReadyH.nil
    clear hHeld
    go_simp
    refine (HE.out _).mono ?_
    rintro e w1 ⟨rfl, hBX⟩
    have HB1 := hide ((Below.refl w0.heap.size w0).drew.trans hBX)
    clear hBX
    dsimp only
    refine hK.out _ _ (HS.out _ HB1.out) (fun hHeld => ?_)
    clear hK K
    try simp only [Act.put, List.setIfInBounds_toArray, List.set_cons_zero, List.set_cons_succ]
    refine wpAnyH_take (i := 6) (oi := { dst := some 11, op := Op.binOp BinOp.eql 4 (Operand.tmp 7) (Operand.tmp 10) 4, type := 4, pos := "law.go:28", after := #[{ on := 2, ground := Ground.data }, { on := 5, ground := Ground.data }], guard := none }) (v := ?_) rfl (by kernel_rfl) (by kernel_rfl) (by kernel_rfl) (fun _ _ _ h => h) (Or.inl ⟨by rfl, ?_⟩) hHeld ?_
    rotate_left
    · intro w hSw; (try dsimp only at hSw); go_simp; first | done | with_reducible rfl
    try simp only [Act.put, List.setIfInBounds_toArray, List.set_cons_zero, List.set_cons_succ]
    refine wpAnyH_take (i := 7) (oi := { dst := some 12, op := Op.move (Operand.tmp 11), type := 4, pos := "law.go:28", after := #[{ on := 6, ground := Ground.data }, { on := 2, ground := Ground.chain }], guard := none }) (v := ?_) rfl (by kernel_rfl) (by kernel_rfl) (by kernel_rfl) (fun _ _ _ h => h) (Or.inl ⟨by rfl, ?_⟩) hHeld ?_
    rotate_left
    · intro w hSw; (try dsimp only at hSw); go_simp; first | done | with_reducible rfl
    try simp only [Act.put, List.setIfInBounds_toArray, List.set_cons_zero, List.set_cons_succ]
    refine wpAnyH_take (i := 8) (oi := { dst := some 13, op := Op.load 25 (Operand.tmp 3), type := 25, pos := "law.go:28", after := #[{ on := 7, ground := Ground.guard }], guard := some (7, true) }) (v := .agg CB.toArray) rfl (by kernel_rfl) (by kernel_rfl) (by kernel_rfl) (fun _ _ _ h => h) (yieldsIf_load_mid (by rfl) _ _ rfl (w.heap.size + 1) 0 rfl CB _ (fun w hS => hS.2) under32 rfl HIB.out) hHeld ?_
    try simp only [Act.put, List.setIfInBounds_toArray, List.set_cons_zero, List.set_cons_succ]
    refine wpAnyH_take (i := 9) (oi := { dst := some 14, op := Op.load 25 (Operand.tmp 3), type := 25, pos := "law.go:28", after := #[{ on := 7, ground := Ground.guard }], guard := some (7, true) }) (v := .agg CB.toArray) rfl (by kernel_rfl) (by kernel_rfl) (by kernel_rfl) (fun _ _ _ h => h) (yieldsIf_load_mid (by rfl) _ _ rfl (w.heap.size + 1) 0 rfl CB _ (fun w hS => hS.2) under32 rfl HIB.out) hHeld ?_
    try simp only [Act.put, List.setIfInBounds_toArray, List.set_cons_zero, List.set_cons_succ]
    refine wpAnyH_ready (rs := [10]) (by kernel_rfl) (by simp) ?_
    refine AllReadyH.cons (o := { dst := some 15, op := Op.call { callee := Callee.value (Operand.func 13), args := #[Operand.tmp 13, Operand.tmp 14], argTypes := #[25, 25] }, type := 4, pos := "law.go:28", after := #[{ on := 8, ground := Ground.data }, { on := 9, ground := Ground.data }, { on := 7, ground := Ground.chain }, { on := 7, ground := Ground.guard }], guard := some (7, true) }) rfl (fun K hK => ?_) AllReadyH.nil
    clear hHeld
    go_simp
    refine (HF.out _).mono ?_
    rintro e w2 ⟨rfl, hBX⟩
    have HB2 := hide (HB1.out.trans (hBX.mono HB1.out.size))
    clear hBX
    dsimp only
    refine hK.out _ _ (HS.out _ HB2.out) (fun hHeld => ?_)
    clear hK K
    try simp only [Act.put, List.setIfInBounds_toArray, List.set_cons_zero, List.set_cons_succ]
    refine wpAnyH_take (i := 11) (oi := { dst := some 16, op := Op.pick (Operand.tmp 12) (Operand.tmp 15) (Operand.const (Value.bool false)), type := 4, pos := "law.go:28", after := #[{ on := 7, ground := Ground.data }, { on := 10, ground := Ground.data }], guard := none }) (v := ?_) rfl (by kernel_rfl) (by kernel_rfl) (by kernel_rfl) (fun _ _ _ h => h) (Or.inl ⟨by rfl, ?_⟩) hHeld ?_
    rotate_left
    · intro w hSw; (try dsimp only at hSw); go_simp; first | done | with_reducible rfl
    try simp only [Act.put, List.setIfInBounds_toArray, List.set_cons_zero, List.set_cons_succ]
    refine wpAnyH_take (i := 12) (oi := { dst := some 17, op := Op.move (Operand.tmp 16), type := 4, pos := "law.go:28", after := #[{ on := 11, ground := Ground.data }, { on := 10, ground := Ground.chain }], guard := none }) (v := ?_) rfl (by kernel_rfl) (by kernel_rfl) (by kernel_rfl) (fun _ _ _ h => h) (Or.inl ⟨by rfl, ?_⟩) hHeld ?_
    rotate_left
    · intro w hSw; (try dsimp only at hSw); go_simp; first | done | with_reducible rfl
    try simp only [Act.put, List.setIfInBounds_toArray, List.set_cons_zero, List.set_cons_succ]
    refine wpAnyH_ready (rs := [13]) (by kernel_rfl) (by simp) ?_
    refine AllReadyH.cons (o := { dst := some 18, op := Op.call { callee := Callee.value (Operand.func 8), args := #[], argTypes := #[] }, type := 4, pos := "law.go:28", after := #[{ on := 12, ground := Ground.chain }, { on := 12, ground := Ground.guard }], guard := some (12, true) }) rfl (fun K hK => ?_) AllReadyH.nil
    clear hHeld
    go_simp
    refine (awake_any _).mono ?_
    rintro e w3 ⟨rfl, hBX⟩
    have HB3 := hide (HB2.out.trans (hBX.mono HB2.out.size))
    clear hBX
    dsimp only
    refine hK.out _ _ (HS.out _ HB3.out) (fun hHeld => ?_)
    clear hK K
    try simp only [Act.put, List.setIfInBounds_toArray, List.set_cons_zero, List.set_cons_succ]
    refine wpAnyH_take (i := 14) (oi := { dst := some 19, op := Op.pick (Operand.tmp 17) (Operand.tmp 18) (Operand.const (Value.bool false)), type := 4, pos := "law.go:28", after := #[{ on := 12, ground := Ground.data }, { on := 13, ground := Ground.data }], guard := none }) (v := ?_) rfl (by kernel_rfl) (by kernel_rfl) (by kernel_rfl) (fun _ _ _ h => h) (Or.inl ⟨by rfl, ?_⟩) hHeld ?_
    rotate_left
    · intro w hSw; (try dsimp only at hSw); go_simp; first | done | with_reducible rfl
    try simp only [Act.put, List.setIfInBounds_toArray, List.set_cons_zero, List.set_cons_succ]
    refine wpAnyH_take (i := 15) (oi := { dst := some 4, op := Op.assign (Operand.tmp 19), type := 4, pos := "law.go:28", after := #[{ on := 14, ground := Ground.data }, { on := 13, ground := Ground.chain }, { on := 0, ground := Ground.phase }, { on := 1, ground := Ground.phase }, { on := 2, ground := Ground.phase }, { on := 3, ground := Ground.phase }, { on := 4, ground := Ground.phase }, { on := 5, ground := Ground.phase }, { on := 6, ground := Ground.phase }, { on := 7, ground := Ground.phase }, { on := 8, ground := Ground.phase }, { on := 9, ground := Ground.phase }, { on := 10, ground := Ground.phase }, { on := 11, ground := Ground.phase }, { on := 12, ground := Ground.phase }, { on := 13, ground := Ground.phase }, { on := 14, ground := Ground.phase }], guard := none }) (v := ?_) rfl (by kernel_rfl) (by kernel_rfl) (by kernel_rfl) (fun _ _ _ h => h) (Or.inl ⟨by rfl, ?_⟩) hHeld ?_
    rotate_left
    · intro w hSw; (try dsimp only at hSw); go_simp; first | done | with_reducible rfl
    try simp only [Act.put, List.setIfInBounds_toArray, List.set_cons_zero, List.set_cons_succ]
    refine wpAnyH_done (by kernel_rfl) ?_ _
    go_wp2_with fail
    go_ret
    exact ⟨rfl, HB0.out.trans (HB3.out.mono HB0.out.size)⟩
end Go.Proofs.Ytjfidelegmjnkaa
