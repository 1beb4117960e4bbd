/- Package addr: joined. -/
import Derived.Test.YtgikkjjnoakhdaaDoorAdHalf
namespace Go.Proofs.YtgikkjjnoakhdaaDoor
open Go.RowKit

theorem net_eql2 (c d : Net) (w : World) : (binOp BinOp.eql 24 (.agg #[.int .u32 (c.a : Int), .int .i64 c.b]) (.agg #[.int .u32 (d.a : Int), .int .i64 d.b])).run Tryd.prog w = .ok (.bool (decide (c = d))) w := by
  rw [net_eql]
  congr 2
  rw [Bool.eq_iff_iff, Bool.and_eq_true, decide_eq_true_eq, decide_eq_true_eq, decide_eq_true_eq]
  exact ⟨fun h => Net.same h.1 h.2, fun h => by subst h; exact ⟨rfl, rfl⟩⟩

/-- What joined answers. -/
def JoinPost (w : World) (c d : Net) (e : Ending) (w' : World) : Prop := e = .returned (.tuple #[(wholeOf c).val, .bool (joinB c d)]) ∧ Below w.heap.size w w'

set_option maxRecDepth 100000 in
set_option maxHeartbeats 800000 in
theorem joined_any (c d : Net) (ha0 : c.a < 4294967296) (hoc : Ok c) (w : World) : Calls Tryd.prog 48 #[c.val, d.val] w (JoinPost w c d) := by
  have hwa : (wholeOf c).a < 4294967296 := Nat.lt_of_le_of_lt (flo_le _ _) ha0
  have HH := hide (fun W => halves_any (wholeOf c) hwa (flo_dvd _ _) (by show -1 ≤ c.b - 1; have := hoc.lo; omega) (by show c.b - 1 ≤ 32; have := hoc.hi; omega) W)
  have HA := hide (fun W => around_any c.a ha0 (c.b - 1) W)
  have HE1 := hide (fun W => net_eql2 c (lowOf (wholeOf c)) W)
  have HE2 := hide (fun W => net_eql2 d (highOf (wholeOf c)) W)
  have hlo := hoc.lo
  have hhi := hoc.hi
  unfold TwoPost at HH
  unfold JoinPost joinB
  have hwv : wholeOf c = ⟨flo c.a (c.b - 1), c.b - 1⟩ := rfl
  generalize lowOf (wholeOf c) = lw at HH HE1 ⊢
  generalize highOf (wholeOf c) = hw at HH HE2 ⊢
  rw [hwv] at HH hwa ⊢
  clear hwv
  obtain ⟨a, b⟩ := c
  obtain ⟨a', b'⟩ := d
  obtain ⟨la, lb⟩ := lw
  obtain ⟨ha, hb⟩ := hw
  unfold Net.val at *
  dsimp only at *
  generalize decide ((⟨a, b⟩ : Net) = ⟨la, lb⟩) = x1 at HE1 ⊢
  generalize decide ((⟨a', b'⟩ : Net) = ⟨ha, hb⟩) = x2 at HE2 ⊢
  generalize flo a (b - 1) = wa at *
  clear hoc
  go_enter Tryd.func48, Tryd.ntmps48
  go_wp2_with fail
  have hB0 : Below w.heap.size w (((w.alloc (.cells #[.int .u32 a, .int .i64 b] 24)).alloc (.cells #[.int .u32 a', .int .i64 b'] 24)).alloc (.cells #[.int .u32 0, .int .i64 0] 24)) := (((Below.refl _ _).alloc (Nat.le_refl _) _).alloc (by simp) _).alloc (by simp; omega) _
  have hX : BoxAt (((w.alloc (.cells #[.int .u32 a, .int .i64 b] 24)).alloc (.cells #[.int .u32 a', .int .i64 b'] 24)).alloc (.cells #[.int .u32 0, .int .i64 0] 24)) w.heap.size a b := (Below.heap_alloc _ _ _ (by simp; omega)).trans ((Below.heap_alloc _ _ _ (by simp)).trans (BoxAt.new w a b))
  have hY : BoxAt (((w.alloc (.cells #[.int .u32 a, .int .i64 b] 24)).alloc (.cells #[.int .u32 a', .int .i64 b'] 24)).alloc (.cells #[.int .u32 0, .int .i64 0] 24)) (w.heap.size + 1) a' b' := by
    have := BoxAt.new (w.alloc (.cells #[.int .u32 a, .int .i64 b] 24)) a' b'
    rw [World.size_alloc] at this
    exact (Below.heap_alloc _ _ _ (by simp)).trans this
  have hZ : BoxAt (((w.alloc (.cells #[.int .u32 a, .int .i64 b] 24)).alloc (.cells #[.int .u32 a', .int .i64 b'] 24)).alloc (.cells #[.int .u32 (0 : Nat), .int .i64 0] 24)) (w.heap.size + 1 + 1) 0 0 := by
    have := BoxAt.new ((w.alloc (.cells #[.int .u32 a, .int .i64 b] 24)).alloc (.cells #[.int .u32 a', .int .i64 b'] 24)) 0 0
    rw [World.size_alloc, World.size_alloc] at this
    exact this
  have hG : w.heap.size + 3 ≤ (((w.alloc (.cells #[.int .u32 a, .int .i64 b] 24)).alloc (.cells #[.int .u32 a', .int .i64 b'] 24)).alloc (.cells #[.int .u32 0, .int .i64 0] 24)).heap.size := by simp
  have HX := hide hX
  have HY := hide hY
  have HZ := hide hZ
  have HB0 := hide hB0
  have HG := hide hG
  clear hX hY hZ hB0 hG
  refine (HA.out _).mono ?_
  rintro e w2 ⟨rfl, hB⟩
  have HX2 := hide (HX.out.next hB)
  have HY2 := hide (HY.out.next hB)
  have HZ2 := hide (HZ.out.next hB)
  have HG2 := hide (Nat.le_trans HG.out hB.size)
  have HB2 := hide (HB0.out.trans (hB.mono HB0.out.size))
  clear hB HX HY HZ HB0 HG HA
  go_wp2_with fail
  have h6 : BoxAt (w2.alloc (.cells #[.int .u32 wa, .int .i64 (b - 1)] 24)) w2.heap.size wa (b - 1) := BoxAt.new w2 wa (b - 1)
  have hl2 : ∀ o, Below w2.heap.size w2 (w2.alloc o) := fun o => (Below.refl _ _).alloc (Nat.le_refl _) _
  have hl3 := hl2 (.cells #[.int .u32 wa, .int .i64 (b - 1)] 24)
  have HX3 := hide (HX2.out.next hl3)
  have HY3 := hide (HY2.out.next hl3)
  have HZ3 := hide (HZ2.out.next hl3)
  have HB3 := hide (HB2.out.trans (hl3.mono HB2.out.size))
  have H6 := hide h6
  clear h6 hl2 hl3 HX2 HY2 HZ2
  refine (HH.out _).mono ?_
  rintro e w3 ⟨rfl, hB⟩
  have HX4 := hide (HX3.out.next hB)
  have HY4 := hide (HY3.out.next hB)
  have HZ4 := hide (HZ3.out.next hB)
  have H64 := hide (H6.out.next hB)
  have hsz : w2.heap.size + 1 ≤ w3.heap.size := by have := hB.size; simpa using this
  have HB4 := hide (HB3.out.trans (hB.mono HB3.out.size))
  clear hB HX3 HY3 HZ3 H6 HB3 HH HB2
  go_wp2_with fail
  have hB5 : Below w3.heap.size w3 ((w3.alloc (.cells #[.int .u32 la, .int .i64 lb] 24)).alloc (.cells #[.int .u32 ha, .int .i64 hb] 24)) := ((Below.refl _ _).alloc (Nat.le_refl _) _).alloc (by simp) _
  have h7 : BoxAt ((w3.alloc (.cells #[.int .u32 la, .int .i64 lb] 24)).alloc (.cells #[.int .u32 ha, .int .i64 hb] 24)) w3.heap.size la lb := (Below.heap_alloc _ _ _ (by simp)).trans (BoxAt.new w3 la lb)
  have h8 : BoxAt ((w3.alloc (.cells #[.int .u32 la, .int .i64 lb] 24)).alloc (.cells #[.int .u32 ha, .int .i64 hb] 24)) (w3.heap.size + 1) ha hb := by
    have := BoxAt.new (w3.alloc (.cells #[.int .u32 la, .int .i64 lb] 24)) ha hb
    rw [World.size_alloc] at this
    exact this
  have HX := hide (HX4.out.next hB5)
  have HY := hide (HY4.out.next hB5)
  have HZ := hide (HZ4.out.next hB5)
  have H6 := hide (H64.out.next hB5)
  have HB4 := hide (HB4.out.trans (hB5.mono HB4.out.size))
  have H7 := hide h7
  have H8 := hide h8
  clear hB5 h7 h8 HX4 HY4 HZ4 H64
  generalize ((w3.alloc (.cells #[.int .u32 la, .int .i64 lb] 24)).alloc (.cells #[.int .u32 ha, .int .i64 hb] 24)) = W4 at *
  obtain ⟨g7, hg7⟩ : ∃ g, w3.heap.size = g := ⟨_, rfl⟩
  obtain ⟨g8, hg8⟩ : ∃ g, w3.heap.size + 1 = g := ⟨_, rfl⟩
  obtain ⟨g6, hg6⟩ : ∃ g, w2.heap.size = g := ⟨_, rfl⟩
  obtain ⟨g, hg⟩ : ∃ g, w.heap.size = g := ⟨_, rfl⟩
  have HN : Hid (g + 3 ≤ g6 ∧ g6 < g7 ∧ g7 < g8) := hide (by have := HG2.out; omega)
  have HGg := hide (Nat.le_of_eq hg)
  rw [hg] at HX HY HZ ⊢
  rw [hg6] at H6 ⊢
  rw [hg8] at H8 ⊢
  rw [hg7] at H7 ⊢
  clear hg hg6 hg7 hg8 HG2 hsz
  have he1 := HE1.out
  clear HE1
  cases x1 with
  | false =>
    clear HE2
    refine wp_region_held_drew (S := fun w' => BoxAt w' g6 wa (b - 1) ∧ BoxAt w' g a b ∧ BoxAt w' g7 la lb ∧ BoxAt w' (g + 1) a' b' ∧ BoxAt w' g8 ha hb) (by kernel_rfl) ⟨H6.out, HX.out, H7.out, HY.out, H8.out⟩ (fun hHeld => ?_)
    refine wpAnyH_take (i := 0) (oi := { dst := some 20, op := Op.load 24 (Operand.tmp 6), type := 24, pos := "merge.go:49", after := #[], guard := none }) (v := ?_) rfl (by kernel_rfl) (by kernel_rfl) (by kernel_rfl) (fun _ _ _ h => h) (Or.inl ⟨by rfl, ?_⟩) hHeld ?_
    rotate_left
    · intro w hSw; (try dsimp only at hSw); have e0 := BoxAt.c0 hSw.1; have e1 := BoxAt.c1 hSw.1; go_simp; first | done | with_reducible rfl
    try simp only [Act.put, List.setIfInBounds_toArray, List.set_cons_zero, List.set_cons_succ]
    refine wpAnyH_take (i := 1) (oi := { dst := some 21, op := Op.load 24 (Operand.tmp 2), type := 24, pos := "merge.go:49", after := #[], guard := none }) (v := ?_) rfl (by kernel_rfl) (by kernel_rfl) (by kernel_rfl) (fun _ _ _ h => h) (Or.inl ⟨by rfl, ?_⟩) hHeld ?_
    rotate_left
    · intro w hSw; (try dsimp only at hSw); have e0 := BoxAt.c0 hSw.2.1; have e1 := BoxAt.c1 hSw.2.1; go_simp; first | done | with_reducible rfl
    try simp only [Act.put, List.setIfInBounds_toArray, List.set_cons_zero, List.set_cons_succ]
    refine wpAnyH_take (i := 2) (oi := { dst := some 22, op := Op.load 24 (Operand.tmp 7), type := 24, pos := "merge.go:49", after := #[], guard := none }) (v := ?_) rfl (by kernel_rfl) (by kernel_rfl) (by kernel_rfl) (fun _ _ _ h => h) (Or.inl ⟨by rfl, ?_⟩) hHeld ?_
    rotate_left
    · intro w hSw; (try dsimp only at hSw); have e0 := BoxAt.c0 hSw.2.2.1; have e1 := BoxAt.c1 hSw.2.2.1; go_simp; first | done | with_reducible rfl
    try simp only [Act.put, List.setIfInBounds_toArray, List.set_cons_zero, List.set_cons_succ]
    refine wpAnyH_take (i := 3) (oi := { dst := some 23, op := Op.binOp BinOp.eql 24 (Operand.tmp 21) (Operand.tmp 22) 24, type := 4, pos := "merge.go:49", after := #[{ on := 1, ground := Ground.data }, { on := 2, ground := Ground.data }], guard := none }) (v := ?_) rfl (by kernel_rfl) (by kernel_rfl) (by kernel_rfl) (fun _ _ _ h => h) (Or.inl ⟨by rfl, ?_⟩) hHeld ?_
    rotate_left
    · intro w hSw; (try dsimp only at hSw); go_simp; first | done | with_reducible rfl
    try simp only [Act.put, List.setIfInBounds_toArray, List.set_cons_zero, List.set_cons_succ]
    refine wpAnyH_take (i := 4) (oi := { dst := some 24, op := Op.move (Operand.tmp 23), type := 4, pos := "merge.go:49", after := #[{ on := 3, ground := Ground.data }], guard := none }) (v := ?_) rfl (by kernel_rfl) (by kernel_rfl) (by kernel_rfl) (fun _ _ _ h => h) (Or.inl ⟨by rfl, ?_⟩) hHeld ?_
    rotate_left
    · intro w hSw; (try dsimp only at hSw); go_simp; first | done | with_reducible rfl
    try simp only [Act.put, List.setIfInBounds_toArray, List.set_cons_zero, List.set_cons_succ]
    refine wpAnyH_take (i := 5) (oi := { dst := some 25, op := Op.load 24 (Operand.tmp 3), type := 24, pos := "merge.go:49", after := #[{ on := 4, ground := Ground.guard }, { on := 9, ground := Ground.gcOnly Departure.lateStores }], guard := some (4, true) }) (v := undef) rfl (by kernel_rfl) (by kernel_rfl) (by kernel_rfl) (fun _ _ _ h => h) (Or.inr ⟨by rfl, rfl⟩) hHeld ?_
    try simp only [Act.put, List.setIfInBounds_toArray, List.set_cons_zero, List.set_cons_succ]
    refine wpAnyH_take (i := 6) (oi := { dst := some 26, op := Op.load 24 (Operand.tmp 8), type := 24, pos := "merge.go:49", after := #[{ on := 4, ground := Ground.guard }, { on := 9, ground := Ground.gcOnly Departure.lateStores }], guard := some (4, true) }) (v := undef) rfl (by kernel_rfl) (by kernel_rfl) (by kernel_rfl) (fun _ _ _ h => h) (Or.inr ⟨by rfl, rfl⟩) hHeld ?_
    try simp only [Act.put, List.setIfInBounds_toArray, List.set_cons_zero, List.set_cons_succ]
    refine wpAnyH_take (i := 7) (oi := { dst := some 27, op := Op.binOp BinOp.eql 24 (Operand.tmp 25) (Operand.tmp 26) 24, type := 4, pos := "merge.go:49", after := #[{ on := 5, ground := Ground.data }, { on := 6, ground := Ground.data }, { on := 4, ground := Ground.guard }, { on := 9, ground := Ground.gcOnly Departure.lateStores }], guard := some (4, true) }) (v := undef) rfl (by kernel_rfl) (by kernel_rfl) (by kernel_rfl) (fun _ _ _ h => h) (Or.inr ⟨by rfl, rfl⟩) hHeld ?_
    try simp only [Act.put, List.setIfInBounds_toArray, List.set_cons_zero, List.set_cons_succ]
    refine wpAnyH_take (i := 8) (oi := { dst := some 28, op := Op.pick (Operand.tmp 24) (Operand.tmp 27) (Operand.const (Value.bool false)), type := 4, pos := "merge.go:49", after := #[{ on := 4, ground := Ground.data }, { on := 7, ground := Ground.data }, { on := 9, ground := Ground.gcOnly Departure.lateStores }], guard := none }) (v := ?_) rfl (by kernel_rfl) (by kernel_rfl) (by kernel_rfl) (fun _ _ _ h => h) (Or.inl ⟨by rfl, ?_⟩) hHeld ?_
    rotate_left
    · intro w hSw; (try dsimp only at hSw); go_simp; first | done | with_reducible rfl
    try simp only [Act.put, List.setIfInBounds_toArray, List.set_cons_zero, List.set_cons_succ]
    have d0 := HZ.out.c0
    have d1 := HZ.out.c1
    have f0 := HZ.out.frozen 0
    have f1 := HZ.out.frozen 1
    refine wpAnyH_ready (rs := [9]) (by kernel_rfl) (by simp) ?_
    refine AllReadyH.cons (o := { dst := none, op := Op.store 24 (Operand.tmp 4) (Operand.tmp 20), type := 0, pos := "merge.go:49", after := #[{ on := 0, ground := Ground.data }, { on := 4, ground := Ground.chain }, { on := 0, ground := Ground.phase }, { on := 1, ground := Ground.textOnly Departure.lateStores }, { on := 2, ground := Ground.textOnly Departure.lateStores }, { on := 3, ground := Ground.textOnly Departure.lateStores }, { on := 4, ground := Ground.textOnly Departure.lateStores }, { on := 5, ground := Ground.textOnly Departure.lateStores }, { on := 6, ground := Ground.textOnly Departure.lateStores }, { on := 7, ground := Ground.textOnly Departure.lateStores }, { on := 8, ground := Ground.textOnly Departure.lateStores }], guard := none }) rfl (fun K hK => ?_) AllReadyH.nil
    clear hHeld
    go_simp
    have HZ2 := hide (HZ.out.st wa (b - 1))
    have HB5 := hide ((HB4.out.setCell (p := ⟨g + 1 + 1, 0, none⟩) (by have := HGg.out; simp; omega) (.int .u32 (wa : Int))).setCell (p := ⟨g + 1 + 1, 1, none⟩) (by have := HGg.out; simp; omega) (.int .i64 (b - 1)))
    refine hK.out _ _ (⟨(H6.out.other (by have := HN.out; omega)).other (by have := HN.out; omega), (HX.out.other (by omega)).other (by omega), (H7.out.other (by have := HN.out; omega)).other (by have := HN.out; omega), (HY.out.other (by omega)).other (by omega), (H8.out.other (by have := HN.out; omega)).other (by have := HN.out; omega)⟩) (fun hHeld => ?_)
    clear hK K
    try simp only [Act.put]
    clear d0 d1 f0 f1
    refine wpAnyH_take (i := 10) (oi := { dst := some 5, op := Op.assign (Operand.tmp 28), type := 4, pos := "merge.go:49", after := #[{ on := 8, ground := Ground.data }, { on := 9, ground := Ground.chain }, { on := 0, ground := Ground.phase }, { on := 1, ground := Ground.phase }, { on := 2, ground := Ground.phase }, { on := 3, ground := Ground.phase }, { on := 4, ground := Ground.phase }, { on := 5, ground := Ground.phase }, { on := 6, ground := Ground.phase }, { on := 7, ground := Ground.phase }, { on := 8, ground := Ground.phase }, { on := 9, ground := Ground.phase }], guard := none }) (v := ?_) rfl (by kernel_rfl) (by kernel_rfl) (by kernel_rfl) (fun _ _ _ h => h) (Or.inl ⟨by rfl, ?_⟩) hHeld ?_
    rotate_left
    · intro w hSw; (try dsimp only at hSw); go_simp; first | done | with_reducible rfl
    try simp only [Act.put, List.setIfInBounds_toArray, List.set_cons_zero, List.set_cons_succ]
    refine wpAnyH_done (by kernel_rfl) ?_ _
    clear hHeld he1
    have d0 := HZ2.out.c0
    have d1 := HZ2.out.c1
    go_wp2_with fail
    exact bodyPost_ret (v := .tuple #[.agg #[.int .u32 (wa : Int), .int .i64 (b - 1)], .bool false]) (by simp [results, Tryd.results48, go_sem, d0, d1]) rfl ⟨rfl, HB5.out.drew⟩
  | true =>
    have he2 := HE2.out
    clear HE2
    refine wp_region_held_drew (S := fun w' => BoxAt w' g6 wa (b - 1) ∧ BoxAt w' g a b ∧ BoxAt w' g7 la lb ∧ BoxAt w' (g + 1) a' b' ∧ BoxAt w' g8 ha hb) (by kernel_rfl) ⟨H6.out, HX.out, H7.out, HY.out, H8.out⟩ (fun hHeld => ?_)
    refine wpAnyH_take (i := 0) (oi := { dst := some 20, op := Op.load 24 (Operand.tmp 6), type := 24, pos := "merge.go:49", after := #[], guard := none }) (v := ?_) rfl (by kernel_rfl) (by kernel_rfl) (by kernel_rfl) (fun _ _ _ h => h) (Or.inl ⟨by rfl, ?_⟩) hHeld ?_
    rotate_left
    · intro w hSw; (try dsimp only at hSw); have e0 := BoxAt.c0 hSw.1; have e1 := BoxAt.c1 hSw.1; go_simp; first | done | with_reducible rfl
    try simp only [Act.put, List.setIfInBounds_toArray, List.set_cons_zero, List.set_cons_succ]
    refine wpAnyH_take (i := 1) (oi := { dst := some 21, op := Op.load 24 (Operand.tmp 2), type := 24, pos := "merge.go:49", after := #[], guard := none }) (v := ?_) rfl (by kernel_rfl) (by kernel_rfl) (by kernel_rfl) (fun _ _ _ h => h) (Or.inl ⟨by rfl, ?_⟩) hHeld ?_
    rotate_left
    · intro w hSw; (try dsimp only at hSw); have e0 := BoxAt.c0 hSw.2.1; have e1 := BoxAt.c1 hSw.2.1; go_simp; first | done | with_reducible rfl
    try simp only [Act.put, List.setIfInBounds_toArray, List.set_cons_zero, List.set_cons_succ]
    refine wpAnyH_take (i := 2) (oi := { dst := some 22, op := Op.load 24 (Operand.tmp 7), type := 24, pos := "merge.go:49", after := #[], guard := none }) (v := ?_) rfl (by kernel_rfl) (by kernel_rfl) (by kernel_rfl) (fun _ _ _ h => h) (Or.inl ⟨by rfl, ?_⟩) hHeld ?_
    rotate_left
    · intro w hSw; (try dsimp only at hSw); have e0 := BoxAt.c0 hSw.2.2.1; have e1 := BoxAt.c1 hSw.2.2.1; go_simp; first | done | with_reducible rfl
    try simp only [Act.put, List.setIfInBounds_toArray, List.set_cons_zero, List.set_cons_succ]
    refine wpAnyH_take (i := 3) (oi := { dst := some 23, op := Op.binOp BinOp.eql 24 (Operand.tmp 21) (Operand.tmp 22) 24, type := 4, pos := "merge.go:49", after := #[{ on := 1, ground := Ground.data }, { on := 2, ground := Ground.data }], guard := none }) (v := ?_) rfl (by kernel_rfl) (by kernel_rfl) (by kernel_rfl) (fun _ _ _ h => h) (Or.inl ⟨by rfl, ?_⟩) hHeld ?_
    rotate_left
    · intro w hSw; (try dsimp only at hSw); go_simp; first | done | with_reducible rfl
    try simp only [Act.put, List.setIfInBounds_toArray, List.set_cons_zero, List.set_cons_succ]
    refine wpAnyH_take (i := 4) (oi := { dst := some 24, op := Op.move (Operand.tmp 23), type := 4, pos := "merge.go:49", after := #[{ on := 3, ground := Ground.data }], guard := none }) (v := ?_) rfl (by kernel_rfl) (by kernel_rfl) (by kernel_rfl) (fun _ _ _ h => h) (Or.inl ⟨by rfl, ?_⟩) hHeld ?_
    rotate_left
    · intro w hSw; (try dsimp only at hSw); go_simp; first | done | with_reducible rfl
    try simp only [Act.put, List.setIfInBounds_toArray, List.set_cons_zero, List.set_cons_succ]
    refine wpAnyH_take (i := 5) (oi := { dst := some 25, op := Op.load 24 (Operand.tmp 3), type := 24, pos := "merge.go:49", after := #[{ on := 4, ground := Ground.guard }, { on := 9, ground := Ground.gcOnly Departure.lateStores }], guard := some (4, true) }) (v := ?_) rfl (by kernel_rfl) (by kernel_rfl) (by kernel_rfl) (fun _ _ _ h => h) (Or.inl ⟨by rfl, ?_⟩) hHeld ?_
    rotate_left
    · intro w hSw; (try dsimp only at hSw); have e0 := BoxAt.c0 hSw.2.2.2.1; have e1 := BoxAt.c1 hSw.2.2.2.1; go_simp; first | done | with_reducible rfl
    try simp only [Act.put, List.setIfInBounds_toArray, List.set_cons_zero, List.set_cons_succ]
    refine wpAnyH_take (i := 6) (oi := { dst := some 26, op := Op.load 24 (Operand.tmp 8), type := 24, pos := "merge.go:49", after := #[{ on := 4, ground := Ground.guard }, { on := 9, ground := Ground.gcOnly Departure.lateStores }], guard := some (4, true) }) (v := ?_) rfl (by kernel_rfl) (by kernel_rfl) (by kernel_rfl) (fun _ _ _ h => h) (Or.inl ⟨by rfl, ?_⟩) hHeld ?_
    rotate_left
    · intro w hSw; (try dsimp only at hSw); have e0 := BoxAt.c0 hSw.2.2.2.2; have e1 := BoxAt.c1 hSw.2.2.2.2; go_simp; first | done | with_reducible rfl
    try simp only [Act.put, List.setIfInBounds_toArray, List.set_cons_zero, List.set_cons_succ]
    refine wpAnyH_take (i := 7) (oi := { dst := some 27, op := Op.binOp BinOp.eql 24 (Operand.tmp 25) (Operand.tmp 26) 24, type := 4, pos := "merge.go:49", after := #[{ on := 5, ground := Ground.data }, { on := 6, ground := Ground.data }, { on := 4, ground := Ground.guard }, { on := 9, ground := Ground.gcOnly Departure.lateStores }], guard := some (4, true) }) (v := ?_) rfl (by kernel_rfl) (by kernel_rfl) (by kernel_rfl) (fun _ _ _ h => h) (Or.inl ⟨by rfl, ?_⟩) hHeld ?_
    rotate_left
    · intro w hSw; (try dsimp only at hSw); go_simp; first | done | with_reducible rfl
    try simp only [Act.put, List.setIfInBounds_toArray, List.set_cons_zero, List.set_cons_succ]
    refine wpAnyH_take (i := 8) (oi := { dst := some 28, op := Op.pick (Operand.tmp 24) (Operand.tmp 27) (Operand.const (Value.bool false)), type := 4, pos := "merge.go:49", after := #[{ on := 4, ground := Ground.data }, { on := 7, ground := Ground.data }, { on := 9, ground := Ground.gcOnly Departure.lateStores }], guard := none }) (v := ?_) rfl (by kernel_rfl) (by kernel_rfl) (by kernel_rfl) (fun _ _ _ h => h) (Or.inl ⟨by rfl, ?_⟩) hHeld ?_
    rotate_left
    · intro w hSw; (try dsimp only at hSw); go_simp; first | done | with_reducible rfl
    try simp only [Act.put, List.setIfInBounds_toArray, List.set_cons_zero, List.set_cons_succ]
    have d0 := HZ.out.c0
    have d1 := HZ.out.c1
    have f0 := HZ.out.frozen 0
    have f1 := HZ.out.frozen 1
    refine wpAnyH_ready (rs := [9]) (by kernel_rfl) (by simp) ?_
    refine AllReadyH.cons (o := { dst := none, op := Op.store 24 (Operand.tmp 4) (Operand.tmp 20), type := 0, pos := "merge.go:49", after := #[{ on := 0, ground := Ground.data }, { on := 4, ground := Ground.chain }, { on := 0, ground := Ground.phase }, { on := 1, ground := Ground.textOnly Departure.lateStores }, { on := 2, ground := Ground.textOnly Departure.lateStores }, { on := 3, ground := Ground.textOnly Departure.lateStores }, { on := 4, ground := Ground.textOnly Departure.lateStores }, { on := 5, ground := Ground.textOnly Departure.lateStores }, { on := 6, ground := Ground.textOnly Departure.lateStores }, { on := 7, ground := Ground.textOnly Departure.lateStores }, { on := 8, ground := Ground.textOnly Departure.lateStores }], guard := none }) rfl (fun K hK => ?_) AllReadyH.nil
    clear hHeld
    go_simp
    have HZ2 := hide (HZ.out.st wa (b - 1))
    have HB5 := hide ((HB4.out.setCell (p := ⟨g + 1 + 1, 0, none⟩) (by have := HGg.out; simp; omega) (.int .u32 (wa : Int))).setCell (p := ⟨g + 1 + 1, 1, none⟩) (by have := HGg.out; simp; omega) (.int .i64 (b - 1)))
    refine hK.out _ _ (⟨(H6.out.other (by have := HN.out; omega)).other (by have := HN.out; omega), (HX.out.other (by omega)).other (by omega), (H7.out.other (by have := HN.out; omega)).other (by have := HN.out; omega), (HY.out.other (by omega)).other (by omega), (H8.out.other (by have := HN.out; omega)).other (by have := HN.out; omega)⟩) (fun hHeld => ?_)
    clear hK K
    try simp only [Act.put]
    clear d0 d1 f0 f1
    refine wpAnyH_take (i := 10) (oi := { dst := some 5, op := Op.assign (Operand.tmp 28), type := 4, pos := "merge.go:49", after := #[{ on := 8, ground := Ground.data }, { on := 9, ground := Ground.chain }, { on := 0, ground := Ground.phase }, { on := 1, ground := Ground.phase }, { on := 2, ground := Ground.phase }, { on := 3, ground := Ground.phase }, { on := 4, ground := Ground.phase }, { on := 5, ground := Ground.phase }, { on := 6, ground := Ground.phase }, { on := 7, ground := Ground.phase }, { on := 8, ground := Ground.phase }, { on := 9, ground := Ground.phase }], guard := none }) (v := ?_) rfl (by kernel_rfl) (by kernel_rfl) (by kernel_rfl) (fun _ _ _ h => h) (Or.inl ⟨by rfl, ?_⟩) hHeld ?_
    rotate_left
    · intro w hSw; (try dsimp only at hSw); go_simp; first | done | with_reducible rfl
    try simp only [Act.put, List.setIfInBounds_toArray, List.set_cons_zero, List.set_cons_succ]
    refine wpAnyH_done (by kernel_rfl) ?_ _
    clear hHeld he1 he2
    have d0 := HZ2.out.c0
    have d1 := HZ2.out.c1
    go_wp2_with fail
    exact bodyPost_ret (v := .tuple #[.agg #[.int .u32 (wa : Int), .int .i64 (b - 1)], .bool x2]) (by simp [results, Tryd.results48, go_sem, d0, d1]) rfl ⟨rfl, HB5.out.drew⟩
end Go.Proofs.YtgikkjjnoakhdaaDoor
