/- The order in which nets are merged. -/
import Derived.Test.YtgikkjjnoakhdaaDoorAdRow
import Derived.Test.YtgikkjjnoakhdaaDoorAdCov
import Derived.Shelf.SlSortCmp.WholeK
namespace Go.Proofs.YtgikkjjnoakhdaaDoor
open Go.RowKit

def cmpZ (x y : Int) : Int := if x < y then -1 else if y < x then 1 else 0
def cmpN (c d : Net) : Int := if cmpZ c.a d.a = 0 then cmpZ c.b d.b else cmpZ c.a d.a

set_option maxRecDepth 100000 in
theorem cmp32_any (x y : Int) (w : World) : Calls Tryd.prog 57 #[.int .u32 x, .int .u32 y] w (fun e w' => e = .returned (.int .i64 (cmpZ x y)) ∧ w = w') := by
  unfold cmpZ
  by_cases h1 : x < y
  · rw [if_pos h1]
    go_enter Tryd.func57, Tryd.ntmps57
    go_wp2_with go_in
    go_ret
    exact ⟨rfl, rfl⟩
  · rw [if_neg h1]
    by_cases h2 : y < x
    · rw [if_pos h2]
      go_enter Tryd.func57, Tryd.ntmps57
      go_wp2_with go_in
      go_ret
      exact ⟨rfl, rfl⟩
    · rw [if_neg h2]
      go_enter Tryd.func57, Tryd.ntmps57
      go_wp2_with go_in
      go_ret
      exact ⟨rfl, rfl⟩
set_option maxRecDepth 100000 in
theorem cmpInt_any (x y : Int) (w : World) : Calls Tryd.prog 58 #[.int .i64 x, .int .i64 y] w (fun e w' => e = .returned (.int .i64 (cmpZ x y)) ∧ w = w') := by
  unfold cmpZ
  by_cases h1 : x < y
  · rw [if_pos h1]
    go_enter Tryd.func58, Tryd.ntmps58
    go_wp2_with go_in
    go_ret
    exact ⟨rfl, rfl⟩
  · rw [if_neg h1]
    by_cases h2 : y < x
    · rw [if_pos h2]
      go_enter Tryd.func58, Tryd.ntmps58
      go_wp2_with go_in
      go_ret
      exact ⟨rfl, rfl⟩
    · rw [if_neg h2]
      go_enter Tryd.func58, Tryd.ntmps58
      go_wp2_with go_in
      go_ret
      exact ⟨rfl, rfl⟩
set_option maxRecDepth 100000 in
theorem or_any (x y : Int) (g : Nat) (w : World) (h0 : w.cell? ⟨g, 0, none⟩ = some (.int .i64 x)) (h1 : w.cell? ⟨g, 1, none⟩ = some (.int .i64 y)) : Calls Tryd.prog 56 #[.slice (some ⟨g, 0, none⟩) 2 2] w (fun e w' => e = .returned (.int .i64 (if x = 0 then y else x)) ∧ w = w') := by
  go_enter Tryd.func56, Tryd.ntmps56
  go_wp2_with fail
  go_loop [8] (fun i => ∃ k : Nat, k ≤ 2 ∧ i = .int .i64 k ∧ (1 ≤ k → x = 0) ∧ (2 ≤ k → y = 0)) (fun i => 2 - (intOf i).toNat)
  case atStart => exact ⟨0, by omega, rfl, fun h => by omega, fun h => by omega⟩
  case round =>
    obtain ⟨k, hk, rfl, hx, hy⟩ := hrel
    have hc : k = 0 ∨ k = 1 ∨ k = 2 := by omega
    rcases hc with rfl | rfl | rfl
    · by_cases hx0 : x = 0
      · have hb : (x != 0) = false := by simp [hx0]
        have HX := hide hx0
        clear hx0 hx hy
        go_wp2_with fail
        go_round
        case rel => exact ⟨1, by omega, by simp, fun _ => HX.out, fun h => by omega⟩
        case measure => simp [intOf]
      · have hb : (x != 0) = true := by simp [hx0]
        have HX := hide hx0
        clear hx0 hx hy
        go_wp2_with fail
        go_ret
        try rw [if_neg HX.out]
        exact ⟨rfl, rfl⟩
    · by_cases hy0 : y = 0
      · have hb : (y != 0) = false := by simp [hy0]
        have HX := hide (hx (by omega))
        have HY := hide hy0
        clear hy0 hx hy
        go_wp2_with fail
        go_round
        case rel => exact ⟨2, by omega, by simp, fun _ => HX.out, fun _ => HY.out⟩
        case measure => simp [intOf]
      · have hb : (y != 0) = true := by simp [hy0]
        have HX := hide (hx (by omega))
        clear hy0 hx hy
        go_wp2_with fail
        go_ret
        try rw [if_pos HX.out]
        exact ⟨rfl, rfl⟩
    · have HX := hide (hx (by omega))
      have HY := hide (hy (by omega))
      clear hx hy
      go_wp2_with fail
      go_ret
      try rw [if_pos HX.out]
      try rw [HY.out]
      exact ⟨rfl, rfl⟩

set_option maxRecDepth 100000 in
set_option maxHeartbeats 1000000 in
theorem closure_any (c d : Net) (w : World) : Calls Tryd.prog 55 #[c.val, d.val] w (fun e w' => e = .returned (.int .i64 (cmpN c d)) ∧ ∃ q os', w' = Sort.grow (w.drewN q) os') := by
  have h32 := hide (fun W => cmp32_any (c.a : Int) (d.a : Int) W)
  have hint := hide (fun W => cmpInt_any c.b d.b W)
  have hor := hide (fun (g : Nat) (W : World) => or_any (cmpZ c.a d.a) (cmpZ c.b d.b) g W)
  unfold cmpN
  generalize cmpZ c.a d.a = x at *
  generalize cmpZ c.b d.b = y at *
  generalize (if x = 0 then y else x) = z at *
  obtain ⟨a, b⟩ := c
  obtain ⟨a', b'⟩ := d
  unfold Net.val
  dsimp only at *
  go_enter Tryd.func55, Tryd.ntmps55
  go_wp2_with fail
  have HX := hide (show BoxAt ((w.alloc (.cells #[.int .u32 a, .int .i64 b] 24)).alloc (.cells #[.int .u32 a', .int .i64 b'] 24)) w.heap.size a b from (Below.heap_alloc _ _ _ (by simp)).trans (BoxAt.new w a b))
  have HY := hide (BoxAt.new (w.alloc (.cells #[.int .u32 a, .int .i64 b] 24)) a' b')
  have HG : Hid (((w.alloc (.cells #[.int .u32 a, .int .i64 b] 24)).alloc (.cells #[.int .u32 a', .int .i64 b'] 24)) = Sort.grow (w.drewN 0) #[.cells #[.int .u32 a, .int .i64 b] 24, .cells #[.int .u32 a', .int .i64 b'] 24]) := hide (by rw [Sort.alloc_eq_grow, Sort.alloc_eq_grow, Sort.grow_grow]; rfl)
  rw [World.size_alloc] at HY
  generalize ((w.alloc (.cells #[.int .u32 a, .int .i64 b] 24)).alloc (.cells #[.int .u32 a', .int .i64 b'] 24)) = W0 at *
  obtain ⟨g, hg⟩ : ∃ g, w.heap.size = g := ⟨_, rfl⟩
  rw [hg] at HX HY ⊢
  clear hg
  refine wp_region_held_drew (S := fun w' => BoxAt w' g a b ∧ BoxAt w' (g + 1) a' b') (by kernel_rfl) ⟨HX.out, HY.out⟩ (fun hHeld => ?_)
  refine wpAnyH_take (i := 0) (oi := { dst := some 5, op := Op.fieldAddr 24 (Operand.tmp 2) 0, type := 0, pos := "merge.go:40", after := #[], guard := none }) (v := ?_) rfl (by kernel_rfl) (by kernel_rfl) (by kernel_rfl) (fun _ _ _ h => h) (Or.inl ⟨by rfl, ?_⟩) hHeld ?_
  rotate_left
  · intro w hSw; (try dsimp only at hSw); go_simp; first | done | with_reducible rfl
  try simp only [Act.put, List.setIfInBounds_toArray, List.set_cons_zero, List.set_cons_succ]
  refine wpAnyH_take (i := 1) (oi := { dst := some 6, op := Op.load 22 (Operand.tmp 5), type := 22, pos := "merge.go:40", after := #[{ on := 0, ground := Ground.data }], guard := none }) (v := ?_) rfl (by kernel_rfl) (by kernel_rfl) (by kernel_rfl) (fun _ _ _ h => h) (Or.inl ⟨by rfl, ?_⟩) hHeld ?_
  rotate_left
  · intro w hSw; (try dsimp only at hSw); have e0 := hSw.1.c0; have e1 := hSw.1.c1; have e2 := hSw.2.c0; have e3 := hSw.2.c1; go_simp; first | done | with_reducible rfl
  try simp only [Act.put, List.setIfInBounds_toArray, List.set_cons_zero, List.set_cons_succ]
  refine wpAnyH_take (i := 2) (oi := { dst := some 7, op := Op.fieldAddr 24 (Operand.tmp 3) 0, type := 0, pos := "merge.go:40", after := #[], guard := none }) (v := ?_) rfl (by kernel_rfl) (by kernel_rfl) (by kernel_rfl) (fun _ _ _ h => h) (Or.inl ⟨by rfl, ?_⟩) hHeld ?_
  rotate_left
  · intro w hSw; (try dsimp only at hSw); go_simp; first | done | with_reducible rfl
  try simp only [Act.put, List.setIfInBounds_toArray, List.set_cons_zero, List.set_cons_succ]
  refine wpAnyH_take (i := 3) (oi := { dst := some 8, op := Op.load 22 (Operand.tmp 7), type := 22, pos := "merge.go:40", after := #[{ on := 2, ground := Ground.data }], guard := none }) (v := ?_) rfl (by kernel_rfl) (by kernel_rfl) (by kernel_rfl) (fun _ _ _ h => h) (Or.inl ⟨by rfl, ?_⟩) hHeld ?_
  rotate_left
  · intro w hSw; (try dsimp only at hSw); have e0 := hSw.1.c0; have e1 := hSw.1.c1; have e2 := hSw.2.c0; have e3 := hSw.2.c1; go_simp; first | done | with_reducible rfl
  try simp only [Act.put, List.setIfInBounds_toArray, List.set_cons_zero, List.set_cons_succ]
  refine wpAnyH_take (i := 5) (oi := { dst := some 10, op := Op.fieldAddr 24 (Operand.tmp 2) 1, type := 0, pos := "merge.go:40", after := #[], guard := none }) (v := ?_) rfl (by kernel_rfl) (by kernel_rfl) (by kernel_rfl) (fun _ _ _ h => h) (Or.inl ⟨by rfl, ?_⟩) hHeld ?_
  rotate_left
  · intro w hSw; (try dsimp only at hSw); go_simp; first | done | with_reducible rfl
  try simp only [Act.put, List.setIfInBounds_toArray, List.set_cons_zero, List.set_cons_succ]
  refine wpAnyH_take (i := 6) (oi := { dst := some 11, op := Op.load 3 (Operand.tmp 10), type := 3, pos := "merge.go:40", after := #[{ on := 5, ground := Ground.data }], guard := none }) (v := ?_) rfl (by kernel_rfl) (by kernel_rfl) (by kernel_rfl) (fun _ _ _ h => h) (Or.inl ⟨by rfl, ?_⟩) hHeld ?_
  rotate_left
  · intro w hSw; (try dsimp only at hSw); have e0 := hSw.1.c0; have e1 := hSw.1.c1; have e2 := hSw.2.c0; have e3 := hSw.2.c1; go_simp; first | done | with_reducible rfl
  try simp only [Act.put, List.setIfInBounds_toArray, List.set_cons_zero, List.set_cons_succ]
  refine wpAnyH_take (i := 7) (oi := { dst := some 12, op := Op.fieldAddr 24 (Operand.tmp 3) 1, type := 0, pos := "merge.go:40", after := #[], guard := none }) (v := ?_) rfl (by kernel_rfl) (by kernel_rfl) (by kernel_rfl) (fun _ _ _ h => h) (Or.inl ⟨by rfl, ?_⟩) hHeld ?_
  rotate_left
  · intro w hSw; (try dsimp only at hSw); go_simp; first | done | with_reducible rfl
  try simp only [Act.put, List.setIfInBounds_toArray, List.set_cons_zero, List.set_cons_succ]
  refine wpAnyH_take (i := 8) (oi := { dst := some 13, op := Op.load 3 (Operand.tmp 12), type := 3, pos := "merge.go:40", after := #[{ on := 7, ground := Ground.data }], guard := none }) (v := ?_) rfl (by kernel_rfl) (by kernel_rfl) (by kernel_rfl) (fun _ _ _ h => h) (Or.inl ⟨by rfl, ?_⟩) hHeld ?_
  rotate_left
  · intro w hSw; (try dsimp only at hSw); have e0 := hSw.1.c0; have e1 := hSw.1.c1; have e2 := hSw.2.c0; have e3 := hSw.2.c1; go_simp; first | done | with_reducible rfl
  try simp only [Act.put, List.setIfInBounds_toArray, List.set_cons_zero, List.set_cons_succ]
  have HX1 : Hid (BoxAt W0.drew g a b) := hide HX.out
  have HY1 : Hid (BoxAt W0.drew (g + 1) a' b') := hide HY.out
  have HG1 : Hid (W0.drew = Sort.grow (w.drewN 1) #[.cells #[.int .u32 a, .int .i64 b] 24, .cells #[.int .u32 a', .int .i64 b'] 24]) := hide (by rw [HG.out]; rfl)
  generalize W0.drew = W1 at *
  refine wpAnyH_ready (rs := [4]) (by kernel_rfl) (by simp) ?_
  refine AllReadyH.cons (o := { dst := some 9, op := Op.call { callee := Callee.value (Operand.func 57), args := #[Operand.tmp 6, Operand.tmp 8], argTypes := #[22, 22] }, type := 3, pos := "merge.go:40", after := #[{ on := 1, ground := Ground.data }, { on := 3, ground := Ground.data }], guard := none }) rfl (fun K hK => ?_) AllReadyH.nil
  clear hHeld
  go_simp
  refine (h32.out _).mono ?_
  rintro e w' ⟨rfl, rfl⟩
  refine hK.out _ _ (⟨HX1.out, HY1.out⟩) (fun hHeld => ?_)
  clear hK K
  try simp only [Act.put, List.setIfInBounds_toArray, List.set_cons_zero, List.set_cons_succ]
  refine wpAnyH_ready (rs := [9]) (by kernel_rfl) (by simp) ?_
  refine AllReadyH.cons (o := { dst := some 14, op := Op.call { callee := Callee.value (Operand.func 58), args := #[Operand.tmp 11, Operand.tmp 13], argTypes := #[3, 3] }, type := 3, pos := "merge.go:40", after := #[{ on := 6, ground := Ground.data }, { on := 8, ground := Ground.data }, { on := 4, ground := Ground.chain }], guard := none }) rfl (fun K hK => ?_) AllReadyH.nil
  clear hHeld
  go_simp
  refine (hint.out _).mono ?_
  rintro e w' ⟨rfl, rfl⟩
  refine hK.out _ _ (⟨HX1.out, HY1.out⟩) (fun hHeld => ?_)
  clear hK K
  try simp only [Act.put, List.setIfInBounds_toArray, List.set_cons_zero, List.set_cons_succ]
  refine wpAnyH_ready (rs := [10]) (by kernel_rfl) (by simp) ?_
  refine AllReadyH.cons (o := { dst := some 15, op := Op.buildSlice 91 2 #[(0, Operand.tmp 9), (1, Operand.tmp 14)], type := 91, pos := "merge.go:40", after := #[{ on := 4, ground := Ground.data }, { on := 9, ground := Ground.data }], guard := none }) rfl (fun K hK => ?_) AllReadyH.nil
  clear hHeld
  go_simp
  have HX2 := hide ((Below.heap_alloc W1 (.cells #[.int .i64 x, .int .i64 y] 3) g HX1.out.lt).trans HX1.out)
  have HY2 := hide ((Below.heap_alloc W1 (.cells #[.int .i64 x, .int .i64 y] 3) (g + 1) HY1.out.lt).trans HY1.out)
  have HC0 := hide (show (W1.alloc (.cells #[.int .i64 x, .int .i64 y] 3)).cell? ⟨W1.heap.size, 0, none⟩ = some (.int .i64 x) by simp)
  have HC1 := hide (show (W1.alloc (.cells #[.int .i64 x, .int .i64 y] 3)).cell? ⟨W1.heap.size, 1, none⟩ = some (.int .i64 y) by simp)
  have HG2 : Hid (W1.alloc (.cells #[.int .i64 x, .int .i64 y] 3) = Sort.grow (w.drewN 1) (#[.cells #[.int .u32 a, .int .i64 b] 24, .cells #[.int .u32 a', .int .i64 b'] 24] ++ #[.cells #[.int .i64 x, .int .i64 y] 3])) := hide (by rw [Sort.alloc_eq_grow, HG1.out, Sort.grow_grow])
  generalize W1.alloc (.cells #[.int .i64 x, .int .i64 y] 3) = W2 at *
  generalize W1.heap.size = k at *
  refine hK.out _ _ (⟨HX2.out, HY2.out⟩) (fun hHeld => ?_)
  clear hK K
  try simp only [Act.put, List.setIfInBounds_toArray, List.set_cons_zero, List.set_cons_succ]
  refine wpAnyH_ready (rs := [11]) (by kernel_rfl) (by simp) ?_
  refine AllReadyH.cons (o := { dst := some 16, op := Op.call { callee := Callee.value (Operand.func 56), args := #[Operand.tmp 15], argTypes := #[91] }, type := 3, pos := "merge.go:40", after := #[{ on := 10, ground := Ground.data }, { on := 9, ground := Ground.chain }], guard := none }) rfl (fun K hK => ?_) AllReadyH.nil
  clear hHeld
  go_simp
  refine (hor.out _ _ HC0.out HC1.out).mono ?_
  rintro e w' ⟨rfl, rfl⟩
  refine hK.out _ _ (⟨HX2.out, HY2.out⟩) (fun hHeld => ?_)
  clear hK K
  try simp only [Act.put, List.setIfInBounds_toArray, List.set_cons_zero, List.set_cons_succ]
  refine wpAnyH_take (i := 12) (oi := { dst := some 4, op := Op.assign (Operand.tmp 16), type := 3, pos := "merge.go:40", after := #[{ on := 11, ground := Ground.data }, { on := 11, ground := Ground.chain }, { on := 0, ground := Ground.phase }, { on := 1, ground := Ground.phase }, { on := 2, ground := Ground.phase }, { on := 3, ground := Ground.phase }, { on := 4, ground := Ground.phase }, { on := 5, ground := Ground.phase }, { on := 6, ground := Ground.phase }, { on := 7, ground := Ground.phase }, { on := 8, ground := Ground.phase }, { on := 9, ground := Ground.phase }, { on := 10, ground := Ground.phase }, { on := 11, ground := Ground.phase }], guard := none }) (v := ?_) rfl (by kernel_rfl) (by kernel_rfl) (by kernel_rfl) (fun _ _ _ h => h) (Or.inl ⟨by rfl, ?_⟩) hHeld ?_
  rotate_left
  · intro w hSw; (try dsimp only at hSw); go_simp; first | done | with_reducible rfl
  try simp only [Act.put, List.setIfInBounds_toArray, List.set_cons_zero, List.set_cons_succ]
  refine wpAnyH_done (by kernel_rfl) ?_ _
  clear hHeld
  go_wp2_with fail
  go_ret
  exact ⟨rfl, 1, _, HG2.out⟩
end Go.Proofs.YtgikkjjnoakhdaaDoor
