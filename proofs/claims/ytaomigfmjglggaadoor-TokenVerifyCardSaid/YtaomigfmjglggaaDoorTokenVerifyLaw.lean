/- Law TokenVerify, walked. -/
import Derived.Test.YtaomigfmjglggaaDoorTkLWM
import Derived.Test.YtaomigfmjglggaaDoorTkVerR
namespace Go.Proofs.YtaomigfmjglggaaDoor
open Go.RowKit

set_option maxRecDepth 100000 in
set_option maxHeartbeats 2000000 in
theorem verify_walk (rv : Value) (k : List Int) (o n : Nat) (t : Tk) (now : Nat) (w : World) (hT : Tab w) (hk : SlAt w rv k) (hkb : ∀ x ∈ k, 0 ≤ x ∧ x < 256) (_ : k.length ≤ maxLen) (hp : t.pre) (_ : o < 18446744073709551616) (_ : n < 18446744073709551616)  :
    Calls Tryd.prog 5 #[.agg (ringA rv o n), .agg (tkA t), .int .u64 now] w (LawPost w) := by
  obtain ⟨ra, rc, rfl⟩ := hk.len
  have HT := hide hT
  have HL := hide (LW.first w (.slice ra k.length rc) k o n t hk)
  have HP := hide hp
  have HPM := hide hp.mac
  have HKB := hide hkb
  have HAW := hide (fun W (h : Below w.heap.size w W) => awake_any W (HT.out.below h HT.out.two))
  have HLG := hide (fun W => long_any ra k.length rc o n t W)
  clear hk hp hT hkb

  by_cases hl : longB k.length t = true
  · rw [hl] at HLG
    clear hl
    generalize k.length = q at *
    have ar0 := HL.out.r.c0
    have ar1 := HL.out.r.c1
    have ar2 := HL.out.r.c2
    have ax0 := HL.out.x.c0
    have ax1 := HL.out.x.c1
    have ax2 := HL.out.x.c2
    have ax3 := HL.out.x.c3
    have ax4 := HL.out.x.c4
    have ax5 := HL.out.x.c5
    have ax6 := HL.out.x.c6
    have ax7 := HL.out.x.c7
    unfold ringA at *
    go_enter Tryd.func5, Tryd.ntmps5
    go_wp2_with (first | (refine wpList_load_tk rfl (.tmp 4) rfl (w.heap.size + 1) rfl t HPM.out HL.out.x ?_) | (go_at_call 11; refine (HLG.out _).mono ?_; rintro e w2 ⟨rfl, hB⟩; have HL2 := hide (HL.out.next hB); clear ar0 ar1 ar2 ax0 ax1 ax2 ax3 ax4 ax5 ax6 ax7 hB HL HLG) | (go_at_call 12; refine (HAW.out _ HL2.out.b).mono ?_; rintro e w3 ⟨rfl, hB⟩; have HL3 := hide (HL2.out.next hB); clear hB HL2))
    go_ret
    exact ⟨rfl, HL3.out.b⟩
  replace hl : longB k.length t = false := by simpa using hl
  obtain ⟨hl1, hl2, hl3⟩ := longB_not hl
  rw [hl] at HLG
  have HO := hide (HP.out.ok hl2 hl3)
  have HI1 := hide (fun W (h : LW w (.slice ra k.length rc) k o n t W) => verify_any k (.slice ra k.length rc) o n t now W HO.out (HT.out.below h.b HT.out.two) h.s)
  have HI2 := hide (fun W (h : LW w (.slice ra k.length rc) k o n t W) => verifyR_any k (.slice ra k.length rc) o n t now W HO.out h.s HKB.out)
  generalize verS k o n t now = V at *
  clear hl hl1 hl2 hl3
  generalize k.length = q at *
  have ar0 := HL.out.r.c0
  have ar1 := HL.out.r.c1
  have ar2 := HL.out.r.c2
  have ax0 := HL.out.x.c0
  have ax1 := HL.out.x.c1
  have ax2 := HL.out.x.c2
  have ax3 := HL.out.x.c3
  have ax4 := HL.out.x.c4
  have ax5 := HL.out.x.c5
  have ax6 := HL.out.x.c6
  have ax7 := HL.out.x.c7
  unfold ringA at *
  go_enter Tryd.func5, Tryd.ntmps5
  go_wp2_with (first | (refine wpList_load_tk rfl (.tmp 4) rfl (w.heap.size + 1) rfl t HPM.out HL.out.x ?_) | (go_at_call 11; refine (HLG.out _).mono ?_; rintro e w2 ⟨rfl, hB⟩; have HL2 := hide (HL.out.next hB); clear ar0 ar1 ar2 ax0 ax1 ax2 ax3 ax4 ax5 ax6 ax7 hB HL HLG))
  have HL3 := hide (HL2.out.next (Below.refl _ _).drew)
  clear HL2
  refine wp_region_held_drew (S := LW w (.slice ra q rc) k o n t) (by kernel_rfl) HL3.out (fun hHeld => ?_)
  refine wpAnyH_take (i := 0) (oi := { dst := some 11, op := Op.load 25 (Operand.tmp 3), type := 25, pos := "law.go:65", after := #[], guard := none }) (v := ?_) rfl (by kernel_rfl) (by kernel_rfl) (by kernel_rfl) (fun _ _ _ h => h) (Or.inl ⟨by rfl, ?_⟩) hHeld ?_
  rotate_left
  · intro w hSw; (try dsimp only at hSw); have e0 := hSw.r.c0; have e1 := hSw.r.c1; have e2 := hSw.r.c2; go_simp; first | done | with_reducible rfl
  try simp only [Act.put, List.setIfInBounds_toArray, List.set_cons_zero, List.set_cons_succ]
  refine wpAnyH_take (i := 1) (oi := { dst := some 12, op := Op.load 31 (Operand.tmp 4), type := 31, pos := "law.go:65", after := #[], guard := none }) (v := .agg (tkA t)) rfl (by kernel_rfl) (by kernel_rfl) (by kernel_rfl) (fun _ _ _ h => h) (yields_tk (by rfl) _ rfl (w.heap.size + 1) rfl t HPM.out (fun _ h => h.x)) hHeld ?_
  try simp only [Act.put, List.setIfInBounds_toArray, List.set_cons_zero, List.set_cons_succ]
  refine wpAnyH_take (i := 2) (oi := { dst := some 13, op := Op.move (Operand.tmp 2), type := 23, pos := "law.go:65", after := #[], guard := none }) (v := ?_) rfl (by kernel_rfl) (by kernel_rfl) (by kernel_rfl) (fun _ _ _ h => h) (Or.inl ⟨by rfl, ?_⟩) hHeld ?_
  rotate_left
  · intro w hSw; (try dsimp only at hSw); go_simp; first | done | with_reducible rfl
  try simp only [Act.put, List.setIfInBounds_toArray, List.set_cons_zero, List.set_cons_succ]
  refine wpAnyH_take (i := 4) (oi := { dst := some 15, op := Op.load 25 (Operand.tmp 3), type := 25, pos := "law.go:65", after := #[], guard := none }) (v := ?_) rfl (by kernel_rfl) (by kernel_rfl) (by kernel_rfl) (fun _ _ _ h => h) (Or.inl ⟨by rfl, ?_⟩) hHeld ?_
  rotate_left
  · intro w hSw; (try dsimp only at hSw); have e0 := hSw.r.c0; have e1 := hSw.r.c1; have e2 := hSw.r.c2; go_simp; first | done | with_reducible rfl
  try simp only [Act.put, List.setIfInBounds_toArray, List.set_cons_zero, List.set_cons_succ]
  refine wpAnyH_take (i := 5) (oi := { dst := some 16, op := Op.load 31 (Operand.tmp 4), type := 31, pos := "law.go:65", after := #[], guard := none }) (v := .agg (tkA t)) rfl (by kernel_rfl) (by kernel_rfl) (by kernel_rfl) (fun _ _ _ h => h) (yields_tk (by rfl) _ rfl (w.heap.size + 1) rfl t HPM.out (fun _ h => h.x)) hHeld ?_
  try simp only [Act.put, List.setIfInBounds_toArray, List.set_cons_zero, List.set_cons_succ]
  refine wpAnyH_take (i := 6) (oi := { dst := some 17, op := Op.move (Operand.tmp 2), type := 23, pos := "law.go:65", after := #[], guard := none }) (v := ?_) rfl (by kernel_rfl) (by kernel_rfl) (by kernel_rfl) (fun _ _ _ h => h) (Or.inl ⟨by rfl, ?_⟩) hHeld ?_
  rotate_left
  · intro w hSw; (try dsimp only at hSw); go_simp; first | done | with_reducible rfl
  try simp only [Act.put, List.setIfInBounds_toArray, List.set_cons_zero, List.set_cons_succ]
  refine wpAnyH_ready (rs := [3]) (by kernel_rfl) (by simp) ?_
  refine AllReadyH.cons (o := { dst := some 14, op := Op.call { callee := Callee.value (Operand.func 22), args := #[Operand.tmp 11, Operand.tmp 12, Operand.tmp 13], argTypes := #[25, 31, 23] }, type := 37, pos := "law.go:65", after := #[{ on := 0, ground := Ground.data }, { on := 1, ground := Ground.data }, { on := 2, ground := Ground.data }], guard := none }) rfl (fun K hK => ?_) AllReadyH.nil
  clear hHeld
  go_simp
  refine (HI1.out _ HL3.out).mono ?_
  rintro e w4 ⟨rfl, hB⟩
  have HL4 := hide (HL3.out.next hB)
  clear hB HL3
  refine hK.out _ _ (HL4.out) (fun hHeld => ?_)
  clear hK K
  try simp only [Act.put, List.setIfInBounds_toArray, List.set_cons_zero, List.set_cons_succ]
  refine wpAnyH_ready (rs := [7]) (by kernel_rfl) (by simp) ?_
  refine AllReadyH.cons (o := { dst := some 18, op := Op.call { callee := Callee.value (Operand.func 23), args := #[Operand.tmp 15, Operand.tmp 16, Operand.tmp 17], argTypes := #[25, 31, 23] }, type := 37, pos := "law.go:65", after := #[{ on := 4, ground := Ground.data }, { on := 5, ground := Ground.data }, { on := 6, ground := Ground.data }, { on := 3, ground := Ground.chain }], guard := none }) rfl (fun K hK => ?_) AllReadyH.nil
  clear hHeld
  go_simp
  refine (HI2.out _ HL4.out).mono ?_
  rintro e w5 ⟨rfl, hB⟩
  have HL5 := hide (HL4.out.next hB)
  clear hB HL4
  refine hK.out _ _ (HL5.out) (fun hHeld => ?_)
  clear hK K
  try simp only [Act.put, List.setIfInBounds_toArray, List.set_cons_zero, List.set_cons_succ]
  refine wpAnyH_take (i := 8) (oi := { dst := some 19, op := Op.binOp BinOp.eql 37 (Operand.tmp 14) (Operand.tmp 18) 37, type := 4, pos := "law.go:65", after := #[{ on := 3, ground := Ground.data }, { on := 7, ground := Ground.data }], guard := none }) (v := ?_) rfl (by kernel_rfl) (by kernel_rfl) (by kernel_rfl) (fun _ _ _ h => h) (Or.inl ⟨by rfl, ?_⟩) hHeld ?_
  rotate_left
  · intro w hSw; (try dsimp only at hSw); go_simp; first | done | with_reducible rfl
  try simp only [Act.put, List.setIfInBounds_toArray, List.set_cons_zero, List.set_cons_succ]
  refine wpAnyH_take (i := 9) (oi := { dst := some 20, op := Op.move (Operand.tmp 19), type := 4, pos := "law.go:65", after := #[{ on := 8, ground := Ground.data }, { on := 7, ground := Ground.chain }], guard := none }) (v := ?_) rfl (by kernel_rfl) (by kernel_rfl) (by kernel_rfl) (fun _ _ _ h => h) (Or.inl ⟨by rfl, ?_⟩) hHeld ?_
  rotate_left
  · intro w hSw; (try dsimp only at hSw); go_simp; first | done | with_reducible rfl
  try simp only [Act.put, List.setIfInBounds_toArray, List.set_cons_zero, List.set_cons_succ]
  refine wpAnyH_ready (rs := [10]) (by kernel_rfl) (by simp) ?_
  refine AllReadyH.cons (o := { dst := some 21, op := Op.call { callee := Callee.value (Operand.func 12), args := #[], argTypes := #[] }, type := 4, pos := "law.go:65", after := #[{ on := 9, ground := Ground.chain }, { on := 9, ground := Ground.guard }], guard := some (9, true) }) rfl (fun K hK => ?_) AllReadyH.nil
  clear hHeld
  go_simp
  refine (HAW.out _ HL5.out.b).mono ?_
  rintro e w6 ⟨rfl, hB⟩
  have HL6 := hide (HL5.out.next hB)
  clear hB HL5
  refine hK.out _ _ (HL6.out) (fun hHeld => ?_)
  clear hK K
  try simp only [Act.put, List.setIfInBounds_toArray, List.set_cons_zero, List.set_cons_succ]
  refine wpAnyH_take (i := 11) (oi := { dst := some 22, op := Op.pick (Operand.tmp 20) (Operand.tmp 21) (Operand.const (Value.bool false)), type := 4, pos := "law.go:65", after := #[{ on := 9, ground := Ground.data }, { on := 10, ground := Ground.data }], guard := none }) (v := ?_) rfl (by kernel_rfl) (by kernel_rfl) (by kernel_rfl) (fun _ _ _ h => h) (Or.inl ⟨by rfl, ?_⟩) hHeld ?_
  rotate_left
  · intro w hSw; (try dsimp only at hSw); go_simp; first | done | with_reducible rfl
  try simp only [Act.put, List.setIfInBounds_toArray, List.set_cons_zero, List.set_cons_succ]
  refine wpAnyH_take (i := 12) (oi := { dst := some 6, op := Op.assign (Operand.tmp 22), type := 4, pos := "law.go:65", after := #[{ on := 11, ground := Ground.data }, { on := 10, ground := Ground.chain }, { on := 0, ground := Ground.phase }, { on := 1, ground := Ground.phase }, { on := 2, ground := Ground.phase }, { on := 3, ground := Ground.phase }, { on := 4, ground := Ground.phase }, { on := 5, ground := Ground.phase }, { on := 6, ground := Ground.phase }, { on := 7, ground := Ground.phase }, { on := 8, ground := Ground.phase }, { on := 9, ground := Ground.phase }, { on := 10, ground := Ground.phase }, { on := 11, ground := Ground.phase }], guard := none }) (v := ?_) rfl (by kernel_rfl) (by kernel_rfl) (by kernel_rfl) (fun _ _ _ h => h) (Or.inl ⟨by rfl, ?_⟩) hHeld ?_
  rotate_left
  · intro w hSw; (try dsimp only at hSw); go_simp; first | done | with_reducible rfl
  try simp only [Act.put, List.setIfInBounds_toArray, List.set_cons_zero, List.set_cons_succ]
  refine wpAnyH_done (by kernel_rfl) ?_ _
  clear hHeld
  go_wp2_with fail
  go_ret
  exact ⟨rfl, HL6.out.b⟩
end Go.Proofs.YtaomigfmjglggaaDoor
