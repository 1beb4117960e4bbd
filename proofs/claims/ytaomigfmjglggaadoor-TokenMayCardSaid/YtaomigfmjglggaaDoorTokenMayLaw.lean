/- Law TokenMay, walked. -/
import Derived.Test.YtaomigfmjglggaaDoorTkLWM
import Derived.Test.YtaomigfmjglggaaDoorTkTurnC
import Derived.Test.YtaomigfmjglggaaDoorTuck
import Derived.Test.YtaomigfmjglggaaDoorRowSet
namespace Go.Proofs.YtaomigfmjglggaaDoor
open Go.RowKit

/-- Behind both turnings: the two rings that were answered lie in boxes, the first one's row is the call's own. -/
structure MW (w : World) (rv : Value) (k : List Int) (o n : Nat) (t : Tk) (B g7 g9 : Nat) (v7 : Value) (y7 : List Int) (a7 b7 : Nat) (v9 : Value) (y9 : List Int) (a9 b9 : Nat) (W : World) : Prop where
  l : LW w rv k o n t W
  r7 : RBox W g7 v7 a7 b7
  r9 : RBox W g9 v9 a9 b9
  s7 : Row W B v7 y7
  s9 : SlAt W v9 y9
  hb : w.heap.size + 2 ≤ B
  h7 : ∀ j, v7.ownBlock = some j → j < g7 ∧ j < g9
theorem slice_inj {a b : Option Addr} {n m c d : Nat} (h : Value.slice a n c = .slice b m d) : a = b ∧ n = m ∧ c = d := by
  injection h with h1 h2 h3
  exact ⟨h1, h2, h3⟩
theorem MW.next {w : World} {rv : Value} {k : List Int} {o n : Nat} {t : Tk} {B g7 g9 : Nat} {v7 : Value} {y7 : List Int} {a7 b7 : Nat} {v9 : Value} {y9 : List Int} {a9 b9 : Nat} {W W' : World} (h : MW w rv k o n t B g7 g9 v7 y7 a7 b7 v9 y9 a9 b9 W) (hb : Below W.heap.size W W') : MW w rv k o n t B g7 g9 v7 y7 a7 b7 v9 y9 a9 b9 W' :=
  ⟨h.l.next hb, h.r7.next hb, h.r9.next hb, h.s7.below hb, h.s9.below hb, h.hb, h.h7⟩
/-- A byte of the first one's row is set: all else stays. -/
theorem MW.kept {w : World} {rv : Value} {k : List Int} {o n : Nat} {t : Tk} {B g7 g9 : Nat} {v7 : Value} {y7 : List Int} {a7 b7 : Nat} {v9 : Value} {y9 : List Int} {a9 b9 : Nat} {W W' : World} (h : MW w rv k o n t B g7 g9 v7 y7 a7 b7 v9 y9 a9 b9 W) (hk : Keep (fun j => v7.ownBlock = some j) W W') (hk0 : SlAt w rv k) : LW w rv k o n t W' ∧ RBox W' g7 v7 a7 b7 := by
  have hge : ∀ j, v7.ownBlock = some j → w.heap.size + 2 ≤ j := fun j e => Nat.le_trans h.hb (h.s7.ge e)
  have hb : Below w.heap.size w W' := hk.through h.l.b (fun j e => by have := hge j e; omega) h.l.b.size
  refine ⟨⟨(hk.block _ h.l.r.lt (fun e => by have := hge _ e; omega)).trans h.l.r, (hk.block _ h.l.x.lt (fun e => by have := hge _ e; omega)).trans h.l.x, hk0.below hb, hb⟩, (hk.block _ h.r7.lt (fun e => by have := (h.h7 _ e).1; omega)).trans h.r7⟩

set_option maxRecDepth 100000 in
set_option maxHeartbeats 16000000 in
theorem may_walk (rv : Value) (k : List Int) (o n : Nat) (t : Tk) (now : Nat) (w : World) (hT : Tab w) (hk : SlAt w rv k) (hkb : ∀ x ∈ k, 0 ≤ x ∧ x < 256) (_ : k.length ≤ maxLen) (hp : t.pre) (ho : o < 18446744073709551616) (hn : n < 18446744073709551616) (hnow : now < 18446744073709551616) :
    Calls Tryd.prog 3 #[.agg (ringA rv o n), .agg (tkA t), .int .u64 now] w (LawPost w) := by
  obtain ⟨ra, rc, rfl⟩ := hk.len
  have HT := hide hT
  have HL := hide (LW.first w (.slice ra k.length rc) k o n t hk)
  have HP := hide hp
  have HPM := hide hp.mac
  have HKB := hide hkb
  have HAW := hide (fun W (h : Below w.heap.size w W) => awake_any W (HT.out.below h HT.out.two))
  have HLG := hide (fun W => long_any ra k.length rc o n t W)
  have HK0 := hide hk
  clear hk hp hT hkb

  by_cases hl : longB k.length t = true
  · rw [hl] at HLG
    clear hl
    generalize k.length = q at *
    have ar0 := HL.out.r.c0
    have ar1 := HL.out.r.c1
    have ar2 := HL.out.r.c2
    have ax0 := HL.out.x.c0
    have ax1 := HL.out.x.c1
    have ax2 := HL.out.x.c2
    have ax3 := HL.out.x.c3
    have ax4 := HL.out.x.c4
    have ax5 := HL.out.x.c5
    have ax6 := HL.out.x.c6
    have ax7 := HL.out.x.c7
    unfold ringA at *
    go_enter Tryd.func3, Tryd.ntmps3
    go_wp2_with (first | (refine wpList_load_tk rfl (.tmp 4) rfl (w.heap.size + 1) rfl t HPM.out HL.out.x ?_) | (go_at_call 11; refine (HLG.out _).mono ?_; rintro e w2 ⟨rfl, hB⟩; have HL2 := hide (HL.out.next hB); clear ar0 ar1 ar2 ax0 ax1 ax2 ax3 ax4 ax5 ax6 ax7 hB HL HLG) | (go_at_call 12; refine (HAW.out _ HL2.out.b).mono ?_; rintro e w3 ⟨rfl, hB⟩; have HL3 := hide (HL2.out.next hB); clear hB HL2))
    go_ret
    exact ⟨rfl, HL3.out.b⟩
  replace hl : longB k.length t = false := by simpa using hl
  obtain ⟨hl1, hl2, hl3⟩ := longB_not hl
  rw [hl] at HLG
  have HO := hide (HP.out.ok hl2 hl3)
  have HRM := hide (fun W => ring_any ra k.length rc o n W)
  have HRR := hide (fun W => ringR_any ra k.length rc o n W)
  have HTM := hide (fun W => tmay_any t HO.out W)
  have HTR := hide (fun W => tmayR_any t HO.out W)
  have HFR := hide (fun W => fresh_any t HO.out now hnow W)
  have hq3 := hl1
  clear hl hl1 hl2 hl3
  obtain ⟨FB, hFB⟩ : ∃ FB, freshB t now = FB := ⟨_, rfl⟩
  have HFB := tuck hFB
  rw [hFB] at HFR
  clear hFB
  generalize mayT t = MT at *
  obtain ⟨q, hq⟩ : ∃ q, k.length = q := ⟨_, rfl⟩
  have HQ := tuck hq
  rw [hq] at HL HLG HRM HRR HK0 hq3 ⊢
  clear hq
  obtain ⟨M, hM⟩ : ∃ M, mayR q o n = M := ⟨_, rfl⟩
  have HM := tuck hM
  rw [hM] at HRM HRR
  clear hM
  have ar0 := HL.out.r.c0
  have ar1 := HL.out.r.c1
  have ar2 := HL.out.r.c2
  have ax0 := HL.out.x.c0
  have ax1 := HL.out.x.c1
  have ax2 := HL.out.x.c2
  have ax3 := HL.out.x.c3
  have ax4 := HL.out.x.c4
  have ax5 := HL.out.x.c5
  have ax6 := HL.out.x.c6
  have ax7 := HL.out.x.c7
  unfold ringA at *
  go_enter Tryd.func3, Tryd.ntmps3
  go_upto_region 3 with (first | (refine wpList_load_tk rfl (.tmp 4) rfl (w.heap.size + 1) rfl t HPM.out HL.out.x ?_) | (go_at_call 11; refine (HLG.out _).mono ?_; rintro e w2 ⟨rfl, hB⟩; have HL2 := hide (HL.out.next hB); clear ar0 ar1 ar2 ax0 ax1 ax2 ax3 ax4 ax5 ax6 ax7 hB HL HLG))
  go_cut [6, 45] (fun s6 s45 W => s6 = .bool false ∧ s45 = .bool false ∧ LW w (.slice ra q rc) k o n t W)
  case first =>
    have HL3 := hide (HL2.out.next (Below.refl _ _).drew)
    clear HL2
    by_cases hbn : t.born ≤ now
    · have hd1 : decide ((t.born : Int) ≤ (now : Int)) = true := by simpa using hbn
      have hd2 : (t.born : Int) ≤ (now : Int) := by omega
      have hd5 : decide (t.born ≤ now) = true := by simpa using hbn
      obtain ⟨df, hdf⟩ : ∃ df : Nat, now - t.born = df := ⟨_, rfl⟩
      have hws : IntKind.u64.wrap ((now : Int) - (t.born : Int)) = (df : Int) := by rw [IntWalk.u64_in _ (by omega)]; omega
      have hfb : FB = decide (df < 100) := by rw [← HFB.out, freshB, decide_eq_true hbn, hdf]; rfl
      have hbr : t.born < 18446744073709551616 := HO.out.born
      clear hbn hdf HFB
      by_cases hdl : df < 100
      · have hd3 : (df : Int) < 100 := by omega
        have hd4 : decide ((df : Int) < 100) = true := by simpa using hd3
        have hd6 : decide (df < 100) = true := by simpa using hdl
        rw [hd6] at hfb
        subst hfb
        clear hdl
        refine wp_region_held_drew (S := LW w (.slice ra q rc) k o n t) (by kernel_rfl) HL3.out (fun hHeld => ?_)
        refine wpAnyH_take (i := 0) (oi := { dst := some 17, op := Op.load 25 (Operand.tmp 3), type := 25, pos := "law.go:29", after := #[], guard := none }) (v := ?_) rfl (by kernel_rfl) (by kernel_rfl) (by kernel_rfl) (fun _ _ _ h => h) (Or.inl ⟨by rfl, ?_⟩) hHeld ?_
        rotate_left
        · intro w hSw; (try dsimp only at hSw); have e0 := hSw.r.c0; have e1 := hSw.r.c1; have e2 := hSw.r.c2; have e5 := hSw.x.c5; go_simp; first | done | with_reducible rfl
        try simp only [Act.put, List.setIfInBounds_toArray, List.set_cons_zero, List.set_cons_succ]
        refine wpAnyH_take (i := 2) (oi := { dst := some 19, op := Op.load 25 (Operand.tmp 3), type := 25, pos := "law.go:29", after := #[], guard := none }) (v := ?_) rfl (by kernel_rfl) (by kernel_rfl) (by kernel_rfl) (fun _ _ _ h => h) (Or.inl ⟨by rfl, ?_⟩) hHeld ?_
        rotate_left
        · intro w hSw; (try dsimp only at hSw); have e0 := hSw.r.c0; have e1 := hSw.r.c1; have e2 := hSw.r.c2; have e5 := hSw.x.c5; go_simp; first | done | with_reducible rfl
        try simp only [Act.put, List.setIfInBounds_toArray, List.set_cons_zero, List.set_cons_succ]
        refine wpAnyH_ready (rs := [1]) (by kernel_rfl) (by simp) ?_
        refine AllReadyH.cons (o := { dst := some 18, op := Op.call { callee := Callee.value (Operand.func 13), args := #[Operand.tmp 17], argTypes := #[25] }, type := 4, pos := "law.go:29", after := #[{ on := 0, ground := Ground.data }], guard := none }) rfl (fun K hK => ?_) AllReadyH.nil
        clear hHeld
        go_simp
        refine (HRM.out _).mono ?_
        rintro e w4 ⟨rfl, hB⟩
        have HL4 := hide (HL3.out.next hB)
        clear hB HL3
        refine hK.out _ _ (HL4.out) (fun hHeld => ?_)
        clear hK K
        try simp only [Act.put, List.setIfInBounds_toArray, List.set_cons_zero, List.set_cons_succ]
        refine wpAnyH_ready (rs := [3]) (by kernel_rfl) (by simp) ?_
        refine AllReadyH.cons (o := { dst := some 20, op := Op.call { callee := Callee.value (Operand.func 14), args := #[Operand.tmp 19], argTypes := #[25] }, type := 4, pos := "law.go:29", after := #[{ on := 2, ground := Ground.data }, { on := 1, ground := Ground.chain }], guard := none }) rfl (fun K hK => ?_) AllReadyH.nil
        clear hHeld
        go_simp
        refine (HRR.out _).mono ?_
        rintro e w5 ⟨rfl, hB⟩
        have HL5 := hide (HL4.out.next hB)
        clear hB HL4
        refine hK.out _ _ (HL5.out) (fun hHeld => ?_)
        clear hK K
        try simp only [Act.put, List.setIfInBounds_toArray, List.set_cons_zero, List.set_cons_succ]
        refine wpAnyH_take (i := 4) (oi := { dst := some 21, op := Op.binOp BinOp.neq 4 (Operand.tmp 18) (Operand.tmp 20) 4, type := 4, pos := "law.go:29", after := #[{ on := 1, ground := Ground.data }, { on := 3, ground := Ground.data }], guard := none }) (v := ?_) rfl (by kernel_rfl) (by kernel_rfl) (by kernel_rfl) (fun _ _ _ h => h) (Or.inl ⟨by rfl, ?_⟩) hHeld ?_
        rotate_left
        · intro w hSw; (try dsimp only at hSw); go_simp; first | done | with_reducible rfl
        try simp only [Act.put, List.setIfInBounds_toArray, List.set_cons_zero, List.set_cons_succ]
        refine wpAnyH_take (i := 5) (oi := { dst := some 22, op := Op.move (Operand.tmp 21), type := 4, pos := "law.go:29", after := #[{ on := 4, ground := Ground.data }, { on := 3, ground := Ground.chain }], guard := none }) (v := ?_) rfl (by kernel_rfl) (by kernel_rfl) (by kernel_rfl) (fun _ _ _ h => h) (Or.inl ⟨by rfl, ?_⟩) hHeld ?_
        rotate_left
        · intro w hSw; (try dsimp only at hSw); go_simp; first | done | with_reducible rfl
        try simp only [Act.put, List.setIfInBounds_toArray, List.set_cons_zero, List.set_cons_succ]
        refine wpAnyH_take (i := 6) (oi := { dst := some 23, op := Op.load 31 (Operand.tmp 4), type := 31, pos := "law.go:29", after := #[{ on := 5, ground := Ground.guard }], guard := some (5, false) }) (v := .agg (tkA t)) rfl (by kernel_rfl) (by kernel_rfl) (by kernel_rfl) (fun _ _ _ h => h) (yields_tk (by rfl) _ rfl (w.heap.size + 1) rfl t HPM.out (fun _ h => h.x)) hHeld ?_
        try simp only [Act.put, List.setIfInBounds_toArray, List.set_cons_zero, List.set_cons_succ]
        refine wpAnyH_take (i := 8) (oi := { dst := some 25, op := Op.load 31 (Operand.tmp 4), type := 31, pos := "law.go:29", after := #[{ on := 5, ground := Ground.guard }], guard := some (5, false) }) (v := .agg (tkA t)) rfl (by kernel_rfl) (by kernel_rfl) (by kernel_rfl) (fun _ _ _ h => h) (yields_tk (by rfl) _ rfl (w.heap.size + 1) rfl t HPM.out (fun _ h => h.x)) hHeld ?_
        try simp only [Act.put, List.setIfInBounds_toArray, List.set_cons_zero, List.set_cons_succ]
        refine wpAnyH_ready (rs := [7]) (by kernel_rfl) (by simp) ?_
        refine AllReadyH.cons (o := { dst := some 24, op := Op.call { callee := Callee.value (Operand.func 15), args := #[Operand.tmp 23], argTypes := #[31] }, type := 4, pos := "law.go:29", after := #[{ on := 6, ground := Ground.data }, { on := 5, ground := Ground.chain }, { on := 5, ground := Ground.guard }], guard := some (5, false) }) rfl (fun K hK => ?_) AllReadyH.nil
        clear hHeld
        go_simp
        refine (HTM.out _).mono ?_
        rintro e w6 ⟨rfl, hB⟩
        have HL6 := hide (HL5.out.next hB)
        clear hB HL5
        refine hK.out _ _ (HL6.out) (fun hHeld => ?_)
        clear hK K
        try simp only [Act.put, List.setIfInBounds_toArray, List.set_cons_zero, List.set_cons_succ]
        refine wpAnyH_ready (rs := [9]) (by kernel_rfl) (by simp) ?_
        refine AllReadyH.cons (o := { dst := some 26, op := Op.call { callee := Callee.value (Operand.func 16), args := #[Operand.tmp 25], argTypes := #[31] }, type := 4, pos := "law.go:29", after := #[{ on := 8, ground := Ground.data }, { on := 7, ground := Ground.chain }, { on := 5, ground := Ground.guard }], guard := some (5, false) }) rfl (fun K hK => ?_) AllReadyH.nil
        clear hHeld
        go_simp
        refine (HTR.out _).mono ?_
        rintro e w7 ⟨rfl, hB⟩
        have HL7 := hide (HL6.out.next hB)
        clear hB HL6
        refine hK.out _ _ (HL7.out) (fun hHeld => ?_)
        clear hK K
        try simp only [Act.put, List.setIfInBounds_toArray, List.set_cons_zero, List.set_cons_succ]
        refine wpAnyH_take (i := 10) (oi := { dst := some 27, op := Op.binOp BinOp.neq 4 (Operand.tmp 24) (Operand.tmp 26) 4, type := 4, pos := "law.go:29", after := #[{ on := 7, ground := Ground.data }, { on := 9, ground := Ground.data }, { on := 5, ground := Ground.guard }], guard := some (5, false) }) (v := ?_) rfl (by kernel_rfl) (by kernel_rfl) (by kernel_rfl) (fun _ _ _ h => h) (Or.inl ⟨by rfl, ?_⟩) hHeld ?_
        rotate_left
        · intro w hSw; (try dsimp only at hSw); go_simp; first | done | with_reducible rfl
        try simp only [Act.put, List.setIfInBounds_toArray, List.set_cons_zero, List.set_cons_succ]
        refine wpAnyH_take (i := 11) (oi := { dst := some 28, op := Op.pick (Operand.tmp 22) (Operand.const (Value.bool true)) (Operand.tmp 27), type := 4, pos := "law.go:29", after := #[{ on := 5, ground := Ground.data }, { on := 10, ground := Ground.data }], guard := none }) (v := ?_) rfl (by kernel_rfl) (by kernel_rfl) (by kernel_rfl) (fun _ _ _ h => h) (Or.inl ⟨by rfl, ?_⟩) hHeld ?_
        rotate_left
        · intro w hSw; (try dsimp only at hSw); go_simp; first | done | with_reducible rfl
        try simp only [Act.put, List.setIfInBounds_toArray, List.set_cons_zero, List.set_cons_succ]
        refine wpAnyH_take (i := 12) (oi := { dst := some 29, op := Op.move (Operand.tmp 28), type := 4, pos := "law.go:29", after := #[{ on := 11, ground := Ground.data }, { on := 9, ground := Ground.chain }], guard := none }) (v := ?_) rfl (by kernel_rfl) (by kernel_rfl) (by kernel_rfl) (fun _ _ _ h => h) (Or.inl ⟨by rfl, ?_⟩) hHeld ?_
        rotate_left
        · intro w hSw; (try dsimp only at hSw); go_simp; first | done | with_reducible rfl
        try simp only [Act.put, List.setIfInBounds_toArray, List.set_cons_zero, List.set_cons_succ]
        refine wpAnyH_take (i := 13) (oi := { dst := some 30, op := Op.load 31 (Operand.tmp 4), type := 31, pos := "law.go:29", after := #[{ on := 12, ground := Ground.guard }], guard := some (12, false) }) (v := .agg (tkA t)) rfl (by kernel_rfl) (by kernel_rfl) (by kernel_rfl) (fun _ _ _ h => h) (yields_tk (by rfl) _ rfl (w.heap.size + 1) rfl t HPM.out (fun _ h => h.x)) hHeld ?_
        try simp only [Act.put, List.setIfInBounds_toArray, List.set_cons_zero, List.set_cons_succ]
        refine wpAnyH_take (i := 14) (oi := { dst := some 31, op := Op.move (Operand.tmp 2), type := 23, pos := "law.go:29", after := #[{ on := 12, ground := Ground.guard }], guard := some (12, false) }) (v := ?_) rfl (by kernel_rfl) (by kernel_rfl) (by kernel_rfl) (fun _ _ _ h => h) (Or.inl ⟨by rfl, ?_⟩) hHeld ?_
        rotate_left
        · intro w hSw; (try dsimp only at hSw); go_simp; first | done | with_reducible rfl
        try simp only [Act.put, List.setIfInBounds_toArray, List.set_cons_zero, List.set_cons_succ]
        refine wpAnyH_take (i := 16) (oi := { dst := some 33, op := Op.move (Operand.tmp 2), type := 23, pos := "law.go:29", after := #[{ on := 12, ground := Ground.guard }], guard := some (12, false) }) (v := ?_) rfl (by kernel_rfl) (by kernel_rfl) (by kernel_rfl) (fun _ _ _ h => h) (Or.inl ⟨by rfl, ?_⟩) hHeld ?_
        rotate_left
        · intro w hSw; (try dsimp only at hSw); go_simp; first | done | with_reducible rfl
        try simp only [Act.put, List.setIfInBounds_toArray, List.set_cons_zero, List.set_cons_succ]
        refine wpAnyH_take (i := 17) (oi := { dst := some 34, op := Op.fieldAddr 31 (Operand.tmp 4) 4, type := 0, pos := "law.go:29", after := #[{ on := 12, ground := Ground.guard }], guard := some (12, false) }) (v := ?_) rfl (by kernel_rfl) (by kernel_rfl) (by kernel_rfl) (fun _ _ _ h => h) (Or.inl ⟨by rfl, ?_⟩) hHeld ?_
        rotate_left
        · intro w hSw; (try dsimp only at hSw); go_simp; first | done | with_reducible rfl
        try simp only [Act.put, List.setIfInBounds_toArray, List.set_cons_zero, List.set_cons_succ]
        refine wpAnyH_take (i := 18) (oi := { dst := some 35, op := Op.load 23 (Operand.tmp 34), type := 23, pos := "law.go:29", after := #[{ on := 17, ground := Ground.data }, { on := 12, ground := Ground.guard }], guard := some (12, false) }) (v := ?_) rfl (by kernel_rfl) (by kernel_rfl) (by kernel_rfl) (fun _ _ _ h => h) (Or.inl ⟨by rfl, ?_⟩) hHeld ?_
        rotate_left
        · intro w hSw; (try dsimp only at hSw); have e0 := hSw.r.c0; have e1 := hSw.r.c1; have e2 := hSw.r.c2; have e5 := hSw.x.c5; go_simp; first | done | with_reducible rfl
        try simp only [Act.put, List.setIfInBounds_toArray, List.set_cons_zero, List.set_cons_succ]
        refine wpAnyH_take (i := 19) (oi := { dst := some 36, op := Op.binOp BinOp.geq 23 (Operand.tmp 33) (Operand.tmp 35) 23, type := 4, pos := "law.go:29", after := #[{ on := 16, ground := Ground.data }, { on := 18, ground := Ground.data }, { on := 12, ground := Ground.guard }], guard := some (12, false) }) (v := ?_) rfl (by kernel_rfl) (by kernel_rfl) (by kernel_rfl) (fun _ _ _ h => h) (Or.inl ⟨by rfl, ?_⟩) hHeld ?_
        rotate_left
        · intro w hSw; (try dsimp only at hSw); go_simp; first | done | with_reducible rfl
        try simp only [Act.put, List.setIfInBounds_toArray, List.set_cons_zero, List.set_cons_succ]
        refine wpAnyH_ready (rs := [15]) (by kernel_rfl) (by simp) ?_
        refine AllReadyH.cons (o := { dst := some 32, op := Op.call { callee := Callee.value (Operand.func 17), args := #[Operand.tmp 30, Operand.tmp 31], argTypes := #[31, 23] }, type := 4, pos := "law.go:29", after := #[{ on := 13, ground := Ground.data }, { on := 14, ground := Ground.data }, { on := 12, ground := Ground.chain }, { on := 12, ground := Ground.guard }], guard := some (12, false) }) rfl (fun K hK => ?_) AllReadyH.nil
        clear hHeld
        go_simp
        refine (HFR.out _).mono ?_
        rintro e w8 ⟨rfl, hB⟩
        have HL8 := hide (HL7.out.next hB)
        clear hB HL7
        refine hK.out _ _ (HL8.out) (fun hHeld => ?_)
        clear hK K
        try simp only [Act.put, List.setIfInBounds_toArray, List.set_cons_zero, List.set_cons_succ]
        refine wpAnyH_take (i := 20) (oi := { dst := some 37, op := Op.move (Operand.tmp 36), type := 4, pos := "law.go:29", after := #[{ on := 19, ground := Ground.data }, { on := 15, ground := Ground.chain }, { on := 12, ground := Ground.guard }], guard := some (12, false) }) (v := ?_) rfl (by kernel_rfl) (by kernel_rfl) (by kernel_rfl) (fun _ _ _ h => h) (Or.inl ⟨by rfl, ?_⟩) hHeld ?_
        rotate_left
        · intro w hSw; (try dsimp only at hSw); go_simp; first | done | with_reducible rfl
        try simp only [Act.put, List.setIfInBounds_toArray, List.set_cons_zero, List.set_cons_succ]
        refine wpAnyH_take (i := 21) (oi := { dst := some 38, op := Op.move (Operand.tmp 2), type := 23, pos := "law.go:29", after := #[{ on := 20, ground := Ground.guard }], guard := some (20, true) }) (v := ?_) rfl (by kernel_rfl) (by kernel_rfl) (by kernel_rfl) (fun _ _ _ h => h) (Or.inl ⟨by rfl, ?_⟩) hHeld ?_
        rotate_left
        · intro w hSw; (try dsimp only at hSw); go_simp; first | done | with_reducible rfl
        try simp only [Act.put, List.setIfInBounds_toArray, List.set_cons_zero, List.set_cons_succ]
        refine wpAnyH_take (i := 22) (oi := { dst := some 39, op := Op.fieldAddr 31 (Operand.tmp 4) 4, type := 0, pos := "law.go:29", after := #[{ on := 20, ground := Ground.guard }], guard := some (20, true) }) (v := ?_) rfl (by kernel_rfl) (by kernel_rfl) (by kernel_rfl) (fun _ _ _ h => h) (Or.inl ⟨by rfl, ?_⟩) hHeld ?_
        rotate_left
        · intro w hSw; (try dsimp only at hSw); go_simp; first | done | with_reducible rfl
        try simp only [Act.put, List.setIfInBounds_toArray, List.set_cons_zero, List.set_cons_succ]
        refine wpAnyH_take (i := 23) (oi := { dst := some 40, op := Op.load 23 (Operand.tmp 39), type := 23, pos := "law.go:29", after := #[{ on := 22, ground := Ground.data }, { on := 20, ground := Ground.guard }], guard := some (20, true) }) (v := ?_) rfl (by kernel_rfl) (by kernel_rfl) (by kernel_rfl) (fun _ _ _ h => h) (Or.inl ⟨by rfl, ?_⟩) hHeld ?_
        rotate_left
        · intro w hSw; (try dsimp only at hSw); have e0 := hSw.r.c0; have e1 := hSw.r.c1; have e2 := hSw.r.c2; have e5 := hSw.x.c5; go_simp; first | done | with_reducible rfl
        try simp only [Act.put, List.setIfInBounds_toArray, List.set_cons_zero, List.set_cons_succ]
        refine wpAnyH_take (i := 24) (oi := { dst := some 41, op := Op.binOp BinOp.sub 23 (Operand.tmp 38) (Operand.tmp 40) 23, type := 23, pos := "law.go:29", after := #[{ on := 21, ground := Ground.data }, { on := 23, ground := Ground.data }, { on := 20, ground := Ground.guard }], guard := some (20, true) }) (v := ?_) rfl (by kernel_rfl) (by kernel_rfl) (by kernel_rfl) (fun _ _ _ h => h) (Or.inl ⟨by rfl, ?_⟩) hHeld ?_
        rotate_left
        · intro w hSw; (try dsimp only at hSw); go_simp; first | done | with_reducible rfl
        try simp only [Act.put, List.setIfInBounds_toArray, List.set_cons_zero, List.set_cons_succ]
        refine wpAnyH_take (i := 25) (oi := { dst := some 42, op := Op.binOp BinOp.lss 23 (Operand.tmp 41) (Operand.const (Value.int IntKind.u64 100)) 23, type := 4, pos := "law.go:29", after := #[{ on := 24, ground := Ground.data }, { on := 20, ground := Ground.guard }], guard := some (20, true) }) (v := ?_) rfl (by kernel_rfl) (by kernel_rfl) (by kernel_rfl) (fun _ _ _ h => h) (Or.inl ⟨by rfl, ?_⟩) hHeld ?_
        rotate_left
        · intro w hSw; (try dsimp only at hSw); go_simp; first | done | with_reducible rfl
        try simp only [Act.put, List.setIfInBounds_toArray, List.set_cons_zero, List.set_cons_succ]
        refine wpAnyH_take (i := 26) (oi := { dst := some 43, op := Op.pick (Operand.tmp 37) (Operand.tmp 42) (Operand.const (Value.bool false)), type := 4, pos := "law.go:29", after := #[{ on := 20, ground := Ground.data }, { on := 25, ground := Ground.data }, { on := 12, ground := Ground.guard }], guard := some (12, false) }) (v := ?_) rfl (by kernel_rfl) (by kernel_rfl) (by kernel_rfl) (fun _ _ _ h => h) (Or.inl ⟨by rfl, ?_⟩) hHeld ?_
        rotate_left
        · intro w hSw; (try dsimp only at hSw); go_simp; first | done | with_reducible rfl
        try simp only [Act.put, List.setIfInBounds_toArray, List.set_cons_zero, List.set_cons_succ]
        refine wpAnyH_take (i := 27) (oi := { dst := some 44, op := Op.binOp BinOp.neq 4 (Operand.tmp 32) (Operand.tmp 43) 4, type := 4, pos := "law.go:29", after := #[{ on := 15, ground := Ground.data }, { on := 26, ground := Ground.data }, { on := 12, ground := Ground.guard }], guard := some (12, false) }) (v := ?_) rfl (by kernel_rfl) (by kernel_rfl) (by kernel_rfl) (fun _ _ _ h => h) (Or.inl ⟨by rfl, ?_⟩) hHeld ?_
        rotate_left
        · intro w hSw; (try dsimp only at hSw); go_simp; first | done | with_reducible rfl
        try simp only [Act.put, List.setIfInBounds_toArray, List.set_cons_zero, List.set_cons_succ]
        refine wpAnyH_take (i := 28) (oi := { dst := some 45, op := Op.pick (Operand.tmp 29) (Operand.const (Value.bool true)) (Operand.tmp 44), type := 4, pos := "law.go:29", after := #[{ on := 12, ground := Ground.data }, { on := 27, ground := Ground.data }], guard := none }) (v := ?_) rfl (by kernel_rfl) (by kernel_rfl) (by kernel_rfl) (fun _ _ _ h => h) (Or.inl ⟨by rfl, ?_⟩) hHeld ?_
        rotate_left
        · intro w hSw; (try dsimp only at hSw); go_simp; first | done | with_reducible rfl
        try simp only [Act.put, List.setIfInBounds_toArray, List.set_cons_zero, List.set_cons_succ]
        refine wpAnyH_done (by kernel_rfl) ?_ _
        clear hHeld
        go_wp2_with fail
        go_meet
        case rel => exact ⟨rfl, rfl, HL8.out⟩
      · have hd3 : ¬ (df : Int) < 100 := by omega
        have hd4 : decide ((df : Int) < 100) = false := by simpa using hd3
        have hd6 : decide (df < 100) = false := by simpa using hdl
        rw [hd6] at hfb
        subst hfb
        clear hdl
        refine wp_region_held_drew (S := LW w (.slice ra q rc) k o n t) (by kernel_rfl) HL3.out (fun hHeld => ?_)
        refine wpAnyH_take (i := 0) (oi := { dst := some 17, op := Op.load 25 (Operand.tmp 3), type := 25, pos := "law.go:29", after := #[], guard := none }) (v := ?_) rfl (by kernel_rfl) (by kernel_rfl) (by kernel_rfl) (fun _ _ _ h => h) (Or.inl ⟨by rfl, ?_⟩) hHeld ?_
        rotate_left
        · intro w hSw; (try dsimp only at hSw); have e0 := hSw.r.c0; have e1 := hSw.r.c1; have e2 := hSw.r.c2; have e5 := hSw.x.c5; go_simp; first | done | with_reducible rfl
        try simp only [Act.put, List.setIfInBounds_toArray, List.set_cons_zero, List.set_cons_succ]
        refine wpAnyH_take (i := 2) (oi := { dst := some 19, op := Op.load 25 (Operand.tmp 3), type := 25, pos := "law.go:29", after := #[], guard := none }) (v := ?_) rfl (by kernel_rfl) (by kernel_rfl) (by kernel_rfl) (fun _ _ _ h => h) (Or.inl ⟨by rfl, ?_⟩) hHeld ?_
        rotate_left
        · intro w hSw; (try dsimp only at hSw); have e0 := hSw.r.c0; have e1 := hSw.r.c1; have e2 := hSw.r.c2; have e5 := hSw.x.c5; go_simp; first | done | with_reducible rfl
        try simp only [Act.put, List.setIfInBounds_toArray, List.set_cons_zero, List.set_cons_succ]
        refine wpAnyH_ready (rs := [1]) (by kernel_rfl) (by simp) ?_
        refine AllReadyH.cons (o := { dst := some 18, op := Op.call { callee := Callee.value (Operand.func 13), args := #[Operand.tmp 17], argTypes := #[25] }, type := 4, pos := "law.go:29", after := #[{ on := 0, ground := Ground.data }], guard := none }) rfl (fun K hK => ?_) AllReadyH.nil
        clear hHeld
        go_simp
        refine (HRM.out _).mono ?_
        rintro e w4 ⟨rfl, hB⟩
        have HL4 := hide (HL3.out.next hB)
        clear hB HL3
        refine hK.out _ _ (HL4.out) (fun hHeld => ?_)
        clear hK K
        try simp only [Act.put, List.setIfInBounds_toArray, List.set_cons_zero, List.set_cons_succ]
        refine wpAnyH_ready (rs := [3]) (by kernel_rfl) (by simp) ?_
        refine AllReadyH.cons (o := { dst := some 20, op := Op.call { callee := Callee.value (Operand.func 14), args := #[Operand.tmp 19], argTypes := #[25] }, type := 4, pos := "law.go:29", after := #[{ on := 2, ground := Ground.data }, { on := 1, ground := Ground.chain }], guard := none }) rfl (fun K hK => ?_) AllReadyH.nil
        clear hHeld
        go_simp
        refine (HRR.out _).mono ?_
        rintro e w5 ⟨rfl, hB⟩
        have HL5 := hide (HL4.out.next hB)
        clear hB HL4
        refine hK.out _ _ (HL5.out) (fun hHeld => ?_)
        clear hK K
        try simp only [Act.put, List.setIfInBounds_toArray, List.set_cons_zero, List.set_cons_succ]
        refine wpAnyH_take (i := 4) (oi := { dst := some 21, op := Op.binOp BinOp.neq 4 (Operand.tmp 18) (Operand.tmp 20) 4, type := 4, pos := "law.go:29", after := #[{ on := 1, ground := Ground.data }, { on := 3, ground := Ground.data }], guard := none }) (v := ?_) rfl (by kernel_rfl) (by kernel_rfl) (by kernel_rfl) (fun _ _ _ h => h) (Or.inl ⟨by rfl, ?_⟩) hHeld ?_
        rotate_left
        · intro w hSw; (try dsimp only at hSw); go_simp; first | done | with_reducible rfl
        try simp only [Act.put, List.setIfInBounds_toArray, List.set_cons_zero, List.set_cons_succ]
        refine wpAnyH_take (i := 5) (oi := { dst := some 22, op := Op.move (Operand.tmp 21), type := 4, pos := "law.go:29", after := #[{ on := 4, ground := Ground.data }, { on := 3, ground := Ground.chain }], guard := none }) (v := ?_) rfl (by kernel_rfl) (by kernel_rfl) (by kernel_rfl) (fun _ _ _ h => h) (Or.inl ⟨by rfl, ?_⟩) hHeld ?_
        rotate_left
        · intro w hSw; (try dsimp only at hSw); go_simp; first | done | with_reducible rfl
        try simp only [Act.put, List.setIfInBounds_toArray, List.set_cons_zero, List.set_cons_succ]
        refine wpAnyH_take (i := 6) (oi := { dst := some 23, op := Op.load 31 (Operand.tmp 4), type := 31, pos := "law.go:29", after := #[{ on := 5, ground := Ground.guard }], guard := some (5, false) }) (v := .agg (tkA t)) rfl (by kernel_rfl) (by kernel_rfl) (by kernel_rfl) (fun _ _ _ h => h) (yields_tk (by rfl) _ rfl (w.heap.size + 1) rfl t HPM.out (fun _ h => h.x)) hHeld ?_
        try simp only [Act.put, List.setIfInBounds_toArray, List.set_cons_zero, List.set_cons_succ]
        refine wpAnyH_take (i := 8) (oi := { dst := some 25, op := Op.load 31 (Operand.tmp 4), type := 31, pos := "law.go:29", after := #[{ on := 5, ground := Ground.guard }], guard := some (5, false) }) (v := .agg (tkA t)) rfl (by kernel_rfl) (by kernel_rfl) (by kernel_rfl) (fun _ _ _ h => h) (yields_tk (by rfl) _ rfl (w.heap.size + 1) rfl t HPM.out (fun _ h => h.x)) hHeld ?_
        try simp only [Act.put, List.setIfInBounds_toArray, List.set_cons_zero, List.set_cons_succ]
        refine wpAnyH_ready (rs := [7]) (by kernel_rfl) (by simp) ?_
        refine AllReadyH.cons (o := { dst := some 24, op := Op.call { callee := Callee.value (Operand.func 15), args := #[Operand.tmp 23], argTypes := #[31] }, type := 4, pos := "law.go:29", after := #[{ on := 6, ground := Ground.data }, { on := 5, ground := Ground.chain }, { on := 5, ground := Ground.guard }], guard := some (5, false) }) rfl (fun K hK => ?_) AllReadyH.nil
        clear hHeld
        go_simp
        refine (HTM.out _).mono ?_
        rintro e w6 ⟨rfl, hB⟩
        have HL6 := hide (HL5.out.next hB)
        clear hB HL5
        refine hK.out _ _ (HL6.out) (fun hHeld => ?_)
        clear hK K
        try simp only [Act.put, List.setIfInBounds_toArray, List.set_cons_zero, List.set_cons_succ]
        refine wpAnyH_ready (rs := [9]) (by kernel_rfl) (by simp) ?_
        refine AllReadyH.cons (o := { dst := some 26, op := Op.call { callee := Callee.value (Operand.func 16), args := #[Operand.tmp 25], argTypes := #[31] }, type := 4, pos := "law.go:29", after := #[{ on := 8, ground := Ground.data }, { on := 7, ground := Ground.chain }, { on := 5, ground := Ground.guard }], guard := some (5, false) }) rfl (fun K hK => ?_) AllReadyH.nil
        clear hHeld
        go_simp
        refine (HTR.out _).mono ?_
        rintro e w7 ⟨rfl, hB⟩
        have HL7 := hide (HL6.out.next hB)
        clear hB HL6
        refine hK.out _ _ (HL7.out) (fun hHeld => ?_)
        clear hK K
        try simp only [Act.put, List.setIfInBounds_toArray, List.set_cons_zero, List.set_cons_succ]
        refine wpAnyH_take (i := 10) (oi := { dst := some 27, op := Op.binOp BinOp.neq 4 (Operand.tmp 24) (Operand.tmp 26) 4, type := 4, pos := "law.go:29", after := #[{ on := 7, ground := Ground.data }, { on := 9, ground := Ground.data }, { on := 5, ground := Ground.guard }], guard := some (5, false) }) (v := ?_) rfl (by kernel_rfl) (by kernel_rfl) (by kernel_rfl) (fun _ _ _ h => h) (Or.inl ⟨by rfl, ?_⟩) hHeld ?_
        rotate_left
        · intro w hSw; (try dsimp only at hSw); go_simp; first | done | with_reducible rfl
        try simp only [Act.put, List.setIfInBounds_toArray, List.set_cons_zero, List.set_cons_succ]
        refine wpAnyH_take (i := 11) (oi := { dst := some 28, op := Op.pick (Operand.tmp 22) (Operand.const (Value.bool true)) (Operand.tmp 27), type := 4, pos := "law.go:29", after := #[{ on := 5, ground := Ground.data }, { on := 10, ground := Ground.data }], guard := none }) (v := ?_) rfl (by kernel_rfl) (by kernel_rfl) (by kernel_rfl) (fun _ _ _ h => h) (Or.inl ⟨by rfl, ?_⟩) hHeld ?_
        rotate_left
        · intro w hSw; (try dsimp only at hSw); go_simp; first | done | with_reducible rfl
        try simp only [Act.put, List.setIfInBounds_toArray, List.set_cons_zero, List.set_cons_succ]
        refine wpAnyH_take (i := 12) (oi := { dst := some 29, op := Op.move (Operand.tmp 28), type := 4, pos := "law.go:29", after := #[{ on := 11, ground := Ground.data }, { on := 9, ground := Ground.chain }], guard := none }) (v := ?_) rfl (by kernel_rfl) (by kernel_rfl) (by kernel_rfl) (fun _ _ _ h => h) (Or.inl ⟨by rfl, ?_⟩) hHeld ?_
        rotate_left
        · intro w hSw; (try dsimp only at hSw); go_simp; first | done | with_reducible rfl
        try simp only [Act.put, List.setIfInBounds_toArray, List.set_cons_zero, List.set_cons_succ]
        refine wpAnyH_take (i := 13) (oi := { dst := some 30, op := Op.load 31 (Operand.tmp 4), type := 31, pos := "law.go:29", after := #[{ on := 12, ground := Ground.guard }], guard := some (12, false) }) (v := .agg (tkA t)) rfl (by kernel_rfl) (by kernel_rfl) (by kernel_rfl) (fun _ _ _ h => h) (yields_tk (by rfl) _ rfl (w.heap.size + 1) rfl t HPM.out (fun _ h => h.x)) hHeld ?_
        try simp only [Act.put, List.setIfInBounds_toArray, List.set_cons_zero, List.set_cons_succ]
        refine wpAnyH_take (i := 14) (oi := { dst := some 31, op := Op.move (Operand.tmp 2), type := 23, pos := "law.go:29", after := #[{ on := 12, ground := Ground.guard }], guard := some (12, false) }) (v := ?_) rfl (by kernel_rfl) (by kernel_rfl) (by kernel_rfl) (fun _ _ _ h => h) (Or.inl ⟨by rfl, ?_⟩) hHeld ?_
        rotate_left
        · intro w hSw; (try dsimp only at hSw); go_simp; first | done | with_reducible rfl
        try simp only [Act.put, List.setIfInBounds_toArray, List.set_cons_zero, List.set_cons_succ]
        refine wpAnyH_take (i := 16) (oi := { dst := some 33, op := Op.move (Operand.tmp 2), type := 23, pos := "law.go:29", after := #[{ on := 12, ground := Ground.guard }], guard := some (12, false) }) (v := ?_) rfl (by kernel_rfl) (by kernel_rfl) (by kernel_rfl) (fun _ _ _ h => h) (Or.inl ⟨by rfl, ?_⟩) hHeld ?_
        rotate_left
        · intro w hSw; (try dsimp only at hSw); go_simp; first | done | with_reducible rfl
        try simp only [Act.put, List.setIfInBounds_toArray, List.set_cons_zero, List.set_cons_succ]
        refine wpAnyH_take (i := 17) (oi := { dst := some 34, op := Op.fieldAddr 31 (Operand.tmp 4) 4, type := 0, pos := "law.go:29", after := #[{ on := 12, ground := Ground.guard }], guard := some (12, false) }) (v := ?_) rfl (by kernel_rfl) (by kernel_rfl) (by kernel_rfl) (fun _ _ _ h => h) (Or.inl ⟨by rfl, ?_⟩) hHeld ?_
        rotate_left
        · intro w hSw; (try dsimp only at hSw); go_simp; first | done | with_reducible rfl
        try simp only [Act.put, List.setIfInBounds_toArray, List.set_cons_zero, List.set_cons_succ]
        refine wpAnyH_take (i := 18) (oi := { dst := some 35, op := Op.load 23 (Operand.tmp 34), type := 23, pos := "law.go:29", after := #[{ on := 17, ground := Ground.data }, { on := 12, ground := Ground.guard }], guard := some (12, false) }) (v := ?_) rfl (by kernel_rfl) (by kernel_rfl) (by kernel_rfl) (fun _ _ _ h => h) (Or.inl ⟨by rfl, ?_⟩) hHeld ?_
        rotate_left
        · intro w hSw; (try dsimp only at hSw); have e0 := hSw.r.c0; have e1 := hSw.r.c1; have e2 := hSw.r.c2; have e5 := hSw.x.c5; go_simp; first | done | with_reducible rfl
        try simp only [Act.put, List.setIfInBounds_toArray, List.set_cons_zero, List.set_cons_succ]
        refine wpAnyH_take (i := 19) (oi := { dst := some 36, op := Op.binOp BinOp.geq 23 (Operand.tmp 33) (Operand.tmp 35) 23, type := 4, pos := "law.go:29", after := #[{ on := 16, ground := Ground.data }, { on := 18, ground := Ground.data }, { on := 12, ground := Ground.guard }], guard := some (12, false) }) (v := ?_) rfl (by kernel_rfl) (by kernel_rfl) (by kernel_rfl) (fun _ _ _ h => h) (Or.inl ⟨by rfl, ?_⟩) hHeld ?_
        rotate_left
        · intro w hSw; (try dsimp only at hSw); go_simp; first | done | with_reducible rfl
        try simp only [Act.put, List.setIfInBounds_toArray, List.set_cons_zero, List.set_cons_succ]
        refine wpAnyH_ready (rs := [15]) (by kernel_rfl) (by simp) ?_
        refine AllReadyH.cons (o := { dst := some 32, op := Op.call { callee := Callee.value (Operand.func 17), args := #[Operand.tmp 30, Operand.tmp 31], argTypes := #[31, 23] }, type := 4, pos := "law.go:29", after := #[{ on := 13, ground := Ground.data }, { on := 14, ground := Ground.data }, { on := 12, ground := Ground.chain }, { on := 12, ground := Ground.guard }], guard := some (12, false) }) rfl (fun K hK => ?_) AllReadyH.nil
        clear hHeld
        go_simp
        refine (HFR.out _).mono ?_
        rintro e w8 ⟨rfl, hB⟩
        have HL8 := hide (HL7.out.next hB)
        clear hB HL7
        refine hK.out _ _ (HL8.out) (fun hHeld => ?_)
        clear hK K
        try simp only [Act.put, List.setIfInBounds_toArray, List.set_cons_zero, List.set_cons_succ]
        refine wpAnyH_take (i := 20) (oi := { dst := some 37, op := Op.move (Operand.tmp 36), type := 4, pos := "law.go:29", after := #[{ on := 19, ground := Ground.data }, { on := 15, ground := Ground.chain }, { on := 12, ground := Ground.guard }], guard := some (12, false) }) (v := ?_) rfl (by kernel_rfl) (by kernel_rfl) (by kernel_rfl) (fun _ _ _ h => h) (Or.inl ⟨by rfl, ?_⟩) hHeld ?_
        rotate_left
        · intro w hSw; (try dsimp only at hSw); go_simp; first | done | with_reducible rfl
        try simp only [Act.put, List.setIfInBounds_toArray, List.set_cons_zero, List.set_cons_succ]
        refine wpAnyH_take (i := 21) (oi := { dst := some 38, op := Op.move (Operand.tmp 2), type := 23, pos := "law.go:29", after := #[{ on := 20, ground := Ground.guard }], guard := some (20, true) }) (v := ?_) rfl (by kernel_rfl) (by kernel_rfl) (by kernel_rfl) (fun _ _ _ h => h) (Or.inl ⟨by rfl, ?_⟩) hHeld ?_
        rotate_left
        · intro w hSw; (try dsimp only at hSw); go_simp; first | done | with_reducible rfl
        try simp only [Act.put, List.setIfInBounds_toArray, List.set_cons_zero, List.set_cons_succ]
        refine wpAnyH_take (i := 22) (oi := { dst := some 39, op := Op.fieldAddr 31 (Operand.tmp 4) 4, type := 0, pos := "law.go:29", after := #[{ on := 20, ground := Ground.guard }], guard := some (20, true) }) (v := ?_) rfl (by kernel_rfl) (by kernel_rfl) (by kernel_rfl) (fun _ _ _ h => h) (Or.inl ⟨by rfl, ?_⟩) hHeld ?_
        rotate_left
        · intro w hSw; (try dsimp only at hSw); go_simp; first | done | with_reducible rfl
        try simp only [Act.put, List.setIfInBounds_toArray, List.set_cons_zero, List.set_cons_succ]
        refine wpAnyH_take (i := 23) (oi := { dst := some 40, op := Op.load 23 (Operand.tmp 39), type := 23, pos := "law.go:29", after := #[{ on := 22, ground := Ground.data }, { on := 20, ground := Ground.guard }], guard := some (20, true) }) (v := ?_) rfl (by kernel_rfl) (by kernel_rfl) (by kernel_rfl) (fun _ _ _ h => h) (Or.inl ⟨by rfl, ?_⟩) hHeld ?_
        rotate_left
        · intro w hSw; (try dsimp only at hSw); have e0 := hSw.r.c0; have e1 := hSw.r.c1; have e2 := hSw.r.c2; have e5 := hSw.x.c5; go_simp; first | done | with_reducible rfl
        try simp only [Act.put, List.setIfInBounds_toArray, List.set_cons_zero, List.set_cons_succ]
        refine wpAnyH_take (i := 24) (oi := { dst := some 41, op := Op.binOp BinOp.sub 23 (Operand.tmp 38) (Operand.tmp 40) 23, type := 23, pos := "law.go:29", after := #[{ on := 21, ground := Ground.data }, { on := 23, ground := Ground.data }, { on := 20, ground := Ground.guard }], guard := some (20, true) }) (v := ?_) rfl (by kernel_rfl) (by kernel_rfl) (by kernel_rfl) (fun _ _ _ h => h) (Or.inl ⟨by rfl, ?_⟩) hHeld ?_
        rotate_left
        · intro w hSw; (try dsimp only at hSw); go_simp; first | done | with_reducible rfl
        try simp only [Act.put, List.setIfInBounds_toArray, List.set_cons_zero, List.set_cons_succ]
        refine wpAnyH_take (i := 25) (oi := { dst := some 42, op := Op.binOp BinOp.lss 23 (Operand.tmp 41) (Operand.const (Value.int IntKind.u64 100)) 23, type := 4, pos := "law.go:29", after := #[{ on := 24, ground := Ground.data }, { on := 20, ground := Ground.guard }], guard := some (20, true) }) (v := ?_) rfl (by kernel_rfl) (by kernel_rfl) (by kernel_rfl) (fun _ _ _ h => h) (Or.inl ⟨by rfl, ?_⟩) hHeld ?_
        rotate_left
        · intro w hSw; (try dsimp only at hSw); go_simp; first | done | with_reducible rfl
        try simp only [Act.put, List.setIfInBounds_toArray, List.set_cons_zero, List.set_cons_succ]
        refine wpAnyH_take (i := 26) (oi := { dst := some 43, op := Op.pick (Operand.tmp 37) (Operand.tmp 42) (Operand.const (Value.bool false)), type := 4, pos := "law.go:29", after := #[{ on := 20, ground := Ground.data }, { on := 25, ground := Ground.data }, { on := 12, ground := Ground.guard }], guard := some (12, false) }) (v := ?_) rfl (by kernel_rfl) (by kernel_rfl) (by kernel_rfl) (fun _ _ _ h => h) (Or.inl ⟨by rfl, ?_⟩) hHeld ?_
        rotate_left
        · intro w hSw; (try dsimp only at hSw); go_simp; first | done | with_reducible rfl
        try simp only [Act.put, List.setIfInBounds_toArray, List.set_cons_zero, List.set_cons_succ]
        refine wpAnyH_take (i := 27) (oi := { dst := some 44, op := Op.binOp BinOp.neq 4 (Operand.tmp 32) (Operand.tmp 43) 4, type := 4, pos := "law.go:29", after := #[{ on := 15, ground := Ground.data }, { on := 26, ground := Ground.data }, { on := 12, ground := Ground.guard }], guard := some (12, false) }) (v := ?_) rfl (by kernel_rfl) (by kernel_rfl) (by kernel_rfl) (fun _ _ _ h => h) (Or.inl ⟨by rfl, ?_⟩) hHeld ?_
        rotate_left
        · intro w hSw; (try dsimp only at hSw); go_simp; first | done | with_reducible rfl
        try simp only [Act.put, List.setIfInBounds_toArray, List.set_cons_zero, List.set_cons_succ]
        refine wpAnyH_take (i := 28) (oi := { dst := some 45, op := Op.pick (Operand.tmp 29) (Operand.const (Value.bool true)) (Operand.tmp 44), type := 4, pos := "law.go:29", after := #[{ on := 12, ground := Ground.data }, { on := 27, ground := Ground.data }], guard := none }) (v := ?_) rfl (by kernel_rfl) (by kernel_rfl) (by kernel_rfl) (fun _ _ _ h => h) (Or.inl ⟨by rfl, ?_⟩) hHeld ?_
        rotate_left
        · intro w hSw; (try dsimp only at hSw); go_simp; first | done | with_reducible rfl
        try simp only [Act.put, List.setIfInBounds_toArray, List.set_cons_zero, List.set_cons_succ]
        refine wpAnyH_done (by kernel_rfl) ?_ _
        clear hHeld
        go_wp2_with fail
        go_meet
        case rel => exact ⟨rfl, rfl, HL8.out⟩
    · have hd1 : decide ((t.born : Int) ≤ (now : Int)) = false := by simpa using hbn
      have hd2 : ¬ (t.born : Int) ≤ (now : Int) := by omega
      have hd5 : decide (t.born ≤ now) = false := by simpa using hbn
      have hfb : FB = false := by rw [← HFB.out, freshB, decide_eq_false hbn]; rfl
      subst hfb
      clear hbn HFB
      refine wp_region_held_drew (S := LW w (.slice ra q rc) k o n t) (by kernel_rfl) HL3.out (fun hHeld => ?_)
      refine wpAnyH_take (i := 0) (oi := { dst := some 17, op := Op.load 25 (Operand.tmp 3), type := 25, pos := "law.go:29", after := #[], guard := none }) (v := ?_) rfl (by kernel_rfl) (by kernel_rfl) (by kernel_rfl) (fun _ _ _ h => h) (Or.inl ⟨by rfl, ?_⟩) hHeld ?_
      rotate_left
      · intro w hSw; (try dsimp only at hSw); have e0 := hSw.r.c0; have e1 := hSw.r.c1; have e2 := hSw.r.c2; have e5 := hSw.x.c5; go_simp; first | done | with_reducible rfl
      try simp only [Act.put, List.setIfInBounds_toArray, List.set_cons_zero, List.set_cons_succ]
      refine wpAnyH_take (i := 2) (oi := { dst := some 19, op := Op.load 25 (Operand.tmp 3), type := 25, pos := "law.go:29", after := #[], guard := none }) (v := ?_) rfl (by kernel_rfl) (by kernel_rfl) (by kernel_rfl) (fun _ _ _ h => h) (Or.inl ⟨by rfl, ?_⟩) hHeld ?_
      rotate_left
      · intro w hSw; (try dsimp only at hSw); have e0 := hSw.r.c0; have e1 := hSw.r.c1; have e2 := hSw.r.c2; have e5 := hSw.x.c5; go_simp; first | done | with_reducible rfl
      try simp only [Act.put, List.setIfInBounds_toArray, List.set_cons_zero, List.set_cons_succ]
      refine wpAnyH_ready (rs := [1]) (by kernel_rfl) (by simp) ?_
      refine AllReadyH.cons (o := { dst := some 18, op := Op.call { callee := Callee.value (Operand.func 13), args := #[Operand.tmp 17], argTypes := #[25] }, type := 4, pos := "law.go:29", after := #[{ on := 0, ground := Ground.data }], guard := none }) rfl (fun K hK => ?_) AllReadyH.nil
      clear hHeld
      go_simp
      refine (HRM.out _).mono ?_
      rintro e w4 ⟨rfl, hB⟩
      have HL4 := hide (HL3.out.next hB)
      clear hB HL3
      refine hK.out _ _ (HL4.out) (fun hHeld => ?_)
      clear hK K
      try simp only [Act.put, List.setIfInBounds_toArray, List.set_cons_zero, List.set_cons_succ]
      refine wpAnyH_ready (rs := [3]) (by kernel_rfl) (by simp) ?_
      refine AllReadyH.cons (o := { dst := some 20, op := Op.call { callee := Callee.value (Operand.func 14), args := #[Operand.tmp 19], argTypes := #[25] }, type := 4, pos := "law.go:29", after := #[{ on := 2, ground := Ground.data }, { on := 1, ground := Ground.chain }], guard := none }) rfl (fun K hK => ?_) AllReadyH.nil
      clear hHeld
      go_simp
      refine (HRR.out _).mono ?_
      rintro e w5 ⟨rfl, hB⟩
      have HL5 := hide (HL4.out.next hB)
      clear hB HL4
      refine hK.out _ _ (HL5.out) (fun hHeld => ?_)
      clear hK K
      try simp only [Act.put, List.setIfInBounds_toArray, List.set_cons_zero, List.set_cons_succ]
      refine wpAnyH_take (i := 4) (oi := { dst := some 21, op := Op.binOp BinOp.neq 4 (Operand.tmp 18) (Operand.tmp 20) 4, type := 4, pos := "law.go:29", after := #[{ on := 1, ground := Ground.data }, { on := 3, ground := Ground.data }], guard := none }) (v := ?_) rfl (by kernel_rfl) (by kernel_rfl) (by kernel_rfl) (fun _ _ _ h => h) (Or.inl ⟨by rfl, ?_⟩) hHeld ?_
      rotate_left
      · intro w hSw; (try dsimp only at hSw); go_simp; first | done | with_reducible rfl
      try simp only [Act.put, List.setIfInBounds_toArray, List.set_cons_zero, List.set_cons_succ]
      refine wpAnyH_take (i := 5) (oi := { dst := some 22, op := Op.move (Operand.tmp 21), type := 4, pos := "law.go:29", after := #[{ on := 4, ground := Ground.data }, { on := 3, ground := Ground.chain }], guard := none }) (v := ?_) rfl (by kernel_rfl) (by kernel_rfl) (by kernel_rfl) (fun _ _ _ h => h) (Or.inl ⟨by rfl, ?_⟩) hHeld ?_
      rotate_left
      · intro w hSw; (try dsimp only at hSw); go_simp; first | done | with_reducible rfl
      try simp only [Act.put, List.setIfInBounds_toArray, List.set_cons_zero, List.set_cons_succ]
      refine wpAnyH_take (i := 6) (oi := { dst := some 23, op := Op.load 31 (Operand.tmp 4), type := 31, pos := "law.go:29", after := #[{ on := 5, ground := Ground.guard }], guard := some (5, false) }) (v := .agg (tkA t)) rfl (by kernel_rfl) (by kernel_rfl) (by kernel_rfl) (fun _ _ _ h => h) (yields_tk (by rfl) _ rfl (w.heap.size + 1) rfl t HPM.out (fun _ h => h.x)) hHeld ?_
      try simp only [Act.put, List.setIfInBounds_toArray, List.set_cons_zero, List.set_cons_succ]
      refine wpAnyH_take (i := 8) (oi := { dst := some 25, op := Op.load 31 (Operand.tmp 4), type := 31, pos := "law.go:29", after := #[{ on := 5, ground := Ground.guard }], guard := some (5, false) }) (v := .agg (tkA t)) rfl (by kernel_rfl) (by kernel_rfl) (by kernel_rfl) (fun _ _ _ h => h) (yields_tk (by rfl) _ rfl (w.heap.size + 1) rfl t HPM.out (fun _ h => h.x)) hHeld ?_
      try simp only [Act.put, List.setIfInBounds_toArray, List.set_cons_zero, List.set_cons_succ]
      refine wpAnyH_ready (rs := [7]) (by kernel_rfl) (by simp) ?_
      refine AllReadyH.cons (o := { dst := some 24, op := Op.call { callee := Callee.value (Operand.func 15), args := #[Operand.tmp 23], argTypes := #[31] }, type := 4, pos := "law.go:29", after := #[{ on := 6, ground := Ground.data }, { on := 5, ground := Ground.chain }, { on := 5, ground := Ground.guard }], guard := some (5, false) }) rfl (fun K hK => ?_) AllReadyH.nil
      clear hHeld
      go_simp
      refine (HTM.out _).mono ?_
      rintro e w6 ⟨rfl, hB⟩
      have HL6 := hide (HL5.out.next hB)
      clear hB HL5
      refine hK.out _ _ (HL6.out) (fun hHeld => ?_)
      clear hK K
      try simp only [Act.put, List.setIfInBounds_toArray, List.set_cons_zero, List.set_cons_succ]
      refine wpAnyH_ready (rs := [9]) (by kernel_rfl) (by simp) ?_
      refine AllReadyH.cons (o := { dst := some 26, op := Op.call { callee := Callee.value (Operand.func 16), args := #[Operand.tmp 25], argTypes := #[31] }, type := 4, pos := "law.go:29", after := #[{ on := 8, ground := Ground.data }, { on := 7, ground := Ground.chain }, { on := 5, ground := Ground.guard }], guard := some (5, false) }) rfl (fun K hK => ?_) AllReadyH.nil
      clear hHeld
      go_simp
      refine (HTR.out _).mono ?_
      rintro e w7 ⟨rfl, hB⟩
      have HL7 := hide (HL6.out.next hB)
      clear hB HL6
      refine hK.out _ _ (HL7.out) (fun hHeld => ?_)
      clear hK K
      try simp only [Act.put, List.setIfInBounds_toArray, List.set_cons_zero, List.set_cons_succ]
      refine wpAnyH_take (i := 10) (oi := { dst := some 27, op := Op.binOp BinOp.neq 4 (Operand.tmp 24) (Operand.tmp 26) 4, type := 4, pos := "law.go:29", after := #[{ on := 7, ground := Ground.data }, { on := 9, ground := Ground.data }, { on := 5, ground := Ground.guard }], guard := some (5, false) }) (v := ?_) rfl (by kernel_rfl) (by kernel_rfl) (by kernel_rfl) (fun _ _ _ h => h) (Or.inl ⟨by rfl, ?_⟩) hHeld ?_
      rotate_left
      · intro w hSw; (try dsimp only at hSw); go_simp; first | done | with_reducible rfl
      try simp only [Act.put, List.setIfInBounds_toArray, List.set_cons_zero, List.set_cons_succ]
      refine wpAnyH_take (i := 11) (oi := { dst := some 28, op := Op.pick (Operand.tmp 22) (Operand.const (Value.bool true)) (Operand.tmp 27), type := 4, pos := "law.go:29", after := #[{ on := 5, ground := Ground.data }, { on := 10, ground := Ground.data }], guard := none }) (v := ?_) rfl (by kernel_rfl) (by kernel_rfl) (by kernel_rfl) (fun _ _ _ h => h) (Or.inl ⟨by rfl, ?_⟩) hHeld ?_
      rotate_left
      · intro w hSw; (try dsimp only at hSw); go_simp; first | done | with_reducible rfl
      try simp only [Act.put, List.setIfInBounds_toArray, List.set_cons_zero, List.set_cons_succ]
      refine wpAnyH_take (i := 12) (oi := { dst := some 29, op := Op.move (Operand.tmp 28), type := 4, pos := "law.go:29", after := #[{ on := 11, ground := Ground.data }, { on := 9, ground := Ground.chain }], guard := none }) (v := ?_) rfl (by kernel_rfl) (by kernel_rfl) (by kernel_rfl) (fun _ _ _ h => h) (Or.inl ⟨by rfl, ?_⟩) hHeld ?_
      rotate_left
      · intro w hSw; (try dsimp only at hSw); go_simp; first | done | with_reducible rfl
      try simp only [Act.put, List.setIfInBounds_toArray, List.set_cons_zero, List.set_cons_succ]
      refine wpAnyH_take (i := 13) (oi := { dst := some 30, op := Op.load 31 (Operand.tmp 4), type := 31, pos := "law.go:29", after := #[{ on := 12, ground := Ground.guard }], guard := some (12, false) }) (v := .agg (tkA t)) rfl (by kernel_rfl) (by kernel_rfl) (by kernel_rfl) (fun _ _ _ h => h) (yields_tk (by rfl) _ rfl (w.heap.size + 1) rfl t HPM.out (fun _ h => h.x)) hHeld ?_
      try simp only [Act.put, List.setIfInBounds_toArray, List.set_cons_zero, List.set_cons_succ]
      refine wpAnyH_take (i := 14) (oi := { dst := some 31, op := Op.move (Operand.tmp 2), type := 23, pos := "law.go:29", after := #[{ on := 12, ground := Ground.guard }], guard := some (12, false) }) (v := ?_) rfl (by kernel_rfl) (by kernel_rfl) (by kernel_rfl) (fun _ _ _ h => h) (Or.inl ⟨by rfl, ?_⟩) hHeld ?_
      rotate_left
      · intro w hSw; (try dsimp only at hSw); go_simp; first | done | with_reducible rfl
      try simp only [Act.put, List.setIfInBounds_toArray, List.set_cons_zero, List.set_cons_succ]
      refine wpAnyH_take (i := 16) (oi := { dst := some 33, op := Op.move (Operand.tmp 2), type := 23, pos := "law.go:29", after := #[{ on := 12, ground := Ground.guard }], guard := some (12, false) }) (v := ?_) rfl (by kernel_rfl) (by kernel_rfl) (by kernel_rfl) (fun _ _ _ h => h) (Or.inl ⟨by rfl, ?_⟩) hHeld ?_
      rotate_left
      · intro w hSw; (try dsimp only at hSw); go_simp; first | done | with_reducible rfl
      try simp only [Act.put, List.setIfInBounds_toArray, List.set_cons_zero, List.set_cons_succ]
      refine wpAnyH_take (i := 17) (oi := { dst := some 34, op := Op.fieldAddr 31 (Operand.tmp 4) 4, type := 0, pos := "law.go:29", after := #[{ on := 12, ground := Ground.guard }], guard := some (12, false) }) (v := ?_) rfl (by kernel_rfl) (by kernel_rfl) (by kernel_rfl) (fun _ _ _ h => h) (Or.inl ⟨by rfl, ?_⟩) hHeld ?_
      rotate_left
      · intro w hSw; (try dsimp only at hSw); go_simp; first | done | with_reducible rfl
      try simp only [Act.put, List.setIfInBounds_toArray, List.set_cons_zero, List.set_cons_succ]
      refine wpAnyH_take (i := 18) (oi := { dst := some 35, op := Op.load 23 (Operand.tmp 34), type := 23, pos := "law.go:29", after := #[{ on := 17, ground := Ground.data }, { on := 12, ground := Ground.guard }], guard := some (12, false) }) (v := ?_) rfl (by kernel_rfl) (by kernel_rfl) (by kernel_rfl) (fun _ _ _ h => h) (Or.inl ⟨by rfl, ?_⟩) hHeld ?_
      rotate_left
      · intro w hSw; (try dsimp only at hSw); have e0 := hSw.r.c0; have e1 := hSw.r.c1; have e2 := hSw.r.c2; have e5 := hSw.x.c5; go_simp; first | done | with_reducible rfl
      try simp only [Act.put, List.setIfInBounds_toArray, List.set_cons_zero, List.set_cons_succ]
      refine wpAnyH_take (i := 19) (oi := { dst := some 36, op := Op.binOp BinOp.geq 23 (Operand.tmp 33) (Operand.tmp 35) 23, type := 4, pos := "law.go:29", after := #[{ on := 16, ground := Ground.data }, { on := 18, ground := Ground.data }, { on := 12, ground := Ground.guard }], guard := some (12, false) }) (v := ?_) rfl (by kernel_rfl) (by kernel_rfl) (by kernel_rfl) (fun _ _ _ h => h) (Or.inl ⟨by rfl, ?_⟩) hHeld ?_
      rotate_left
      · intro w hSw; (try dsimp only at hSw); go_simp; first | done | with_reducible rfl
      try simp only [Act.put, List.setIfInBounds_toArray, List.set_cons_zero, List.set_cons_succ]
      refine wpAnyH_ready (rs := [15]) (by kernel_rfl) (by simp) ?_
      refine AllReadyH.cons (o := { dst := some 32, op := Op.call { callee := Callee.value (Operand.func 17), args := #[Operand.tmp 30, Operand.tmp 31], argTypes := #[31, 23] }, type := 4, pos := "law.go:29", after := #[{ on := 13, ground := Ground.data }, { on := 14, ground := Ground.data }, { on := 12, ground := Ground.chain }, { on := 12, ground := Ground.guard }], guard := some (12, false) }) rfl (fun K hK => ?_) AllReadyH.nil
      clear hHeld
      go_simp
      refine (HFR.out _).mono ?_
      rintro e w8 ⟨rfl, hB⟩
      have HL8 := hide (HL7.out.next hB)
      clear hB HL7
      refine hK.out _ _ (HL8.out) (fun hHeld => ?_)
      clear hK K
      try simp only [Act.put, List.setIfInBounds_toArray, List.set_cons_zero, List.set_cons_succ]
      refine wpAnyH_take (i := 20) (oi := { dst := some 37, op := Op.move (Operand.tmp 36), type := 4, pos := "law.go:29", after := #[{ on := 19, ground := Ground.data }, { on := 15, ground := Ground.chain }, { on := 12, ground := Ground.guard }], guard := some (12, false) }) (v := ?_) rfl (by kernel_rfl) (by kernel_rfl) (by kernel_rfl) (fun _ _ _ h => h) (Or.inl ⟨by rfl, ?_⟩) hHeld ?_
      rotate_left
      · intro w hSw; (try dsimp only at hSw); go_simp; first | done | with_reducible rfl
      try simp only [Act.put, List.setIfInBounds_toArray, List.set_cons_zero, List.set_cons_succ]
      refine wpAnyH_take (i := 21) (oi := { dst := some 38, op := Op.move (Operand.tmp 2), type := 23, pos := "law.go:29", after := #[{ on := 20, ground := Ground.guard }], guard := some (20, true) }) (v := undef) rfl (by kernel_rfl) (by kernel_rfl) (by kernel_rfl) (fun _ _ _ h => h) (Or.inr ⟨by rfl, rfl⟩) hHeld ?_
      try simp only [Act.put, List.setIfInBounds_toArray, List.set_cons_zero, List.set_cons_succ]
      refine wpAnyH_take (i := 22) (oi := { dst := some 39, op := Op.fieldAddr 31 (Operand.tmp 4) 4, type := 0, pos := "law.go:29", after := #[{ on := 20, ground := Ground.guard }], guard := some (20, true) }) (v := undef) rfl (by kernel_rfl) (by kernel_rfl) (by kernel_rfl) (fun _ _ _ h => h) (Or.inr ⟨by rfl, rfl⟩) hHeld ?_
      try simp only [Act.put, List.setIfInBounds_toArray, List.set_cons_zero, List.set_cons_succ]
      refine wpAnyH_take (i := 23) (oi := { dst := some 40, op := Op.load 23 (Operand.tmp 39), type := 23, pos := "law.go:29", after := #[{ on := 22, ground := Ground.data }, { on := 20, ground := Ground.guard }], guard := some (20, true) }) (v := undef) rfl (by kernel_rfl) (by kernel_rfl) (by kernel_rfl) (fun _ _ _ h => h) (Or.inr ⟨by rfl, rfl⟩) hHeld ?_
      try simp only [Act.put, List.setIfInBounds_toArray, List.set_cons_zero, List.set_cons_succ]
      refine wpAnyH_take (i := 24) (oi := { dst := some 41, op := Op.binOp BinOp.sub 23 (Operand.tmp 38) (Operand.tmp 40) 23, type := 23, pos := "law.go:29", after := #[{ on := 21, ground := Ground.data }, { on := 23, ground := Ground.data }, { on := 20, ground := Ground.guard }], guard := some (20, true) }) (v := undef) rfl (by kernel_rfl) (by kernel_rfl) (by kernel_rfl) (fun _ _ _ h => h) (Or.inr ⟨by rfl, rfl⟩) hHeld ?_
      try simp only [Act.put, List.setIfInBounds_toArray, List.set_cons_zero, List.set_cons_succ]
      refine wpAnyH_take (i := 25) (oi := { dst := some 42, op := Op.binOp BinOp.lss 23 (Operand.tmp 41) (Operand.const (Value.int IntKind.u64 100)) 23, type := 4, pos := "law.go:29", after := #[{ on := 24, ground := Ground.data }, { on := 20, ground := Ground.guard }], guard := some (20, true) }) (v := undef) rfl (by kernel_rfl) (by kernel_rfl) (by kernel_rfl) (fun _ _ _ h => h) (Or.inr ⟨by rfl, rfl⟩) hHeld ?_
      try simp only [Act.put, List.setIfInBounds_toArray, List.set_cons_zero, List.set_cons_succ]
      refine wpAnyH_take (i := 26) (oi := { dst := some 43, op := Op.pick (Operand.tmp 37) (Operand.tmp 42) (Operand.const (Value.bool false)), type := 4, pos := "law.go:29", after := #[{ on := 20, ground := Ground.data }, { on := 25, ground := Ground.data }, { on := 12, ground := Ground.guard }], guard := some (12, false) }) (v := ?_) rfl (by kernel_rfl) (by kernel_rfl) (by kernel_rfl) (fun _ _ _ h => h) (Or.inl ⟨by rfl, ?_⟩) hHeld ?_
      rotate_left
      · intro w hSw; (try dsimp only at hSw); go_simp; first | done | with_reducible rfl
      try simp only [Act.put, List.setIfInBounds_toArray, List.set_cons_zero, List.set_cons_succ]
      refine wpAnyH_take (i := 27) (oi := { dst := some 44, op := Op.binOp BinOp.neq 4 (Operand.tmp 32) (Operand.tmp 43) 4, type := 4, pos := "law.go:29", after := #[{ on := 15, ground := Ground.data }, { on := 26, ground := Ground.data }, { on := 12, ground := Ground.guard }], guard := some (12, false) }) (v := ?_) rfl (by kernel_rfl) (by kernel_rfl) (by kernel_rfl) (fun _ _ _ h => h) (Or.inl ⟨by rfl, ?_⟩) hHeld ?_
      rotate_left
      · intro w hSw; (try dsimp only at hSw); go_simp; first | done | with_reducible rfl
      try simp only [Act.put, List.setIfInBounds_toArray, List.set_cons_zero, List.set_cons_succ]
      refine wpAnyH_take (i := 28) (oi := { dst := some 45, op := Op.pick (Operand.tmp 29) (Operand.const (Value.bool true)) (Operand.tmp 44), type := 4, pos := "law.go:29", after := #[{ on := 12, ground := Ground.data }, { on := 27, ground := Ground.data }], guard := none }) (v := ?_) rfl (by kernel_rfl) (by kernel_rfl) (by kernel_rfl) (fun _ _ _ h => h) (Or.inl ⟨by rfl, ?_⟩) hHeld ?_
      rotate_left
      · intro w hSw; (try dsimp only at hSw); go_simp; first | done | with_reducible rfl
      try simp only [Act.put, List.setIfInBounds_toArray, List.set_cons_zero, List.set_cons_succ]
      refine wpAnyH_done (by kernel_rfl) ?_ _
      clear hHeld
      go_wp2_with fail
      go_meet
      case rel => exact ⟨rfl, rfl, HL8.out⟩
  case rest =>
    obtain ⟨hs8, hs9, hx⟩ := hcut
    subst hs8 hs9
    have HL3 := hide hx
    clear hx HTM HTR HFR HRM HFB
    obtain ⟨ST, hST⟩ : ∃ ST, strOfNums k = ST := ⟨_, rfl⟩
    have HST := tuck hST
    clear hST
    have HWB : Hid (w.heap.size + 2 ≤ wc.heap.size) := hide HL3.out.x.lt
    cases M with
    | false =>
      have HRT := hide (fun (W : World) (h : LW w (.slice ra q rc) k o n t W) => rotate_arg HM.out HQ.out (.slice ra q rc) W h.s)
      have HRE := hide (fun (W : World) (h : LW w (.slice ra q rc) k o n t W) => retire_arg HM.out HQ.out (.slice ra q rc) W h.s)
      have r0 := HL3.out.r.c0; have r1 := HL3.out.r.c1; have r2 := HL3.out.r.c2
      unfold ringA at *
      go_wp2_with (first | (go_at_call 18; refine (HRT.out _ HL3.out).mono ?_; rintro e w5 ⟨va, vc, rfl, hB, hrow⟩; have HL5 := hide (HL3.out.next hB); have HR5 := hide hrow; have HB5 := hide hB.size; clear r0 r1 r2 hB hrow HL3 HRT) | (refine wpList_store_rg_new rfl (.tmp 7) (.tmp 49) rfl w5.heap.size (.slice va 0 vc) 0 0 rfl rfl rfl (.slice none 0 0) 0 0 (rbox_zero _) (fun W => Below w5.heap.size w5 W ∧ RBox W w5.heap.size (.slice va 0 vc) 0 0) ⟨below_pairR w5 _, RBox.pair w5 _ _ _⟩ ?_; intro w6 hp; have HL6 := hide (HL5.out.next hp.1); have HR6 := hide (HR5.out.below hp.1); have HA6 := hide hp.2; have HG6 := hide (fun (j : Nat) (e : (Value.slice va 0 vc).ownBlock = some j) => HR5.out.lt e); have r0 := HL6.out.r.c0; have r1 := HL6.out.r.c1; have r2 := HL6.out.r.c2; clear hp HL5 HR5) | (go_at_call 19; refine (HRE.out _ HL6.out).mono ?_; rintro e w7 ⟨vb, vd, rfl, hB, hrow⟩; have HL7 := hide (HL6.out.next hB); have HR7 := hide (HR6.out.below hB); have HA7 := hide (HA6.out.next hB); have HG7 := hide (fun (j : Nat) (e : (Value.slice va 0 vc).ownBlock = some j) => Nat.lt_of_lt_of_le (HR6.out.lt e) hB.size); have HS7 := hide hrow.slAt; clear r0 r1 r2 hB hrow HL6 HR6 HA6 HRE) | (refine wpList_store_rg_new rfl (.tmp 9) (.tmp 54) rfl w7.heap.size (.slice vb 0 vd) 0 0 rfl rfl rfl (.slice none 0 0) 0 0 (rbox_zero _) (fun W => Below w7.heap.size w7 W ∧ RBox W w7.heap.size (.slice vb 0 vd) 0 0) ⟨below_pairR w7 _, RBox.pair w7 _ _ _⟩ ?_; intro w8 hp; have HMW8 := hide (show MW w (.slice ra q rc) k o n t wc.heap.size w5.heap.size w7.heap.size (.slice va 0 vc) [] 0 0 (.slice vb 0 vd) [] 0 0 w8 from ⟨HL7.out.next hp.1, HA7.out.next hp.1, hp.2, HR7.out.below hp.1, HS7.out.below hp.1, HWB.out, fun j e => ⟨HG6.out j e, HG7.out j e⟩⟩); have r0 := HMW8.out.l.r.c0; have r1 := HMW8.out.l.r.c1; have r2 := HMW8.out.l.r.c2; clear hp HL7 HR7 HA7 HS7 HG6 HG7) | (go_at_call 14; refine (HRR.out _).mono ?_; rintro e w9 ⟨rfl, hB⟩; have HMW := hide (HMW8.out.next hB); have hm := HMW.out; have r0 := hm.l.r.c0; have r1 := hm.l.r.c1; have r2 := hm.l.r.c2; have x0 := hm.r7.c0; have x1 := hm.r7.c1; have x2 := hm.r7.c2; have y0 := hm.r9.c0; have y1 := hm.r9.c1; have y2 := hm.r9.c2; have sr := hm.l.s.string (P := Tryd.prog) 22 5 9 Tryd.underlying22 Tryd.underlying5 Tryd.underlying9; have s7 := hm.s7.slAt.string (P := Tryd.prog) 22 5 9 Tryd.underlying22 Tryd.underlying5 Tryd.underlying9; have s9 := hm.s9.string (P := Tryd.prog) 22 5 9 Tryd.underlying22 Tryd.underlying5 Tryd.underlying9; rw [HST.out] at sr; clear hm hB HMW8) | (go_at_call 12; refine (HAW.out _ HMW.out.l.b).mono ?_; rintro e w10 ⟨rfl, hB⟩; have HL10 := hide (HMW.out.l.next hB); clear hB r0 r1 r2 x0 x1 x2 y0 y1 y2 sr s7 s9 HMW))
      go_ret
      exact ⟨rfl, HL10.out.b⟩
    | true =>
      obtain ⟨n1, hn1⟩ : ∃ n1, n + 1 = n1 := ⟨_, rfl⟩
      obtain ⟨o1, ho1⟩ : ∃ o1, o + 1 = o1 := ⟨_, rfl⟩
      have HN1 := tuck hn1
      have HO1 := tuck ho1
      have HMM := tuck (mayR_most HM.out)
      have hmm := HMM.out
      have hwn : IntKind.u64.wrap ((n : Int) + 1) = (n1 : Int) := by rw [IntWalk.u64_in _ (by omega)]; omega
      have hwo : IntKind.u64.wrap ((o : Int) + 1) = (o1 : Int) := by rw [IntWalk.u64_in _ (by omega)]; omega
      have hU := mayR_up HM.out hn1
      have hD := mayR_off HM.out ho1
      clear hmm hn1 ho1
      by_cases g0 : n < 4611686018427387903
      · have hg0 : (n : Int) < 4611686018427387903 := by omega
        have hg0d : decide ((n : Int) < 4611686018427387903) = true := by simpa using hg0
        have hg0e : decide (n < 4611686018427387903) = true := by simpa using g0
        rw [decide_eq_true g0] at hU
        have HN := tuck hU
        clear hU g0
        by_cases g1 : o < n
        · have hg1 : (o : Int) < (n : Int) := by omega
          have hg1d : decide ((o : Int) < (n : Int)) = true := by simpa using hg1
          have hg1e : decide (o < n) = true := by simpa using g1
          rw [decide_eq_true g1] at hD
          have HP1 := tuck hD
          clear hD g1
          have HRT := hide (fun (W : World) (h : LW w (.slice ra q rc) k o n t W) => rotate_ok HM.out HN.out HN1.out HQ.out (.slice ra q rc) W h.s)
          have HRE := hide (fun (W : World) (h : LW w (.slice ra q rc) k o n t W) => retire_ok HM.out HP1.out HO1.out HQ.out (.slice ra q rc) W h.s)
          have r0 := HL3.out.r.c0; have r1 := HL3.out.r.c1; have r2 := HL3.out.r.c2
          unfold ringA at *
          go_upto_region 9 with (first | (go_at_call 18; refine (HRT.out _ HL3.out).mono ?_; rintro e w5 ⟨va, vc, rfl, hB, hrow⟩; have HL5 := hide (HL3.out.next hB); have HR5 := hide hrow; have HB5 := hide hB.size; clear r0 r1 r2 hB hrow HL3 HRT) | (refine wpList_store_rg_new rfl (.tmp 7) (.tmp 49) rfl w5.heap.size (.slice va q vc) o n1 rfl rfl rfl (.slice none 0 0) 0 0 (rbox_zero _) (fun W => Below w5.heap.size w5 W ∧ RBox W w5.heap.size (.slice va q vc) o n1) ⟨below_pairR w5 _, RBox.pair w5 _ _ _⟩ ?_; intro w6 hp; have HL6 := hide (HL5.out.next hp.1); have HR6 := hide (HR5.out.below hp.1); have HA6 := hide hp.2; have HG6 := hide (fun (j : Nat) (e : (Value.slice va q vc).ownBlock = some j) => HR5.out.lt e); have r0 := HL6.out.r.c0; have r1 := HL6.out.r.c1; have r2 := HL6.out.r.c2; clear hp HL5 HR5) | (go_at_call 19; refine (HRE.out _ HL6.out).mono ?_; rintro e w7 ⟨vb, vd, rfl, hB, hrow⟩; have HL7 := hide (HL6.out.next hB); have HR7 := hide (HR6.out.below hB); have HA7 := hide (HA6.out.next hB); have HG7 := hide (fun (j : Nat) (e : (Value.slice va q vc).ownBlock = some j) => Nat.lt_of_lt_of_le (HR6.out.lt e) hB.size); have HS7 := hide hrow.slAt; clear r0 r1 r2 hB hrow HL6 HR6 HA6 HRE) | (refine wpList_store_rg_new rfl (.tmp 9) (.tmp 54) rfl w7.heap.size (.slice vb q vd) o1 n rfl rfl rfl (.slice none 0 0) 0 0 (rbox_zero _) (fun W => Below w7.heap.size w7 W ∧ RBox W w7.heap.size (.slice vb q vd) o1 n) ⟨below_pairR w7 _, RBox.pair w7 _ _ _⟩ ?_; intro w8 hp; have HMW8 := hide (show MW w (.slice ra q rc) k o n t wc.heap.size w5.heap.size w7.heap.size (.slice va q vc) k o n1 (.slice vb q vd) k o1 n w8 from ⟨HL7.out.next hp.1, HA7.out.next hp.1, hp.2, HR7.out.below hp.1, HS7.out.below hp.1, HWB.out, fun j e => ⟨HG6.out j e, HG7.out j e⟩⟩); have r0 := HMW8.out.l.r.c0; have r1 := HMW8.out.l.r.c1; have r2 := HMW8.out.l.r.c2; clear hp HL7 HR7 HA7 HS7 HG6 HG7) | (go_at_call 14; refine (HRR.out _).mono ?_; rintro e w9 ⟨rfl, hB⟩; have HMW := hide (HMW8.out.next hB); have hm := HMW.out; have r0 := hm.l.r.c0; have r1 := hm.l.r.c1; have r2 := hm.l.r.c2; have x0 := hm.r7.c0; have x1 := hm.r7.c1; have x2 := hm.r7.c2; have y0 := hm.r9.c0; have y1 := hm.r9.c1; have y2 := hm.r9.c2; have sr := hm.l.s.string (P := Tryd.prog) 22 5 9 Tryd.underlying22 Tryd.underlying5 Tryd.underlying9; have s7 := hm.s7.slAt.string (P := Tryd.prog) 22 5 9 Tryd.underlying22 Tryd.underlying5 Tryd.underlying9; have s9 := hm.s9.string (P := Tryd.prog) 22 5 9 Tryd.underlying22 Tryd.underlying5 Tryd.underlying9; rw [HST.out] at sr; (try rw [HST.out] at s7); (try rw [HST.out] at s9); clear hm hB HMW8))
          go_upto_region 11 with fail
          go_upto_region 13 with fail
          go_wp2_with fail
          clear r0 r1 r2 x0 x1 x2 y0 y1 y2 s7 s9 sr
          go_loopw [12] (fun i wr => ∃ p : Nat, p ≤ q ∧ i = .int .i64 p ∧ ∃ ys : List Int, Tuck (ys.length = q) ∧ Hid (Row wr wc.heap.size (.slice va q vc) ys) ∧ Hid (Keep (fun j => (Value.slice va q vc).ownBlock = some j) w9 wr)) (fun i _ => q - (intOf i).toNat)
          case atStart => exact ⟨0, by omega, rfl, k, tuck (by first | rfl | exact HQ.out), hide HMW.out.s7, hide (Keep.refl _ _)⟩
          case round =>
            obtain ⟨p, hp, rfl, ys, HYL, HRB, HKB⟩ := hrel
            have hkk := HMW.out.kept HKB.out HK0.out
            have HLr := hide hkk.1
            have x0 := hkk.2.c0
            clear hkk
            by_cases hlt3 : p < q
            · obtain ⟨gb, rfl⟩ : ∃ gb, va = some ⟨gb, 0, none⟩ := by
                rcases HRB.out.own with ⟨e1, e2⟩ | ⟨g, c, e1⟩
                · exact absurd HYL.out (by rw [e2]; simp; omega)
                · exact ⟨g, (slice_inj e1).1⟩
              have hc : wr.cell? ⟨gb, p, none⟩ = some (.int .u8 (nth ys p)) := by
                obtain ⟨ao', cap', hv, _, _, ha⟩ := HRB.out.slAt
                have z1 := (slice_inj hv).1
                have := (ha _ z1.symm p (by rw [HYL.out]; exact hlt3)).2.2
                rw [addr_plain', Nat.zero_add] at this
                exact this
              obtain ⟨y, hy⟩ : ∃ y, nth ys p = y := ⟨_, rfl⟩
              rw [hy] at hc
              obtain ⟨z, hz⟩ : ∃ z, IntKind.u8.wrap (y + 1) = z := ⟨_, rfl⟩
              obtain ⟨hrs, hf⟩ := HRB.out.set p hlt3 z
              have HRS := hide hrs
              have HKS := hide (HKB.out.trans (Keep.set (F := fun j => (Value.slice (some ⟨gb, 0, none⟩) q vc).ownBlock = some j) wr ⟨gb, p, none⟩ (.int .u8 z) rfl) (fun _ h => .inl h))
              have HYS : Tuck ((ys.set p z).length = q) := tuck (by rw [List.length_set, HYL.out])
              clear hrs hy HRB HKB HLr
              go_wp2_with fail
              go_roundw
              case rel => exact ⟨p + 1, by omega, by go_num, _, HYS, HRS, HKS⟩
              case measure => simp [intOf]; omega
            · obtain rfl : p = q := by omega
              have r0 := HLr.out.r.c0
              have sr := HLr.out.s.string (P := Tryd.prog) 22 5 9 Tryd.underlying22 Tryd.underlying5 Tryd.underlying9
              rw [HST.out] at sr
              clear HRB HKB
              go_wp2_with (go_at_call 12; refine (HAW.out _ HLr.out.b).mono ?_; rintro e w10 ⟨rfl, hB⟩; have HL10 := hide (HLr.out.next hB); clear hB r0 sr x0 HLr)
              go_ret
              exact ⟨rfl, HL10.out.b⟩
        · have hg1 : ¬ (o : Int) < (n : Int) := by omega
          have hg1d : decide ((o : Int) < (n : Int)) = false := by simpa using hg1
          have hg1e : decide (o < n) = false := by simpa using g1
          rw [decide_eq_false g1] at hD
          have HP1 := tuck hD
          clear hD g1
          have HRT := hide (fun (W : World) (h : LW w (.slice ra q rc) k o n t W) => rotate_ok HM.out HN.out HN1.out HQ.out (.slice ra q rc) W h.s)
          have HRE := hide (fun (W : World) (h : LW w (.slice ra q rc) k o n t W) => retire_full HM.out HP1.out HO1.out HQ.out (.slice ra q rc) W h.s)
          have r0 := HL3.out.r.c0; have r1 := HL3.out.r.c1; have r2 := HL3.out.r.c2
          unfold ringA at *
          go_upto_region 9 with (first | (go_at_call 18; refine (HRT.out _ HL3.out).mono ?_; rintro e w5 ⟨va, vc, rfl, hB, hrow⟩; have HL5 := hide (HL3.out.next hB); have HR5 := hide hrow; have HB5 := hide hB.size; clear r0 r1 r2 hB hrow HL3 HRT) | (refine wpList_store_rg_new rfl (.tmp 7) (.tmp 49) rfl w5.heap.size (.slice va q vc) o n1 rfl rfl rfl (.slice none 0 0) 0 0 (rbox_zero _) (fun W => Below w5.heap.size w5 W ∧ RBox W w5.heap.size (.slice va q vc) o n1) ⟨below_pairR w5 _, RBox.pair w5 _ _ _⟩ ?_; intro w6 hp; have HL6 := hide (HL5.out.next hp.1); have HR6 := hide (HR5.out.below hp.1); have HA6 := hide hp.2; have HG6 := hide (fun (j : Nat) (e : (Value.slice va q vc).ownBlock = some j) => HR5.out.lt e); have r0 := HL6.out.r.c0; have r1 := HL6.out.r.c1; have r2 := HL6.out.r.c2; clear hp HL5 HR5) | (go_at_call 19; refine (HRE.out _ HL6.out).mono ?_; rintro e w7 ⟨vb, vd, rfl, hB, hrow⟩; have HL7 := hide (HL6.out.next hB); have HR7 := hide (HR6.out.below hB); have HA7 := hide (HA6.out.next hB); have HG7 := hide (fun (j : Nat) (e : (Value.slice va q vc).ownBlock = some j) => Nat.lt_of_lt_of_le (HR6.out.lt e) hB.size); have HS7 := hide hrow.slAt; clear r0 r1 r2 hB hrow HL6 HR6 HA6 HRE) | (refine wpList_store_rg_new rfl (.tmp 9) (.tmp 54) rfl w7.heap.size (.slice vb 0 vd) 0 0 rfl rfl rfl (.slice none 0 0) 0 0 (rbox_zero _) (fun W => Below w7.heap.size w7 W ∧ RBox W w7.heap.size (.slice vb 0 vd) 0 0) ⟨below_pairR w7 _, RBox.pair w7 _ _ _⟩ ?_; intro w8 hp; have HMW8 := hide (show MW w (.slice ra q rc) k o n t wc.heap.size w5.heap.size w7.heap.size (.slice va q vc) k o n1 (.slice vb 0 vd) [] 0 0 w8 from ⟨HL7.out.next hp.1, HA7.out.next hp.1, hp.2, HR7.out.below hp.1, HS7.out.below hp.1, HWB.out, fun j e => ⟨HG6.out j e, HG7.out j e⟩⟩); have r0 := HMW8.out.l.r.c0; have r1 := HMW8.out.l.r.c1; have r2 := HMW8.out.l.r.c2; clear hp HL7 HR7 HA7 HS7 HG6 HG7) | (go_at_call 14; refine (HRR.out _).mono ?_; rintro e w9 ⟨rfl, hB⟩; have HMW := hide (HMW8.out.next hB); have hm := HMW.out; have r0 := hm.l.r.c0; have r1 := hm.l.r.c1; have r2 := hm.l.r.c2; have x0 := hm.r7.c0; have x1 := hm.r7.c1; have x2 := hm.r7.c2; have y0 := hm.r9.c0; have y1 := hm.r9.c1; have y2 := hm.r9.c2; have sr := hm.l.s.string (P := Tryd.prog) 22 5 9 Tryd.underlying22 Tryd.underlying5 Tryd.underlying9; have s7 := hm.s7.slAt.string (P := Tryd.prog) 22 5 9 Tryd.underlying22 Tryd.underlying5 Tryd.underlying9; have s9 := hm.s9.string (P := Tryd.prog) 22 5 9 Tryd.underlying22 Tryd.underlying5 Tryd.underlying9; rw [HST.out] at sr; (try rw [HST.out] at s7); (try rw [HST.out] at s9); clear hm hB HMW8))
          go_upto_region 11 with fail
          go_upto_region 13 with fail
          go_wp2_with fail
          clear r0 r1 r2 x0 x1 x2 y0 y1 y2 s7 s9 sr
          go_loopw [12] (fun i wr => ∃ p : Nat, p ≤ q ∧ i = .int .i64 p ∧ ∃ ys : List Int, Tuck (ys.length = q) ∧ Hid (Row wr wc.heap.size (.slice va q vc) ys) ∧ Hid (Keep (fun j => (Value.slice va q vc).ownBlock = some j) w9 wr)) (fun i _ => q - (intOf i).toNat)
          case atStart => exact ⟨0, by omega, rfl, k, tuck (by first | rfl | exact HQ.out), hide HMW.out.s7, hide (Keep.refl _ _)⟩
          case round =>
            obtain ⟨p, hp, rfl, ys, HYL, HRB, HKB⟩ := hrel
            have hkk := HMW.out.kept HKB.out HK0.out
            have HLr := hide hkk.1
            have x0 := hkk.2.c0
            clear hkk
            by_cases hlt3 : p < q
            · obtain ⟨gb, rfl⟩ : ∃ gb, va = some ⟨gb, 0, none⟩ := by
                rcases HRB.out.own with ⟨e1, e2⟩ | ⟨g, c, e1⟩
                · exact absurd HYL.out (by rw [e2]; simp; omega)
                · exact ⟨g, (slice_inj e1).1⟩
              have hc : wr.cell? ⟨gb, p, none⟩ = some (.int .u8 (nth ys p)) := by
                obtain ⟨ao', cap', hv, _, _, ha⟩ := HRB.out.slAt
                have z1 := (slice_inj hv).1
                have := (ha _ z1.symm p (by rw [HYL.out]; exact hlt3)).2.2
                rw [addr_plain', Nat.zero_add] at this
                exact this
              obtain ⟨y, hy⟩ : ∃ y, nth ys p = y := ⟨_, rfl⟩
              rw [hy] at hc
              obtain ⟨z, hz⟩ : ∃ z, IntKind.u8.wrap (y + 1) = z := ⟨_, rfl⟩
              obtain ⟨hrs, hf⟩ := HRB.out.set p hlt3 z
              have HRS := hide hrs
              have HKS := hide (HKB.out.trans (Keep.set (F := fun j => (Value.slice (some ⟨gb, 0, none⟩) q vc).ownBlock = some j) wr ⟨gb, p, none⟩ (.int .u8 z) rfl) (fun _ h => .inl h))
              have HYS : Tuck ((ys.set p z).length = q) := tuck (by rw [List.length_set, HYL.out])
              clear hrs hy HRB HKB HLr
              go_wp2_with fail
              go_roundw
              case rel => exact ⟨p + 1, by omega, by go_num, _, HYS, HRS, HKS⟩
              case measure => simp [intOf]; omega
            · obtain rfl : p = q := by omega
              have r0 := HLr.out.r.c0
              have sr := HLr.out.s.string (P := Tryd.prog) 22 5 9 Tryd.underlying22 Tryd.underlying5 Tryd.underlying9
              rw [HST.out] at sr
              clear HRB HKB
              go_wp2_with (go_at_call 12; refine (HAW.out _ HLr.out.b).mono ?_; rintro e w10 ⟨rfl, hB⟩; have HL10 := hide (HLr.out.next hB); clear hB r0 sr x0 HLr)
              go_ret
              exact ⟨rfl, HL10.out.b⟩
      · have hg0 : ¬ (n : Int) < 4611686018427387903 := by omega
        have hg0d : decide ((n : Int) < 4611686018427387903) = false := by simpa using hg0
        have hg0e : decide (n < 4611686018427387903) = false := by simpa using g0
        rw [decide_eq_false g0] at hU
        have HN := tuck hU
        clear hU g0
        by_cases g1 : o < n
        · have hg1 : (o : Int) < (n : Int) := by omega
          have hg1d : decide ((o : Int) < (n : Int)) = true := by simpa using hg1
          have hg1e : decide (o < n) = true := by simpa using g1
          rw [decide_eq_true g1] at hD
          have HP1 := tuck hD
          clear hD g1
          have HRT := hide (fun (W : World) (h : LW w (.slice ra q rc) k o n t W) => rotate_full HM.out HN.out HN1.out HQ.out (.slice ra q rc) W h.s)
          have HRE := hide (fun (W : World) (h : LW w (.slice ra q rc) k o n t W) => retire_ok HM.out HP1.out HO1.out HQ.out (.slice ra q rc) W h.s)
          have r0 := HL3.out.r.c0; have r1 := HL3.out.r.c1; have r2 := HL3.out.r.c2
          unfold ringA at *
          go_upto_region 9 with (first | (go_at_call 18; refine (HRT.out _ HL3.out).mono ?_; rintro e w5 ⟨va, vc, rfl, hB, hrow⟩; have HL5 := hide (HL3.out.next hB); have HR5 := hide hrow; have HB5 := hide hB.size; clear r0 r1 r2 hB hrow HL3 HRT) | (refine wpList_store_rg_new rfl (.tmp 7) (.tmp 49) rfl w5.heap.size (.slice va 0 vc) 0 0 rfl rfl rfl (.slice none 0 0) 0 0 (rbox_zero _) (fun W => Below w5.heap.size w5 W ∧ RBox W w5.heap.size (.slice va 0 vc) 0 0) ⟨below_pairR w5 _, RBox.pair w5 _ _ _⟩ ?_; intro w6 hp; have HL6 := hide (HL5.out.next hp.1); have HR6 := hide (HR5.out.below hp.1); have HA6 := hide hp.2; have HG6 := hide (fun (j : Nat) (e : (Value.slice va 0 vc).ownBlock = some j) => HR5.out.lt e); have r0 := HL6.out.r.c0; have r1 := HL6.out.r.c1; have r2 := HL6.out.r.c2; clear hp HL5 HR5) | (go_at_call 19; refine (HRE.out _ HL6.out).mono ?_; rintro e w7 ⟨vb, vd, rfl, hB, hrow⟩; have HL7 := hide (HL6.out.next hB); have HR7 := hide (HR6.out.below hB); have HA7 := hide (HA6.out.next hB); have HG7 := hide (fun (j : Nat) (e : (Value.slice va 0 vc).ownBlock = some j) => Nat.lt_of_lt_of_le (HR6.out.lt e) hB.size); have HS7 := hide hrow.slAt; clear r0 r1 r2 hB hrow HL6 HR6 HA6 HRE) | (refine wpList_store_rg_new rfl (.tmp 9) (.tmp 54) rfl w7.heap.size (.slice vb q vd) o1 n rfl rfl rfl (.slice none 0 0) 0 0 (rbox_zero _) (fun W => Below w7.heap.size w7 W ∧ RBox W w7.heap.size (.slice vb q vd) o1 n) ⟨below_pairR w7 _, RBox.pair w7 _ _ _⟩ ?_; intro w8 hp; have HMW8 := hide (show MW w (.slice ra q rc) k o n t wc.heap.size w5.heap.size w7.heap.size (.slice va 0 vc) [] 0 0 (.slice vb q vd) k o1 n w8 from ⟨HL7.out.next hp.1, HA7.out.next hp.1, hp.2, HR7.out.below hp.1, HS7.out.below hp.1, HWB.out, fun j e => ⟨HG6.out j e, HG7.out j e⟩⟩); have r0 := HMW8.out.l.r.c0; have r1 := HMW8.out.l.r.c1; have r2 := HMW8.out.l.r.c2; clear hp HL7 HR7 HA7 HS7 HG6 HG7) | (go_at_call 14; refine (HRR.out _).mono ?_; rintro e w9 ⟨rfl, hB⟩; have HMW := hide (HMW8.out.next hB); have hm := HMW.out; have r0 := hm.l.r.c0; have r1 := hm.l.r.c1; have r2 := hm.l.r.c2; have x0 := hm.r7.c0; have x1 := hm.r7.c1; have x2 := hm.r7.c2; have y0 := hm.r9.c0; have y1 := hm.r9.c1; have y2 := hm.r9.c2; have sr := hm.l.s.string (P := Tryd.prog) 22 5 9 Tryd.underlying22 Tryd.underlying5 Tryd.underlying9; have s7 := hm.s7.slAt.string (P := Tryd.prog) 22 5 9 Tryd.underlying22 Tryd.underlying5 Tryd.underlying9; have s9 := hm.s9.string (P := Tryd.prog) 22 5 9 Tryd.underlying22 Tryd.underlying5 Tryd.underlying9; rw [HST.out] at sr; (try rw [HST.out] at s7); (try rw [HST.out] at s9); clear hm hB HMW8))
          go_upto_region 11 with fail
          go_upto_region 13 with fail
          go_wp2_with fail
          clear r0 r1 r2 x0 x1 x2 y0 y1 y2 s7 s9 sr
          go_loopw [12] (fun i wr => ∃ p : Nat, p ≤ 0 ∧ i = .int .i64 p ∧ ∃ ys : List Int, Tuck (ys.length = 0) ∧ Hid (Row wr wc.heap.size (.slice va 0 vc) ys) ∧ Hid (Keep (fun j => (Value.slice va 0 vc).ownBlock = some j) w9 wr)) (fun i _ => 0 - (intOf i).toNat)
          case atStart => exact ⟨0, by omega, rfl, [], tuck (by first | rfl | exact HQ.out), hide HMW.out.s7, hide (Keep.refl _ _)⟩
          case round =>
            obtain ⟨p, hp, rfl, ys, HYL, HRB, HKB⟩ := hrel
            have hkk := HMW.out.kept HKB.out HK0.out
            have HLr := hide hkk.1
            have x0 := hkk.2.c0
            clear hkk
            by_cases hlt3 : p < 0
            · exact absurd hlt3 (Nat.not_lt_zero _)
            · obtain rfl : p = 0 := by omega
              have r0 := HLr.out.r.c0
              have sr := HLr.out.s.string (P := Tryd.prog) 22 5 9 Tryd.underlying22 Tryd.underlying5 Tryd.underlying9
              rw [HST.out] at sr
              clear HRB HKB
              go_wp2_with (go_at_call 12; refine (HAW.out _ HLr.out.b).mono ?_; rintro e w10 ⟨rfl, hB⟩; have HL10 := hide (HLr.out.next hB); clear hB r0 sr x0 HLr)
              go_ret
              exact ⟨rfl, HL10.out.b⟩
        · have hg1 : ¬ (o : Int) < (n : Int) := by omega
          have hg1d : decide ((o : Int) < (n : Int)) = false := by simpa using hg1
          have hg1e : decide (o < n) = false := by simpa using g1
          rw [decide_eq_false g1] at hD
          have HP1 := tuck hD
          clear hD g1
          have HRT := hide (fun (W : World) (h : LW w (.slice ra q rc) k o n t W) => rotate_full HM.out HN.out HN1.out HQ.out (.slice ra q rc) W h.s)
          have HRE := hide (fun (W : World) (h : LW w (.slice ra q rc) k o n t W) => retire_full HM.out HP1.out HO1.out HQ.out (.slice ra q rc) W h.s)
          have r0 := HL3.out.r.c0; have r1 := HL3.out.r.c1; have r2 := HL3.out.r.c2
          unfold ringA at *
          go_upto_region 9 with (first | (go_at_call 18; refine (HRT.out _ HL3.out).mono ?_; rintro e w5 ⟨va, vc, rfl, hB, hrow⟩; have HL5 := hide (HL3.out.next hB); have HR5 := hide hrow; have HB5 := hide hB.size; clear r0 r1 r2 hB hrow HL3 HRT) | (refine wpList_store_rg_new rfl (.tmp 7) (.tmp 49) rfl w5.heap.size (.slice va 0 vc) 0 0 rfl rfl rfl (.slice none 0 0) 0 0 (rbox_zero _) (fun W => Below w5.heap.size w5 W ∧ RBox W w5.heap.size (.slice va 0 vc) 0 0) ⟨below_pairR w5 _, RBox.pair w5 _ _ _⟩ ?_; intro w6 hp; have HL6 := hide (HL5.out.next hp.1); have HR6 := hide (HR5.out.below hp.1); have HA6 := hide hp.2; have HG6 := hide (fun (j : Nat) (e : (Value.slice va 0 vc).ownBlock = some j) => HR5.out.lt e); have r0 := HL6.out.r.c0; have r1 := HL6.out.r.c1; have r2 := HL6.out.r.c2; clear hp HL5 HR5) | (go_at_call 19; refine (HRE.out _ HL6.out).mono ?_; rintro e w7 ⟨vb, vd, rfl, hB, hrow⟩; have HL7 := hide (HL6.out.next hB); have HR7 := hide (HR6.out.below hB); have HA7 := hide (HA6.out.next hB); have HG7 := hide (fun (j : Nat) (e : (Value.slice va 0 vc).ownBlock = some j) => Nat.lt_of_lt_of_le (HR6.out.lt e) hB.size); have HS7 := hide hrow.slAt; clear r0 r1 r2 hB hrow HL6 HR6 HA6 HRE) | (refine wpList_store_rg_new rfl (.tmp 9) (.tmp 54) rfl w7.heap.size (.slice vb 0 vd) 0 0 rfl rfl rfl (.slice none 0 0) 0 0 (rbox_zero _) (fun W => Below w7.heap.size w7 W ∧ RBox W w7.heap.size (.slice vb 0 vd) 0 0) ⟨below_pairR w7 _, RBox.pair w7 _ _ _⟩ ?_; intro w8 hp; have HMW8 := hide (show MW w (.slice ra q rc) k o n t wc.heap.size w5.heap.size w7.heap.size (.slice va 0 vc) [] 0 0 (.slice vb 0 vd) [] 0 0 w8 from ⟨HL7.out.next hp.1, HA7.out.next hp.1, hp.2, HR7.out.below hp.1, HS7.out.below hp.1, HWB.out, fun j e => ⟨HG6.out j e, HG7.out j e⟩⟩); have r0 := HMW8.out.l.r.c0; have r1 := HMW8.out.l.r.c1; have r2 := HMW8.out.l.r.c2; clear hp HL7 HR7 HA7 HS7 HG6 HG7) | (go_at_call 14; refine (HRR.out _).mono ?_; rintro e w9 ⟨rfl, hB⟩; have HMW := hide (HMW8.out.next hB); have hm := HMW.out; have r0 := hm.l.r.c0; have r1 := hm.l.r.c1; have r2 := hm.l.r.c2; have x0 := hm.r7.c0; have x1 := hm.r7.c1; have x2 := hm.r7.c2; have y0 := hm.r9.c0; have y1 := hm.r9.c1; have y2 := hm.r9.c2; have sr := hm.l.s.string (P := Tryd.prog) 22 5 9 Tryd.underlying22 Tryd.underlying5 Tryd.underlying9; have s7 := hm.s7.slAt.string (P := Tryd.prog) 22 5 9 Tryd.underlying22 Tryd.underlying5 Tryd.underlying9; have s9 := hm.s9.string (P := Tryd.prog) 22 5 9 Tryd.underlying22 Tryd.underlying5 Tryd.underlying9; rw [HST.out] at sr; (try rw [HST.out] at s7); (try rw [HST.out] at s9); clear hm hB HMW8))
          go_upto_region 11 with fail
          go_upto_region 13 with fail
          go_wp2_with fail
          clear r0 r1 r2 x0 x1 x2 y0 y1 y2 s7 s9 sr
          go_loopw [12] (fun i wr => ∃ p : Nat, p ≤ 0 ∧ i = .int .i64 p ∧ ∃ ys : List Int, Tuck (ys.length = 0) ∧ Hid (Row wr wc.heap.size (.slice va 0 vc) ys) ∧ Hid (Keep (fun j => (Value.slice va 0 vc).ownBlock = some j) w9 wr)) (fun i _ => 0 - (intOf i).toNat)
          case atStart => exact ⟨0, by omega, rfl, [], tuck (by first | rfl | exact HQ.out), hide HMW.out.s7, hide (Keep.refl _ _)⟩
          case round =>
            obtain ⟨p, hp, rfl, ys, HYL, HRB, HKB⟩ := hrel
            have hkk := HMW.out.kept HKB.out HK0.out
            have HLr := hide hkk.1
            have x0 := hkk.2.c0
            clear hkk
            by_cases hlt3 : p < 0
            · exact absurd hlt3 (Nat.not_lt_zero _)
            · obtain rfl : p = 0 := by omega
              have r0 := HLr.out.r.c0
              have sr := HLr.out.s.string (P := Tryd.prog) 22 5 9 Tryd.underlying22 Tryd.underlying5 Tryd.underlying9
              rw [HST.out] at sr
              clear HRB HKB
              go_wp2_with (go_at_call 12; refine (HAW.out _ HLr.out.b).mono ?_; rintro e w10 ⟨rfl, hB⟩; have HL10 := hide (HLr.out.next hB); clear hB r0 sr x0 HLr)
              go_ret
              exact ⟨rfl, HL10.out.b⟩
end Go.Proofs.YtaomigfmjglggaaDoor
