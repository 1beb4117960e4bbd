/- kindOf of the program. -/
import Derived.Test.YtffbmkocmjpmeaaMtKind
import Derived.Deep.RegionWith
import Derived.Deep.RegionHeld3
import Derived.Deep.CutBlock
import Derived.StillTailTactics
import Derived.Deep.DeepCutAuto
namespace Go.Proofs.Ytffbmkocmjpmeaa
open Go.RowKit

def Idx (k : Int) (p q : ByteArray) (f g : Value) : Prop := ∀ w : World, (Instr.index 56 (.agg kindsC) (.int .i64 k)).run Try.prog w = .ok (.agg (kc p q f g)) w
set_option maxRecDepth 100000 in
set_option maxHeartbeats 1000000 in
theorem kindOf_text (k : Int) (t p q : ByteArray) (g : Value) (b : Bool) (h1 : 1 ≤ k) (h4 : k ≤ 4) (hi : Idx k p q (.func (.func 36) #[] #[]) g) (hg : g.oneCell' = true)
    (hm : ∀ W : World, Calls Try.prog 36 #[.string t] W (fun e w' => e = .returned (.bool b) ∧ Below W.heap.size W w')) (w : World) :
    Calls Try.prog 27 #[.agg #[.int .i64 k, .string t]] w (fun e w' => e = .returned (.tuple #[.agg (kc p q (.func (.func 36) #[] #[]) g), .bool b]) ∧ Below w.heap.size w w') := by
  have LK := hideL kinds_any
  have LM := hideL hm
  have HI := hideL hi
  have HG := hideL hg
  have g1 : ¬ k < 1 := by omega
  have g4 : ¬ (4 : Int) < k := by omega
  clear hm hi hg
  have HX := hideL ((TBox.new w k t).next ((Below.refl _ _).alloc (Nat.le_refl _) (.cells (kc ⟨#[]⟩ ⟨#[]⟩ .nilFunc .nilFunc) 51)))
  have HB := hideL (((Below.refl w.heap.size w).alloc (Nat.le_refl _) (.cells #[.int .i64 k, .string t] 23)).alloc (by simp) (.cells (kc ⟨#[]⟩ ⟨#[]⟩ .nilFunc .nilFunc) 51))
  have HR := KBox.new (w.alloc (.cells #[.int .i64 k, .string t] 23)) ⟨#[]⟩ ⟨#[]⟩ .nilFunc .nilFunc
  rw [World.size_alloc] at HR
  replace HR := hideL HR
  go_enter Try.func27, Try.ntmps27
  go_wp2_with (with_reducible refine wpList_alloc_row rfl 51 rfl (kc ⟨#[]⟩ ⟨#[]⟩ .nilFunc .nilFunc) zeroK ?_)
  generalize (w.alloc (.cells #[.int .i64 k, .string t] 23)).alloc (.cells (kc ⟨#[]⟩ ⟨#[]⟩ .nilFunc .nilFunc) 51) = V at *
  have HB0 := hideL ((Below.refl V.heap.size V).drew)
  go_cut [4] (fun s4 W' => ∃ gk, s4 = .pointer (some ⟨gk, 0, none⟩) ∧ V.heap.size ≤ gk ∧ KBox W' gk p q (.func (.func 36) #[] #[]) g ∧ Below V.heap.size V W')
  case first =>
    refine wp_region_held_drew (S := fun w' => Below V.heap.size V w') (by kernel_rfl) ((Below.refl _ _).drew) (fun hHeld => ?_)
    refine wpAnyH_take (i := 1) (oi := { dst := some 15, op := Op.fieldAddr 23 (Operand.tmp 1) 0, type := 0, pos := "match.go:57", after := #[], guard := none }) (v := ?_) rfl (by kernel_rfl) (by kernel_rfl) (by kernel_rfl) (fun _ _ _ h => h) (Or.inl ⟨by rfl, ?_⟩) hHeld ?_
    rotate_left
    · intro w hSw; (try dsimp only at hSw); go_simp; first | done | with_reducible rfl
    try simp only [Act.put, List.setIfInBounds_toArray, List.set_cons_zero, List.set_cons_succ]
    refine wpAnyH_take (i := 2) (oi := { dst := some 16, op := Op.load 3 (Operand.tmp 15), type := 3, pos := "match.go:57", after := #[{ on := 1, ground := Ground.data }], guard := none }) (v := ?_) rfl (by kernel_rfl) (by kernel_rfl) (by kernel_rfl) (fun _ _ _ h => h) (Or.inl ⟨by rfl, ?_⟩) hHeld ?_
    rotate_left
    · intro w hSw; (try dsimp only at hSw); have e0 := (HX.out.next hSw).c0; go_simp; first | done | with_reducible rfl
    try simp only [Act.put, List.setIfInBounds_toArray, List.set_cons_zero, List.set_cons_succ]
    refine wpAnyH_ready (rs := [0, 4]) (by kernel_rfl) (by simp) ?_
    refine AllReadyH.cons (o := { dst := some 14, op := Op.call { callee := Callee.value (Operand.func 32), args := #[], argTypes := #[] }, type := 56, pos := "match.go:57", after := #[], guard := none }) rfl (fun K hK => ?_) (AllReadyH.cons (o := { dst := some 4, op := Op.alloc 51, type := 0, pos := "match.go:57", after := #[], guard := none }) rfl (fun K hK => ?_) AllReadyH.nil)
    · clear hHeld
      go_simp
      refine (LK.out _).mono ?_
      rintro e V1 ⟨rfl, hB⟩
      have HB1 := hideL (HB0.out.trans (hB.mono HB0.out.size))
      clear hB LK
      refine hK.out _ _ (HB1.out) (fun hHeld => ?_)
      clear hK K
      try simp only [Act.put, List.setIfInBounds_toArray, List.set_cons_zero, List.set_cons_succ]
      refine wpAnyH_take (i := 3) (oi := { dst := some 17, op := Op.index 56 (Operand.tmp 14) (Operand.tmp 16), type := 51, pos := "match.go:57", after := #[{ on := 0, ground := Ground.data }, { on := 2, ground := Ground.data }], guard := none }) (v := ?_) rfl (by kernel_rfl) (by kernel_rfl) (by kernel_rfl) (fun _ _ _ h => h) (Or.inl ⟨by rfl, ?_⟩) hHeld ?_
      rotate_left
      · intro w hSw; (try dsimp only at hSw); have hidx := HI.out; unfold Idx at hidx; go_simp; first | done | with_reducible rfl
      try simp only [Act.put, List.setIfInBounds_toArray, List.set_cons_zero, List.set_cons_succ]
      refine wpAnyH_ready (rs := [4]) (by kernel_rfl) (by simp) ?_
      refine AllReadyH.cons (o := { dst := some 4, op := Op.alloc 51, type := 0, pos := "match.go:57", after := #[], guard := none }) rfl (fun K hK => ?_) AllReadyH.nil
      clear hHeld
      rw [if_pos (by rfl)]
      refine wp_alloc_k rfl ?_
      have HK2 := hideL (KBox.new (V1) ⟨#[]⟩ ⟨#[]⟩ .nilFunc .nilFunc)
      have HB2 := hideL (HB1.out.alloc HB1.out.size (.cells (kc ⟨#[]⟩ ⟨#[]⟩ .nilFunc .nilFunc) 51))
      have HGE := hideL (show V.heap.size ≤ (V1).heap.size from HB1.out.size)
      obtain ⟨gk, hgk⟩ : ∃ gk, gk = (V1).heap.size := ⟨_, rfl⟩
      rw [← hgk] at HK2 HGE ⊢
      clear hgk
      obtain ⟨V2, hVn⟩ : ∃ x, x = (V1).alloc (.cells (kc ⟨#[]⟩ ⟨#[]⟩ .nilFunc .nilFunc) 51) := ⟨_, rfl⟩
      rw [← hVn] at HK2 HB2 ⊢
      clear hVn
      refine hK.out _ _ (HB2.out) (fun hHeld => ?_)
      clear hK K
      try simp only [Act.put, List.setIfInBounds_toArray, List.set_cons_zero, List.set_cons_succ]
      refine wpAnyH_ready (rs := [5]) (by kernel_rfl) (by simp) ?_
      refine AllReadyH.cons (o := { dst := none, op := Op.store 51 (Operand.tmp 4) (Operand.tmp 17), type := 0, pos := "match.go:57", after := #[{ on := 4, ground := Ground.data }, { on := 3, ground := Ground.data }, { on := 0, ground := Ground.chain }, { on := 0, ground := Ground.phase }, { on := 1, ground := Ground.phase }, { on := 2, ground := Ground.phase }, { on := 3, ground := Ground.phase }, { on := 4, ground := Ground.phase }], guard := none }) rfl (fun K hK => ?_) AllReadyH.nil
      clear hHeld
      rw [if_pos (by rfl)]
      refine wp_store_row _ _ _ rfl gk (kc p q (.func (.func 36) #[] #[]) g) rfl rfl _ _ HK2.out (sizeK _ _ _ _) rfl (oneK _ _ rfl HG.out) ?_
      have HK3 := hideL (HK2.out.set p q (.func (.func 36) #[] #[]) g)
      have HB3 := hideL (below_setRow HB2.out (Nat.le_trans (Nat.le_refl _) HGE.out) (kc p q (.func (.func 36) #[] #[]) g))
      refine hK.out _ _ (HB3.out) (fun hHeld => ?_)
      clear hK K
      try simp only [Act.put]
      refine wpAnyH_done (by kernel_rfl) ?_ _
      clear hHeld
      go_wp2_with fail
      go_meet
      case rel => exact ⟨gk, rfl, HGE.out, HK3.out, HB3.out⟩
    · clear hHeld
      rw [if_pos (by rfl)]
      refine wp_alloc_k rfl ?_
      have HK1 := hideL (KBox.new (V.drew) ⟨#[]⟩ ⟨#[]⟩ .nilFunc .nilFunc)
      have HB1 := hideL (HB0.out.alloc HB0.out.size (.cells (kc ⟨#[]⟩ ⟨#[]⟩ .nilFunc .nilFunc) 51))
      have HGE := hideL (show V.heap.size ≤ (V.drew).heap.size from HB0.out.size)
      obtain ⟨gk, hgk⟩ : ∃ gk, gk = (V.drew).heap.size := ⟨_, rfl⟩
      rw [← hgk] at HK1 HGE ⊢
      clear hgk
      obtain ⟨V1, hVn⟩ : ∃ x, x = (V.drew).alloc (.cells (kc ⟨#[]⟩ ⟨#[]⟩ .nilFunc .nilFunc) 51) := ⟨_, rfl⟩
      rw [← hVn] at HK1 HB1 ⊢
      clear hVn
      refine hK.out _ _ (HB1.out) (fun hHeld => ?_)
      clear hK K
      try simp only [Act.put, List.setIfInBounds_toArray, List.set_cons_zero, List.set_cons_succ]
      refine wpAnyH_ready (rs := [0]) (by kernel_rfl) (by simp) ?_
      refine AllReadyH.cons (o := { dst := some 14, op := Op.call { callee := Callee.value (Operand.func 32), args := #[], argTypes := #[] }, type := 56, pos := "match.go:57", after := #[], guard := none }) rfl (fun K hK => ?_) AllReadyH.nil
      clear hHeld
      go_simp
      refine (LK.out _).mono ?_
      rintro e V2 ⟨rfl, hB⟩
      have HB2 := hideL (HB1.out.trans (hB.mono HB1.out.size))
      have HK2 := hideL (HK1.out.next hB)
      clear hB LK
      refine hK.out _ _ (HB2.out) (fun hHeld => ?_)
      clear hK K
      try simp only [Act.put, List.setIfInBounds_toArray, List.set_cons_zero, List.set_cons_succ]
      refine wpAnyH_take (i := 3) (oi := { dst := some 17, op := Op.index 56 (Operand.tmp 14) (Operand.tmp 16), type := 51, pos := "match.go:57", after := #[{ on := 0, ground := Ground.data }, { on := 2, ground := Ground.data }], guard := none }) (v := ?_) rfl (by kernel_rfl) (by kernel_rfl) (by kernel_rfl) (fun _ _ _ h => h) (Or.inl ⟨by rfl, ?_⟩) hHeld ?_
      rotate_left
      · intro w hSw; (try dsimp only at hSw); have hidx := HI.out; unfold Idx at hidx; go_simp; first | done | with_reducible rfl
      try simp only [Act.put, List.setIfInBounds_toArray, List.set_cons_zero, List.set_cons_succ]
      refine wpAnyH_ready (rs := [5]) (by kernel_rfl) (by simp) ?_
      refine AllReadyH.cons (o := { dst := none, op := Op.store 51 (Operand.tmp 4) (Operand.tmp 17), type := 0, pos := "match.go:57", after := #[{ on := 4, ground := Ground.data }, { on := 3, ground := Ground.data }, { on := 0, ground := Ground.chain }, { on := 0, ground := Ground.phase }, { on := 1, ground := Ground.phase }, { on := 2, ground := Ground.phase }, { on := 3, ground := Ground.phase }, { on := 4, ground := Ground.phase }], guard := none }) rfl (fun K hK => ?_) AllReadyH.nil
      clear hHeld
      rw [if_pos (by rfl)]
      refine wp_store_row _ _ _ rfl gk (kc p q (.func (.func 36) #[] #[]) g) rfl rfl _ _ HK2.out (sizeK _ _ _ _) rfl (oneK _ _ rfl HG.out) ?_
      have HK3 := hideL (HK2.out.set p q (.func (.func 36) #[] #[]) g)
      have HB3 := hideL (below_setRow HB2.out (Nat.le_trans (Nat.le_refl _) HGE.out) (kc p q (.func (.func 36) #[] #[]) g))
      refine hK.out _ _ (HB3.out) (fun hHeld => ?_)
      clear hK K
      try simp only [Act.put]
      refine wpAnyH_done (by kernel_rfl) ?_ _
      clear hHeld
      go_wp2_with fail
      go_meet
      case rel => exact ⟨gk, rfl, HGE.out, HK3.out, HB3.out⟩
  case rest =>
    obtain ⟨gk, rfl, hge, hk, hb⟩ := hcut
    have HX2 := hideL (HX.out.next hb)
    have HR2 := hideL (HR.out.next hb)
    have HB2 := hideL (HB.out.trans (hb.mono HB.out.size))
    have HK2 := hideL hk
    have HGK := hideL (show w.heap.size + 2 ≤ gk from Nat.le_trans (Nat.succ_le_of_lt HR.out.lt) hge)
    clear hge hk hb HX HR HB HB0 LK HI
    go_wp2_with fail
    refine wp_region_held_drew (S := fun w' => TBox w' w.heap.size k t ∧ KBox w' gk p q (.func (.func 36) #[] #[]) g) (by kernel_rfl) ⟨HX2.out.drew, HK2.out.drew⟩ (fun hHeld => ?_)
    refine wpAnyH_take (i := 0) (oi := { dst := some 18, op := Op.load 51 (Operand.tmp 4), type := 51, pos := "match.go:58", after := #[], guard := none }) (v := ?_) rfl (by kernel_rfl) (by kernel_rfl) (by kernel_rfl) (fun _ _ _ h => h) (Or.inl ⟨by rfl, ?_⟩) hHeld ?_
    rotate_left
    · intro w hSw; (try dsimp only at hSw); have e0 := hSw.1.c0; have e1 := hSw.1.c1; have k0 := hSw.2.c0; have k1 := hSw.2.c1; have k2 := hSw.2.c2; have k3 := hSw.2.c3; go_simp; first | done | with_reducible rfl
    try simp only [Act.put, List.setIfInBounds_toArray, List.set_cons_zero, List.set_cons_succ]
    refine wpAnyH_take (i := 1) (oi := { dst := some 19, op := Op.fieldAddr 51 (Operand.tmp 4) 2, type := 0, pos := "match.go:58", after := #[], guard := none }) (v := ?_) rfl (by kernel_rfl) (by kernel_rfl) (by kernel_rfl) (fun _ _ _ h => h) (Or.inl ⟨by rfl, ?_⟩) hHeld ?_
    rotate_left
    · intro w hSw; (try dsimp only at hSw); have e0 := hSw.1.c0; have e1 := hSw.1.c1; have k0 := hSw.2.c0; have k1 := hSw.2.c1; have k2 := hSw.2.c2; have k3 := hSw.2.c3; go_simp; first | done | with_reducible rfl
    try simp only [Act.put, List.setIfInBounds_toArray, List.set_cons_zero, List.set_cons_succ]
    refine wpAnyH_take (i := 2) (oi := { dst := some 20, op := Op.load 48 (Operand.tmp 19), type := 48, pos := "match.go:58", after := #[{ on := 1, ground := Ground.data }], guard := none }) (v := ?_) rfl (by kernel_rfl) (by kernel_rfl) (by kernel_rfl) (fun _ _ _ h => h) (Or.inl ⟨by rfl, ?_⟩) hHeld ?_
    rotate_left
    · intro w hSw; (try dsimp only at hSw); have e0 := hSw.1.c0; have e1 := hSw.1.c1; have k0 := hSw.2.c0; have k1 := hSw.2.c1; have k2 := hSw.2.c2; have k3 := hSw.2.c3; go_simp; first | done | with_reducible rfl
    try simp only [Act.put, List.setIfInBounds_toArray, List.set_cons_zero, List.set_cons_succ]
    refine wpAnyH_take (i := 3) (oi := { dst := some 21, op := Op.fieldAddr 23 (Operand.tmp 1) 1, type := 0, pos := "match.go:58", after := #[], guard := none }) (v := ?_) rfl (by kernel_rfl) (by kernel_rfl) (by kernel_rfl) (fun _ _ _ h => h) (Or.inl ⟨by rfl, ?_⟩) hHeld ?_
    rotate_left
    · intro w hSw; (try dsimp only at hSw); have e0 := hSw.1.c0; have e1 := hSw.1.c1; have k0 := hSw.2.c0; have k1 := hSw.2.c1; have k2 := hSw.2.c2; have k3 := hSw.2.c3; go_simp; first | done | with_reducible rfl
    try simp only [Act.put, List.setIfInBounds_toArray, List.set_cons_zero, List.set_cons_succ]
    refine wpAnyH_take (i := 4) (oi := { dst := some 22, op := Op.load 9 (Operand.tmp 21), type := 9, pos := "match.go:58", after := #[{ on := 3, ground := Ground.data }], guard := none }) (v := ?_) rfl (by kernel_rfl) (by kernel_rfl) (by kernel_rfl) (fun _ _ _ h => h) (Or.inl ⟨by rfl, ?_⟩) hHeld ?_
    rotate_left
    · intro w hSw; (try dsimp only at hSw); have e0 := hSw.1.c0; have e1 := hSw.1.c1; have k0 := hSw.2.c0; have k1 := hSw.2.c1; have k2 := hSw.2.c2; have k3 := hSw.2.c3; go_simp; first | done | with_reducible rfl
    try simp only [Act.put, List.setIfInBounds_toArray, List.set_cons_zero, List.set_cons_succ]
    refine wpAnyH_ready (rs := [5]) (by kernel_rfl) (by simp) ?_
    refine AllReadyH.cons (o := { dst := some 23, op := Op.call { callee := Callee.value (Operand.tmp 20), args := #[Operand.tmp 22], argTypes := #[9] }, type := 4, pos := "match.go:58", after := #[{ on := 2, ground := Ground.data }, { on := 4, ground := Ground.data }], guard := none }) rfl (fun K hK => ?_) AllReadyH.nil
    clear hHeld
    go_simp
    refine (LM.out _).mono ?_
    rintro e V1 ⟨rfl, hB⟩
    have HBB := hideL ((Below.refl wc.heap.size wc).drew.trans hB)
    refine hK.out _ _ (⟨HX2.out.next HBB.out, HK2.out.next HBB.out⟩) (fun hHeld => ?_)
    clear hK K
    try simp only [Act.put, List.setIfInBounds_toArray, List.set_cons_zero, List.set_cons_succ]
    have HX3 := hideL (HX2.out.next HBB.out)
    have HK3 := hideL (HK2.out.next HBB.out)
    have HR3 := hideL (HR2.out.next HBB.out)
    have HB3 := hideL (HB2.out.trans (HBB.out.mono HB2.out.size))
    refine wpAnyH_ready (rs := [6]) (by kernel_rfl) (by simp) ?_
    refine AllReadyH.cons (o := { dst := none, op := Op.store 51 (Operand.tmp 2) (Operand.tmp 18), type := 0, pos := "match.go:58", after := #[{ on := 0, ground := Ground.data }, { on := 5, ground := Ground.chain }, { on := 0, ground := Ground.phase }, { on := 1, ground := Ground.textOnly Departure.lateStores }, { on := 2, ground := Ground.textOnly Departure.lateStores }, { on := 3, ground := Ground.textOnly Departure.lateStores }, { on := 4, ground := Ground.textOnly Departure.lateStores }, { on := 5, ground := Ground.textOnly Departure.lateStoresUnsure }], guard := none }) rfl (fun K hK => ?_) AllReadyH.nil
    clear hHeld
    rw [if_pos (by rfl)]
    refine wp_store_row _ _ _ rfl (w.heap.size + 1) (kc p q (.func (.func 36) #[] #[]) g) rfl rfl _ _ HR3.out (sizeK _ _ _ _) rfl (oneK _ _ rfl HG.out) ?_
    have HR4 := hideL (HR3.out.set p q (.func (.func 36) #[] #[]) g)
    have HX4 := hideL (HX3.out.row (n := w.heap.size + 1) (by omega) (kc p q (.func (.func 36) #[] #[]) g))
    have HK4 := hideL (HK3.out.row (m := w.heap.size + 1) (by have := HGK.out; omega) (kc p q (.func (.func 36) #[] #[]) g))
    have HB4 := hideL (below_setRow HB3.out (Nat.le_succ _) (kc p q (.func (.func 36) #[] #[]) g))
    refine hK.out _ _ (⟨HX4.out, HK4.out⟩) (fun hHeld => ?_)
    clear hK K
    try simp only [Act.put]
    refine wpAnyH_take (i := 7) (oi := { dst := some 3, op := Op.assign (Operand.tmp 23), type := 4, pos := "match.go:58", after := #[{ on := 5, ground := Ground.data }, { on := 6, ground := Ground.chain }, { on := 0, ground := Ground.phase }, { on := 1, ground := Ground.phase }, { on := 2, ground := Ground.phase }, { on := 3, ground := Ground.phase }, { on := 4, ground := Ground.phase }, { on := 5, ground := Ground.phase }, { on := 6, ground := Ground.phase }], guard := none }) (v := ?_) rfl (by kernel_rfl) (by kernel_rfl) (by kernel_rfl) (fun _ _ _ h => h) (Or.inl ⟨by rfl, ?_⟩) hHeld ?_
    rotate_left
    · intro w hSw; (try dsimp only at hSw); go_simp; first | done | with_reducible rfl
    try simp only [Act.put, List.setIfInBounds_toArray, List.set_cons_zero, List.set_cons_succ]
    refine wpAnyH_done (by kernel_rfl) ?_ _
    clear hHeld
    go_wp2_with fail
    have HR5 := HR4.out
    have HB5 := HB4.out
    generalize V1.setRow (w.heap.size + 1) (kc p q (.func (.func 36) #[] #[]) g) = VF at HR5 HB5 ⊢
    have r0 := HR5.c0
    have r1 := HR5.c1
    have r2 := HR5.c2
    have r3 := HR5.c3
    exact bodyPost_ret (v := .tuple #[.agg (kc p q (.func (.func 36) #[] #[]) g), .bool b]) (by simp [results, Try.results27, go_sem, r0, r1, r2, r3, kc]) rfl ⟨rfl, HB5⟩
set_option maxRecDepth 100000 in
set_option maxHeartbeats 1000000 in
theorem kindOf_none (k : Int) (t p q : ByteArray) (g : Value) (b : Bool) (h1 : 1 ≤ k) (h4 : k ≤ 4) (hi : Idx k p q (.func (.func 40) #[] #[]) g) (hg : g.oneCell' = true)
    (hm : ∀ W : World, Calls Try.prog 40 #[.string t] W (fun e w' => e = .returned (.bool b) ∧ Below W.heap.size W w')) (w : World) :
    Calls Try.prog 27 #[.agg #[.int .i64 k, .string t]] w (fun e w' => e = .returned (.tuple #[.agg (kc p q (.func (.func 40) #[] #[]) g), .bool b]) ∧ Below w.heap.size w w') := by
  have LK := hideL kinds_any
  have LM := hideL hm
  have HI := hideL hi
  have HG := hideL hg
  have g1 : ¬ k < 1 := by omega
  have g4 : ¬ (4 : Int) < k := by omega
  clear hm hi hg
  have HX := hideL ((TBox.new w k t).next ((Below.refl _ _).alloc (Nat.le_refl _) (.cells (kc ⟨#[]⟩ ⟨#[]⟩ .nilFunc .nilFunc) 51)))
  have HB := hideL (((Below.refl w.heap.size w).alloc (Nat.le_refl _) (.cells #[.int .i64 k, .string t] 23)).alloc (by simp) (.cells (kc ⟨#[]⟩ ⟨#[]⟩ .nilFunc .nilFunc) 51))
  have HR := KBox.new (w.alloc (.cells #[.int .i64 k, .string t] 23)) ⟨#[]⟩ ⟨#[]⟩ .nilFunc .nilFunc
  rw [World.size_alloc] at HR
  replace HR := hideL HR
  go_enter Try.func27, Try.ntmps27
  go_wp2_with (with_reducible refine wpList_alloc_row rfl 51 rfl (kc ⟨#[]⟩ ⟨#[]⟩ .nilFunc .nilFunc) zeroK ?_)
  generalize (w.alloc (.cells #[.int .i64 k, .string t] 23)).alloc (.cells (kc ⟨#[]⟩ ⟨#[]⟩ .nilFunc .nilFunc) 51) = V at *
  have HB0 := hideL ((Below.refl V.heap.size V).drew)
  go_cut [4] (fun s4 W' => ∃ gk, s4 = .pointer (some ⟨gk, 0, none⟩) ∧ V.heap.size ≤ gk ∧ KBox W' gk p q (.func (.func 40) #[] #[]) g ∧ Below V.heap.size V W')
  case first =>
    refine wp_region_held_drew (S := fun w' => Below V.heap.size V w') (by kernel_rfl) ((Below.refl _ _).drew) (fun hHeld => ?_)
    refine wpAnyH_take (i := 1) (oi := { dst := some 15, op := Op.fieldAddr 23 (Operand.tmp 1) 0, type := 0, pos := "match.go:57", after := #[], guard := none }) (v := ?_) rfl (by kernel_rfl) (by kernel_rfl) (by kernel_rfl) (fun _ _ _ h => h) (Or.inl ⟨by rfl, ?_⟩) hHeld ?_
    rotate_left
    · intro w hSw; (try dsimp only at hSw); go_simp; first | done | with_reducible rfl
    try simp only [Act.put, List.setIfInBounds_toArray, List.set_cons_zero, List.set_cons_succ]
    refine wpAnyH_take (i := 2) (oi := { dst := some 16, op := Op.load 3 (Operand.tmp 15), type := 3, pos := "match.go:57", after := #[{ on := 1, ground := Ground.data }], guard := none }) (v := ?_) rfl (by kernel_rfl) (by kernel_rfl) (by kernel_rfl) (fun _ _ _ h => h) (Or.inl ⟨by rfl, ?_⟩) hHeld ?_
    rotate_left
    · intro w hSw; (try dsimp only at hSw); have e0 := (HX.out.next hSw).c0; go_simp; first | done | with_reducible rfl
    try simp only [Act.put, List.setIfInBounds_toArray, List.set_cons_zero, List.set_cons_succ]
    refine wpAnyH_ready (rs := [0, 4]) (by kernel_rfl) (by simp) ?_
    refine AllReadyH.cons (o := { dst := some 14, op := Op.call { callee := Callee.value (Operand.func 32), args := #[], argTypes := #[] }, type := 56, pos := "match.go:57", after := #[], guard := none }) rfl (fun K hK => ?_) (AllReadyH.cons (o := { dst := some 4, op := Op.alloc 51, type := 0, pos := "match.go:57", after := #[], guard := none }) rfl (fun K hK => ?_) AllReadyH.nil)
    · clear hHeld
      go_simp
      refine (LK.out _).mono ?_
      rintro e V1 ⟨rfl, hB⟩
      have HB1 := hideL (HB0.out.trans (hB.mono HB0.out.size))
      clear hB LK
      refine hK.out _ _ (HB1.out) (fun hHeld => ?_)
      clear hK K
      try simp only [Act.put, List.setIfInBounds_toArray, List.set_cons_zero, List.set_cons_succ]
      refine wpAnyH_take (i := 3) (oi := { dst := some 17, op := Op.index 56 (Operand.tmp 14) (Operand.tmp 16), type := 51, pos := "match.go:57", after := #[{ on := 0, ground := Ground.data }, { on := 2, ground := Ground.data }], guard := none }) (v := ?_) rfl (by kernel_rfl) (by kernel_rfl) (by kernel_rfl) (fun _ _ _ h => h) (Or.inl ⟨by rfl, ?_⟩) hHeld ?_
      rotate_left
      · intro w hSw; (try dsimp only at hSw); have hidx := HI.out; unfold Idx at hidx; go_simp; first | done | with_reducible rfl
      try simp only [Act.put, List.setIfInBounds_toArray, List.set_cons_zero, List.set_cons_succ]
      refine wpAnyH_ready (rs := [4]) (by kernel_rfl) (by simp) ?_
      refine AllReadyH.cons (o := { dst := some 4, op := Op.alloc 51, type := 0, pos := "match.go:57", after := #[], guard := none }) rfl (fun K hK => ?_) AllReadyH.nil
      clear hHeld
      rw [if_pos (by rfl)]
      refine wp_alloc_k rfl ?_
      have HK2 := hideL (KBox.new (V1) ⟨#[]⟩ ⟨#[]⟩ .nilFunc .nilFunc)
      have HB2 := hideL (HB1.out.alloc HB1.out.size (.cells (kc ⟨#[]⟩ ⟨#[]⟩ .nilFunc .nilFunc) 51))
      have HGE := hideL (show V.heap.size ≤ (V1).heap.size from HB1.out.size)
      obtain ⟨gk, hgk⟩ : ∃ gk, gk = (V1).heap.size := ⟨_, rfl⟩
      rw [← hgk] at HK2 HGE ⊢
      clear hgk
      obtain ⟨V2, hVn⟩ : ∃ x, x = (V1).alloc (.cells (kc ⟨#[]⟩ ⟨#[]⟩ .nilFunc .nilFunc) 51) := ⟨_, rfl⟩
      rw [← hVn] at HK2 HB2 ⊢
      clear hVn
      refine hK.out _ _ (HB2.out) (fun hHeld => ?_)
      clear hK K
      try simp only [Act.put, List.setIfInBounds_toArray, List.set_cons_zero, List.set_cons_succ]
      refine wpAnyH_ready (rs := [5]) (by kernel_rfl) (by simp) ?_
      refine AllReadyH.cons (o := { dst := none, op := Op.store 51 (Operand.tmp 4) (Operand.tmp 17), type := 0, pos := "match.go:57", after := #[{ on := 4, ground := Ground.data }, { on := 3, ground := Ground.data }, { on := 0, ground := Ground.chain }, { on := 0, ground := Ground.phase }, { on := 1, ground := Ground.phase }, { on := 2, ground := Ground.phase }, { on := 3, ground := Ground.phase }, { on := 4, ground := Ground.phase }], guard := none }) rfl (fun K hK => ?_) AllReadyH.nil
      clear hHeld
      rw [if_pos (by rfl)]
      refine wp_store_row _ _ _ rfl gk (kc p q (.func (.func 40) #[] #[]) g) rfl rfl _ _ HK2.out (sizeK _ _ _ _) rfl (oneK _ _ rfl HG.out) ?_
      have HK3 := hideL (HK2.out.set p q (.func (.func 40) #[] #[]) g)
      have HB3 := hideL (below_setRow HB2.out (Nat.le_trans (Nat.le_refl _) HGE.out) (kc p q (.func (.func 40) #[] #[]) g))
      refine hK.out _ _ (HB3.out) (fun hHeld => ?_)
      clear hK K
      try simp only [Act.put]
      refine wpAnyH_done (by kernel_rfl) ?_ _
      clear hHeld
      go_wp2_with fail
      go_meet
      case rel => exact ⟨gk, rfl, HGE.out, HK3.out, HB3.out⟩
    · clear hHeld
      rw [if_pos (by rfl)]
      refine wp_alloc_k rfl ?_
      have HK1 := hideL (KBox.new (V.drew) ⟨#[]⟩ ⟨#[]⟩ .nilFunc .nilFunc)
      have HB1 := hideL (HB0.out.alloc HB0.out.size (.cells (kc ⟨#[]⟩ ⟨#[]⟩ .nilFunc .nilFunc) 51))
      have HGE := hideL (show V.heap.size ≤ (V.drew).heap.size from HB0.out.size)
      obtain ⟨gk, hgk⟩ : ∃ gk, gk = (V.drew).heap.size := ⟨_, rfl⟩
      rw [← hgk] at HK1 HGE ⊢
      clear hgk
      obtain ⟨V1, hVn⟩ : ∃ x, x = (V.drew).alloc (.cells (kc ⟨#[]⟩ ⟨#[]⟩ .nilFunc .nilFunc) 51) := ⟨_, rfl⟩
      rw [← hVn] at HK1 HB1 ⊢
      clear hVn
      refine hK.out _ _ (HB1.out) (fun hHeld => ?_)
      clear hK K
      try simp only [Act.put, List.setIfInBounds_toArray, List.set_cons_zero, List.set_cons_succ]
      refine wpAnyH_ready (rs := [0]) (by kernel_rfl) (by simp) ?_
      refine AllReadyH.cons (o := { dst := some 14, op := Op.call { callee := Callee.value (Operand.func 32), args := #[], argTypes := #[] }, type := 56, pos := "match.go:57", after := #[], guard := none }) rfl (fun K hK => ?_) AllReadyH.nil
      clear hHeld
      go_simp
      refine (LK.out _).mono ?_
      rintro e V2 ⟨rfl, hB⟩
      have HB2 := hideL (HB1.out.trans (hB.mono HB1.out.size))
      have HK2 := hideL (HK1.out.next hB)
      clear hB LK
      refine hK.out _ _ (HB2.out) (fun hHeld => ?_)
      clear hK K
      try simp only [Act.put, List.setIfInBounds_toArray, List.set_cons_zero, List.set_cons_succ]
      refine wpAnyH_take (i := 3) (oi := { dst := some 17, op := Op.index 56 (Operand.tmp 14) (Operand.tmp 16), type := 51, pos := "match.go:57", after := #[{ on := 0, ground := Ground.data }, { on := 2, ground := Ground.data }], guard := none }) (v := ?_) rfl (by kernel_rfl) (by kernel_rfl) (by kernel_rfl) (fun _ _ _ h => h) (Or.inl ⟨by rfl, ?_⟩) hHeld ?_
      rotate_left
      · intro w hSw; (try dsimp only at hSw); have hidx := HI.out; unfold Idx at hidx; go_simp; first | done | with_reducible rfl
      try simp only [Act.put, List.setIfInBounds_toArray, List.set_cons_zero, List.set_cons_succ]
      refine wpAnyH_ready (rs := [5]) (by kernel_rfl) (by simp) ?_
      refine AllReadyH.cons (o := { dst := none, op := Op.store 51 (Operand.tmp 4) (Operand.tmp 17), type := 0, pos := "match.go:57", after := #[{ on := 4, ground := Ground.data }, { on := 3, ground := Ground.data }, { on := 0, ground := Ground.chain }, { on := 0, ground := Ground.phase }, { on := 1, ground := Ground.phase }, { on := 2, ground := Ground.phase }, { on := 3, ground := Ground.phase }, { on := 4, ground := Ground.phase }], guard := none }) rfl (fun K hK => ?_) AllReadyH.nil
      clear hHeld
      rw [if_pos (by rfl)]
      refine wp_store_row _ _ _ rfl gk (kc p q (.func (.func 40) #[] #[]) g) rfl rfl _ _ HK2.out (sizeK _ _ _ _) rfl (oneK _ _ rfl HG.out) ?_
      have HK3 := hideL (HK2.out.set p q (.func (.func 40) #[] #[]) g)
      have HB3 := hideL (below_setRow HB2.out (Nat.le_trans (Nat.le_refl _) HGE.out) (kc p q (.func (.func 40) #[] #[]) g))
      refine hK.out _ _ (HB3.out) (fun hHeld => ?_)
      clear hK K
      try simp only [Act.put]
      refine wpAnyH_done (by kernel_rfl) ?_ _
      clear hHeld
      go_wp2_with fail
      go_meet
      case rel => exact ⟨gk, rfl, HGE.out, HK3.out, HB3.out⟩
  case rest =>
    obtain ⟨gk, rfl, hge, hk, hb⟩ := hcut
    have HX2 := hideL (HX.out.next hb)
    have HR2 := hideL (HR.out.next hb)
    have HB2 := hideL (HB.out.trans (hb.mono HB.out.size))
    have HK2 := hideL hk
    have HGK := hideL (show w.heap.size + 2 ≤ gk from Nat.le_trans (Nat.succ_le_of_lt HR.out.lt) hge)
    clear hge hk hb HX HR HB HB0 LK HI
    go_wp2_with fail
    refine wp_region_held_drew (S := fun w' => TBox w' w.heap.size k t ∧ KBox w' gk p q (.func (.func 40) #[] #[]) g) (by kernel_rfl) ⟨HX2.out.drew, HK2.out.drew⟩ (fun hHeld => ?_)
    refine wpAnyH_take (i := 0) (oi := { dst := some 18, op := Op.load 51 (Operand.tmp 4), type := 51, pos := "match.go:58", after := #[], guard := none }) (v := ?_) rfl (by kernel_rfl) (by kernel_rfl) (by kernel_rfl) (fun _ _ _ h => h) (Or.inl ⟨by rfl, ?_⟩) hHeld ?_
    rotate_left
    · intro w hSw; (try dsimp only at hSw); have e0 := hSw.1.c0; have e1 := hSw.1.c1; have k0 := hSw.2.c0; have k1 := hSw.2.c1; have k2 := hSw.2.c2; have k3 := hSw.2.c3; go_simp; first | done | with_reducible rfl
    try simp only [Act.put, List.setIfInBounds_toArray, List.set_cons_zero, List.set_cons_succ]
    refine wpAnyH_take (i := 1) (oi := { dst := some 19, op := Op.fieldAddr 51 (Operand.tmp 4) 2, type := 0, pos := "match.go:58", after := #[], guard := none }) (v := ?_) rfl (by kernel_rfl) (by kernel_rfl) (by kernel_rfl) (fun _ _ _ h => h) (Or.inl ⟨by rfl, ?_⟩) hHeld ?_
    rotate_left
    · intro w hSw; (try dsimp only at hSw); have e0 := hSw.1.c0; have e1 := hSw.1.c1; have k0 := hSw.2.c0; have k1 := hSw.2.c1; have k2 := hSw.2.c2; have k3 := hSw.2.c3; go_simp; first | done | with_reducible rfl
    try simp only [Act.put, List.setIfInBounds_toArray, List.set_cons_zero, List.set_cons_succ]
    refine wpAnyH_take (i := 2) (oi := { dst := some 20, op := Op.load 48 (Operand.tmp 19), type := 48, pos := "match.go:58", after := #[{ on := 1, ground := Ground.data }], guard := none }) (v := ?_) rfl (by kernel_rfl) (by kernel_rfl) (by kernel_rfl) (fun _ _ _ h => h) (Or.inl ⟨by rfl, ?_⟩) hHeld ?_
    rotate_left
    · intro w hSw; (try dsimp only at hSw); have e0 := hSw.1.c0; have e1 := hSw.1.c1; have k0 := hSw.2.c0; have k1 := hSw.2.c1; have k2 := hSw.2.c2; have k3 := hSw.2.c3; go_simp; first | done | with_reducible rfl
    try simp only [Act.put, List.setIfInBounds_toArray, List.set_cons_zero, List.set_cons_succ]
    refine wpAnyH_take (i := 3) (oi := { dst := some 21, op := Op.fieldAddr 23 (Operand.tmp 1) 1, type := 0, pos := "match.go:58", after := #[], guard := none }) (v := ?_) rfl (by kernel_rfl) (by kernel_rfl) (by kernel_rfl) (fun _ _ _ h => h) (Or.inl ⟨by rfl, ?_⟩) hHeld ?_
    rotate_left
    · intro w hSw; (try dsimp only at hSw); have e0 := hSw.1.c0; have e1 := hSw.1.c1; have k0 := hSw.2.c0; have k1 := hSw.2.c1; have k2 := hSw.2.c2; have k3 := hSw.2.c3; go_simp; first | done | with_reducible rfl
    try simp only [Act.put, List.setIfInBounds_toArray, List.set_cons_zero, List.set_cons_succ]
    refine wpAnyH_take (i := 4) (oi := { dst := some 22, op := Op.load 9 (Operand.tmp 21), type := 9, pos := "match.go:58", after := #[{ on := 3, ground := Ground.data }], guard := none }) (v := ?_) rfl (by kernel_rfl) (by kernel_rfl) (by kernel_rfl) (fun _ _ _ h => h) (Or.inl ⟨by rfl, ?_⟩) hHeld ?_
    rotate_left
    · intro w hSw; (try dsimp only at hSw); have e0 := hSw.1.c0; have e1 := hSw.1.c1; have k0 := hSw.2.c0; have k1 := hSw.2.c1; have k2 := hSw.2.c2; have k3 := hSw.2.c3; go_simp; first | done | with_reducible rfl
    try simp only [Act.put, List.setIfInBounds_toArray, List.set_cons_zero, List.set_cons_succ]
    refine wpAnyH_ready (rs := [5]) (by kernel_rfl) (by simp) ?_
    refine AllReadyH.cons (o := { dst := some 23, op := Op.call { callee := Callee.value (Operand.tmp 20), args := #[Operand.tmp 22], argTypes := #[9] }, type := 4, pos := "match.go:58", after := #[{ on := 2, ground := Ground.data }, { on := 4, ground := Ground.data }], guard := none }) rfl (fun K hK => ?_) AllReadyH.nil
    clear hHeld
    go_simp
    refine (LM.out _).mono ?_
    rintro e V1 ⟨rfl, hB⟩
    have HBB := hideL ((Below.refl wc.heap.size wc).drew.trans hB)
    refine hK.out _ _ (⟨HX2.out.next HBB.out, HK2.out.next HBB.out⟩) (fun hHeld => ?_)
    clear hK K
    try simp only [Act.put, List.setIfInBounds_toArray, List.set_cons_zero, List.set_cons_succ]
    have HX3 := hideL (HX2.out.next HBB.out)
    have HK3 := hideL (HK2.out.next HBB.out)
    have HR3 := hideL (HR2.out.next HBB.out)
    have HB3 := hideL (HB2.out.trans (HBB.out.mono HB2.out.size))
    refine wpAnyH_ready (rs := [6]) (by kernel_rfl) (by simp) ?_
    refine AllReadyH.cons (o := { dst := none, op := Op.store 51 (Operand.tmp 2) (Operand.tmp 18), type := 0, pos := "match.go:58", after := #[{ on := 0, ground := Ground.data }, { on := 5, ground := Ground.chain }, { on := 0, ground := Ground.phase }, { on := 1, ground := Ground.textOnly Departure.lateStores }, { on := 2, ground := Ground.textOnly Departure.lateStores }, { on := 3, ground := Ground.textOnly Departure.lateStores }, { on := 4, ground := Ground.textOnly Departure.lateStores }, { on := 5, ground := Ground.textOnly Departure.lateStoresUnsure }], guard := none }) rfl (fun K hK => ?_) AllReadyH.nil
    clear hHeld
    rw [if_pos (by rfl)]
    refine wp_store_row _ _ _ rfl (w.heap.size + 1) (kc p q (.func (.func 40) #[] #[]) g) rfl rfl _ _ HR3.out (sizeK _ _ _ _) rfl (oneK _ _ rfl HG.out) ?_
    have HR4 := hideL (HR3.out.set p q (.func (.func 40) #[] #[]) g)
    have HX4 := hideL (HX3.out.row (n := w.heap.size + 1) (by omega) (kc p q (.func (.func 40) #[] #[]) g))
    have HK4 := hideL (HK3.out.row (m := w.heap.size + 1) (by have := HGK.out; omega) (kc p q (.func (.func 40) #[] #[]) g))
    have HB4 := hideL (below_setRow HB3.out (Nat.le_succ _) (kc p q (.func (.func 40) #[] #[]) g))
    refine hK.out _ _ (⟨HX4.out, HK4.out⟩) (fun hHeld => ?_)
    clear hK K
    try simp only [Act.put]
    refine wpAnyH_take (i := 7) (oi := { dst := some 3, op := Op.assign (Operand.tmp 23), type := 4, pos := "match.go:58", after := #[{ on := 5, ground := Ground.data }, { on := 6, ground := Ground.chain }, { on := 0, ground := Ground.phase }, { on := 1, ground := Ground.phase }, { on := 2, ground := Ground.phase }, { on := 3, ground := Ground.phase }, { on := 4, ground := Ground.phase }, { on := 5, ground := Ground.phase }, { on := 6, ground := Ground.phase }], guard := none }) (v := ?_) rfl (by kernel_rfl) (by kernel_rfl) (by kernel_rfl) (fun _ _ _ h => h) (Or.inl ⟨by rfl, ?_⟩) hHeld ?_
    rotate_left
    · intro w hSw; (try dsimp only at hSw); go_simp; first | done | with_reducible rfl
    try simp only [Act.put, List.setIfInBounds_toArray, List.set_cons_zero, List.set_cons_succ]
    refine wpAnyH_done (by kernel_rfl) ?_ _
    clear hHeld
    go_wp2_with fail
    have HR5 := HR4.out
    have HB5 := HB4.out
    generalize V1.setRow (w.heap.size + 1) (kc p q (.func (.func 40) #[] #[]) g) = VF at HR5 HB5 ⊢
    have r0 := HR5.c0
    have r1 := HR5.c1
    have r2 := HR5.c2
    have r3 := HR5.c3
    exact bodyPost_ret (v := .tuple #[.agg (kc p q (.func (.func 40) #[] #[]) g), .bool b]) (by simp [results, Try.results27, go_sem, r0, r1, r2, r3, kc]) rfl ⟨rfl, HB5⟩
theorem idx1 : Idx 1 ⟨#[]⟩ ⟨#[]⟩ (.func (.func 36) #[] #[]) (.func (.func 37) #[] #[]) := fun w => by kernel_rfl
theorem idx2 : Idx 2 ⟨#[]⟩ ⟨#[42]⟩ (.func (.func 36) #[] #[]) (.func (.func 38) #[] #[]) := fun w => by kernel_rfl
theorem idx3 : Idx 3 ⟨#[42]⟩ ⟨#[]⟩ (.func (.func 36) #[] #[]) (.func (.func 39) #[] #[]) := fun w => by kernel_rfl
theorem idx4 : Idx 4 ⟨#[42]⟩ ⟨#[]⟩ (.func (.func 40) #[] #[]) (.func (.func 41) #[] #[]) := fun w => by kernel_rfl
/-- What a kind has ahead, behind; how it tells, matches. -/
def aK (k : Int) : ByteArray := if k = 3 ∨ k = 4 then ⟨#[42]⟩ else ⟨#[]⟩
def bK (k : Int) : ByteArray := if k = 2 then ⟨#[42]⟩ else ⟨#[]⟩
def fK (k : Int) : Value := if k = 1 ∨ k = 2 ∨ k = 3 then .func (.func 36) #[] #[] else if k = 4 then .func (.func 40) #[] #[] else .nilFunc
def gK (k : Int) : Value := if k = 1 then .func (.func 37) #[] #[] else if k = 2 then .func (.func 38) #[] #[] else if k = 3 then .func (.func 39) #[] #[] else if k = 4 then .func (.func 41) #[] #[] else .nilFunc
set_option maxRecDepth 100000 in
theorem kindOf_out (k : Int) (t : ByteArray) (h : k < 1 ∨ (¬ k < 1 ∧ 4 < k)) (w : World) : Calls Try.prog 27 #[.agg #[.int .i64 k, .string t]] w (fun e w' => e = .returned (.tuple #[.agg (kc ⟨#[]⟩ ⟨#[]⟩ .nilFunc .nilFunc), .bool false]) ∧ Below w.heap.size w w') := by
  rcases h with h | ⟨h, h2⟩
  · go_enter Try.func27, Try.ntmps27
    go_wp2_with fail
    exact bodyPost_ret (v := .tuple #[.agg (kc ⟨#[]⟩ ⟨#[]⟩ .nilFunc .nilFunc), .bool false]) (by simp [results, Try.results27, go_sem, kc]) rfl ⟨rfl, ((Below.refl w.heap.size w).alloc (Nat.le_refl _) _).alloc (by simp) _⟩
  · go_enter Try.func27, Try.ntmps27
    go_wp2_with fail
    exact bodyPost_ret (v := .tuple #[.agg (kc ⟨#[]⟩ ⟨#[]⟩ .nilFunc .nilFunc), .bool false]) (by simp [results, Try.results27, go_sem, kc]) rfl ⟨rfl, ((Below.refl w.heap.size w).alloc (Nat.le_refl _) _).alloc (by simp) _⟩
theorem none_below (s : ByteArray) (w : World) : Calls Try.prog 40 #[.string s] w (fun e w' => e = .returned (.bool s.data.toList.isEmpty) ∧ Below w.heap.size w w') :=
  (isNothing_any s w).mono (by rintro e w' ⟨h, rfl⟩; exact ⟨h, Below.refl _ _⟩)
theorem kindOf_any (a : Tm) (ht : a.t.size ≤ 9223372036854775807) (w : World) : Calls Try.prog 27 #[.agg #[.int .i64 a.k, .string a.t]] w (fun e w' => e = .returned (.tuple #[.agg (kc (aK a.k) (bK a.k) (fK a.k) (gK a.k)), .bool (mayM a)]) ∧ Below w.heap.size w w') := by
  obtain ⟨k, t⟩ := a
  change t.size ≤ _ at ht
  dsimp only
  by_cases h1 : k < 1
  · have e : mayM ⟨k, t⟩ = false := by
      show mayK k t.data.toList = false
      unfold mayK
      rw [if_neg (by omega), decide_eq_false (by omega : ¬ 1 ≤ k), Bool.false_and, Bool.false_and]
    rw [e, show aK k = ⟨#[]⟩ from if_neg (by omega), show bK k = ⟨#[]⟩ from if_neg (by omega), show fK k = .nilFunc from (if_neg (by omega)).trans (if_neg (by omega)), show gK k = .nilFunc from (if_neg (by omega)).trans ((if_neg (by omega)).trans ((if_neg (by omega)).trans (if_neg (by omega))))]
    exact kindOf_out k t (.inl h1) w
  by_cases h4 : 4 < k
  · have e : mayM ⟨k, t⟩ = false := by
      show mayK k t.data.toList = false
      unfold mayK
      rw [if_neg (by omega), decide_eq_false (by omega : ¬ k ≤ 3), Bool.and_false, Bool.false_and]
    rw [e, show aK k = ⟨#[]⟩ from if_neg (by omega), show bK k = ⟨#[]⟩ from if_neg (by omega), show fK k = .nilFunc from (if_neg (by omega)).trans (if_neg (by omega)), show gK k = .nilFunc from (if_neg (by omega)).trans ((if_neg (by omega)).trans ((if_neg (by omega)).trans (if_neg (by omega))))]
    exact kindOf_out k t (.inr ⟨h1, h4⟩) w
  have hk : k = 1 ∨ k = 2 ∨ k = 3 ∨ k = 4 := by omega
  rcases hk with rfl | rfl | rfl | rfl
  · exact kindOf_text 1 t _ _ _ _ (by decide) (by decide) idx1 rfl (mayText_any t ht) w
  · exact kindOf_text 2 t _ _ _ _ (by decide) (by decide) idx2 rfl (mayText_any t ht) w
  · exact kindOf_text 3 t _ _ _ _ (by decide) (by decide) idx3 rfl (mayText_any t ht) w
  · exact kindOf_none 4 t _ _ _ _ (by decide) (by decide) idx4 rfl (none_below t) w
end Go.Proofs.Ytffbmkocmjpmeaa
