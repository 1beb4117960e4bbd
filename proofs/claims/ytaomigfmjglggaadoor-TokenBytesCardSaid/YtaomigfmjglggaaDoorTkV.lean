/- A ring's key of a number; a token, signed: the program's. Tokens, compared whole. Whether a token is signed: the program's. Verify and Fresh of token. -/
import Derived.Test.YtaomigfmjglggaaDoorTkSd
import Derived.Test.YtaomigfmjglggaaDoorMacR
import Derived.Test.YtaomigfmjglggaaDoorNmClone
import Derived.Test.YtaomigfmjglggaaDoorMacA
import Derived.Laws.StructEq
namespace Go.Proofs.YtaomigfmjglggaaDoor
open Go.RowKit

/-- A box that holds a ring. -/
def RBox (W : World) (g : Nat) (rv : Value) (o n : Nat) : Prop := W.heap[g]? = some (.cells (ringA rv o n) 25 (0, 0))
theorem RBox.lt {W : World} {g : Nat} {rv : Value} {o n : Nat} (h : RBox W g rv o n) : g < W.heap.size := (Array.getElem?_eq_some_iff.1 h).1
theorem RBox.new (w : World) (rv : Value) (o n : Nat) : RBox (w.alloc (.cells (ringA rv o n) 25)) w.heap.size rv o n := heap_alloc_new w _
theorem RBox.next {W W' : World} {g : Nat} {rv : Value} {o n : Nat} (h : RBox W g rv o n) (hb : Below W.heap.size W W') : RBox W' g rv o n := (hb.block g h.lt).trans h
theorem RBox.below {B : Nat} {W W' : World} {g : Nat} {rv : Value} {o n : Nat} (h : RBox W g rv o n) (hb : Below B W W') (hg : g < B) : RBox W' g rv o n := (hb.block g hg).trans h
theorem RBox.alloc {W : World} {g : Nat} {rv : Value} {o n : Nat} (h : RBox W g rv o n) (x : Obj) : RBox (W.alloc x) g rv o n := h.next ((Below.refl _ _).alloc (Nat.le_refl _) x)
theorem RBox.drew {W : World} {g : Nat} {rv : Value} {o n : Nat} (h : RBox W g rv o n) : RBox W.drew g rv o n := h
theorem RBox.c0 {W : World} {g : Nat} {rv : Value} {o n : Nat} (h : RBox W g rv o n) : W.cell? ⟨g, 0, none⟩ = some rv := (cell_of_row W g 0 _ _ _ h).trans rfl
theorem RBox.c1 {W : World} {g : Nat} {rv : Value} {o n : Nat} (h : RBox W g rv o n) : W.cell? ⟨g, 1, none⟩ = some (.int .u64 o) := (cell_of_row W g 1 _ _ _ h).trans rfl
theorem RBox.c2 {W : World} {g : Nat} {rv : Value} {o n : Nat} (h : RBox W g rv o n) : W.cell? ⟨g, 2, none⟩ = some (.int .u64 n) := (cell_of_row W g 2 _ _ _ h).trans rfl

def caB : ByteArray := ⟨#[99, 97]⟩
theorem parts_onlit {w : World} {t : TypeId} {s1 : Value} {x1 : List Int} (a1 : SlAt w s1 x1) : PartsAt (w.alloc (.cells #[s1] t)) w.heap.size 0 [x1] := by
  have hB : Below w.heap.size w (w.alloc (.cells #[s1] t)) := (Below.refl _ _).alloc (Nat.le_refl _) _
  refine ⟨by simp, fun i hi => ?_⟩
  obtain rfl : i = 0 := by simp at hi; omega
  exact ⟨s1, (cell_of_row _ _ 0 _ _ _ (heap_alloc_new w _)).trans rfl, a1.below hB⟩

set_option maxRecDepth 100000 in
set_option maxHeartbeats 400000 in
theorem keyOf_any (k : List Int) (rv : Value) (o n m : Nat) (w : World) (hn : m < 18446744073709551616) (hk : SlAt w rv k) (hl : k.length ≤ 64) :
    Calls Tryd.prog 49 #[.agg (ringA rv o n), .int .u64 m] w (fun e w' => ∃ g, e = .returned (.slice (some ⟨g, 0, none⟩) 32 32) ∧ SlAt w' (.slice (some ⟨g, 0, none⟩) 32 32) (derS k caB m) ∧ Below w.heap.size w w') := by
  have HB := hide ((Below.refl w.heap.size w).alloc (Nat.le_refl _) (.cells (ringA rv o n) 25))
  have HD := hide (derive_any k caB m rv _ hn (hk.below HB.out) (by omega) (by decide))
  have c0 := (RBox.new w rv o n).c0
  unfold ringA at HB HD c0 ⊢
  unfold caB at HD ⊢
  clear hk
  go_enter Tryd.func49, Tryd.ntmps49
  go_wp2_with fail
  refine HD.out.mono ?_
  rintro e w2 ⟨g, rfl, hs, hB2⟩
  have HS := hide hs
  have HB2 := hide (HB.out.trans (hB2.mono HB.out.size))
  clear hs hB2 c0 HD
  go_wp2_with fail
  go_ret
  exact ⟨_, rfl, HS.out, HB2.out⟩

/-- A token's mac, by a ring's root. -/
def sigS (k : List Int) (t : Tk) : List Int := macS (derS k caB t.key) (saidS t)
def signT (k : List Int) (t : Tk) : Tk := { t with mac := sigS k t }
theorem length_sigS (k : List Int) (t : Tk) : (sigS k t).length = 32 := length_macS _ _

set_option maxRecDepth 100000 in
set_option maxHeartbeats 1000000 in
theorem signed_any (k : List Int) (rv : Value) (o n : Nat) (t : Tk) (w : World) (hm : mayT t = true) (ho : t.ok) (ht : Tab w) (hk : SlAt w rv k) (hl : k.length ≤ 64) :
    Calls Tryd.prog 35 #[.agg (ringA rv o n), .agg (tkA t)] w (fun e w' => e = .returned (.agg (tkA (signT k t))) ∧ Below w.heap.size w w') := by
  have HT := hide ht
  have hw2 := ht.two
  have HM := hide hm
  have HO := hide ho
  have hmac := hide ho.mac
  have HB := hide ((((Below.refl w.heap.size w).alloc (Nat.le_refl _) (.cells (ringA rv o n) 25)).alloc (by simp) (.cells (tkA t) 31)).alloc (by simp; omega) (.cells (tkA tk0) 31))
  have HK := hide (hk.below HB.out)
  have HR := hide (((RBox.new w rv o n).alloc (.cells (tkA t) 31)).alloc (.cells (tkA tk0) 31))
  have hx1 := (TBox.new (w.alloc (.cells (ringA rv o n) 25)) t).alloc (.cells (tkA tk0) 31)
  have hx2 := TBox.new ((w.alloc (.cells (ringA rv o n) 25)).alloc (.cells (tkA t) 31)) tk0
  have e1 : (w.alloc (.cells (ringA rv o n) 25)).heap.size = w.heap.size + 1 := by simp
  have e2 : ((w.alloc (.cells (ringA rv o n) 25)).alloc (.cells (tkA t) 31)).heap.size = w.heap.size + 1 + 1 := by simp
  rw [e1] at hx1
  rw [e2] at hx2
  have HX := hide hx1
  have HZ := hide hx2
  have HL := hide (saidS_len hm)
  obtain ⟨R, hR⟩ : ∃ R, sigS k t = R := ⟨_, rfl⟩
  obtain ⟨T2, hT2⟩ : ∃ T2 : Tk, T2 = { t with mac := R } := ⟨_, rfl⟩
  have HG : ∀ _ : True, macS (derS k caB t.key) (saidS t) = R := fun _ => hR
  have HGL : Hid (R.length = 32) := hide (by rw [← hR]; exact length_sigS k t)
  have HT2L : Hid (T2.mac.length = 32) := hide (by rw [hT2]; exact HGL.out)
  have HT2 : ∀ _ : True, ({ t with mac := R } : Tk) = T2 := fun _ => hT2.symm
  rw [show signT k t = T2 from by rw [hT2, ← hR]; rfl]
  clear hR hT2
  have HD := hide (length_derS k caB t.key)
  have hkey := hide ho.key
  clear hx1 hx2 e1 e2 hm ho hk ht
  go_enter Tryd.func35, Tryd.ntmps35
  go_wp2_with (with_reducible refine wpList_alloc_row rfl 31 rfl (tkA tk0) zeroTk ?_)
  unfold ringA at *
  obtain ⟨W3, hW3⟩ : ∃ W3, W3 = ((w.alloc (.cells #[rv, .int .u64 o, .int .u64 n] 25)).alloc (.cells (tkA t) 31)).alloc (.cells (tkA tk0) 31) := ⟨_, rfl⟩
  have hz3 : w.heap.size + 1 + 1 + 1 = W3.heap.size := by rw [hW3]; simp
  rw [← hW3] at HB HK HR HX HZ ⊢
  clear hW3
  have HB3 := hide HB.out.drew
  have HK3 : Hid (SlAt W3.drew rv k) := HK
  have HR3 := hide HR.out.drew
  have HX3 := hide HX.out.drew
  have HZ3 := hide HZ.out.drew
  clear HB HK HR HX HZ
  generalize hQ : W3.heap.size = z3 at hz3
  refine wp_region_held_drew (S := fun w' => RBox w' w.heap.size rv o n ∧ ∃ m, TBox w' (w.heap.size + 1) { t with mac := m }) (by kernel_rfl) ⟨HR3.out, t.mac, HX3.out⟩ (fun hHeld => ?_)
  refine wpAnyH_take (i := 0) (oi := { dst := some 5, op := Op.load 25 (Operand.tmp 2), type := 25, pos := "token.go:63", after := #[], guard := none }) (v := ?_) rfl (by kernel_rfl) (by kernel_rfl) (by kernel_rfl) (fun _ _ _ h => h) (Or.inl ⟨by rfl, ?_⟩) hHeld ?_
  rotate_left
  · intro w hSw; (try dsimp only at hSw); have e0 := hSw.1.c0; have e1 := hSw.1.c1; have e2 := hSw.1.c2; go_simp; first | done | with_reducible rfl
  try simp only [Act.put, List.setIfInBounds_toArray, List.set_cons_zero, List.set_cons_succ]
  refine wpAnyH_take (i := 1) (oi := { dst := some 6, op := Op.fieldAddr 31 (Operand.tmp 3) 6, type := 0, pos := "token.go:63", after := #[], guard := none }) (v := ?_) rfl (by kernel_rfl) (by kernel_rfl) (by kernel_rfl) (fun _ _ _ h => h) (Or.inl ⟨by rfl, ?_⟩) hHeld ?_
  rotate_left
  · intro w hSw; (try dsimp only at hSw); go_simp; first | done | with_reducible rfl
  try simp only [Act.put, List.setIfInBounds_toArray, List.set_cons_zero, List.set_cons_succ]
  refine wpAnyH_take (i := 2) (oi := { dst := some 7, op := Op.load 23 (Operand.tmp 6), type := 23, pos := "token.go:63", after := #[{ on := 1, ground := Ground.data }], guard := none }) (v := ?_) rfl (by kernel_rfl) (by kernel_rfl) (by kernel_rfl) (fun _ _ _ h => h) (Or.inl ⟨by rfl, ?_⟩) hHeld ?_
  rotate_left
  · intro w hSw; (try dsimp only at hSw); obtain ⟨m, hSx⟩ := hSw.2; have e0 := hSx.c7; dsimp only at e0; go_simp; first | done | with_reducible rfl
  try simp only [Act.put, List.setIfInBounds_toArray, List.set_cons_zero, List.set_cons_succ]
  refine wpAnyH_ready (rs := [3, 4]) (by kernel_rfl) (by simp) ?_
  refine AllReadyH.cons (o := { dst := some 8, op := Op.call { callee := Callee.value (Operand.func 49), args := #[Operand.tmp 5, Operand.tmp 7], argTypes := #[25, 23] }, type := 22, pos := "token.go:63", after := #[{ on := 0, ground := Ground.data }, { on := 2, ground := Ground.data }], guard := none }) rfl (fun K hK => ?_) (AllReadyH.cons (o := { dst := some 9, op := Op.load 31 (Operand.tmp 3), type := 31, pos := "token.go:63", after := #[], guard := none }) rfl (fun K hK => ?_) AllReadyH.nil)
  · clear hHeld
    go_simp
    refine (keyOf_any k rv o n t.key _ hkey.out HK3.out hl).mono ?_
    rintro e W4 ⟨gk, rfl, hs, hB⟩
    have HB4 := hide (HB3.out.trans (hB.mono HB3.out.size))
    have HK4 := hide (HK3.out.below hB)
    have HR4 := hide (HR3.out.next hB)
    have HX4 := hide (HX3.out.next hB)
    have HZ4 := hide (HZ3.out.next hB)
    have HY4 := hide hs
    clear hs hB
    clear HB3 HK3 HR3 HX3 HZ3 
    refine hK.out _ _ (⟨HR4.out, t.mac, HX4.out⟩) (fun hHeld => ?_)
    clear hK K
    try simp only [Act.put, List.setIfInBounds_toArray, List.set_cons_zero, List.set_cons_succ]
    refine wpAnyH_ready (rs := [4]) (by kernel_rfl) (by simp) ?_
    refine AllReadyH.cons (o := { dst := some 9, op := Op.load 31 (Operand.tmp 3), type := 31, pos := "token.go:63", after := #[], guard := none }) rfl (fun K hK => ?_) AllReadyH.nil
    clear hHeld
    rw [if_pos (by rfl)]
    refine wp_load_mid _ _ rfl (w.heap.size + 1) 0 rfl (tkC t) _ HX4.out.range Tryd.underlying31 rfl (by rw [tkC_len hmac.out]; exact sizeTk) ?_
    rw [show (tkC t).toArray = tkA t from rfl]
    refine hK.out _ _ (⟨HR4.out, t.mac, HX4.out⟩) (fun hHeld => ?_)
    clear hK K
    try simp only [Act.put, List.setIfInBounds_toArray, List.set_cons_zero, List.set_cons_succ]
    refine wpAnyH_ready (rs := [5]) (by kernel_rfl) (by simp) ?_
    refine AllReadyH.cons (o := { dst := some 10, op := Op.call { callee := Callee.value (Operand.func 38), args := #[Operand.tmp 9], argTypes := #[31] }, type := 22, pos := "token.go:63", after := #[{ on := 4, ground := Ground.data }, { on := 3, ground := Ground.chain }], guard := none }) rfl (fun K hK => ?_) AllReadyH.nil
    clear hHeld
    go_simp
    refine (said_any t HM.out _ (HT.out.below HB4.out hw2)).mono ?_
    rintro e W5 ⟨sv, rfl, hs, hB⟩
    obtain ⟨sao, scap, hv⟩ := hs.slAt.len
    obtain ⟨q, hq⟩ : ∃ q, q = (saidS t).length := ⟨_, rfl⟩
    rw [← hq] at hv
    subst hv
    clear hq
    have HB5 := hide (HB4.out.trans (hB.mono HB4.out.size))
    have HK5 := hide (HK4.out.below hB)
    have HR5 := hide (HR4.out.next hB)
    have HX5 := hide (HX4.out.next hB)
    have HZ5 := hide (HZ4.out.next hB)
    have HY5 := hide (HY4.out.below hB)
    have HS5 := hide hs.slAt
    clear hs hB
    clear HB4 HK4 HR4 HX4 HZ4 HY4
    refine hK.out _ _ (⟨HR5.out, t.mac, HX5.out⟩) (fun hHeld => ?_)
    clear hK K
    try simp only [Act.put, List.setIfInBounds_toArray, List.set_cons_zero, List.set_cons_succ]
    refine wpAnyH_ready (rs := [6]) (by kernel_rfl) (by simp) ?_
    refine AllReadyH.cons (o := { dst := some 11, op := Op.buildSlice 98 1 #[(0, Operand.tmp 10)], type := 98, pos := "token.go:63", after := #[{ on := 5, ground := Ground.data }], guard := none }) rfl (fun K hK => ?_) AllReadyH.nil
    clear hHeld
    go_simp
    have HP6 := hide (parts_onlit (t := 22) HS5.out)
    have hB := (Below.refl W5.heap.size W5).alloc (Nat.le_refl _) (.cells #[.slice sao q scap] 22)
    have HB6 := hide (HB5.out.trans (hB.mono HB5.out.size))
    have HK6 := hide (HK5.out.below hB)
    have HR6 := hide (HR5.out.next hB)
    have HX6 := hide (HX5.out.next hB)
    have HZ6 := hide (HZ5.out.next hB)
    have HY6 := hide (HY5.out.below hB)
    have HS6 := hide (HS5.out.below hB)
    clear hB
    clear HB5 HK5 HR5 HX5 HZ5 HY5 HS5
    refine hK.out _ _ (⟨HR6.out, t.mac, HX6.out⟩) (fun hHeld => ?_)
    clear hK K
    try simp only [Act.put, List.setIfInBounds_toArray, List.set_cons_zero, List.set_cons_succ]
    refine wpAnyH_ready (rs := [7]) (by kernel_rfl) (by simp) ?_
    refine AllReadyH.cons (o := { dst := some 12, op := Op.call { callee := Callee.value (Operand.func 48), args := #[Operand.tmp 8, Operand.tmp 11], argTypes := #[22, 98] }, type := 29, pos := "token.go:63", after := #[{ on := 3, ground := Ground.data }, { on := 6, ground := Ground.data }, { on := 5, ground := Ground.chain }], guard := none }) rfl (fun K hK => ?_) AllReadyH.nil
    clear hHeld
    go_simp
    refine (macOf_any (derS k caB t.key) (.slice (some ⟨gk, 0, none⟩) 32 32) [saidS t] W5.heap.size 0 1 _ HY6.out (by rw [HD.out]; omega) HP6.out (by simp) (by simp) (by have := HL.out; simp; omega)).mono ?_
    rw [show [saidS t].flatten = saidS t from by simp, HG trivial]
    clear HG
    rintro e W7 ⟨rfl, hB⟩
    have HB7 := hide (HB6.out.trans (hB.mono HB6.out.size))
    have HK7 := hide (HK6.out.below hB)
    have HR7 := hide (HR6.out.next hB)
    have HX7 := hide (HX6.out.next hB)
    have HZ7 := hide (HZ6.out.next hB)
    clear hB HP6
    clear HB6 HK6 HR6 HX6 HZ6 HY6 HS6
    refine hK.out _ _ (⟨HR7.out, t.mac, HX7.out⟩) (fun hHeld => ?_)
    clear hK K
    try simp only [Act.put, List.setIfInBounds_toArray, List.set_cons_zero, List.set_cons_succ]
    refine wpAnyH_take (i := 8) (oi := { dst := some 13, op := Op.fieldAddr 31 (Operand.tmp 3) 7, type := 0, pos := "token.go:63", after := #[{ on := 0, ground := Ground.phase }, { on := 1, ground := Ground.phase }, { on := 2, ground := Ground.phase }, { on := 3, ground := Ground.phase }, { on := 4, ground := Ground.phase }, { on := 5, ground := Ground.phase }, { on := 6, ground := Ground.phase }, { on := 7, ground := Ground.phase }], guard := none }) (v := ?_) rfl (by kernel_rfl) (by kernel_rfl) (by kernel_rfl) (fun _ _ _ h => h) (Or.inl ⟨by rfl, ?_⟩) hHeld ?_
    rotate_left
    · intro w hSw; (try dsimp only at hSw); go_simp; first | done | with_reducible rfl
    try simp only [Act.put, List.setIfInBounds_toArray, List.set_cons_zero, List.set_cons_succ]
    refine wpAnyH_ready (rs := [9]) (by kernel_rfl) (by simp) ?_
    refine AllReadyH.cons (o := { dst := none, op := Op.store 29 (Operand.tmp 13) (Operand.tmp 12), type := 0, pos := "token.go:63", after := #[{ on := 8, ground := Ground.data }, { on := 7, ground := Ground.data }, { on := 7, ground := Ground.chain }, { on := 0, ground := Ground.phase }, { on := 1, ground := Ground.phase }, { on := 2, ground := Ground.phase }, { on := 3, ground := Ground.phase }, { on := 4, ground := Ground.phase }, { on := 5, ground := Ground.phase }, { on := 6, ground := Ground.phase }, { on := 7, ground := Ground.phase }], guard := none }) rfl (fun K hK => ?_) AllReadyH.nil
    clear hHeld
    rw [if_pos (by rfl)]
    refine wp_store_mid _ _ _ rfl (w.heap.size + 1) 8 (cellsOf .u8 R) rfl rfl (HX7.out.there hmac.out 8 _ (by rw [size_cellsOf, HGL.out]; omega)) (sz36 _ HGL.out) (oneCell_cellsOf _ _) ?_
    rw [toArray_cellsOf]
    have HX8 := hide (HX7.out.setMac hmac.out R HGL.out)
    have HZ8 : Hid (TBox (W7.setCells (w.heap.size + 1) 8 (R.map (.int .u8))) (w.heap.size + 1 + 1) tk0) := hide ((setCells_other _ (by omega)).trans HZ7.out)
    have HR8 : Hid (RBox (W7.setCells (w.heap.size + 1) 8 (R.map (.int .u8))) w.heap.size rv o n) := hide ((setCells_other _ (by omega)).trans HR7.out)
    have HB8 := hide (below_setCells HB7.out (g := w.heap.size + 1) (o := 8) (by omega) (R.map (.int .u8)))
    clear HB7 HK7 HR7 HX7 HZ7
    refine hK.out _ _ (⟨HR8.out, R, HX8.out⟩) (fun hHeld => ?_)
    clear hK K
    try simp only [Act.put]
    refine wpAnyH_done (by kernel_rfl) ?_ _
    rw [HT2 trivial] at HX8
    clear HT2 hHeld hQ hz3 HM HO
    generalize W7.setCells (w.heap.size + 1) 8 (List.map (Value.int IntKind.u8) R) = W9 at HX8 HZ8 HR8 HB8 ⊢
    clear HR8
    go_wp2_with (first | (with_reducible refine wpList_load_row rfl 31 (.tmp 3) rfl (w.heap.size + 1) rfl _ _ (0, 0) _ HX8.out.heap Tryd.underlying31 rfl (szTk _ HT2L.out) ?_) | (with_reducible refine wpList_store_row rfl 31 (.tmp 4) (.tmp 14) rfl (w.heap.size + 1 + 1) (tkA (T2)) rfl rfl _ _ HZ8.out.heap (szTk _ HT2L.out) (tkA_same tk0_len HT2L.out) (tkA_one _) ?_))
    refine bodyPost_ret (v := .agg (tkA (T2))) (results_cell_row rfl _ _ (w.heap.size + 1 + 1) _ _ (0, 0) _ rfl (TBox.row HZ8.out).heap Tryd.underlying31 rfl (szTk _ HT2L.out)) rfl ?_
    exact ⟨rfl, below_setRow HB8.out (by omega) _⟩
  · clear hHeld
    rw [if_pos (by rfl)]
    refine wp_load_mid _ _ rfl (w.heap.size + 1) 0 rfl (tkC t) _ HX3.out.range Tryd.underlying31 rfl (by rw [tkC_len hmac.out]; exact sizeTk) ?_
    rw [show (tkC t).toArray = tkA t from rfl]
    refine hK.out _ _ (⟨HR3.out, t.mac, HX3.out⟩) (fun hHeld => ?_)
    clear hK K
    try simp only [Act.put, List.setIfInBounds_toArray, List.set_cons_zero, List.set_cons_succ]
    refine wpAnyH_ready (rs := [3]) (by kernel_rfl) (by simp) ?_
    refine AllReadyH.cons (o := { dst := some 8, op := Op.call { callee := Callee.value (Operand.func 49), args := #[Operand.tmp 5, Operand.tmp 7], argTypes := #[25, 23] }, type := 22, pos := "token.go:63", after := #[{ on := 0, ground := Ground.data }, { on := 2, ground := Ground.data }], guard := none }) rfl (fun K hK => ?_) AllReadyH.nil
    clear hHeld
    go_simp
    refine (keyOf_any k rv o n t.key _ hkey.out HK3.out hl).mono ?_
    rintro e W4 ⟨gk, rfl, hs, hB⟩
    have HB4 := hide (HB3.out.trans (hB.mono HB3.out.size))
    have HK4 := hide (HK3.out.below hB)
    have HR4 := hide (HR3.out.next hB)
    have HX4 := hide (HX3.out.next hB)
    have HZ4 := hide (HZ3.out.next hB)
    have HY4 := hide hs
    clear hs hB
    clear HB3 HK3 HR3 HX3 HZ3 
    refine hK.out _ _ (⟨HR4.out, t.mac, HX4.out⟩) (fun hHeld => ?_)
    clear hK K
    try simp only [Act.put, List.setIfInBounds_toArray, List.set_cons_zero, List.set_cons_succ]
    refine wpAnyH_ready (rs := [5]) (by kernel_rfl) (by simp) ?_
    refine AllReadyH.cons (o := { dst := some 10, op := Op.call { callee := Callee.value (Operand.func 38), args := #[Operand.tmp 9], argTypes := #[31] }, type := 22, pos := "token.go:63", after := #[{ on := 4, ground := Ground.data }, { on := 3, ground := Ground.chain }], guard := none }) rfl (fun K hK => ?_) AllReadyH.nil
    clear hHeld
    go_simp
    refine (said_any t HM.out _ (HT.out.below HB4.out hw2)).mono ?_
    rintro e W5 ⟨sv, rfl, hs, hB⟩
    obtain ⟨sao, scap, hv⟩ := hs.slAt.len
    obtain ⟨q, hq⟩ : ∃ q, q = (saidS t).length := ⟨_, rfl⟩
    rw [← hq] at hv
    subst hv
    clear hq
    have HB5 := hide (HB4.out.trans (hB.mono HB4.out.size))
    have HK5 := hide (HK4.out.below hB)
    have HR5 := hide (HR4.out.next hB)
    have HX5 := hide (HX4.out.next hB)
    have HZ5 := hide (HZ4.out.next hB)
    have HY5 := hide (HY4.out.below hB)
    have HS5 := hide hs.slAt
    clear hs hB
    clear HB4 HK4 HR4 HX4 HZ4 HY4
    refine hK.out _ _ (⟨HR5.out, t.mac, HX5.out⟩) (fun hHeld => ?_)
    clear hK K
    try simp only [Act.put, List.setIfInBounds_toArray, List.set_cons_zero, List.set_cons_succ]
    refine wpAnyH_ready (rs := [6]) (by kernel_rfl) (by simp) ?_
    refine AllReadyH.cons (o := { dst := some 11, op := Op.buildSlice 98 1 #[(0, Operand.tmp 10)], type := 98, pos := "token.go:63", after := #[{ on := 5, ground := Ground.data }], guard := none }) rfl (fun K hK => ?_) AllReadyH.nil
    clear hHeld
    go_simp
    have HP6 := hide (parts_onlit (t := 22) HS5.out)
    have hB := (Below.refl W5.heap.size W5).alloc (Nat.le_refl _) (.cells #[.slice sao q scap] 22)
    have HB6 := hide (HB5.out.trans (hB.mono HB5.out.size))
    have HK6 := hide (HK5.out.below hB)
    have HR6 := hide (HR5.out.next hB)
    have HX6 := hide (HX5.out.next hB)
    have HZ6 := hide (HZ5.out.next hB)
    have HY6 := hide (HY5.out.below hB)
    have HS6 := hide (HS5.out.below hB)
    clear hB
    clear HB5 HK5 HR5 HX5 HZ5 HY5 HS5
    refine hK.out _ _ (⟨HR6.out, t.mac, HX6.out⟩) (fun hHeld => ?_)
    clear hK K
    try simp only [Act.put, List.setIfInBounds_toArray, List.set_cons_zero, List.set_cons_succ]
    refine wpAnyH_ready (rs := [7]) (by kernel_rfl) (by simp) ?_
    refine AllReadyH.cons (o := { dst := some 12, op := Op.call { callee := Callee.value (Operand.func 48), args := #[Operand.tmp 8, Operand.tmp 11], argTypes := #[22, 98] }, type := 29, pos := "token.go:63", after := #[{ on := 3, ground := Ground.data }, { on := 6, ground := Ground.data }, { on := 5, ground := Ground.chain }], guard := none }) rfl (fun K hK => ?_) AllReadyH.nil
    clear hHeld
    go_simp
    refine (macOf_any (derS k caB t.key) (.slice (some ⟨gk, 0, none⟩) 32 32) [saidS t] W5.heap.size 0 1 _ HY6.out (by rw [HD.out]; omega) HP6.out (by simp) (by simp) (by have := HL.out; simp; omega)).mono ?_
    rw [show [saidS t].flatten = saidS t from by simp, HG trivial]
    clear HG
    rintro e W7 ⟨rfl, hB⟩
    have HB7 := hide (HB6.out.trans (hB.mono HB6.out.size))
    have HK7 := hide (HK6.out.below hB)
    have HR7 := hide (HR6.out.next hB)
    have HX7 := hide (HX6.out.next hB)
    have HZ7 := hide (HZ6.out.next hB)
    clear hB HP6
    clear HB6 HK6 HR6 HX6 HZ6 HY6 HS6
    refine hK.out _ _ (⟨HR7.out, t.mac, HX7.out⟩) (fun hHeld => ?_)
    clear hK K
    try simp only [Act.put, List.setIfInBounds_toArray, List.set_cons_zero, List.set_cons_succ]
    refine wpAnyH_take (i := 8) (oi := { dst := some 13, op := Op.fieldAddr 31 (Operand.tmp 3) 7, type := 0, pos := "token.go:63", after := #[{ on := 0, ground := Ground.phase }, { on := 1, ground := Ground.phase }, { on := 2, ground := Ground.phase }, { on := 3, ground := Ground.phase }, { on := 4, ground := Ground.phase }, { on := 5, ground := Ground.phase }, { on := 6, ground := Ground.phase }, { on := 7, ground := Ground.phase }], guard := none }) (v := ?_) rfl (by kernel_rfl) (by kernel_rfl) (by kernel_rfl) (fun _ _ _ h => h) (Or.inl ⟨by rfl, ?_⟩) hHeld ?_
    rotate_left
    · intro w hSw; (try dsimp only at hSw); go_simp; first | done | with_reducible rfl
    try simp only [Act.put, List.setIfInBounds_toArray, List.set_cons_zero, List.set_cons_succ]
    refine wpAnyH_ready (rs := [9]) (by kernel_rfl) (by simp) ?_
    refine AllReadyH.cons (o := { dst := none, op := Op.store 29 (Operand.tmp 13) (Operand.tmp 12), type := 0, pos := "token.go:63", after := #[{ on := 8, ground := Ground.data }, { on := 7, ground := Ground.data }, { on := 7, ground := Ground.chain }, { on := 0, ground := Ground.phase }, { on := 1, ground := Ground.phase }, { on := 2, ground := Ground.phase }, { on := 3, ground := Ground.phase }, { on := 4, ground := Ground.phase }, { on := 5, ground := Ground.phase }, { on := 6, ground := Ground.phase }, { on := 7, ground := Ground.phase }], guard := none }) rfl (fun K hK => ?_) AllReadyH.nil
    clear hHeld
    rw [if_pos (by rfl)]
    refine wp_store_mid _ _ _ rfl (w.heap.size + 1) 8 (cellsOf .u8 R) rfl rfl (HX7.out.there hmac.out 8 _ (by rw [size_cellsOf, HGL.out]; omega)) (sz36 _ HGL.out) (oneCell_cellsOf _ _) ?_
    rw [toArray_cellsOf]
    have HX8 := hide (HX7.out.setMac hmac.out R HGL.out)
    have HZ8 : Hid (TBox (W7.setCells (w.heap.size + 1) 8 (R.map (.int .u8))) (w.heap.size + 1 + 1) tk0) := hide ((setCells_other _ (by omega)).trans HZ7.out)
    have HR8 : Hid (RBox (W7.setCells (w.heap.size + 1) 8 (R.map (.int .u8))) w.heap.size rv o n) := hide ((setCells_other _ (by omega)).trans HR7.out)
    have HB8 := hide (below_setCells HB7.out (g := w.heap.size + 1) (o := 8) (by omega) (R.map (.int .u8)))
    clear HB7 HK7 HR7 HX7 HZ7
    refine hK.out _ _ (⟨HR8.out, R, HX8.out⟩) (fun hHeld => ?_)
    clear hK K
    try simp only [Act.put]
    refine wpAnyH_done (by kernel_rfl) ?_ _
    rw [HT2 trivial] at HX8
    clear HT2 hHeld hQ hz3 HM HO
    generalize W7.setCells (w.heap.size + 1) 8 (List.map (Value.int IntKind.u8) R) = W9 at HX8 HZ8 HR8 HB8 ⊢
    clear HR8
    go_wp2_with (first | (with_reducible refine wpList_load_row rfl 31 (.tmp 3) rfl (w.heap.size + 1) rfl _ _ (0, 0) _ HX8.out.heap Tryd.underlying31 rfl (szTk _ HT2L.out) ?_) | (with_reducible refine wpList_store_row rfl 31 (.tmp 4) (.tmp 14) rfl (w.heap.size + 1 + 1) (tkA (T2)) rfl rfl _ _ HZ8.out.heap (szTk _ HT2L.out) (tkA_same tk0_len HT2L.out) (tkA_one _) ?_))
    refine bodyPost_ret (v := .agg (tkA (T2))) (results_cell_row rfl _ _ (w.heap.size + 1 + 1) _ _ (0, 0) _ rfl (TBox.row HZ8.out).heap Tryd.underlying31 rfl (szTk _ HT2L.out)) rfl ?_
    exact ⟨rfl, below_setRow HB8.out (by omega) _⟩
end Go.Proofs.YtaomigfmjglggaaDoor
namespace Go.Proofs.YtaomigfmjglggaaDoor
open Go.RowKit

theorem eqF_cons {P : Program} {d : Nat} {xs ys : Array Value} {f : Field} {fs : List Field} {w : World} {a b : Value} {r : Bool} (hn : f.name ≠ "_") (ha : (Go.part f.type xs f.offset).run P w = .ok a w) (hb : (Go.part f.type ys f.offset).run P w = .ok b w)
    (hr : (Op.equalIn d f.type a b).run P w = .ok r w) {s : Bool} (hs : (Op.eqFields d xs ys fs).run P w = .ok s w) : (Op.eqFields d xs ys (f :: fs)).run P w = .ok (r && s) w := by
  rw [Op.eqFields, if_pos hn]
  simp only [Sem.run_bind, ha, hb, hr, Result.andThen_ok]
  cases r
  · simp
  · simpa using hs
theorem eqF_nil {P : Program} (d : Nat) (xs ys : Array Value) (w : World) : (Op.eqFields d xs ys []).run P w = .ok true w := by simp [Op.eqFields]
/-- Whether two tokens are the same. -/
def eqT (a b : Tk) : Bool := ((a.ns.toList == b.ns.toList) && ((a.sa.toList == b.sa.toList) && true)) && (((a.uid : Int) == (b.uid : Int)) && ((a.host == b.host) && (((a.addr : Int) == (b.addr : Int)) && (((a.born : Int) == (b.born : Int)) && (((a.til : Int) == (b.til : Int)) && (((a.key : Int) == (b.key : Int)) && ((a.mac == b.mac) && true)))))))
theorem eqT_self (a : Tk) : eqT a a = true := by simp [eqT]
theorem bytes_eq_of {s t : ByteArray} (h : s.toList = t.toList) : s = t := bytes_ext (by rw [ByteArray.toList_eq, ByteArray.toList_eq] at h; exact h)
theorem eqT_iff (a b : Tk) : eqT a b = true ↔ a = b := by
  constructor
  · intro h
    simp only [eqT, Bool.and_eq_true, beq_iff_eq, and_true] at h
    obtain ⟨⟨h1, h2⟩, h3, h4, h5, h6, h7, h8, h9⟩ := h
    obtain ⟨ns, sa, uid, host, addr, born, til, key, mac⟩ := a
    obtain ⟨ns', sa', uid', host', addr', born', til', key', mac'⟩ := b
    dsimp only at *
    rw [bytes_eq_of h1, bytes_eq_of h2, Int.ofNat.inj h3, h4, Int.ofNat.inj h5, Int.ofNat.inj h6, Int.ofNat.inj h7, Int.ofNat.inj h8, h9]
  · rintro rfl
    exact eqT_self a
theorem part_tk0 (a : Tk) (w : World) : (Go.part 27 (tkA a) 0).run Tryd.prog w = .ok (.agg #[.string a.ns, .string a.sa]) w := by kernel_rfl
theorem part_tk2 (a : Tk) (w : World) : (Go.part 23 (tkA a) 2).run Tryd.prog w = .ok (.int .u64 a.uid) w := by kernel_rfl
theorem part_tk3 (a : Tk) (w : World) : (Go.part 3 (tkA a) 3).run Tryd.prog w = .ok (.int .i64 a.host) w := by kernel_rfl
theorem part_tk4 (a : Tk) (w : World) : (Go.part 28 (tkA a) 4).run Tryd.prog w = .ok (.int .u32 a.addr) w := by kernel_rfl
theorem part_tk5 (a : Tk) (w : World) : (Go.part 23 (tkA a) 5).run Tryd.prog w = .ok (.int .u64 a.born) w := by kernel_rfl
theorem part_tk6 (a : Tk) (w : World) : (Go.part 23 (tkA a) 6).run Tryd.prog w = .ok (.int .u64 a.til) w := by kernel_rfl
theorem part_tk7 (a : Tk) (w : World) : (Go.part 23 (tkA a) 7).run Tryd.prog w = .ok (.int .u64 a.key) w := by kernel_rfl
theorem part_tk8 (a : Tk) (h : a.mac.length = 32) (w : World) : (Go.part 29 (tkA a) 8).run Tryd.prog w = .ok (.agg (cellsOf .u8 a.mac)) w := by
  have h1 : (isAgg 29).run Tryd.prog w = .ok true w := by kernel_rfl
  have h2 : (sizeOf 29).run Tryd.prog w = .ok 32 w := by kernel_rfl
  have h3 : (tkA a).extract 8 40 = cellsOf .u8 a.mac := by
    apply Array.ext'
    rw [toArray_cellsOf]
    simp [tkA, tkC]
    rw [List.take_of_length_le (by simp [h])]
  rw [Go.part, Sem.run_bind, h1]
  simp [h3]
set_option maxRecDepth 100000 in
theorem run_eqNm (a b : Tk) (w : World) : (Op.equalIn 9999 27 (.agg #[.string a.ns, .string a.sa]) (.agg #[.string b.ns, .string b.sa])).run Tryd.prog w = .ok ((a.ns.toList == b.ns.toList) && ((a.sa.toList == b.sa.toList) && true)) w := by
  rw [run_equalIn_struct w 9998 27 _ _ (by kernel_rfl) (by kernel_rfl)]
  rw [Program.fieldsOf, Tryd.underlying27]
  exact eqF_cons (by decide) (by kernel_rfl) (by kernel_rfl) (run_equalIn_string w 9997 _ _ _ Tryd.underlying9) (eqF_cons (by decide) (by kernel_rfl) (by kernel_rfl) (run_equalIn_string w 9997 _ _ _ Tryd.underlying9) (eqF_nil _ _ _ w))
theorem run_eqMac (a b : Tk) (ha : a.mac.length = 32) (hb : b.mac.length = 32) (w : World) : (Op.equalIn 9999 29 (.agg (cellsOf .u8 a.mac)) (.agg (cellsOf .u8 b.mac))).run Tryd.prog w = .ok (a.mac == b.mac) w :=
  run_equalIn_cells (P := Tryd.prog) 9997 29 5 32 .u8 Tryd.underlying29 Tryd.underlying5 (by kernel_rfl) _ _ ha hb w
theorem fieldsTk : (Tryd.prog.fieldsOf 31).toList = [⟨"Name", 27, 0, false, "", "", 0⟩, ⟨"Uid", 23, 2, false, "", "", 32⟩, ⟨"Host", 3, 3, false, "", "", 40⟩, ⟨"Addr", 28, 4, false, "", "", 48⟩,
    ⟨"Born", 23, 5, false, "", "", 56⟩, ⟨"Until", 23, 6, false, "", "", 64⟩, ⟨"Key", 23, 7, false, "", "", 72⟩, ⟨"Mac", 29, 8, false, "", "", 80⟩] := by rw [Program.fieldsOf, Tryd.underlying31]
set_option maxRecDepth 100000 in
set_option maxHeartbeats 1000000 in
theorem run_eqTk (a b : Tk) (ha : a.mac.length = 32) (hb : b.mac.length = 32) (w : World) : (Op.equalIn 10000 31 (.agg (tkA a)) (.agg (tkA b))).run Tryd.prog w = .ok (eqT a b) w := by
  rw [run_equalIn_struct w 9999 31 _ _ (by kernel_rfl) (by kernel_rfl)]
  rw [fieldsTk]
  unfold eqT
  refine eqF_cons (by decide) (part_tk0 a w) (part_tk0 b w) (run_eqNm a b w) ?_
  refine eqF_cons (by decide) (part_tk2 a w) (part_tk2 b w) (run_equalIn_int w 9998 _ _ _ _ _ Tryd.underlying23) ?_
  refine eqF_cons (by decide) (part_tk3 a w) (part_tk3 b w) (run_equalIn_int w 9998 _ _ _ _ _ Tryd.underlying3) ?_
  refine eqF_cons (by decide) (part_tk4 a w) (part_tk4 b w) (run_equalIn_int w 9998 _ _ _ _ _ Tryd.underlying28) ?_
  refine eqF_cons (by decide) (part_tk5 a w) (part_tk5 b w) (run_equalIn_int w 9998 _ _ _ _ _ Tryd.underlying23) ?_
  refine eqF_cons (by decide) (part_tk6 a w) (part_tk6 b w) (run_equalIn_int w 9998 _ _ _ _ _ Tryd.underlying23) ?_
  refine eqF_cons (by decide) (part_tk7 a w) (part_tk7 b w) (run_equalIn_int w 9998 _ _ _ _ _ Tryd.underlying23) ?_
  have h8 := part_tk8 a ha w
  have h9 := part_tk8 b hb w
  have h10 := run_eqMac a b ha hb w
  generalize cellsOf .u8 a.mac = A at *
  generalize cellsOf .u8 b.mac = B at *
  generalize (a.mac == b.mac) = r at *
  generalize tkA a = C at *
  generalize tkA b = D at *
  exact eqF_cons (by decide) h8 h9 h10 (eqF_nil _ _ _ w)
theorem neq_tk (op : BinOp) (a b : Tk) (w : World) : (eqGuard op 31 (.tmp 0) (.tmp 0) (.agg (tkA a)) (.agg (tkA b))).run Tryd.prog w = .ok () w := run_eqGuard_agg (P := Tryd.prog) w op 31 _ _ _ _ (by kernel_rfl)
end Go.Proofs.YtaomigfmjglggaaDoor
namespace Go.Proofs.YtaomigfmjglggaaDoor
open Go.RowKit

def okS (k : List Int) (t : Tk) : Bool := sigS k t == t.mac
theorem sigS_range (k : List Int) (t : Tk) : ∀ x ∈ sigS k t, 0 ≤ x ∧ x < 256 := by
  intro x hx
  rw [sigS, macS] at hx
  exact sumS_range _ x hx
theorem diff_ok (k : List Int) (t : Tk) (h : t.ok) : (diffTo (sigS k t) t.mac 32 == 0) = okS k t :=
  diffTo_all _ _ (length_sigS k t) h.mac (fun i _ => nth_range (sigS_range k t) i) (fun i _ => nth_range h.byte i)
theorem signT_mac (k : List Int) (t : Tk) : (signT k t).mac = sigS k t := by
  unfold signT
  generalize sigS k t = R
  rfl
theorem signT_of {k : List Int} {t : Tk} (h : okS k t = true) : signT k t = t := by
  rw [okS, beq_iff_eq] at h
  rw [signT, h]

set_option maxRecDepth 100000 in
set_option maxHeartbeats 600000 in
theorem isSigned_any (k : List Int) (rv : Value) (o n : Nat) (t : Tk) (w : World) (hm : mayT t = true) (ho : t.ok) (ht : Tab w) (hk : SlAt w rv k) (hl : k.length ≤ 64) :
    Calls Tryd.prog 37 #[.agg (ringA rv o n), .agg (tkA t)] w (fun e w' => e = .returned (.bool (okS k t)) ∧ Below w.heap.size w w') := by
  have HB := hide (((Below.refl w.heap.size w).alloc (Nat.le_refl _) (.cells (ringA rv o n) 25)).alloc (by simp) (.cells (tkA t) 31))
  have HC := hide (signed_any k rv o n t _ hm ho (ht.below HB.out ht.two) (hk.below HB.out) hl)
  have HR := hide ((RBox.new w rv o n).alloc (.cells (tkA t) 31))
  have hx1 := TBox.new (w.alloc (.cells (ringA rv o n) 25)) t
  have e1 : (w.alloc (.cells (ringA rv o n) 25)).heap.size = w.heap.size + 1 := by simp
  rw [e1] at hx1
  have HX := hide hx1
  have hmac := hide ho.mac
  have HD := diff_ok k t ho
  have HS := hide (fun h : okS k t = true => signT_of h)
  obtain ⟨T2, hT2⟩ : ∃ T2, signT k t = T2 := ⟨_, rfl⟩
  have hm2 : T2.mac = sigS k t := hT2 ▸ signT_mac k t
  have HL2 : Hid (T2.mac.length = 32) := hide (by rw [hm2]; exact length_sigS k t)
  have HD2 : Hid ((diffTo T2.mac t.mac 32 == 0) = okS k t) := hide (by rw [hm2]; exact HD)
  rw [hT2] at HC HS
  have hQ := hide ((equal_any T2.mac t.mac · HL2 hmac))
  generalize okS k t = R at HS HD2 HD ⊢
  clear hm2 hx1 e1 hT2 ho hk ht hm HD
  have e0 := HR.out.c0
  have e1 := HR.out.c1
  have e2 := HR.out.c2
  rw [HD2.out] at hQ
  unfold ringA at *
  cases R with
  | false =>
    clear HS HD2
    go_enter Tryd.func37, Tryd.ntmps37
    go_wp2_with (with_reducible refine wpList_load_tk rfl (.tmp 3) rfl (w.heap.size + 1) rfl t hmac.out HX.out ?_)
    refine HC.out.mono ?_
    rintro e w2 ⟨rfl, hB2⟩
    have HX2 := hide ((HX.out.next hB2).alloc (.cells (tkA tk0) 31))
    have HB2 := hide ((HB.out.trans (hB2.mono HB.out.size)).alloc (Nat.le_trans HB.out.size hB2.size) (.cells (tkA tk0) 31))
    have hne : w.heap.size + 1 ≠ w2.heap.size := Nat.ne_of_lt (Nat.lt_of_lt_of_le HX.out.lt hB2.size)
    have HB3 := hide (below_setRow HB2.out (g := w2.heap.size) (Nat.le_trans HB.out.size hB2.size) (tkA T2))
    have HX3 : Hid (TBox ((w2.alloc (.cells (tkA tk0) 31)).setRow w2.heap.size (tkA T2)) (w.heap.size + 1) t) := hide ((_root_.Go.setRow_other _ _ _ _ hne).trans HX2.out)
    have HY3 := hide ((TBox.new w2 tk0).row (u := T2))
    clear e0 e1 e2 hB2 HC HB HX HR hne
    go_wp2_with (first | (with_reducible refine wpList_alloc_tk rfl rfl ?_) | (with_reducible refine wpList_store_tk rfl (.tmp 5) (.tmp 8) rfl w2.heap.size T2 rfl rfl tk0 tk0_len HL2.out (TBox.new _ _) ?_) | (with_reducible refine wpList_load_mac rfl (.tmp 9) rfl w2.heap.size rfl T2 HL2.out HY3.out ?_) | (with_reducible refine wpList_load_mac rfl (.tmp 11) rfl (w.heap.size + 1) rfl t hmac.out HX3.out ?_) | (go_at_call 52; refine (hQ.out _).mono ?_; rintro e w4 ⟨rfl, hB4⟩))
    go_ret
    exact ⟨rfl, HB3.out.trans (hB4.mono HB3.out.size)⟩
  | true =>
    obtain rfl := HS.out rfl
    clear HS HD2 HL2
    go_enter Tryd.func37, Tryd.ntmps37
    go_wp2_with (with_reducible refine wpList_load_tk rfl (.tmp 3) rfl (w.heap.size + 1) rfl T2 hmac.out HX.out ?_)
    refine HC.out.mono ?_
    rintro e w2 ⟨rfl, hB2⟩
    have HX2 := hide ((HX.out.next hB2).alloc (.cells (tkA tk0) 31))
    have HB2 := hide ((HB.out.trans (hB2.mono HB.out.size)).alloc (Nat.le_trans HB.out.size hB2.size) (.cells (tkA tk0) 31))
    have hne : w.heap.size + 1 ≠ w2.heap.size := Nat.ne_of_lt (Nat.lt_of_lt_of_le HX.out.lt hB2.size)
    have HB3 := hide (below_setRow HB2.out (g := w2.heap.size) (Nat.le_trans HB.out.size hB2.size) (tkA T2))
    have HX3 : Hid (TBox ((w2.alloc (.cells (tkA tk0) 31)).setRow w2.heap.size (tkA T2)) (w.heap.size + 1) T2) := hide ((_root_.Go.setRow_other _ _ _ _ hne).trans HX2.out)
    have HY3 := hide ((TBox.new w2 tk0).row (u := T2))
    have heq : ∀ w : World, (Op.equalIn 10000 31 (.agg (tkA T2)) (.agg (tkA T2))).run Tryd.prog w = .ok true w := fun w => by rw [run_eqTk T2 T2 hmac.out hmac.out w, eqT_self]
    clear e0 e1 e2 hB2 HC HB HX HR hne
    go_wp2_with (first | (with_reducible refine wpList_alloc_tk rfl rfl ?_) | (with_reducible refine wpList_store_tk rfl (.tmp 5) (.tmp 8) rfl w2.heap.size T2 rfl rfl tk0 tk0_len hmac.out (TBox.new _ _) ?_) | (with_reducible refine wpList_load_mac rfl (.tmp 9) rfl w2.heap.size rfl T2 hmac.out HY3.out ?_) | (with_reducible refine wpList_load_mac rfl (.tmp 11) rfl (w.heap.size + 1) rfl T2 hmac.out HX3.out ?_) | (go_at_call 52; refine (hQ.out _).mono ?_; rintro e w4 ⟨rfl, hB4⟩; have HX4 := hide (HX3.out.next hB4); have HY4 := hide (HY3.out.next hB4)) | (refine wpList_load_tk_w (by rfl) (.tmp 5) rfl w2.heap.size rfl T2 hmac.out HY4.out ?_) | (refine wpList_load_tk_w (by rfl) (.tmp 3) rfl (w.heap.size + 1) rfl T2 hmac.out HX4.out ?_))
    go_ret
    exact ⟨rfl, HB3.out.trans (hB4.mono HB3.out.size)⟩
end Go.Proofs.YtaomigfmjglggaaDoor
namespace Go.Proofs.YtaomigfmjglggaaDoor
open Go.RowKit

/-- What Verify answers. -/
def verS (k : List Int) (o n : Nat) (t : Tk) (now : Nat) : Int :=
  if mayR k.length o n = true ∧ mayT t = true then (if o ≤ t.key ∧ t.key ≤ n ∧ okS k t = true then (if t.born ≤ now ∧ now < t.til then 0 else 9) else 7) else 1
theorem mayR_len {m o n : Nat} (h : mayR m o n = true) : m ≤ 64 := by
  simp only [mayR, Bool.and_eq_true, decide_eq_true_eq] at h
  exact h.1.1.1.2
def freshB (t : Tk) (now : Nat) : Bool := decide (t.born ≤ now) && decide (now - t.born < 100)

set_option maxRecDepth 100000 in
set_option maxHeartbeats 400000 in
theorem fresh_any (t : Tk) (ho : t.ok) (now : Nat) (hn : now < 18446744073709551616) (w : World) :
    Calls Tryd.prog 17 #[.agg (tkA t), .int .u64 now] w (fun e w' => e = .returned (.bool (freshB t now)) ∧ Below w.heap.size w w') := by
  have HB := hide ((Below.refl w.heap.size w).alloc (Nat.le_refl _) (.cells (tkA t) 31))
  have c5 := (TBox.new w t).c5
  have hb := ho.born
  unfold freshB
  clear ho
  generalize tkA t = TA at *
  generalize t.born = born at *
  by_cases h1 : born ≤ now
  · have hw : IntKind.u64.wrap ((now : Int) - (born : Int)) = ((now - born : Nat) : Int) := by rw [IntWalk.u64_in _ (by omega)]; omega
    by_cases h2 : now - born < 100
    · rw [decide_eq_true h1, decide_eq_true h2]
      go_enter Tryd.func17, Tryd.ntmps17
      go_wp2_with fail
      go_ret
      exact ⟨by first | rfl | (refine ret_bool ?_; simp; omega), HB.out⟩
    · rw [decide_eq_true h1, decide_eq_false h2]
      go_enter Tryd.func17, Tryd.ntmps17
      go_wp2_with fail
      go_ret
      exact ⟨by first | rfl | (refine ret_bool ?_; simp; omega), HB.out⟩
  · rw [decide_eq_false h1, Bool.false_and]
    go_enter Tryd.func17, Tryd.ntmps17
    go_wp2_with fail
    go_ret
    exact ⟨by first | rfl | (refine ret_bool ?_; simp; omega), HB.out⟩

set_option maxRecDepth 100000 in
set_option maxHeartbeats 2000000 in
theorem verify_any (k : List Int) (rv : Value) (o n : Nat) (t : Tk) (now : Nat) (w : World) (ho : t.ok) (ht : Tab w) (hk : SlAt w rv k) :
    Calls Tryd.prog 22 #[.agg (ringA rv o n), .agg (tkA t), .int .u64 now] w (fun e w' => e = .returned (.int .i64 (verS k o n t now)) ∧ Below w.heap.size w w') := by
  obtain ⟨ra, rc, rfl⟩ := hk.len
  have HB := hide (((Below.refl w.heap.size w).alloc (Nat.le_refl _) (.cells (ringA (.slice ra k.length rc) o n) 25)).alloc (by simp) (.cells (tkA t) 31))
  have HT := hide ht
  have HK := hide hk
  have HR := hide ((RBox.new w (.slice ra k.length rc) o n).alloc (.cells (tkA t) 31))
  have hx1 := TBox.new (w.alloc (.cells (ringA (.slice ra k.length rc) o n) 25)) t
  have e1 : (w.alloc (.cells (ringA (.slice ra k.length rc) o n) 25)).heap.size = w.heap.size + 1 := by simp
  rw [e1] at hx1
  have HX := hide hx1
  have hmac := hide ho.mac
  have HC1 := hide (fun W => ring_any ra k.length rc o n W)
  have HC2 := hide (fun W => tmay_any t ho W)
  have HC3 := hide (fun W (hB : Below w.heap.size w W) (hm : mayT t = true) (hl : k.length ≤ 64) => isSigned_any k (.slice ra k.length rc) o n t W hm ho (HT.out.below hB HT.out.two) (HK.out.below hB) hl)
  have HV : Hid (verS k o n t now = if mayR k.length o n = true ∧ mayT t = true then (if o ≤ t.key ∧ t.key ≤ n ∧ okS k t = true then (if t.born ≤ now ∧ now < t.til then 0 else 9) else 7) else 1) := hide rfl
  have HLN := hide (fun h : mayR k.length o n = true => mayR_len h)
  generalize verS k o n t now = V at HV ⊢
  generalize mayR k.length o n = MR at *
  generalize mayT t = MT at *
  generalize okS k t = OK at *
  clear hx1 e1 ho ht hk
  have c0 := HR.out.c0
  have c1 := HR.out.c1
  have c2 := HR.out.c2
  have d5 := HX.out.c5
  have d6 := HX.out.c6
  have d7 := HX.out.c7
  obtain ⟨born, hborn⟩ : ∃ x, t.born = x := ⟨_, rfl⟩
  obtain ⟨til, htil⟩ : ∃ x, t.til = x := ⟨_, rfl⟩
  obtain ⟨key, hkey⟩ : ∃ x, t.key = x := ⟨_, rfl⟩
  rw [hborn] at d5 HV
  rw [htil] at d6 HV
  rw [hkey] at d7 HV
  have HE := hide (And.intro hborn (And.intro htil hkey))
  clear hborn htil hkey
  generalize hq : k.length = q at *
  clear hq
  unfold ringA at *
  by_cases g0 : MR = false
  · subst g0
    rw [show V = 1 from by rw [HV.out]; simp <;> omega]
    clear HV
    go_enter Tryd.func22, Tryd.ntmps22
    go_wp2_with (first | (go_at_call 13; refine (HC1.out _).mono ?_; rintro e w2 ⟨rfl, hB2⟩; have HR2 := hide (HR.out.next hB2); have HX2 := hide (HX.out.next hB2); have HB2 := hide (HB.out.trans (hB2.mono HB.out.size)); have c10 := HR2.out.c0; have c11 := HR2.out.c1; have c12 := HR2.out.c2; have d15 := HX2.out.c5; have d16 := HX2.out.c6; have d17 := HX2.out.c7; rw [HE.out.1] at d15; rw [HE.out.2.1] at d16; rw [HE.out.2.2] at d17; clear c0 c1 c2 d5 d6 d7 hB2 HR HX HC1))
    go_ret
    exact ⟨rfl, HB2.out⟩
  by_cases g1 : MT = false
  · subst g1
    try obtain rfl : MR = true := by simpa using g0
    rw [show V = 1 from by rw [HV.out]; simp <;> omega]
    clear HV
    go_enter Tryd.func22, Tryd.ntmps22
    go_wp2_with (first | (go_at_call 13; refine (HC1.out _).mono ?_; rintro e w2 ⟨rfl, hB2⟩; have HR2 := hide (HR.out.next hB2); have HX2 := hide (HX.out.next hB2); have HB2 := hide (HB.out.trans (hB2.mono HB.out.size)); have c10 := HR2.out.c0; have c11 := HR2.out.c1; have c12 := HR2.out.c2; have d15 := HX2.out.c5; have d16 := HX2.out.c6; have d17 := HX2.out.c7; rw [HE.out.1] at d15; rw [HE.out.2.1] at d16; rw [HE.out.2.2] at d17; clear c0 c1 c2 d5 d6 d7 hB2 HR HX HC1) | (go_at_call 15; refine (HC2.out _).mono ?_; rintro e w3 ⟨rfl, hB3⟩; have HR3 := hide (HR2.out.next hB3); have HX3 := hide (HX2.out.next hB3); have HB3 := hide (HB2.out.trans (hB3.mono HB2.out.size)); have c20 := HR3.out.c0; have c21 := HR3.out.c1; have c22 := HR3.out.c2; have d25 := HX3.out.c5; have d26 := HX3.out.c6; have d27 := HX3.out.c7; rw [HE.out.1] at d25; rw [HE.out.2.1] at d26; rw [HE.out.2.2] at d27; clear c10 c11 c12 d15 d16 d17 hB3 HR2 HX2 HC2) | (refine wpList_load_tk_w (by rfl) (.tmp 4) rfl (w.heap.size + 1) rfl t hmac.out HX2.out ?_))
    go_ret
    exact ⟨rfl, HB3.out⟩
  by_cases g2 : key < o
  · skip
    try obtain rfl : MR = true := by simpa using g0
    try obtain rfl : MT = true := by simpa using g1
    rw [show V = 7 from by rw [HV.out]; simp <;> omega]
    clear HV
    go_enter Tryd.func22, Tryd.ntmps22
    go_wp2_with (first | (go_at_call 13; refine (HC1.out _).mono ?_; rintro e w2 ⟨rfl, hB2⟩; have HR2 := hide (HR.out.next hB2); have HX2 := hide (HX.out.next hB2); have HB2 := hide (HB.out.trans (hB2.mono HB.out.size)); have c10 := HR2.out.c0; have c11 := HR2.out.c1; have c12 := HR2.out.c2; have d15 := HX2.out.c5; have d16 := HX2.out.c6; have d17 := HX2.out.c7; rw [HE.out.1] at d15; rw [HE.out.2.1] at d16; rw [HE.out.2.2] at d17; clear c0 c1 c2 d5 d6 d7 hB2 HR HX HC1) | (go_at_call 15; refine (HC2.out _).mono ?_; rintro e w3 ⟨rfl, hB3⟩; have HR3 := hide (HR2.out.next hB3); have HX3 := hide (HX2.out.next hB3); have HB3 := hide (HB2.out.trans (hB3.mono HB2.out.size)); have c20 := HR3.out.c0; have c21 := HR3.out.c1; have c22 := HR3.out.c2; have d25 := HX3.out.c5; have d26 := HX3.out.c6; have d27 := HX3.out.c7; rw [HE.out.1] at d25; rw [HE.out.2.1] at d26; rw [HE.out.2.2] at d27; clear c10 c11 c12 d15 d16 d17 hB3 HR2 HX2 HC2) | (refine wpList_load_tk_w (by rfl) (.tmp 4) rfl (w.heap.size + 1) rfl t hmac.out HX2.out ?_))
    go_ret
    exact ⟨rfl, HB3.out⟩
  by_cases g3 : n < key
  · skip
    try obtain rfl : MR = true := by simpa using g0
    try obtain rfl : MT = true := by simpa using g1
    rw [show V = 7 from by rw [HV.out]; simp <;> omega]
    clear HV
    go_enter Tryd.func22, Tryd.ntmps22
    go_wp2_with (first | (go_at_call 13; refine (HC1.out _).mono ?_; rintro e w2 ⟨rfl, hB2⟩; have HR2 := hide (HR.out.next hB2); have HX2 := hide (HX.out.next hB2); have HB2 := hide (HB.out.trans (hB2.mono HB.out.size)); have c10 := HR2.out.c0; have c11 := HR2.out.c1; have c12 := HR2.out.c2; have d15 := HX2.out.c5; have d16 := HX2.out.c6; have d17 := HX2.out.c7; rw [HE.out.1] at d15; rw [HE.out.2.1] at d16; rw [HE.out.2.2] at d17; clear c0 c1 c2 d5 d6 d7 hB2 HR HX HC1) | (go_at_call 15; refine (HC2.out _).mono ?_; rintro e w3 ⟨rfl, hB3⟩; have HR3 := hide (HR2.out.next hB3); have HX3 := hide (HX2.out.next hB3); have HB3 := hide (HB2.out.trans (hB3.mono HB2.out.size)); have c20 := HR3.out.c0; have c21 := HR3.out.c1; have c22 := HR3.out.c2; have d25 := HX3.out.c5; have d26 := HX3.out.c6; have d27 := HX3.out.c7; rw [HE.out.1] at d25; rw [HE.out.2.1] at d26; rw [HE.out.2.2] at d27; clear c10 c11 c12 d15 d16 d17 hB3 HR2 HX2 HC2) | (refine wpList_load_tk_w (by rfl) (.tmp 4) rfl (w.heap.size + 1) rfl t hmac.out HX2.out ?_))
    go_ret
    exact ⟨rfl, HB3.out⟩
  by_cases g4 : OK = false
  · subst g4
    try obtain rfl : MR = true := by simpa using g0
    try obtain rfl : MT = true := by simpa using g1
    rw [show V = 7 from by rw [HV.out]; simp <;> omega]
    clear HV
    go_enter Tryd.func22, Tryd.ntmps22
    go_wp2_with (first | (go_at_call 13; refine (HC1.out _).mono ?_; rintro e w2 ⟨rfl, hB2⟩; have HR2 := hide (HR.out.next hB2); have HX2 := hide (HX.out.next hB2); have HB2 := hide (HB.out.trans (hB2.mono HB.out.size)); have c10 := HR2.out.c0; have c11 := HR2.out.c1; have c12 := HR2.out.c2; have d15 := HX2.out.c5; have d16 := HX2.out.c6; have d17 := HX2.out.c7; rw [HE.out.1] at d15; rw [HE.out.2.1] at d16; rw [HE.out.2.2] at d17; clear c0 c1 c2 d5 d6 d7 hB2 HR HX HC1) | (go_at_call 15; refine (HC2.out _).mono ?_; rintro e w3 ⟨rfl, hB3⟩; have HR3 := hide (HR2.out.next hB3); have HX3 := hide (HX2.out.next hB3); have HB3 := hide (HB2.out.trans (hB3.mono HB2.out.size)); have c20 := HR3.out.c0; have c21 := HR3.out.c1; have c22 := HR3.out.c2; have d25 := HX3.out.c5; have d26 := HX3.out.c6; have d27 := HX3.out.c7; rw [HE.out.1] at d25; rw [HE.out.2.1] at d26; rw [HE.out.2.2] at d27; clear c10 c11 c12 d15 d16 d17 hB3 HR2 HX2 HC2) | (refine wpList_load_tk_w (by rfl) (.tmp 4) rfl (w.heap.size + 1) rfl t hmac.out HX2.out ?_) | (go_at_call 37; refine (HC3.out _ HB3.out (by first | rfl | trivial) (HLN.out (by first | rfl | trivial))).mono ?_; rintro e w4 ⟨rfl, hB4⟩; have HX4 := hide (HX3.out.next hB4); have HB4 := hide (HB3.out.trans (hB4.mono HB3.out.size)); have d35 := HX4.out.c5; have d36 := HX4.out.c6; have d37 := HX4.out.c7; rw [HE.out.1] at d35; rw [HE.out.2.1] at d36; rw [HE.out.2.2] at d37; clear c20 c21 c22 d25 d26 d27 hB4 HR3 HC3) | (refine wpList_load_tk_w (by rfl) (.tmp 4) rfl (w.heap.size + 1) rfl t hmac.out HX3.out ?_))
    go_ret
    exact ⟨rfl, HB4.out⟩
  by_cases g5 : now < born
  · skip
    try obtain rfl : MR = true := by simpa using g0
    try obtain rfl : MT = true := by simpa using g1
    try obtain rfl : OK = true := by simpa using g4
    rw [show V = 9 from by rw [HV.out]; simp <;> omega]
    clear HV
    go_enter Tryd.func22, Tryd.ntmps22
    go_wp2_with (first | (go_at_call 13; refine (HC1.out _).mono ?_; rintro e w2 ⟨rfl, hB2⟩; have HR2 := hide (HR.out.next hB2); have HX2 := hide (HX.out.next hB2); have HB2 := hide (HB.out.trans (hB2.mono HB.out.size)); have c10 := HR2.out.c0; have c11 := HR2.out.c1; have c12 := HR2.out.c2; have d15 := HX2.out.c5; have d16 := HX2.out.c6; have d17 := HX2.out.c7; rw [HE.out.1] at d15; rw [HE.out.2.1] at d16; rw [HE.out.2.2] at d17; clear c0 c1 c2 d5 d6 d7 hB2 HR HX HC1) | (go_at_call 15; refine (HC2.out _).mono ?_; rintro e w3 ⟨rfl, hB3⟩; have HR3 := hide (HR2.out.next hB3); have HX3 := hide (HX2.out.next hB3); have HB3 := hide (HB2.out.trans (hB3.mono HB2.out.size)); have c20 := HR3.out.c0; have c21 := HR3.out.c1; have c22 := HR3.out.c2; have d25 := HX3.out.c5; have d26 := HX3.out.c6; have d27 := HX3.out.c7; rw [HE.out.1] at d25; rw [HE.out.2.1] at d26; rw [HE.out.2.2] at d27; clear c10 c11 c12 d15 d16 d17 hB3 HR2 HX2 HC2) | (refine wpList_load_tk_w (by rfl) (.tmp 4) rfl (w.heap.size + 1) rfl t hmac.out HX2.out ?_) | (go_at_call 37; refine (HC3.out _ HB3.out (by first | rfl | trivial) (HLN.out (by first | rfl | trivial))).mono ?_; rintro e w4 ⟨rfl, hB4⟩; have HX4 := hide (HX3.out.next hB4); have HB4 := hide (HB3.out.trans (hB4.mono HB3.out.size)); have d35 := HX4.out.c5; have d36 := HX4.out.c6; have d37 := HX4.out.c7; rw [HE.out.1] at d35; rw [HE.out.2.1] at d36; rw [HE.out.2.2] at d37; clear c20 c21 c22 d25 d26 d27 hB4 HR3 HC3) | (refine wpList_load_tk_w (by rfl) (.tmp 4) rfl (w.heap.size + 1) rfl t hmac.out HX3.out ?_))
    go_ret
    exact ⟨rfl, HB4.out⟩
  by_cases g6 : til ≤ now
  · skip
    try obtain rfl : MR = true := by simpa using g0
    try obtain rfl : MT = true := by simpa using g1
    try obtain rfl : OK = true := by simpa using g4
    rw [show V = 9 from by rw [HV.out]; simp <;> omega]
    clear HV
    go_enter Tryd.func22, Tryd.ntmps22
    go_wp2_with (first | (go_at_call 13; refine (HC1.out _).mono ?_; rintro e w2 ⟨rfl, hB2⟩; have HR2 := hide (HR.out.next hB2); have HX2 := hide (HX.out.next hB2); have HB2 := hide (HB.out.trans (hB2.mono HB.out.size)); have c10 := HR2.out.c0; have c11 := HR2.out.c1; have c12 := HR2.out.c2; have d15 := HX2.out.c5; have d16 := HX2.out.c6; have d17 := HX2.out.c7; rw [HE.out.1] at d15; rw [HE.out.2.1] at d16; rw [HE.out.2.2] at d17; clear c0 c1 c2 d5 d6 d7 hB2 HR HX HC1) | (go_at_call 15; refine (HC2.out _).mono ?_; rintro e w3 ⟨rfl, hB3⟩; have HR3 := hide (HR2.out.next hB3); have HX3 := hide (HX2.out.next hB3); have HB3 := hide (HB2.out.trans (hB3.mono HB2.out.size)); have c20 := HR3.out.c0; have c21 := HR3.out.c1; have c22 := HR3.out.c2; have d25 := HX3.out.c5; have d26 := HX3.out.c6; have d27 := HX3.out.c7; rw [HE.out.1] at d25; rw [HE.out.2.1] at d26; rw [HE.out.2.2] at d27; clear c10 c11 c12 d15 d16 d17 hB3 HR2 HX2 HC2) | (refine wpList_load_tk_w (by rfl) (.tmp 4) rfl (w.heap.size + 1) rfl t hmac.out HX2.out ?_) | (go_at_call 37; refine (HC3.out _ HB3.out (by first | rfl | trivial) (HLN.out (by first | rfl | trivial))).mono ?_; rintro e w4 ⟨rfl, hB4⟩; have HX4 := hide (HX3.out.next hB4); have HB4 := hide (HB3.out.trans (hB4.mono HB3.out.size)); have d35 := HX4.out.c5; have d36 := HX4.out.c6; have d37 := HX4.out.c7; rw [HE.out.1] at d35; rw [HE.out.2.1] at d36; rw [HE.out.2.2] at d37; clear c20 c21 c22 d25 d26 d27 hB4 HR3 HC3) | (refine wpList_load_tk_w (by rfl) (.tmp 4) rfl (w.heap.size + 1) rfl t hmac.out HX3.out ?_))
    go_ret
    exact ⟨rfl, HB4.out⟩
  try obtain rfl : MR = true := by simpa using g0
  try obtain rfl : MT = true := by simpa using g1
  try obtain rfl : OK = true := by simpa using g4
  rw [show V = 0 from by rw [HV.out]; simp <;> omega]
  clear HV
  go_enter Tryd.func22, Tryd.ntmps22
  go_wp2_with (first | (go_at_call 13; refine (HC1.out _).mono ?_; rintro e w2 ⟨rfl, hB2⟩; have HR2 := hide (HR.out.next hB2); have HX2 := hide (HX.out.next hB2); have HB2 := hide (HB.out.trans (hB2.mono HB.out.size)); have c10 := HR2.out.c0; have c11 := HR2.out.c1; have c12 := HR2.out.c2; have d15 := HX2.out.c5; have d16 := HX2.out.c6; have d17 := HX2.out.c7; rw [HE.out.1] at d15; rw [HE.out.2.1] at d16; rw [HE.out.2.2] at d17; clear c0 c1 c2 d5 d6 d7 hB2 HR HX HC1) | (go_at_call 15; refine (HC2.out _).mono ?_; rintro e w3 ⟨rfl, hB3⟩; have HR3 := hide (HR2.out.next hB3); have HX3 := hide (HX2.out.next hB3); have HB3 := hide (HB2.out.trans (hB3.mono HB2.out.size)); have c20 := HR3.out.c0; have c21 := HR3.out.c1; have c22 := HR3.out.c2; have d25 := HX3.out.c5; have d26 := HX3.out.c6; have d27 := HX3.out.c7; rw [HE.out.1] at d25; rw [HE.out.2.1] at d26; rw [HE.out.2.2] at d27; clear c10 c11 c12 d15 d16 d17 hB3 HR2 HX2 HC2) | (refine wpList_load_tk_w (by rfl) (.tmp 4) rfl (w.heap.size + 1) rfl t hmac.out HX2.out ?_) | (go_at_call 37; refine (HC3.out _ HB3.out (by first | rfl | trivial) (HLN.out (by first | rfl | trivial))).mono ?_; rintro e w4 ⟨rfl, hB4⟩; have HX4 := hide (HX3.out.next hB4); have HB4 := hide (HB3.out.trans (hB4.mono HB3.out.size)); have d35 := HX4.out.c5; have d36 := HX4.out.c6; have d37 := HX4.out.c7; rw [HE.out.1] at d35; rw [HE.out.2.1] at d36; rw [HE.out.2.2] at d37; clear c20 c21 c22 d25 d26 d27 hB4 HR3 HC3) | (refine wpList_load_tk_w (by rfl) (.tmp 4) rfl (w.heap.size + 1) rfl t hmac.out HX3.out ?_))
  go_ret
  exact ⟨rfl, HB4.out⟩
end Go.Proofs.YtaomigfmjglggaaDoor
