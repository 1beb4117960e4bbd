/- The law's own function answers: of a field that is whole, and of one that is cut. -/
import Derived.Test.YtjcdmffjpkckoaaDoorCdCuts
import Derived.Deep.RegionHeld3
import Derived.Deep.MidRow
namespace Go.Proofs.YtjcdmffjpkckoaaDoor
open Go.RowKit

theorem keepCells {F : Nat → Prop} {W w' : World} {fb : Nat} {mo : Int} {n : Nat} {s : ByteArray} (hk : Keep F W w') (hF : ¬ F fb) (hl : fb < W.heap.size) (c2 : W.cell? ⟨fb, 2, none⟩ = some (.int .i64 mo)) (c3 : W.cell? ⟨fb, 3, none⟩ = some (.int .u64 (n : Nat))) (c4 : W.cell? ⟨fb, 4, none⟩ = some (.string s)) :
    w'.cell? ⟨fb, 2, none⟩ = some (.int .i64 mo) ∧ w'.cell? ⟨fb, 3, none⟩ = some (.int .u64 (n : Nat)) ∧ w'.cell? ⟨fb, 4, none⟩ = some (.string s) := by
  have h := hk.block fb hl hF
  refine ⟨?_, ?_, ?_⟩
  · rw [← c2]; simp only [World.cell?, h]
  · rw [← c3]; simp only [World.cell?, h]
  · rw [← c4]; simp only [World.cell?, h]

/-- The bytes of a field, cut short. -/
theorem cutL_short : ∀ (n f i x j : Nat), x < 128 ^ (n + 1) → j < (uintF n x).length → cutL f i ((uintF n x).take j) = none
  | _, 0, _, _, _, _, _ => rfl
  | n, f + 1, i, x, 0, _, _ => by simp [cutL]
  | 0, f + 1, i, x, j + 1, _, hj => by simp [uintF] at hj
  | n + 1, f + 1, i, x, j + 1, hx, hj => by
    rw [uintF] at hj ⊢
    by_cases hx' : x < 128
    · rw [if_pos hx'] at hj; simp at hj
    · rw [if_neg hx'] at hj ⊢
      rw [pow128] at hx
      rw [List.take_succ_cons, cutL]
      simp only [List.length_cons] at hj
      rw [cutL_short n f (i + 1) (x / 128) j (by omega) (by omega)]
      split
      · rfl
      · rw [if_neg (by omega)]
        rfl

theorem cutUS_short (x j : Nat) (hx : x < 18446744073709551616) (hj : j < (uintS x).length) : cutUS ((uintS x).take j) = none :=
  cutL_short 9 10 0 x j (Nat.lt_of_lt_of_le hx p10) hj

theorem cutTS_short (most : Int) (s : ByteArray) (j : Nat) (hs : s.size ≤ maxLen) (hj : j < (textS s).length) : cutTS most ((textS s).take j) = none := by
  have hl := length_bytesOf s
  have hm : s.size < 18446744073709551616 := by unfold maxLen at hs; omega
  rw [textS, List.length_append, hl] at hj
  rw [cutTS, textS, List.take_append]
  by_cases h : j < (uintS s.size).length
  · rw [show j - (uintS s.size).length = 0 by omega, List.take_zero, List.append_nil, cutUS_short _ _ hm h]
  · rw [List.take_of_length_le (by omega), cutUS_uintS _ _ hm]
    dsimp only
    rw [if_pos]
    right; right
    simp
    omega

theorem u32V_u32S (m : Nat) (hm : m < 4294967296) (r : List Int) : u32V (u32S m ++ r) 4 = m := by
  have h : ∀ k, k < 4 → nth (u32S m ++ r) k = ((m / 2 ^ (8 * k) % 256 : Nat) : Int) := fun k hk => by
    rw [nth, List.getD, List.getElem?_append_left (by rw [u32S, length_u32T]; exact hk)]
    simp [u32S, u32T, hk]
  rw [u32V, u32V, u32V, u32V, u32V, h 0 (by omega), h 1 (by omega), h 2 (by omega), h 3 (by omega)]
  simp
  omega

/-- What answers says of a field that is whole: yes, and what is behind it is left; of one that is cut: the reader is stopped. -/
def AnsWhole (W : World) (B : Nat) (F : Nat → Prop) (g : Nat) (rest : List Int) (e : Ending) (w' : World) : Prop := e = .returned (.bool true) ∧ Keep F W w' ∧ Rd w' B F g rest false
def AnsShort (W : World) (B : Nat) (F : Nat → Prop) (g : Nat) (bs : List Int) (e : Ending) (w' : World) : Prop := (∃ b, e = .returned (.bool b)) ∧ Keep F W w' ∧ Rd w' B F g bs true

theorem and255 (a : Int) : ∃ m : Nat, m < 256 ∧ bits BinOp.and IntKind.i64 a 255 = m := by
  have h := Nat.and_le_right (n := (BitVec.ofInt 64 a).toNat) (m := 255)
  refine ⟨(BitVec.ofInt 64 a).toNat &&& 255, by omega, ?_⟩
  have e : bits BinOp.and IntKind.i64 a 255 = IntKind.i64.wrap (((BitVec.ofInt 64 a).toNat &&& 255 : Nat) : Int) := by
    simp [bits, show IntKind.i64.bits = 64 from rfl, BitVec.toNat_and]
  rw [e]
  exact IntWalk.i64_in _ (by omega)

set_option maxRecDepth 100000 in
set_option maxHeartbeats 4000000 in
theorem answers_whole (f : Fld) (hf : f.ok) (hs2 : f.s.size ≤ 100000000) (rest : List Int) (W : World) (B : Nat) (F : Nat → Prop) (g : Nat) (ht : Tab W) (hr : Rd W B F g (fieldS f ++ rest) false) (hrg : ∀ x ∈ fieldS f ++ rest, 0 ≤ x ∧ x < 256) (hb : (fieldS f ++ rest).length ≤ 140737488355328) :
    Calls Tryd.prog 37 #[.pointer (some ⟨g, 0, none⟩), f.val] W (AnsWhole W B F g rest) := by
  have HK := hide (kind_any f (W.alloc (.cells f.cells.toArray 32)))
  have hrow := heap_alloc_new W (.cells f.cells.toArray 32)
  have HB0 : Hid (Below W.heap.size W (W.alloc (.cells f.cells.toArray 32))) := hide ((Below.refl _ _).alloc (Nat.le_refl _) _)
  have HH := hide hr
  have HT := hide ht
  have HRG := hide hrg
  have HFF : Hid (¬ F W.heap.size) := hide (fun h => by have := (hr.ge _ h).2; omega)
  have HFE : Hid (fieldS f = if f.kd = 0 then [((f.n % 256 : Nat) : Int)] else if f.kd = 1 then u32S (f.n % 4294967296) else if f.kd = 2 then uintS f.n else if f.kd = 3 then textS f.s else bytesOf f.s) := hide rfl
  clear hr ht hrg
  obtain ⟨hn, hsz, _, _⟩ := hf
  obtain ⟨n, hnn⟩ : ∃ n, n = f.n := ⟨_, rfl⟩
  obtain ⟨s, hss⟩ : ∃ s, s = f.s := ⟨_, rfl⟩
  obtain ⟨mo, hmm⟩ : ∃ mo, mo = f.more := ⟨_, rfl⟩
  obtain ⟨kd, hkd⟩ : ∃ kd, kd = f.kd := ⟨_, rfl⟩
  rw [← hnn] at hn
  rw [← hss] at hsz hs2
  rw [← hnn, ← hss, ← hkd] at HFE
  rw [← hkd] at HK
  obtain ⟨X, hX⟩ : ∃ X, X = fieldS f := ⟨_, rfl⟩
  rw [← hX] at HFE HH HRG hb
  go_enter Tryd.func37, Tryd.ntmps37
  unfold Fld.val at *
  go_wp2_with fail
  refine HK.out.mono ?_
  rintro e w1 ⟨rfl, hBk⟩
  have hl1 : W.heap.size < (W.alloc (.cells f.cells.toArray 32)).heap.size := by simp
  have hrow1 : w1.heap[W.heap.size]? = some (.cells f.cells.toArray 32 (0, 0)) := (hBk.block _ hl1).trans hrow
  have c2 : w1.drew.cell? ⟨W.heap.size, 2, none⟩ = some (.int .i64 f.more) := (cell_of_row w1 _ 2 _ _ _ hrow1).trans rfl
  have c3 : w1.drew.cell? ⟨W.heap.size, 3, none⟩ = some (.int .u64 (f.n : Nat)) := (cell_of_row w1 _ 3 _ _ _ hrow1).trans rfl
  have c4 : w1.drew.cell? ⟨W.heap.size, 4, none⟩ = some (.string f.s) := (cell_of_row w1 _ 4 _ _ _ hrow1).trans rfl
  have hB1 : Below W.heap.size W w1 := HB0.out.trans (hBk.mono (by omega))
  have HKp : Hid (Keep F W w1) := hide (Keep.of_below hB1)
  have HR1 := hide (HH.out.keep (Keep.of_below hB1.drew : Keep (fun _ => False) W w1.drew) (fun _ _ => id))
  have HT1 := hide (HT.out.below hB1.drew HT.out.two)
  have HFBL : Hid (W.heap.size < w1.drew.heap.size) := hide (by have := hBk.size; show W.heap.size < w1.heap.size; omega)
  rw [← hmm] at c2
  rw [← hnn] at c3
  rw [← hss] at c4
  generalize W.heap.size = fb at c2 c3 c4 HFF HFBL ⊢
  clear hB1 hBk hrow1 hl1 HK hrow HB0 hkd hX hnn hss hmm
  by_cases h0 : kd = 0
  · have hXe : X = [((n % 256 : Nat) : Int)] := by rw [HFE.out, if_pos h0]
    have HA := hide (r8_go w1.drew B F g (X ++ rest) HR1.out)
    have HRS : Hid (cut8 (X ++ rest) = some rest) := hide (by rw [hXe]; simp [cut8])
    have HVL : Hid (Value.int .u8 (nth (X ++ rest) 0) = .int .u8 ((n : Int) % 256)) := hide (by rw [hXe]; rfl)
    have hw8 : IntKind.u8.wrap (n : Int) = (n : Int) % 256 := by simp [IntKind.wrap, IntKind.signed, IntKind.bits]
    clear HFE hXe 
    go_wp2_with fail
    refine wp_region_held_drew (S := fun w' => w'.cell? ⟨fb, 2, none⟩ = some (.int .i64 mo) ∧ w'.cell? ⟨fb, 3, none⟩ = some (.int .u64 (n : Nat)) ∧ w'.cell? ⟨fb, 4, none⟩ = some (.string s)) (by kernel_rfl) ⟨c2, c3, c4⟩ (fun hHeld => ?_)
    refine wpAnyH_take (i := 0) (oi := { dst := some 9, op := Op.move (Operand.tmp 0), type := 38, pos := "outright.go:14", after := #[], guard := none }) (v := ?_) rfl (by kernel_rfl) (by kernel_rfl) (by kernel_rfl) (fun _ _ _ h => h) (Or.inl ⟨by rfl, ?_⟩) hHeld ?_
    rotate_left
    · intro w hSw; (try dsimp only at hSw); go_simp; first | done | with_reducible rfl
    try simp only [Act.put, List.setIfInBounds_toArray, List.set_cons_zero, List.set_cons_succ]
    refine wpAnyH_take (i := 2) (oi := { dst := some 11, op := Op.fieldAddr 32 (Operand.tmp 3) 3, type := 0, pos := "outright.go:14", after := #[], guard := none }) (v := ?_) rfl (by kernel_rfl) (by kernel_rfl) (by kernel_rfl) (fun _ _ _ h => h) (Or.inl ⟨by rfl, ?_⟩) hHeld ?_
    rotate_left
    · intro w hSw; (try dsimp only at hSw); go_simp; first | done | with_reducible rfl
    try simp only [Act.put, List.setIfInBounds_toArray, List.set_cons_zero, List.set_cons_succ]
    refine wpAnyH_take (i := 3) (oi := { dst := some 12, op := Op.load 30 (Operand.tmp 11), type := 30, pos := "outright.go:14", after := #[{ on := 2, ground := Ground.data }], guard := none }) (v := ?_) rfl (by kernel_rfl) (by kernel_rfl) (by kernel_rfl) (fun _ _ _ h => h) (Or.inl ⟨by rfl, ?_⟩) hHeld ?_
    rotate_left
    · intro w hSw; (try dsimp only at hSw); (have d2 := hSw.1; have d3 := hSw.2.1; have d4 := hSw.2.2); go_simp; first | done | with_reducible rfl
    try simp only [Act.put, List.setIfInBounds_toArray, List.set_cons_zero, List.set_cons_succ]
    refine wpAnyH_take (i := 4) (oi := { dst := some 13, op := Op.convert 30 5 (Operand.tmp 12), type := 5, pos := "outright.go:14", after := #[{ on := 3, ground := Ground.data }], guard := none }) (v := ?_) rfl (by kernel_rfl) (by kernel_rfl) (by kernel_rfl) (fun _ _ _ h => h) (Or.inl ⟨by rfl, ?_⟩) hHeld ?_
    rotate_left
    · intro w hSw; (try dsimp only at hSw); go_simp; first | done | with_reducible rfl
    try simp only [Act.put, List.setIfInBounds_toArray, List.set_cons_zero, List.set_cons_succ]
    refine wpAnyH_ready (rs := [1]) (by kernel_rfl) (by simp) ?_
    refine AllReadyH.cons (o := { dst := some 10, op := Op.call { callee := Callee.value (Operand.func 21), args := #[Operand.tmp 9], argTypes := #[38] }, type := 5, pos := "outright.go:14", after := #[{ on := 0, ground := Ground.data }], guard := none }) rfl (fun K hK => ?_) AllReadyH.nil
    clear hHeld
    go_simp
    refine HA.out.mono ?_
    intro e w2 hp
    obtain ⟨hK, _, v, rfl, hf, hN⟩ := hp.some HRS.out
    rw [HVL.out] at hf
    subst hf
    have hSn : w2.cell? ⟨fb, 2, none⟩ = some (.int .i64 mo) ∧ w2.cell? ⟨fb, 3, none⟩ = some (.int .u64 (n : Nat)) ∧ w2.cell? ⟨fb, 4, none⟩ = some (.string s) := keepCells hK (HFF.out) HFBL.out c2 c3 c4
    have HKW := hide (HKp.out.trans ((Keep.drew F w1).trans hK (fun _ h => .inl h)) (fun _ h => .inl h))
    have HNN := hide hN
    clear hK hN hp
    dsimp only
    refine hK.out _ _ (hSn) (fun hHeld => ?_)
    clear hK K
    try simp only [Act.put, List.setIfInBounds_toArray, List.set_cons_zero, List.set_cons_succ]
    refine wpAnyH_take (i := 5) (oi := { dst := some 14, op := Op.binOp BinOp.eql 5 (Operand.tmp 10) (Operand.tmp 13) 5, type := 4, pos := "outright.go:14", after := #[{ on := 1, ground := Ground.data }, { on := 4, ground := Ground.data }], guard := none }) (v := ?_) rfl (by kernel_rfl) (by kernel_rfl) (by kernel_rfl) (fun _ _ _ h => h) (Or.inl ⟨by rfl, ?_⟩) hHeld ?_
    rotate_left
    · intro w hSw; (try dsimp only at hSw); go_simp; first | done | with_reducible rfl
    try simp only [Act.put, List.setIfInBounds_toArray, List.set_cons_zero, List.set_cons_succ]
    refine wpAnyH_take (i := 6) (oi := { dst := some 4, op := Op.assign (Operand.tmp 14), type := 4, pos := "outright.go:14", after := #[{ on := 5, ground := Ground.data }, { on := 1, ground := Ground.chain }, { on := 0, ground := Ground.phase }, { on := 1, ground := Ground.phase }, { on := 2, ground := Ground.phase }, { on := 3, ground := Ground.phase }, { on := 4, ground := Ground.phase }, { on := 5, ground := Ground.phase }], guard := none }) (v := ?_) rfl (by kernel_rfl) (by kernel_rfl) (by kernel_rfl) (fun _ _ _ h => h) (Or.inl ⟨by rfl, ?_⟩) hHeld ?_
    rotate_left
    · intro w hSw; (try dsimp only at hSw); go_simp; first | done | with_reducible rfl
    try simp only [Act.put, List.setIfInBounds_toArray, List.set_cons_zero, List.set_cons_succ]
    refine wpAnyH_done (by kernel_rfl) ?_ _
    go_wp2_with fail
    go_ret
    refine ⟨?_, HKW.out, HNN.out⟩
    first | rfl | simp
  by_cases h1 : kd = 1
  · have hXe : X = u32S (n % 4294967296) := by rw [HFE.out, if_neg h0, if_pos h1]
    have HA := hide (r32_go w1.drew B F g (X ++ rest) HR1.out HT1.out HRG.out)
    have HRS : Hid (cut32 (X ++ rest) = some rest) := hide (by rw [hXe, cut32, if_neg (by rw [List.length_append, u32S, length_u32T]; omega), List.drop_left' (show (u32S _).length = 4 from length_u32T _ 4)])
    have HVL : Hid (Value.int .u32 (u32V (X ++ rest) 4 : Nat) = .int .u32 ((n : Int) % 4294967296)) := hide (by rw [hXe, u32V_u32S _ (by omega)]; congr 1)
    have hw32 : IntKind.u32.wrap (n : Int) = (n : Int) % 4294967296 := by simp [IntKind.wrap, IntKind.signed, IntKind.bits]
    clear HFE hXe 
    go_wp2_with fail
    refine wp_region_held_drew (S := fun w' => w'.cell? ⟨fb, 2, none⟩ = some (.int .i64 mo) ∧ w'.cell? ⟨fb, 3, none⟩ = some (.int .u64 (n : Nat)) ∧ w'.cell? ⟨fb, 4, none⟩ = some (.string s)) (by kernel_rfl) ⟨c2, c3, c4⟩ (fun hHeld => ?_)
    refine wpAnyH_take (i := 0) (oi := { dst := some 17, op := Op.move (Operand.tmp 0), type := 38, pos := "outright.go:16", after := #[], guard := none }) (v := ?_) rfl (by kernel_rfl) (by kernel_rfl) (by kernel_rfl) (fun _ _ _ h => h) (Or.inl ⟨by rfl, ?_⟩) hHeld ?_
    rotate_left
    · intro w hSw; (try dsimp only at hSw); go_simp; first | done | with_reducible rfl
    try simp only [Act.put, List.setIfInBounds_toArray, List.set_cons_zero, List.set_cons_succ]
    refine wpAnyH_take (i := 2) (oi := { dst := some 19, op := Op.fieldAddr 32 (Operand.tmp 3) 3, type := 0, pos := "outright.go:16", after := #[], guard := none }) (v := ?_) rfl (by kernel_rfl) (by kernel_rfl) (by kernel_rfl) (fun _ _ _ h => h) (Or.inl ⟨by rfl, ?_⟩) hHeld ?_
    rotate_left
    · intro w hSw; (try dsimp only at hSw); go_simp; first | done | with_reducible rfl
    try simp only [Act.put, List.setIfInBounds_toArray, List.set_cons_zero, List.set_cons_succ]
    refine wpAnyH_take (i := 3) (oi := { dst := some 20, op := Op.load 30 (Operand.tmp 19), type := 30, pos := "outright.go:16", after := #[{ on := 2, ground := Ground.data }], guard := none }) (v := ?_) rfl (by kernel_rfl) (by kernel_rfl) (by kernel_rfl) (fun _ _ _ h => h) (Or.inl ⟨by rfl, ?_⟩) hHeld ?_
    rotate_left
    · intro w hSw; (try dsimp only at hSw); (have d2 := hSw.1; have d3 := hSw.2.1; have d4 := hSw.2.2); go_simp; first | done | with_reducible rfl
    try simp only [Act.put, List.setIfInBounds_toArray, List.set_cons_zero, List.set_cons_succ]
    refine wpAnyH_take (i := 4) (oi := { dst := some 21, op := Op.convert 30 46 (Operand.tmp 20), type := 46, pos := "outright.go:16", after := #[{ on := 3, ground := Ground.data }], guard := none }) (v := ?_) rfl (by kernel_rfl) (by kernel_rfl) (by kernel_rfl) (fun _ _ _ h => h) (Or.inl ⟨by rfl, ?_⟩) hHeld ?_
    rotate_left
    · intro w hSw; (try dsimp only at hSw); go_simp; first | done | with_reducible rfl
    try simp only [Act.put, List.setIfInBounds_toArray, List.set_cons_zero, List.set_cons_succ]
    refine wpAnyH_ready (rs := [1]) (by kernel_rfl) (by simp) ?_
    refine AllReadyH.cons (o := { dst := some 18, op := Op.call { callee := Callee.value (Operand.func 23), args := #[Operand.tmp 17], argTypes := #[38] }, type := 46, pos := "outright.go:16", after := #[{ on := 0, ground := Ground.data }], guard := none }) rfl (fun K hK => ?_) AllReadyH.nil
    clear hHeld
    go_simp
    refine HA.out.mono ?_
    intro e w2 hp
    obtain ⟨hK, _, v, rfl, hf, hN⟩ := hp.some HRS.out
    rw [HVL.out] at hf
    subst hf
    have hSn : w2.cell? ⟨fb, 2, none⟩ = some (.int .i64 mo) ∧ w2.cell? ⟨fb, 3, none⟩ = some (.int .u64 (n : Nat)) ∧ w2.cell? ⟨fb, 4, none⟩ = some (.string s) := keepCells hK (HFF.out) HFBL.out c2 c3 c4
    have HKW := hide (HKp.out.trans ((Keep.drew F w1).trans hK (fun _ h => .inl h)) (fun _ h => .inl h))
    have HNN := hide hN
    clear hK hN hp
    dsimp only
    refine hK.out _ _ (hSn) (fun hHeld => ?_)
    clear hK K
    try simp only [Act.put, List.setIfInBounds_toArray, List.set_cons_zero, List.set_cons_succ]
    refine wpAnyH_take (i := 5) (oi := { dst := some 22, op := Op.binOp BinOp.eql 46 (Operand.tmp 18) (Operand.tmp 21) 46, type := 4, pos := "outright.go:16", after := #[{ on := 1, ground := Ground.data }, { on := 4, ground := Ground.data }], guard := none }) (v := ?_) rfl (by kernel_rfl) (by kernel_rfl) (by kernel_rfl) (fun _ _ _ h => h) (Or.inl ⟨by rfl, ?_⟩) hHeld ?_
    rotate_left
    · intro w hSw; (try dsimp only at hSw); go_simp; first | done | with_reducible rfl
    try simp only [Act.put, List.setIfInBounds_toArray, List.set_cons_zero, List.set_cons_succ]
    refine wpAnyH_take (i := 6) (oi := { dst := some 4, op := Op.assign (Operand.tmp 22), type := 4, pos := "outright.go:16", after := #[{ on := 5, ground := Ground.data }, { on := 1, ground := Ground.chain }, { on := 0, ground := Ground.phase }, { on := 1, ground := Ground.phase }, { on := 2, ground := Ground.phase }, { on := 3, ground := Ground.phase }, { on := 4, ground := Ground.phase }, { on := 5, ground := Ground.phase }], guard := none }) (v := ?_) rfl (by kernel_rfl) (by kernel_rfl) (by kernel_rfl) (fun _ _ _ h => h) (Or.inl ⟨by rfl, ?_⟩) hHeld ?_
    rotate_left
    · intro w hSw; (try dsimp only at hSw); go_simp; first | done | with_reducible rfl
    try simp only [Act.put, List.setIfInBounds_toArray, List.set_cons_zero, List.set_cons_succ]
    refine wpAnyH_done (by kernel_rfl) ?_ _
    go_wp2_with fail
    go_ret
    refine ⟨?_, HKW.out, HNN.out⟩
    first | rfl | simp
  by_cases h2 : kd = 2
  · have hXe : X = uintS n := by rw [HFE.out, if_neg h0, if_neg h1, if_pos h2]
    have HA := hide (ru_go w1.drew B F g (X ++ rest) HR1.out HT1.out HRG.out)
    have HRS : Hid ((cutUS (X ++ rest)).map (·.2) = some rest) := hide (by rw [hXe, cutUS_uintS _ _ hn]; rfl)
    have HVL : Hid (Value.int .u64 ((((cutUS (X ++ rest)).map (·.1)).getD 0 : Nat)) = .int .u64 (n : Nat)) := hide (by rw [hXe, cutUS_uintS _ _ hn]; rfl)
    clear HFE hXe 
    go_wp2_with fail
    refine wp_region_held_drew (S := fun w' => w'.cell? ⟨fb, 2, none⟩ = some (.int .i64 mo) ∧ w'.cell? ⟨fb, 3, none⟩ = some (.int .u64 (n : Nat)) ∧ w'.cell? ⟨fb, 4, none⟩ = some (.string s)) (by kernel_rfl) ⟨c2, c3, c4⟩ (fun hHeld => ?_)
    refine wpAnyH_take (i := 0) (oi := { dst := some 25, op := Op.move (Operand.tmp 0), type := 38, pos := "outright.go:18", after := #[], guard := none }) (v := ?_) rfl (by kernel_rfl) (by kernel_rfl) (by kernel_rfl) (fun _ _ _ h => h) (Or.inl ⟨by rfl, ?_⟩) hHeld ?_
    rotate_left
    · intro w hSw; (try dsimp only at hSw); go_simp; first | done | with_reducible rfl
    try simp only [Act.put, List.setIfInBounds_toArray, List.set_cons_zero, List.set_cons_succ]
    refine wpAnyH_take (i := 2) (oi := { dst := some 27, op := Op.fieldAddr 32 (Operand.tmp 3) 3, type := 0, pos := "outright.go:18", after := #[], guard := none }) (v := ?_) rfl (by kernel_rfl) (by kernel_rfl) (by kernel_rfl) (fun _ _ _ h => h) (Or.inl ⟨by rfl, ?_⟩) hHeld ?_
    rotate_left
    · intro w hSw; (try dsimp only at hSw); go_simp; first | done | with_reducible rfl
    try simp only [Act.put, List.setIfInBounds_toArray, List.set_cons_zero, List.set_cons_succ]
    refine wpAnyH_take (i := 3) (oi := { dst := some 28, op := Op.load 30 (Operand.tmp 27), type := 30, pos := "outright.go:18", after := #[{ on := 2, ground := Ground.data }], guard := none }) (v := ?_) rfl (by kernel_rfl) (by kernel_rfl) (by kernel_rfl) (fun _ _ _ h => h) (Or.inl ⟨by rfl, ?_⟩) hHeld ?_
    rotate_left
    · intro w hSw; (try dsimp only at hSw); (have d2 := hSw.1; have d3 := hSw.2.1; have d4 := hSw.2.2); go_simp; first | done | with_reducible rfl
    try simp only [Act.put, List.setIfInBounds_toArray, List.set_cons_zero, List.set_cons_succ]
    refine wpAnyH_ready (rs := [1]) (by kernel_rfl) (by simp) ?_
    refine AllReadyH.cons (o := { dst := some 26, op := Op.call { callee := Callee.value (Operand.func 24), args := #[Operand.tmp 25], argTypes := #[38] }, type := 30, pos := "outright.go:18", after := #[{ on := 0, ground := Ground.data }], guard := none }) rfl (fun K hK => ?_) AllReadyH.nil
    clear hHeld
    go_simp
    refine HA.out.mono ?_
    intro e w2 hp
    obtain ⟨hK, _, v, rfl, hf, hN⟩ := hp.some HRS.out
    rw [HVL.out] at hf
    subst hf
    have hSn : w2.cell? ⟨fb, 2, none⟩ = some (.int .i64 mo) ∧ w2.cell? ⟨fb, 3, none⟩ = some (.int .u64 (n : Nat)) ∧ w2.cell? ⟨fb, 4, none⟩ = some (.string s) := keepCells hK (HFF.out) HFBL.out c2 c3 c4
    have HKW := hide (HKp.out.trans ((Keep.drew F w1).trans hK (fun _ h => .inl h)) (fun _ h => .inl h))
    have HNN := hide hN
    clear hK hN hp
    dsimp only
    refine hK.out _ _ (hSn) (fun hHeld => ?_)
    clear hK K
    try simp only [Act.put, List.setIfInBounds_toArray, List.set_cons_zero, List.set_cons_succ]
    refine wpAnyH_take (i := 4) (oi := { dst := some 29, op := Op.binOp BinOp.eql 30 (Operand.tmp 26) (Operand.tmp 28) 30, type := 4, pos := "outright.go:18", after := #[{ on := 1, ground := Ground.data }, { on := 3, ground := Ground.data }], guard := none }) (v := ?_) rfl (by kernel_rfl) (by kernel_rfl) (by kernel_rfl) (fun _ _ _ h => h) (Or.inl ⟨by rfl, ?_⟩) hHeld ?_
    rotate_left
    · intro w hSw; (try dsimp only at hSw); go_simp; first | done | with_reducible rfl
    try simp only [Act.put, List.setIfInBounds_toArray, List.set_cons_zero, List.set_cons_succ]
    refine wpAnyH_take (i := 5) (oi := { dst := some 4, op := Op.assign (Operand.tmp 29), type := 4, pos := "outright.go:18", after := #[{ on := 4, ground := Ground.data }, { on := 1, ground := Ground.chain }, { on := 0, ground := Ground.phase }, { on := 1, ground := Ground.phase }, { on := 2, ground := Ground.phase }, { on := 3, ground := Ground.phase }, { on := 4, ground := Ground.phase }], guard := none }) (v := ?_) rfl (by kernel_rfl) (by kernel_rfl) (by kernel_rfl) (fun _ _ _ h => h) (Or.inl ⟨by rfl, ?_⟩) hHeld ?_
    rotate_left
    · intro w hSw; (try dsimp only at hSw); go_simp; first | done | with_reducible rfl
    try simp only [Act.put, List.setIfInBounds_toArray, List.set_cons_zero, List.set_cons_succ]
    refine wpAnyH_done (by kernel_rfl) ?_ _
    go_wp2_with fail
    go_ret
    refine ⟨?_, HKW.out, HNN.out⟩
    first | rfl | simp
  by_cases h3 : kd = 3
  · have hXe : X = textS s := by rw [HFE.out, if_neg h0, if_neg h1, if_neg h2, if_pos h3]
    obtain ⟨m, hm, hmand⟩ := and255 mo
    have HA := hide (rt_go ((s.size : Int) + (m : Int)) w1.drew B F g (X ++ rest) HR1.out (by unfold maxLen at hsz; omega) HT1.out HRG.out hb)
    have hwr : IntKind.i64.wrap ((s.size : Int) + (m : Int)) = (s.size : Int) + (m : Int) := IntWalk.i64_in _ (by omega)
    have HRS : Hid ((cutTS ((s.size : Int) + (m : Int)) (X ++ rest)).map (·.2) = some rest) := hide (by rw [hXe, cutTS_textS _ _ _ hsz, if_neg (by omega)]; rfl)
    have HVL : Hid (Value.string (strOfNums (((cutTS ((s.size : Int) + (m : Int)) (X ++ rest)).map (·.1)).getD [])) = .string s) := hide (by rw [hXe, cutTS_textS _ _ _ hsz, if_neg (by omega)]; simp only [Option.map_some, Option.getD_some]; rw [str_bytesOf])
    clear HFE hXe 
    go_wp2_with fail
    refine wp_region_held_drew (S := fun w' => w'.cell? ⟨fb, 2, none⟩ = some (.int .i64 mo) ∧ w'.cell? ⟨fb, 3, none⟩ = some (.int .u64 (n : Nat)) ∧ w'.cell? ⟨fb, 4, none⟩ = some (.string s)) (by kernel_rfl) ⟨c2, c3, c4⟩ (fun hHeld => ?_)
    refine wpAnyH_take (i := 0) (oi := { dst := some 32, op := Op.move (Operand.tmp 0), type := 38, pos := "outright.go:20", after := #[], guard := none }) (v := ?_) rfl (by kernel_rfl) (by kernel_rfl) (by kernel_rfl) (fun _ _ _ h => h) (Or.inl ⟨by rfl, ?_⟩) hHeld ?_
    rotate_left
    · intro w hSw; (try dsimp only at hSw); go_simp; first | done | with_reducible rfl
    try simp only [Act.put, List.setIfInBounds_toArray, List.set_cons_zero, List.set_cons_succ]
    refine wpAnyH_take (i := 1) (oi := { dst := some 33, op := Op.fieldAddr 32 (Operand.tmp 3) 4, type := 0, pos := "outright.go:20", after := #[], guard := none }) (v := ?_) rfl (by kernel_rfl) (by kernel_rfl) (by kernel_rfl) (fun _ _ _ h => h) (Or.inl ⟨by rfl, ?_⟩) hHeld ?_
    rotate_left
    · intro w hSw; (try dsimp only at hSw); go_simp; first | done | with_reducible rfl
    try simp only [Act.put, List.setIfInBounds_toArray, List.set_cons_zero, List.set_cons_succ]
    refine wpAnyH_take (i := 2) (oi := { dst := some 34, op := Op.load 9 (Operand.tmp 33), type := 9, pos := "outright.go:20", after := #[{ on := 1, ground := Ground.data }], guard := none }) (v := ?_) rfl (by kernel_rfl) (by kernel_rfl) (by kernel_rfl) (fun _ _ _ h => h) (Or.inl ⟨by rfl, ?_⟩) hHeld ?_
    rotate_left
    · intro w hSw; (try dsimp only at hSw); (have d2 := hSw.1; have d3 := hSw.2.1; have d4 := hSw.2.2); go_simp; first | done | with_reducible rfl
    try simp only [Act.put, List.setIfInBounds_toArray, List.set_cons_zero, List.set_cons_succ]
    refine wpAnyH_take (i := 3) (oi := { dst := some 35, op := Op.call { callee := Callee.builtin Builtin.len, args := #[Operand.tmp 34], argTypes := #[9] }, type := 3, pos := "outright.go:20", after := #[{ on := 2, ground := Ground.data }], guard := none }) (v := ?_) rfl (by kernel_rfl) (by kernel_rfl) (by kernel_rfl) (fun _ _ _ h => h) (Or.inl ⟨by rfl, ?_⟩) hHeld ?_
    rotate_left
    · intro w hSw; (try dsimp only at hSw); go_simp; first | done | with_reducible rfl
    try simp only [Act.put, List.setIfInBounds_toArray, List.set_cons_zero, List.set_cons_succ]
    refine wpAnyH_take (i := 4) (oi := { dst := some 36, op := Op.fieldAddr 32 (Operand.tmp 3) 2, type := 0, pos := "outright.go:20", after := #[], guard := none }) (v := ?_) rfl (by kernel_rfl) (by kernel_rfl) (by kernel_rfl) (fun _ _ _ h => h) (Or.inl ⟨by rfl, ?_⟩) hHeld ?_
    rotate_left
    · intro w hSw; (try dsimp only at hSw); go_simp; first | done | with_reducible rfl
    try simp only [Act.put, List.setIfInBounds_toArray, List.set_cons_zero, List.set_cons_succ]
    refine wpAnyH_take (i := 5) (oi := { dst := some 37, op := Op.load 3 (Operand.tmp 36), type := 3, pos := "outright.go:20", after := #[{ on := 4, ground := Ground.data }], guard := none }) (v := ?_) rfl (by kernel_rfl) (by kernel_rfl) (by kernel_rfl) (fun _ _ _ h => h) (Or.inl ⟨by rfl, ?_⟩) hHeld ?_
    rotate_left
    · intro w hSw; (try dsimp only at hSw); (have d2 := hSw.1; have d3 := hSw.2.1; have d4 := hSw.2.2); go_simp; first | done | with_reducible rfl
    try simp only [Act.put, List.setIfInBounds_toArray, List.set_cons_zero, List.set_cons_succ]
    refine wpAnyH_take (i := 6) (oi := { dst := some 38, op := Op.binOp BinOp.and 3 (Operand.tmp 37) (Operand.const (Value.int IntKind.i64 255)) 3, type := 3, pos := "outright.go:20", after := #[{ on := 5, ground := Ground.data }], guard := none }) (v := ?_) rfl (by kernel_rfl) (by kernel_rfl) (by kernel_rfl) (fun _ _ _ h => h) (Or.inl ⟨by rfl, ?_⟩) hHeld ?_
    rotate_left
    · intro w hSw; (try dsimp only at hSw); go_simp; first | done | with_reducible rfl
    try simp only [Act.put, List.setIfInBounds_toArray, List.set_cons_zero, List.set_cons_succ]
    refine wpAnyH_take (i := 7) (oi := { dst := some 39, op := Op.binOp BinOp.add 3 (Operand.tmp 35) (Operand.tmp 38) 3, type := 3, pos := "outright.go:20", after := #[{ on := 3, ground := Ground.data }, { on := 6, ground := Ground.data }], guard := none }) (v := ?_) rfl (by kernel_rfl) (by kernel_rfl) (by kernel_rfl) (fun _ _ _ h => h) (Or.inl ⟨by rfl, ?_⟩) hHeld ?_
    rotate_left
    · intro w hSw; (try dsimp only at hSw); go_simp; first | done | with_reducible rfl
    try simp only [Act.put, List.setIfInBounds_toArray, List.set_cons_zero, List.set_cons_succ]
    refine wpAnyH_take (i := 9) (oi := { dst := some 41, op := Op.fieldAddr 32 (Operand.tmp 3) 4, type := 0, pos := "outright.go:20", after := #[], guard := none }) (v := ?_) rfl (by kernel_rfl) (by kernel_rfl) (by kernel_rfl) (fun _ _ _ h => h) (Or.inl ⟨by rfl, ?_⟩) hHeld ?_
    rotate_left
    · intro w hSw; (try dsimp only at hSw); go_simp; first | done | with_reducible rfl
    try simp only [Act.put, List.setIfInBounds_toArray, List.set_cons_zero, List.set_cons_succ]
    refine wpAnyH_take (i := 10) (oi := { dst := some 42, op := Op.load 9 (Operand.tmp 41), type := 9, pos := "outright.go:20", after := #[{ on := 9, ground := Ground.data }], guard := none }) (v := ?_) rfl (by kernel_rfl) (by kernel_rfl) (by kernel_rfl) (fun _ _ _ h => h) (Or.inl ⟨by rfl, ?_⟩) hHeld ?_
    rotate_left
    · intro w hSw; (try dsimp only at hSw); (have d2 := hSw.1; have d3 := hSw.2.1; have d4 := hSw.2.2); go_simp; first | done | with_reducible rfl
    try simp only [Act.put, List.setIfInBounds_toArray, List.set_cons_zero, List.set_cons_succ]
    refine wpAnyH_ready (rs := [8]) (by kernel_rfl) (by simp) ?_
    refine AllReadyH.cons (o := { dst := some 40, op := Op.call { callee := Callee.value (Operand.func 26), args := #[Operand.tmp 32, Operand.tmp 39], argTypes := #[38, 3] }, type := 9, pos := "outright.go:20", after := #[{ on := 0, ground := Ground.data }, { on := 7, ground := Ground.data }], guard := none }) rfl (fun K hK => ?_) AllReadyH.nil
    clear hHeld
    go_simp
    refine HA.out.mono ?_
    intro e w2 hp
    obtain ⟨hK, _, v, rfl, hf, hN⟩ := hp.some HRS.out
    rw [HVL.out] at hf
    subst hf
    have hSn : w2.cell? ⟨fb, 2, none⟩ = some (.int .i64 mo) ∧ w2.cell? ⟨fb, 3, none⟩ = some (.int .u64 (n : Nat)) ∧ w2.cell? ⟨fb, 4, none⟩ = some (.string s) := keepCells hK (HFF.out) HFBL.out c2 c3 c4
    have HKW := hide (HKp.out.trans ((Keep.drew F w1).trans hK (fun _ h => .inl h)) (fun _ h => .inl h))
    have HNN := hide hN
    clear hK hN hp
    dsimp only
    refine hK.out _ _ (hSn) (fun hHeld => ?_)
    clear hK K
    try simp only [Act.put, List.setIfInBounds_toArray, List.set_cons_zero, List.set_cons_succ]
    refine wpAnyH_take (i := 11) (oi := { dst := some 43, op := Op.binOp BinOp.eql 9 (Operand.tmp 40) (Operand.tmp 42) 9, type := 4, pos := "outright.go:20", after := #[{ on := 8, ground := Ground.data }, { on := 10, ground := Ground.data }], guard := none }) (v := ?_) rfl (by kernel_rfl) (by kernel_rfl) (by kernel_rfl) (fun _ _ _ h => h) (Or.inl ⟨by rfl, ?_⟩) hHeld ?_
    rotate_left
    · intro w hSw; (try dsimp only at hSw); go_simp; first | done | with_reducible rfl
    try simp only [Act.put, List.setIfInBounds_toArray, List.set_cons_zero, List.set_cons_succ]
    refine wpAnyH_take (i := 12) (oi := { dst := some 4, op := Op.assign (Operand.tmp 43), type := 4, pos := "outright.go:20", after := #[{ on := 11, ground := Ground.data }, { on := 8, ground := Ground.chain }, { on := 0, ground := Ground.phase }, { on := 1, ground := Ground.phase }, { on := 2, ground := Ground.phase }, { on := 3, ground := Ground.phase }, { on := 4, ground := Ground.phase }, { on := 5, ground := Ground.phase }, { on := 6, ground := Ground.phase }, { on := 7, ground := Ground.phase }, { on := 8, ground := Ground.phase }, { on := 9, ground := Ground.phase }, { on := 10, ground := Ground.phase }, { on := 11, ground := Ground.phase }], guard := none }) (v := ?_) rfl (by kernel_rfl) (by kernel_rfl) (by kernel_rfl) (fun _ _ _ h => h) (Or.inl ⟨by rfl, ?_⟩) hHeld ?_
    rotate_left
    · intro w hSw; (try dsimp only at hSw); go_simp; first | done | with_reducible rfl
    try simp only [Act.put, List.setIfInBounds_toArray, List.set_cons_zero, List.set_cons_succ]
    refine wpAnyH_done (by kernel_rfl) ?_ _
    go_wp2_with fail
    go_ret
    refine ⟨?_, HKW.out, HNN.out⟩
    first | rfl | simp
  · have hXe : X = bytesOf s := by rw [HFE.out, if_neg h0, if_neg h1, if_neg h2, if_neg h3]
    have HA := hide (rr_go (s.size : Int) w1.drew B F g (X ++ rest) HR1.out hb)
    have HRS : Hid (cutRS (s.size : Int) (X ++ rest) = some rest) := hide (by rw [hXe, cutRS, if_neg (by rw [List.length_append, length_bytesOf]; omega)]; congr 1; rw [Int.toNat_natCast, List.drop_left' (length_bytesOf s)])
    have HVL : Hid (strOfNums (bytesOf s) = s) := hide (str_bytesOf s)
    have HTK : Hid ((X ++ rest).take ((s.size : Int)).toNat = bytesOf s) := hide (by rw [hXe, Int.toNat_natCast, List.take_left' (length_bytesOf s)])
    have HLN : Hid ((bytesOf s).length = s.size) := hide (length_bytesOf s)
    clear HFE hXe 
    go_wp2_with fail
    refine wp_region_held_drew (S := fun w' => w'.cell? ⟨fb, 2, none⟩ = some (.int .i64 mo) ∧ w'.cell? ⟨fb, 3, none⟩ = some (.int .u64 (n : Nat)) ∧ w'.cell? ⟨fb, 4, none⟩ = some (.string s)) (by kernel_rfl) ⟨c2, c3, c4⟩ (fun hHeld => ?_)
    refine wpAnyH_take (i := 0) (oi := { dst := some 44, op := Op.move (Operand.tmp 0), type := 38, pos := "outright.go:22", after := #[], guard := none }) (v := ?_) rfl (by kernel_rfl) (by kernel_rfl) (by kernel_rfl) (fun _ _ _ h => h) (Or.inl ⟨by rfl, ?_⟩) hHeld ?_
    rotate_left
    · intro w hSw; (try dsimp only at hSw); go_simp; first | done | with_reducible rfl
    try simp only [Act.put, List.setIfInBounds_toArray, List.set_cons_zero, List.set_cons_succ]
    refine wpAnyH_take (i := 1) (oi := { dst := some 45, op := Op.fieldAddr 32 (Operand.tmp 3) 4, type := 0, pos := "outright.go:22", after := #[], guard := none }) (v := ?_) rfl (by kernel_rfl) (by kernel_rfl) (by kernel_rfl) (fun _ _ _ h => h) (Or.inl ⟨by rfl, ?_⟩) hHeld ?_
    rotate_left
    · intro w hSw; (try dsimp only at hSw); go_simp; first | done | with_reducible rfl
    try simp only [Act.put, List.setIfInBounds_toArray, List.set_cons_zero, List.set_cons_succ]
    refine wpAnyH_take (i := 2) (oi := { dst := some 46, op := Op.load 9 (Operand.tmp 45), type := 9, pos := "outright.go:22", after := #[{ on := 1, ground := Ground.data }], guard := none }) (v := ?_) rfl (by kernel_rfl) (by kernel_rfl) (by kernel_rfl) (fun _ _ _ h => h) (Or.inl ⟨by rfl, ?_⟩) hHeld ?_
    rotate_left
    · intro w hSw; (try dsimp only at hSw); (have d2 := hSw.1; have d3 := hSw.2.1; have d4 := hSw.2.2); go_simp; first | done | with_reducible rfl
    try simp only [Act.put, List.setIfInBounds_toArray, List.set_cons_zero, List.set_cons_succ]
    refine wpAnyH_take (i := 3) (oi := { dst := some 47, op := Op.call { callee := Callee.builtin Builtin.len, args := #[Operand.tmp 46], argTypes := #[9] }, type := 3, pos := "outright.go:22", after := #[{ on := 2, ground := Ground.data }], guard := none }) (v := ?_) rfl (by kernel_rfl) (by kernel_rfl) (by kernel_rfl) (fun _ _ _ h => h) (Or.inl ⟨by rfl, ?_⟩) hHeld ?_
    rotate_left
    · intro w hSw; (try dsimp only at hSw); go_simp; first | done | with_reducible rfl
    try simp only [Act.put, List.setIfInBounds_toArray, List.set_cons_zero, List.set_cons_succ]
    refine wpAnyH_take (i := 6) (oi := { dst := some 50, op := Op.fieldAddr 32 (Operand.tmp 3) 4, type := 0, pos := "outright.go:22", after := #[], guard := none }) (v := ?_) rfl (by kernel_rfl) (by kernel_rfl) (by kernel_rfl) (fun _ _ _ h => h) (Or.inl ⟨by rfl, ?_⟩) hHeld ?_
    rotate_left
    · intro w hSw; (try dsimp only at hSw); go_simp; first | done | with_reducible rfl
    try simp only [Act.put, List.setIfInBounds_toArray, List.set_cons_zero, List.set_cons_succ]
    refine wpAnyH_take (i := 7) (oi := { dst := some 51, op := Op.load 9 (Operand.tmp 50), type := 9, pos := "outright.go:22", after := #[{ on := 6, ground := Ground.data }], guard := none }) (v := ?_) rfl (by kernel_rfl) (by kernel_rfl) (by kernel_rfl) (fun _ _ _ h => h) (Or.inl ⟨by rfl, ?_⟩) hHeld ?_
    rotate_left
    · intro w hSw; (try dsimp only at hSw); (have d2 := hSw.1; have d3 := hSw.2.1; have d4 := hSw.2.2); go_simp; first | done | with_reducible rfl
    try simp only [Act.put, List.setIfInBounds_toArray, List.set_cons_zero, List.set_cons_succ]
    refine wpAnyH_ready (rs := [4]) (by kernel_rfl) (by simp) ?_
    refine AllReadyH.cons (o := { dst := some 48, op := Op.call { callee := Callee.value (Operand.func 28), args := #[Operand.tmp 44, Operand.tmp 47], argTypes := #[38, 3] }, type := 28, pos := "outright.go:22", after := #[{ on := 0, ground := Ground.data }, { on := 3, ground := Ground.data }], guard := none }) rfl (fun K hK => ?_) AllReadyH.nil
    clear hHeld
    go_simp
    refine HA.out.mono ?_
    intro e w2 hp
    obtain ⟨hK, _, v, rfl, hf, hN⟩ := hp.some HRS.out
    rw [HTK.out] at hf
    have hst := hf.str
    rw [HVL.out] at hst
    obtain ⟨ao, cap, hvv⟩ := hf.slAt.len
    rw [HLN.out] at hvv
    subst hvv
    have hSn : w2.cell? ⟨fb, 2, none⟩ = some (.int .i64 mo) ∧ w2.cell? ⟨fb, 3, none⟩ = some (.int .u64 (n : Nat)) ∧ w2.cell? ⟨fb, 4, none⟩ = some (.string s) := keepCells hK (HFF.out) HFBL.out c2 c3 c4
    have HKW := hide (HKp.out.trans ((Keep.drew F w1).trans hK (fun _ h => .inl h)) (fun _ h => .inl h))
    have HNN := hide hN
    clear hK hN hp
    dsimp only
    refine hK.out _ _ (hSn) (fun hHeld => ?_)
    clear hK K
    try simp only [Act.put, List.setIfInBounds_toArray, List.set_cons_zero, List.set_cons_succ]
    refine wpAnyH_ready (rs := [5]) (by kernel_rfl) (by simp) ?_
    refine AllReadyH.cons (o := { dst := some 49, op := Op.convert 28 9 (Operand.tmp 48), type := 9, pos := "outright.go:22", after := #[{ on := 4, ground := Ground.data }], guard := none }) rfl (fun K hK => ?_) AllReadyH.nil
    clear hHeld
    go_simp
    refine hK.out _ _ (hSn) (fun hHeld => ?_)
    clear hK K
    try simp only [Act.put, List.setIfInBounds_toArray, List.set_cons_zero, List.set_cons_succ]
    refine wpAnyH_take (i := 8) (oi := { dst := some 52, op := Op.binOp BinOp.eql 9 (Operand.tmp 49) (Operand.tmp 51) 9, type := 4, pos := "outright.go:22", after := #[{ on := 5, ground := Ground.data }, { on := 7, ground := Ground.data }], guard := none }) (v := ?_) rfl (by kernel_rfl) (by kernel_rfl) (by kernel_rfl) (fun _ _ _ h => h) (Or.inl ⟨by rfl, ?_⟩) hHeld ?_
    rotate_left
    · intro w hSw; (try dsimp only at hSw); go_simp; first | done | with_reducible rfl
    try simp only [Act.put, List.setIfInBounds_toArray, List.set_cons_zero, List.set_cons_succ]
    refine wpAnyH_take (i := 9) (oi := { dst := some 4, op := Op.assign (Operand.tmp 52), type := 4, pos := "outright.go:22", after := #[{ on := 8, ground := Ground.data }, { on := 4, ground := Ground.chain }, { on := 0, ground := Ground.phase }, { on := 1, ground := Ground.phase }, { on := 2, ground := Ground.phase }, { on := 3, ground := Ground.phase }, { on := 4, ground := Ground.phase }, { on := 5, ground := Ground.phase }, { on := 6, ground := Ground.phase }, { on := 7, ground := Ground.phase }, { on := 8, ground := Ground.phase }], guard := none }) (v := ?_) rfl (by kernel_rfl) (by kernel_rfl) (by kernel_rfl) (fun _ _ _ h => h) (Or.inl ⟨by rfl, ?_⟩) hHeld ?_
    rotate_left
    · intro w hSw; (try dsimp only at hSw); go_simp; first | done | with_reducible rfl
    try simp only [Act.put, List.setIfInBounds_toArray, List.set_cons_zero, List.set_cons_succ]
    refine wpAnyH_done (by kernel_rfl) ?_ _
    go_wp2_with fail
    go_ret
    refine ⟨?_, HKW.out, HNN.out⟩
    first | rfl | simp

set_option maxRecDepth 100000 in
set_option maxHeartbeats 4000000 in
theorem answers_short (f : Fld) (hf : f.ok) (hs2 : f.s.size ≤ 100000000) (j : Nat) (hj : j < (fieldS f).length) (W : World) (B : Nat) (F : Nat → Prop) (g : Nat) (ht : Tab W) (hr : Rd W B F g ((fieldS f).take j) false) (hrg : ∀ x ∈ (fieldS f).take j, 0 ≤ x ∧ x < 256) (hb : ((fieldS f).take j).length ≤ 140737488355328) :
    Calls Tryd.prog 37 #[.pointer (some ⟨g, 0, none⟩), f.val] W (AnsShort W B F g ((fieldS f).take j)) := by
  have HK := hide (kind_any f (W.alloc (.cells f.cells.toArray 32)))
  have hrow := heap_alloc_new W (.cells f.cells.toArray 32)
  have HB0 : Hid (Below W.heap.size W (W.alloc (.cells f.cells.toArray 32))) := hide ((Below.refl _ _).alloc (Nat.le_refl _) _)
  have HH := hide hr
  have HT := hide ht
  have HRG := hide hrg
  have HFF : Hid (¬ F W.heap.size) := hide (fun h => by have := (hr.ge _ h).2; omega)
  have HFE : Hid (fieldS f = if f.kd = 0 then [((f.n % 256 : Nat) : Int)] else if f.kd = 1 then u32S (f.n % 4294967296) else if f.kd = 2 then uintS f.n else if f.kd = 3 then textS f.s else bytesOf f.s) := hide rfl
  clear hr ht hrg
  obtain ⟨hn, hsz, _, _⟩ := hf
  obtain ⟨n, hnn⟩ : ∃ n, n = f.n := ⟨_, rfl⟩
  obtain ⟨s, hss⟩ : ∃ s, s = f.s := ⟨_, rfl⟩
  obtain ⟨mo, hmm⟩ : ∃ mo, mo = f.more := ⟨_, rfl⟩
  obtain ⟨kd, hkd⟩ : ∃ kd, kd = f.kd := ⟨_, rfl⟩
  rw [← hnn] at hn
  rw [← hss] at hsz hs2
  rw [← hnn, ← hss, ← hkd] at HFE
  rw [← hkd] at HK
  obtain ⟨X, hX⟩ : ∃ X, X = fieldS f := ⟨_, rfl⟩
  rw [← hX] at HFE HH HRG hb hj ⊢
  go_enter Tryd.func37, Tryd.ntmps37
  unfold Fld.val at *
  go_wp2_with fail
  refine HK.out.mono ?_
  rintro e w1 ⟨rfl, hBk⟩
  have hl1 : W.heap.size < (W.alloc (.cells f.cells.toArray 32)).heap.size := by simp
  have hrow1 : w1.heap[W.heap.size]? = some (.cells f.cells.toArray 32 (0, 0)) := (hBk.block _ hl1).trans hrow
  have c2 : w1.drew.cell? ⟨W.heap.size, 2, none⟩ = some (.int .i64 f.more) := (cell_of_row w1 _ 2 _ _ _ hrow1).trans rfl
  have c3 : w1.drew.cell? ⟨W.heap.size, 3, none⟩ = some (.int .u64 (f.n : Nat)) := (cell_of_row w1 _ 3 _ _ _ hrow1).trans rfl
  have c4 : w1.drew.cell? ⟨W.heap.size, 4, none⟩ = some (.string f.s) := (cell_of_row w1 _ 4 _ _ _ hrow1).trans rfl
  have hB1 : Below W.heap.size W w1 := HB0.out.trans (hBk.mono (by omega))
  have HKp : Hid (Keep F W w1) := hide (Keep.of_below hB1)
  have HR1 := hide (HH.out.keep (Keep.of_below hB1.drew : Keep (fun _ => False) W w1.drew) (fun _ _ => id))
  have HT1 := hide (HT.out.below hB1.drew HT.out.two)
  have HFBL : Hid (W.heap.size < w1.drew.heap.size) := hide (by have := hBk.size; show W.heap.size < w1.heap.size; omega)
  rw [← hmm] at c2
  rw [← hnn] at c3
  rw [← hss] at c4
  generalize W.heap.size = fb at c2 c3 c4 HFF HFBL ⊢
  clear hB1 hBk hrow1 hl1 HK hrow HB0 hkd hX hnn hss hmm
  by_cases h0 : kd = 0
  · have hXe : X = [((n % 256 : Nat) : Int)] := by rw [HFE.out, if_pos h0]
    have HA := hide (r8_go w1.drew B F g (X.take j) HR1.out)
    have HRS : Hid (cut8 (X.take j) = none) := hide (by rw [hXe] at hj ⊢; obtain rfl : j = 0 := (by simpa using hj); rfl)
    have hw8 : IntKind.u8.wrap (n : Int) = (n : Int) % 256 := by simp [IntKind.wrap, IntKind.signed, IntKind.bits]
    clear HFE hXe hj
    go_wp2_with fail
    refine wp_region_held_drew (S := fun w' => w'.cell? ⟨fb, 2, none⟩ = some (.int .i64 mo) ∧ w'.cell? ⟨fb, 3, none⟩ = some (.int .u64 (n : Nat)) ∧ w'.cell? ⟨fb, 4, none⟩ = some (.string s)) (by kernel_rfl) ⟨c2, c3, c4⟩ (fun hHeld => ?_)
    refine wpAnyH_take (i := 0) (oi := { dst := some 9, op := Op.move (Operand.tmp 0), type := 38, pos := "outright.go:14", after := #[], guard := none }) (v := ?_) rfl (by kernel_rfl) (by kernel_rfl) (by kernel_rfl) (fun _ _ _ h => h) (Or.inl ⟨by rfl, ?_⟩) hHeld ?_
    rotate_left
    · intro w hSw; (try dsimp only at hSw); go_simp; first | done | with_reducible rfl
    try simp only [Act.put, List.setIfInBounds_toArray, List.set_cons_zero, List.set_cons_succ]
    refine wpAnyH_take (i := 2) (oi := { dst := some 11, op := Op.fieldAddr 32 (Operand.tmp 3) 3, type := 0, pos := "outright.go:14", after := #[], guard := none }) (v := ?_) rfl (by kernel_rfl) (by kernel_rfl) (by kernel_rfl) (fun _ _ _ h => h) (Or.inl ⟨by rfl, ?_⟩) hHeld ?_
    rotate_left
    · intro w hSw; (try dsimp only at hSw); go_simp; first | done | with_reducible rfl
    try simp only [Act.put, List.setIfInBounds_toArray, List.set_cons_zero, List.set_cons_succ]
    refine wpAnyH_take (i := 3) (oi := { dst := some 12, op := Op.load 30 (Operand.tmp 11), type := 30, pos := "outright.go:14", after := #[{ on := 2, ground := Ground.data }], guard := none }) (v := ?_) rfl (by kernel_rfl) (by kernel_rfl) (by kernel_rfl) (fun _ _ _ h => h) (Or.inl ⟨by rfl, ?_⟩) hHeld ?_
    rotate_left
    · intro w hSw; (try dsimp only at hSw); (have d2 := hSw.1; have d3 := hSw.2.1; have d4 := hSw.2.2); go_simp; first | done | with_reducible rfl
    try simp only [Act.put, List.setIfInBounds_toArray, List.set_cons_zero, List.set_cons_succ]
    refine wpAnyH_take (i := 4) (oi := { dst := some 13, op := Op.convert 30 5 (Operand.tmp 12), type := 5, pos := "outright.go:14", after := #[{ on := 3, ground := Ground.data }], guard := none }) (v := ?_) rfl (by kernel_rfl) (by kernel_rfl) (by kernel_rfl) (fun _ _ _ h => h) (Or.inl ⟨by rfl, ?_⟩) hHeld ?_
    rotate_left
    · intro w hSw; (try dsimp only at hSw); go_simp; first | done | with_reducible rfl
    try simp only [Act.put, List.setIfInBounds_toArray, List.set_cons_zero, List.set_cons_succ]
    refine wpAnyH_ready (rs := [1]) (by kernel_rfl) (by simp) ?_
    refine AllReadyH.cons (o := { dst := some 10, op := Op.call { callee := Callee.value (Operand.func 21), args := #[Operand.tmp 9], argTypes := #[38] }, type := 5, pos := "outright.go:14", after := #[{ on := 0, ground := Ground.data }], guard := none }) rfl (fun K hK => ?_) AllReadyH.nil
    clear hHeld
    go_simp
    refine HA.out.mono ?_
    intro e w2 hp
    obtain ⟨hK, _, rfl, hN⟩ := hp.none HRS.out
    have hSn : w2.cell? ⟨fb, 2, none⟩ = some (.int .i64 mo) ∧ w2.cell? ⟨fb, 3, none⟩ = some (.int .u64 (n : Nat)) ∧ w2.cell? ⟨fb, 4, none⟩ = some (.string s) := keepCells hK (HFF.out) HFBL.out c2 c3 c4
    have HKW := hide (HKp.out.trans ((Keep.drew F w1).trans hK (fun _ h => .inl h)) (fun _ h => .inl h))
    have HNN := hide hN
    clear hK hN hp
    dsimp only
    refine hK.out _ _ (hSn) (fun hHeld => ?_)
    clear hK K
    try simp only [Act.put, List.setIfInBounds_toArray, List.set_cons_zero, List.set_cons_succ]
    refine wpAnyH_take (i := 5) (oi := { dst := some 14, op := Op.binOp BinOp.eql 5 (Operand.tmp 10) (Operand.tmp 13) 5, type := 4, pos := "outright.go:14", after := #[{ on := 1, ground := Ground.data }, { on := 4, ground := Ground.data }], guard := none }) (v := ?_) rfl (by kernel_rfl) (by kernel_rfl) (by kernel_rfl) (fun _ _ _ h => h) (Or.inl ⟨by rfl, ?_⟩) hHeld ?_
    rotate_left
    · intro w hSw; (try dsimp only at hSw); go_simp; first | done | with_reducible rfl
    try simp only [Act.put, List.setIfInBounds_toArray, List.set_cons_zero, List.set_cons_succ]
    refine wpAnyH_take (i := 6) (oi := { dst := some 4, op := Op.assign (Operand.tmp 14), type := 4, pos := "outright.go:14", after := #[{ on := 5, ground := Ground.data }, { on := 1, ground := Ground.chain }, { on := 0, ground := Ground.phase }, { on := 1, ground := Ground.phase }, { on := 2, ground := Ground.phase }, { on := 3, ground := Ground.phase }, { on := 4, ground := Ground.phase }, { on := 5, ground := Ground.phase }], guard := none }) (v := ?_) rfl (by kernel_rfl) (by kernel_rfl) (by kernel_rfl) (fun _ _ _ h => h) (Or.inl ⟨by rfl, ?_⟩) hHeld ?_
    rotate_left
    · intro w hSw; (try dsimp only at hSw); go_simp; first | done | with_reducible rfl
    try simp only [Act.put, List.setIfInBounds_toArray, List.set_cons_zero, List.set_cons_succ]
    refine wpAnyH_done (by kernel_rfl) ?_ _
    go_wp2_with fail
    go_ret
    exact ⟨⟨_, rfl⟩, HKW.out, HNN.out⟩
  by_cases h1 : kd = 1
  · have hXe : X = u32S (n % 4294967296) := by rw [HFE.out, if_neg h0, if_pos h1]
    have HA := hide (r32_go w1.drew B F g (X.take j) HR1.out HT1.out HRG.out)
    have HRS : Hid (cut32 (X.take j) = none) := hide (by rw [cut32, if_pos]; rw [hXe, u32S, length_u32T] at hj; simp; omega)
    have hw32 : IntKind.u32.wrap (n : Int) = (n : Int) % 4294967296 := by simp [IntKind.wrap, IntKind.signed, IntKind.bits]
    clear HFE hXe hj
    go_wp2_with fail
    refine wp_region_held_drew (S := fun w' => w'.cell? ⟨fb, 2, none⟩ = some (.int .i64 mo) ∧ w'.cell? ⟨fb, 3, none⟩ = some (.int .u64 (n : Nat)) ∧ w'.cell? ⟨fb, 4, none⟩ = some (.string s)) (by kernel_rfl) ⟨c2, c3, c4⟩ (fun hHeld => ?_)
    refine wpAnyH_take (i := 0) (oi := { dst := some 17, op := Op.move (Operand.tmp 0), type := 38, pos := "outright.go:16", after := #[], guard := none }) (v := ?_) rfl (by kernel_rfl) (by kernel_rfl) (by kernel_rfl) (fun _ _ _ h => h) (Or.inl ⟨by rfl, ?_⟩) hHeld ?_
    rotate_left
    · intro w hSw; (try dsimp only at hSw); go_simp; first | done | with_reducible rfl
    try simp only [Act.put, List.setIfInBounds_toArray, List.set_cons_zero, List.set_cons_succ]
    refine wpAnyH_take (i := 2) (oi := { dst := some 19, op := Op.fieldAddr 32 (Operand.tmp 3) 3, type := 0, pos := "outright.go:16", after := #[], guard := none }) (v := ?_) rfl (by kernel_rfl) (by kernel_rfl) (by kernel_rfl) (fun _ _ _ h => h) (Or.inl ⟨by rfl, ?_⟩) hHeld ?_
    rotate_left
    · intro w hSw; (try dsimp only at hSw); go_simp; first | done | with_reducible rfl
    try simp only [Act.put, List.setIfInBounds_toArray, List.set_cons_zero, List.set_cons_succ]
    refine wpAnyH_take (i := 3) (oi := { dst := some 20, op := Op.load 30 (Operand.tmp 19), type := 30, pos := "outright.go:16", after := #[{ on := 2, ground := Ground.data }], guard := none }) (v := ?_) rfl (by kernel_rfl) (by kernel_rfl) (by kernel_rfl) (fun _ _ _ h => h) (Or.inl ⟨by rfl, ?_⟩) hHeld ?_
    rotate_left
    · intro w hSw; (try dsimp only at hSw); (have d2 := hSw.1; have d3 := hSw.2.1; have d4 := hSw.2.2); go_simp; first | done | with_reducible rfl
    try simp only [Act.put, List.setIfInBounds_toArray, List.set_cons_zero, List.set_cons_succ]
    refine wpAnyH_take (i := 4) (oi := { dst := some 21, op := Op.convert 30 46 (Operand.tmp 20), type := 46, pos := "outright.go:16", after := #[{ on := 3, ground := Ground.data }], guard := none }) (v := ?_) rfl (by kernel_rfl) (by kernel_rfl) (by kernel_rfl) (fun _ _ _ h => h) (Or.inl ⟨by rfl, ?_⟩) hHeld ?_
    rotate_left
    · intro w hSw; (try dsimp only at hSw); go_simp; first | done | with_reducible rfl
    try simp only [Act.put, List.setIfInBounds_toArray, List.set_cons_zero, List.set_cons_succ]
    refine wpAnyH_ready (rs := [1]) (by kernel_rfl) (by simp) ?_
    refine AllReadyH.cons (o := { dst := some 18, op := Op.call { callee := Callee.value (Operand.func 23), args := #[Operand.tmp 17], argTypes := #[38] }, type := 46, pos := "outright.go:16", after := #[{ on := 0, ground := Ground.data }], guard := none }) rfl (fun K hK => ?_) AllReadyH.nil
    clear hHeld
    go_simp
    refine HA.out.mono ?_
    intro e w2 hp
    obtain ⟨hK, _, rfl, hN⟩ := hp.none HRS.out
    have hSn : w2.cell? ⟨fb, 2, none⟩ = some (.int .i64 mo) ∧ w2.cell? ⟨fb, 3, none⟩ = some (.int .u64 (n : Nat)) ∧ w2.cell? ⟨fb, 4, none⟩ = some (.string s) := keepCells hK (HFF.out) HFBL.out c2 c3 c4
    have HKW := hide (HKp.out.trans ((Keep.drew F w1).trans hK (fun _ h => .inl h)) (fun _ h => .inl h))
    have HNN := hide hN
    clear hK hN hp
    dsimp only
    refine hK.out _ _ (hSn) (fun hHeld => ?_)
    clear hK K
    try simp only [Act.put, List.setIfInBounds_toArray, List.set_cons_zero, List.set_cons_succ]
    refine wpAnyH_take (i := 5) (oi := { dst := some 22, op := Op.binOp BinOp.eql 46 (Operand.tmp 18) (Operand.tmp 21) 46, type := 4, pos := "outright.go:16", after := #[{ on := 1, ground := Ground.data }, { on := 4, ground := Ground.data }], guard := none }) (v := ?_) rfl (by kernel_rfl) (by kernel_rfl) (by kernel_rfl) (fun _ _ _ h => h) (Or.inl ⟨by rfl, ?_⟩) hHeld ?_
    rotate_left
    · intro w hSw; (try dsimp only at hSw); go_simp; first | done | with_reducible rfl
    try simp only [Act.put, List.setIfInBounds_toArray, List.set_cons_zero, List.set_cons_succ]
    refine wpAnyH_take (i := 6) (oi := { dst := some 4, op := Op.assign (Operand.tmp 22), type := 4, pos := "outright.go:16", after := #[{ on := 5, ground := Ground.data }, { on := 1, ground := Ground.chain }, { on := 0, ground := Ground.phase }, { on := 1, ground := Ground.phase }, { on := 2, ground := Ground.phase }, { on := 3, ground := Ground.phase }, { on := 4, ground := Ground.phase }, { on := 5, ground := Ground.phase }], guard := none }) (v := ?_) rfl (by kernel_rfl) (by kernel_rfl) (by kernel_rfl) (fun _ _ _ h => h) (Or.inl ⟨by rfl, ?_⟩) hHeld ?_
    rotate_left
    · intro w hSw; (try dsimp only at hSw); go_simp; first | done | with_reducible rfl
    try simp only [Act.put, List.setIfInBounds_toArray, List.set_cons_zero, List.set_cons_succ]
    refine wpAnyH_done (by kernel_rfl) ?_ _
    go_wp2_with fail
    go_ret
    exact ⟨⟨_, rfl⟩, HKW.out, HNN.out⟩
  by_cases h2 : kd = 2
  · have hXe : X = uintS n := by rw [HFE.out, if_neg h0, if_neg h1, if_pos h2]
    have HA := hide (ru_go w1.drew B F g (X.take j) HR1.out HT1.out HRG.out)
    have HRS : Hid ((cutUS (X.take j)).map (·.2) = none) := hide (by rw [hXe] at hj ⊢; rw [cutUS_short _ _ hn hj]; rfl)
    clear HFE hXe hj
    go_wp2_with fail
    refine wp_region_held_drew (S := fun w' => w'.cell? ⟨fb, 2, none⟩ = some (.int .i64 mo) ∧ w'.cell? ⟨fb, 3, none⟩ = some (.int .u64 (n : Nat)) ∧ w'.cell? ⟨fb, 4, none⟩ = some (.string s)) (by kernel_rfl) ⟨c2, c3, c4⟩ (fun hHeld => ?_)
    refine wpAnyH_take (i := 0) (oi := { dst := some 25, op := Op.move (Operand.tmp 0), type := 38, pos := "outright.go:18", after := #[], guard := none }) (v := ?_) rfl (by kernel_rfl) (by kernel_rfl) (by kernel_rfl) (fun _ _ _ h => h) (Or.inl ⟨by rfl, ?_⟩) hHeld ?_
    rotate_left
    · intro w hSw; (try dsimp only at hSw); go_simp; first | done | with_reducible rfl
    try simp only [Act.put, List.setIfInBounds_toArray, List.set_cons_zero, List.set_cons_succ]
    refine wpAnyH_take (i := 2) (oi := { dst := some 27, op := Op.fieldAddr 32 (Operand.tmp 3) 3, type := 0, pos := "outright.go:18", after := #[], guard := none }) (v := ?_) rfl (by kernel_rfl) (by kernel_rfl) (by kernel_rfl) (fun _ _ _ h => h) (Or.inl ⟨by rfl, ?_⟩) hHeld ?_
    rotate_left
    · intro w hSw; (try dsimp only at hSw); go_simp; first | done | with_reducible rfl
    try simp only [Act.put, List.setIfInBounds_toArray, List.set_cons_zero, List.set_cons_succ]
    refine wpAnyH_take (i := 3) (oi := { dst := some 28, op := Op.load 30 (Operand.tmp 27), type := 30, pos := "outright.go:18", after := #[{ on := 2, ground := Ground.data }], guard := none }) (v := ?_) rfl (by kernel_rfl) (by kernel_rfl) (by kernel_rfl) (fun _ _ _ h => h) (Or.inl ⟨by rfl, ?_⟩) hHeld ?_
    rotate_left
    · intro w hSw; (try dsimp only at hSw); (have d2 := hSw.1; have d3 := hSw.2.1; have d4 := hSw.2.2); go_simp; first | done | with_reducible rfl
    try simp only [Act.put, List.setIfInBounds_toArray, List.set_cons_zero, List.set_cons_succ]
    refine wpAnyH_ready (rs := [1]) (by kernel_rfl) (by simp) ?_
    refine AllReadyH.cons (o := { dst := some 26, op := Op.call { callee := Callee.value (Operand.func 24), args := #[Operand.tmp 25], argTypes := #[38] }, type := 30, pos := "outright.go:18", after := #[{ on := 0, ground := Ground.data }], guard := none }) rfl (fun K hK => ?_) AllReadyH.nil
    clear hHeld
    go_simp
    refine HA.out.mono ?_
    intro e w2 hp
    obtain ⟨hK, _, rfl, hN⟩ := hp.none HRS.out
    have hSn : w2.cell? ⟨fb, 2, none⟩ = some (.int .i64 mo) ∧ w2.cell? ⟨fb, 3, none⟩ = some (.int .u64 (n : Nat)) ∧ w2.cell? ⟨fb, 4, none⟩ = some (.string s) := keepCells hK (HFF.out) HFBL.out c2 c3 c4
    have HKW := hide (HKp.out.trans ((Keep.drew F w1).trans hK (fun _ h => .inl h)) (fun _ h => .inl h))
    have HNN := hide hN
    clear hK hN hp
    dsimp only
    refine hK.out _ _ (hSn) (fun hHeld => ?_)
    clear hK K
    try simp only [Act.put, List.setIfInBounds_toArray, List.set_cons_zero, List.set_cons_succ]
    refine wpAnyH_take (i := 4) (oi := { dst := some 29, op := Op.binOp BinOp.eql 30 (Operand.tmp 26) (Operand.tmp 28) 30, type := 4, pos := "outright.go:18", after := #[{ on := 1, ground := Ground.data }, { on := 3, ground := Ground.data }], guard := none }) (v := ?_) rfl (by kernel_rfl) (by kernel_rfl) (by kernel_rfl) (fun _ _ _ h => h) (Or.inl ⟨by rfl, ?_⟩) hHeld ?_
    rotate_left
    · intro w hSw; (try dsimp only at hSw); go_simp; first | done | with_reducible rfl
    try simp only [Act.put, List.setIfInBounds_toArray, List.set_cons_zero, List.set_cons_succ]
    refine wpAnyH_take (i := 5) (oi := { dst := some 4, op := Op.assign (Operand.tmp 29), type := 4, pos := "outright.go:18", after := #[{ on := 4, ground := Ground.data }, { on := 1, ground := Ground.chain }, { on := 0, ground := Ground.phase }, { on := 1, ground := Ground.phase }, { on := 2, ground := Ground.phase }, { on := 3, ground := Ground.phase }, { on := 4, ground := Ground.phase }], guard := none }) (v := ?_) rfl (by kernel_rfl) (by kernel_rfl) (by kernel_rfl) (fun _ _ _ h => h) (Or.inl ⟨by rfl, ?_⟩) hHeld ?_
    rotate_left
    · intro w hSw; (try dsimp only at hSw); go_simp; first | done | with_reducible rfl
    try simp only [Act.put, List.setIfInBounds_toArray, List.set_cons_zero, List.set_cons_succ]
    refine wpAnyH_done (by kernel_rfl) ?_ _
    go_wp2_with fail
    go_ret
    exact ⟨⟨_, rfl⟩, HKW.out, HNN.out⟩
  by_cases h3 : kd = 3
  · have hXe : X = textS s := by rw [HFE.out, if_neg h0, if_neg h1, if_neg h2, if_pos h3]
    obtain ⟨m, hm, hmand⟩ := and255 mo
    have HA := hide (rt_go ((s.size : Int) + (m : Int)) w1.drew B F g (X.take j) HR1.out (by unfold maxLen at hsz; omega) HT1.out HRG.out hb)
    have hwr : IntKind.i64.wrap ((s.size : Int) + (m : Int)) = (s.size : Int) + (m : Int) := IntWalk.i64_in _ (by omega)
    have HRS : Hid ((cutTS ((s.size : Int) + (m : Int)) (X.take j)).map (·.2) = none) := hide (by rw [hXe] at hj ⊢; rw [cutTS_short _ _ _ hsz hj]; rfl)
    clear HFE hXe hj
    go_wp2_with fail
    refine wp_region_held_drew (S := fun w' => w'.cell? ⟨fb, 2, none⟩ = some (.int .i64 mo) ∧ w'.cell? ⟨fb, 3, none⟩ = some (.int .u64 (n : Nat)) ∧ w'.cell? ⟨fb, 4, none⟩ = some (.string s)) (by kernel_rfl) ⟨c2, c3, c4⟩ (fun hHeld => ?_)
    refine wpAnyH_take (i := 0) (oi := { dst := some 32, op := Op.move (Operand.tmp 0), type := 38, pos := "outright.go:20", after := #[], guard := none }) (v := ?_) rfl (by kernel_rfl) (by kernel_rfl) (by kernel_rfl) (fun _ _ _ h => h) (Or.inl ⟨by rfl, ?_⟩) hHeld ?_
    rotate_left
    · intro w hSw; (try dsimp only at hSw); go_simp; first | done | with_reducible rfl
    try simp only [Act.put, List.setIfInBounds_toArray, List.set_cons_zero, List.set_cons_succ]
    refine wpAnyH_take (i := 1) (oi := { dst := some 33, op := Op.fieldAddr 32 (Operand.tmp 3) 4, type := 0, pos := "outright.go:20", after := #[], guard := none }) (v := ?_) rfl (by kernel_rfl) (by kernel_rfl) (by kernel_rfl) (fun _ _ _ h => h) (Or.inl ⟨by rfl, ?_⟩) hHeld ?_
    rotate_left
    · intro w hSw; (try dsimp only at hSw); go_simp; first | done | with_reducible rfl
    try simp only [Act.put, List.setIfInBounds_toArray, List.set_cons_zero, List.set_cons_succ]
    refine wpAnyH_take (i := 2) (oi := { dst := some 34, op := Op.load 9 (Operand.tmp 33), type := 9, pos := "outright.go:20", after := #[{ on := 1, ground := Ground.data }], guard := none }) (v := ?_) rfl (by kernel_rfl) (by kernel_rfl) (by kernel_rfl) (fun _ _ _ h => h) (Or.inl ⟨by rfl, ?_⟩) hHeld ?_
    rotate_left
    · intro w hSw; (try dsimp only at hSw); (have d2 := hSw.1; have d3 := hSw.2.1; have d4 := hSw.2.2); go_simp; first | done | with_reducible rfl
    try simp only [Act.put, List.setIfInBounds_toArray, List.set_cons_zero, List.set_cons_succ]
    refine wpAnyH_take (i := 3) (oi := { dst := some 35, op := Op.call { callee := Callee.builtin Builtin.len, args := #[Operand.tmp 34], argTypes := #[9] }, type := 3, pos := "outright.go:20", after := #[{ on := 2, ground := Ground.data }], guard := none }) (v := ?_) rfl (by kernel_rfl) (by kernel_rfl) (by kernel_rfl) (fun _ _ _ h => h) (Or.inl ⟨by rfl, ?_⟩) hHeld ?_
    rotate_left
    · intro w hSw; (try dsimp only at hSw); go_simp; first | done | with_reducible rfl
    try simp only [Act.put, List.setIfInBounds_toArray, List.set_cons_zero, List.set_cons_succ]
    refine wpAnyH_take (i := 4) (oi := { dst := some 36, op := Op.fieldAddr 32 (Operand.tmp 3) 2, type := 0, pos := "outright.go:20", after := #[], guard := none }) (v := ?_) rfl (by kernel_rfl) (by kernel_rfl) (by kernel_rfl) (fun _ _ _ h => h) (Or.inl ⟨by rfl, ?_⟩) hHeld ?_
    rotate_left
    · intro w hSw; (try dsimp only at hSw); go_simp; first | done | with_reducible rfl
    try simp only [Act.put, List.setIfInBounds_toArray, List.set_cons_zero, List.set_cons_succ]
    refine wpAnyH_take (i := 5) (oi := { dst := some 37, op := Op.load 3 (Operand.tmp 36), type := 3, pos := "outright.go:20", after := #[{ on := 4, ground := Ground.data }], guard := none }) (v := ?_) rfl (by kernel_rfl) (by kernel_rfl) (by kernel_rfl) (fun _ _ _ h => h) (Or.inl ⟨by rfl, ?_⟩) hHeld ?_
    rotate_left
    · intro w hSw; (try dsimp only at hSw); (have d2 := hSw.1; have d3 := hSw.2.1; have d4 := hSw.2.2); go_simp; first | done | with_reducible rfl
    try simp only [Act.put, List.setIfInBounds_toArray, List.set_cons_zero, List.set_cons_succ]
    refine wpAnyH_take (i := 6) (oi := { dst := some 38, op := Op.binOp BinOp.and 3 (Operand.tmp 37) (Operand.const (Value.int IntKind.i64 255)) 3, type := 3, pos := "outright.go:20", after := #[{ on := 5, ground := Ground.data }], guard := none }) (v := ?_) rfl (by kernel_rfl) (by kernel_rfl) (by kernel_rfl) (fun _ _ _ h => h) (Or.inl ⟨by rfl, ?_⟩) hHeld ?_
    rotate_left
    · intro w hSw; (try dsimp only at hSw); go_simp; first | done | with_reducible rfl
    try simp only [Act.put, List.setIfInBounds_toArray, List.set_cons_zero, List.set_cons_succ]
    refine wpAnyH_take (i := 7) (oi := { dst := some 39, op := Op.binOp BinOp.add 3 (Operand.tmp 35) (Operand.tmp 38) 3, type := 3, pos := "outright.go:20", after := #[{ on := 3, ground := Ground.data }, { on := 6, ground := Ground.data }], guard := none }) (v := ?_) rfl (by kernel_rfl) (by kernel_rfl) (by kernel_rfl) (fun _ _ _ h => h) (Or.inl ⟨by rfl, ?_⟩) hHeld ?_
    rotate_left
    · intro w hSw; (try dsimp only at hSw); go_simp; first | done | with_reducible rfl
    try simp only [Act.put, List.setIfInBounds_toArray, List.set_cons_zero, List.set_cons_succ]
    refine wpAnyH_take (i := 9) (oi := { dst := some 41, op := Op.fieldAddr 32 (Operand.tmp 3) 4, type := 0, pos := "outright.go:20", after := #[], guard := none }) (v := ?_) rfl (by kernel_rfl) (by kernel_rfl) (by kernel_rfl) (fun _ _ _ h => h) (Or.inl ⟨by rfl, ?_⟩) hHeld ?_
    rotate_left
    · intro w hSw; (try dsimp only at hSw); go_simp; first | done | with_reducible rfl
    try simp only [Act.put, List.setIfInBounds_toArray, List.set_cons_zero, List.set_cons_succ]
    refine wpAnyH_take (i := 10) (oi := { dst := some 42, op := Op.load 9 (Operand.tmp 41), type := 9, pos := "outright.go:20", after := #[{ on := 9, ground := Ground.data }], guard := none }) (v := ?_) rfl (by kernel_rfl) (by kernel_rfl) (by kernel_rfl) (fun _ _ _ h => h) (Or.inl ⟨by rfl, ?_⟩) hHeld ?_
    rotate_left
    · intro w hSw; (try dsimp only at hSw); (have d2 := hSw.1; have d3 := hSw.2.1; have d4 := hSw.2.2); go_simp; first | done | with_reducible rfl
    try simp only [Act.put, List.setIfInBounds_toArray, List.set_cons_zero, List.set_cons_succ]
    refine wpAnyH_ready (rs := [8]) (by kernel_rfl) (by simp) ?_
    refine AllReadyH.cons (o := { dst := some 40, op := Op.call { callee := Callee.value (Operand.func 26), args := #[Operand.tmp 32, Operand.tmp 39], argTypes := #[38, 3] }, type := 9, pos := "outright.go:20", after := #[{ on := 0, ground := Ground.data }, { on := 7, ground := Ground.data }], guard := none }) rfl (fun K hK => ?_) AllReadyH.nil
    clear hHeld
    go_simp
    refine HA.out.mono ?_
    intro e w2 hp
    obtain ⟨hK, _, rfl, hN⟩ := hp.none HRS.out
    have hSn : w2.cell? ⟨fb, 2, none⟩ = some (.int .i64 mo) ∧ w2.cell? ⟨fb, 3, none⟩ = some (.int .u64 (n : Nat)) ∧ w2.cell? ⟨fb, 4, none⟩ = some (.string s) := keepCells hK (HFF.out) HFBL.out c2 c3 c4
    have HKW := hide (HKp.out.trans ((Keep.drew F w1).trans hK (fun _ h => .inl h)) (fun _ h => .inl h))
    have HNN := hide hN
    clear hK hN hp
    dsimp only
    refine hK.out _ _ (hSn) (fun hHeld => ?_)
    clear hK K
    try simp only [Act.put, List.setIfInBounds_toArray, List.set_cons_zero, List.set_cons_succ]
    refine wpAnyH_take (i := 11) (oi := { dst := some 43, op := Op.binOp BinOp.eql 9 (Operand.tmp 40) (Operand.tmp 42) 9, type := 4, pos := "outright.go:20", after := #[{ on := 8, ground := Ground.data }, { on := 10, ground := Ground.data }], guard := none }) (v := ?_) rfl (by kernel_rfl) (by kernel_rfl) (by kernel_rfl) (fun _ _ _ h => h) (Or.inl ⟨by rfl, ?_⟩) hHeld ?_
    rotate_left
    · intro w hSw; (try dsimp only at hSw); go_simp; first | done | with_reducible rfl
    try simp only [Act.put, List.setIfInBounds_toArray, List.set_cons_zero, List.set_cons_succ]
    refine wpAnyH_take (i := 12) (oi := { dst := some 4, op := Op.assign (Operand.tmp 43), type := 4, pos := "outright.go:20", after := #[{ on := 11, ground := Ground.data }, { on := 8, ground := Ground.chain }, { on := 0, ground := Ground.phase }, { on := 1, ground := Ground.phase }, { on := 2, ground := Ground.phase }, { on := 3, ground := Ground.phase }, { on := 4, ground := Ground.phase }, { on := 5, ground := Ground.phase }, { on := 6, ground := Ground.phase }, { on := 7, ground := Ground.phase }, { on := 8, ground := Ground.phase }, { on := 9, ground := Ground.phase }, { on := 10, ground := Ground.phase }, { on := 11, ground := Ground.phase }], guard := none }) (v := ?_) rfl (by kernel_rfl) (by kernel_rfl) (by kernel_rfl) (fun _ _ _ h => h) (Or.inl ⟨by rfl, ?_⟩) hHeld ?_
    rotate_left
    · intro w hSw; (try dsimp only at hSw); go_simp; first | done | with_reducible rfl
    try simp only [Act.put, List.setIfInBounds_toArray, List.set_cons_zero, List.set_cons_succ]
    refine wpAnyH_done (by kernel_rfl) ?_ _
    go_wp2_with fail
    go_ret
    exact ⟨⟨_, rfl⟩, HKW.out, HNN.out⟩
  · have hXe : X = bytesOf s := by rw [HFE.out, if_neg h0, if_neg h1, if_neg h2, if_neg h3]
    have HA := hide (rr_go (s.size : Int) w1.drew B F g (X.take j) HR1.out hb)
    have HRS : Hid (cutRS (s.size : Int) (X.take j) = none) := hide (by rw [cutRS, if_pos]; right; rw [hXe, length_bytesOf] at hj; simp; omega)
    clear HFE hXe hj
    go_wp2_with fail
    refine wp_region_held_drew (S := fun w' => w'.cell? ⟨fb, 2, none⟩ = some (.int .i64 mo) ∧ w'.cell? ⟨fb, 3, none⟩ = some (.int .u64 (n : Nat)) ∧ w'.cell? ⟨fb, 4, none⟩ = some (.string s)) (by kernel_rfl) ⟨c2, c3, c4⟩ (fun hHeld => ?_)
    refine wpAnyH_take (i := 0) (oi := { dst := some 44, op := Op.move (Operand.tmp 0), type := 38, pos := "outright.go:22", after := #[], guard := none }) (v := ?_) rfl (by kernel_rfl) (by kernel_rfl) (by kernel_rfl) (fun _ _ _ h => h) (Or.inl ⟨by rfl, ?_⟩) hHeld ?_
    rotate_left
    · intro w hSw; (try dsimp only at hSw); go_simp; first | done | with_reducible rfl
    try simp only [Act.put, List.setIfInBounds_toArray, List.set_cons_zero, List.set_cons_succ]
    refine wpAnyH_take (i := 1) (oi := { dst := some 45, op := Op.fieldAddr 32 (Operand.tmp 3) 4, type := 0, pos := "outright.go:22", after := #[], guard := none }) (v := ?_) rfl (by kernel_rfl) (by kernel_rfl) (by kernel_rfl) (fun _ _ _ h => h) (Or.inl ⟨by rfl, ?_⟩) hHeld ?_
    rotate_left
    · intro w hSw; (try dsimp only at hSw); go_simp; first | done | with_reducible rfl
    try simp only [Act.put, List.setIfInBounds_toArray, List.set_cons_zero, List.set_cons_succ]
    refine wpAnyH_take (i := 2) (oi := { dst := some 46, op := Op.load 9 (Operand.tmp 45), type := 9, pos := "outright.go:22", after := #[{ on := 1, ground := Ground.data }], guard := none }) (v := ?_) rfl (by kernel_rfl) (by kernel_rfl) (by kernel_rfl) (fun _ _ _ h => h) (Or.inl ⟨by rfl, ?_⟩) hHeld ?_
    rotate_left
    · intro w hSw; (try dsimp only at hSw); (have d2 := hSw.1; have d3 := hSw.2.1; have d4 := hSw.2.2); go_simp; first | done | with_reducible rfl
    try simp only [Act.put, List.setIfInBounds_toArray, List.set_cons_zero, List.set_cons_succ]
    refine wpAnyH_take (i := 3) (oi := { dst := some 47, op := Op.call { callee := Callee.builtin Builtin.len, args := #[Operand.tmp 46], argTypes := #[9] }, type := 3, pos := "outright.go:22", after := #[{ on := 2, ground := Ground.data }], guard := none }) (v := ?_) rfl (by kernel_rfl) (by kernel_rfl) (by kernel_rfl) (fun _ _ _ h => h) (Or.inl ⟨by rfl, ?_⟩) hHeld ?_
    rotate_left
    · intro w hSw; (try dsimp only at hSw); go_simp; first | done | with_reducible rfl
    try simp only [Act.put, List.setIfInBounds_toArray, List.set_cons_zero, List.set_cons_succ]
    refine wpAnyH_take (i := 6) (oi := { dst := some 50, op := Op.fieldAddr 32 (Operand.tmp 3) 4, type := 0, pos := "outright.go:22", after := #[], guard := none }) (v := ?_) rfl (by kernel_rfl) (by kernel_rfl) (by kernel_rfl) (fun _ _ _ h => h) (Or.inl ⟨by rfl, ?_⟩) hHeld ?_
    rotate_left
    · intro w hSw; (try dsimp only at hSw); go_simp; first | done | with_reducible rfl
    try simp only [Act.put, List.setIfInBounds_toArray, List.set_cons_zero, List.set_cons_succ]
    refine wpAnyH_take (i := 7) (oi := { dst := some 51, op := Op.load 9 (Operand.tmp 50), type := 9, pos := "outright.go:22", after := #[{ on := 6, ground := Ground.data }], guard := none }) (v := ?_) rfl (by kernel_rfl) (by kernel_rfl) (by kernel_rfl) (fun _ _ _ h => h) (Or.inl ⟨by rfl, ?_⟩) hHeld ?_
    rotate_left
    · intro w hSw; (try dsimp only at hSw); (have d2 := hSw.1; have d3 := hSw.2.1; have d4 := hSw.2.2); go_simp; first | done | with_reducible rfl
    try simp only [Act.put, List.setIfInBounds_toArray, List.set_cons_zero, List.set_cons_succ]
    refine wpAnyH_ready (rs := [4]) (by kernel_rfl) (by simp) ?_
    refine AllReadyH.cons (o := { dst := some 48, op := Op.call { callee := Callee.value (Operand.func 28), args := #[Operand.tmp 44, Operand.tmp 47], argTypes := #[38, 3] }, type := 28, pos := "outright.go:22", after := #[{ on := 0, ground := Ground.data }, { on := 3, ground := Ground.data }], guard := none }) rfl (fun K hK => ?_) AllReadyH.nil
    clear hHeld
    go_simp
    refine HA.out.mono ?_
    intro e w2 hp
    obtain ⟨hK, _, rfl, hN⟩ := hp.none HRS.out
    have hSn : w2.cell? ⟨fb, 2, none⟩ = some (.int .i64 mo) ∧ w2.cell? ⟨fb, 3, none⟩ = some (.int .u64 (n : Nat)) ∧ w2.cell? ⟨fb, 4, none⟩ = some (.string s) := keepCells hK (HFF.out) HFBL.out c2 c3 c4
    have HKW := hide (HKp.out.trans ((Keep.drew F w1).trans hK (fun _ h => .inl h)) (fun _ h => .inl h))
    have HNN := hide hN
    clear hK hN hp
    dsimp only
    refine hK.out _ _ (hSn) (fun hHeld => ?_)
    clear hK K
    try simp only [Act.put, List.setIfInBounds_toArray, List.set_cons_zero, List.set_cons_succ]
    refine wpAnyH_ready (rs := [5]) (by kernel_rfl) (by simp) ?_
    refine AllReadyH.cons (o := { dst := some 49, op := Op.convert 28 9 (Operand.tmp 48), type := 9, pos := "outright.go:22", after := #[{ on := 4, ground := Ground.data }], guard := none }) rfl (fun K hK => ?_) AllReadyH.nil
    clear hHeld
    go_simp
    refine hK.out _ _ (hSn) (fun hHeld => ?_)
    clear hK K
    try simp only [Act.put, List.setIfInBounds_toArray, List.set_cons_zero, List.set_cons_succ]
    refine wpAnyH_take (i := 8) (oi := { dst := some 52, op := Op.binOp BinOp.eql 9 (Operand.tmp 49) (Operand.tmp 51) 9, type := 4, pos := "outright.go:22", after := #[{ on := 5, ground := Ground.data }, { on := 7, ground := Ground.data }], guard := none }) (v := ?_) rfl (by kernel_rfl) (by kernel_rfl) (by kernel_rfl) (fun _ _ _ h => h) (Or.inl ⟨by rfl, ?_⟩) hHeld ?_
    rotate_left
    · intro w hSw; (try dsimp only at hSw); go_simp; first | done | with_reducible rfl
    try simp only [Act.put, List.setIfInBounds_toArray, List.set_cons_zero, List.set_cons_succ]
    refine wpAnyH_take (i := 9) (oi := { dst := some 4, op := Op.assign (Operand.tmp 52), type := 4, pos := "outright.go:22", after := #[{ on := 8, ground := Ground.data }, { on := 4, ground := Ground.chain }, { on := 0, ground := Ground.phase }, { on := 1, ground := Ground.phase }, { on := 2, ground := Ground.phase }, { on := 3, ground := Ground.phase }, { on := 4, ground := Ground.phase }, { on := 5, ground := Ground.phase }, { on := 6, ground := Ground.phase }, { on := 7, ground := Ground.phase }, { on := 8, ground := Ground.phase }], guard := none }) (v := ?_) rfl (by kernel_rfl) (by kernel_rfl) (by kernel_rfl) (fun _ _ _ h => h) (Or.inl ⟨by rfl, ?_⟩) hHeld ?_
    rotate_left
    · intro w hSw; (try dsimp only at hSw); go_simp; first | done | with_reducible rfl
    try simp only [Act.put, List.setIfInBounds_toArray, List.set_cons_zero, List.set_cons_succ]
    refine wpAnyH_done (by kernel_rfl) ?_ _
    go_wp2_with fail
    go_ret
    exact ⟨⟨_, rfl⟩, HKW.out, HNN.out⟩
end Go.Proofs.YtjcdmffjpkckoaaDoor
