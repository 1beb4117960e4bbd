/- The law CodeShort, walked. -/
import Derived.Test.YtjcdmffjpkckoaaDoorCdNum
import Derived.Test.YtjcdmffjpkckoaaDoorCdAwake
import Derived.StillTailTactics
namespace Go.Proofs.YtjcdmffjpkckoaaDoor
open Go.RowKit

def numF (x : Nat) : Fld := ⟨2, 0, 0, x, ⟨#[]⟩⟩
theorem str_toList (a b : ByteArray) (h : a.toList = b.toList) : a = b := by
  rw [ByteArray.toList_eq, ByteArray.toList_eq] at h
  have h2 := Array.toList_inj.1 h
  cases a; cases b; simp_all
theorem numF_bytes (x : Nat) : fieldsS [numF x] = uintS x := by
  have : (numF x).kd = 2 := by show Int.tmod (bits BinOp.and IntKind.i64 2 65535) 5 = 2; decide
  have h2 : (numF x).n = x := rfl
  simp [fieldsS, fieldS, this, h2]
theorem numF_ok (x : Nat) (h : x < 18446744073709551616) : (numF x).ok := ⟨h, by show 0 ≤ maxLen; omega, by simp [numF], by simp [numF]⟩

theorem written_num (x : Nat) (hx : x < 18446744073709551616) (w : World) (ht : Tab w) :
    Calls Tryd.prog 35 #[.slice (some ⟨w.heap.size, 0, none⟩) 1 1] (w.alloc (.cells #[.int .i64 2, .int .i64 0, .int .i64 0, .int .u64 (x : Nat), .string ⟨#[]⟩] 32)) (fun e w' => ∃ v, e = .returned v ∧ SlAt w' v (uintS x) ∧ Below w.heap.size w w') := by
  have hB : Below w.heap.size w (w.alloc (.cells (numF x).cells.toArray 32)) := (Below.refl _ _).alloc (Nat.le_refl _) _
  have hlen := uintS_len x
  have h := written_any [numF x] _ _ (ht.below hB ht.two) (fat_one w (numF x)) (by intro f hf; rw [List.mem_singleton.1 hf]; exact numF_ok x hx) (by rw [numF_bytes]; omega) (by intro f hf; rw [List.mem_singleton.1 hf]; show 0 ≤ 100000000; omega) (by simp)
  rw [numF_bytes] at h
  refine Calls.mono h ?_
  rintro e w' ⟨v, rfl, hr, hb⟩
  exact ⟨v, rfl, hr.slAt, hB.trans (hb.mono hB.size)⟩

set_option maxRecDepth 100000 in
set_option maxHeartbeats 4000000 in
theorem short_walk (x y : Nat) (w : World) (ht : Tab w) (hx : x < 18446744073709551616) (hy : y < 18446744073709551616) :
    Calls Tryd.prog 9 #[.int .u64 x, .int .u64 y] w (LawPost w) := by
  have h2 := ht.two
  have HW := hide (written_num x hx w ht)
  go_enter Tryd.func9, Tryd.ntmps9
  go_wp2_with fail
  refine HW.out.mono ?_
  rintro e w1 ⟨va, rfl, hsa, hB1⟩
  have HSa := hide hsa
  have HB1 := hide hB1
  have HW2 := hide (written_num y hy w1 (ht.below hB1 h2))
  clear hsa hB1 HW
  go_wp2_with fail
  refine HW2.out.mono ?_
  rintro e w2 ⟨vb, rfl, hsb, hB2⟩
  have HSb := hide hsb
  have HSa2 := hide (HSa.out.below hB2)
  have HBB := hide (HB1.out.trans (hB2.mono HB1.out.size))
  clear hsb hB2 HW2 HSa HB1
  by_cases hgt : y < x
  · have HA := HSb
    have HB := HSa2
    have hgi : (y : Int) < (x : Int) := by omega
    have hle : y ≤ x := by omega
    have hm := uintS_mono y x hle
    have hp := uintF_pos 9 y
    have hy10 := uintS_len x
    have hone := uintS_one x
    obtain ⟨la, hla⟩ : ∃ la, la = (uintS y).length := ⟨_, rfl⟩
    obtain ⟨lb, hlb⟩ : ∃ lb, lb = (uintS x).length := ⟨_, rfl⟩
    have hap : 0 < la := by rw [hla]; exact hp
    rw [← hlb] at hy10 hone hm
    rw [← hla] at hm
    have HST : Hid (strOfNums ((uintS x).take la) = strOfNums (uintS y) ↔ y = x) := hide (by
      constructor
      · intro h
        have := strOfNums_inj _ _ (fun z hz => uintS_range x hx z (List.mem_of_mem_take hz)) (uintS_range y hy) h
        rw [hla] at this
        exact uintS_take y x hy hx this
      · rintro rfl
        rw [hla, List.take_length])
    obtain ⟨aoA, capA, hva⟩ := HA.out.len
    obtain ⟨aoB, capB, hvb⟩ := HB.out.len
    rw [← hla] at hva
    rw [← hlb] at hvb
    subst hva hvb
    have HSA := hide HA.out
    have HSB := hide HB.out
    have hlab : la ≤ lb := hm
    have hcut := run_cut_hk (P := Tryd.prog) .i64 Tryd.underlying28 size5 aoB lb capB la (by have := HSB.out.le.1; omega)
    generalize uintS y = XA at HST HSA
    generalize uintS x = XB at HST HSB
    have HAW := hide (awake_any w2.drew (ht.below (HBB.out.drew) ht.two))
    have HONE : Hid (((lb : Int) == 1) = decide ((x : Int) < 128)) := hide (by
      have e1 : ((lb : Int) == 1) = decide (lb = 1) := by rw [Bool.eq_iff_iff]; simp; omega
      rw [e1]
      exact decide_eq_decide.2 (hone.trans (by omega)))
    have hnlt : ¬ lb < la := by omega
    have hl10 : ¬ (10 : Int) < (lb : Int) := by omega
    have hla0 : ((la : Int) == 0) = false := by simp; omega
    clear HA HB hla hlb hp hone hm
    go_wp2_with fail
    all_goals first | (exfalso; rename_i h; exact h HONE.out) | skip
    have HEQ : Hid (((strOfNums (List.take la XB)).toList == (strOfNums XA).toList) = ((y : Int) == (x : Int))) := hide (by
      by_cases hxy : y = x
      · rw [HST.out.2 hxy, hxy, beq_self_eq_true, beq_self_eq_true]
      · have h1 : ¬ (strOfNums (List.take la XB)).toList = (strOfNums XA).toList := fun h => hxy (HST.out.1 (str_toList _ _ h))
        have h2 : ¬ (y : Int) = (x : Int) := by omega
        rw [beq_eq_false_iff_ne.2 h1, beq_eq_false_iff_ne.2 h2])
    clear HST
    refine wp_region_held_drew (S := fun w' => SlAt w' (.slice aoA la capA) XA ∧ SlAt w' (.slice aoB lb capB) XB) (by kernel_rfl) ⟨HSA.out.below (Below.refl _ _).drew, HSB.out.below (Below.refl _ _).drew⟩ (fun hHeld => ?_)
    refine wpAnyH_take (i := 0) (oi := { dst := some 45, op := Op.move (Operand.tmp 6), type := 28, pos := "outright.go:128", after := #[], guard := none }) (v := ?_) rfl (by kernel_rfl) (by kernel_rfl) (by kernel_rfl) (fun _ _ _ h => h) (Or.inl ⟨by rfl, ?_⟩) hHeld ?_
    rotate_left
    · intro w hSw; (try dsimp only at hSw); go_simp; first | done | with_reducible rfl
    try simp only [Act.put, List.setIfInBounds_toArray, List.set_cons_zero, List.set_cons_succ]
    refine wpAnyH_take (i := 1) (oi := { dst := some 46, op := Op.move (Operand.tmp 5), type := 28, pos := "outright.go:128", after := #[], guard := none }) (v := ?_) rfl (by kernel_rfl) (by kernel_rfl) (by kernel_rfl) (fun _ _ _ h => h) (Or.inl ⟨by rfl, ?_⟩) hHeld ?_
    rotate_left
    · intro w hSw; (try dsimp only at hSw); go_simp; first | done | with_reducible rfl
    try simp only [Act.put, List.setIfInBounds_toArray, List.set_cons_zero, List.set_cons_succ]
    refine wpAnyH_take (i := 2) (oi := { dst := some 47, op := Op.call { callee := Callee.builtin Builtin.len, args := #[Operand.tmp 46], argTypes := #[28] }, type := 3, pos := "outright.go:128", after := #[{ on := 1, ground := Ground.data }], guard := none }) (v := ?_) rfl (by kernel_rfl) (by kernel_rfl) (by kernel_rfl) (fun _ _ _ h => h) (Or.inl ⟨by rfl, ?_⟩) hHeld ?_
    rotate_left
    · intro w hSw; (try dsimp only at hSw); go_simp; first | done | with_reducible rfl
    try simp only [Act.put, List.setIfInBounds_toArray, List.set_cons_zero, List.set_cons_succ]
    refine wpAnyH_take (i := 3) (oi := { dst := some 48, op := Op.slice 28 (Operand.tmp 45) none (some (Operand.tmp 47)) none, type := 28, pos := "outright.go:128", after := #[{ on := 0, ground := Ground.data }, { on := 2, ground := Ground.data }], guard := none }) (v := ?_) rfl (by kernel_rfl) (by kernel_rfl) (by kernel_rfl) (fun _ _ _ h => h) (Or.inl ⟨by rfl, ?_⟩) hHeld ?_
    rotate_left
    · intro w hSw; (try dsimp only at hSw); go_simp; first | done | with_reducible rfl
    try simp only [Act.put, List.setIfInBounds_toArray, List.set_cons_zero, List.set_cons_succ]
    refine wpAnyH_take (i := 4) (oi := { dst := some 49, op := Op.convert 28 9 (Operand.tmp 48), type := 9, pos := "outright.go:128", after := #[{ on := 3, ground := Ground.data }], guard := none }) (v := ?_) rfl (by kernel_rfl) (by kernel_rfl) (by kernel_rfl) (fun _ _ _ h => h) (Or.inl ⟨by rfl, ?_⟩) hHeld ?_
    rotate_left
    · intro w hSw; (try dsimp only at hSw); (have hcb := (hSw.2.front' (m := la) hlab).string (P := Tryd.prog) 28 5 9 Tryd.underlying28 Tryd.underlying5 Tryd.underlying9); go_simp; first | done | with_reducible rfl
    try simp only [Act.put, List.setIfInBounds_toArray, List.set_cons_zero, List.set_cons_succ]
    refine wpAnyH_take (i := 5) (oi := { dst := some 50, op := Op.move (Operand.tmp 5), type := 28, pos := "outright.go:128", after := #[], guard := none }) (v := ?_) rfl (by kernel_rfl) (by kernel_rfl) (by kernel_rfl) (fun _ _ _ h => h) (Or.inl ⟨by rfl, ?_⟩) hHeld ?_
    rotate_left
    · intro w hSw; (try dsimp only at hSw); go_simp; first | done | with_reducible rfl
    try simp only [Act.put, List.setIfInBounds_toArray, List.set_cons_zero, List.set_cons_succ]
    refine wpAnyH_take (i := 6) (oi := { dst := some 51, op := Op.convert 28 9 (Operand.tmp 50), type := 9, pos := "outright.go:128", after := #[{ on := 5, ground := Ground.data }], guard := none }) (v := ?_) rfl (by kernel_rfl) (by kernel_rfl) (by kernel_rfl) (fun _ _ _ h => h) (Or.inl ⟨by rfl, ?_⟩) hHeld ?_
    rotate_left
    · intro w hSw; (try dsimp only at hSw); (have hca := hSw.1.string (P := Tryd.prog) 28 5 9 Tryd.underlying28 Tryd.underlying5 Tryd.underlying9); go_simp; first | done | with_reducible rfl
    try simp only [Act.put, List.setIfInBounds_toArray, List.set_cons_zero, List.set_cons_succ]
    refine wpAnyH_take (i := 7) (oi := { dst := some 52, op := Op.binOp BinOp.eql 9 (Operand.tmp 49) (Operand.tmp 51) 9, type := 4, pos := "outright.go:128", after := #[{ on := 4, ground := Ground.data }, { on := 6, ground := Ground.data }], guard := none }) (v := ?_) rfl (by kernel_rfl) (by kernel_rfl) (by kernel_rfl) (fun _ _ _ h => h) (Or.inl ⟨by rfl, ?_⟩) hHeld ?_
    rotate_left
    · intro w hSw; (try dsimp only at hSw); go_simp; first | done | with_reducible rfl
    try simp only [Act.put, List.setIfInBounds_toArray, List.set_cons_zero, List.set_cons_succ]
    refine wpAnyH_take (i := 8) (oi := { dst := some 53, op := Op.move (Operand.tmp 0), type := 30, pos := "outright.go:128", after := #[], guard := none }) (v := ?_) rfl (by kernel_rfl) (by kernel_rfl) (by kernel_rfl) (fun _ _ _ h => h) (Or.inl ⟨by rfl, ?_⟩) hHeld ?_
    rotate_left
    · intro w hSw; (try dsimp only at hSw); go_simp; first | done | with_reducible rfl
    try simp only [Act.put, List.setIfInBounds_toArray, List.set_cons_zero, List.set_cons_succ]
    refine wpAnyH_take (i := 9) (oi := { dst := some 54, op := Op.move (Operand.tmp 1), type := 30, pos := "outright.go:128", after := #[], guard := none }) (v := ?_) rfl (by kernel_rfl) (by kernel_rfl) (by kernel_rfl) (fun _ _ _ h => h) (Or.inl ⟨by rfl, ?_⟩) hHeld ?_
    rotate_left
    · intro w hSw; (try dsimp only at hSw); go_simp; first | done | with_reducible rfl
    try simp only [Act.put, List.setIfInBounds_toArray, List.set_cons_zero, List.set_cons_succ]
    refine wpAnyH_take (i := 10) (oi := { dst := some 55, op := Op.binOp BinOp.eql 30 (Operand.tmp 53) (Operand.tmp 54) 30, type := 4, pos := "outright.go:128", after := #[{ on := 8, ground := Ground.data }, { on := 9, ground := Ground.data }], guard := none }) (v := ?_) rfl (by kernel_rfl) (by kernel_rfl) (by kernel_rfl) (fun _ _ _ h => h) (Or.inl ⟨by rfl, ?_⟩) hHeld ?_
    rotate_left
    · intro w hSw; (try dsimp only at hSw); go_simp; first | done | with_reducible rfl
    try simp only [Act.put, List.setIfInBounds_toArray, List.set_cons_zero, List.set_cons_succ]
    refine wpAnyH_take (i := 11) (oi := { dst := some 56, op := Op.binOp BinOp.eql 4 (Operand.tmp 52) (Operand.tmp 55) 4, type := 4, pos := "outright.go:128", after := #[{ on := 7, ground := Ground.data }, { on := 10, ground := Ground.data }], guard := none }) (v := ?_) rfl (by kernel_rfl) (by kernel_rfl) (by kernel_rfl) (fun _ _ _ h => h) (Or.inl ⟨by rfl, ?_⟩) hHeld ?_
    rotate_left
    · intro w hSw; (try dsimp only at hSw); go_simp; first | done | with_reducible rfl
    try simp only [Act.put, List.setIfInBounds_toArray, List.set_cons_zero, List.set_cons_succ]
    refine wpAnyH_take (i := 12) (oi := { dst := some 57, op := Op.move (Operand.tmp 56), type := 4, pos := "outright.go:128", after := #[{ on := 11, ground := Ground.data }], guard := none }) (v := ?_) rfl (by kernel_rfl) (by kernel_rfl) (by kernel_rfl) (fun _ _ _ h => h) (Or.inl ⟨by rfl, ?_⟩) hHeld ?_
    rotate_left
    · intro w hSw; (try dsimp only at hSw); go_simp; first | done | with_reducible rfl
    try simp only [Act.put, List.setIfInBounds_toArray, List.set_cons_zero, List.set_cons_succ]
    refine wpAnyH_ready (rs := [13]) (by kernel_rfl) (by simp) ?_
    refine AllReadyH.cons (o := { dst := some 58, op := Op.call { callee := Callee.value (Operand.func 12), args := #[], argTypes := #[] }, type := 4, pos := "outright.go:128", after := #[{ on := 12, ground := Ground.chain }, { on := 12, ground := Ground.guard }], guard := some (12, true) }) rfl (fun K hK => ?_) AllReadyH.nil
    clear hHeld
    go_simp
    have hHeld2 : SlAt w2.drew (.slice aoA la capA) XA ∧ SlAt w2.drew (.slice aoB lb capB) XB := ⟨HSA.out.below (Below.refl _ _).drew, HSB.out.below (Below.refl _ _).drew⟩
    rw [if_pos HEQ.out]
    refine HAW.out.mono ?_
    rintro e w3 ⟨rfl, hB3⟩
    have HB3 := hide hB3
    dsimp only
    refine hK.out _ _ (⟨hHeld2.1.below hB3, hHeld2.2.below hB3⟩) (fun hHeld => ?_)
    clear hK K
    try simp only [Act.put, List.setIfInBounds_toArray, List.set_cons_zero, List.set_cons_succ]
    refine wpAnyH_take (i := 14) (oi := { dst := some 59, op := Op.pick (Operand.tmp 57) (Operand.tmp 58) (Operand.const (Value.bool false)), type := 4, pos := "outright.go:128", after := #[{ on := 12, ground := Ground.data }, { on := 13, ground := Ground.data }], guard := none }) (v := ?_) rfl (by kernel_rfl) (by kernel_rfl) (by kernel_rfl) (fun _ _ _ h => h) (Or.inl ⟨by rfl, ?_⟩) hHeld ?_
    rotate_left
    · intro w hSw; (try dsimp only at hSw); go_simp; first | done | with_reducible rfl
    try simp only [Act.put, List.setIfInBounds_toArray, List.set_cons_zero, List.set_cons_succ]
    refine wpAnyH_take (i := 15) (oi := { dst := some 4, op := Op.assign (Operand.tmp 59), type := 4, pos := "outright.go:128", after := #[{ on := 14, ground := Ground.data }, { on := 13, ground := Ground.chain }, { on := 0, ground := Ground.phase }, { on := 1, ground := Ground.phase }, { on := 2, ground := Ground.phase }, { on := 3, ground := Ground.phase }, { on := 4, ground := Ground.phase }, { on := 5, ground := Ground.phase }, { on := 6, ground := Ground.phase }, { on := 7, ground := Ground.phase }, { on := 8, ground := Ground.phase }, { on := 9, ground := Ground.phase }, { on := 10, ground := Ground.phase }, { on := 11, ground := Ground.phase }, { on := 12, ground := Ground.phase }, { on := 13, ground := Ground.phase }, { on := 14, ground := Ground.phase }], guard := none }) (v := ?_) rfl (by kernel_rfl) (by kernel_rfl) (by kernel_rfl) (fun _ _ _ h => h) (Or.inl ⟨by rfl, ?_⟩) hHeld ?_
    rotate_left
    · intro w hSw; (try dsimp only at hSw); go_simp; first | done | with_reducible rfl
    try simp only [Act.put, List.setIfInBounds_toArray, List.set_cons_zero, List.set_cons_succ]
    refine wpAnyH_done (by kernel_rfl) ?_ _
    go_wp2_with fail
    go_ret
    refine ⟨?_, HBB.out.drew.trans (HB3.out.mono HBB.out.size)⟩
    first | rfl | (rw [HEQ.out]; simp) | simp [HEQ.out]
  · have HA := HSa2
    have HB := HSb
    have hgi : ¬ (y : Int) < (x : Int) := by omega
    have hle : x ≤ y := by omega
    have hm := uintS_mono x y hle
    have hp := uintF_pos 9 x
    have hy10 := uintS_len y
    have hone := uintS_one y
    obtain ⟨la, hla⟩ : ∃ la, la = (uintS x).length := ⟨_, rfl⟩
    obtain ⟨lb, hlb⟩ : ∃ lb, lb = (uintS y).length := ⟨_, rfl⟩
    have hap : 0 < la := by rw [hla]; exact hp
    rw [← hlb] at hy10 hone hm
    rw [← hla] at hm
    have HST : Hid (strOfNums ((uintS y).take la) = strOfNums (uintS x) ↔ x = y) := hide (by
      constructor
      · intro h
        have := strOfNums_inj _ _ (fun z hz => uintS_range y hy z (List.mem_of_mem_take hz)) (uintS_range x hx) h
        rw [hla] at this
        exact uintS_take x y hx hy this
      · rintro rfl
        rw [hla, List.take_length])
    obtain ⟨aoA, capA, hva⟩ := HA.out.len
    obtain ⟨aoB, capB, hvb⟩ := HB.out.len
    rw [← hla] at hva
    rw [← hlb] at hvb
    subst hva hvb
    have HSA := hide HA.out
    have HSB := hide HB.out
    have hlab : la ≤ lb := hm
    have hcut := run_cut_hk (P := Tryd.prog) .i64 Tryd.underlying28 size5 aoB lb capB la (by have := HSB.out.le.1; omega)
    generalize uintS x = XA at HST HSA
    generalize uintS y = XB at HST HSB
    have HAW := hide (awake_any w2.drew (ht.below (HBB.out.drew) ht.two))
    have HONE : Hid (((lb : Int) == 1) = decide ((y : Int) < 128)) := hide (by
      have e1 : ((lb : Int) == 1) = decide (lb = 1) := by rw [Bool.eq_iff_iff]; simp; omega
      rw [e1]
      exact decide_eq_decide.2 (hone.trans (by omega)))
    have hnlt : ¬ lb < la := by omega
    have hl10 : ¬ (10 : Int) < (lb : Int) := by omega
    have hla0 : ((la : Int) == 0) = false := by simp; omega
    clear HA HB hla hlb hp hone hm
    go_wp2_with fail
    all_goals first | (exfalso; rename_i h; exact h HONE.out) | skip
    have HEQ : Hid (((strOfNums (List.take la XB)).toList == (strOfNums XA).toList) = ((x : Int) == (y : Int))) := hide (by
      by_cases hxy : x = y
      · rw [HST.out.2 hxy, hxy, beq_self_eq_true, beq_self_eq_true]
      · have h1 : ¬ (strOfNums (List.take la XB)).toList = (strOfNums XA).toList := fun h => hxy (HST.out.1 (str_toList _ _ h))
        have h2 : ¬ (x : Int) = (y : Int) := by omega
        rw [beq_eq_false_iff_ne.2 h1, beq_eq_false_iff_ne.2 h2])
    clear HST
    refine wp_region_held_drew (S := fun w' => SlAt w' (.slice aoA la capA) XA ∧ SlAt w' (.slice aoB lb capB) XB) (by kernel_rfl) ⟨HSA.out.below (Below.refl _ _).drew, HSB.out.below (Below.refl _ _).drew⟩ (fun hHeld => ?_)
    refine wpAnyH_take (i := 0) (oi := { dst := some 45, op := Op.move (Operand.tmp 6), type := 28, pos := "outright.go:128", after := #[], guard := none }) (v := ?_) rfl (by kernel_rfl) (by kernel_rfl) (by kernel_rfl) (fun _ _ _ h => h) (Or.inl ⟨by rfl, ?_⟩) hHeld ?_
    rotate_left
    · intro w hSw; (try dsimp only at hSw); go_simp; first | done | with_reducible rfl
    try simp only [Act.put, List.setIfInBounds_toArray, List.set_cons_zero, List.set_cons_succ]
    refine wpAnyH_take (i := 1) (oi := { dst := some 46, op := Op.move (Operand.tmp 5), type := 28, pos := "outright.go:128", after := #[], guard := none }) (v := ?_) rfl (by kernel_rfl) (by kernel_rfl) (by kernel_rfl) (fun _ _ _ h => h) (Or.inl ⟨by rfl, ?_⟩) hHeld ?_
    rotate_left
    · intro w hSw; (try dsimp only at hSw); go_simp; first | done | with_reducible rfl
    try simp only [Act.put, List.setIfInBounds_toArray, List.set_cons_zero, List.set_cons_succ]
    refine wpAnyH_take (i := 2) (oi := { dst := some 47, op := Op.call { callee := Callee.builtin Builtin.len, args := #[Operand.tmp 46], argTypes := #[28] }, type := 3, pos := "outright.go:128", after := #[{ on := 1, ground := Ground.data }], guard := none }) (v := ?_) rfl (by kernel_rfl) (by kernel_rfl) (by kernel_rfl) (fun _ _ _ h => h) (Or.inl ⟨by rfl, ?_⟩) hHeld ?_
    rotate_left
    · intro w hSw; (try dsimp only at hSw); go_simp; first | done | with_reducible rfl
    try simp only [Act.put, List.setIfInBounds_toArray, List.set_cons_zero, List.set_cons_succ]
    refine wpAnyH_take (i := 3) (oi := { dst := some 48, op := Op.slice 28 (Operand.tmp 45) none (some (Operand.tmp 47)) none, type := 28, pos := "outright.go:128", after := #[{ on := 0, ground := Ground.data }, { on := 2, ground := Ground.data }], guard := none }) (v := ?_) rfl (by kernel_rfl) (by kernel_rfl) (by kernel_rfl) (fun _ _ _ h => h) (Or.inl ⟨by rfl, ?_⟩) hHeld ?_
    rotate_left
    · intro w hSw; (try dsimp only at hSw); go_simp; first | done | with_reducible rfl
    try simp only [Act.put, List.setIfInBounds_toArray, List.set_cons_zero, List.set_cons_succ]
    refine wpAnyH_take (i := 4) (oi := { dst := some 49, op := Op.convert 28 9 (Operand.tmp 48), type := 9, pos := "outright.go:128", after := #[{ on := 3, ground := Ground.data }], guard := none }) (v := ?_) rfl (by kernel_rfl) (by kernel_rfl) (by kernel_rfl) (fun _ _ _ h => h) (Or.inl ⟨by rfl, ?_⟩) hHeld ?_
    rotate_left
    · intro w hSw; (try dsimp only at hSw); (have hcb := (hSw.2.front' (m := la) hlab).string (P := Tryd.prog) 28 5 9 Tryd.underlying28 Tryd.underlying5 Tryd.underlying9); go_simp; first | done | with_reducible rfl
    try simp only [Act.put, List.setIfInBounds_toArray, List.set_cons_zero, List.set_cons_succ]
    refine wpAnyH_take (i := 5) (oi := { dst := some 50, op := Op.move (Operand.tmp 5), type := 28, pos := "outright.go:128", after := #[], guard := none }) (v := ?_) rfl (by kernel_rfl) (by kernel_rfl) (by kernel_rfl) (fun _ _ _ h => h) (Or.inl ⟨by rfl, ?_⟩) hHeld ?_
    rotate_left
    · intro w hSw; (try dsimp only at hSw); go_simp; first | done | with_reducible rfl
    try simp only [Act.put, List.setIfInBounds_toArray, List.set_cons_zero, List.set_cons_succ]
    refine wpAnyH_take (i := 6) (oi := { dst := some 51, op := Op.convert 28 9 (Operand.tmp 50), type := 9, pos := "outright.go:128", after := #[{ on := 5, ground := Ground.data }], guard := none }) (v := ?_) rfl (by kernel_rfl) (by kernel_rfl) (by kernel_rfl) (fun _ _ _ h => h) (Or.inl ⟨by rfl, ?_⟩) hHeld ?_
    rotate_left
    · intro w hSw; (try dsimp only at hSw); (have hca := hSw.1.string (P := Tryd.prog) 28 5 9 Tryd.underlying28 Tryd.underlying5 Tryd.underlying9); go_simp; first | done | with_reducible rfl
    try simp only [Act.put, List.setIfInBounds_toArray, List.set_cons_zero, List.set_cons_succ]
    refine wpAnyH_take (i := 7) (oi := { dst := some 52, op := Op.binOp BinOp.eql 9 (Operand.tmp 49) (Operand.tmp 51) 9, type := 4, pos := "outright.go:128", after := #[{ on := 4, ground := Ground.data }, { on := 6, ground := Ground.data }], guard := none }) (v := ?_) rfl (by kernel_rfl) (by kernel_rfl) (by kernel_rfl) (fun _ _ _ h => h) (Or.inl ⟨by rfl, ?_⟩) hHeld ?_
    rotate_left
    · intro w hSw; (try dsimp only at hSw); go_simp; first | done | with_reducible rfl
    try simp only [Act.put, List.setIfInBounds_toArray, List.set_cons_zero, List.set_cons_succ]
    refine wpAnyH_take (i := 8) (oi := { dst := some 53, op := Op.move (Operand.tmp 0), type := 30, pos := "outright.go:128", after := #[], guard := none }) (v := ?_) rfl (by kernel_rfl) (by kernel_rfl) (by kernel_rfl) (fun _ _ _ h => h) (Or.inl ⟨by rfl, ?_⟩) hHeld ?_
    rotate_left
    · intro w hSw; (try dsimp only at hSw); go_simp; first | done | with_reducible rfl
    try simp only [Act.put, List.setIfInBounds_toArray, List.set_cons_zero, List.set_cons_succ]
    refine wpAnyH_take (i := 9) (oi := { dst := some 54, op := Op.move (Operand.tmp 1), type := 30, pos := "outright.go:128", after := #[], guard := none }) (v := ?_) rfl (by kernel_rfl) (by kernel_rfl) (by kernel_rfl) (fun _ _ _ h => h) (Or.inl ⟨by rfl, ?_⟩) hHeld ?_
    rotate_left
    · intro w hSw; (try dsimp only at hSw); go_simp; first | done | with_reducible rfl
    try simp only [Act.put, List.setIfInBounds_toArray, List.set_cons_zero, List.set_cons_succ]
    refine wpAnyH_take (i := 10) (oi := { dst := some 55, op := Op.binOp BinOp.eql 30 (Operand.tmp 53) (Operand.tmp 54) 30, type := 4, pos := "outright.go:128", after := #[{ on := 8, ground := Ground.data }, { on := 9, ground := Ground.data }], guard := none }) (v := ?_) rfl (by kernel_rfl) (by kernel_rfl) (by kernel_rfl) (fun _ _ _ h => h) (Or.inl ⟨by rfl, ?_⟩) hHeld ?_
    rotate_left
    · intro w hSw; (try dsimp only at hSw); go_simp; first | done | with_reducible rfl
    try simp only [Act.put, List.setIfInBounds_toArray, List.set_cons_zero, List.set_cons_succ]
    refine wpAnyH_take (i := 11) (oi := { dst := some 56, op := Op.binOp BinOp.eql 4 (Operand.tmp 52) (Operand.tmp 55) 4, type := 4, pos := "outright.go:128", after := #[{ on := 7, ground := Ground.data }, { on := 10, ground := Ground.data }], guard := none }) (v := ?_) rfl (by kernel_rfl) (by kernel_rfl) (by kernel_rfl) (fun _ _ _ h => h) (Or.inl ⟨by rfl, ?_⟩) hHeld ?_
    rotate_left
    · intro w hSw; (try dsimp only at hSw); go_simp; first | done | with_reducible rfl
    try simp only [Act.put, List.setIfInBounds_toArray, List.set_cons_zero, List.set_cons_succ]
    refine wpAnyH_take (i := 12) (oi := { dst := some 57, op := Op.move (Operand.tmp 56), type := 4, pos := "outright.go:128", after := #[{ on := 11, ground := Ground.data }], guard := none }) (v := ?_) rfl (by kernel_rfl) (by kernel_rfl) (by kernel_rfl) (fun _ _ _ h => h) (Or.inl ⟨by rfl, ?_⟩) hHeld ?_
    rotate_left
    · intro w hSw; (try dsimp only at hSw); go_simp; first | done | with_reducible rfl
    try simp only [Act.put, List.setIfInBounds_toArray, List.set_cons_zero, List.set_cons_succ]
    refine wpAnyH_ready (rs := [13]) (by kernel_rfl) (by simp) ?_
    refine AllReadyH.cons (o := { dst := some 58, op := Op.call { callee := Callee.value (Operand.func 12), args := #[], argTypes := #[] }, type := 4, pos := "outright.go:128", after := #[{ on := 12, ground := Ground.chain }, { on := 12, ground := Ground.guard }], guard := some (12, true) }) rfl (fun K hK => ?_) AllReadyH.nil
    clear hHeld
    go_simp
    have hHeld2 : SlAt w2.drew (.slice aoA la capA) XA ∧ SlAt w2.drew (.slice aoB lb capB) XB := ⟨HSA.out.below (Below.refl _ _).drew, HSB.out.below (Below.refl _ _).drew⟩
    rw [if_pos HEQ.out]
    refine HAW.out.mono ?_
    rintro e w3 ⟨rfl, hB3⟩
    have HB3 := hide hB3
    dsimp only
    refine hK.out _ _ (⟨hHeld2.1.below hB3, hHeld2.2.below hB3⟩) (fun hHeld => ?_)
    clear hK K
    try simp only [Act.put, List.setIfInBounds_toArray, List.set_cons_zero, List.set_cons_succ]
    refine wpAnyH_take (i := 14) (oi := { dst := some 59, op := Op.pick (Operand.tmp 57) (Operand.tmp 58) (Operand.const (Value.bool false)), type := 4, pos := "outright.go:128", after := #[{ on := 12, ground := Ground.data }, { on := 13, ground := Ground.data }], guard := none }) (v := ?_) rfl (by kernel_rfl) (by kernel_rfl) (by kernel_rfl) (fun _ _ _ h => h) (Or.inl ⟨by rfl, ?_⟩) hHeld ?_
    rotate_left
    · intro w hSw; (try dsimp only at hSw); go_simp; first | done | with_reducible rfl
    try simp only [Act.put, List.setIfInBounds_toArray, List.set_cons_zero, List.set_cons_succ]
    refine wpAnyH_take (i := 15) (oi := { dst := some 4, op := Op.assign (Operand.tmp 59), type := 4, pos := "outright.go:128", after := #[{ on := 14, ground := Ground.data }, { on := 13, ground := Ground.chain }, { on := 0, ground := Ground.phase }, { on := 1, ground := Ground.phase }, { on := 2, ground := Ground.phase }, { on := 3, ground := Ground.phase }, { on := 4, ground := Ground.phase }, { on := 5, ground := Ground.phase }, { on := 6, ground := Ground.phase }, { on := 7, ground := Ground.phase }, { on := 8, ground := Ground.phase }, { on := 9, ground := Ground.phase }, { on := 10, ground := Ground.phase }, { on := 11, ground := Ground.phase }, { on := 12, ground := Ground.phase }, { on := 13, ground := Ground.phase }, { on := 14, ground := Ground.phase }], guard := none }) (v := ?_) rfl (by kernel_rfl) (by kernel_rfl) (by kernel_rfl) (fun _ _ _ h => h) (Or.inl ⟨by rfl, ?_⟩) hHeld ?_
    rotate_left
    · intro w hSw; (try dsimp only at hSw); go_simp; first | done | with_reducible rfl
    try simp only [Act.put, List.setIfInBounds_toArray, List.set_cons_zero, List.set_cons_succ]
    refine wpAnyH_done (by kernel_rfl) ?_ _
    go_wp2_with fail
    go_ret
    refine ⟨?_, HBB.out.drew.trans (HB3.out.mono HBB.out.size)⟩
    first | rfl | (rw [HEQ.out]; simp) | simp [HEQ.out]
end Go.Proofs.YtjcdmffjpkckoaaDoor
