/- The laws' awake, head, Long. -/
import Derived.Test.YtilefgmlnmpeoaaDoorHdFrm
import Derived.Test.YtilefgmlnmpeoaaDoorHdRead
import Derived.Deep.RegionWith
import Derived.Deep.RegionHeld3
import Derived.Deep.CutBlock
import Derived.Deep.DeepCutAuto
import Derived.StillTailTactics
namespace Go.Proofs.YtilefgmlnmpeoaaDoor
open Go.RowKit Go.Lib

/-- A header, a row of headers as the laws go through them. -/
def longH (h : Hd) : Bool := decide (1000 < h.n.size) || decide (2000 < h.v.size)
def longP (l : List Hd) : Bool := decide (100 < l.length) || l.any longH
theorem longP_no {l : List Hd} (h : longP l = false) : l.length ≤ 100 ∧ ∀ a ∈ l, a.n.size ≤ 1000 ∧ a.v.size ≤ 2000 := by
  unfold longP at h
  rw [Bool.or_eq_false_iff, decide_eq_false_iff_not, List.any_eq_false] at h
  refine ⟨by omega, fun a ha => ?_⟩
  have := h.2 a ha
  unfold longH at this
  rw [Bool.or_eq_true, decide_eq_true_eq, decide_eq_true_eq] at this
  omega
theorem longP_fits {l : List Hd} (h : longP l = false) : Fits l := fun a ha => by have := (longP_no h).2 a ha; omega
set_option maxRecDepth 100000 in
set_option maxHeartbeats 400000 in
theorem long_any (v : Value) (l : List Hd) (w : World) (hv : GAt KH w v l) : Calls Tryd.prog 9 #[v] w (fun e w' => e = .returned (.bool (longP l)) ∧ Below w.heap.size w w') := by
  obtain ⟨ao, cap, rfl⟩ := hv.len
  obtain ⟨n, hnn⟩ : ∃ n, l.length = n := ⟨_, rfl⟩
  obtain ⟨B, hB⟩ : ∃ b, l.any longH = b := ⟨_, rfl⟩
  have hR : longP l = (decide (100 < n) || B) := by unfold longP; rw [hB, hnn]
  rw [hR]
  rw [hnn] at hv ⊢
  by_cases h60 : 100 < n
  · rw [decide_eq_true h60, Bool.true_or]
    have i60 : (100 : Int) < (n : Int) := by omega
    clear hR hB hnn hv h60
    go_enter Tryd.func9, Tryd.ntmps9
    go_wp2_with fail
    go_ret
    exact ⟨rfl, Below.refl _ _⟩
  · rw [decide_eq_false h60, Bool.false_or]
    have i60 : ¬ (100 : Int) < (n : Int) := by omega
    have H0 : HidL ((l.drop 0).any longH = B) := ⟨hB⟩
    have HN := hideL hnn
    have HV := hideL hv
    clear hR hB hnn hv
    go_enter Tryd.func9, Tryd.ntmps9
    go_wp2_with fail
    go_loopw [3] (fun i wr => ∃ k : Nat, k ≤ n ∧ i = .int .i64 k ∧ w = wr ∧ HidL ((l.drop k).any longH = B)) (fun i _ => n - (RowKit.intOf i).toNat)
    case atStart => exact ⟨0, Nat.zero_le _, rfl, rfl, H0⟩
    case round =>
      obtain ⟨k, hk, rfl, rfl, HD⟩ := hrel
      clear H0
      by_cases hlt : k < n
      · have hlt' : (k : Int) < (n : Int) := by omega
        obtain ⟨b, o, hao, hbl, hcell⟩ := HV.out.at (k := k) hlt
        subst hao
        have hkl : k < l.length := by rw [HN.out]; exact hlt
        have hD := HD.out
        rw [hdrop_at l k hkl, List.any_cons] at hD
        generalize l.getD k KH.dft = x at *
        obtain ⟨p, q⟩ := x
        have d0 : w.cell? ⟨b, o + k * 2, none⟩ = some (.string p) := hcell 0 (by decide)
        have d1 : w.cell? ⟨b, o + k * 2 + 1, none⟩ = some (.string q) := hcell 1 (by decide)
        have hlh : longH ⟨p, q⟩ = (decide (1000 < p.size) || decide (2000 < q.size)) := rfl
        rw [hlh] at hD
        clear hcell hbl HD hlh
        by_cases hp : 1000 < p.size
        · rw [decide_eq_true hp, Bool.true_or, Bool.true_or] at hD
          have hp' : (1000 : Int) < (p.size : Int) := by omega
          subst hD
          clear hp
          go_wp2_with fail
          go_ret
          exact ⟨rfl, Below.refl _ _⟩
        · have hp' : ¬ (1000 : Int) < (p.size : Int) := by omega
          rw [decide_eq_false hp, Bool.false_or] at hD
          by_cases hq : 2000 < q.size
          · rw [decide_eq_true hq, Bool.true_or] at hD
            have hq' : (2000 : Int) < (q.size : Int) := by omega
            subst hD
            clear hp hq
            go_wp2_with fail
            go_ret
            exact ⟨rfl, Below.refl _ _⟩
          · have hq' : ¬ (2000 : Int) < (q.size : Int) := by omega
            rw [decide_eq_false hq, Bool.false_or] at hD
            have HNX := hideL hD
            clear hp hq hD
            go_wp2_with fail
            go_roundw
            case rel => exact ⟨k + 1, by omega, by go_num, trivial, HNX⟩
            case measure => simp [RowKit.intOf]; omega
      · obtain rfl : k = n := by omega
        have hlt' : ¬ (k : Int) < (k : Int) := by omega
        have hD := HD.out
        rw [List.drop_of_length_le (by rw [HN.out]; omega)] at hD
        have hBf : B = false := hD.symm
        subst hBf
        clear hD HD
        go_wp2_with fail
        go_ret
        exact ⟨rfl, Below.refl _ _⟩
set_option maxRecDepth 100000 in
theorem head_any (n v : ByteArray) (w : World) : Calls Tryd.prog 31 #[.string n, .string v] w (fun e w' => e = .returned (.agg #[.string n, .string v]) ∧ Below w.heap.size w w') := by
  have HB := hideL ((Below.refl w.heap.size w).alloc (Nat.le_refl _) (.cells #[.string (⟨#[]⟩ : ByteArray), .string (⟨#[]⟩ : ByteArray)] 23))
  have HX := hideL (HBox.new w (⟨#[]⟩ : ByteArray) (⟨#[]⟩ : ByteArray))
  go_enter Tryd.func31, Tryd.ntmps31
  go_wp2_with fail
  have HXF := hideL (HBox.new w n v)
  have HBF := hideL ((Below.refl w.heap.size w).alloc (Nat.le_refl _) (.cells #[.string n, .string v] 23))
  clear HX HB
  generalize w.alloc (.cells #[.string n, .string v] 23) = WF at *
  have r0 := HXF.out.c0
  have r1 := HXF.out.c1
  exact bodyPost_ret (v := .agg #[.string n, .string v]) (by simp [results, Tryd.results31, go_sem, r0, r1]) rfl ⟨rfl, HBF.out⟩
/-- Framing of a row that is written out. -/
theorem frm_lit (l : List Hd) (r : Nat × Bd) (h : framP l = r) (hf : Fits l) (hl : l.length ≤ 100) (W : World) (hE : Env W) :
    Calls Tryd.prog 28 #[.slice (some ⟨W.heap.size, 0, none⟩) l.length l.length] (W.alloc (.cells (KH.all l).toArray 23)) (fun e w' => e = .returned (frA r) ∧ Below W.heap.size W w') := by
  have hb := (Below.refl W.heap.size W).alloc (Nat.le_refl _) (.cells (KH.all l).toArray 23)
  have hg := (GRow.lit (K := KH) W W.heap.size l (Nat.le_refl _) (by have : (100 : Nat) ≤ maxLen := by decide
                                                                     omega)).gAt
  have := framing_any _ l _ hg hf (by omega) (hE.next hb)
  rw [h] at this
  exact this.mono fun e w' ⟨he, h2⟩ => ⟨he, hb.trans (h2.mono hb.size)⟩
theorem aw1 : framP [⟨⟨#[99, 111, 110, 116, 101, 110, 116, 45, 108, 101, 110, 103, 116, 104]⟩, ⟨#[53]⟩⟩] = (0, ⟨0, 1, 5⟩) := by decide +kernel
theorem aw2 : framP [⟨⟨#[99, 111, 110, 116, 101, 110, 116, 45, 108, 101, 110, 103, 116, 104]⟩, ⟨#[48, 53]⟩⟩] = (2, bd0) := by decide +kernel
theorem aw3 : framP [⟨⟨#[99, 111, 110, 116, 101, 110, 116, 45, 108, 101, 110, 103, 116, 104]⟩, ⟨#[53]⟩⟩, ⟨⟨#[116, 114, 97, 110, 115, 102, 101, 114, 45, 101, 110, 99, 111, 100, 105, 110, 103]⟩, ⟨#[99, 104, 117, 110, 107, 101, 100]⟩⟩] = (2, bd0) := by decide +kernel
theorem aw4 : framP [⟨⟨#[99, 111, 110, 116, 101, 110, 116, 45, 108, 101, 110, 103, 116, 104]⟩, ⟨#[49, 48, 50, 53]⟩⟩] = (6, bd0) := by decide +kernel
theorem aw5 : readP [72, 111, 115, 116, 58, 32, 32, 97, 46, 98, 32] = (0, [104, 111, 115, 116], [97, 46, 98]) := by decide +kernel
theorem aw6 : readP [72, 111, 115, 116, 32, 58, 32, 97] = (2, [], []) := by decide +kernel
theorem fits_dec {l : List Hd} (h : (l.all fun a => decide (a.n.size ≤ 1000000 ∧ a.v.size ≤ 1000000)) = true) : Fits l := fun a ha => by
  have := List.all_eq_true.1 h a ha
  exact of_decide_eq_true this
set_option maxRecDepth 100000 in
set_option maxHeartbeats 2000000 in
theorem awake_any (w : World) (hE : Env w) : Calls Tryd.prog 10 #[] w fun e w' => e = .returned (.bool true) ∧ Below w.heap.size w w' := by
  have HE := hideL hE
  have LH := hideL head_any
  have A1 : HidL (∀ W : World, Env W → Calls Tryd.prog 28 #[.slice (some ⟨W.heap.size, 0, none⟩) 1 1] (W.alloc (.cells #[.string ⟨#[99, 111, 110, 116, 101, 110, 116, 45, 108, 101, 110, 103, 116, 104]⟩, .string ⟨#[53]⟩] 23)) fun e w' => e = .returned (.tuple #[.agg #[.int .i64 0, .int .i64 1, .int .i64 5], .int .i64 0]) ∧ Below W.heap.size W w') := ⟨fun W hE => frm_lit [⟨⟨#[99, 111, 110, 116, 101, 110, 116, 45, 108, 101, 110, 103, 116, 104]⟩, ⟨#[53]⟩⟩] _ aw1 (fits_dec (by decide)) (by decide) W hE⟩
  have A2 : HidL (∀ W : World, Env W → Calls Tryd.prog 28 #[.slice (some ⟨W.heap.size, 0, none⟩) 1 1] (W.alloc (.cells #[.string ⟨#[99, 111, 110, 116, 101, 110, 116, 45, 108, 101, 110, 103, 116, 104]⟩, .string ⟨#[48, 53]⟩] 23)) fun e w' => e = .returned (.tuple #[.agg #[.int .i64 0, .int .i64 0, .int .i64 0], .int .i64 2]) ∧ Below W.heap.size W w') := ⟨fun W hE => frm_lit [⟨⟨#[99, 111, 110, 116, 101, 110, 116, 45, 108, 101, 110, 103, 116, 104]⟩, ⟨#[48, 53]⟩⟩] _ aw2 (fits_dec (by decide)) (by decide) W hE⟩
  have A3 : HidL (∀ W : World, Env W → Calls Tryd.prog 28 #[.slice (some ⟨W.heap.size, 0, none⟩) 2 2] (W.alloc (.cells #[.string ⟨#[99, 111, 110, 116, 101, 110, 116, 45, 108, 101, 110, 103, 116, 104]⟩, .string ⟨#[53]⟩, .string ⟨#[116, 114, 97, 110, 115, 102, 101, 114, 45, 101, 110, 99, 111, 100, 105, 110, 103]⟩, .string ⟨#[99, 104, 117, 110, 107, 101, 100]⟩] 23)) fun e w' => e = .returned (.tuple #[.agg #[.int .i64 0, .int .i64 0, .int .i64 0], .int .i64 2]) ∧ Below W.heap.size W w') := ⟨fun W hE => frm_lit [⟨⟨#[99, 111, 110, 116, 101, 110, 116, 45, 108, 101, 110, 103, 116, 104]⟩, ⟨#[53]⟩⟩, ⟨⟨#[116, 114, 97, 110, 115, 102, 101, 114, 45, 101, 110, 99, 111, 100, 105, 110, 103]⟩, ⟨#[99, 104, 117, 110, 107, 101, 100]⟩⟩] _ aw3 (fits_dec (by decide)) (by decide) W hE⟩
  have A4 : HidL (∀ W : World, Env W → Calls Tryd.prog 28 #[.slice (some ⟨W.heap.size, 0, none⟩) 1 1] (W.alloc (.cells #[.string ⟨#[99, 111, 110, 116, 101, 110, 116, 45, 108, 101, 110, 103, 116, 104]⟩, .string ⟨#[49, 48, 50, 53]⟩] 23)) fun e w' => e = .returned (.tuple #[.agg #[.int .i64 0, .int .i64 0, .int .i64 0], .int .i64 6]) ∧ Below W.heap.size W w') := ⟨fun W hE => frm_lit [⟨⟨#[99, 111, 110, 116, 101, 110, 116, 45, 108, 101, 110, 103, 116, 104]⟩, ⟨#[49, 48, 50, 53]⟩⟩] _ aw4 (fits_dec (by decide)) (by decide) W hE⟩
  have R1 : HidL (∀ W : World, Calls Tryd.prog 19 #[.string ⟨#[72, 111, 115, 116, 58, 32, 32, 97, 46, 98, 32]⟩] W fun e w' => e = .returned (.tuple #[.agg #[.string ⟨#[104, 111, 115, 116]⟩, .string ⟨#[97, 46, 98]⟩], .int .i64 0]) ∧ Below W.heap.size W w') := ⟨fun W => by
    have h := read_any ⟨#[72, 111, 115, 116, 58, 32, 32, 97, 46, 98, 32]⟩ (by decide) W
    rw [show readP (⟨#[72, 111, 115, 116, 58, 32, 32, 97, 46, 98, 32]⟩ : ByteArray).data.toList = _ from aw5] at h
    exact h⟩
  have R2 : HidL (∀ W : World, Calls Tryd.prog 19 #[.string ⟨#[72, 111, 115, 116, 32, 58, 32, 97]⟩] W fun e w' => e = .returned (.tuple #[.agg #[.string ⟨#[]⟩, .string ⟨#[]⟩], .int .i64 2]) ∧ Below W.heap.size W w') := ⟨fun W => by
    have h := read_any ⟨#[72, 111, 115, 116, 32, 58, 32, 97]⟩ (by decide) W
    rw [show readP (⟨#[72, 111, 115, 116, 32, 58, 32, 97]⟩ : ByteArray).data.toList = _ from aw6] at h
    exact h⟩
  have HB : HidL (Below w.heap.size w w) := ⟨Below.refl _ _⟩
  clear hE
  go_enter Tryd.func10, Tryd.ntmps10
  go_wp2_with (first
    | (go_at_call 19; first
      | (with_reducible refine (R1.out _).mono ?_; rintro e w1 ⟨rfl, hB⟩
         have hA := (Below.refl w1.heap.size w1).alloc (Nat.le_refl _) (.cells #[.string ⟨#[104, 111, 115, 116]⟩, .string ⟨#[97, 46, 98]⟩] 23)
         replace HE := hideL ((HE.out.next hB).next hA)
         replace HB := hideL ((HB.out.trans (hB.mono HB.out.size)).trans (hA.mono (Nat.le_trans HB.out.size hB.size)))
         have HP := hideL (HBox.new w1 ⟨#[104, 111, 115, 116]⟩ ⟨#[97, 46, 98]⟩)
         clear hB hA R1)
      | (with_reducible refine (R2.out _).mono ?_; rintro e w2 ⟨rfl, hB⟩
         have hA := (Below.refl w2.heap.size w2).alloc (Nat.le_refl _) (.cells #[.string (⟨#[]⟩ : ByteArray), .string (⟨#[]⟩ : ByteArray)] 23)
         replace HE := hideL ((HE.out.next hB).next hA)
         replace HB := hideL ((HB.out.trans (hB.mono HB.out.size)).trans (hA.mono (Nat.le_trans HB.out.size hB.size)))
         replace HP := hideL ((HP.out.next hB).next hA)
         clear hB hA R2))
    | (go_at_call 31; with_reducible refine (LH.out _ _ _).mono ?_; rintro e wh ⟨rfl, hB⟩
       replace HE := hideL (HE.out.next hB)
       replace HB := hideL (HB.out.trans (hB.mono HB.out.size))
       replace HP := hideL (HP.out.next hB)
       (try replace HQ := hideL (HQ.out.next hB))
       clear hB)
    | (go_at_call 28; first
      | (with_reducible refine (A1.out _ HE.out).mono ?_; rintro e wf1 ⟨rfl, hB⟩
         have hA := (Below.refl wf1.heap.size wf1).alloc (Nat.le_refl _) (.cells #[.int .i64 0, .int .i64 1, .int .i64 5] 48)
         replace HE := hideL ((HE.out.next hB).next hA)
         replace HB := hideL ((HB.out.trans (hB.mono HB.out.size)).trans (hA.mono (Nat.le_trans HB.out.size hB.size)))
         replace HP := hideL ((HP.out.next hB).next hA)
         have HQ := hideL (BBox.new wf1 0 1 5)
         clear hB hA A1)
      | (with_reducible refine (A2.out _ HE.out).mono ?_; rintro e wf2 ⟨rfl, hB⟩
         have hA := (Below.refl wf2.heap.size wf2).alloc (Nat.le_refl _) (.cells #[.int .i64 0, .int .i64 0, .int .i64 0] 48)
         replace HE := hideL ((HE.out.next hB).next hA)
         replace HB := hideL ((HB.out.trans (hB.mono HB.out.size)).trans (hA.mono (Nat.le_trans HB.out.size hB.size)))
         replace HP := hideL ((HP.out.next hB).next hA)
         replace HQ := hideL ((HQ.out.next hB).next hA)
         clear hB hA A2)
      | (with_reducible refine (A3.out _ HE.out).mono ?_; rintro e wf3 ⟨rfl, hB⟩
         have hA := (Below.refl wf3.heap.size wf3).alloc (Nat.le_refl _) (.cells #[.int .i64 0, .int .i64 0, .int .i64 0] 48)
         replace HE := hideL ((HE.out.next hB).next hA)
         replace HB := hideL ((HB.out.trans (hB.mono HB.out.size)).trans (hA.mono (Nat.le_trans HB.out.size hB.size)))
         replace HP := hideL ((HP.out.next hB).next hA)
         replace HQ := hideL ((HQ.out.next hB).next hA)
         clear hB hA A3)
      | (with_reducible refine (A4.out _ HE.out).mono ?_; rintro e wf4 ⟨rfl, hB⟩
         have hA := (Below.refl wf4.heap.size wf4).alloc (Nat.le_refl _) (.cells #[.int .i64 0, .int .i64 0, .int .i64 0] 48)
         replace HE := hideL ((HE.out.next hB).next hA)
         replace HB := hideL ((HB.out.trans (hB.mono HB.out.size)).trans (hA.mono (Nat.le_trans HB.out.size hB.size)))
         replace HP := hideL ((HP.out.next hB).next hA)
         replace HQ := hideL ((HQ.out.next hB).next hA)
         clear hB hA A4)))
  refine wp_region_held_drew (S := fun w' => HBox w' w1.heap.size ⟨#[104, 111, 115, 116]⟩ ⟨#[97, 46, 98]⟩ ∧ BBox w' wf1.heap.size 0 1 5 ∧ Below w.heap.size w w') (by kernel_rfl) ⟨HP.out.drew, HQ.out.drew, HB.out.drew⟩ (fun hHeld => ?_)
  refine wpAnyH_take (i := 0) (oi := { dst := some 46, op := Op.move (Operand.tmp 2), type := 29, pos := "law.go:20", after := #[], guard := none }) (v := ?_) rfl (by kernel_rfl) (by kernel_rfl) (by kernel_rfl) (fun _ _ _ h => h) (Or.inl ⟨by rfl, ?_⟩) hHeld ?_
  rotate_left
  · intro w hSw; (try dsimp only at hSw); go_simp; first | done | with_reducible rfl
  try simp only [Act.put, List.setIfInBounds_toArray, List.set_cons_zero, List.set_cons_succ]
  refine wpAnyH_take (i := 1) (oi := { dst := some 47, op := Op.binOp BinOp.eql 29 (Operand.tmp 46) (Operand.const (Value.int IntKind.i64 0)) 29, type := 4, pos := "law.go:20", after := #[{ on := 0, ground := Ground.data }], guard := none }) (v := ?_) rfl (by kernel_rfl) (by kernel_rfl) (by kernel_rfl) (fun _ _ _ h => h) (Or.inl ⟨by rfl, ?_⟩) hHeld ?_
  rotate_left
  · intro w hSw; (try dsimp only at hSw); go_simp; first | done | with_reducible rfl
  try simp only [Act.put, List.setIfInBounds_toArray, List.set_cons_zero, List.set_cons_succ]
  refine wpAnyH_take (i := 2) (oi := { dst := some 48, op := Op.move (Operand.tmp 47), type := 4, pos := "law.go:20", after := #[{ on := 1, ground := Ground.data }], guard := none }) (v := ?_) rfl (by kernel_rfl) (by kernel_rfl) (by kernel_rfl) (fun _ _ _ h => h) (Or.inl ⟨by rfl, ?_⟩) hHeld ?_
  rotate_left
  · intro w hSw; (try dsimp only at hSw); go_simp; first | done | with_reducible rfl
  try simp only [Act.put, List.setIfInBounds_toArray, List.set_cons_zero, List.set_cons_succ]
  refine wpAnyH_take (i := 3) (oi := { dst := some 49, op := Op.load 23 (Operand.tmp 1), type := 23, pos := "law.go:20", after := #[{ on := 2, ground := Ground.guard }], guard := some (2, true) }) (v := ?_) rfl (by kernel_rfl) (by kernel_rfl) (by kernel_rfl) (fun _ _ _ h => h) (Or.inl ⟨by rfl, ?_⟩) hHeld ?_
  rotate_left
  · intro w hSw; (try dsimp only at hSw); have e0 := hSw.1.c0; have e1 := hSw.1.c1; have e2 := hSw.2.1.c0; have e3 := hSw.2.1.c1; have e4 := hSw.2.1.c2; go_simp; first | done | with_reducible rfl
  try simp only [Act.put, List.setIfInBounds_toArray, List.set_cons_zero, List.set_cons_succ]
  refine wpAnyH_ready (rs := [4]) (by kernel_rfl) (by simp) ?_
  refine AllReadyH.cons (o := { dst := some 50, op := Op.call { callee := Callee.value (Operand.func 31), args := #[Operand.const (Value.string { data := #[104, 111, 115, 116] }), Operand.const (Value.string { data := #[97, 46, 98] })], argTypes := #[9, 9] }, type := 23, pos := "law.go:20", after := #[{ on := 2, ground := Ground.chain }, { on := 2, ground := Ground.guard }], guard := some (2, true) }) rfl (fun K hK => ?_) AllReadyH.nil
  clear hHeld
  go_simp
  refine (LH.out _ _ _).mono ?_
  rintro e wz ⟨rfl, hB⟩
  have HP2 := hideL (HP.out.drew.next hB)
  have HQ2 := hideL (HQ.out.drew.next hB)
  have HB2 := hideL (HB.out.drew.trans (hB.mono HB.out.drew.size))
  clear hB
  refine hK.out _ _ (⟨HP2.out, HQ2.out, HB2.out⟩) (fun hHeld => ?_)
  clear hK K
  try simp only [Act.put, List.setIfInBounds_toArray, List.set_cons_zero, List.set_cons_succ]
  refine wpAnyH_take (i := 5) (oi := { dst := some 51, op := Op.binOp BinOp.eql 23 (Operand.tmp 49) (Operand.tmp 50) 23, type := 4, pos := "law.go:20", after := #[{ on := 3, ground := Ground.data }, { on := 4, ground := Ground.data }, { on := 2, ground := Ground.guard }], guard := some (2, true) }) (v := ?_) rfl (by kernel_rfl) (by kernel_rfl) (by kernel_rfl) (fun _ _ _ h => h) (Or.inl ⟨by rfl, ?_⟩) hHeld ?_
  rotate_left
  · intro w hSw; (try dsimp only at hSw); go_simp; first | done | with_reducible rfl
  try simp only [Act.put, List.setIfInBounds_toArray, List.set_cons_zero, List.set_cons_succ]
  refine wpAnyH_take (i := 6) (oi := { dst := some 52, op := Op.pick (Operand.tmp 48) (Operand.tmp 51) (Operand.const (Value.bool false)), type := 4, pos := "law.go:20", after := #[{ on := 2, ground := Ground.data }, { on := 5, ground := Ground.data }], guard := none }) (v := ?_) rfl (by kernel_rfl) (by kernel_rfl) (by kernel_rfl) (fun _ _ _ h => h) (Or.inl ⟨by rfl, ?_⟩) hHeld ?_
  rotate_left
  · intro w hSw; (try dsimp only at hSw); go_simp; first | done | with_reducible rfl
  try simp only [Act.put, List.setIfInBounds_toArray, List.set_cons_zero, List.set_cons_succ]
  refine wpAnyH_take (i := 7) (oi := { dst := some 53, op := Op.move (Operand.tmp 52), type := 4, pos := "law.go:20", after := #[{ on := 6, ground := Ground.data }, { on := 4, ground := Ground.chain }], guard := none }) (v := ?_) rfl (by kernel_rfl) (by kernel_rfl) (by kernel_rfl) (fun _ _ _ h => h) (Or.inl ⟨by rfl, ?_⟩) hHeld ?_
  rotate_left
  · intro w hSw; (try dsimp only at hSw); go_simp; first | done | with_reducible rfl
  try simp only [Act.put, List.setIfInBounds_toArray, List.set_cons_zero, List.set_cons_succ]
  refine wpAnyH_take (i := 8) (oi := { dst := some 54, op := Op.move (Operand.tmp 4), type := 29, pos := "law.go:20", after := #[{ on := 7, ground := Ground.guard }], guard := some (7, true) }) (v := ?_) rfl (by kernel_rfl) (by kernel_rfl) (by kernel_rfl) (fun _ _ _ h => h) (Or.inl ⟨by rfl, ?_⟩) hHeld ?_
  rotate_left
  · intro w hSw; (try dsimp only at hSw); go_simp; first | done | with_reducible rfl
  try simp only [Act.put, List.setIfInBounds_toArray, List.set_cons_zero, List.set_cons_succ]
  refine wpAnyH_take (i := 9) (oi := { dst := some 55, op := Op.binOp BinOp.eql 29 (Operand.tmp 54) (Operand.const (Value.int IntKind.i64 2)) 29, type := 4, pos := "law.go:20", after := #[{ on := 8, ground := Ground.data }, { on := 7, ground := Ground.guard }], guard := some (7, true) }) (v := ?_) rfl (by kernel_rfl) (by kernel_rfl) (by kernel_rfl) (fun _ _ _ h => h) (Or.inl ⟨by rfl, ?_⟩) hHeld ?_
  rotate_left
  · intro w hSw; (try dsimp only at hSw); go_simp; first | done | with_reducible rfl
  try simp only [Act.put, List.setIfInBounds_toArray, List.set_cons_zero, List.set_cons_succ]
  refine wpAnyH_take (i := 10) (oi := { dst := some 56, op := Op.pick (Operand.tmp 53) (Operand.tmp 55) (Operand.const (Value.bool false)), type := 4, pos := "law.go:20", after := #[{ on := 7, ground := Ground.data }, { on := 9, ground := Ground.data }], guard := none }) (v := ?_) rfl (by kernel_rfl) (by kernel_rfl) (by kernel_rfl) (fun _ _ _ h => h) (Or.inl ⟨by rfl, ?_⟩) hHeld ?_
  rotate_left
  · intro w hSw; (try dsimp only at hSw); go_simp; first | done | with_reducible rfl
  try simp only [Act.put, List.setIfInBounds_toArray, List.set_cons_zero, List.set_cons_succ]
  refine wpAnyH_take (i := 11) (oi := { dst := some 57, op := Op.move (Operand.tmp 56), type := 4, pos := "law.go:20", after := #[{ on := 10, ground := Ground.data }, { on := 7, ground := Ground.chain }], guard := none }) (v := ?_) rfl (by kernel_rfl) (by kernel_rfl) (by kernel_rfl) (fun _ _ _ h => h) (Or.inl ⟨by rfl, ?_⟩) hHeld ?_
  rotate_left
  · intro w hSw; (try dsimp only at hSw); go_simp; first | done | with_reducible rfl
  try simp only [Act.put, List.setIfInBounds_toArray, List.set_cons_zero, List.set_cons_succ]
  refine wpAnyH_take (i := 12) (oi := { dst := some 58, op := Op.move (Operand.tmp 6), type := 29, pos := "law.go:20", after := #[{ on := 11, ground := Ground.guard }], guard := some (11, true) }) (v := ?_) rfl (by kernel_rfl) (by kernel_rfl) (by kernel_rfl) (fun _ _ _ h => h) (Or.inl ⟨by rfl, ?_⟩) hHeld ?_
  rotate_left
  · intro w hSw; (try dsimp only at hSw); go_simp; first | done | with_reducible rfl
  try simp only [Act.put, List.setIfInBounds_toArray, List.set_cons_zero, List.set_cons_succ]
  refine wpAnyH_take (i := 13) (oi := { dst := some 59, op := Op.binOp BinOp.eql 29 (Operand.tmp 58) (Operand.const (Value.int IntKind.i64 0)) 29, type := 4, pos := "law.go:20", after := #[{ on := 12, ground := Ground.data }, { on := 11, ground := Ground.guard }], guard := some (11, true) }) (v := ?_) rfl (by kernel_rfl) (by kernel_rfl) (by kernel_rfl) (fun _ _ _ h => h) (Or.inl ⟨by rfl, ?_⟩) hHeld ?_
  rotate_left
  · intro w hSw; (try dsimp only at hSw); go_simp; first | done | with_reducible rfl
  try simp only [Act.put, List.setIfInBounds_toArray, List.set_cons_zero, List.set_cons_succ]
  refine wpAnyH_take (i := 14) (oi := { dst := some 60, op := Op.pick (Operand.tmp 57) (Operand.tmp 59) (Operand.const (Value.bool false)), type := 4, pos := "law.go:20", after := #[{ on := 11, ground := Ground.data }, { on := 13, ground := Ground.data }], guard := none }) (v := ?_) rfl (by kernel_rfl) (by kernel_rfl) (by kernel_rfl) (fun _ _ _ h => h) (Or.inl ⟨by rfl, ?_⟩) hHeld ?_
  rotate_left
  · intro w hSw; (try dsimp only at hSw); go_simp; first | done | with_reducible rfl
  try simp only [Act.put, List.setIfInBounds_toArray, List.set_cons_zero, List.set_cons_succ]
  refine wpAnyH_take (i := 15) (oi := { dst := some 61, op := Op.move (Operand.tmp 60), type := 4, pos := "law.go:20", after := #[{ on := 14, ground := Ground.data }, { on := 11, ground := Ground.chain }], guard := none }) (v := ?_) rfl (by kernel_rfl) (by kernel_rfl) (by kernel_rfl) (fun _ _ _ h => h) (Or.inl ⟨by rfl, ?_⟩) hHeld ?_
  rotate_left
  · intro w hSw; (try dsimp only at hSw); go_simp; first | done | with_reducible rfl
  try simp only [Act.put, List.setIfInBounds_toArray, List.set_cons_zero, List.set_cons_succ]
  refine wpAnyH_take (i := 16) (oi := { dst := some 62, op := Op.load 48 (Operand.tmp 5), type := 48, pos := "law.go:20", after := #[{ on := 15, ground := Ground.guard }], guard := some (15, true) }) (v := ?_) rfl (by kernel_rfl) (by kernel_rfl) (by kernel_rfl) (fun _ _ _ h => h) (Or.inl ⟨by rfl, ?_⟩) hHeld ?_
  rotate_left
  · intro w hSw; (try dsimp only at hSw); have e0 := hSw.1.c0; have e1 := hSw.1.c1; have e2 := hSw.2.1.c0; have e3 := hSw.2.1.c1; have e4 := hSw.2.1.c2; go_simp; first | done | with_reducible rfl
  try simp only [Act.put, List.setIfInBounds_toArray, List.set_cons_zero, List.set_cons_succ]
  refine wpAnyH_take (i := 17) (oi := { dst := some 63, op := Op.build 48 #[(1, Operand.const (Value.int IntKind.i64 1)), (2, Operand.const (Value.int IntKind.i64 5))], type := 48, pos := "law.go:20", after := #[{ on := 15, ground := Ground.guard }], guard := some (15, true) }) (v := ?_) rfl (by kernel_rfl) (by kernel_rfl) (by kernel_rfl) (fun _ _ _ h => h) (Or.inl ⟨by rfl, ?_⟩) hHeld ?_
  rotate_left
  · intro w hSw; (try dsimp only at hSw); go_simp; first | done | with_reducible rfl
  try simp only [Act.put, List.setIfInBounds_toArray, List.set_cons_zero, List.set_cons_succ]
  refine wpAnyH_take (i := 18) (oi := { dst := some 64, op := Op.binOp BinOp.eql 48 (Operand.tmp 62) (Operand.tmp 63) 48, type := 4, pos := "law.go:20", after := #[{ on := 16, ground := Ground.data }, { on := 17, ground := Ground.data }, { on := 15, ground := Ground.guard }], guard := some (15, true) }) (v := ?_) rfl (by kernel_rfl) (by kernel_rfl) (by kernel_rfl) (fun _ _ _ h => h) (Or.inl ⟨by rfl, ?_⟩) hHeld ?_
  rotate_left
  · intro w hSw; (try dsimp only at hSw); go_simp; first | done | with_reducible rfl
  try simp only [Act.put, List.setIfInBounds_toArray, List.set_cons_zero, List.set_cons_succ]
  refine wpAnyH_take (i := 19) (oi := { dst := some 65, op := Op.pick (Operand.tmp 61) (Operand.tmp 64) (Operand.const (Value.bool false)), type := 4, pos := "law.go:20", after := #[{ on := 15, ground := Ground.data }, { on := 18, ground := Ground.data }], guard := none }) (v := ?_) rfl (by kernel_rfl) (by kernel_rfl) (by kernel_rfl) (fun _ _ _ h => h) (Or.inl ⟨by rfl, ?_⟩) hHeld ?_
  rotate_left
  · intro w hSw; (try dsimp only at hSw); go_simp; first | done | with_reducible rfl
  try simp only [Act.put, List.setIfInBounds_toArray, List.set_cons_zero, List.set_cons_succ]
  refine wpAnyH_take (i := 20) (oi := { dst := some 66, op := Op.move (Operand.tmp 65), type := 4, pos := "law.go:20", after := #[{ on := 19, ground := Ground.data }, { on := 15, ground := Ground.chain }], guard := none }) (v := ?_) rfl (by kernel_rfl) (by kernel_rfl) (by kernel_rfl) (fun _ _ _ h => h) (Or.inl ⟨by rfl, ?_⟩) hHeld ?_
  rotate_left
  · intro w hSw; (try dsimp only at hSw); go_simp; first | done | with_reducible rfl
  try simp only [Act.put, List.setIfInBounds_toArray, List.set_cons_zero, List.set_cons_succ]
  refine wpAnyH_take (i := 21) (oi := { dst := some 67, op := Op.move (Operand.tmp 8), type := 29, pos := "law.go:20", after := #[{ on := 20, ground := Ground.guard }], guard := some (20, true) }) (v := ?_) rfl (by kernel_rfl) (by kernel_rfl) (by kernel_rfl) (fun _ _ _ h => h) (Or.inl ⟨by rfl, ?_⟩) hHeld ?_
  rotate_left
  · intro w hSw; (try dsimp only at hSw); go_simp; first | done | with_reducible rfl
  try simp only [Act.put, List.setIfInBounds_toArray, List.set_cons_zero, List.set_cons_succ]
  refine wpAnyH_take (i := 22) (oi := { dst := some 68, op := Op.binOp BinOp.eql 29 (Operand.tmp 67) (Operand.const (Value.int IntKind.i64 2)) 29, type := 4, pos := "law.go:20", after := #[{ on := 21, ground := Ground.data }, { on := 20, ground := Ground.guard }], guard := some (20, true) }) (v := ?_) rfl (by kernel_rfl) (by kernel_rfl) (by kernel_rfl) (fun _ _ _ h => h) (Or.inl ⟨by rfl, ?_⟩) hHeld ?_
  rotate_left
  · intro w hSw; (try dsimp only at hSw); go_simp; first | done | with_reducible rfl
  try simp only [Act.put, List.setIfInBounds_toArray, List.set_cons_zero, List.set_cons_succ]
  refine wpAnyH_take (i := 23) (oi := { dst := some 69, op := Op.pick (Operand.tmp 66) (Operand.tmp 68) (Operand.const (Value.bool false)), type := 4, pos := "law.go:20", after := #[{ on := 20, ground := Ground.data }, { on := 22, ground := Ground.data }], guard := none }) (v := ?_) rfl (by kernel_rfl) (by kernel_rfl) (by kernel_rfl) (fun _ _ _ h => h) (Or.inl ⟨by rfl, ?_⟩) hHeld ?_
  rotate_left
  · intro w hSw; (try dsimp only at hSw); go_simp; first | done | with_reducible rfl
  try simp only [Act.put, List.setIfInBounds_toArray, List.set_cons_zero, List.set_cons_succ]
  refine wpAnyH_take (i := 24) (oi := { dst := some 70, op := Op.move (Operand.tmp 69), type := 4, pos := "law.go:20", after := #[{ on := 23, ground := Ground.data }, { on := 20, ground := Ground.chain }], guard := none }) (v := ?_) rfl (by kernel_rfl) (by kernel_rfl) (by kernel_rfl) (fun _ _ _ h => h) (Or.inl ⟨by rfl, ?_⟩) hHeld ?_
  rotate_left
  · intro w hSw; (try dsimp only at hSw); go_simp; first | done | with_reducible rfl
  try simp only [Act.put, List.setIfInBounds_toArray, List.set_cons_zero, List.set_cons_succ]
  refine wpAnyH_take (i := 25) (oi := { dst := some 71, op := Op.move (Operand.tmp 10), type := 29, pos := "law.go:20", after := #[{ on := 24, ground := Ground.guard }], guard := some (24, true) }) (v := ?_) rfl (by kernel_rfl) (by kernel_rfl) (by kernel_rfl) (fun _ _ _ h => h) (Or.inl ⟨by rfl, ?_⟩) hHeld ?_
  rotate_left
  · intro w hSw; (try dsimp only at hSw); go_simp; first | done | with_reducible rfl
  try simp only [Act.put, List.setIfInBounds_toArray, List.set_cons_zero, List.set_cons_succ]
  refine wpAnyH_take (i := 26) (oi := { dst := some 72, op := Op.binOp BinOp.eql 29 (Operand.tmp 71) (Operand.const (Value.int IntKind.i64 2)) 29, type := 4, pos := "law.go:20", after := #[{ on := 25, ground := Ground.data }, { on := 24, ground := Ground.guard }], guard := some (24, true) }) (v := ?_) rfl (by kernel_rfl) (by kernel_rfl) (by kernel_rfl) (fun _ _ _ h => h) (Or.inl ⟨by rfl, ?_⟩) hHeld ?_
  rotate_left
  · intro w hSw; (try dsimp only at hSw); go_simp; first | done | with_reducible rfl
  try simp only [Act.put, List.setIfInBounds_toArray, List.set_cons_zero, List.set_cons_succ]
  refine wpAnyH_take (i := 27) (oi := { dst := some 73, op := Op.pick (Operand.tmp 70) (Operand.tmp 72) (Operand.const (Value.bool false)), type := 4, pos := "law.go:20", after := #[{ on := 24, ground := Ground.data }, { on := 26, ground := Ground.data }], guard := none }) (v := ?_) rfl (by kernel_rfl) (by kernel_rfl) (by kernel_rfl) (fun _ _ _ h => h) (Or.inl ⟨by rfl, ?_⟩) hHeld ?_
  rotate_left
  · intro w hSw; (try dsimp only at hSw); go_simp; first | done | with_reducible rfl
  try simp only [Act.put, List.setIfInBounds_toArray, List.set_cons_zero, List.set_cons_succ]
  refine wpAnyH_take (i := 28) (oi := { dst := some 74, op := Op.move (Operand.tmp 73), type := 4, pos := "law.go:20", after := #[{ on := 27, ground := Ground.data }, { on := 24, ground := Ground.chain }], guard := none }) (v := ?_) rfl (by kernel_rfl) (by kernel_rfl) (by kernel_rfl) (fun _ _ _ h => h) (Or.inl ⟨by rfl, ?_⟩) hHeld ?_
  rotate_left
  · intro w hSw; (try dsimp only at hSw); go_simp; first | done | with_reducible rfl
  try simp only [Act.put, List.setIfInBounds_toArray, List.set_cons_zero, List.set_cons_succ]
  refine wpAnyH_take (i := 29) (oi := { dst := some 75, op := Op.move (Operand.tmp 12), type := 29, pos := "law.go:20", after := #[{ on := 28, ground := Ground.guard }], guard := some (28, true) }) (v := ?_) rfl (by kernel_rfl) (by kernel_rfl) (by kernel_rfl) (fun _ _ _ h => h) (Or.inl ⟨by rfl, ?_⟩) hHeld ?_
  rotate_left
  · intro w hSw; (try dsimp only at hSw); go_simp; first | done | with_reducible rfl
  try simp only [Act.put, List.setIfInBounds_toArray, List.set_cons_zero, List.set_cons_succ]
  refine wpAnyH_take (i := 30) (oi := { dst := some 76, op := Op.binOp BinOp.eql 29 (Operand.tmp 75) (Operand.const (Value.int IntKind.i64 6)) 29, type := 4, pos := "law.go:20", after := #[{ on := 29, ground := Ground.data }, { on := 28, ground := Ground.guard }], guard := some (28, true) }) (v := ?_) rfl (by kernel_rfl) (by kernel_rfl) (by kernel_rfl) (fun _ _ _ h => h) (Or.inl ⟨by rfl, ?_⟩) hHeld ?_
  rotate_left
  · intro w hSw; (try dsimp only at hSw); go_simp; first | done | with_reducible rfl
  try simp only [Act.put, List.setIfInBounds_toArray, List.set_cons_zero, List.set_cons_succ]
  refine wpAnyH_take (i := 31) (oi := { dst := some 77, op := Op.pick (Operand.tmp 74) (Operand.tmp 76) (Operand.const (Value.bool false)), type := 4, pos := "law.go:20", after := #[{ on := 28, ground := Ground.data }, { on := 30, ground := Ground.data }], guard := none }) (v := ?_) rfl (by kernel_rfl) (by kernel_rfl) (by kernel_rfl) (fun _ _ _ h => h) (Or.inl ⟨by rfl, ?_⟩) hHeld ?_
  rotate_left
  · intro w hSw; (try dsimp only at hSw); go_simp; first | done | with_reducible rfl
  try simp only [Act.put, List.setIfInBounds_toArray, List.set_cons_zero, List.set_cons_succ]
  refine wpAnyH_take (i := 32) (oi := { dst := some 0, op := Op.assign (Operand.tmp 77), type := 4, pos := "law.go:20", after := #[{ on := 31, ground := Ground.data }, { on := 28, ground := Ground.chain }, { on := 0, ground := Ground.phase }, { on := 1, ground := Ground.phase }, { on := 2, ground := Ground.phase }, { on := 3, ground := Ground.phase }, { on := 4, ground := Ground.phase }, { on := 5, ground := Ground.phase }, { on := 6, ground := Ground.phase }, { on := 7, ground := Ground.phase }, { on := 8, ground := Ground.phase }, { on := 9, ground := Ground.phase }, { on := 10, ground := Ground.phase }, { on := 11, ground := Ground.phase }, { on := 12, ground := Ground.phase }, { on := 13, ground := Ground.phase }, { on := 14, ground := Ground.phase }, { on := 15, ground := Ground.phase }, { on := 16, ground := Ground.phase }, { on := 17, ground := Ground.phase }, { on := 18, ground := Ground.phase }, { on := 19, ground := Ground.phase }, { on := 20, ground := Ground.phase }, { on := 21, ground := Ground.phase }, { on := 22, ground := Ground.phase }, { on := 23, ground := Ground.phase }, { on := 24, ground := Ground.phase }, { on := 25, ground := Ground.phase }, { on := 26, ground := Ground.phase }, { on := 27, ground := Ground.phase }, { on := 28, ground := Ground.phase }, { on := 29, ground := Ground.phase }, { on := 30, ground := Ground.phase }, { on := 31, ground := Ground.phase }], guard := none }) (v := ?_) rfl (by kernel_rfl) (by kernel_rfl) (by kernel_rfl) (fun _ _ _ h => h) (Or.inl ⟨by rfl, ?_⟩) hHeld ?_
  rotate_left
  · intro w hSw; (try dsimp only at hSw); go_simp; first | done | with_reducible rfl
  try simp only [Act.put, List.setIfInBounds_toArray, List.set_cons_zero]
  refine wpAnyH_done (by kernel_rfl) ?_ _
  clear hHeld
  go_wp2_with fail
  go_ret
  exact ⟨rfl, HB2.out⟩
end Go.Proofs.YtilefgmlnmpeoaaDoor
