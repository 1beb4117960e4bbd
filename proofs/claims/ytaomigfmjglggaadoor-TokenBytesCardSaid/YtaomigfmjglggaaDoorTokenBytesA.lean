/- Law TokenBytes: what it leans on. Law TokenBytes, walked: a case of four. Law TokenBytes, walked: a case of four. Law TokenBytes, walked: a case of four. Law TokenBytes, walked: a case of four. -/
import Derived.Test.YtaomigfmjglggaaDoorTkBkM
import Derived.Test.YtaomigfmjglggaaDoorTkRdR
namespace Go.Proofs.YtaomigfmjglggaaDoor
open Go.RowKit

structure LC (w : World) (t : Tk) (sv : Value) (bs : List Int) (W : World) : Prop where
  x : TBox W w.heap.size t
  m : SlAt W sv bs
  b : Below w.heap.size w W
theorem LC.next {w : World} {t : Tk} {sv : Value} {bs : List Int} {W W' : World} (h : LC w t sv bs W) (hb : Below W.heap.size W W') : LC w t sv bs W' := ⟨h.x.next hb, h.m.below hb, h.b.trans (hb.mono h.b.size)⟩
theorem LC.first (w : World) (t : Tk) (sv : Value) (bs : List Int) (hm : SlAt w sv bs) : LC w t sv bs (w.alloc (.cells (tkA t) 31)) := by
  have hb : Below w.heap.size w (w.alloc (.cells (tkA t) 31)) := (Below.refl w.heap.size w).alloc (Nat.le_refl _) _
  exact ⟨TBox.new w t, hm.below hb, hb⟩
/-- What the law's line that compares texts leans on. -/
structure LCB (w : World) (t : Tk) (sv : Value) (bs : List Int) (vb : Value) (B : List Int) (W : World) : Prop where
  l : LC w t sv bs W
  b : SlAt W vb B
theorem LCB.next {w : World} {t : Tk} {sv : Value} {bs : List Int} {vb : Value} {B : List Int} {W W' : World} (h : LCB w t sv bs vb B W) (hb : Below W.heap.size W W') : LCB w t sv bs vb B W' := ⟨h.l.next hb, h.b.below hb⟩
theorem refread_some (sv : Value) (bs : List Int) (W : World) (hs : SlAt W sv bs) (hf : Fine bs) {t : Tk} (h : readS bs = some t) :
    Calls Tryd.prog 27 #[sv] W (fun e w' => e = .returned (.tuple #[.agg (tkA t), .bool true]) ∧ Below W.heap.size W w') := by
  refine (refread_any sv bs W hs hf).mono ?_
  rintro e w' ⟨he, hb⟩
  rw [refS_eq hf, h] at he
  exact ⟨he, hb⟩
theorem refread_none (sv : Value) (bs : List Int) (W : World) (hs : SlAt W sv bs) (hf : Fine bs) (h : readS bs = none) :
    Calls Tryd.prog 27 #[sv] W (fun e w' => e = .returned (.tuple #[.agg (tkA tk0), .bool false]) ∧ Below W.heap.size W w') := by
  refine (refread_any sv bs W hs hf).mono ?_
  rintro e w' ⟨he, hb⟩
  rw [refS_eq hf, h] at he
  exact ⟨he, hb⟩
end Go.Proofs.YtaomigfmjglggaaDoor
namespace Go.Proofs.YtaomigfmjglggaaDoor
open Go.RowKit

set_option maxRecDepth 100000 in
set_option maxHeartbeats 8000000 in
theorem bytes_main1 (t z : Tk) (ba : Option Addr) (q mc : Nat) (bs : List Int) (w : World) (hT : Tab w) (hp : t.ok) (hm : SlAt w (.slice ba q mc) bs) (hf : Fine bs) (hq : bs.length = q) (hq1000 : ¬ 1000 < q) (hl1 : longB 0 t = false) (hmt : mayT t = true) (hr : readS bs = some z) :
    Calls Tryd.prog 6 #[.agg (tkA t), .slice ba q mc] w (LawPost w) := by
  have HT := hide hT
  have HL := hide (LC.first w t (.slice ba q mc) bs hm)
  have HOT := hide hp
  have HMT := hide hp.mac
  have HAW := hide (fun W (h : Below w.heap.size w W) => awake_any W (HT.out.below h HT.out.two))
  have HLS := hide (fun W => (show _ from by have h := long_any none 0 0 0 0 t W; rw [hl1] at h; exact h))
  have HMR := hide (fun W => (show _ from by have h := tmayR_any t HOT.out W; rw [hmt] at h; exact h))
  have HZL := hide (readS_form hf hr).1.mac
  have HRD := hide (fun (W : World) (h : Below w.heap.size w W) (hs : SlAt W (.slice ba q mc) bs) => read_some (.slice ba q mc) bs W hs hf (HT.out.below h HT.out.two) hr)
  have HRR := hide (fun (W : World) (hs : SlAt W (.slice ba q mc) bs) => refread_some (.slice ba q mc) bs W hs hf hr)
  have heq := (fun w => run_eqTk z z HZL.out HZL.out w)
  simp only [eqT_self] at heq
  have HQ := tuck hq
  have HBY := hide (fun (W : World) (h : Below w.heap.size w W) => bytes_ok t HOT.out hmt W (HT.out.below h HT.out.two))
  have HBR := hide (fun (W : World) => bytesR_ok t HOT.out hmt W)
  obtain ⟨B, hB⟩ : ∃ B, saidS t ++ t.mac = B := ⟨_, rfl⟩
  rw [hB] at HBY HBR
  obtain ⟨SB, hSB⟩ : ∃ SB, strOfNums B = SB := ⟨_, rfl⟩
  have HSB := tuck hSB
  clear hB hSB
  clear hp hm hT hf hr hq hl1 hmt
  unfold ringA at *
  have hq1 : ¬ (1000 : Int) < (q : Int) := by omega
  have hq2 : decide ((1000 : Int) < (q : Int)) = false := by simpa using hq1
  have hq3 : decide (1000 < q) = false := by simpa using hq1000
  go_enter Tryd.func6, Tryd.ntmps6
  go_upto_region 3 with (first | (refine wpList_load_tk rfl (.tmp 2) rfl w.heap.size rfl t HMT.out HL.out.x ?_) | (go_at_call 11; refine (HLS.out _).mono ?_; rintro e w2 ⟨rfl, hB⟩; have HL2 := hide (HL.out.next hB); clear hB HL HLS))
  go_upto_region 4 with (first | (refine wpList_load_tk rfl (.tmp 2) rfl w.heap.size rfl t HMT.out HL2.out.x ?_) | (go_at_call 24; refine (HBY.out _ HL2.out.b).mono ?_; rintro e w3 ⟨vb, rfl, hr, hB⟩; have HK3 := hide (show LCB w t (.slice ba q mc) bs vb B w3 from ⟨HL2.out.next hB, hr.slAt⟩); clear hr hB HL2 HBY))
  go_upto_region 7 with (first | (refine wpList_load_tk rfl (.tmp 2) rfl w.heap.size rfl t HMT.out HK3.out.l.x ?_) | (go_at_call 16; refine (HMR.out _).mono ?_; rintro e w4 ⟨rfl, hB⟩; have HK4 := hide (HK3.out.next hB); clear hB HK3 HMR))
  replace HK4 := hide (HK4.out.next ((Below.refl _ _).drew))
  refine wp_region_held_drew (S := LCB w t (.slice ba q mc) bs vb B) (by kernel_rfl) HK4.out (fun hHeld => ?_)
  generalize w4.drew = w4 at hHeld HK4 ⊢
  refine wpAnyH_take (i := 0) (oi := { dst := some 35, op := Op.move (Operand.tmp 6), type := 37, pos := "law.go:78", after := #[], guard := none }) (v := ?_) rfl (by kernel_rfl) (by kernel_rfl) (by kernel_rfl) (fun _ _ _ h => h) (Or.inl ⟨by rfl, ?_⟩) hHeld ?_
  rotate_left
  · intro w hSw; (try dsimp only at hSw); go_simp; first | done | with_reducible rfl
  try simp only [Act.put, List.setIfInBounds_toArray, List.set_cons_zero, List.set_cons_succ]
  refine wpAnyH_take (i := 1) (oi := { dst := some 36, op := Op.binOp BinOp.neq 37 (Operand.tmp 35) (Operand.const (Value.int IntKind.i64 0)) 37, type := 4, pos := "law.go:78", after := #[{ on := 0, ground := Ground.data }], guard := none }) (v := ?_) rfl (by kernel_rfl) (by kernel_rfl) (by kernel_rfl) (fun _ _ _ h => h) (Or.inl ⟨by rfl, ?_⟩) hHeld ?_
  rotate_left
  · intro w hSw; (try dsimp only at hSw); go_simp; first | done | with_reducible rfl
  try simp only [Act.put, List.setIfInBounds_toArray, List.set_cons_zero, List.set_cons_succ]
  refine wpAnyH_take (i := 2) (oi := { dst := some 37, op := Op.move (Operand.tmp 36), type := 4, pos := "law.go:78", after := #[{ on := 1, ground := Ground.data }], guard := none }) (v := ?_) rfl (by kernel_rfl) (by kernel_rfl) (by kernel_rfl) (fun _ _ _ h => h) (Or.inl ⟨by rfl, ?_⟩) hHeld ?_
  rotate_left
  · intro w hSw; (try dsimp only at hSw); go_simp; first | done | with_reducible rfl
  try simp only [Act.put, List.setIfInBounds_toArray, List.set_cons_zero, List.set_cons_succ]
  refine wpAnyH_take (i := 3) (oi := { dst := some 38, op := Op.move (Operand.tmp 5), type := 22, pos := "law.go:78", after := #[{ on := 2, ground := Ground.guard }], guard := some (2, false) }) (v := ?_) rfl (by kernel_rfl) (by kernel_rfl) (by kernel_rfl) (fun _ _ _ h => h) (Or.inl ⟨by rfl, ?_⟩) hHeld ?_
  rotate_left
  · intro w hSw; (try dsimp only at hSw); go_simp; first | done | with_reducible rfl
  try simp only [Act.put, List.setIfInBounds_toArray, List.set_cons_zero, List.set_cons_succ]
  refine wpAnyH_take (i := 4) (oi := { dst := some 39, op := Op.convert 22 9 (Operand.tmp 38), type := 9, pos := "law.go:78", after := #[{ on := 3, ground := Ground.data }, { on := 2, ground := Ground.guard }], guard := some (2, false) }) (v := ?_) rfl (by kernel_rfl) (by kernel_rfl) (by kernel_rfl) (fun _ _ _ h => h) (Or.inl ⟨by rfl, ?_⟩) hHeld ?_
  rotate_left
  · intro w hSw; (try dsimp only at hSw); have hst := hSw.b.string (P := Tryd.prog) 22 5 9 Tryd.underlying22 Tryd.underlying5 Tryd.underlying9; rw [HSB.out] at hst; go_simp; first | done | with_reducible rfl
  try simp only [Act.put, List.setIfInBounds_toArray, List.set_cons_zero, List.set_cons_succ]
  refine wpAnyH_take (i := 5) (oi := { dst := some 40, op := Op.load 31 (Operand.tmp 2), type := 31, pos := "law.go:78", after := #[{ on := 2, ground := Ground.guard }], guard := some (2, false) }) (v := .agg (tkA t)) rfl (by kernel_rfl) (by kernel_rfl) (by kernel_rfl) (fun _ _ _ h => h) (yields_tk (by rfl) _ rfl (w.heap.size) rfl t HMT.out (fun _ h => h.l.x)) hHeld ?_
  try simp only [Act.put, List.setIfInBounds_toArray, List.set_cons_zero, List.set_cons_succ]
  refine wpAnyH_ready (rs := [6]) (by kernel_rfl) (by simp) ?_
  refine AllReadyH.cons (o := { dst := some 41, op := Op.call { callee := Callee.value (Operand.func 25), args := #[Operand.tmp 40], argTypes := #[31] }, type := 22, pos := "law.go:78", after := #[{ on := 5, ground := Ground.data }, { on := 2, ground := Ground.chain }, { on := 2, ground := Ground.guard }], guard := some (2, false) }) rfl (fun K hK => ?_) AllReadyH.nil
  clear hHeld
  go_simp
  refine (HBR.out _).mono ?_
  rintro e w5 ⟨vc, rfl, hr, hB⟩
  have HK5 := hide (HK4.out.next hB)
  have hst := hr.slAt.string (P := Tryd.prog) 22 5 9 Tryd.underlying22 Tryd.underlying5 Tryd.underlying9
  rw [HSB.out] at hst
  clear hr hB HK4 HBR
  refine hK.out _ _ (HK5.out) (fun hHeld => ?_)
  clear hK K
  try simp only [Act.put, List.setIfInBounds_toArray, List.set_cons_zero, List.set_cons_succ]
  refine wpAnyH_ready (rs := [7]) (by kernel_rfl) (by simp) ?_
  refine AllReadyH.cons (o := { dst := some 42, op := Op.convert 22 9 (Operand.tmp 41), type := 9, pos := "law.go:78", after := #[{ on := 6, ground := Ground.data }, { on := 2, ground := Ground.guard }], guard := some (2, false) }) rfl (fun K hK => ?_) AllReadyH.nil
  clear hHeld
  go_simp
  refine hK.out _ _ (HK5.out) (fun hHeld => ?_)
  clear hK K
  try simp only [Act.put, List.setIfInBounds_toArray, List.set_cons_zero, List.set_cons_succ]
  refine wpAnyH_take (i := 8) (oi := { dst := some 43, op := Op.binOp BinOp.neq 9 (Operand.tmp 39) (Operand.tmp 42) 9, type := 4, pos := "law.go:78", after := #[{ on := 4, ground := Ground.data }, { on := 7, ground := Ground.data }, { on := 2, ground := Ground.guard }], guard := some (2, false) }) (v := ?_) rfl (by kernel_rfl) (by kernel_rfl) (by kernel_rfl) (fun _ _ _ h => h) (Or.inl ⟨by rfl, ?_⟩) hHeld ?_
  rotate_left
  · intro w hSw; (try dsimp only at hSw); go_simp; first | done | with_reducible rfl
  try simp only [Act.put, List.setIfInBounds_toArray, List.set_cons_zero, List.set_cons_succ]
  refine wpAnyH_take (i := 9) (oi := { dst := some 44, op := Op.pick (Operand.tmp 37) (Operand.const (Value.bool true)) (Operand.tmp 43), type := 4, pos := "law.go:78", after := #[{ on := 2, ground := Ground.data }, { on := 8, ground := Ground.data }], guard := none }) (v := ?_) rfl (by kernel_rfl) (by kernel_rfl) (by kernel_rfl) (fun _ _ _ h => h) (Or.inl ⟨by rfl, ?_⟩) hHeld ?_
  rotate_left
  · intro w hSw; (try dsimp only at hSw); go_simp; first | done | with_reducible rfl
  try simp only [Act.put, List.setIfInBounds_toArray, List.set_cons_zero, List.set_cons_succ]
  refine wpAnyH_done (by kernel_rfl) ?_ _
  clear hHeld
  have HL5 := hide HK5.out.l
  clear HK5
  go_upto_region 9 with fail
  go_upto_region 10 with (first | (go_at_call 26; refine (HRD.out _ HL5.out.b HL5.out.m).mono ?_; rintro e w6 ⟨rfl, hB⟩; have HL6 := hide (HL5.out.next hB);  clear hB HL5 ) | (refine wpList_alloc_tk rfl rfl ?_) | (refine wpList_store_tk_new rfl (.tmp 7) (.tmp 48) rfl w6.heap.size z rfl rfl tk0 tk0_len HZL.out (TBox.new _ _) (fun W => Below w6.heap.size w6 W ∧ TBox W w6.heap.size z) ⟨below_pair w6 tk0 z, (TBox.new _ _).row⟩ ?_; intro w7 hp; have HL7 := hide (HL6.out.next hp.1); have HX7 := hide hp.2;  clear hp HL6 ))
  go_upto_region 11 with (first | (go_at_call 27; refine (HRR.out _ HL7.out.m).mono ?_; rintro e w8 ⟨rfl, hB⟩; have HL8 := hide (HL7.out.next hB); have HX7a := hide (HX7.out.next hB); clear hB HL7 HX7) | (refine wpList_alloc_tk rfl rfl ?_) | (refine wpList_store_tk_new rfl (.tmp 9) (.tmp 53) rfl w8.heap.size z rfl rfl tk0 tk0_len HZL.out (TBox.new _ _) (fun W => Below w8.heap.size w8 W ∧ TBox W w8.heap.size z) ⟨below_pair w8 tk0 z, (TBox.new _ _).row⟩ ?_; intro w9 hp; have HL9 := hide (HL8.out.next hp.1); have HX9 := hide hp.2; have HX7b := hide (HX7a.out.next hp.1); clear hp HL8 HX7a))
  go_wp2_with (first | (refine wpList_load_tk rfl (.tmp 7) rfl w6.heap.size rfl z HZL.out HX7b.out ?_) | (refine wpList_load_tk rfl (.tmp 9) rfl w8.heap.size rfl z HZL.out HX9.out ?_) | (go_at_call 12; refine (HAW.out _ HL9.out.b).mono ?_; rintro e wz ⟨rfl, hB⟩; have HLz := hide (HL9.out.next hB); clear hB HL9))
  go_ret
  exact ⟨rfl, HLz.out.b⟩
end Go.Proofs.YtaomigfmjglggaaDoor
namespace Go.Proofs.YtaomigfmjglggaaDoor
open Go.RowKit

set_option maxRecDepth 100000 in
set_option maxHeartbeats 8000000 in
theorem bytes_main2 (t : Tk) (ba : Option Addr) (q mc : Nat) (bs : List Int) (w : World) (hT : Tab w) (hp : t.ok) (hm : SlAt w (.slice ba q mc) bs) (hf : Fine bs) (hq : bs.length = q) (hq1000 : ¬ 1000 < q) (hl1 : longB 0 t = false) (hmt : mayT t = true) (hr : readS bs = none) :
    Calls Tryd.prog 6 #[.agg (tkA t), .slice ba q mc] w (LawPost w) := by
  have HT := hide hT
  have HL := hide (LC.first w t (.slice ba q mc) bs hm)
  have HOT := hide hp
  have HMT := hide hp.mac
  have HAW := hide (fun W (h : Below w.heap.size w W) => awake_any W (HT.out.below h HT.out.two))
  have HLS := hide (fun W => (show _ from by have h := long_any none 0 0 0 0 t W; rw [hl1] at h; exact h))
  have HMR := hide (fun W => (show _ from by have h := tmayR_any t HOT.out W; rw [hmt] at h; exact h))
  have HRD := hide (fun (W : World) (h : Below w.heap.size w W) (hs : SlAt W (.slice ba q mc) bs) => read_none (.slice ba q mc) bs W hs hf (HT.out.below h HT.out.two) hr)
  have HRR := hide (fun (W : World) (hs : SlAt W (.slice ba q mc) bs) => refread_none (.slice ba q mc) bs W hs hf hr)
  have heq := (fun w => run_eqTk tk0 tk0 tk0_len tk0_len w)
  simp only [eqT_self] at heq
  have HQ := tuck hq
  have HBY := hide (fun (W : World) (h : Below w.heap.size w W) => bytes_ok t HOT.out hmt W (HT.out.below h HT.out.two))
  have HBR := hide (fun (W : World) => bytesR_ok t HOT.out hmt W)
  obtain ⟨B, hB⟩ : ∃ B, saidS t ++ t.mac = B := ⟨_, rfl⟩
  rw [hB] at HBY HBR
  obtain ⟨SB, hSB⟩ : ∃ SB, strOfNums B = SB := ⟨_, rfl⟩
  have HSB := tuck hSB
  clear hB hSB
  clear hp hm hT hf hr hq hl1 hmt
  unfold ringA at *
  have hq1 : ¬ (1000 : Int) < (q : Int) := by omega
  have hq2 : decide ((1000 : Int) < (q : Int)) = false := by simpa using hq1
  have hq3 : decide (1000 < q) = false := by simpa using hq1000
  go_enter Tryd.func6, Tryd.ntmps6
  go_upto_region 3 with (first | (refine wpList_load_tk rfl (.tmp 2) rfl w.heap.size rfl t HMT.out HL.out.x ?_) | (go_at_call 11; refine (HLS.out _).mono ?_; rintro e w2 ⟨rfl, hB⟩; have HL2 := hide (HL.out.next hB); clear hB HL HLS))
  go_upto_region 4 with (first | (refine wpList_load_tk rfl (.tmp 2) rfl w.heap.size rfl t HMT.out HL2.out.x ?_) | (go_at_call 24; refine (HBY.out _ HL2.out.b).mono ?_; rintro e w3 ⟨vb, rfl, hr, hB⟩; have HK3 := hide (show LCB w t (.slice ba q mc) bs vb B w3 from ⟨HL2.out.next hB, hr.slAt⟩); clear hr hB HL2 HBY))
  go_upto_region 7 with (first | (refine wpList_load_tk rfl (.tmp 2) rfl w.heap.size rfl t HMT.out HK3.out.l.x ?_) | (go_at_call 16; refine (HMR.out _).mono ?_; rintro e w4 ⟨rfl, hB⟩; have HK4 := hide (HK3.out.next hB); clear hB HK3 HMR))
  replace HK4 := hide (HK4.out.next ((Below.refl _ _).drew))
  refine wp_region_held_drew (S := LCB w t (.slice ba q mc) bs vb B) (by kernel_rfl) HK4.out (fun hHeld => ?_)
  generalize w4.drew = w4 at hHeld HK4 ⊢
  refine wpAnyH_take (i := 0) (oi := { dst := some 35, op := Op.move (Operand.tmp 6), type := 37, pos := "law.go:78", after := #[], guard := none }) (v := ?_) rfl (by kernel_rfl) (by kernel_rfl) (by kernel_rfl) (fun _ _ _ h => h) (Or.inl ⟨by rfl, ?_⟩) hHeld ?_
  rotate_left
  · intro w hSw; (try dsimp only at hSw); go_simp; first | done | with_reducible rfl
  try simp only [Act.put, List.setIfInBounds_toArray, List.set_cons_zero, List.set_cons_succ]
  refine wpAnyH_take (i := 1) (oi := { dst := some 36, op := Op.binOp BinOp.neq 37 (Operand.tmp 35) (Operand.const (Value.int IntKind.i64 0)) 37, type := 4, pos := "law.go:78", after := #[{ on := 0, ground := Ground.data }], guard := none }) (v := ?_) rfl (by kernel_rfl) (by kernel_rfl) (by kernel_rfl) (fun _ _ _ h => h) (Or.inl ⟨by rfl, ?_⟩) hHeld ?_
  rotate_left
  · intro w hSw; (try dsimp only at hSw); go_simp; first | done | with_reducible rfl
  try simp only [Act.put, List.setIfInBounds_toArray, List.set_cons_zero, List.set_cons_succ]
  refine wpAnyH_take (i := 2) (oi := { dst := some 37, op := Op.move (Operand.tmp 36), type := 4, pos := "law.go:78", after := #[{ on := 1, ground := Ground.data }], guard := none }) (v := ?_) rfl (by kernel_rfl) (by kernel_rfl) (by kernel_rfl) (fun _ _ _ h => h) (Or.inl ⟨by rfl, ?_⟩) hHeld ?_
  rotate_left
  · intro w hSw; (try dsimp only at hSw); go_simp; first | done | with_reducible rfl
  try simp only [Act.put, List.setIfInBounds_toArray, List.set_cons_zero, List.set_cons_succ]
  refine wpAnyH_take (i := 3) (oi := { dst := some 38, op := Op.move (Operand.tmp 5), type := 22, pos := "law.go:78", after := #[{ on := 2, ground := Ground.guard }], guard := some (2, false) }) (v := ?_) rfl (by kernel_rfl) (by kernel_rfl) (by kernel_rfl) (fun _ _ _ h => h) (Or.inl ⟨by rfl, ?_⟩) hHeld ?_
  rotate_left
  · intro w hSw; (try dsimp only at hSw); go_simp; first | done | with_reducible rfl
  try simp only [Act.put, List.setIfInBounds_toArray, List.set_cons_zero, List.set_cons_succ]
  refine wpAnyH_take (i := 4) (oi := { dst := some 39, op := Op.convert 22 9 (Operand.tmp 38), type := 9, pos := "law.go:78", after := #[{ on := 3, ground := Ground.data }, { on := 2, ground := Ground.guard }], guard := some (2, false) }) (v := ?_) rfl (by kernel_rfl) (by kernel_rfl) (by kernel_rfl) (fun _ _ _ h => h) (Or.inl ⟨by rfl, ?_⟩) hHeld ?_
  rotate_left
  · intro w hSw; (try dsimp only at hSw); have hst := hSw.b.string (P := Tryd.prog) 22 5 9 Tryd.underlying22 Tryd.underlying5 Tryd.underlying9; rw [HSB.out] at hst; go_simp; first | done | with_reducible rfl
  try simp only [Act.put, List.setIfInBounds_toArray, List.set_cons_zero, List.set_cons_succ]
  refine wpAnyH_take (i := 5) (oi := { dst := some 40, op := Op.load 31 (Operand.tmp 2), type := 31, pos := "law.go:78", after := #[{ on := 2, ground := Ground.guard }], guard := some (2, false) }) (v := .agg (tkA t)) rfl (by kernel_rfl) (by kernel_rfl) (by kernel_rfl) (fun _ _ _ h => h) (yields_tk (by rfl) _ rfl (w.heap.size) rfl t HMT.out (fun _ h => h.l.x)) hHeld ?_
  try simp only [Act.put, List.setIfInBounds_toArray, List.set_cons_zero, List.set_cons_succ]
  refine wpAnyH_ready (rs := [6]) (by kernel_rfl) (by simp) ?_
  refine AllReadyH.cons (o := { dst := some 41, op := Op.call { callee := Callee.value (Operand.func 25), args := #[Operand.tmp 40], argTypes := #[31] }, type := 22, pos := "law.go:78", after := #[{ on := 5, ground := Ground.data }, { on := 2, ground := Ground.chain }, { on := 2, ground := Ground.guard }], guard := some (2, false) }) rfl (fun K hK => ?_) AllReadyH.nil
  clear hHeld
  go_simp
  refine (HBR.out _).mono ?_
  rintro e w5 ⟨vc, rfl, hr, hB⟩
  have HK5 := hide (HK4.out.next hB)
  have hst := hr.slAt.string (P := Tryd.prog) 22 5 9 Tryd.underlying22 Tryd.underlying5 Tryd.underlying9
  rw [HSB.out] at hst
  clear hr hB HK4 HBR
  refine hK.out _ _ (HK5.out) (fun hHeld => ?_)
  clear hK K
  try simp only [Act.put, List.setIfInBounds_toArray, List.set_cons_zero, List.set_cons_succ]
  refine wpAnyH_ready (rs := [7]) (by kernel_rfl) (by simp) ?_
  refine AllReadyH.cons (o := { dst := some 42, op := Op.convert 22 9 (Operand.tmp 41), type := 9, pos := "law.go:78", after := #[{ on := 6, ground := Ground.data }, { on := 2, ground := Ground.guard }], guard := some (2, false) }) rfl (fun K hK => ?_) AllReadyH.nil
  clear hHeld
  go_simp
  refine hK.out _ _ (HK5.out) (fun hHeld => ?_)
  clear hK K
  try simp only [Act.put, List.setIfInBounds_toArray, List.set_cons_zero, List.set_cons_succ]
  refine wpAnyH_take (i := 8) (oi := { dst := some 43, op := Op.binOp BinOp.neq 9 (Operand.tmp 39) (Operand.tmp 42) 9, type := 4, pos := "law.go:78", after := #[{ on := 4, ground := Ground.data }, { on := 7, ground := Ground.data }, { on := 2, ground := Ground.guard }], guard := some (2, false) }) (v := ?_) rfl (by kernel_rfl) (by kernel_rfl) (by kernel_rfl) (fun _ _ _ h => h) (Or.inl ⟨by rfl, ?_⟩) hHeld ?_
  rotate_left
  · intro w hSw; (try dsimp only at hSw); go_simp; first | done | with_reducible rfl
  try simp only [Act.put, List.setIfInBounds_toArray, List.set_cons_zero, List.set_cons_succ]
  refine wpAnyH_take (i := 9) (oi := { dst := some 44, op := Op.pick (Operand.tmp 37) (Operand.const (Value.bool true)) (Operand.tmp 43), type := 4, pos := "law.go:78", after := #[{ on := 2, ground := Ground.data }, { on := 8, ground := Ground.data }], guard := none }) (v := ?_) rfl (by kernel_rfl) (by kernel_rfl) (by kernel_rfl) (fun _ _ _ h => h) (Or.inl ⟨by rfl, ?_⟩) hHeld ?_
  rotate_left
  · intro w hSw; (try dsimp only at hSw); go_simp; first | done | with_reducible rfl
  try simp only [Act.put, List.setIfInBounds_toArray, List.set_cons_zero, List.set_cons_succ]
  refine wpAnyH_done (by kernel_rfl) ?_ _
  clear hHeld
  have HL5 := hide HK5.out.l
  clear HK5
  go_upto_region 9 with fail
  go_upto_region 10 with (first | (go_at_call 26; refine (HRD.out _ HL5.out.b HL5.out.m).mono ?_; rintro e w6 ⟨rfl, hB⟩; have HL6 := hide (HL5.out.next hB);  clear hB HL5 ) | (refine wpList_alloc_tk rfl rfl ?_) | (refine wpList_store_tk_new rfl (.tmp 7) (.tmp 48) rfl w6.heap.size tk0 rfl rfl tk0 tk0_len tk0_len (TBox.new _ _) (fun W => Below w6.heap.size w6 W ∧ TBox W w6.heap.size tk0) ⟨below_pair w6 tk0 tk0, (TBox.new _ _).row⟩ ?_; intro w7 hp; have HL7 := hide (HL6.out.next hp.1); have HX7 := hide hp.2;  clear hp HL6 ))
  go_upto_region 11 with (first | (go_at_call 27; refine (HRR.out _ HL7.out.m).mono ?_; rintro e w8 ⟨rfl, hB⟩; have HL8 := hide (HL7.out.next hB); have HX7a := hide (HX7.out.next hB); clear hB HL7 HX7) | (refine wpList_alloc_tk rfl rfl ?_) | (refine wpList_store_tk_new rfl (.tmp 9) (.tmp 53) rfl w8.heap.size tk0 rfl rfl tk0 tk0_len tk0_len (TBox.new _ _) (fun W => Below w8.heap.size w8 W ∧ TBox W w8.heap.size tk0) ⟨below_pair w8 tk0 tk0, (TBox.new _ _).row⟩ ?_; intro w9 hp; have HL9 := hide (HL8.out.next hp.1); have HX9 := hide hp.2; have HX7b := hide (HX7a.out.next hp.1); clear hp HL8 HX7a))
  go_wp2_with (first | (refine wpList_load_tk rfl (.tmp 7) rfl w6.heap.size rfl tk0 tk0_len HX7b.out ?_) | (refine wpList_load_tk rfl (.tmp 9) rfl w8.heap.size rfl tk0 tk0_len HX9.out ?_) | (go_at_call 12; refine (HAW.out _ HL9.out.b).mono ?_; rintro e wz ⟨rfl, hB⟩; have HLz := hide (HL9.out.next hB); clear hB HL9))
  go_ret
  exact ⟨rfl, HLz.out.b⟩
end Go.Proofs.YtaomigfmjglggaaDoor
namespace Go.Proofs.YtaomigfmjglggaaDoor
open Go.RowKit

set_option maxRecDepth 100000 in
set_option maxHeartbeats 8000000 in
theorem bytes_main3 (t z : Tk) (ba : Option Addr) (q mc : Nat) (bs : List Int) (w : World) (hT : Tab w) (hp : t.ok) (hm : SlAt w (.slice ba q mc) bs) (hf : Fine bs) (hq : bs.length = q) (hq1000 : ¬ 1000 < q) (hl1 : longB 0 t = false) (hmt : mayT t = false) (hr : readS bs = some z) :
    Calls Tryd.prog 6 #[.agg (tkA t), .slice ba q mc] w (LawPost w) := by
  have HT := hide hT
  have HL := hide (LC.first w t (.slice ba q mc) bs hm)
  have HOT := hide hp
  have HMT := hide hp.mac
  have HAW := hide (fun W (h : Below w.heap.size w W) => awake_any W (HT.out.below h HT.out.two))
  have HLS := hide (fun W => (show _ from by have h := long_any none 0 0 0 0 t W; rw [hl1] at h; exact h))
  have HMR := hide (fun W => (show _ from by have h := tmayR_any t HOT.out W; rw [hmt] at h; exact h))
  have HZL := hide (readS_form hf hr).1.mac
  have HRD := hide (fun (W : World) (h : Below w.heap.size w W) (hs : SlAt W (.slice ba q mc) bs) => read_some (.slice ba q mc) bs W hs hf (HT.out.below h HT.out.two) hr)
  have HRR := hide (fun (W : World) (hs : SlAt W (.slice ba q mc) bs) => refread_some (.slice ba q mc) bs W hs hf hr)
  have heq := (fun w => run_eqTk z z HZL.out HZL.out w)
  simp only [eqT_self] at heq
  have HQ := tuck hq
  have HBY := hide (fun W => bytes_no t HOT.out hmt W)
  clear hp hm hT hf hr hq hl1 hmt
  unfold ringA at *
  have hq1 : ¬ (1000 : Int) < (q : Int) := by omega
  have hq2 : decide ((1000 : Int) < (q : Int)) = false := by simpa using hq1
  have hq3 : decide (1000 < q) = false := by simpa using hq1000
  go_enter Tryd.func6, Tryd.ntmps6
  go_upto_region 3 with (first | (refine wpList_load_tk rfl (.tmp 2) rfl w.heap.size rfl t HMT.out HL.out.x ?_) | (go_at_call 11; refine (HLS.out _).mono ?_; rintro e w2 ⟨rfl, hB⟩; have HL2 := hide (HL.out.next hB); clear hB HL HLS))
  go_upto_region 4 with (first | (refine wpList_load_tk rfl (.tmp 2) rfl w.heap.size rfl t HMT.out HL2.out.x ?_) | (go_at_call 24; refine (HBY.out _).mono ?_; rintro e w3 ⟨rfl, hB⟩; have HL3 := hide (HL2.out.next hB); clear hB HL2 HBY))
  go_upto_region 9 with (first | (refine wpList_load_tk rfl (.tmp 2) rfl w.heap.size rfl t HMT.out HL3.out.x ?_) | (go_at_call 16; refine (HMR.out _).mono ?_; rintro e w5 ⟨rfl, hB⟩; have HL5 := hide (HL3.out.next hB); clear hB HL3 HMR))
  go_upto_region 10 with (first | (go_at_call 26; refine (HRD.out _ HL5.out.b HL5.out.m).mono ?_; rintro e w6 ⟨rfl, hB⟩; have HL6 := hide (HL5.out.next hB);  clear hB HL5 ) | (refine wpList_alloc_tk rfl rfl ?_) | (refine wpList_store_tk_new rfl (.tmp 7) (.tmp 48) rfl w6.heap.size z rfl rfl tk0 tk0_len HZL.out (TBox.new _ _) (fun W => Below w6.heap.size w6 W ∧ TBox W w6.heap.size z) ⟨below_pair w6 tk0 z, (TBox.new _ _).row⟩ ?_; intro w7 hp; have HL7 := hide (HL6.out.next hp.1); have HX7 := hide hp.2;  clear hp HL6 ))
  go_upto_region 11 with (first | (go_at_call 27; refine (HRR.out _ HL7.out.m).mono ?_; rintro e w8 ⟨rfl, hB⟩; have HL8 := hide (HL7.out.next hB); have HX7a := hide (HX7.out.next hB); clear hB HL7 HX7) | (refine wpList_alloc_tk rfl rfl ?_) | (refine wpList_store_tk_new rfl (.tmp 9) (.tmp 53) rfl w8.heap.size z rfl rfl tk0 tk0_len HZL.out (TBox.new _ _) (fun W => Below w8.heap.size w8 W ∧ TBox W w8.heap.size z) ⟨below_pair w8 tk0 z, (TBox.new _ _).row⟩ ?_; intro w9 hp; have HL9 := hide (HL8.out.next hp.1); have HX9 := hide hp.2; have HX7b := hide (HX7a.out.next hp.1); clear hp HL8 HX7a))
  go_wp2_with (first | (refine wpList_load_tk rfl (.tmp 7) rfl w6.heap.size rfl z HZL.out HX7b.out ?_) | (refine wpList_load_tk rfl (.tmp 9) rfl w8.heap.size rfl z HZL.out HX9.out ?_) | (go_at_call 12; refine (HAW.out _ HL9.out.b).mono ?_; rintro e wz ⟨rfl, hB⟩; have HLz := hide (HL9.out.next hB); clear hB HL9))
  go_ret
  exact ⟨rfl, HLz.out.b⟩
end Go.Proofs.YtaomigfmjglggaaDoor
namespace Go.Proofs.YtaomigfmjglggaaDoor
open Go.RowKit

set_option maxRecDepth 100000 in
set_option maxHeartbeats 8000000 in
theorem bytes_main4 (t : Tk) (ba : Option Addr) (q mc : Nat) (bs : List Int) (w : World) (hT : Tab w) (hp : t.ok) (hm : SlAt w (.slice ba q mc) bs) (hf : Fine bs) (hq : bs.length = q) (hq1000 : ¬ 1000 < q) (hl1 : longB 0 t = false) (hmt : mayT t = false) (hr : readS bs = none) :
    Calls Tryd.prog 6 #[.agg (tkA t), .slice ba q mc] w (LawPost w) := by
  have HT := hide hT
  have HL := hide (LC.first w t (.slice ba q mc) bs hm)
  have HOT := hide hp
  have HMT := hide hp.mac
  have HAW := hide (fun W (h : Below w.heap.size w W) => awake_any W (HT.out.below h HT.out.two))
  have HLS := hide (fun W => (show _ from by have h := long_any none 0 0 0 0 t W; rw [hl1] at h; exact h))
  have HMR := hide (fun W => (show _ from by have h := tmayR_any t HOT.out W; rw [hmt] at h; exact h))
  have HRD := hide (fun (W : World) (h : Below w.heap.size w W) (hs : SlAt W (.slice ba q mc) bs) => read_none (.slice ba q mc) bs W hs hf (HT.out.below h HT.out.two) hr)
  have HRR := hide (fun (W : World) (hs : SlAt W (.slice ba q mc) bs) => refread_none (.slice ba q mc) bs W hs hf hr)
  have heq := (fun w => run_eqTk tk0 tk0 tk0_len tk0_len w)
  simp only [eqT_self] at heq
  have HQ := tuck hq
  have HBY := hide (fun W => bytes_no t HOT.out hmt W)
  clear hp hm hT hf hr hq hl1 hmt
  unfold ringA at *
  have hq1 : ¬ (1000 : Int) < (q : Int) := by omega
  have hq2 : decide ((1000 : Int) < (q : Int)) = false := by simpa using hq1
  have hq3 : decide (1000 < q) = false := by simpa using hq1000
  go_enter Tryd.func6, Tryd.ntmps6
  go_upto_region 3 with (first | (refine wpList_load_tk rfl (.tmp 2) rfl w.heap.size rfl t HMT.out HL.out.x ?_) | (go_at_call 11; refine (HLS.out _).mono ?_; rintro e w2 ⟨rfl, hB⟩; have HL2 := hide (HL.out.next hB); clear hB HL HLS))
  go_upto_region 4 with (first | (refine wpList_load_tk rfl (.tmp 2) rfl w.heap.size rfl t HMT.out HL2.out.x ?_) | (go_at_call 24; refine (HBY.out _).mono ?_; rintro e w3 ⟨rfl, hB⟩; have HL3 := hide (HL2.out.next hB); clear hB HL2 HBY))
  go_upto_region 9 with (first | (refine wpList_load_tk rfl (.tmp 2) rfl w.heap.size rfl t HMT.out HL3.out.x ?_) | (go_at_call 16; refine (HMR.out _).mono ?_; rintro e w5 ⟨rfl, hB⟩; have HL5 := hide (HL3.out.next hB); clear hB HL3 HMR))
  go_upto_region 10 with (first | (go_at_call 26; refine (HRD.out _ HL5.out.b HL5.out.m).mono ?_; rintro e w6 ⟨rfl, hB⟩; have HL6 := hide (HL5.out.next hB);  clear hB HL5 ) | (refine wpList_alloc_tk rfl rfl ?_) | (refine wpList_store_tk_new rfl (.tmp 7) (.tmp 48) rfl w6.heap.size tk0 rfl rfl tk0 tk0_len tk0_len (TBox.new _ _) (fun W => Below w6.heap.size w6 W ∧ TBox W w6.heap.size tk0) ⟨below_pair w6 tk0 tk0, (TBox.new _ _).row⟩ ?_; intro w7 hp; have HL7 := hide (HL6.out.next hp.1); have HX7 := hide hp.2;  clear hp HL6 ))
  go_upto_region 11 with (first | (go_at_call 27; refine (HRR.out _ HL7.out.m).mono ?_; rintro e w8 ⟨rfl, hB⟩; have HL8 := hide (HL7.out.next hB); have HX7a := hide (HX7.out.next hB); clear hB HL7 HX7) | (refine wpList_alloc_tk rfl rfl ?_) | (refine wpList_store_tk_new rfl (.tmp 9) (.tmp 53) rfl w8.heap.size tk0 rfl rfl tk0 tk0_len tk0_len (TBox.new _ _) (fun W => Below w8.heap.size w8 W ∧ TBox W w8.heap.size tk0) ⟨below_pair w8 tk0 tk0, (TBox.new _ _).row⟩ ?_; intro w9 hp; have HL9 := hide (HL8.out.next hp.1); have HX9 := hide hp.2; have HX7b := hide (HX7a.out.next hp.1); clear hp HL8 HX7a))
  go_wp2_with (first | (refine wpList_load_tk rfl (.tmp 7) rfl w6.heap.size rfl tk0 tk0_len HX7b.out ?_) | (refine wpList_load_tk rfl (.tmp 9) rfl w8.heap.size rfl tk0 tk0_len HX9.out ?_) | (go_at_call 12; refine (HAW.out _ HL9.out.b).mono ?_; rintro e wz ⟨rfl, hB⟩; have HLz := hide (HL9.out.next hB); clear hB HL9))
  go_ret
  exact ⟨rfl, HLz.out.b⟩
end Go.Proofs.YtaomigfmjglggaaDoor
