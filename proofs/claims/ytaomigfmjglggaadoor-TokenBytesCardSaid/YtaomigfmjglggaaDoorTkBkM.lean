/- A token's bytes: the program's, the document's. Law TokenBack: what it leans on. -/
import Derived.Test.YtaomigfmjglggaaDoorTkRdM
import Derived.Test.YtaomigfmjglggaaDoorTkLWM
import Derived.Test.YtaomigfmjglggaaDoorTkSignR
import Derived.Test.YtaomigfmjglggaaDoorTuck
namespace Go.Proofs.YtaomigfmjglggaaDoor
open Go.RowKit

theorem TBox.macSl {W : World} {g : Nat} {t : Tk} (h : TBox W g t) (hm : t.mac.length = 32) : SlAt W (.slice (some ⟨g, 8, none⟩) 32 32) t.mac :=
  ⟨some ⟨g, 8, none⟩, 32, by rw [hm], (fun e => by cases e), by omega, fun ad had i hi => by
    injection had with had
    subst had
    refine ⟨rfl, h.lt, ?_⟩
    rw [addr_plain']
    have := h.mac i (.int .u8 (nth t.mac i)) (by simp [nth, List.getD, hi])
    exact this⟩

set_option maxRecDepth 100000 in
set_option maxHeartbeats 2000000 in
theorem bytes_no (t : Tk) (ho : t.ok) (hm : mayT t = false) (w : World) : Calls Tryd.prog 24 #[.agg (tkA t)] w (fun e w' => e = .returned (.tuple #[.slice none 0 0, .int .i64 1]) ∧ Below w.heap.size w w') := by
  have HBX := hide (TBox.new w t)
  have HB0 := hide ((Below.refl w.heap.size w).alloc (Nat.le_refl _) (.cells (tkA t) 31))
  have HMC := hide ho.mac
  have HMY := hide (fun W => (show _ from by have q := tmay_any t ho W; rw [hm] at q; exact q))
  clear hm ho
  go_enter Tryd.func24, Tryd.ntmps24
  go_wp2_with (first | (refine wpList_load_tk rfl (.tmp 1) rfl w.heap.size rfl t HMC.out HBX.out ?_) | (go_at_call 15; refine (HMY.out _).mono ?_; rintro e w2 ⟨rfl, hB⟩; have HB2 := hide (HB0.out.trans (hB.mono HB0.out.size)); clear hB))
  try simp only [Exit.inBlock, Exit.then]
  first | go_ret | refine bodyPost_ret (results_tmp2 rfl _ _ _) rfl ?_
  exact ⟨rfl, HB2.out⟩
set_option maxRecDepth 100000 in
set_option maxHeartbeats 2000000 in
theorem bytes_ok (t : Tk) (ho : t.ok) (hm : mayT t = true) (w : World) (ht : Tab w) : Calls Tryd.prog 24 #[.agg (tkA t)] w (fun e w' => ∃ v, e = .returned (.tuple #[v, .int .i64 0]) ∧ Row w' w.heap.size v (saidS t ++ t.mac) ∧ Below w.heap.size w w') := by
  have HBX := hide (TBox.new w t)
  have HB0 := hide ((Below.refl w.heap.size w).alloc (Nat.le_refl _) (.cells (tkA t) 31))
  have HMC := hide ho.mac
  have HT := hide ht
  have HLN := hide (saidS_len hm)
  have HMY := hide (fun W => (show _ from by have q := tmay_any t ho W; rw [hm] at q; exact q))
  have HSD := hide (fun (W : World) (hb : Below w.heap.size w W) => said_any t hm W (HT.out.below hb HT.out.two))
  clear hm ho ht
  go_enter Tryd.func24, Tryd.ntmps24
  go_upto_region 3 with (first | (refine wpList_load_tk rfl (.tmp 1) rfl w.heap.size rfl t HMC.out HBX.out ?_) | (go_at_call 15; refine (HMY.out _).mono ?_; rintro e w2 ⟨rfl, hB⟩; have HB2 := hide (HB0.out.trans (hB.mono HB0.out.size)); have HX2 := hide (HBX.out.next hB); clear hB HB0 HBX))
  replace HX2 := hide HX2.out.drew
  replace HB2 := hide (HB2.out.trans ((Below.refl w2.heap.size w2).drew.mono HB2.out.size))
  refine wp_region_held_drew (S := fun w' => TBox w' w.heap.size t) (by kernel_rfl) HX2.out (fun hHeld => ?_)
  generalize w2.drew = w2 at hHeld HX2 HB2 ⊢
  refine wpAnyH_take (i := 0) (oi := { dst := some 7, op := Op.load 31 (Operand.tmp 1), type := 31, pos := "bytes.go:28", after := #[], guard := none }) (v := .agg (tkA t)) rfl (by kernel_rfl) (by kernel_rfl) (by kernel_rfl) (fun _ _ _ h => h) (yields_tk (by rfl) _ rfl (w.heap.size) rfl t HMC.out (fun _ h => h)) hHeld ?_
  try simp only [Act.put, List.setIfInBounds_toArray, List.set_cons_zero, List.set_cons_succ]
  refine wpAnyH_take (i := 2) (oi := { dst := some 9, op := Op.fieldAddr 31 (Operand.tmp 1) 7, type := 0, pos := "bytes.go:28", after := #[], guard := none }) (v := ?_) rfl (by kernel_rfl) (by kernel_rfl) (by kernel_rfl) (fun _ _ _ h => h) (Or.inl ⟨by rfl, ?_⟩) hHeld ?_
  rotate_left
  · intro w hSw; (try dsimp only at hSw); go_simp; first | done | with_reducible rfl
  try simp only [Act.put, List.setIfInBounds_toArray, List.set_cons_zero, List.set_cons_succ]
  refine wpAnyH_take (i := 3) (oi := { dst := some 10, op := Op.slice 29 (Operand.tmp 9) none none none, type := 22, pos := "bytes.go:28", after := #[{ on := 2, ground := Ground.data }], guard := none }) (v := ?_) rfl (by kernel_rfl) (by kernel_rfl) (by kernel_rfl) (fun _ _ _ h => h) (Or.inl ⟨by rfl, ?_⟩) hHeld ?_
  rotate_left
  · intro w hSw; (try dsimp only at hSw); go_simp; first | done | with_reducible rfl
  try simp only [Act.put, List.setIfInBounds_toArray, List.set_cons_zero, List.set_cons_succ]
  refine wpAnyH_ready (rs := [1]) (by kernel_rfl) (by simp) ?_
  refine AllReadyH.cons (o := { dst := some 8, op := Op.call { callee := Callee.value (Operand.func 38), args := #[Operand.tmp 7], argTypes := #[31] }, type := 22, pos := "bytes.go:28", after := #[{ on := 0, ground := Ground.data }], guard := none }) rfl (fun K hK => ?_) AllReadyH.nil
  clear hHeld
  go_simp
  refine (HSD.out _ HB2.out).mono ?_
  rintro e w3 ⟨v3, rfl, hr, hB⟩
  have hB3 := hB
  have HR3 : Hid (Row w3 w2.heap.size v3 (saidS t)) := hide hr
  have HX3 := hide (HX2.out.next hB3)
  have HB3 := hide (HB2.out.trans (hB3.mono HB2.out.size))
  have HS3 := hide hB3.size
  have HL2 := hide HX2.out.lt
  have HS2 := hide HB2.out.size
  clear hr hB hB3 HX2 HB2 HSD
  refine hK.out _ _ (HX3.out) (fun hHeld => ?_)
  clear hK K
  try simp only [Act.put, List.setIfInBounds_toArray, List.set_cons_zero, List.set_cons_succ]
  refine wpAnyH_ready (rs := [4]) (by kernel_rfl) (by simp) ?_
  refine AllReadyH.cons (o := { dst := some 11, op := Op.call { callee := Callee.builtin Builtin.append, args := #[Operand.tmp 8, Operand.tmp 10], argTypes := #[22, 22] }, type := 22, pos := "bytes.go:28", after := #[{ on := 1, ground := Ground.data }, { on := 3, ground := Ground.data }, { on := 1, ground := Ground.chain }], guard := none }) rfl (fun K hK => ?_) AllReadyH.nil
  clear hHeld
  rw [if_pos (by rfl)]
  obtain ⟨v4, w4, hrun, hr, hB⟩ := append_rowB w3 w2.heap.size v3 _ HR3.out (.slice (some ⟨w.heap.size, 8, none⟩) 32 32) t.mac (HX3.out.macSl HMC.out) (by have := HLN.out; have := HMC.out; omega) HS3.out
  refine wp_append_run _ _ _ _ _ rfl rfl v3 _ v4 w4 rfl rfl hrun ?_
  have HR4 := hide (hr.base HS2.out)
  have HB4 := hide (HB3.out.trans (hB.mono HS2.out))
  have HX4 := hide (HX3.out.below hB HL2.out)
  clear hr hB hrun HR3 HB3 HX3
  refine hK.out _ _ (HX4.out) (fun hHeld => ?_)
  clear hK K
  try simp only [Act.put, List.setIfInBounds_toArray, List.set_cons_zero, List.set_cons_succ]
  refine wpAnyH_take (i := 5) (oi := { dst := some 2, op := Op.assign (Operand.tmp 11), type := 22, pos := "bytes.go:28", after := #[{ on := 4, ground := Ground.data }, { on := 4, ground := Ground.chain }, { on := 0, ground := Ground.phase }, { on := 1, ground := Ground.phase }, { on := 2, ground := Ground.phase }, { on := 3, ground := Ground.phase }, { on := 4, ground := Ground.phase }], guard := none }) (v := ?_) rfl (by kernel_rfl) (by kernel_rfl) (by kernel_rfl) (fun _ _ _ h => h) (Or.inl ⟨by rfl, ?_⟩) hHeld ?_
  rotate_left
  · intro w hSw; (try dsimp only at hSw); go_simp; first | done | with_reducible rfl
  try simp only [Act.put, List.setIfInBounds_toArray, List.set_cons_zero, List.set_cons_succ]
  refine wpAnyH_take (i := 6) (oi := { dst := some 3, op := Op.assign (Operand.const (Value.int IntKind.i64 0)), type := 37, pos := "bytes.go:28", after := #[{ on := 5, ground := Ground.chain }, { on := 0, ground := Ground.phase }, { on := 1, ground := Ground.phase }, { on := 2, ground := Ground.phase }, { on := 3, ground := Ground.phase }, { on := 4, ground := Ground.phase }, { on := 5, ground := Ground.phase }], guard := none }) (v := ?_) rfl (by kernel_rfl) (by kernel_rfl) (by kernel_rfl) (fun _ _ _ h => h) (Or.inl ⟨by rfl, ?_⟩) hHeld ?_
  rotate_left
  · intro w hSw; (try dsimp only at hSw); go_simp; first | done | with_reducible rfl
  try simp only [Act.put, List.setIfInBounds_toArray, List.set_cons_zero, List.set_cons_succ]
  refine wpAnyH_done (by kernel_rfl) ?_ _
  clear hHeld
  go_wp2_with fail
  try simp only [Exit.inBlock, Exit.then]
  first | go_ret | refine bodyPost_ret (results_tmp2 rfl _ _ _) rfl ?_
  exact ⟨_, rfl, HR4.out, HB4.out⟩
set_option maxRecDepth 100000 in
set_option maxHeartbeats 2000000 in
theorem bytesR_ok (t : Tk) (ho : t.ok) (hm : mayT t = true) (w : World) : Calls Tryd.prog 25 #[.agg (tkA t)] w (fun e w' => ∃ v, e = .returned v ∧ Row w' w.heap.size v (saidS t ++ t.mac) ∧ Below w.heap.size w w') := by
  have HBX := hide (TBox.new w t)
  have HB0 := hide ((Below.refl w.heap.size w).alloc (Nat.le_refl _) (.cells (tkA t) 31))
  have HMC := hide ho.mac
  have HLN := hide (saidS_len hm)
  have HSD := hide (fun (W : World) => saidR_any t ho hm W)
  clear hm ho
  obtain ⟨w2, hw2⟩ : ∃ w2, w2 = (w.alloc (.cells (tkA t) 31)).drew := ⟨_, rfl⟩
  have HX2 : Hid (TBox w2 w.heap.size t) := hide (by rw [hw2]; exact HBX.out.drew)
  have HB2 : Hid (Below w.heap.size w w2) := hide (by rw [hw2]; exact HB0.out.drew)
  have HW := hide hw2
  clear hw2 HBX HB0
  go_enter Tryd.func25, Tryd.ntmps25
  go_upto_region 1 with fail
  refine wp_region_held_drew (S := fun w' => TBox w' w.heap.size t) (by kernel_rfl) (show TBox (w.alloc (.cells (tkA t) 31)).drew w.heap.size t from by have q := HX2.out; rw [HW.out] at q; exact q) (fun hHeld => ?_)
  rw [← HW.out] at hHeld ⊢
  refine wpAnyH_take (i := 0) (oi := { dst := some 3, op := Op.load 31 (Operand.tmp 1), type := 31, pos := "ref.go:74", after := #[], guard := none }) (v := .agg (tkA t)) rfl (by kernel_rfl) (by kernel_rfl) (by kernel_rfl) (fun _ _ _ h => h) (yields_tk (by rfl) _ rfl (w.heap.size) rfl t HMC.out (fun _ h => h)) hHeld ?_
  try simp only [Act.put, List.setIfInBounds_toArray, List.set_cons_zero, List.set_cons_succ]
  refine wpAnyH_take (i := 2) (oi := { dst := some 5, op := Op.fieldAddr 31 (Operand.tmp 1) 7, type := 0, pos := "ref.go:74", after := #[], guard := none }) (v := ?_) rfl (by kernel_rfl) (by kernel_rfl) (by kernel_rfl) (fun _ _ _ h => h) (Or.inl ⟨by rfl, ?_⟩) hHeld ?_
  rotate_left
  · intro w hSw; (try dsimp only at hSw); go_simp; first | done | with_reducible rfl
  try simp only [Act.put, List.setIfInBounds_toArray, List.set_cons_zero, List.set_cons_succ]
  refine wpAnyH_take (i := 3) (oi := { dst := some 6, op := Op.slice 29 (Operand.tmp 5) none none none, type := 22, pos := "ref.go:74", after := #[{ on := 2, ground := Ground.data }], guard := none }) (v := ?_) rfl (by kernel_rfl) (by kernel_rfl) (by kernel_rfl) (fun _ _ _ h => h) (Or.inl ⟨by rfl, ?_⟩) hHeld ?_
  rotate_left
  · intro w hSw; (try dsimp only at hSw); go_simp; first | done | with_reducible rfl
  try simp only [Act.put, List.setIfInBounds_toArray, List.set_cons_zero, List.set_cons_succ]
  refine wpAnyH_ready (rs := [1]) (by kernel_rfl) (by simp) ?_
  refine AllReadyH.cons (o := { dst := some 4, op := Op.call { callee := Callee.value (Operand.func 39), args := #[Operand.tmp 3], argTypes := #[31] }, type := 22, pos := "ref.go:74", after := #[{ on := 0, ground := Ground.data }], guard := none }) rfl (fun K hK => ?_) AllReadyH.nil
  clear hHeld
  go_simp
  refine (HSD.out _).mono ?_
  rintro e w3 ⟨v3, rfl, hr, hB⟩
  have hB3 : Below w2.heap.size w2 w3 := ((Below.refl w2.heap.size w2).alloc (Nat.le_refl _) (.cells (tkA t) 31)).trans (hB.mono (Nat.le_succ _))
  have HR3 : Hid (Row w3 w2.heap.size v3 (saidS t)) := hide (hr.base (Nat.le_succ _))
  have HX3 := hide (HX2.out.next hB3)
  have HB3 := hide (HB2.out.trans (hB3.mono HB2.out.size))
  have HS3 := hide hB3.size
  have HL2 := hide HX2.out.lt
  have HS2 := hide HB2.out.size
  clear hr hB hB3 HX2 HB2 HSD
  refine hK.out _ _ (HX3.out) (fun hHeld => ?_)
  clear hK K
  try simp only [Act.put, List.setIfInBounds_toArray, List.set_cons_zero, List.set_cons_succ]
  refine wpAnyH_ready (rs := [4]) (by kernel_rfl) (by simp) ?_
  refine AllReadyH.cons (o := { dst := some 7, op := Op.call { callee := Callee.builtin Builtin.append, args := #[Operand.tmp 4, Operand.tmp 6], argTypes := #[22, 22] }, type := 22, pos := "ref.go:74", after := #[{ on := 1, ground := Ground.data }, { on := 3, ground := Ground.data }, { on := 1, ground := Ground.chain }], guard := none }) rfl (fun K hK => ?_) AllReadyH.nil
  clear hHeld
  rw [if_pos (by rfl)]
  obtain ⟨v4, w4, hrun, hr, hB⟩ := append_rowB w3 w2.heap.size v3 _ HR3.out (.slice (some ⟨w.heap.size, 8, none⟩) 32 32) t.mac (HX3.out.macSl HMC.out) (by have := HLN.out; have := HMC.out; omega) HS3.out
  refine wp_append_run _ _ _ _ _ rfl rfl v3 _ v4 w4 rfl rfl hrun ?_
  have HR4 := hide (hr.base HS2.out)
  have HB4 := hide (HB3.out.trans (hB.mono HS2.out))
  have HX4 := hide (HX3.out.below hB HL2.out)
  clear hr hB hrun HR3 HB3 HX3
  refine hK.out _ _ (HX4.out) (fun hHeld => ?_)
  clear hK K
  try simp only [Act.put, List.setIfInBounds_toArray, List.set_cons_zero, List.set_cons_succ]
  refine wpAnyH_take (i := 5) (oi := { dst := some 2, op := Op.assign (Operand.tmp 7), type := 22, pos := "ref.go:74", after := #[{ on := 4, ground := Ground.data }, { on := 4, ground := Ground.chain }, { on := 0, ground := Ground.phase }, { on := 1, ground := Ground.phase }, { on := 2, ground := Ground.phase }, { on := 3, ground := Ground.phase }, { on := 4, ground := Ground.phase }], guard := none }) (v := ?_) rfl (by kernel_rfl) (by kernel_rfl) (by kernel_rfl) (fun _ _ _ h => h) (Or.inl ⟨by rfl, ?_⟩) hHeld ?_
  rotate_left
  · intro w hSw; (try dsimp only at hSw); go_simp; first | done | with_reducible rfl
  try simp only [Act.put, List.setIfInBounds_toArray, List.set_cons_zero, List.set_cons_succ]
  refine wpAnyH_done (by kernel_rfl) ?_ _
  clear hHeld
  go_wp2_with fail
  go_ret
  exact ⟨_, rfl, HR4.out, HB4.out⟩
end Go.Proofs.YtaomigfmjglggaaDoor
namespace Go.Proofs.YtaomigfmjglggaaDoor
open Go.RowKit

structure LB (w : World) (s t : Tk) (mv : Value) (ms : List Int) (W : World) : Prop where
  x : TBox W w.heap.size s
  y : TBox W (w.heap.size + 1) t
  m : SlAt W mv ms
  b : Below w.heap.size w W
theorem LB.next {w : World} {s t : Tk} {mv : Value} {ms : List Int} {W W' : World} (h : LB w s t mv ms W) (hb : Below W.heap.size W W') : LB w s t mv ms W' := ⟨h.x.next hb, h.y.next hb, h.m.below hb, h.b.trans (hb.mono h.b.size)⟩
theorem LB.first (w : World) (s t : Tk) (mv : Value) (ms : List Int) (hm : SlAt w mv ms) : LB w s t mv ms ((w.alloc (.cells (tkA s) 31)).alloc (.cells (tkA t) 31)) := by
  have hx := TBox.new (w.alloc (.cells (tkA s) 31)) t
  rw [show (w.alloc (.cells (tkA s) 31)).heap.size = w.heap.size + 1 from by simp] at hx
  have hb : Below w.heap.size w ((w.alloc (.cells (tkA s) 31)).alloc (.cells (tkA t) 31)) := ((Below.refl w.heap.size w).alloc (Nat.le_refl _) _).alloc (by simp) _
  exact ⟨(TBox.new w s).alloc _, hx, hm.below hb, hb⟩
/-- The held relation of the law's last line. -/
structure BK (w : World) (s t : Tk) (mv : Value) (ms : List Int) (g : Nat) (vb vc : Value) (B C : List Int) (W : World) : Prop where
  l : LB w s t mv ms W
  z : TBox W g t
  b : SlAt W vb B
  c : SlAt W vc C
theorem BK.next {w : World} {s t : Tk} {mv : Value} {ms : List Int} {g : Nat} {vb vc : Value} {B C : List Int} {W W' : World} (h : BK w s t mv ms g vb vc B C W) (hb : Below W.heap.size W W') : BK w s t mv ms g vb vc B C W' := ⟨h.l.next hb, h.z.next hb, h.b.below hb, h.c.below hb⟩
/-- A number of bytes below all of them: nothing is read. -/
theorem readS_less {t : Tk} (ho : t.ok) (hm : mayT t = true) {K : Nat} (hK : K < (saidS t ++ t.mac).length) (hf : Fine (saidS t ++ t.mac)) : readS ((saidS t ++ t.mac).take K) = none := by
  cases h : readS ((saidS t ++ t.mac).take K) with
  | none => rfl
  | some u =>
    have hfu : Fine ((saidS t ++ t.mac).take K) := ⟨fun x hx => hf.1 x (List.mem_of_mem_take hx), by have := hf.2; simp at *; omega⟩
    obtain ⟨h1, h2, h3⟩ := readS_form hfu h
    have h4 := readS_put u h1 h2 ((saidS t ++ t.mac).drop K)
    rw [← List.append_assoc, ← h3, List.take_append_drop, if_neg (by intro e; rw [List.drop_eq_nil_iff] at e; omega)] at h4
    have h5 := readS_put t ho hm []
    rw [List.append_nil, if_pos rfl, h4] at h5
    cases h5
theorem strOfNums_injT (a b : List Int) (ha : ∀ x ∈ a, 0 ≤ x ∧ x < 256) (hb : ∀ x ∈ b, 0 ≤ x ∧ x < 256) (h : strOfNums a = strOfNums b) : a = b := by
  rw [← bytesOf_str a ha, ← bytesOf_str b hb, h]
theorem bytes_tell {s t : Tk} (hs : s.ok) (ht : t.ok) (hms : mayT s = true) (hmt : mayT t = true) (fs : Fine (saidS s ++ s.mac)) (ft : Fine (saidS t ++ t.mac)) : ((strOfNums (saidS t ++ t.mac)).toList == (strOfNums (saidS s ++ s.mac)).toList) = eqT s t := by
  rw [Bool.eq_iff_iff, eqT_iff, beq_iff_eq]
  constructor
  · intro h
    have h2 := strOfNums_injT _ _ ft.1 fs.1 (bytes_eq_of h)
    have h3 := readS_put s hs hms []
    have h4 := readS_put t ht hmt []
    rw [List.append_nil, if_pos rfl] at h3 h4
    rw [h2, h3] at h4
    injection h4
  · intro h
    rw [h]
theorem fine_bytes {t : Tk} (ho : t.ok) (hm : mayT t = true) : Fine (saidS t ++ t.mac) := by
  have h1 := saidS_len hm
  have h2 := saidS_range ho hm
  refine ⟨fun x hx => ?_, by rw [List.length_append, ho.mac]; omega⟩
  rcases List.mem_append.1 hx with h | h
  · exact h2 x h
  · exact ho.byte x h
theorem longB0_not {t : Tk} (h : longB 0 t = false) : t.ns.size ≤ 300 ∧ t.sa.size ≤ 300 := (longB_not h).2

theorem read_some (sv : Value) (bs : List Int) (W : World) (hs : SlAt W sv bs) (hf : Fine bs) (ht : Tab W) {t : Tk} (h : readS bs = some t) :
    Calls Tryd.prog 26 #[sv] W (fun e w' => e = .returned (.tuple #[.agg (tkA t), .int .i64 0]) ∧ Below W.heap.size W w') := by
  refine (read_any sv bs W hs hf ht).mono ?_
  rintro e w' ⟨he, hb⟩
  rw [h] at he
  exact ⟨he, hb⟩
theorem read_none (sv : Value) (bs : List Int) (W : World) (hs : SlAt W sv bs) (hf : Fine bs) (ht : Tab W) (h : readS bs = none) :
    Calls Tryd.prog 26 #[sv] W (fun e w' => e = .returned (.tuple #[.agg (tkA tk0), .int .i64 2]) ∧ Below W.heap.size W w') := by
  refine (read_any sv bs W hs hf ht).mono ?_
  rintro e w' ⟨he, hb⟩
  rw [h] at he
  exact ⟨he, hb⟩
end Go.Proofs.YtaomigfmjglggaaDoor
