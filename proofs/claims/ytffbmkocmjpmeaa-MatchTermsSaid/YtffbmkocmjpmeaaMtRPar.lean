/- The document's Parse. -/
import Derived.Test.YtffbmkocmjpmeaaMtRefR
import Derived.Test.YtffbmkocmjpmeaaMtCopy
import Derived.Test.YtffbmkocmjpmeaaMtParse
namespace Go.Proofs.Ytffbmkocmjpmeaa
open Go.RowKit

theorem TBox.under {W W' : World} {g B : Nat} {k : Int} {t : ByteArray} (h : TBox W g k t) (hb : Below B W W') (hg : g < B) : TBox W' g k t := (hb.block g hg).trans h
/-- What the document tries. -/
def docM (s : ByteArray) : List Tm := [⟨4, ⟨#[]⟩⟩, ⟨1, s⟩] ++ (if 0 < s.size then [⟨2, s.extract 0 (s.size - 1)⟩, ⟨3, s.extract 1 s.size⟩] else [])
theorem docM_long {s : ByteArray} (h : 0 < s.size) : docM s = [⟨4, ⟨#[]⟩⟩, ⟨1, s⟩] ++ [⟨2, s.extract 0 (s.size - 1)⟩, ⟨3, s.extract 1 s.size⟩] := by unfold docM; rw [if_pos h]
theorem docM_nil {s : ByteArray} (h : ¬ 0 < s.size) : docM s = [⟨4, ⟨#[]⟩⟩, ⟨1, s⟩] := by unfold docM; rw [if_neg h, List.append_nil]
theorem docM_mem {a : Tm} {s : ByteArray} (ha : mayM a = true) (hp : prM a = s) : a ∈ docM s := by
  have hl : s.data.toList = prK a.k a.t.data.toList := by rw [← hp]; rfl
  unfold prK at hl
  rcases mayM_cases ha with ⟨hk, ht⟩ | ⟨hk, ht⟩
  · rcases hk with hk | hk | hk
    · rw [if_pos hk] at hl
      have e : a = ⟨1, s⟩ := Tm.same hk hl.symm
      rw [e]
      unfold docM
      simp
    · rw [if_neg (by omega), if_pos hk] at hl
      have hn : s.size = a.t.data.toList.length + 1 := by rw [← size_list, hl]; simp
      have e : a = ⟨2, s.extract 0 (s.size - 1)⟩ := Tm.same hk (by
        rw [ex_list, hl, hn]
        simp)
      rw [docM_long (by omega)]
      rw [← e]
      simp
    · rw [if_neg (by omega), if_neg (by omega), if_pos hk] at hl
      have hn : s.size = a.t.data.toList.length + 1 := by rw [← size_list, hl]; simp
      have e : a = ⟨3, s.extract 1 s.size⟩ := Tm.same hk (by
        rw [ex_list, hl, hn]
        simp only [Nat.add_sub_cancel]
        exact (List.take_of_length_le (by simp)).symm)
      rw [docM_long (by omega)]
      rw [← e]
      simp
  · have e : a = ⟨4, ⟨#[]⟩⟩ := Tm.same hk ht
    rw [e]
    unfold docM
    simp
def isM (s : ByteArray) (a : Tm) : Bool := mayM a && decide (prM a = s)
theorem doc_find (s : ByteArray) : (docM s).find? (isM s) = parM s.data.toList := by
  cases h : (docM s).find? (isM s) with
  | some a =>
    have h1 := List.find?_some h
    unfold isM at h1
    rw [Bool.and_eq_true, decide_eq_true_eq] at h1
    exact (parM_of h1.1 (h1.2.trans (bo_of s).symm)).symm
  | none =>
    cases h2 : parM s.data.toList with
    | none => rfl
    | some a =>
      obtain ⟨h3, h4⟩ := parM_some h2
      rw [bo_of] at h4
      have h5 := List.find?_eq_none.1 h a (docM_mem h3 h4)
      unfold isM at h5
      rw [h3, h4] at h5
      simp at h5
theorem docM_fits {s : ByteArray} (h : s.size ≤ 10000) : ∀ a ∈ docM s, a.t.size ≤ 10000 := by
  intro a ha
  unfold docM at ha
  split at ha
  · simp only [List.cons_append, List.nil_append, List.mem_cons, List.not_mem_nil, or_false] at ha
    rcases ha with rfl | rfl | rfl | rfl
    · decide
    · exact h
    · show (s.extract 0 (s.size - 1)).size ≤ _
      rw [ByteArray.size_extract]; omega
    · show (s.extract 1 s.size).size ≤ _
      rw [ByteArray.size_extract]; omega
  · simp only [List.append_nil, List.mem_cons, List.not_mem_nil, or_false] at ha
    rcases ha with rfl | rfl
    · decide
    · exact h
theorem find_skip {p : Tm → Bool} {a : Tm} {l : List Tm} (h : p a = false) : (a :: l).find? p = l.find? p := by rw [List.find?_cons, h]
theorem find_hit {p : Tm → Bool} {a : Tm} {l : List Tm} (h : p a = true) : (a :: l).find? p = some a := by rw [List.find?_cons, h]
/-- What the document's Parse answers. -/
def paRV (s : List UInt8) : Value := .tuple #[.agg #[.int .i64 ((parM s).getD default).k, .string ((parM s).getD default).t], .bool (parM s).isSome]
set_option maxRecDepth 100000 in
set_option maxHeartbeats 1000000 in
theorem parseR_any (s : ByteArray) (hs : s.size ≤ 10000) (w : World) : Calls Try.prog 22 #[.string s] w (fun e w' => e = .returned (paRV s.data.toList) ∧ Below w.heap.size w w') := by
  have HF := hideL (docM_fits hs)
  have HDF := hideL (doc_find s)
  have HX0 := hideL (TBox.new w 0 ⟨#[]⟩)
  have HB0 := hideL ((Below.refl w.heap.size w).alloc (Nat.le_refl _) (.cells #[.int .i64 0, .string ⟨#[]⟩] 23))
  have hm2 : (2 : Nat) ≤ maxLen := by decide
  have HR0 : GRow KT ((w.alloc (.cells #[.int .i64 0, .string ⟨#[]⟩] 23)).alloc (.cells (KT.all [⟨4, ⟨#[]⟩⟩, ⟨1, s⟩]).toArray 23)) (w.heap.size + 1) (.slice (some ⟨w.heap.size + 1, 0, none⟩) 2 2) [⟨4, ⟨#[]⟩⟩, ⟨1, s⟩] := by
    have h := GRow.lit (K := KT) (w.alloc (.cells #[.int .i64 0, .string ⟨#[]⟩] 23)) (w.heap.size + 1) [⟨4, ⟨#[]⟩⟩, ⟨1, s⟩] (by simp) hm2
    rw [World.size_alloc] at h
    exact h
  have HX1 := hideL (HX0.out.next ((Below.refl _ _).alloc (Nat.le_refl _) (.cells (KT.all [⟨4, ⟨#[]⟩⟩, ⟨1, s⟩]).toArray 23)))
  have HB1 := hideL (HB0.out.alloc HB0.out.size (.cells (KT.all [⟨4, ⟨#[]⟩⟩, ⟨1, s⟩]).toArray 23))
  replace HR0 := hideL HR0
  clear HX0 HB0
  by_cases hlen : 0 < s.size
  · have hs1 : IntKind.i64.wrap ((s.size : Int) - 1) = ((s.size - 1 : Nat) : Int) := by rw [IntWalk.i64_in _ (by omega)]; omega
    have hs2 : (0 : Int) ≤ ((s.size - 1 : Nat) : Int) := by omega
    have hs3 : s.size - 1 ≤ s.size := by omega
    have hs4 : 1 ≤ s.size := hlen
    have hs5 : (1 : Int) ≤ (s.size : Int) := by omega
    have HG := hideL (show w.heap.size + 1 ≤ ((w.alloc (.cells #[.int .i64 0, .string ⟨#[]⟩] 23)).alloc (.cells (KT.all [⟨4, ⟨#[]⟩⟩, ⟨1, s⟩]).toArray 23)).heap.size by simp)
    go_enter Try.func22, Try.ntmps22
    go_wp2_with fail
    change Code.wp _ _ _ _ ((w.alloc (.cells #[.int .i64 0, .string ⟨#[]⟩] 23)).alloc (.cells (KT.all [⟨4, ⟨#[]⟩⟩, ⟨1, s⟩]).toArray 23))
    generalize (w.alloc (.cells #[.int .i64 0, .string ⟨#[]⟩] 23)).alloc (.cells (KT.all [⟨4, ⟨#[]⟩⟩, ⟨1, s⟩]).toArray 23) = V at *
    refine wp_region_held_drew (S := fun w' => Below (w.heap.size + 1) V w') (by kernel_rfl) ((Below.refl _ _).drew) (fun hHeld => ?_)
    refine wpAnyH_take (i := 0) (oi := { dst := some 13, op := Op.move (Operand.tmp 4), type := 24, pos := "ref.go:90", after := #[], guard := none }) (v := ?_) rfl (by kernel_rfl) (by kernel_rfl) (by kernel_rfl) (fun _ _ _ h => h) (Or.inl ⟨by rfl, ?_⟩) hHeld ?_
    rotate_left
    · intro w hSw; (try dsimp only at hSw); go_simp; first | done | with_reducible rfl
    try simp only [Act.put, List.setIfInBounds_toArray, List.set_cons_zero, List.set_cons_succ]
    refine wpAnyH_take (i := 1) (oi := { dst := some 14, op := Op.move (Operand.tmp 0), type := 9, pos := "ref.go:90", after := #[], guard := none }) (v := ?_) rfl (by kernel_rfl) (by kernel_rfl) (by kernel_rfl) (fun _ _ _ h => h) (Or.inl ⟨by rfl, ?_⟩) hHeld ?_
    rotate_left
    · intro w hSw; (try dsimp only at hSw); go_simp; first | done | with_reducible rfl
    try simp only [Act.put, List.setIfInBounds_toArray, List.set_cons_zero, List.set_cons_succ]
    refine wpAnyH_take (i := 2) (oi := { dst := some 15, op := Op.move (Operand.tmp 0), type := 9, pos := "ref.go:90", after := #[], guard := none }) (v := ?_) rfl (by kernel_rfl) (by kernel_rfl) (by kernel_rfl) (fun _ _ _ h => h) (Or.inl ⟨by rfl, ?_⟩) hHeld ?_
    rotate_left
    · intro w hSw; (try dsimp only at hSw); go_simp; first | done | with_reducible rfl
    try simp only [Act.put, List.setIfInBounds_toArray, List.set_cons_zero, List.set_cons_succ]
    refine wpAnyH_take (i := 3) (oi := { dst := some 16, op := Op.call { callee := Callee.builtin Builtin.len, args := #[Operand.tmp 15], argTypes := #[9] }, type := 3, pos := "ref.go:90", after := #[{ on := 2, ground := Ground.data }], guard := none }) (v := ?_) rfl (by kernel_rfl) (by kernel_rfl) (by kernel_rfl) (fun _ _ _ h => h) (Or.inl ⟨by rfl, ?_⟩) hHeld ?_
    rotate_left
    · intro w hSw; (try dsimp only at hSw); go_simp; first | done | with_reducible rfl
    try simp only [Act.put, List.setIfInBounds_toArray, List.set_cons_zero, List.set_cons_succ]
    refine wpAnyH_take (i := 4) (oi := { dst := some 17, op := Op.binOp BinOp.sub 3 (Operand.tmp 16) (Operand.const (Value.int IntKind.i64 1)) 3, type := 3, pos := "ref.go:90", after := #[{ on := 3, ground := Ground.data }], guard := none }) (v := ?_) rfl (by kernel_rfl) (by kernel_rfl) (by kernel_rfl) (fun _ _ _ h => h) (Or.inl ⟨by rfl, ?_⟩) hHeld ?_
    rotate_left
    · intro w hSw; (try dsimp only at hSw); go_simp; first | done | with_reducible rfl
    try simp only [Act.put, List.setIfInBounds_toArray, List.set_cons_zero, List.set_cons_succ]
    refine wpAnyH_take (i := 5) (oi := { dst := some 18, op := Op.slice 9 (Operand.tmp 14) none (some (Operand.tmp 17)) none, type := 9, pos := "ref.go:90", after := #[{ on := 1, ground := Ground.data }, { on := 4, ground := Ground.data }], guard := none }) (v := ?_) rfl (by kernel_rfl) (by kernel_rfl) (by kernel_rfl) (fun _ _ _ h => h) (Or.inl ⟨by rfl, ?_⟩) hHeld ?_
    rotate_left
    · intro w hSw; (try dsimp only at hSw); go_simp; first | done | with_reducible rfl
    try simp only [Act.put, List.setIfInBounds_toArray, List.set_cons_zero, List.set_cons_succ]
    refine wpAnyH_take (i := 6) (oi := { dst := some 19, op := Op.build 23 #[(0, Operand.const (Value.int IntKind.i64 2)), (1, Operand.tmp 18)], type := 23, pos := "ref.go:90", after := #[{ on := 5, ground := Ground.data }], guard := none }) (v := ?_) rfl (by kernel_rfl) (by kernel_rfl) (by kernel_rfl) (fun _ _ _ h => h) (Or.inl ⟨by rfl, ?_⟩) hHeld ?_
    rotate_left
    · intro w hSw; (try dsimp only at hSw); go_simp; first | done | with_reducible rfl
    try simp only [Act.put, List.setIfInBounds_toArray, List.set_cons_zero, List.set_cons_succ]
    refine wpAnyH_take (i := 7) (oi := { dst := some 20, op := Op.move (Operand.tmp 0), type := 9, pos := "ref.go:90", after := #[], guard := none }) (v := ?_) rfl (by kernel_rfl) (by kernel_rfl) (by kernel_rfl) (fun _ _ _ h => h) (Or.inl ⟨by rfl, ?_⟩) hHeld ?_
    rotate_left
    · intro w hSw; (try dsimp only at hSw); go_simp; first | done | with_reducible rfl
    try simp only [Act.put, List.setIfInBounds_toArray, List.set_cons_zero, List.set_cons_succ]
    refine wpAnyH_take (i := 8) (oi := { dst := some 21, op := Op.slice 9 (Operand.tmp 20) (some (Operand.const (Value.int IntKind.i64 1))) none none, type := 9, pos := "ref.go:90", after := #[{ on := 7, ground := Ground.data }], guard := none }) (v := ?_) rfl (by kernel_rfl) (by kernel_rfl) (by kernel_rfl) (fun _ _ _ h => h) (Or.inl ⟨by rfl, ?_⟩) hHeld ?_
    rotate_left
    · intro w hSw; (try dsimp only at hSw); go_simp; first | done | with_reducible rfl
    try simp only [Act.put, List.setIfInBounds_toArray, List.set_cons_zero, List.set_cons_succ]
    refine wpAnyH_take (i := 9) (oi := { dst := some 22, op := Op.build 23 #[(0, Operand.const (Value.int IntKind.i64 3)), (1, Operand.tmp 21)], type := 23, pos := "ref.go:90", after := #[{ on := 8, ground := Ground.data }], guard := none }) (v := ?_) rfl (by kernel_rfl) (by kernel_rfl) (by kernel_rfl) (fun _ _ _ h => h) (Or.inl ⟨by rfl, ?_⟩) hHeld ?_
    rotate_left
    · intro w hSw; (try dsimp only at hSw); go_simp; first | done | with_reducible rfl
    try simp only [Act.put, List.setIfInBounds_toArray, List.set_cons_zero, List.set_cons_succ]
    refine wpAnyH_ready (rs := [10]) (by kernel_rfl) (by simp) ?_
    refine AllReadyH.cons (o := { dst := some 23, op := Op.buildSlice 24 2 #[(0, Operand.tmp 19), (1, Operand.tmp 22)], type := 24, pos := "ref.go:90", after := #[{ on := 6, ground := Ground.data }, { on := 9, ground := Ground.data }], guard := none }) rfl (fun K hK => ?_) AllReadyH.nil
    clear hHeld
    go_simp
    have HR2 := GRow.lit (K := KT) V.drew V.heap.size [⟨2, s.extract 0 (s.size - 1)⟩, ⟨3, s.extract 1 s.size⟩] (Nat.le_refl _) hm2
    have HB3 := hideL ((Below.refl (w.heap.size + 1) V).drew.alloc HG.out (.cells (KT.all [⟨2, s.extract 0 (s.size - 1)⟩, ⟨3, s.extract 1 s.size⟩]).toArray 23))
    have HB3f := hideL ((Below.refl V.heap.size V).drew.alloc (Nat.le_refl _) (.cells (KT.all [⟨2, s.extract 0 (s.size - 1)⟩, ⟨3, s.extract 1 s.size⟩]).toArray 23))
    refine hK.out _ _ (HB3.out) (fun hHeld => ?_)
    clear hK K
    try simp only [Act.put, List.setIfInBounds_toArray, List.set_cons_zero, List.set_cons_succ]
    obtain ⟨v', w3, hrun, hr3, hb3⟩ := grow_tm _ (w.heap.size + 1) _ _ (HR0.out.below HB3f.out) _ _ HR2.gAt (by simp) (Nat.le_trans HG.out HB3f.out.size)
    have HRUN := hideL hrun
    have HB4 := hideL (HB3.out.trans hb3)
    refine wpAnyH_ready (rs := [11]) (by kernel_rfl) (by simp) ?_
    refine AllReadyH.cons (o := { dst := some 24, op := Op.call { callee := Callee.builtin Builtin.append, args := #[Operand.tmp 13, Operand.tmp 23], argTypes := #[24, 24] }, type := 24, pos := "ref.go:90", after := #[{ on := 0, ground := Ground.data }, { on := 10, ground := Ground.data }], guard := none }) rfl (fun K hK => ?_) AllReadyH.nil
    clear hHeld
    rw [if_pos (by rfl)]
    refine wp_append_runM _ _ _ _ _ rfl rfl _ _ v' w3 rfl rfl HRUN.out ?_
    refine hK.out _ _ (HB4.out) (fun hHeld => ?_)
    clear hK K
    try simp only [Act.put, List.setIfInBounds_toArray, List.set_cons_zero, List.set_cons_succ]
    refine wpAnyH_take (i := 12) (oi := { dst := some 4, op := Op.assign (Operand.tmp 24), type := 24, pos := "ref.go:90", after := #[{ on := 11, ground := Ground.data }, { on := 11, ground := Ground.chain }, { on := 0, ground := Ground.phase }, { on := 1, ground := Ground.phase }, { on := 2, ground := Ground.phase }, { on := 3, ground := Ground.phase }, { on := 4, ground := Ground.phase }, { on := 5, ground := Ground.phase }, { on := 6, ground := Ground.phase }, { on := 7, ground := Ground.phase }, { on := 8, ground := Ground.phase }, { on := 9, ground := Ground.phase }, { on := 10, ground := Ground.phase }, { on := 11, ground := Ground.phase }], guard := none }) (v := ?_) rfl (by kernel_rfl) (by kernel_rfl) (by kernel_rfl) (fun _ _ _ h => h) (Or.inl ⟨by rfl, ?_⟩) hHeld ?_
    rotate_left
    · intro w hSw; (try dsimp only at hSw); go_simp; first | done | with_reducible rfl
    try simp only [Act.put, List.setIfInBounds_toArray, List.set_cons_zero, List.set_cons_succ]
    refine wpAnyH_done (by kernel_rfl) ?_ _
    clear hHeld
    obtain ⟨ao, cap, hv⟩ := hr3.gAt.len
    rw [show (([⟨4, ⟨#[]⟩⟩, ⟨1, s⟩] ++ [⟨2, s.extract 0 (s.size - 1)⟩, ⟨3, s.extract 1 s.size⟩] : List Tm)).length = 4 from rfl] at hv
    subst hv
    have HVL := hideL (show GAt KT w3 (.slice ao 4 cap) (docM s) from by rw [docM_long hlen]; exact hr3.gAt)
    have HXL := hideL (HX1.out.under HB4.out (Nat.lt_succ_self _))
    have HBL := hideL (HB1.out.trans (HB4.out.mono (Nat.le_succ _)))
    clear HR0 HX1 HB1 HB3 HB3f HB4 HRUN hrun hr3 hb3 HR2
    generalize w3 = V at *
    go_wp2_with fail
    have HN := hideL (show (docM s).length = 4 from by rw [docM_long hlen]; rfl)
    have HS0 := hideL (show ((docM s).drop 0).find? (isM s) = parM s.data.toList from HDF.out)
    go_loopw [5] (fun i wr => ∃ k : Nat, k ≤ 4 ∧ i = .int .i64 k ∧ TBox wr w.heap.size 0 ⟨#[]⟩ ∧ Below w.heap.size w wr ∧ Below V.heap.size V wr ∧ HidL (((docM s).drop k).find? (isM s) = parM s.data.toList)) (fun i _ => 4 - (intOf i).toNat)
    case atStart => exact ⟨0, by omega, rfl, HXL.out, HBL.out, Below.refl _ _, HS0⟩
    case round =>
      obtain ⟨k, hk, rfl, hx, hb, hv, hd⟩ := hrel
      obtain ⟨W, rfl⟩ : ∃ W, W = wr := ⟨_, rfl⟩
      by_cases hlt : k < 4
      · have hlt' : (k : Int) < 4 := by omega
        have hkl : k < (docM s).length := by rw [HN.out]; exact hlt
        obtain ⟨b, o, hao, hbl, hcell⟩ := HVL.out.at (k := k) hlt
        subst hao
        replace hd := hd.out
        rw [drop_at (docM s) k hkl] at hd
        have hfit := HF.out ((docM s).getD k KT.dft) (by simp [List.getD, hkl])
        generalize (docM s).getD k KT.dft = x at *
        have LM := hideL (mayR_any x (by omega))
        have LP := hideL (printR_any x hfit)
        have hgo := hideL (fun (h : isM s x = false) => (find_skip (l := (docM s).drop (k + 1)) h).symm.trans hd)
        have hhit := hideL (fun (h : isM s x = true) => (find_hit (l := (docM s).drop (k + 1)) h).symm.trans hd)
        clear hd
        have hism : isM s x = (mayM x && ((prM x).toList == s.toList)) := by rw [eqs_dec]; rfl
        obtain ⟨m, hm⟩ : ∃ m, mayM x = m := ⟨_, rfl⟩
        obtain ⟨P, hP⟩ : ∃ P, prM x = P := ⟨_, rfl⟩
        rw [hm, hP] at hism
        rw [hm] at LM
        rw [hP] at LP
        clear hm hP hfit
        obtain ⟨p, q⟩ := x
        dsimp only at LM LP
        have d0 : W.cell? ⟨b, o + k * 2, none⟩ = some (.int .i64 p) := (hv.cell (p := ⟨b, o + k * 2, none⟩) hbl).trans (hcell 0 (by decide))
        have d1 : W.cell? ⟨b, o + k * 2 + 1, none⟩ = some (.string q) := (hv.cell (p := ⟨b, o + k * 2 + 1, none⟩) hbl).trans (hcell 1 (by decide))
        have D0 := hideL d0
        have D1 := hideL d1
        have HLT := hideL (show b < W.heap.size from Nat.lt_of_lt_of_le hbl hv.size)
        have HX := hideL hx
        have HB := hideL hb
        have HV := hideL hv
        clear hcell hx hb hv hbl
        cases m
        · rw [Bool.false_and] at hism
          have HNX := hideL (hgo.out hism)
          clear hism hgo hhit LP
          go_wp2_with (go_at_call 11; refine (LM.out _).mono ?_; rintro e w5 ⟨rfl, hB5⟩; have HX5 := hideL (HX.out.next hB5); have HB5 := hideL (HB.out.trans (hB5.mono HB.out.size)); have HV5 := hideL (HV.out.trans (hB5.mono HV.out.size)))
          go_roundw
          case rel => exact ⟨k + 1, by omega, by go_num, HX5.out, HB5.out, HV5.out, HNX⟩
          case measure => simp [intOf]; omega
        · rw [Bool.true_and] at hism
          obtain ⟨z, hz⟩ : ∃ z, (P.toList == s.toList) = z := ⟨_, rfl⟩
          rw [hz] at hism
          cases z
          · have HNX := hideL (hgo.out hism)
            clear hism hgo hhit
            go_wp2_with (first
              | (go_at_call 11; refine (LM.out _).mono ?_; rintro e w5 ⟨rfl, hB5⟩; have HX5 := hideL (HX.out.next hB5); have HB5 := hideL (HB.out.trans (hB5.mono HB.out.size)); have HV5 := hideL (HV.out.trans (hB5.mono HV.out.size)); have e0 := (hB5.cell (p := ⟨b, o + k * 2, none⟩) HLT.out).trans D0.out; have e1 := (hB5.cell (p := ⟨b, o + k * 2 + 1, none⟩) HLT.out).trans D1.out)
              | (go_at_call 20; refine (LP.out _).mono ?_; rintro e w6 ⟨rfl, hB6⟩; have HX6 := hideL (HX5.out.next hB6); have HB6 := hideL (HB5.out.trans (hB6.mono HB5.out.size)); have HV6 := hideL (HV5.out.trans (hB6.mono HV5.out.size))))
            go_roundw
            case rel => exact ⟨k + 1, by omega, by go_num, HX6.out, HB6.out, HV6.out, HNX⟩
            case measure => simp [intOf]; omega
          · have HPAR := hideL (hhit.out hism)
            clear hism hgo hhit
            go_wp2_with (first
              | (go_at_call 11; refine (LM.out _).mono ?_; rintro e w5 ⟨rfl, hB5⟩; have HX5 := hideL (HX.out.next hB5); have HB5 := hideL (HB.out.trans (hB5.mono HB.out.size)); have HL5 := hideL (Nat.lt_of_lt_of_le HLT.out hB5.size); have e0 := (hB5.cell (p := ⟨b, o + k * 2, none⟩) HLT.out).trans D0.out; have e1 := (hB5.cell (p := ⟨b, o + k * 2 + 1, none⟩) HLT.out).trans D1.out; have E0 := hideL e0; have E1 := hideL e1)
              | (go_at_call 20; refine (LP.out _).mono ?_; rintro e w6 ⟨rfl, hB6⟩; have HX6 := hideL (HX5.out.next hB6); have HB6 := hideL (HB5.out.trans (hB6.mono HB5.out.size)); have g0 := (hB6.cell (p := ⟨b, o + k * 2, none⟩) HL5.out).trans E0.out; have g1 := (hB6.cell (p := ⟨b, o + k * 2 + 1, none⟩) HL5.out).trans E1.out)
              | (refine wpList_store_row rfl 23 (.tmp 2) (.tmp 48) rfl w.heap.size #[.int .i64 p, .string q] rfl rfl _ _ HX6.out (sizeT _ _) rfl (oneT _ _) ?_))
            have HX7 := HX6.out.set p q
            have HB7 := below_setRow HB6.out (Nat.le_refl _) #[.int .i64 p, .string q]
            generalize w6.setRow w.heap.size #[.int .i64 p, .string q] = VF at HX7 HB7 ⊢
            have r0 := HX7.c0
            have r1 := HX7.c1
            have hval : paRV s.data.toList = .tuple #[.agg #[.int .i64 p, .string q], .bool true] := by unfold paRV; rw [← HPAR.out]; rfl
            exact bodyPost_ret (v := .tuple #[.agg #[.int .i64 p, .string q], .bool true]) (by simp [results, Try.results22, go_sem, r0, r1]) rfl ⟨by rw [hval], HB7⟩
      · obtain rfl : k = 4 := by omega
        have HPAR := hideL (show parM s.data.toList = none from by
          rw [← hd.out, List.drop_of_length_le (by rw [HN.out]; omega)]
          rfl)
        have HX := hideL hx
        have HB := hideL hb
        clear hx hb hd hv
        go_wp2_with (refine wpList_store_row rfl 23 (.tmp 2) (.tmp 49) rfl w.heap.size #[.int .i64 0, .string ⟨#[]⟩] rfl rfl _ _ HX.out (sizeT _ _) rfl (oneT _ _) ?_)
        have HX7 := HX.out.set 0 ⟨#[]⟩
        have HB7 := below_setRow HB.out (Nat.le_refl _) #[.int .i64 0, .string ⟨#[]⟩]
        generalize W.setRow w.heap.size #[.int .i64 0, .string ⟨#[]⟩] = VF at HX7 HB7 ⊢
        have r0 := HX7.c0
        have r1 := HX7.c1
        have hval : paRV s.data.toList = .tuple #[.agg #[.int .i64 0, .string ⟨#[]⟩], .bool false] := by unfold paRV; rw [HPAR.out]; rfl
        exact bodyPost_ret (v := .tuple #[.agg #[.int .i64 0, .string ⟨#[]⟩], .bool false]) (by simp [results, Try.results22, go_sem, r0, r1]) rfl ⟨by rw [hval], HB7⟩
  · go_enter Try.func22, Try.ntmps22
    go_wp2_with fail
    have HVL0 := hideL HR0.out.gAt
    have HXL := HX1
    have HBL := HB1
    clear HR0 HX1 HB1
    change Code.wp _ _ _ _ ((w.alloc (.cells #[.int .i64 0, .string ⟨#[]⟩] 23)).alloc (.cells (KT.all [⟨4, ⟨#[]⟩⟩, ⟨1, s⟩]).toArray 23))
    generalize (w.alloc (.cells #[.int .i64 0, .string ⟨#[]⟩] 23)).alloc (.cells (KT.all [⟨4, ⟨#[]⟩⟩, ⟨1, s⟩]).toArray 23) = V at *
    generalize hao0 : (some ⟨w.heap.size + 1, 0, none⟩ : Option Addr) = ao at *
    clear hao0
    have HVL := hideL (show GAt KT V (.slice ao 2 2) (docM s) from by rw [docM_nil hlen]; exact HVL0.out)
    clear HVL0
    have HN := hideL (show (docM s).length = 2 from by rw [docM_nil hlen]; rfl)
    have HS0 := hideL (show ((docM s).drop 0).find? (isM s) = parM s.data.toList from HDF.out)
    go_loopw [5] (fun i wr => ∃ k : Nat, k ≤ 2 ∧ i = .int .i64 k ∧ TBox wr w.heap.size 0 ⟨#[]⟩ ∧ Below w.heap.size w wr ∧ Below V.heap.size V wr ∧ HidL (((docM s).drop k).find? (isM s) = parM s.data.toList)) (fun i _ => 2 - (intOf i).toNat)
    case atStart => exact ⟨0, by omega, rfl, HXL.out, HBL.out, Below.refl _ _, HS0⟩
    case round =>
      obtain ⟨k, hk, rfl, hx, hb, hv, hd⟩ := hrel
      obtain ⟨W, rfl⟩ : ∃ W, W = wr := ⟨_, rfl⟩
      by_cases hlt : k < 2
      · have hlt' : (k : Int) < 2 := by omega
        have hkl : k < (docM s).length := by rw [HN.out]; exact hlt
        obtain ⟨b, o, hao, hbl, hcell⟩ := HVL.out.at (k := k) hlt
        subst hao
        replace hd := hd.out
        rw [drop_at (docM s) k hkl] at hd
        have hfit := HF.out ((docM s).getD k KT.dft) (by simp [List.getD, hkl])
        generalize (docM s).getD k KT.dft = x at *
        have LM := hideL (mayR_any x (by omega))
        have LP := hideL (printR_any x hfit)
        have hgo := hideL (fun (h : isM s x = false) => (find_skip (l := (docM s).drop (k + 1)) h).symm.trans hd)
        have hhit := hideL (fun (h : isM s x = true) => (find_hit (l := (docM s).drop (k + 1)) h).symm.trans hd)
        clear hd
        have hism : isM s x = (mayM x && ((prM x).toList == s.toList)) := by rw [eqs_dec]; rfl
        obtain ⟨m, hm⟩ : ∃ m, mayM x = m := ⟨_, rfl⟩
        obtain ⟨P, hP⟩ : ∃ P, prM x = P := ⟨_, rfl⟩
        rw [hm, hP] at hism
        rw [hm] at LM
        rw [hP] at LP
        clear hm hP hfit
        obtain ⟨p, q⟩ := x
        dsimp only at LM LP
        have d0 : W.cell? ⟨b, o + k * 2, none⟩ = some (.int .i64 p) := (hv.cell (p := ⟨b, o + k * 2, none⟩) hbl).trans (hcell 0 (by decide))
        have d1 : W.cell? ⟨b, o + k * 2 + 1, none⟩ = some (.string q) := (hv.cell (p := ⟨b, o + k * 2 + 1, none⟩) hbl).trans (hcell 1 (by decide))
        have D0 := hideL d0
        have D1 := hideL d1
        have HLT := hideL (show b < W.heap.size from Nat.lt_of_lt_of_le hbl hv.size)
        have HX := hideL hx
        have HB := hideL hb
        have HV := hideL hv
        clear hcell hx hb hv hbl
        cases m
        · rw [Bool.false_and] at hism
          have HNX := hideL (hgo.out hism)
          clear hism hgo hhit LP
          go_wp2_with (go_at_call 11; refine (LM.out _).mono ?_; rintro e w5 ⟨rfl, hB5⟩; have HX5 := hideL (HX.out.next hB5); have HB5 := hideL (HB.out.trans (hB5.mono HB.out.size)); have HV5 := hideL (HV.out.trans (hB5.mono HV.out.size)))
          go_roundw
          case rel => exact ⟨k + 1, by omega, by go_num, HX5.out, HB5.out, HV5.out, HNX⟩
          case measure => simp [intOf]; omega
        · rw [Bool.true_and] at hism
          obtain ⟨z, hz⟩ : ∃ z, (P.toList == s.toList) = z := ⟨_, rfl⟩
          rw [hz] at hism
          cases z
          · have HNX := hideL (hgo.out hism)
            clear hism hgo hhit
            go_wp2_with (first
              | (go_at_call 11; refine (LM.out _).mono ?_; rintro e w5 ⟨rfl, hB5⟩; have HX5 := hideL (HX.out.next hB5); have HB5 := hideL (HB.out.trans (hB5.mono HB.out.size)); have HV5 := hideL (HV.out.trans (hB5.mono HV.out.size)); have e0 := (hB5.cell (p := ⟨b, o + k * 2, none⟩) HLT.out).trans D0.out; have e1 := (hB5.cell (p := ⟨b, o + k * 2 + 1, none⟩) HLT.out).trans D1.out)
              | (go_at_call 20; refine (LP.out _).mono ?_; rintro e w6 ⟨rfl, hB6⟩; have HX6 := hideL (HX5.out.next hB6); have HB6 := hideL (HB5.out.trans (hB6.mono HB5.out.size)); have HV6 := hideL (HV5.out.trans (hB6.mono HV5.out.size))))
            go_roundw
            case rel => exact ⟨k + 1, by omega, by go_num, HX6.out, HB6.out, HV6.out, HNX⟩
            case measure => simp [intOf]; omega
          · have HPAR := hideL (hhit.out hism)
            clear hism hgo hhit
            go_wp2_with (first
              | (go_at_call 11; refine (LM.out _).mono ?_; rintro e w5 ⟨rfl, hB5⟩; have HX5 := hideL (HX.out.next hB5); have HB5 := hideL (HB.out.trans (hB5.mono HB.out.size)); have HL5 := hideL (Nat.lt_of_lt_of_le HLT.out hB5.size); have e0 := (hB5.cell (p := ⟨b, o + k * 2, none⟩) HLT.out).trans D0.out; have e1 := (hB5.cell (p := ⟨b, o + k * 2 + 1, none⟩) HLT.out).trans D1.out; have E0 := hideL e0; have E1 := hideL e1)
              | (go_at_call 20; refine (LP.out _).mono ?_; rintro e w6 ⟨rfl, hB6⟩; have HX6 := hideL (HX5.out.next hB6); have HB6 := hideL (HB5.out.trans (hB6.mono HB5.out.size)); have g0 := (hB6.cell (p := ⟨b, o + k * 2, none⟩) HL5.out).trans E0.out; have g1 := (hB6.cell (p := ⟨b, o + k * 2 + 1, none⟩) HL5.out).trans E1.out)
              | (refine wpList_store_row rfl 23 (.tmp 2) (.tmp 48) rfl w.heap.size #[.int .i64 p, .string q] rfl rfl _ _ HX6.out (sizeT _ _) rfl (oneT _ _) ?_))
            have HX7 := HX6.out.set p q
            have HB7 := below_setRow HB6.out (Nat.le_refl _) #[.int .i64 p, .string q]
            generalize w6.setRow w.heap.size #[.int .i64 p, .string q] = VF at HX7 HB7 ⊢
            have r0 := HX7.c0
            have r1 := HX7.c1
            have hval : paRV s.data.toList = .tuple #[.agg #[.int .i64 p, .string q], .bool true] := by unfold paRV; rw [← HPAR.out]; rfl
            exact bodyPost_ret (v := .tuple #[.agg #[.int .i64 p, .string q], .bool true]) (by simp [results, Try.results22, go_sem, r0, r1]) rfl ⟨by rw [hval], HB7⟩
      · obtain rfl : k = 2 := by omega
        have HPAR := hideL (show parM s.data.toList = none from by
          rw [← hd.out, List.drop_of_length_le (by rw [HN.out]; omega)]
          rfl)
        have HX := hideL hx
        have HB := hideL hb
        clear hx hb hd hv
        go_wp2_with (refine wpList_store_row rfl 23 (.tmp 2) (.tmp 49) rfl w.heap.size #[.int .i64 0, .string ⟨#[]⟩] rfl rfl _ _ HX.out (sizeT _ _) rfl (oneT _ _) ?_)
        have HX7 := HX.out.set 0 ⟨#[]⟩
        have HB7 := below_setRow HB.out (Nat.le_refl _) #[.int .i64 0, .string ⟨#[]⟩]
        generalize W.setRow w.heap.size #[.int .i64 0, .string ⟨#[]⟩] = VF at HX7 HB7 ⊢
        have r0 := HX7.c0
        have r1 := HX7.c1
        have hval : paRV s.data.toList = .tuple #[.agg #[.int .i64 0, .string ⟨#[]⟩], .bool false] := by unfold paRV; rw [HPAR.out]; rfl
        exact bodyPost_ret (v := .tuple #[.agg #[.int .i64 0, .string ⟨#[]⟩], .bool false]) (by simp [results, Try.results22, go_sem, r0, r1]) rfl ⟨by rw [hval], HB7⟩
end Go.Proofs.Ytffbmkocmjpmeaa
