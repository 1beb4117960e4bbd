/- The document's Whole. -/
import Derived.Test.YtgikkjjnoakhdaaDoorAdSame
import Derived.Test.YtgikkjjnoakhdaaDoorAdRefC
import Derived.Deep.DeepCutAuto
namespace Go.Proofs.YtgikkjjnoakhdaaDoor
open Go.RowKit Go.Lib

theorem Fit.val_lt {c : Net} (h : Fit c) : c.a < 4294967296 := h.2
/-- The two halves, as the document makes them. -/
def downL (n x : Nat) : Net := ⟨x, 32 - (n : Int)⟩
theorem downL_ok {n x : Nat} (hn : n ≤ 32) (hx : 2 ^ n ∣ x) : Ok (downL n x) := ⟨by show 0 ≤ 32 - (n : Int); omega, by show 32 - (n : Int) ≤ 32; omega, by show sz (32 - (n : Int)) ∣ x; rw [sz_of n hn]; exact hx⟩
theorem sz_down {n x : Nat} (hn : n ≤ 32) : sz (downL n x).b = 2 ^ n := sz_of n hn
/-- Where a net of the row lies, held against one that has a place of a set. -/
theorem full_cov (l : List Net) {n x : Nat} (hn : n ≤ 32) (c : Net) (hc : c ∈ l) (h : coversB c (downL n x) = true) : full (allB l) n x = true := by
  rw [full_iff]
  intro y h1 h2
  obtain ⟨ho, _, h3, h4⟩ := (coversB_iff _ _).1 h
  rw [sz_down hn] at h4
  have h5 : (downL n x).a = x := rfl
  exact List.any_eq_true.2 ⟨c, hc, (inB_iff _ _).2 ⟨ho, by omega, by omega⟩⟩
theorem some_no (l : List Net) {n x : Nat} (hn : n ≤ 32) (hx : 2 ^ n ∣ x) (h : ∀ c ∈ l, coversB c (downL n x) = false ∧ coversB (downL n x) c = false) : some2 (allB l) n x = false := by
  apply Bool.eq_false_iff.2
  intro hs
  obtain ⟨y, h1, h2, h3⟩ := (some2_iff _ n x).1 hs
  obtain ⟨c, hc, hi⟩ := List.any_eq_true.1 h3
  obtain ⟨ho, h4, h5⟩ := (inB_iff _ _).1 hi
  have hd := downL_ok hn hx
  have hz : sz (downL n x).b = 2 ^ n := sz_down hn
  have ha : (downL n x).a = x := rfl
  have hb : (downL n x).b = 32 - (n : Int) := rfl
  obtain ⟨k1, k2⟩ := h c hc
  rcases Int.lt_or_le c.b (downL n x).b with hlt | hle
  · rcases nested ho hd (by omega) with q | q | q
    · have : coversB c (downL n x) = true := (coversB_iff _ _).2 ⟨ho, hd, q.1, q.2⟩
      rw [this] at k1
      cases k1
    · rw [hz, ha] at q; omega
    · rw [ha] at q; omega
  · rcases nested hd ho hle with q | q | q
    · have : coversB (downL n x) c = true := (coversB_iff _ _).2 ⟨hd, ho, q.1, q.2⟩
      rw [this] at k2
      cases k2
    · rw [ha] at q; omega
    · rw [hz, ha] at q; omega
theorem full_none {S : Nat → Bool} : ∀ n x, some2 S n x = false → full S n x = false
  | 0, x, h => h
  | n + 1, x, h => by
    rw [some2, Bool.or_eq_false_iff] at h
    rw [full, full_none n x h.1]
    rfl
theorem cov_one {c : Net} {x : Nat} (h : coversB (downL 0 x) c = true) : coversB c (downL 0 x) = true := by
  obtain ⟨h1, h2, h3, h4⟩ := (coversB_iff _ _).1 h
  rw [sz_down (by omega)] at h4
  have ha : (downL 0 x).a = x := rfl
  have hp := sz_pos c.b
  have : 2 ^ 0 = 1 := rfl
  exact (coversB_iff _ _).2 ⟨h2, h1, by omega, by rw [sz_down (by omega)]; omega⟩

theorem any_next (l : List Net) (k : Nat) (h : k < l.length) (f : Net → Bool) : (l.take (k + 1)).any f = ((l.take k).any f || f (l.getD k default)) := by
  rw [List.take_add_one, List.getElem?_eq_getElem h, List.any_append]
  simp [List.getD, h]
theorem mem_next (l : List Net) (k : Nat) (h : k < l.length) {c : Net} (hc : c ∈ l.take (k + 1)) : c ∈ l.take k ∨ c = l.getD k default := by
  rw [List.take_add_one, List.getElem?_eq_getElem h, List.mem_append] at hc
  rcases hc with hc | hc
  · exact .inl hc
  · right
    simpa [List.getD, h] using hc

set_option maxRecDepth 100000 in
set_option maxHeartbeats 4000000 in
theorem whole_any (l : List Net) (hf : ∀ c ∈ l, c.a < 4294967296) (hl : l.length ≤ 1000) : ∀ n : Nat, n ≤ 32 → ∀ x : Nat, 2 ^ n ∣ x → x + 2 ^ n ≤ 4294967296 → ∀ v w, CAt w v l →
    Calls Tryd.prog 59 #[.agg #[.int .u32 (x : Nat), .int .i64 (32 - (n : Int))], v] w (fun e w' => e = .returned (.bool (full (allB l) n x)) ∧ Below w.heap.size w w') := by
  intro n
  induction n with
  | zero =>
    intro hn x hx htop v w hC
    obtain ⟨n9, hn9⟩ : ∃ n9, l.length = n9 := ⟨_, rfl⟩
    obtain ⟨ao, cap, rfl⟩ := hC.len
    rw [hn9] at hC ⊢
    have HL := hide hC
    have HN := hide hn9
    have hn9l : n9 ≤ 1000 := by omega
    have hxlt : x < 4294967296 := by have := Nat.pow_pos (n := 0) (show 0 < 2 by omega); omega
    obtain ⟨bb, hbb⟩ : ∃ bb : Int, 32 - ((0 : Nat) : Int) = bb := ⟨_, rfl⟩
    have HCVF := hide (fun (c : Net) (hc : c ∈ l) (h : coversB c ⟨x, bb⟩ = true) => full_cov l hn c hc (by unfold downL; rw [hbb]; exact h))
    have HNO9 := hide (fun (h : ∀ c ∈ l, coversB c ⟨x, bb⟩ = false ∧ coversB ⟨x, bb⟩ c = false) => some_no l hn hx (by unfold downL; rw [hbb]; exact h))
    have HC1 := hide (fun (c : Net) (hc : c ∈ l) W => coversR_any c ⟨x, bb⟩ (hf c hc) hxlt W)
    have HC2 := hide (fun (c : Net) (hc : c ∈ l) W => coversR_any ⟨x, bb⟩ c hxlt (hf c hc) W)
    unfold Net.val at HC1 HC2
    dsimp only at HC1 HC2
    have HX0 := hide (BoxAt.new w x bb)
    have HB0 : Hid (Below w.heap.size w (w.alloc (.cells #[.int .u32 (x : Nat), .int .i64 bb] 24))) := hide ((Below.refl _ _).alloc (Nat.le_refl _) _)
    have HSN := hide (fun h => full_none 0 x (HNO9.out h))
    have H1 := hide (fun (c : Net) (hc : c ∈ l) (h : coversB ⟨x, bb⟩ c = true) => show coversB c ⟨x, bb⟩ = true by
      have := cov_one (c := c) (x := x) (by unfold downL; rw [hbb]; exact h)
      unfold downL at this
      rw [hbb] at this
      exact this)
    rw [hbb]
    clear hbb hC hn9 hn hx htop hl hxlt HNO9
    generalize full (allB l) 0 x = fu at *
    go_enter Tryd.func59, Tryd.ntmps59
    go_wp2_with fail
    generalize w.alloc (.cells #[.int .u32 (x : Nat), .int .i64 bb] 24) = W1 at *
    obtain ⟨g, hg⟩ : ∃ g, w.heap.size = g := ⟨_, rfl⟩
    rw [hg] at HX0 ⊢
    clear hg
    go_loopw [5, 6] (fun s i wr => ∃ (k : Nat) (b : Bool), k ≤ n9 ∧ i = .int .i64 k ∧ s = .bool b ∧ b = (l.take k).any (fun c => coversB ⟨x, bb⟩ c) ∧ (∀ c ∈ l.take k, coversB c ⟨x, bb⟩ = false) ∧ BoxAt wr g x bb ∧ Below w.heap.size w wr) (fun _ i _ => n9 - (intOf i).toNat)
    case atStart => exact ⟨0, false, Nat.zero_le _, rfl, rfl, by simp, (fun c h => by simp at h), HX0.out, HB0.out⟩
    case round =>
      obtain ⟨k, b, hk, rfl, rfl, hb, hno, hX, hB⟩ := hrel
      by_cases hlt : k < n9
      · have hlt' : (k : Int) < (n9 : Int) := by omega
        obtain ⟨b1, o1, h1, hb1, hc0, hc1⟩ := HL.out.at (k := k) hlt
        subst h1
        have hkl : k < l.length := by rw [HN.out]; exact hlt
        have hmem := mem_getD l k hkl
        have HCV := hide (HC1.out _ hmem)
        have HCW := hide (HC2.out _ hmem)
        have hany := any_next l k hkl (fun c => coversB ⟨x, bb⟩ c)
        have htk : ∀ c ∈ l.take (k + 1), c ∈ l.take k ∨ c = l.getD k default := fun c hc => mem_next l k hkl hc
        have hcov := HCVF.out _ hmem
        rw [← hb] at hany
        generalize l.getD k default = e at *
        obtain ⟨ea, eb⟩ := e
        dsimp only at HCV HCW hc0 hc1 hany
        have C0 := hide ((hB.cell (p := ⟨b1, o1 + k * 2, none⟩) hb1).trans hc0)
        have C1 := hide ((hB.cell (p := ⟨b1, o1 + k * 2 + 1, none⟩) hb1).trans hc1)
        have L1 := hide (Nat.lt_of_lt_of_le hb1 hB.size)
        have HXr := hide hX
        have HBr := hide hB
        have HNO := hide hno
        have HAN := hide hany
        have HTK := hide htk
        clear hb hno hX hB hany htk hc0 hc1 hb1 hkl hmem hlt
        cases hcv : coversB ⟨ea, eb⟩ ⟨x, bb⟩ with
        | true =>
          have HD := hide (hcov hcv)
          rw [hcv] at HCV
          clear hcov hcv
          go_wp2_with fail
          refine wp_region_held_drew (S := fun w' => Below wr.heap.size wr w') (by kernel_rfl) ((Below.refl _ _).drew) (fun hHeld => ?_)
          refine wpAnyH_take (i := 0) (oi := { dst := some 15, op := Op.move (Operand.tmp 1), type := 37, pos := "ref.go:152", after := #[], guard := none }) (v := ?_) rfl (by kernel_rfl) (by kernel_rfl) (by kernel_rfl) (fun _ _ _ h => h) (Or.inl ⟨by rfl, ?_⟩) hHeld ?_
          rotate_left
          · intro w hSw; (try dsimp only at hSw); go_simp; first | done | with_reducible rfl
          try simp only [Act.put, List.setIfInBounds_toArray, List.set_cons_zero, List.set_cons_succ]
          refine wpAnyH_take (i := 1) (oi := { dst := some 16, op := Op.move (Operand.tmp 6), type := 3, pos := "ref.go:152", after := #[], guard := none }) (v := ?_) rfl (by kernel_rfl) (by kernel_rfl) (by kernel_rfl) (fun _ _ _ h => h) (Or.inl ⟨by rfl, ?_⟩) hHeld ?_
          rotate_left
          · intro w hSw; (try dsimp only at hSw); go_simp; first | done | with_reducible rfl
          try simp only [Act.put, List.setIfInBounds_toArray, List.set_cons_zero, List.set_cons_succ]
          refine wpAnyH_take (i := 2) (oi := { dst := some 17, op := Op.indexAddr 37 (Operand.tmp 15) (Operand.tmp 16), type := 0, pos := "ref.go:152", after := #[{ on := 0, ground := Ground.data }, { on := 1, ground := Ground.data }], guard := none }) (v := ?_) rfl (by kernel_rfl) (by kernel_rfl) (by kernel_rfl) (fun _ _ _ h => h) (Or.inl ⟨by rfl, ?_⟩) hHeld ?_
          rotate_left
          · intro w hSw; (try dsimp only at hSw); have h := hlt'; go_simp; first | done | with_reducible rfl
          try simp only [Act.put, List.setIfInBounds_toArray, List.set_cons_zero, List.set_cons_succ]
          refine wpAnyH_take (i := 3) (oi := { dst := some 18, op := Op.load 24 (Operand.tmp 17), type := 24, pos := "ref.go:152", after := #[{ on := 2, ground := Ground.data }], guard := none }) (v := ?_) rfl (by kernel_rfl) (by kernel_rfl) (by kernel_rfl) (fun _ _ _ h => h) (Or.inl ⟨by rfl, ?_⟩) hHeld ?_
          rotate_left
          · intro w hSw; (try dsimp only at hSw); have e0 := (hSw.cell (p := ⟨g, 0, none⟩) (HXr.out.lt)).trans (HXr.out.c0); have e1 := (hSw.cell (p := ⟨g, 1, none⟩) (HXr.out.lt)).trans (HXr.out.c1); have e2 := (hSw.cell (p := ⟨b1, o1 + k * 2, none⟩) L1.out).trans C0.out; have e3 := (hSw.cell (p := ⟨b1, o1 + k * 2 + 1, none⟩) L1.out).trans C1.out; go_simp; first | done | with_reducible rfl
          try simp only [Act.put, List.setIfInBounds_toArray, List.set_cons_zero, List.set_cons_succ]
          refine wpAnyH_take (i := 4) (oi := { dst := some 19, op := Op.load 24 (Operand.tmp 2), type := 24, pos := "ref.go:152", after := #[], guard := none }) (v := ?_) rfl (by kernel_rfl) (by kernel_rfl) (by kernel_rfl) (fun _ _ _ h => h) (Or.inl ⟨by rfl, ?_⟩) hHeld ?_
          rotate_left
          · intro w hSw; (try dsimp only at hSw); have e0 := (hSw.cell (p := ⟨g, 0, none⟩) (HXr.out.lt)).trans (HXr.out.c0); have e1 := (hSw.cell (p := ⟨g, 1, none⟩) (HXr.out.lt)).trans (HXr.out.c1); have e2 := (hSw.cell (p := ⟨b1, o1 + k * 2, none⟩) L1.out).trans C0.out; have e3 := (hSw.cell (p := ⟨b1, o1 + k * 2 + 1, none⟩) L1.out).trans C1.out; go_simp; first | done | with_reducible rfl
          try simp only [Act.put, List.setIfInBounds_toArray, List.set_cons_zero, List.set_cons_succ]
          refine wpAnyH_ready (rs := [5]) (by kernel_rfl) (by simp) ?_
          refine AllReadyH.cons (o := { dst := some 20, op := Op.call { callee := Callee.value (Operand.func 30), args := #[Operand.tmp 18, Operand.tmp 19], argTypes := #[24, 24] }, type := 4, pos := "ref.go:152", after := #[{ on := 3, ground := Ground.data }, { on := 4, ground := Ground.data }], guard := none }) rfl (fun K hK => ?_) AllReadyH.nil
          clear hHeld
          go_simp
          refine (HCV.out _).mono ?_
          rintro e wr1 ⟨rfl, hB⟩
          have HR1 := hide (((Below.refl wr.heap.size wr).drew).trans (hB.mono ((Below.refl wr.heap.size wr).drew).size))
          clear hB
          refine hK.out _ _ (HR1.out) (fun hHeld => ?_)
          clear hK K
          try simp only [Act.put, List.setIfInBounds_toArray, List.set_cons_zero, List.set_cons_succ]
          refine wpAnyH_done (by kernel_rfl) ?_ _
          clear hHeld
          go_wp2_with fail
          go_ret
          rw [HD.out]
          exact ⟨rfl, HBr.out.trans (HR1.out.mono HBr.out.size)⟩
        | false =>
          have HN2 : Hid (∀ c ∈ l.take (k + 1), coversB c ⟨x, bb⟩ = false) := hide (fun c hc => by
            rcases HTK.out c hc with h | h
            · exact HNO.out c h
            · rw [h]; exact hcv)
          rw [hcv] at HCV
          clear hcov hcv HTK HNO
          generalize coversB ⟨x, bb⟩ ⟨ea, eb⟩ = cw at *
          go_wp2_with fail
          refine wp_region_held_drew (S := fun w' => Below wr.heap.size wr w') (by kernel_rfl) ((Below.refl _ _).drew) (fun hHeld => ?_)
          refine wpAnyH_take (i := 0) (oi := { dst := some 15, op := Op.move (Operand.tmp 1), type := 37, pos := "ref.go:152", after := #[], guard := none }) (v := ?_) rfl (by kernel_rfl) (by kernel_rfl) (by kernel_rfl) (fun _ _ _ h => h) (Or.inl ⟨by rfl, ?_⟩) hHeld ?_
          rotate_left
          · intro w hSw; (try dsimp only at hSw); go_simp; first | done | with_reducible rfl
          try simp only [Act.put, List.setIfInBounds_toArray, List.set_cons_zero, List.set_cons_succ]
          refine wpAnyH_take (i := 1) (oi := { dst := some 16, op := Op.move (Operand.tmp 6), type := 3, pos := "ref.go:152", after := #[], guard := none }) (v := ?_) rfl (by kernel_rfl) (by kernel_rfl) (by kernel_rfl) (fun _ _ _ h => h) (Or.inl ⟨by rfl, ?_⟩) hHeld ?_
          rotate_left
          · intro w hSw; (try dsimp only at hSw); go_simp; first | done | with_reducible rfl
          try simp only [Act.put, List.setIfInBounds_toArray, List.set_cons_zero, List.set_cons_succ]
          refine wpAnyH_take (i := 2) (oi := { dst := some 17, op := Op.indexAddr 37 (Operand.tmp 15) (Operand.tmp 16), type := 0, pos := "ref.go:152", after := #[{ on := 0, ground := Ground.data }, { on := 1, ground := Ground.data }], guard := none }) (v := ?_) rfl (by kernel_rfl) (by kernel_rfl) (by kernel_rfl) (fun _ _ _ h => h) (Or.inl ⟨by rfl, ?_⟩) hHeld ?_
          rotate_left
          · intro w hSw; (try dsimp only at hSw); have h := hlt'; go_simp; first | done | with_reducible rfl
          try simp only [Act.put, List.setIfInBounds_toArray, List.set_cons_zero, List.set_cons_succ]
          refine wpAnyH_take (i := 3) (oi := { dst := some 18, op := Op.load 24 (Operand.tmp 17), type := 24, pos := "ref.go:152", after := #[{ on := 2, ground := Ground.data }], guard := none }) (v := ?_) rfl (by kernel_rfl) (by kernel_rfl) (by kernel_rfl) (fun _ _ _ h => h) (Or.inl ⟨by rfl, ?_⟩) hHeld ?_
          rotate_left
          · intro w hSw; (try dsimp only at hSw); have e0 := (hSw.cell (p := ⟨g, 0, none⟩) (HXr.out.lt)).trans (HXr.out.c0); have e1 := (hSw.cell (p := ⟨g, 1, none⟩) (HXr.out.lt)).trans (HXr.out.c1); have e2 := (hSw.cell (p := ⟨b1, o1 + k * 2, none⟩) L1.out).trans C0.out; have e3 := (hSw.cell (p := ⟨b1, o1 + k * 2 + 1, none⟩) L1.out).trans C1.out; go_simp; first | done | with_reducible rfl
          try simp only [Act.put, List.setIfInBounds_toArray, List.set_cons_zero, List.set_cons_succ]
          refine wpAnyH_take (i := 4) (oi := { dst := some 19, op := Op.load 24 (Operand.tmp 2), type := 24, pos := "ref.go:152", after := #[], guard := none }) (v := ?_) rfl (by kernel_rfl) (by kernel_rfl) (by kernel_rfl) (fun _ _ _ h => h) (Or.inl ⟨by rfl, ?_⟩) hHeld ?_
          rotate_left
          · intro w hSw; (try dsimp only at hSw); have e0 := (hSw.cell (p := ⟨g, 0, none⟩) (HXr.out.lt)).trans (HXr.out.c0); have e1 := (hSw.cell (p := ⟨g, 1, none⟩) (HXr.out.lt)).trans (HXr.out.c1); have e2 := (hSw.cell (p := ⟨b1, o1 + k * 2, none⟩) L1.out).trans C0.out; have e3 := (hSw.cell (p := ⟨b1, o1 + k * 2 + 1, none⟩) L1.out).trans C1.out; go_simp; first | done | with_reducible rfl
          try simp only [Act.put, List.setIfInBounds_toArray, List.set_cons_zero, List.set_cons_succ]
          refine wpAnyH_ready (rs := [5]) (by kernel_rfl) (by simp) ?_
          refine AllReadyH.cons (o := { dst := some 20, op := Op.call { callee := Callee.value (Operand.func 30), args := #[Operand.tmp 18, Operand.tmp 19], argTypes := #[24, 24] }, type := 4, pos := "ref.go:152", after := #[{ on := 3, ground := Ground.data }, { on := 4, ground := Ground.data }], guard := none }) rfl (fun K hK => ?_) AllReadyH.nil
          clear hHeld
          go_simp
          refine (HCV.out _).mono ?_
          rintro e wr1 ⟨rfl, hB⟩
          have HR1 := hide (((Below.refl wr.heap.size wr).drew).trans (hB.mono ((Below.refl wr.heap.size wr).drew).size))
          clear hB
          refine hK.out _ _ (HR1.out) (fun hHeld => ?_)
          clear hK K
          try simp only [Act.put, List.setIfInBounds_toArray, List.set_cons_zero, List.set_cons_succ]
          refine wpAnyH_done (by kernel_rfl) ?_ _
          clear hHeld
          have E0 := hide ((HR1.out.cell (p := ⟨b1, o1 + k * 2, none⟩) L1.out).trans C0.out)
          have E1 := hide ((HR1.out.cell (p := ⟨b1, o1 + k * 2 + 1, none⟩) L1.out).trans C1.out)
          have L5 := hide (Nat.lt_of_lt_of_le L1.out HR1.out.size)
          have HX5 := hide (HXr.out.below_b HR1.out)
          have HB5 := hide (HBr.out.trans (HR1.out.mono HBr.out.size))
          cases b with
          | true =>
            go_wp2_with fail
            refine wp_region_held_drew (S := fun w' => Below wr1.heap.size wr1 w') (by kernel_rfl) ((Below.refl _ _).drew) (fun hHeld => ?_)
            refine wpAnyH_take (i := 0) (oi := { dst := some 21, op := Op.move (Operand.tmp 5), type := 4, pos := "ref.go:155", after := #[], guard := none }) (v := ?_) rfl (by kernel_rfl) (by kernel_rfl) (by kernel_rfl) (fun _ _ _ h => h) (Or.inl ⟨by rfl, ?_⟩) hHeld ?_
            rotate_left
            · intro w hSw; (try dsimp only at hSw); go_simp; first | done | with_reducible rfl
            try simp only [Act.put, List.setIfInBounds_toArray, List.set_cons_zero, List.set_cons_succ]
            refine wpAnyH_take (i := 1) (oi := { dst := some 22, op := Op.move (Operand.tmp 21), type := 4, pos := "ref.go:155", after := #[{ on := 0, ground := Ground.data }], guard := none }) (v := ?_) rfl (by kernel_rfl) (by kernel_rfl) (by kernel_rfl) (fun _ _ _ h => h) (Or.inl ⟨by rfl, ?_⟩) hHeld ?_
            rotate_left
            · intro w hSw; (try dsimp only at hSw); go_simp; first | done | with_reducible rfl
            try simp only [Act.put, List.setIfInBounds_toArray, List.set_cons_zero, List.set_cons_succ]
            refine wpAnyH_take (i := 2) (oi := { dst := some 23, op := Op.load 24 (Operand.tmp 2), type := 24, pos := "ref.go:155", after := #[{ on := 1, ground := Ground.guard }], guard := some (1, false) }) (v := undef) rfl (by kernel_rfl) (by kernel_rfl) (by kernel_rfl) (fun _ _ _ h => h) (Or.inr ⟨by rfl, rfl⟩) hHeld ?_
            try simp only [Act.put, List.setIfInBounds_toArray, List.set_cons_zero, List.set_cons_succ]
            refine wpAnyH_take (i := 3) (oi := { dst := some 24, op := Op.move (Operand.tmp 1), type := 37, pos := "ref.go:155", after := #[{ on := 1, ground := Ground.guard }], guard := some (1, false) }) (v := undef) rfl (by kernel_rfl) (by kernel_rfl) (by kernel_rfl) (fun _ _ _ h => h) (Or.inr ⟨by rfl, rfl⟩) hHeld ?_
            try simp only [Act.put, List.setIfInBounds_toArray, List.set_cons_zero, List.set_cons_succ]
            refine wpAnyH_take (i := 4) (oi := { dst := some 25, op := Op.move (Operand.tmp 6), type := 3, pos := "ref.go:155", after := #[{ on := 1, ground := Ground.guard }], guard := some (1, false) }) (v := undef) rfl (by kernel_rfl) (by kernel_rfl) (by kernel_rfl) (fun _ _ _ h => h) (Or.inr ⟨by rfl, rfl⟩) hHeld ?_
            try simp only [Act.put, List.setIfInBounds_toArray, List.set_cons_zero, List.set_cons_succ]
            refine wpAnyH_take (i := 5) (oi := { dst := some 26, op := Op.indexAddr 37 (Operand.tmp 24) (Operand.tmp 25), type := 0, pos := "ref.go:155", after := #[{ on := 3, ground := Ground.data }, { on := 4, ground := Ground.data }, { on := 1, ground := Ground.guard }], guard := some (1, false) }) (v := undef) rfl (by kernel_rfl) (by kernel_rfl) (by kernel_rfl) (fun _ _ _ h => h) (Or.inr ⟨by rfl, rfl⟩) hHeld ?_
            try simp only [Act.put, List.setIfInBounds_toArray, List.set_cons_zero, List.set_cons_succ]
            refine wpAnyH_take (i := 6) (oi := { dst := some 27, op := Op.load 24 (Operand.tmp 26), type := 24, pos := "ref.go:155", after := #[{ on := 5, ground := Ground.data }, { on := 1, ground := Ground.guard }], guard := some (1, false) }) (v := undef) rfl (by kernel_rfl) (by kernel_rfl) (by kernel_rfl) (fun _ _ _ h => h) (Or.inr ⟨by rfl, rfl⟩) hHeld ?_
            try simp only [Act.put, List.setIfInBounds_toArray, List.set_cons_zero, List.set_cons_succ]
            refine wpAnyH_take (i := 7) (oi := { dst := some 28, op := Op.call { callee := Callee.value (Operand.func 30), args := #[Operand.tmp 23, Operand.tmp 27], argTypes := #[24, 24] }, type := 4, pos := "ref.go:155", after := #[{ on := 2, ground := Ground.data }, { on := 6, ground := Ground.data }, { on := 1, ground := Ground.chain }, { on := 1, ground := Ground.guard }], guard := some (1, false) }) (v := undef) rfl (by kernel_rfl) (by kernel_rfl) (by kernel_rfl) (fun _ _ _ h => h) (Or.inr ⟨by rfl, rfl⟩) hHeld ?_
            try simp only [Act.put, List.setIfInBounds_toArray, List.set_cons_zero, List.set_cons_succ]
            refine wpAnyH_take (i := 8) (oi := { dst := some 29, op := Op.pick (Operand.tmp 22) (Operand.const (Value.bool true)) (Operand.tmp 28), type := 4, pos := "ref.go:155", after := #[{ on := 1, ground := Ground.data }, { on := 7, ground := Ground.data }], guard := none }) (v := ?_) rfl (by kernel_rfl) (by kernel_rfl) (by kernel_rfl) (fun _ _ _ h => h) (Or.inl ⟨by rfl, ?_⟩) hHeld ?_
            rotate_left
            · intro w hSw; (try dsimp only at hSw); go_simp; first | done | with_reducible rfl
            try simp only [Act.put, List.setIfInBounds_toArray, List.set_cons_zero, List.set_cons_succ]
            refine wpAnyH_take (i := 9) (oi := { dst := some 5, op := Op.assign (Operand.tmp 29), type := 4, pos := "ref.go:155", after := #[{ on := 8, ground := Ground.data }, { on := 7, ground := Ground.chain }, { on := 0, ground := Ground.phase }, { on := 1, ground := Ground.phase }, { on := 2, ground := Ground.phase }, { on := 3, ground := Ground.phase }, { on := 4, ground := Ground.phase }, { on := 5, ground := Ground.phase }, { on := 6, ground := Ground.phase }, { on := 7, ground := Ground.phase }, { on := 8, ground := Ground.phase }], guard := none }) (v := ?_) rfl (by kernel_rfl) (by kernel_rfl) (by kernel_rfl) (fun _ _ _ h => h) (Or.inl ⟨by rfl, ?_⟩) hHeld ?_
            rotate_left
            · intro w hSw; (try dsimp only at hSw); go_simp; first | done | with_reducible rfl
            try simp only [Act.put, List.setIfInBounds_toArray, List.set_cons_zero, List.set_cons_succ]
            refine wpAnyH_done (by kernel_rfl) ?_ _
            clear hHeld
            go_wp2_with fail
            go_roundw
            case rel => exact ⟨k + 1, true, by omega, by go_num, rfl, by rw [HAN.out]; rfl, HN2.out, HX5.out.below_b ((Below.refl wr1.heap.size wr1).drew), HB5.out.trans (((Below.refl wr1.heap.size wr1).drew).mono HB5.out.size)⟩
            case measure => simp [intOf]; omega
          | false =>
            go_wp2_with fail
            refine wp_region_held_drew (S := fun w' => Below wr1.heap.size wr1 w') (by kernel_rfl) ((Below.refl _ _).drew) (fun hHeld => ?_)
            refine wpAnyH_take (i := 0) (oi := { dst := some 21, op := Op.move (Operand.tmp 5), type := 4, pos := "ref.go:155", after := #[], guard := none }) (v := ?_) rfl (by kernel_rfl) (by kernel_rfl) (by kernel_rfl) (fun _ _ _ h => h) (Or.inl ⟨by rfl, ?_⟩) hHeld ?_
            rotate_left
            · intro w hSw; (try dsimp only at hSw); go_simp; first | done | with_reducible rfl
            try simp only [Act.put, List.setIfInBounds_toArray, List.set_cons_zero, List.set_cons_succ]
            refine wpAnyH_take (i := 1) (oi := { dst := some 22, op := Op.move (Operand.tmp 21), type := 4, pos := "ref.go:155", after := #[{ on := 0, ground := Ground.data }], guard := none }) (v := ?_) rfl (by kernel_rfl) (by kernel_rfl) (by kernel_rfl) (fun _ _ _ h => h) (Or.inl ⟨by rfl, ?_⟩) hHeld ?_
            rotate_left
            · intro w hSw; (try dsimp only at hSw); go_simp; first | done | with_reducible rfl
            try simp only [Act.put, List.setIfInBounds_toArray, List.set_cons_zero, List.set_cons_succ]
            refine wpAnyH_take (i := 2) (oi := { dst := some 23, op := Op.load 24 (Operand.tmp 2), type := 24, pos := "ref.go:155", after := #[{ on := 1, ground := Ground.guard }], guard := some (1, false) }) (v := ?_) rfl (by kernel_rfl) (by kernel_rfl) (by kernel_rfl) (fun _ _ _ h => h) (Or.inl ⟨by rfl, ?_⟩) hHeld ?_
            rotate_left
            · intro w hSw; (try dsimp only at hSw); have e0 := (hSw.cell (p := ⟨g, 0, none⟩) (HX5.out.lt)).trans (HX5.out.c0); have e1 := (hSw.cell (p := ⟨g, 1, none⟩) (HX5.out.lt)).trans (HX5.out.c1); have e2 := (hSw.cell (p := ⟨b1, o1 + k * 2, none⟩) L5.out).trans E0.out; have e3 := (hSw.cell (p := ⟨b1, o1 + k * 2 + 1, none⟩) L5.out).trans E1.out; go_simp; first | done | with_reducible rfl
            try simp only [Act.put, List.setIfInBounds_toArray, List.set_cons_zero, List.set_cons_succ]
            refine wpAnyH_take (i := 3) (oi := { dst := some 24, op := Op.move (Operand.tmp 1), type := 37, pos := "ref.go:155", after := #[{ on := 1, ground := Ground.guard }], guard := some (1, false) }) (v := ?_) rfl (by kernel_rfl) (by kernel_rfl) (by kernel_rfl) (fun _ _ _ h => h) (Or.inl ⟨by rfl, ?_⟩) hHeld ?_
            rotate_left
            · intro w hSw; (try dsimp only at hSw); go_simp; first | done | with_reducible rfl
            try simp only [Act.put, List.setIfInBounds_toArray, List.set_cons_zero, List.set_cons_succ]
            refine wpAnyH_take (i := 4) (oi := { dst := some 25, op := Op.move (Operand.tmp 6), type := 3, pos := "ref.go:155", after := #[{ on := 1, ground := Ground.guard }], guard := some (1, false) }) (v := ?_) rfl (by kernel_rfl) (by kernel_rfl) (by kernel_rfl) (fun _ _ _ h => h) (Or.inl ⟨by rfl, ?_⟩) hHeld ?_
            rotate_left
            · intro w hSw; (try dsimp only at hSw); go_simp; first | done | with_reducible rfl
            try simp only [Act.put, List.setIfInBounds_toArray, List.set_cons_zero, List.set_cons_succ]
            refine wpAnyH_take (i := 5) (oi := { dst := some 26, op := Op.indexAddr 37 (Operand.tmp 24) (Operand.tmp 25), type := 0, pos := "ref.go:155", after := #[{ on := 3, ground := Ground.data }, { on := 4, ground := Ground.data }, { on := 1, ground := Ground.guard }], guard := some (1, false) }) (v := ?_) rfl (by kernel_rfl) (by kernel_rfl) (by kernel_rfl) (fun _ _ _ h => h) (Or.inl ⟨by rfl, ?_⟩) hHeld ?_
            rotate_left
            · intro w hSw; (try dsimp only at hSw); have h := hlt'; go_simp; first | done | with_reducible rfl
            try simp only [Act.put, List.setIfInBounds_toArray, List.set_cons_zero, List.set_cons_succ]
            refine wpAnyH_take (i := 6) (oi := { dst := some 27, op := Op.load 24 (Operand.tmp 26), type := 24, pos := "ref.go:155", after := #[{ on := 5, ground := Ground.data }, { on := 1, ground := Ground.guard }], guard := some (1, false) }) (v := ?_) rfl (by kernel_rfl) (by kernel_rfl) (by kernel_rfl) (fun _ _ _ h => h) (Or.inl ⟨by rfl, ?_⟩) hHeld ?_
            rotate_left
            · intro w hSw; (try dsimp only at hSw); have e0 := (hSw.cell (p := ⟨g, 0, none⟩) (HX5.out.lt)).trans (HX5.out.c0); have e1 := (hSw.cell (p := ⟨g, 1, none⟩) (HX5.out.lt)).trans (HX5.out.c1); have e2 := (hSw.cell (p := ⟨b1, o1 + k * 2, none⟩) L5.out).trans E0.out; have e3 := (hSw.cell (p := ⟨b1, o1 + k * 2 + 1, none⟩) L5.out).trans E1.out; go_simp; first | done | with_reducible rfl
            try simp only [Act.put, List.setIfInBounds_toArray, List.set_cons_zero, List.set_cons_succ]
            refine wpAnyH_ready (rs := [7]) (by kernel_rfl) (by simp) ?_
            refine AllReadyH.cons (o := { dst := some 28, op := Op.call { callee := Callee.value (Operand.func 30), args := #[Operand.tmp 23, Operand.tmp 27], argTypes := #[24, 24] }, type := 4, pos := "ref.go:155", after := #[{ on := 2, ground := Ground.data }, { on := 6, ground := Ground.data }, { on := 1, ground := Ground.chain }, { on := 1, ground := Ground.guard }], guard := some (1, false) }) rfl (fun K hK => ?_) AllReadyH.nil
            clear hHeld
            go_simp
            refine (HCW.out _).mono ?_
            rintro e wr6 ⟨rfl, hB⟩
            have HR6 := hide (((Below.refl wr1.heap.size wr1).drew).trans (hB.mono ((Below.refl wr1.heap.size wr1).drew).size))
            clear hB
            refine hK.out _ _ (HR6.out) (fun hHeld => ?_)
            clear hK K
            try simp only [Act.put, List.setIfInBounds_toArray, List.set_cons_zero, List.set_cons_succ]
            refine wpAnyH_take (i := 8) (oi := { dst := some 29, op := Op.pick (Operand.tmp 22) (Operand.const (Value.bool true)) (Operand.tmp 28), type := 4, pos := "ref.go:155", after := #[{ on := 1, ground := Ground.data }, { on := 7, ground := Ground.data }], guard := none }) (v := ?_) rfl (by kernel_rfl) (by kernel_rfl) (by kernel_rfl) (fun _ _ _ h => h) (Or.inl ⟨by rfl, ?_⟩) hHeld ?_
            rotate_left
            · intro w hSw; (try dsimp only at hSw); go_simp; first | done | with_reducible rfl
            try simp only [Act.put, List.setIfInBounds_toArray, List.set_cons_zero, List.set_cons_succ]
            refine wpAnyH_take (i := 9) (oi := { dst := some 5, op := Op.assign (Operand.tmp 29), type := 4, pos := "ref.go:155", after := #[{ on := 8, ground := Ground.data }, { on := 7, ground := Ground.chain }, { on := 0, ground := Ground.phase }, { on := 1, ground := Ground.phase }, { on := 2, ground := Ground.phase }, { on := 3, ground := Ground.phase }, { on := 4, ground := Ground.phase }, { on := 5, ground := Ground.phase }, { on := 6, ground := Ground.phase }, { on := 7, ground := Ground.phase }, { on := 8, ground := Ground.phase }], guard := none }) (v := ?_) rfl (by kernel_rfl) (by kernel_rfl) (by kernel_rfl) (fun _ _ _ h => h) (Or.inl ⟨by rfl, ?_⟩) hHeld ?_
            rotate_left
            · intro w hSw; (try dsimp only at hSw); go_simp; first | done | with_reducible rfl
            try simp only [Act.put, List.setIfInBounds_toArray, List.set_cons_zero, List.set_cons_succ]
            refine wpAnyH_done (by kernel_rfl) ?_ _
            clear hHeld
            go_wp2_with fail
            go_roundw
            case rel => exact ⟨k + 1, cw, by omega, by go_num, rfl, by rw [HAN.out]; simp, HN2.out, HX5.out.below_b HR6.out, HB5.out.trans (HR6.out.mono HB5.out.size)⟩
            case measure => simp [intOf]; omega
      · have hlt' : ¬ (k : Int) < (n9 : Int) := by omega
        have htk : l.take k = l := List.take_of_length_le (by rw [HN.out]; omega)
        rw [htk] at hb hno
        have HXr := hide hX
        have HBr := hide hB
        clear hX hB htk hlt
        cases b with
        | false =>
          have HD : Hid (fu = false) := hide (HSN.out fun c hc => ⟨hno c hc, by
            have := List.any_eq_false.1 hb.symm c hc
            simpa using this⟩)
          clear hb hno
          go_wp2_with fail
          go_ret
          rw [HD.out]
          exact ⟨rfl, HBr.out⟩
        | true =>
          obtain ⟨c, hc, hcc⟩ := List.any_eq_true.1 hb.symm
          clear hb
          exfalso
          have := H1.out c hc hcc
          rw [hno c hc] at this
          cases this
  | succ m ih =>
    intro hn x hx htop v w hC
    obtain ⟨n9, hn9⟩ : ∃ n9, l.length = n9 := ⟨_, rfl⟩
    obtain ⟨ao, cap, rfl⟩ := hC.len
    rw [hn9] at hC ⊢
    have HL := hide hC
    have HN := hide hn9
    have hn9l : n9 ≤ 1000 := by omega
    have hxlt : x < 4294967296 := by have := Nat.pow_pos (n := m + 1) (show 0 < 2 by omega); omega
    obtain ⟨bb, hbb⟩ : ∃ bb : Int, 32 - ((m + 1 : Nat) : Int) = bb := ⟨_, rfl⟩
    have HCVF := hide (fun (c : Net) (hc : c ∈ l) (h : coversB c ⟨x, bb⟩ = true) => full_cov l hn c hc (by unfold downL; rw [hbb]; exact h))
    have HNO9 := hide (fun (h : ∀ c ∈ l, coversB c ⟨x, bb⟩ = false ∧ coversB ⟨x, bb⟩ c = false) => some_no l hn hx (by unfold downL; rw [hbb]; exact h))
    have HC1 := hide (fun (c : Net) (hc : c ∈ l) W => coversR_any c ⟨x, bb⟩ (hf c hc) hxlt W)
    have HC2 := hide (fun (c : Net) (hc : c ∈ l) W => coversR_any ⟨x, bb⟩ c hxlt (hf c hc) W)
    unfold Net.val at HC1 HC2
    dsimp only at HC1 HC2
    have HX0 := hide (BoxAt.new w x bb)
    have HB0 : Hid (Below w.heap.size w (w.alloc (.cells #[.int .u32 (x : Nat), .int .i64 bb] 24))) := hide ((Below.refl _ _).alloc (Nat.le_refl _) _)
    obtain ⟨b2, hb2⟩ : ∃ b2 : Int, 32 - (m : Int) = b2 := ⟨_, rfl⟩
    have hp : 2 ^ (m + 1) = 2 * 2 ^ m := by rw [Nat.pow_succ, Nat.mul_comm]
    have hpp : 0 < 2 ^ m := Nat.pow_pos (by omega)
    have hdl : 2 ^ m ∣ x := Nat.dvd_trans ⟨2, by rw [hp, Nat.mul_comm]⟩ hx
    have hol : Ok ⟨x, b2⟩ := by
      have := downL_ok (n := m) (x := x) (by omega) hdl
      unfold downL at this
      rw [hb2] at this
      exact this
    have HLST := hide (fun W => lastR_any ⟨x, b2⟩ hxlt hol W)
    unfold Net.val at HLST
    dsimp only at HLST
    have hsz : sz b2 = 2 ^ m := by rw [← hb2]; exact sz_of m (by omega)
    rw [hsz] at HLST
    have hw1 : IntKind.i64.wrap (bb + 1) = b2 := by rw [IntWalk.i64_in _ (by omega)]; omega
    have hw2 : IntKind.u32.wrap (((x + (2 ^ m - 1) : Nat) : Int) + 1) = ((x + 2 ^ m : Nat) : Int) := by rw [IntWalk.u32_in _ (by omega)]; omega
    have hge : ¬ (32 : Int) ≤ bb := by omega
    have HSN := hide (fun h => full_none (m + 1) x (HNO9.out h))
    have HFU : Hid (full (allB l) (m + 1) x = (full (allB l) m x && full (allB l) m (x + 2 ^ m))) := hide rfl
    have HI1 := hide (fun v W h => ih (by omega) x hdl (by omega) v W h)
    have HI2 := hide (fun v W h => ih (by omega) (x + 2 ^ m) (Nat.dvd_add hdl (Nat.dvd_refl _)) (by omega) v W h)
    rw [hb2] at HI1 HI2
    rw [hbb]
    clear hbb hC hn9 hn hx htop hl hxlt HNO9 hb2 hp hpp hdl hol hsz ih
    generalize full (allB l) (m + 1) x = fu at *
    generalize full (allB l) m x = fA at *
    generalize full (allB l) m (x + 2 ^ m) = fB at *
    generalize x + (2 ^ m - 1) = y1 at *
    generalize x + 2 ^ m = y2 at *
    go_enter Tryd.func59, Tryd.ntmps59
    go_wp2_with fail
    generalize w.alloc (.cells #[.int .u32 (x : Nat), .int .i64 bb] 24) = W1 at *
    obtain ⟨g, hg⟩ : ∃ g, w.heap.size = g := ⟨_, rfl⟩
    rw [hg] at HX0 ⊢
    clear hg
    go_loopw [5, 6] (fun s i wr => ∃ (k : Nat) (b : Bool), k ≤ n9 ∧ i = .int .i64 k ∧ s = .bool b ∧ b = (l.take k).any (fun c => coversB ⟨x, bb⟩ c) ∧ (∀ c ∈ l.take k, coversB c ⟨x, bb⟩ = false) ∧ BoxAt wr g x bb ∧ Below w.heap.size w wr) (fun _ i _ => n9 - (intOf i).toNat)
    case atStart => exact ⟨0, false, Nat.zero_le _, rfl, rfl, by simp, (fun c h => by simp at h), HX0.out, HB0.out⟩
    case round =>
      obtain ⟨k, b, hk, rfl, rfl, hb, hno, hX, hB⟩ := hrel
      by_cases hlt : k < n9
      · have hlt' : (k : Int) < (n9 : Int) := by omega
        obtain ⟨b1, o1, h1, hb1, hc0, hc1⟩ := HL.out.at (k := k) hlt
        subst h1
        have hkl : k < l.length := by rw [HN.out]; exact hlt
        have hmem := mem_getD l k hkl
        have HCV := hide (HC1.out _ hmem)
        have HCW := hide (HC2.out _ hmem)
        have hany := any_next l k hkl (fun c => coversB ⟨x, bb⟩ c)
        have htk : ∀ c ∈ l.take (k + 1), c ∈ l.take k ∨ c = l.getD k default := fun c hc => mem_next l k hkl hc
        have hcov := HCVF.out _ hmem
        rw [← hb] at hany
        generalize l.getD k default = e at *
        obtain ⟨ea, eb⟩ := e
        dsimp only at HCV HCW hc0 hc1 hany
        have C0 := hide ((hB.cell (p := ⟨b1, o1 + k * 2, none⟩) hb1).trans hc0)
        have C1 := hide ((hB.cell (p := ⟨b1, o1 + k * 2 + 1, none⟩) hb1).trans hc1)
        have L1 := hide (Nat.lt_of_lt_of_le hb1 hB.size)
        have HXr := hide hX
        have HBr := hide hB
        have HNO := hide hno
        have HAN := hide hany
        have HTK := hide htk
        clear hb hno hX hB hany htk hc0 hc1 hb1 hkl hmem hlt
        cases hcv : coversB ⟨ea, eb⟩ ⟨x, bb⟩ with
        | true =>
          have HD := hide (hcov hcv)
          rw [hcv] at HCV
          clear hcov hcv
          go_wp2_with fail
          refine wp_region_held_drew (S := fun w' => Below wr.heap.size wr w') (by kernel_rfl) ((Below.refl _ _).drew) (fun hHeld => ?_)
          refine wpAnyH_take (i := 0) (oi := { dst := some 15, op := Op.move (Operand.tmp 1), type := 37, pos := "ref.go:152", after := #[], guard := none }) (v := ?_) rfl (by kernel_rfl) (by kernel_rfl) (by kernel_rfl) (fun _ _ _ h => h) (Or.inl ⟨by rfl, ?_⟩) hHeld ?_
          rotate_left
          · intro w hSw; (try dsimp only at hSw); go_simp; first | done | with_reducible rfl
          try simp only [Act.put, List.setIfInBounds_toArray, List.set_cons_zero, List.set_cons_succ]
          refine wpAnyH_take (i := 1) (oi := { dst := some 16, op := Op.move (Operand.tmp 6), type := 3, pos := "ref.go:152", after := #[], guard := none }) (v := ?_) rfl (by kernel_rfl) (by kernel_rfl) (by kernel_rfl) (fun _ _ _ h => h) (Or.inl ⟨by rfl, ?_⟩) hHeld ?_
          rotate_left
          · intro w hSw; (try dsimp only at hSw); go_simp; first | done | with_reducible rfl
          try simp only [Act.put, List.setIfInBounds_toArray, List.set_cons_zero, List.set_cons_succ]
          refine wpAnyH_take (i := 2) (oi := { dst := some 17, op := Op.indexAddr 37 (Operand.tmp 15) (Operand.tmp 16), type := 0, pos := "ref.go:152", after := #[{ on := 0, ground := Ground.data }, { on := 1, ground := Ground.data }], guard := none }) (v := ?_) rfl (by kernel_rfl) (by kernel_rfl) (by kernel_rfl) (fun _ _ _ h => h) (Or.inl ⟨by rfl, ?_⟩) hHeld ?_
          rotate_left
          · intro w hSw; (try dsimp only at hSw); have h := hlt'; go_simp; first | done | with_reducible rfl
          try simp only [Act.put, List.setIfInBounds_toArray, List.set_cons_zero, List.set_cons_succ]
          refine wpAnyH_take (i := 3) (oi := { dst := some 18, op := Op.load 24 (Operand.tmp 17), type := 24, pos := "ref.go:152", after := #[{ on := 2, ground := Ground.data }], guard := none }) (v := ?_) rfl (by kernel_rfl) (by kernel_rfl) (by kernel_rfl) (fun _ _ _ h => h) (Or.inl ⟨by rfl, ?_⟩) hHeld ?_
          rotate_left
          · intro w hSw; (try dsimp only at hSw); have e0 := (hSw.cell (p := ⟨g, 0, none⟩) (HXr.out.lt)).trans (HXr.out.c0); have e1 := (hSw.cell (p := ⟨g, 1, none⟩) (HXr.out.lt)).trans (HXr.out.c1); have e2 := (hSw.cell (p := ⟨b1, o1 + k * 2, none⟩) L1.out).trans C0.out; have e3 := (hSw.cell (p := ⟨b1, o1 + k * 2 + 1, none⟩) L1.out).trans C1.out; go_simp; first | done | with_reducible rfl
          try simp only [Act.put, List.setIfInBounds_toArray, List.set_cons_zero, List.set_cons_succ]
          refine wpAnyH_take (i := 4) (oi := { dst := some 19, op := Op.load 24 (Operand.tmp 2), type := 24, pos := "ref.go:152", after := #[], guard := none }) (v := ?_) rfl (by kernel_rfl) (by kernel_rfl) (by kernel_rfl) (fun _ _ _ h => h) (Or.inl ⟨by rfl, ?_⟩) hHeld ?_
          rotate_left
          · intro w hSw; (try dsimp only at hSw); have e0 := (hSw.cell (p := ⟨g, 0, none⟩) (HXr.out.lt)).trans (HXr.out.c0); have e1 := (hSw.cell (p := ⟨g, 1, none⟩) (HXr.out.lt)).trans (HXr.out.c1); have e2 := (hSw.cell (p := ⟨b1, o1 + k * 2, none⟩) L1.out).trans C0.out; have e3 := (hSw.cell (p := ⟨b1, o1 + k * 2 + 1, none⟩) L1.out).trans C1.out; go_simp; first | done | with_reducible rfl
          try simp only [Act.put, List.setIfInBounds_toArray, List.set_cons_zero, List.set_cons_succ]
          refine wpAnyH_ready (rs := [5]) (by kernel_rfl) (by simp) ?_
          refine AllReadyH.cons (o := { dst := some 20, op := Op.call { callee := Callee.value (Operand.func 30), args := #[Operand.tmp 18, Operand.tmp 19], argTypes := #[24, 24] }, type := 4, pos := "ref.go:152", after := #[{ on := 3, ground := Ground.data }, { on := 4, ground := Ground.data }], guard := none }) rfl (fun K hK => ?_) AllReadyH.nil
          clear hHeld
          go_simp
          refine (HCV.out _).mono ?_
          rintro e wr1 ⟨rfl, hB⟩
          have HR1 := hide (((Below.refl wr.heap.size wr).drew).trans (hB.mono ((Below.refl wr.heap.size wr).drew).size))
          clear hB
          refine hK.out _ _ (HR1.out) (fun hHeld => ?_)
          clear hK K
          try simp only [Act.put, List.setIfInBounds_toArray, List.set_cons_zero, List.set_cons_succ]
          refine wpAnyH_done (by kernel_rfl) ?_ _
          clear hHeld
          go_wp2_with fail
          go_ret
          rw [HD.out]
          exact ⟨rfl, HBr.out.trans (HR1.out.mono HBr.out.size)⟩
        | false =>
          have HN2 : Hid (∀ c ∈ l.take (k + 1), coversB c ⟨x, bb⟩ = false) := hide (fun c hc => by
            rcases HTK.out c hc with h | h
            · exact HNO.out c h
            · rw [h]; exact hcv)
          rw [hcv] at HCV
          clear hcov hcv HTK HNO
          generalize coversB ⟨x, bb⟩ ⟨ea, eb⟩ = cw at *
          go_wp2_with fail
          refine wp_region_held_drew (S := fun w' => Below wr.heap.size wr w') (by kernel_rfl) ((Below.refl _ _).drew) (fun hHeld => ?_)
          refine wpAnyH_take (i := 0) (oi := { dst := some 15, op := Op.move (Operand.tmp 1), type := 37, pos := "ref.go:152", after := #[], guard := none }) (v := ?_) rfl (by kernel_rfl) (by kernel_rfl) (by kernel_rfl) (fun _ _ _ h => h) (Or.inl ⟨by rfl, ?_⟩) hHeld ?_
          rotate_left
          · intro w hSw; (try dsimp only at hSw); go_simp; first | done | with_reducible rfl
          try simp only [Act.put, List.setIfInBounds_toArray, List.set_cons_zero, List.set_cons_succ]
          refine wpAnyH_take (i := 1) (oi := { dst := some 16, op := Op.move (Operand.tmp 6), type := 3, pos := "ref.go:152", after := #[], guard := none }) (v := ?_) rfl (by kernel_rfl) (by kernel_rfl) (by kernel_rfl) (fun _ _ _ h => h) (Or.inl ⟨by rfl, ?_⟩) hHeld ?_
          rotate_left
          · intro w hSw; (try dsimp only at hSw); go_simp; first | done | with_reducible rfl
          try simp only [Act.put, List.setIfInBounds_toArray, List.set_cons_zero, List.set_cons_succ]
          refine wpAnyH_take (i := 2) (oi := { dst := some 17, op := Op.indexAddr 37 (Operand.tmp 15) (Operand.tmp 16), type := 0, pos := "ref.go:152", after := #[{ on := 0, ground := Ground.data }, { on := 1, ground := Ground.data }], guard := none }) (v := ?_) rfl (by kernel_rfl) (by kernel_rfl) (by kernel_rfl) (fun _ _ _ h => h) (Or.inl ⟨by rfl, ?_⟩) hHeld ?_
          rotate_left
          · intro w hSw; (try dsimp only at hSw); have h := hlt'; go_simp; first | done | with_reducible rfl
          try simp only [Act.put, List.setIfInBounds_toArray, List.set_cons_zero, List.set_cons_succ]
          refine wpAnyH_take (i := 3) (oi := { dst := some 18, op := Op.load 24 (Operand.tmp 17), type := 24, pos := "ref.go:152", after := #[{ on := 2, ground := Ground.data }], guard := none }) (v := ?_) rfl (by kernel_rfl) (by kernel_rfl) (by kernel_rfl) (fun _ _ _ h => h) (Or.inl ⟨by rfl, ?_⟩) hHeld ?_
          rotate_left
          · intro w hSw; (try dsimp only at hSw); have e0 := (hSw.cell (p := ⟨g, 0, none⟩) (HXr.out.lt)).trans (HXr.out.c0); have e1 := (hSw.cell (p := ⟨g, 1, none⟩) (HXr.out.lt)).trans (HXr.out.c1); have e2 := (hSw.cell (p := ⟨b1, o1 + k * 2, none⟩) L1.out).trans C0.out; have e3 := (hSw.cell (p := ⟨b1, o1 + k * 2 + 1, none⟩) L1.out).trans C1.out; go_simp; first | done | with_reducible rfl
          try simp only [Act.put, List.setIfInBounds_toArray, List.set_cons_zero, List.set_cons_succ]
          refine wpAnyH_take (i := 4) (oi := { dst := some 19, op := Op.load 24 (Operand.tmp 2), type := 24, pos := "ref.go:152", after := #[], guard := none }) (v := ?_) rfl (by kernel_rfl) (by kernel_rfl) (by kernel_rfl) (fun _ _ _ h => h) (Or.inl ⟨by rfl, ?_⟩) hHeld ?_
          rotate_left
          · intro w hSw; (try dsimp only at hSw); have e0 := (hSw.cell (p := ⟨g, 0, none⟩) (HXr.out.lt)).trans (HXr.out.c0); have e1 := (hSw.cell (p := ⟨g, 1, none⟩) (HXr.out.lt)).trans (HXr.out.c1); have e2 := (hSw.cell (p := ⟨b1, o1 + k * 2, none⟩) L1.out).trans C0.out; have e3 := (hSw.cell (p := ⟨b1, o1 + k * 2 + 1, none⟩) L1.out).trans C1.out; go_simp; first | done | with_reducible rfl
          try simp only [Act.put, List.setIfInBounds_toArray, List.set_cons_zero, List.set_cons_succ]
          refine wpAnyH_ready (rs := [5]) (by kernel_rfl) (by simp) ?_
          refine AllReadyH.cons (o := { dst := some 20, op := Op.call { callee := Callee.value (Operand.func 30), args := #[Operand.tmp 18, Operand.tmp 19], argTypes := #[24, 24] }, type := 4, pos := "ref.go:152", after := #[{ on := 3, ground := Ground.data }, { on := 4, ground := Ground.data }], guard := none }) rfl (fun K hK => ?_) AllReadyH.nil
          clear hHeld
          go_simp
          refine (HCV.out _).mono ?_
          rintro e wr1 ⟨rfl, hB⟩
          have HR1 := hide (((Below.refl wr.heap.size wr).drew).trans (hB.mono ((Below.refl wr.heap.size wr).drew).size))
          clear hB
          refine hK.out _ _ (HR1.out) (fun hHeld => ?_)
          clear hK K
          try simp only [Act.put, List.setIfInBounds_toArray, List.set_cons_zero, List.set_cons_succ]
          refine wpAnyH_done (by kernel_rfl) ?_ _
          clear hHeld
          have E0 := hide ((HR1.out.cell (p := ⟨b1, o1 + k * 2, none⟩) L1.out).trans C0.out)
          have E1 := hide ((HR1.out.cell (p := ⟨b1, o1 + k * 2 + 1, none⟩) L1.out).trans C1.out)
          have L5 := hide (Nat.lt_of_lt_of_le L1.out HR1.out.size)
          have HX5 := hide (HXr.out.below_b HR1.out)
          have HB5 := hide (HBr.out.trans (HR1.out.mono HBr.out.size))
          cases b with
          | true =>
            go_wp2_with fail
            refine wp_region_held_drew (S := fun w' => Below wr1.heap.size wr1 w') (by kernel_rfl) ((Below.refl _ _).drew) (fun hHeld => ?_)
            refine wpAnyH_take (i := 0) (oi := { dst := some 21, op := Op.move (Operand.tmp 5), type := 4, pos := "ref.go:155", after := #[], guard := none }) (v := ?_) rfl (by kernel_rfl) (by kernel_rfl) (by kernel_rfl) (fun _ _ _ h => h) (Or.inl ⟨by rfl, ?_⟩) hHeld ?_
            rotate_left
            · intro w hSw; (try dsimp only at hSw); go_simp; first | done | with_reducible rfl
            try simp only [Act.put, List.setIfInBounds_toArray, List.set_cons_zero, List.set_cons_succ]
            refine wpAnyH_take (i := 1) (oi := { dst := some 22, op := Op.move (Operand.tmp 21), type := 4, pos := "ref.go:155", after := #[{ on := 0, ground := Ground.data }], guard := none }) (v := ?_) rfl (by kernel_rfl) (by kernel_rfl) (by kernel_rfl) (fun _ _ _ h => h) (Or.inl ⟨by rfl, ?_⟩) hHeld ?_
            rotate_left
            · intro w hSw; (try dsimp only at hSw); go_simp; first | done | with_reducible rfl
            try simp only [Act.put, List.setIfInBounds_toArray, List.set_cons_zero, List.set_cons_succ]
            refine wpAnyH_take (i := 2) (oi := { dst := some 23, op := Op.load 24 (Operand.tmp 2), type := 24, pos := "ref.go:155", after := #[{ on := 1, ground := Ground.guard }], guard := some (1, false) }) (v := undef) rfl (by kernel_rfl) (by kernel_rfl) (by kernel_rfl) (fun _ _ _ h => h) (Or.inr ⟨by rfl, rfl⟩) hHeld ?_
            try simp only [Act.put, List.setIfInBounds_toArray, List.set_cons_zero, List.set_cons_succ]
            refine wpAnyH_take (i := 3) (oi := { dst := some 24, op := Op.move (Operand.tmp 1), type := 37, pos := "ref.go:155", after := #[{ on := 1, ground := Ground.guard }], guard := some (1, false) }) (v := undef) rfl (by kernel_rfl) (by kernel_rfl) (by kernel_rfl) (fun _ _ _ h => h) (Or.inr ⟨by rfl, rfl⟩) hHeld ?_
            try simp only [Act.put, List.setIfInBounds_toArray, List.set_cons_zero, List.set_cons_succ]
            refine wpAnyH_take (i := 4) (oi := { dst := some 25, op := Op.move (Operand.tmp 6), type := 3, pos := "ref.go:155", after := #[{ on := 1, ground := Ground.guard }], guard := some (1, false) }) (v := undef) rfl (by kernel_rfl) (by kernel_rfl) (by kernel_rfl) (fun _ _ _ h => h) (Or.inr ⟨by rfl, rfl⟩) hHeld ?_
            try simp only [Act.put, List.setIfInBounds_toArray, List.set_cons_zero, List.set_cons_succ]
            refine wpAnyH_take (i := 5) (oi := { dst := some 26, op := Op.indexAddr 37 (Operand.tmp 24) (Operand.tmp 25), type := 0, pos := "ref.go:155", after := #[{ on := 3, ground := Ground.data }, { on := 4, ground := Ground.data }, { on := 1, ground := Ground.guard }], guard := some (1, false) }) (v := undef) rfl (by kernel_rfl) (by kernel_rfl) (by kernel_rfl) (fun _ _ _ h => h) (Or.inr ⟨by rfl, rfl⟩) hHeld ?_
            try simp only [Act.put, List.setIfInBounds_toArray, List.set_cons_zero, List.set_cons_succ]
            refine wpAnyH_take (i := 6) (oi := { dst := some 27, op := Op.load 24 (Operand.tmp 26), type := 24, pos := "ref.go:155", after := #[{ on := 5, ground := Ground.data }, { on := 1, ground := Ground.guard }], guard := some (1, false) }) (v := undef) rfl (by kernel_rfl) (by kernel_rfl) (by kernel_rfl) (fun _ _ _ h => h) (Or.inr ⟨by rfl, rfl⟩) hHeld ?_
            try simp only [Act.put, List.setIfInBounds_toArray, List.set_cons_zero, List.set_cons_succ]
            refine wpAnyH_take (i := 7) (oi := { dst := some 28, op := Op.call { callee := Callee.value (Operand.func 30), args := #[Operand.tmp 23, Operand.tmp 27], argTypes := #[24, 24] }, type := 4, pos := "ref.go:155", after := #[{ on := 2, ground := Ground.data }, { on := 6, ground := Ground.data }, { on := 1, ground := Ground.chain }, { on := 1, ground := Ground.guard }], guard := some (1, false) }) (v := undef) rfl (by kernel_rfl) (by kernel_rfl) (by kernel_rfl) (fun _ _ _ h => h) (Or.inr ⟨by rfl, rfl⟩) hHeld ?_
            try simp only [Act.put, List.setIfInBounds_toArray, List.set_cons_zero, List.set_cons_succ]
            refine wpAnyH_take (i := 8) (oi := { dst := some 29, op := Op.pick (Operand.tmp 22) (Operand.const (Value.bool true)) (Operand.tmp 28), type := 4, pos := "ref.go:155", after := #[{ on := 1, ground := Ground.data }, { on := 7, ground := Ground.data }], guard := none }) (v := ?_) rfl (by kernel_rfl) (by kernel_rfl) (by kernel_rfl) (fun _ _ _ h => h) (Or.inl ⟨by rfl, ?_⟩) hHeld ?_
            rotate_left
            · intro w hSw; (try dsimp only at hSw); go_simp; first | done | with_reducible rfl
            try simp only [Act.put, List.setIfInBounds_toArray, List.set_cons_zero, List.set_cons_succ]
            refine wpAnyH_take (i := 9) (oi := { dst := some 5, op := Op.assign (Operand.tmp 29), type := 4, pos := "ref.go:155", after := #[{ on := 8, ground := Ground.data }, { on := 7, ground := Ground.chain }, { on := 0, ground := Ground.phase }, { on := 1, ground := Ground.phase }, { on := 2, ground := Ground.phase }, { on := 3, ground := Ground.phase }, { on := 4, ground := Ground.phase }, { on := 5, ground := Ground.phase }, { on := 6, ground := Ground.phase }, { on := 7, ground := Ground.phase }, { on := 8, ground := Ground.phase }], guard := none }) (v := ?_) rfl (by kernel_rfl) (by kernel_rfl) (by kernel_rfl) (fun _ _ _ h => h) (Or.inl ⟨by rfl, ?_⟩) hHeld ?_
            rotate_left
            · intro w hSw; (try dsimp only at hSw); go_simp; first | done | with_reducible rfl
            try simp only [Act.put, List.setIfInBounds_toArray, List.set_cons_zero, List.set_cons_succ]
            refine wpAnyH_done (by kernel_rfl) ?_ _
            clear hHeld
            go_wp2_with fail
            go_roundw
            case rel => exact ⟨k + 1, true, by omega, by go_num, rfl, by rw [HAN.out]; rfl, HN2.out, HX5.out.below_b ((Below.refl wr1.heap.size wr1).drew), HB5.out.trans (((Below.refl wr1.heap.size wr1).drew).mono HB5.out.size)⟩
            case measure => simp [intOf]; omega
          | false =>
            go_wp2_with fail
            refine wp_region_held_drew (S := fun w' => Below wr1.heap.size wr1 w') (by kernel_rfl) ((Below.refl _ _).drew) (fun hHeld => ?_)
            refine wpAnyH_take (i := 0) (oi := { dst := some 21, op := Op.move (Operand.tmp 5), type := 4, pos := "ref.go:155", after := #[], guard := none }) (v := ?_) rfl (by kernel_rfl) (by kernel_rfl) (by kernel_rfl) (fun _ _ _ h => h) (Or.inl ⟨by rfl, ?_⟩) hHeld ?_
            rotate_left
            · intro w hSw; (try dsimp only at hSw); go_simp; first | done | with_reducible rfl
            try simp only [Act.put, List.setIfInBounds_toArray, List.set_cons_zero, List.set_cons_succ]
            refine wpAnyH_take (i := 1) (oi := { dst := some 22, op := Op.move (Operand.tmp 21), type := 4, pos := "ref.go:155", after := #[{ on := 0, ground := Ground.data }], guard := none }) (v := ?_) rfl (by kernel_rfl) (by kernel_rfl) (by kernel_rfl) (fun _ _ _ h => h) (Or.inl ⟨by rfl, ?_⟩) hHeld ?_
            rotate_left
            · intro w hSw; (try dsimp only at hSw); go_simp; first | done | with_reducible rfl
            try simp only [Act.put, List.setIfInBounds_toArray, List.set_cons_zero, List.set_cons_succ]
            refine wpAnyH_take (i := 2) (oi := { dst := some 23, op := Op.load 24 (Operand.tmp 2), type := 24, pos := "ref.go:155", after := #[{ on := 1, ground := Ground.guard }], guard := some (1, false) }) (v := ?_) rfl (by kernel_rfl) (by kernel_rfl) (by kernel_rfl) (fun _ _ _ h => h) (Or.inl ⟨by rfl, ?_⟩) hHeld ?_
            rotate_left
            · intro w hSw; (try dsimp only at hSw); have e0 := (hSw.cell (p := ⟨g, 0, none⟩) (HX5.out.lt)).trans (HX5.out.c0); have e1 := (hSw.cell (p := ⟨g, 1, none⟩) (HX5.out.lt)).trans (HX5.out.c1); have e2 := (hSw.cell (p := ⟨b1, o1 + k * 2, none⟩) L5.out).trans E0.out; have e3 := (hSw.cell (p := ⟨b1, o1 + k * 2 + 1, none⟩) L5.out).trans E1.out; go_simp; first | done | with_reducible rfl
            try simp only [Act.put, List.setIfInBounds_toArray, List.set_cons_zero, List.set_cons_succ]
            refine wpAnyH_take (i := 3) (oi := { dst := some 24, op := Op.move (Operand.tmp 1), type := 37, pos := "ref.go:155", after := #[{ on := 1, ground := Ground.guard }], guard := some (1, false) }) (v := ?_) rfl (by kernel_rfl) (by kernel_rfl) (by kernel_rfl) (fun _ _ _ h => h) (Or.inl ⟨by rfl, ?_⟩) hHeld ?_
            rotate_left
            · intro w hSw; (try dsimp only at hSw); go_simp; first | done | with_reducible rfl
            try simp only [Act.put, List.setIfInBounds_toArray, List.set_cons_zero, List.set_cons_succ]
            refine wpAnyH_take (i := 4) (oi := { dst := some 25, op := Op.move (Operand.tmp 6), type := 3, pos := "ref.go:155", after := #[{ on := 1, ground := Ground.guard }], guard := some (1, false) }) (v := ?_) rfl (by kernel_rfl) (by kernel_rfl) (by kernel_rfl) (fun _ _ _ h => h) (Or.inl ⟨by rfl, ?_⟩) hHeld ?_
            rotate_left
            · intro w hSw; (try dsimp only at hSw); go_simp; first | done | with_reducible rfl
            try simp only [Act.put, List.setIfInBounds_toArray, List.set_cons_zero, List.set_cons_succ]
            refine wpAnyH_take (i := 5) (oi := { dst := some 26, op := Op.indexAddr 37 (Operand.tmp 24) (Operand.tmp 25), type := 0, pos := "ref.go:155", after := #[{ on := 3, ground := Ground.data }, { on := 4, ground := Ground.data }, { on := 1, ground := Ground.guard }], guard := some (1, false) }) (v := ?_) rfl (by kernel_rfl) (by kernel_rfl) (by kernel_rfl) (fun _ _ _ h => h) (Or.inl ⟨by rfl, ?_⟩) hHeld ?_
            rotate_left
            · intro w hSw; (try dsimp only at hSw); have h := hlt'; go_simp; first | done | with_reducible rfl
            try simp only [Act.put, List.setIfInBounds_toArray, List.set_cons_zero, List.set_cons_succ]
            refine wpAnyH_take (i := 6) (oi := { dst := some 27, op := Op.load 24 (Operand.tmp 26), type := 24, pos := "ref.go:155", after := #[{ on := 5, ground := Ground.data }, { on := 1, ground := Ground.guard }], guard := some (1, false) }) (v := ?_) rfl (by kernel_rfl) (by kernel_rfl) (by kernel_rfl) (fun _ _ _ h => h) (Or.inl ⟨by rfl, ?_⟩) hHeld ?_
            rotate_left
            · intro w hSw; (try dsimp only at hSw); have e0 := (hSw.cell (p := ⟨g, 0, none⟩) (HX5.out.lt)).trans (HX5.out.c0); have e1 := (hSw.cell (p := ⟨g, 1, none⟩) (HX5.out.lt)).trans (HX5.out.c1); have e2 := (hSw.cell (p := ⟨b1, o1 + k * 2, none⟩) L5.out).trans E0.out; have e3 := (hSw.cell (p := ⟨b1, o1 + k * 2 + 1, none⟩) L5.out).trans E1.out; go_simp; first | done | with_reducible rfl
            try simp only [Act.put, List.setIfInBounds_toArray, List.set_cons_zero, List.set_cons_succ]
            refine wpAnyH_ready (rs := [7]) (by kernel_rfl) (by simp) ?_
            refine AllReadyH.cons (o := { dst := some 28, op := Op.call { callee := Callee.value (Operand.func 30), args := #[Operand.tmp 23, Operand.tmp 27], argTypes := #[24, 24] }, type := 4, pos := "ref.go:155", after := #[{ on := 2, ground := Ground.data }, { on := 6, ground := Ground.data }, { on := 1, ground := Ground.chain }, { on := 1, ground := Ground.guard }], guard := some (1, false) }) rfl (fun K hK => ?_) AllReadyH.nil
            clear hHeld
            go_simp
            refine (HCW.out _).mono ?_
            rintro e wr6 ⟨rfl, hB⟩
            have HR6 := hide (((Below.refl wr1.heap.size wr1).drew).trans (hB.mono ((Below.refl wr1.heap.size wr1).drew).size))
            clear hB
            refine hK.out _ _ (HR6.out) (fun hHeld => ?_)
            clear hK K
            try simp only [Act.put, List.setIfInBounds_toArray, List.set_cons_zero, List.set_cons_succ]
            refine wpAnyH_take (i := 8) (oi := { dst := some 29, op := Op.pick (Operand.tmp 22) (Operand.const (Value.bool true)) (Operand.tmp 28), type := 4, pos := "ref.go:155", after := #[{ on := 1, ground := Ground.data }, { on := 7, ground := Ground.data }], guard := none }) (v := ?_) rfl (by kernel_rfl) (by kernel_rfl) (by kernel_rfl) (fun _ _ _ h => h) (Or.inl ⟨by rfl, ?_⟩) hHeld ?_
            rotate_left
            · intro w hSw; (try dsimp only at hSw); go_simp; first | done | with_reducible rfl
            try simp only [Act.put, List.setIfInBounds_toArray, List.set_cons_zero, List.set_cons_succ]
            refine wpAnyH_take (i := 9) (oi := { dst := some 5, op := Op.assign (Operand.tmp 29), type := 4, pos := "ref.go:155", after := #[{ on := 8, ground := Ground.data }, { on := 7, ground := Ground.chain }, { on := 0, ground := Ground.phase }, { on := 1, ground := Ground.phase }, { on := 2, ground := Ground.phase }, { on := 3, ground := Ground.phase }, { on := 4, ground := Ground.phase }, { on := 5, ground := Ground.phase }, { on := 6, ground := Ground.phase }, { on := 7, ground := Ground.phase }, { on := 8, ground := Ground.phase }], guard := none }) (v := ?_) rfl (by kernel_rfl) (by kernel_rfl) (by kernel_rfl) (fun _ _ _ h => h) (Or.inl ⟨by rfl, ?_⟩) hHeld ?_
            rotate_left
            · intro w hSw; (try dsimp only at hSw); go_simp; first | done | with_reducible rfl
            try simp only [Act.put, List.setIfInBounds_toArray, List.set_cons_zero, List.set_cons_succ]
            refine wpAnyH_done (by kernel_rfl) ?_ _
            clear hHeld
            go_wp2_with fail
            go_roundw
            case rel => exact ⟨k + 1, cw, by omega, by go_num, rfl, by rw [HAN.out]; simp, HN2.out, HX5.out.below_b HR6.out, HB5.out.trans (HR6.out.mono HB5.out.size)⟩
            case measure => simp [intOf]; omega
      · have hlt' : ¬ (k : Int) < (n9 : Int) := by omega
        have htk : l.take k = l := List.take_of_length_le (by rw [HN.out]; omega)
        rw [htk] at hb hno
        have HXr := hide hX
        have HBr := hide hB
        clear hX hB htk hlt
        cases b with
        | false =>
          have HD : Hid (fu = false) := hide (HSN.out fun c hc => ⟨hno c hc, by
            have := List.any_eq_false.1 hb.symm c hc
            simpa using this⟩)
          clear hb hno
          go_wp2_with fail
          go_ret
          rw [HD.out]
          exact ⟨rfl, HBr.out⟩
        | true =>
          obtain ⟨c, hc, hcc⟩ := List.any_eq_true.1 hb.symm
          clear hb
          clear hc hcc hno
          have c0 := HXr.out.c0
          have c1 := HXr.out.c1
          go_upto_region 11 with fail
          clear c0 c1
          have HXl0 := hide (BoxAt.new wr x b2)
          have HXc0 := hide (HXr.out.below_b ((Below.refl wr.heap.size wr).alloc (Nat.le_refl _) (.cells #[.int .u32 (x : Nat), .int .i64 b2] 24)))
          have HBl0 := hide (HBr.out.alloc HBr.out.size (.cells #[.int .u32 (x : Nat), .int .i64 b2] 24))
          generalize wr.alloc (.cells #[.int .u32 (x : Nat), .int .i64 b2] 24) = W10 at *
          obtain ⟨gl, hgl⟩ : ∃ gl, wr.heap.size = gl := ⟨_, rfl⟩
          rw [hgl] at HXl0 ⊢
          clear hgl
          have HXl := hide HXl0.out
          have HXc := hide HXc0.out
          have HBl := hide HBl0.out
          clear HXl0 HXc0 HBl0
          go_cut [8] (fun s8 W => ∃ gh, s8 = .pointer (some ⟨gh, 0, none⟩) ∧ BoxAt W gl x b2 ∧ BoxAt W gh y2 b2 ∧ Below w.heap.size w W)
          case first =>
            refine wp_region_held_drew (S := fun w' => Below W10.heap.size W10 w') (by kernel_rfl) ((Below.refl _ _).drew) (fun hHeld => ?_)
            refine wpAnyH_take (i := 0) (oi := { dst := some 43, op := Op.load 24 (Operand.tmp 7), type := 24, pos := "ref.go:161", after := #[], guard := none }) (v := ?_) rfl (by kernel_rfl) (by kernel_rfl) (by kernel_rfl) (fun _ _ _ h => h) (Or.inl ⟨by rfl, ?_⟩) hHeld ?_
            rotate_left
            · intro w hSw; (try dsimp only at hSw); have e0 := (hSw.cell (p := ⟨gl, 0, none⟩) HXl.out.lt).trans HXl.out.c0; have e1 := (hSw.cell (p := ⟨gl, 1, none⟩) HXl.out.lt).trans HXl.out.c1; go_simp; first | done | with_reducible rfl
            try simp only [Act.put, List.setIfInBounds_toArray, List.set_cons_zero, List.set_cons_succ]
            refine wpAnyH_take (i := 3) (oi := { dst := some 46, op := Op.fieldAddr 24 (Operand.tmp 2) 1, type := 0, pos := "ref.go:161", after := #[], guard := none }) (v := ?_) rfl (by kernel_rfl) (by kernel_rfl) (by kernel_rfl) (fun _ _ _ h => h) (Or.inl ⟨by rfl, ?_⟩) hHeld ?_
            rotate_left
            · intro w hSw; (try dsimp only at hSw); go_simp; first | done | with_reducible rfl
            try simp only [Act.put, List.setIfInBounds_toArray, List.set_cons_zero, List.set_cons_succ]
            refine wpAnyH_take (i := 4) (oi := { dst := some 47, op := Op.load 3 (Operand.tmp 46), type := 3, pos := "ref.go:161", after := #[{ on := 3, ground := Ground.data }], guard := none }) (v := ?_) rfl (by kernel_rfl) (by kernel_rfl) (by kernel_rfl) (fun _ _ _ h => h) (Or.inl ⟨by rfl, ?_⟩) hHeld ?_
            rotate_left
            · intro w hSw; (try dsimp only at hSw); have e0 := (hSw.cell (p := ⟨g, 0, none⟩) HXc.out.lt).trans HXc.out.c0; have e1 := (hSw.cell (p := ⟨g, 1, none⟩) HXc.out.lt).trans HXc.out.c1; go_simp; first | done | with_reducible rfl
            try simp only [Act.put, List.setIfInBounds_toArray, List.set_cons_zero, List.set_cons_succ]
            refine wpAnyH_take (i := 5) (oi := { dst := some 48, op := Op.binOp BinOp.add 3 (Operand.tmp 47) (Operand.const (Value.int IntKind.i64 1)) 3, type := 3, pos := "ref.go:161", after := #[{ on := 4, ground := Ground.data }], guard := none }) (v := ?_) rfl (by kernel_rfl) (by kernel_rfl) (by kernel_rfl) (fun _ _ _ h => h) (Or.inl ⟨by rfl, ?_⟩) hHeld ?_
            rotate_left
            · intro w hSw; (try dsimp only at hSw); have h := hw1; go_simp; first | done | with_reducible rfl
            try simp only [Act.put, List.setIfInBounds_toArray, List.set_cons_zero, List.set_cons_succ]
            refine wpAnyH_ready (rs := [1, 7]) (by kernel_rfl) (by simp) ?_
            refine AllReadyH.cons (o := { dst := some 44, op := Op.call { callee := Callee.value (Operand.func 31), args := #[Operand.tmp 43], argTypes := #[24] }, type := 22, pos := "ref.go:161", after := #[{ on := 0, ground := Ground.data }], guard := none }) rfl (fun K hK => ?_) (AllReadyH.cons (o := { dst := some 8, op := Op.alloc 24, type := 0, pos := "ref.go:161", after := #[], guard := none }) rfl (fun K hK => ?_) AllReadyH.nil)
            · clear hHeld
              go_simp
              refine (HLST.out _).mono ?_
              rintro e w3 ⟨rfl, hB3⟩
              have HBj := hide (((Below.refl W10.heap.size W10).drew).trans hB3)
              clear hB3
              refine hK.out _ _ (HBj.out) (fun hHeld => ?_)
              clear hK K
              try simp only [Act.put, List.setIfInBounds_toArray, List.set_cons_zero, List.set_cons_succ]
              refine wpAnyH_take (i := 2) (oi := { dst := some 45, op := Op.binOp BinOp.add 22 (Operand.tmp 44) (Operand.const (Value.int IntKind.u32 1)) 22, type := 22, pos := "ref.go:161", after := #[{ on := 1, ground := Ground.data }], guard := none }) (v := ?_) rfl (by kernel_rfl) (by kernel_rfl) (by kernel_rfl) (fun _ _ _ h => h) (Or.inl ⟨by rfl, ?_⟩) hHeld ?_
              rotate_left
              · intro w hSw; (try dsimp only at hSw); have h := hw2; go_simp; first | done | with_reducible rfl
              try simp only [Act.put, List.setIfInBounds_toArray, List.set_cons_zero, List.set_cons_succ]
              refine wpAnyH_take (i := 6) (oi := { dst := some 49, op := Op.build 24 #[(0, Operand.tmp 45), (1, Operand.tmp 48)], type := 24, pos := "ref.go:161", after := #[{ on := 2, ground := Ground.data }, { on := 5, ground := Ground.data }], guard := none }) (v := ?_) rfl (by kernel_rfl) (by kernel_rfl) (by kernel_rfl) (fun _ _ _ h => h) (Or.inl ⟨by rfl, ?_⟩) hHeld ?_
              rotate_left
              · intro w hSw; (try dsimp only at hSw); go_simp; first | done | with_reducible rfl
              try simp only [Act.put, List.setIfInBounds_toArray, List.set_cons_zero, List.set_cons_succ]
              refine wpAnyH_ready (rs := [7]) (by kernel_rfl) (by simp) ?_
              refine AllReadyH.cons (o := { dst := some 8, op := Op.alloc 24, type := 0, pos := "ref.go:161", after := #[], guard := none }) rfl (fun K hK => ?_) AllReadyH.nil
              clear hHeld
              go_simp
              have HZ := hide (BoxAt.new w3 0 0)
              have HBz := hide (HBj.out.alloc HBj.out.size (.cells #[.int .u32 (0 : Nat), .int .i64 0] 24))
              refine hK.out _ _ (HBz.out) (fun hHeld => ?_)
              clear hK K
              try simp only [Act.put, List.setIfInBounds_toArray, List.set_cons_zero, List.set_cons_succ]
              have HGE : Hid (W10.heap.size ≤ w3.heap.size) := hide HBj.out.size
              obtain ⟨gw, hgw⟩ : ∃ gw, w3.heap.size = gw := ⟨_, rfl⟩
              rw [hgw] at HZ HGE ⊢
              clear hgw
              obtain ⟨Wz, hWz⟩ : ∃ Wz, (w3.alloc (.cells #[.int .u32 0, .int .i64 0] 24)) = Wz := ⟨_, rfl⟩
              have HZ := hide (show BoxAt Wz gw 0 0 by rw [← hWz]; exact HZ.out)
              have HBz := hide (show Below W10.heap.size W10 Wz by rw [← hWz]; exact HBz.out)
              rw [hWz] at hHeld ⊢
              clear hWz
              have d0 := HZ.out.c0
              have d1 := HZ.out.c1
              have f0 := HZ.out.frozen 0
              have f1 := HZ.out.frozen 1
              refine wpAnyH_ready (rs := [8]) (by kernel_rfl) (by simp) ?_
              refine AllReadyH.cons (o := { dst := none, op := Op.store 24 (Operand.tmp 8) (Operand.tmp 49), type := 0, pos := "ref.go:161", after := #[{ on := 7, ground := Ground.data }, { on := 6, ground := Ground.data }, { on := 1, ground := Ground.chain }, { on := 0, ground := Ground.phase }, { on := 1, ground := Ground.phase }, { on := 2, ground := Ground.phase }, { on := 3, ground := Ground.phase }, { on := 4, ground := Ground.phase }, { on := 5, ground := Ground.phase }, { on := 6, ground := Ground.phase }, { on := 7, ground := Ground.phase }], guard := none }) rfl (fun K hK => ?_) AllReadyH.nil
              clear hHeld
              go_simp
              have HZ2 := hide (HZ.out.st y2 b2)
              have HB5 := hide ((HBz.out.setCell (p := ⟨gw, 0, none⟩) HGE.out (.int .u32 (y2 : Int))).setCell (p := ⟨gw, 1, none⟩) HGE.out (.int .i64 b2))
              refine hK.out _ _ (HB5.out) (fun hHeld => ?_)
              clear hK K
              try simp only [Act.put]
              refine wpAnyH_done (by kernel_rfl) ?_ _
              clear hHeld d0 d1 f0 f1
              go_wp2_with fail
              go_meet
              case rel => exact ⟨_, rfl, HXl.out.below_b HB5.out, HZ2.out, HBl.out.trans (HB5.out.mono HBl.out.size)⟩
            · clear hHeld
              go_simp
              have HZ0 := hide (show BoxAt (W10.drew.alloc (.cells #[.int .u32 (0 : Nat), .int .i64 0] 24)) W10.heap.size 0 0 from BoxAt.new W10.drew 0 0)
              have HBa := hide (((Below.refl W10.heap.size W10).drew).alloc (Nat.le_refl _) (.cells #[.int .u32 (0 : Nat), .int .i64 0] 24))
              refine hK.out _ _ (HBa.out) (fun hHeld => ?_)
              clear hK K
              try simp only [Act.put, List.setIfInBounds_toArray, List.set_cons_zero, List.set_cons_succ]
              refine wpAnyH_ready (rs := [1]) (by kernel_rfl) (by simp) ?_
              refine AllReadyH.cons (o := { dst := some 44, op := Op.call { callee := Callee.value (Operand.func 31), args := #[Operand.tmp 43], argTypes := #[24] }, type := 22, pos := "ref.go:161", after := #[{ on := 0, ground := Ground.data }], guard := none }) rfl (fun K hK => ?_) AllReadyH.nil
              clear hHeld
              go_simp
              refine (HLST.out _).mono ?_
              rintro e w4 ⟨rfl, hB4⟩
              have HZ := hide (HZ0.out.next hB4)
              have HBz := hide (HBa.out.trans (hB4.mono HBa.out.size))
              clear hB4
              refine hK.out _ _ (HBz.out) (fun hHeld => ?_)
              clear hK K
              try simp only [Act.put, List.setIfInBounds_toArray, List.set_cons_zero, List.set_cons_succ]
              refine wpAnyH_take (i := 2) (oi := { dst := some 45, op := Op.binOp BinOp.add 22 (Operand.tmp 44) (Operand.const (Value.int IntKind.u32 1)) 22, type := 22, pos := "ref.go:161", after := #[{ on := 1, ground := Ground.data }], guard := none }) (v := ?_) rfl (by kernel_rfl) (by kernel_rfl) (by kernel_rfl) (fun _ _ _ h => h) (Or.inl ⟨by rfl, ?_⟩) hHeld ?_
              rotate_left
              · intro w hSw; (try dsimp only at hSw); have h := hw2; go_simp; first | done | with_reducible rfl
              try simp only [Act.put, List.setIfInBounds_toArray, List.set_cons_zero, List.set_cons_succ]
              refine wpAnyH_take (i := 6) (oi := { dst := some 49, op := Op.build 24 #[(0, Operand.tmp 45), (1, Operand.tmp 48)], type := 24, pos := "ref.go:161", after := #[{ on := 2, ground := Ground.data }, { on := 5, ground := Ground.data }], guard := none }) (v := ?_) rfl (by kernel_rfl) (by kernel_rfl) (by kernel_rfl) (fun _ _ _ h => h) (Or.inl ⟨by rfl, ?_⟩) hHeld ?_
              rotate_left
              · intro w hSw; (try dsimp only at hSw); go_simp; first | done | with_reducible rfl
              try simp only [Act.put, List.setIfInBounds_toArray, List.set_cons_zero, List.set_cons_succ]
              have HGE : Hid (W10.heap.size ≤ W10.heap.size) := hide (Nat.le_refl _)
              obtain ⟨Wz, hWz⟩ : ∃ Wz, w4 = Wz := ⟨_, rfl⟩
              have HZ := hide (show BoxAt Wz W10.heap.size 0 0 by rw [← hWz]; exact HZ.out)
              have HBz := hide (show Below W10.heap.size W10 Wz by rw [← hWz]; exact HBz.out)
              rw [hWz] at hHeld ⊢
              clear hWz
              have d0 := HZ.out.c0
              have d1 := HZ.out.c1
              have f0 := HZ.out.frozen 0
              have f1 := HZ.out.frozen 1
              refine wpAnyH_ready (rs := [8]) (by kernel_rfl) (by simp) ?_
              refine AllReadyH.cons (o := { dst := none, op := Op.store 24 (Operand.tmp 8) (Operand.tmp 49), type := 0, pos := "ref.go:161", after := #[{ on := 7, ground := Ground.data }, { on := 6, ground := Ground.data }, { on := 1, ground := Ground.chain }, { on := 0, ground := Ground.phase }, { on := 1, ground := Ground.phase }, { on := 2, ground := Ground.phase }, { on := 3, ground := Ground.phase }, { on := 4, ground := Ground.phase }, { on := 5, ground := Ground.phase }, { on := 6, ground := Ground.phase }, { on := 7, ground := Ground.phase }], guard := none }) rfl (fun K hK => ?_) AllReadyH.nil
              clear hHeld
              go_simp
              have HZ2 := hide (HZ.out.st y2 b2)
              have HB5 := hide ((HBz.out.setCell (p := ⟨W10.heap.size, 0, none⟩) HGE.out (.int .u32 (y2 : Int))).setCell (p := ⟨W10.heap.size, 1, none⟩) HGE.out (.int .i64 b2))
              refine hK.out _ _ (HB5.out) (fun hHeld => ?_)
              clear hK K
              try simp only [Act.put]
              refine wpAnyH_done (by kernel_rfl) ?_ _
              clear hHeld d0 d1 f0 f1
              go_wp2_with fail
              go_meet
              case rel => exact ⟨_, rfl, HXl.out.below_b HB5.out, HZ2.out, HBl.out.trans (HB5.out.mono HBl.out.size)⟩
          case rest =>
            obtain ⟨gh, rfl, hxl, hxh, hbw⟩ := hcut
            have HXL := hide hxl
            have HXH := hide hxh
            have HBW := hide hbw
            clear hxl hxh hbw
            have c0 := HXL.out.c0
            have c1 := HXL.out.c1
            go_wp2_with fail
            refine (HI1.out _ _ (HL.out.below HBW.out)).mono ?_
            rintro e w7 ⟨rfl, hB⟩
            have HXH7 := hide (HXH.out.below_b hB)
            have HB7 := hide (HBW.out.trans (hB.mono HBW.out.size))
            clear hB c0 c1
            cases fA with
            | false =>
              have hfu := HFU.out
              simp only [Bool.false_and] at hfu
              have HFF := hide hfu
              clear hfu
              go_wp2_with fail
              go_ret
              rw [HFF.out]
              exact ⟨rfl, HB7.out⟩
            | true =>
              have hfu := HFU.out
              simp only [Bool.true_and] at hfu
              have HFF := hide hfu
              clear hfu
              have c0 := HXH7.out.c0
              have c1 := HXH7.out.c1
              go_wp2_with fail
              refine (HI2.out _ _ (HL.out.below HB7.out)).mono ?_
              rintro e w8 ⟨rfl, hB⟩
              have HB8 := hide (HB7.out.trans (hB.mono HB7.out.size))
              clear hB c0 c1
              go_wp2_with fail
              go_ret
              rw [HFF.out]
              exact ⟨rfl, HB8.out⟩
end Go.Proofs.YtgikkjjnoakhdaaDoor
