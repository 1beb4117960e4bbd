/- The document's merge, Merge. -/
import Derived.Test.YtgikkjjnoakhdaaDoorAdWhole
namespace Go.Proofs.YtgikkjjnoakhdaaDoor
open Go.RowKit Go.Lib

theorem canon_len (S : Nat → Bool) : ∀ n x, (canon S n x).length ≤ 2 ^ n
  | 0, x => by
    rw [canon]
    split <;> simp
  | n + 1, x => by
    have h1 := canon_len S n x
    have h2 := canon_len S n (x + 2 ^ n)
    rw [canon, Nat.pow_succ]
    have := Nat.pow_pos (n := n) (show 0 < 2 by omega)
    split
    · simp; omega
    · rw [List.length_append]; omega
theorem canon_half (S : Nat → Bool) (n x : Nat) (h : full S (n + 1) x = false) : canon S (n + 1) x = canon S n x ++ canon S n (x + 2 ^ n) := by rw [canon, if_neg (by simp [h])]

/-- What merge answers. -/
def RMPost (w : World) (l : List Net) (e : Ending) (w' : World) : Prop := ∃ v, e = .returned v ∧ CRow w' w.heap.size v l ∧ Below w.heap.size w w'

set_option maxRecDepth 100000 in
set_option maxHeartbeats 4000000 in
theorem rmerge_any (l : List Net) (hf : ∀ c ∈ l, c.a < 4294967296) (hl : l.length ≤ 1000) : ∀ n : Nat, n ≤ 32 → ∀ x : Nat, 2 ^ n ∣ x → x + 2 ^ n ≤ 4294967296 → ∀ v w, CAt w v l →
    Calls Tryd.prog 49 #[.agg #[.int .u32 (x : Nat), .int .i64 (32 - (n : Int))], v] w (RMPost w (canon (allB l) n x)) := by
  intro n
  induction n with
  | zero =>
    intro hn x hx htop v w hC
    obtain ⟨n9, hn9⟩ : ∃ n9, l.length = n9 := ⟨_, rfl⟩
    obtain ⟨ao, cap, rfl⟩ := hC.len
    rw [hn9] at hC ⊢
    have HL := hide hC
    have HN := hide hn9
    have hn9l : n9 ≤ 1000 := by omega
    have hxlt : x < 4294967296 := by have := Nat.pow_pos (n := 0) (show 0 < 2 by omega); omega
    obtain ⟨bb, hbb⟩ : ∃ bb : Int, 32 - ((0 : Nat) : Int) = bb := ⟨_, rfl⟩
    have HCVF := hide (fun (c : Net) (hc : c ∈ l) (h : coversB c ⟨x, bb⟩ = true) => full_cov l hn c hc (by unfold downL; rw [hbb]; exact h))
    have HNO9 := hide (fun (h : ∀ c ∈ l, coversB c ⟨x, bb⟩ = false ∧ coversB ⟨x, bb⟩ c = false) => some_no l hn hx (by unfold downL; rw [hbb]; exact h))
    have HC1 := hide (fun (c : Net) (hc : c ∈ l) W => coversR_any c ⟨x, bb⟩ (hf c hc) hxlt W)
    have HC2 := hide (fun (c : Net) (hc : c ∈ l) W => coversR_any ⟨x, bb⟩ c hxlt (hf c hc) W)
    unfold Net.val at HC1 HC2
    dsimp only at HC1 HC2
    have HX0 := hide (BoxAt.new w x bb)
    have HB0 : Hid (Below w.heap.size w (w.alloc (.cells #[.int .u32 (x : Nat), .int .i64 bb] 24))) := hide ((Below.refl _ _).alloc (Nat.le_refl _) _)
    have HWH := hide (fun v W h => whole_any l hf hl 0 hn x hx htop v W h)
    have HCN := hide (fun h => canon_none (allB l) 0 x (HNO9.out h))
    have HCF := hide (fun h => canon_full (allB l) 0 x h)
    have H1 := hide (fun (c : Net) (hc : c ∈ l) (h : (coversB ⟨x, bb⟩ c || coversB c ⟨x, bb⟩) = true) => show full (allB l) 0 x = true by
      rw [Bool.or_eq_true] at h
      rcases h with h | h
      · have := cov_one (c := c) (x := x) (by unfold downL; rw [hbb]; exact h)
        exact full_cov l hn c hc this
      · exact HCVF.out c hc h)
    rw [hbb] at HWH HCF ⊢
    clear hbb hC hn9 hn hx htop hl hxlt HNO9
    generalize canon (allB l) 0 x = cn at *
    generalize full (allB l) 0 x = fu at *
    unfold RMPost
    go_enter Tryd.func49, Tryd.ntmps49
    go_wp2_with fail
    generalize w.alloc (.cells #[.int .u32 (x : Nat), .int .i64 bb] 24) = W1 at *
    obtain ⟨g, hg⟩ : ∃ g, w.heap.size = g := ⟨_, rfl⟩
    rw [hg] at HX0 ⊢
    have HG0 := hide hg
    clear hg
    go_loopw [5, 6] (fun s i wr => ∃ (k : Nat) (b : Bool), k ≤ n9 ∧ i = .int .i64 k ∧ s = .bool b ∧ b = (l.take k).any (fun c => coversB ⟨x, bb⟩ c || coversB c ⟨x, bb⟩) ∧ BoxAt wr g x bb ∧ Below w.heap.size w wr) (fun _ i _ => n9 - (intOf i).toNat)
    case atStart => exact ⟨0, false, Nat.zero_le _, rfl, rfl, by simp, HX0.out, HB0.out⟩
    case round =>
      obtain ⟨k, b, hk, rfl, rfl, hb, hX, hB⟩ := hrel
      by_cases hlt : k < n9
      · have hlt' : (k : Int) < (n9 : Int) := by omega
        obtain ⟨b1, o1, h1, hb1, hc0, hc1⟩ := HL.out.at (k := k) hlt
        subst h1
        have hkl : k < l.length := by rw [HN.out]; exact hlt
        have hmem := mem_getD l k hkl
        have HCV := hide (HC1.out _ hmem)
        have HCW := hide (HC2.out _ hmem)
        have hany := any_next l k hkl (fun c => coversB ⟨x, bb⟩ c || coversB c ⟨x, bb⟩)
        have htk : ∀ c ∈ l.take (k + 1), c ∈ l.take k ∨ c = l.getD k default := fun c hc => mem_next l k hkl hc
        have hcov := HCVF.out _ hmem
        rw [← hb] at hany
        generalize l.getD k default = e at *
        obtain ⟨ea, eb⟩ := e
        dsimp only at HCV HCW hc0 hc1 hany
        have C0 := hide ((hB.cell (p := ⟨b1, o1 + k * 2, none⟩) hb1).trans hc0)
        have C1 := hide ((hB.cell (p := ⟨b1, o1 + k * 2 + 1, none⟩) hb1).trans hc1)
        have L1 := hide (Nat.lt_of_lt_of_le hb1 hB.size)
        have HXr := hide hX
        have HBr := hide hB
        have HAN := hide hany
        have HTK := hide htk
        clear hb hX hB hany htk hc0 hc1 hb1 hkl hmem hlt hcov HTK
        generalize coversB ⟨ea, eb⟩ ⟨x, bb⟩ = cv at *
        generalize coversB ⟨x, bb⟩ ⟨ea, eb⟩ = cw at *
        cases b with
        | true =>
          go_wp2_with fail
          refine wp_region_held_drew (S := fun w' => Below wr.heap.size wr w') (by kernel_rfl) ((Below.refl _ _).drew) (fun hHeld => ?_)
          refine wpAnyH_take (i := 0) (oi := { dst := some 15, op := Op.move (Operand.tmp 5), type := 4, pos := "ref.go:169", after := #[], guard := none }) (v := ?_) rfl (by kernel_rfl) (by kernel_rfl) (by kernel_rfl) (fun _ _ _ h => h) (Or.inl ⟨by rfl, ?_⟩) hHeld ?_
          rotate_left
          · intro w hSw; (try dsimp only at hSw); go_simp; first | done | with_reducible rfl
          try simp only [Act.put, List.setIfInBounds_toArray, List.set_cons_zero, List.set_cons_succ]
          refine wpAnyH_take (i := 1) (oi := { dst := some 16, op := Op.move (Operand.tmp 15), type := 4, pos := "ref.go:169", after := #[{ on := 0, ground := Ground.data }], guard := none }) (v := ?_) rfl (by kernel_rfl) (by kernel_rfl) (by kernel_rfl) (fun _ _ _ h => h) (Or.inl ⟨by rfl, ?_⟩) hHeld ?_
          rotate_left
          · intro w hSw; (try dsimp only at hSw); go_simp; first | done | with_reducible rfl
          try simp only [Act.put, List.setIfInBounds_toArray, List.set_cons_zero, List.set_cons_succ]
          refine wpAnyH_take (i := 2) (oi := { dst := some 17, op := Op.load 24 (Operand.tmp 2), type := 24, pos := "ref.go:169", after := #[{ on := 1, ground := Ground.guard }], guard := some (1, false) }) (v := undef) rfl (by kernel_rfl) (by kernel_rfl) (by kernel_rfl) (fun _ _ _ h => h) (Or.inr ⟨by rfl, rfl⟩) hHeld ?_
          try simp only [Act.put, List.setIfInBounds_toArray, List.set_cons_zero, List.set_cons_succ]
          refine wpAnyH_take (i := 3) (oi := { dst := some 18, op := Op.move (Operand.tmp 1), type := 37, pos := "ref.go:169", after := #[{ on := 1, ground := Ground.guard }], guard := some (1, false) }) (v := undef) rfl (by kernel_rfl) (by kernel_rfl) (by kernel_rfl) (fun _ _ _ h => h) (Or.inr ⟨by rfl, rfl⟩) hHeld ?_
          try simp only [Act.put, List.setIfInBounds_toArray, List.set_cons_zero, List.set_cons_succ]
          refine wpAnyH_take (i := 4) (oi := { dst := some 19, op := Op.move (Operand.tmp 6), type := 3, pos := "ref.go:169", after := #[{ on := 1, ground := Ground.guard }], guard := some (1, false) }) (v := undef) rfl (by kernel_rfl) (by kernel_rfl) (by kernel_rfl) (fun _ _ _ h => h) (Or.inr ⟨by rfl, rfl⟩) hHeld ?_
          try simp only [Act.put, List.setIfInBounds_toArray, List.set_cons_zero, List.set_cons_succ]
          refine wpAnyH_take (i := 5) (oi := { dst := some 20, op := Op.indexAddr 37 (Operand.tmp 18) (Operand.tmp 19), type := 0, pos := "ref.go:169", after := #[{ on := 3, ground := Ground.data }, { on := 4, ground := Ground.data }, { on := 1, ground := Ground.guard }], guard := some (1, false) }) (v := undef) rfl (by kernel_rfl) (by kernel_rfl) (by kernel_rfl) (fun _ _ _ h => h) (Or.inr ⟨by rfl, rfl⟩) hHeld ?_
          try simp only [Act.put, List.setIfInBounds_toArray, List.set_cons_zero, List.set_cons_succ]
          refine wpAnyH_take (i := 6) (oi := { dst := some 21, op := Op.load 24 (Operand.tmp 20), type := 24, pos := "ref.go:169", after := #[{ on := 5, ground := Ground.data }, { on := 1, ground := Ground.guard }], guard := some (1, false) }) (v := undef) rfl (by kernel_rfl) (by kernel_rfl) (by kernel_rfl) (fun _ _ _ h => h) (Or.inr ⟨by rfl, rfl⟩) hHeld ?_
          try simp only [Act.put, List.setIfInBounds_toArray, List.set_cons_zero, List.set_cons_succ]
          refine wpAnyH_take (i := 7) (oi := { dst := some 22, op := Op.call { callee := Callee.value (Operand.func 30), args := #[Operand.tmp 17, Operand.tmp 21], argTypes := #[24, 24] }, type := 4, pos := "ref.go:169", after := #[{ on := 2, ground := Ground.data }, { on := 6, ground := Ground.data }, { on := 1, ground := Ground.chain }, { on := 1, ground := Ground.guard }], guard := some (1, false) }) (v := undef) rfl (by kernel_rfl) (by kernel_rfl) (by kernel_rfl) (fun _ _ _ h => h) (Or.inr ⟨by rfl, rfl⟩) hHeld ?_
          try simp only [Act.put, List.setIfInBounds_toArray, List.set_cons_zero, List.set_cons_succ]
          refine wpAnyH_take (i := 8) (oi := { dst := some 23, op := Op.pick (Operand.tmp 16) (Operand.const (Value.bool true)) (Operand.tmp 22), type := 4, pos := "ref.go:169", after := #[{ on := 1, ground := Ground.data }, { on := 7, ground := Ground.data }], guard := none }) (v := ?_) rfl (by kernel_rfl) (by kernel_rfl) (by kernel_rfl) (fun _ _ _ h => h) (Or.inl ⟨by rfl, ?_⟩) hHeld ?_
          rotate_left
          · intro w hSw; (try dsimp only at hSw); go_simp; first | done | with_reducible rfl
          try simp only [Act.put, List.setIfInBounds_toArray, List.set_cons_zero, List.set_cons_succ]
          refine wpAnyH_take (i := 9) (oi := { dst := some 24, op := Op.move (Operand.tmp 23), type := 4, pos := "ref.go:169", after := #[{ on := 8, ground := Ground.data }, { on := 7, ground := Ground.chain }], guard := none }) (v := ?_) rfl (by kernel_rfl) (by kernel_rfl) (by kernel_rfl) (fun _ _ _ h => h) (Or.inl ⟨by rfl, ?_⟩) hHeld ?_
          rotate_left
          · intro w hSw; (try dsimp only at hSw); go_simp; first | done | with_reducible rfl
          try simp only [Act.put, List.setIfInBounds_toArray, List.set_cons_zero, List.set_cons_succ]
          refine wpAnyH_take (i := 10) (oi := { dst := some 25, op := Op.move (Operand.tmp 1), type := 37, pos := "ref.go:169", after := #[{ on := 9, ground := Ground.guard }], guard := some (9, false) }) (v := undef) rfl (by kernel_rfl) (by kernel_rfl) (by kernel_rfl) (fun _ _ _ h => h) (Or.inr ⟨by rfl, rfl⟩) hHeld ?_
          try simp only [Act.put, List.setIfInBounds_toArray, List.set_cons_zero, List.set_cons_succ]
          refine wpAnyH_take (i := 11) (oi := { dst := some 26, op := Op.move (Operand.tmp 6), type := 3, pos := "ref.go:169", after := #[{ on := 9, ground := Ground.guard }], guard := some (9, false) }) (v := undef) rfl (by kernel_rfl) (by kernel_rfl) (by kernel_rfl) (fun _ _ _ h => h) (Or.inr ⟨by rfl, rfl⟩) hHeld ?_
          try simp only [Act.put, List.setIfInBounds_toArray, List.set_cons_zero, List.set_cons_succ]
          refine wpAnyH_take (i := 12) (oi := { dst := some 27, op := Op.indexAddr 37 (Operand.tmp 25) (Operand.tmp 26), type := 0, pos := "ref.go:169", after := #[{ on := 10, ground := Ground.data }, { on := 11, ground := Ground.data }, { on := 9, ground := Ground.guard }], guard := some (9, false) }) (v := undef) rfl (by kernel_rfl) (by kernel_rfl) (by kernel_rfl) (fun _ _ _ h => h) (Or.inr ⟨by rfl, rfl⟩) hHeld ?_
          try simp only [Act.put, List.setIfInBounds_toArray, List.set_cons_zero, List.set_cons_succ]
          refine wpAnyH_take (i := 13) (oi := { dst := some 28, op := Op.load 24 (Operand.tmp 27), type := 24, pos := "ref.go:169", after := #[{ on := 12, ground := Ground.data }, { on := 9, ground := Ground.guard }], guard := some (9, false) }) (v := undef) rfl (by kernel_rfl) (by kernel_rfl) (by kernel_rfl) (fun _ _ _ h => h) (Or.inr ⟨by rfl, rfl⟩) hHeld ?_
          try simp only [Act.put, List.setIfInBounds_toArray, List.set_cons_zero, List.set_cons_succ]
          refine wpAnyH_take (i := 14) (oi := { dst := some 29, op := Op.load 24 (Operand.tmp 2), type := 24, pos := "ref.go:169", after := #[{ on := 9, ground := Ground.guard }], guard := some (9, false) }) (v := undef) rfl (by kernel_rfl) (by kernel_rfl) (by kernel_rfl) (fun _ _ _ h => h) (Or.inr ⟨by rfl, rfl⟩) hHeld ?_
          try simp only [Act.put, List.setIfInBounds_toArray, List.set_cons_zero, List.set_cons_succ]
          refine wpAnyH_take (i := 15) (oi := { dst := some 30, op := Op.call { callee := Callee.value (Operand.func 30), args := #[Operand.tmp 28, Operand.tmp 29], argTypes := #[24, 24] }, type := 4, pos := "ref.go:169", after := #[{ on := 13, ground := Ground.data }, { on := 14, ground := Ground.data }, { on := 9, ground := Ground.chain }, { on := 9, ground := Ground.guard }], guard := some (9, false) }) (v := undef) rfl (by kernel_rfl) (by kernel_rfl) (by kernel_rfl) (fun _ _ _ h => h) (Or.inr ⟨by rfl, rfl⟩) hHeld ?_
          try simp only [Act.put, List.setIfInBounds_toArray, List.set_cons_zero, List.set_cons_succ]
          refine wpAnyH_take (i := 16) (oi := { dst := some 31, op := Op.pick (Operand.tmp 24) (Operand.const (Value.bool true)) (Operand.tmp 30), type := 4, pos := "ref.go:169", after := #[{ on := 9, ground := Ground.data }, { on := 15, ground := Ground.data }], guard := none }) (v := ?_) rfl (by kernel_rfl) (by kernel_rfl) (by kernel_rfl) (fun _ _ _ h => h) (Or.inl ⟨by rfl, ?_⟩) hHeld ?_
          rotate_left
          · intro w hSw; (try dsimp only at hSw); go_simp; first | done | with_reducible rfl
          try simp only [Act.put, List.setIfInBounds_toArray, List.set_cons_zero, List.set_cons_succ]
          refine wpAnyH_take (i := 17) (oi := { dst := some 5, op := Op.assign (Operand.tmp 31), type := 4, pos := "ref.go:169", after := #[{ on := 16, ground := Ground.data }, { on := 15, ground := Ground.chain }, { on := 0, ground := Ground.phase }, { on := 1, ground := Ground.phase }, { on := 2, ground := Ground.phase }, { on := 3, ground := Ground.phase }, { on := 4, ground := Ground.phase }, { on := 5, ground := Ground.phase }, { on := 6, ground := Ground.phase }, { on := 7, ground := Ground.phase }, { on := 8, ground := Ground.phase }, { on := 9, ground := Ground.phase }, { on := 10, ground := Ground.phase }, { on := 11, ground := Ground.phase }, { on := 12, ground := Ground.phase }, { on := 13, ground := Ground.phase }, { on := 14, ground := Ground.phase }, { on := 15, ground := Ground.phase }, { on := 16, ground := Ground.phase }], guard := none }) (v := ?_) rfl (by kernel_rfl) (by kernel_rfl) (by kernel_rfl) (fun _ _ _ h => h) (Or.inl ⟨by rfl, ?_⟩) hHeld ?_
          rotate_left
          · intro w hSw; (try dsimp only at hSw); go_simp; first | done | with_reducible rfl
          try simp only [Act.put, List.setIfInBounds_toArray, List.set_cons_zero, List.set_cons_succ]
          refine wpAnyH_done (by kernel_rfl) ?_ _
          clear hHeld
          go_wp2_with fail
          go_roundw
          case rel => exact ⟨k + 1, true, by omega, by go_num, rfl, by rw [HAN.out]; simp, HXr.out.below_b ((Below.refl wr.heap.size wr).drew), HBr.out.trans (((Below.refl wr.heap.size wr).drew).mono HBr.out.size)⟩
          case measure => simp [intOf]; omega
        | false =>
          cases cw with
          | true =>
            go_wp2_with fail
            refine wp_region_held_drew (S := fun w' => Below wr.heap.size wr w') (by kernel_rfl) ((Below.refl _ _).drew) (fun hHeld => ?_)
            refine wpAnyH_take (i := 0) (oi := { dst := some 15, op := Op.move (Operand.tmp 5), type := 4, pos := "ref.go:169", after := #[], guard := none }) (v := ?_) rfl (by kernel_rfl) (by kernel_rfl) (by kernel_rfl) (fun _ _ _ h => h) (Or.inl ⟨by rfl, ?_⟩) hHeld ?_
            rotate_left
            · intro w hSw; (try dsimp only at hSw); go_simp; first | done | with_reducible rfl
            try simp only [Act.put, List.setIfInBounds_toArray, List.set_cons_zero, List.set_cons_succ]
            refine wpAnyH_take (i := 1) (oi := { dst := some 16, op := Op.move (Operand.tmp 15), type := 4, pos := "ref.go:169", after := #[{ on := 0, ground := Ground.data }], guard := none }) (v := ?_) rfl (by kernel_rfl) (by kernel_rfl) (by kernel_rfl) (fun _ _ _ h => h) (Or.inl ⟨by rfl, ?_⟩) hHeld ?_
            rotate_left
            · intro w hSw; (try dsimp only at hSw); go_simp; first | done | with_reducible rfl
            try simp only [Act.put, List.setIfInBounds_toArray, List.set_cons_zero, List.set_cons_succ]
            refine wpAnyH_take (i := 2) (oi := { dst := some 17, op := Op.load 24 (Operand.tmp 2), type := 24, pos := "ref.go:169", after := #[{ on := 1, ground := Ground.guard }], guard := some (1, false) }) (v := ?_) rfl (by kernel_rfl) (by kernel_rfl) (by kernel_rfl) (fun _ _ _ h => h) (Or.inl ⟨by rfl, ?_⟩) hHeld ?_
            rotate_left
            · intro w hSw; (try dsimp only at hSw); have e0 := (hSw.cell (p := ⟨g, 0, none⟩) (HXr.out.lt)).trans (HXr.out.c0); have e1 := (hSw.cell (p := ⟨g, 1, none⟩) (HXr.out.lt)).trans (HXr.out.c1); have e2 := (hSw.cell (p := ⟨b1, o1 + k * 2, none⟩) L1.out).trans C0.out; have e3 := (hSw.cell (p := ⟨b1, o1 + k * 2 + 1, none⟩) L1.out).trans C1.out; go_simp; first | done | with_reducible rfl
            try simp only [Act.put, List.setIfInBounds_toArray, List.set_cons_zero, List.set_cons_succ]
            refine wpAnyH_take (i := 3) (oi := { dst := some 18, op := Op.move (Operand.tmp 1), type := 37, pos := "ref.go:169", after := #[{ on := 1, ground := Ground.guard }], guard := some (1, false) }) (v := ?_) rfl (by kernel_rfl) (by kernel_rfl) (by kernel_rfl) (fun _ _ _ h => h) (Or.inl ⟨by rfl, ?_⟩) hHeld ?_
            rotate_left
            · intro w hSw; (try dsimp only at hSw); go_simp; first | done | with_reducible rfl
            try simp only [Act.put, List.setIfInBounds_toArray, List.set_cons_zero, List.set_cons_succ]
            refine wpAnyH_take (i := 4) (oi := { dst := some 19, op := Op.move (Operand.tmp 6), type := 3, pos := "ref.go:169", after := #[{ on := 1, ground := Ground.guard }], guard := some (1, false) }) (v := ?_) rfl (by kernel_rfl) (by kernel_rfl) (by kernel_rfl) (fun _ _ _ h => h) (Or.inl ⟨by rfl, ?_⟩) hHeld ?_
            rotate_left
            · intro w hSw; (try dsimp only at hSw); go_simp; first | done | with_reducible rfl
            try simp only [Act.put, List.setIfInBounds_toArray, List.set_cons_zero, List.set_cons_succ]
            refine wpAnyH_take (i := 5) (oi := { dst := some 20, op := Op.indexAddr 37 (Operand.tmp 18) (Operand.tmp 19), type := 0, pos := "ref.go:169", after := #[{ on := 3, ground := Ground.data }, { on := 4, ground := Ground.data }, { on := 1, ground := Ground.guard }], guard := some (1, false) }) (v := ?_) rfl (by kernel_rfl) (by kernel_rfl) (by kernel_rfl) (fun _ _ _ h => h) (Or.inl ⟨by rfl, ?_⟩) hHeld ?_
            rotate_left
            · intro w hSw; (try dsimp only at hSw); have h := hlt'; go_simp; first | done | with_reducible rfl
            try simp only [Act.put, List.setIfInBounds_toArray, List.set_cons_zero, List.set_cons_succ]
            refine wpAnyH_take (i := 6) (oi := { dst := some 21, op := Op.load 24 (Operand.tmp 20), type := 24, pos := "ref.go:169", after := #[{ on := 5, ground := Ground.data }, { on := 1, ground := Ground.guard }], guard := some (1, false) }) (v := ?_) rfl (by kernel_rfl) (by kernel_rfl) (by kernel_rfl) (fun _ _ _ h => h) (Or.inl ⟨by rfl, ?_⟩) hHeld ?_
            rotate_left
            · intro w hSw; (try dsimp only at hSw); have e0 := (hSw.cell (p := ⟨g, 0, none⟩) (HXr.out.lt)).trans (HXr.out.c0); have e1 := (hSw.cell (p := ⟨g, 1, none⟩) (HXr.out.lt)).trans (HXr.out.c1); have e2 := (hSw.cell (p := ⟨b1, o1 + k * 2, none⟩) L1.out).trans C0.out; have e3 := (hSw.cell (p := ⟨b1, o1 + k * 2 + 1, none⟩) L1.out).trans C1.out; go_simp; first | done | with_reducible rfl
            try simp only [Act.put, List.setIfInBounds_toArray, List.set_cons_zero, List.set_cons_succ]
            refine wpAnyH_ready (rs := [7]) (by kernel_rfl) (by simp) ?_
            refine AllReadyH.cons (o := { dst := some 22, op := Op.call { callee := Callee.value (Operand.func 30), args := #[Operand.tmp 17, Operand.tmp 21], argTypes := #[24, 24] }, type := 4, pos := "ref.go:169", after := #[{ on := 2, ground := Ground.data }, { on := 6, ground := Ground.data }, { on := 1, ground := Ground.chain }, { on := 1, ground := Ground.guard }], guard := some (1, false) }) rfl (fun K hK => ?_) AllReadyH.nil
            clear hHeld
            go_simp
            refine (HCW.out _).mono ?_
            rintro e wr1 ⟨rfl, hB⟩
            have HR1 := hide (((Below.refl wr.heap.size wr).drew).trans (hB.mono ((Below.refl wr.heap.size wr).drew).size))
            clear hB
            refine hK.out _ _ (HR1.out) (fun hHeld => ?_)
            clear hK K
            try simp only [Act.put, List.setIfInBounds_toArray, List.set_cons_zero, List.set_cons_succ]
            refine wpAnyH_take (i := 8) (oi := { dst := some 23, op := Op.pick (Operand.tmp 16) (Operand.const (Value.bool true)) (Operand.tmp 22), type := 4, pos := "ref.go:169", after := #[{ on := 1, ground := Ground.data }, { on := 7, ground := Ground.data }], guard := none }) (v := ?_) rfl (by kernel_rfl) (by kernel_rfl) (by kernel_rfl) (fun _ _ _ h => h) (Or.inl ⟨by rfl, ?_⟩) hHeld ?_
            rotate_left
            · intro w hSw; (try dsimp only at hSw); go_simp; first | done | with_reducible rfl
            try simp only [Act.put, List.setIfInBounds_toArray, List.set_cons_zero, List.set_cons_succ]
            refine wpAnyH_take (i := 9) (oi := { dst := some 24, op := Op.move (Operand.tmp 23), type := 4, pos := "ref.go:169", after := #[{ on := 8, ground := Ground.data }, { on := 7, ground := Ground.chain }], guard := none }) (v := ?_) rfl (by kernel_rfl) (by kernel_rfl) (by kernel_rfl) (fun _ _ _ h => h) (Or.inl ⟨by rfl, ?_⟩) hHeld ?_
            rotate_left
            · intro w hSw; (try dsimp only at hSw); go_simp; first | done | with_reducible rfl
            try simp only [Act.put, List.setIfInBounds_toArray, List.set_cons_zero, List.set_cons_succ]
            refine wpAnyH_take (i := 10) (oi := { dst := some 25, op := Op.move (Operand.tmp 1), type := 37, pos := "ref.go:169", after := #[{ on := 9, ground := Ground.guard }], guard := some (9, false) }) (v := undef) rfl (by kernel_rfl) (by kernel_rfl) (by kernel_rfl) (fun _ _ _ h => h) (Or.inr ⟨by rfl, rfl⟩) hHeld ?_
            try simp only [Act.put, List.setIfInBounds_toArray, List.set_cons_zero, List.set_cons_succ]
            refine wpAnyH_take (i := 11) (oi := { dst := some 26, op := Op.move (Operand.tmp 6), type := 3, pos := "ref.go:169", after := #[{ on := 9, ground := Ground.guard }], guard := some (9, false) }) (v := undef) rfl (by kernel_rfl) (by kernel_rfl) (by kernel_rfl) (fun _ _ _ h => h) (Or.inr ⟨by rfl, rfl⟩) hHeld ?_
            try simp only [Act.put, List.setIfInBounds_toArray, List.set_cons_zero, List.set_cons_succ]
            refine wpAnyH_take (i := 12) (oi := { dst := some 27, op := Op.indexAddr 37 (Operand.tmp 25) (Operand.tmp 26), type := 0, pos := "ref.go:169", after := #[{ on := 10, ground := Ground.data }, { on := 11, ground := Ground.data }, { on := 9, ground := Ground.guard }], guard := some (9, false) }) (v := undef) rfl (by kernel_rfl) (by kernel_rfl) (by kernel_rfl) (fun _ _ _ h => h) (Or.inr ⟨by rfl, rfl⟩) hHeld ?_
            try simp only [Act.put, List.setIfInBounds_toArray, List.set_cons_zero, List.set_cons_succ]
            refine wpAnyH_take (i := 13) (oi := { dst := some 28, op := Op.load 24 (Operand.tmp 27), type := 24, pos := "ref.go:169", after := #[{ on := 12, ground := Ground.data }, { on := 9, ground := Ground.guard }], guard := some (9, false) }) (v := undef) rfl (by kernel_rfl) (by kernel_rfl) (by kernel_rfl) (fun _ _ _ h => h) (Or.inr ⟨by rfl, rfl⟩) hHeld ?_
            try simp only [Act.put, List.setIfInBounds_toArray, List.set_cons_zero, List.set_cons_succ]
            refine wpAnyH_take (i := 14) (oi := { dst := some 29, op := Op.load 24 (Operand.tmp 2), type := 24, pos := "ref.go:169", after := #[{ on := 9, ground := Ground.guard }], guard := some (9, false) }) (v := undef) rfl (by kernel_rfl) (by kernel_rfl) (by kernel_rfl) (fun _ _ _ h => h) (Or.inr ⟨by rfl, rfl⟩) hHeld ?_
            try simp only [Act.put, List.setIfInBounds_toArray, List.set_cons_zero, List.set_cons_succ]
            refine wpAnyH_take (i := 15) (oi := { dst := some 30, op := Op.call { callee := Callee.value (Operand.func 30), args := #[Operand.tmp 28, Operand.tmp 29], argTypes := #[24, 24] }, type := 4, pos := "ref.go:169", after := #[{ on := 13, ground := Ground.data }, { on := 14, ground := Ground.data }, { on := 9, ground := Ground.chain }, { on := 9, ground := Ground.guard }], guard := some (9, false) }) (v := undef) rfl (by kernel_rfl) (by kernel_rfl) (by kernel_rfl) (fun _ _ _ h => h) (Or.inr ⟨by rfl, rfl⟩) hHeld ?_
            try simp only [Act.put, List.setIfInBounds_toArray, List.set_cons_zero, List.set_cons_succ]
            refine wpAnyH_take (i := 16) (oi := { dst := some 31, op := Op.pick (Operand.tmp 24) (Operand.const (Value.bool true)) (Operand.tmp 30), type := 4, pos := "ref.go:169", after := #[{ on := 9, ground := Ground.data }, { on := 15, ground := Ground.data }], guard := none }) (v := ?_) rfl (by kernel_rfl) (by kernel_rfl) (by kernel_rfl) (fun _ _ _ h => h) (Or.inl ⟨by rfl, ?_⟩) hHeld ?_
            rotate_left
            · intro w hSw; (try dsimp only at hSw); go_simp; first | done | with_reducible rfl
            try simp only [Act.put, List.setIfInBounds_toArray, List.set_cons_zero, List.set_cons_succ]
            refine wpAnyH_take (i := 17) (oi := { dst := some 5, op := Op.assign (Operand.tmp 31), type := 4, pos := "ref.go:169", after := #[{ on := 16, ground := Ground.data }, { on := 15, ground := Ground.chain }, { on := 0, ground := Ground.phase }, { on := 1, ground := Ground.phase }, { on := 2, ground := Ground.phase }, { on := 3, ground := Ground.phase }, { on := 4, ground := Ground.phase }, { on := 5, ground := Ground.phase }, { on := 6, ground := Ground.phase }, { on := 7, ground := Ground.phase }, { on := 8, ground := Ground.phase }, { on := 9, ground := Ground.phase }, { on := 10, ground := Ground.phase }, { on := 11, ground := Ground.phase }, { on := 12, ground := Ground.phase }, { on := 13, ground := Ground.phase }, { on := 14, ground := Ground.phase }, { on := 15, ground := Ground.phase }, { on := 16, ground := Ground.phase }], guard := none }) (v := ?_) rfl (by kernel_rfl) (by kernel_rfl) (by kernel_rfl) (fun _ _ _ h => h) (Or.inl ⟨by rfl, ?_⟩) hHeld ?_
            rotate_left
            · intro w hSw; (try dsimp only at hSw); go_simp; first | done | with_reducible rfl
            try simp only [Act.put, List.setIfInBounds_toArray, List.set_cons_zero, List.set_cons_succ]
            refine wpAnyH_done (by kernel_rfl) ?_ _
            clear hHeld
            go_wp2_with fail
            go_roundw
            case rel => exact ⟨k + 1, true, by omega, by go_num, rfl, by rw [HAN.out]; simp, HXr.out.below_b HR1.out, HBr.out.trans (HR1.out.mono HBr.out.size)⟩
            case measure => simp [intOf]; omega
          | false =>
            go_wp2_with fail
            refine wp_region_held_drew (S := fun w' => Below wr.heap.size wr w') (by kernel_rfl) ((Below.refl _ _).drew) (fun hHeld => ?_)
            refine wpAnyH_take (i := 0) (oi := { dst := some 15, op := Op.move (Operand.tmp 5), type := 4, pos := "ref.go:169", after := #[], guard := none }) (v := ?_) rfl (by kernel_rfl) (by kernel_rfl) (by kernel_rfl) (fun _ _ _ h => h) (Or.inl ⟨by rfl, ?_⟩) hHeld ?_
            rotate_left
            · intro w hSw; (try dsimp only at hSw); go_simp; first | done | with_reducible rfl
            try simp only [Act.put, List.setIfInBounds_toArray, List.set_cons_zero, List.set_cons_succ]
            refine wpAnyH_take (i := 1) (oi := { dst := some 16, op := Op.move (Operand.tmp 15), type := 4, pos := "ref.go:169", after := #[{ on := 0, ground := Ground.data }], guard := none }) (v := ?_) rfl (by kernel_rfl) (by kernel_rfl) (by kernel_rfl) (fun _ _ _ h => h) (Or.inl ⟨by rfl, ?_⟩) hHeld ?_
            rotate_left
            · intro w hSw; (try dsimp only at hSw); go_simp; first | done | with_reducible rfl
            try simp only [Act.put, List.setIfInBounds_toArray, List.set_cons_zero, List.set_cons_succ]
            refine wpAnyH_take (i := 2) (oi := { dst := some 17, op := Op.load 24 (Operand.tmp 2), type := 24, pos := "ref.go:169", after := #[{ on := 1, ground := Ground.guard }], guard := some (1, false) }) (v := ?_) rfl (by kernel_rfl) (by kernel_rfl) (by kernel_rfl) (fun _ _ _ h => h) (Or.inl ⟨by rfl, ?_⟩) hHeld ?_
            rotate_left
            · intro w hSw; (try dsimp only at hSw); have e0 := (hSw.cell (p := ⟨g, 0, none⟩) (HXr.out.lt)).trans (HXr.out.c0); have e1 := (hSw.cell (p := ⟨g, 1, none⟩) (HXr.out.lt)).trans (HXr.out.c1); have e2 := (hSw.cell (p := ⟨b1, o1 + k * 2, none⟩) L1.out).trans C0.out; have e3 := (hSw.cell (p := ⟨b1, o1 + k * 2 + 1, none⟩) L1.out).trans C1.out; go_simp; first | done | with_reducible rfl
            try simp only [Act.put, List.setIfInBounds_toArray, List.set_cons_zero, List.set_cons_succ]
            refine wpAnyH_take (i := 3) (oi := { dst := some 18, op := Op.move (Operand.tmp 1), type := 37, pos := "ref.go:169", after := #[{ on := 1, ground := Ground.guard }], guard := some (1, false) }) (v := ?_) rfl (by kernel_rfl) (by kernel_rfl) (by kernel_rfl) (fun _ _ _ h => h) (Or.inl ⟨by rfl, ?_⟩) hHeld ?_
            rotate_left
            · intro w hSw; (try dsimp only at hSw); go_simp; first | done | with_reducible rfl
            try simp only [Act.put, List.setIfInBounds_toArray, List.set_cons_zero, List.set_cons_succ]
            refine wpAnyH_take (i := 4) (oi := { dst := some 19, op := Op.move (Operand.tmp 6), type := 3, pos := "ref.go:169", after := #[{ on := 1, ground := Ground.guard }], guard := some (1, false) }) (v := ?_) rfl (by kernel_rfl) (by kernel_rfl) (by kernel_rfl) (fun _ _ _ h => h) (Or.inl ⟨by rfl, ?_⟩) hHeld ?_
            rotate_left
            · intro w hSw; (try dsimp only at hSw); go_simp; first | done | with_reducible rfl
            try simp only [Act.put, List.setIfInBounds_toArray, List.set_cons_zero, List.set_cons_succ]
            refine wpAnyH_take (i := 5) (oi := { dst := some 20, op := Op.indexAddr 37 (Operand.tmp 18) (Operand.tmp 19), type := 0, pos := "ref.go:169", after := #[{ on := 3, ground := Ground.data }, { on := 4, ground := Ground.data }, { on := 1, ground := Ground.guard }], guard := some (1, false) }) (v := ?_) rfl (by kernel_rfl) (by kernel_rfl) (by kernel_rfl) (fun _ _ _ h => h) (Or.inl ⟨by rfl, ?_⟩) hHeld ?_
            rotate_left
            · intro w hSw; (try dsimp only at hSw); have h := hlt'; go_simp; first | done | with_reducible rfl
            try simp only [Act.put, List.setIfInBounds_toArray, List.set_cons_zero, List.set_cons_succ]
            refine wpAnyH_take (i := 6) (oi := { dst := some 21, op := Op.load 24 (Operand.tmp 20), type := 24, pos := "ref.go:169", after := #[{ on := 5, ground := Ground.data }, { on := 1, ground := Ground.guard }], guard := some (1, false) }) (v := ?_) rfl (by kernel_rfl) (by kernel_rfl) (by kernel_rfl) (fun _ _ _ h => h) (Or.inl ⟨by rfl, ?_⟩) hHeld ?_
            rotate_left
            · intro w hSw; (try dsimp only at hSw); have e0 := (hSw.cell (p := ⟨g, 0, none⟩) (HXr.out.lt)).trans (HXr.out.c0); have e1 := (hSw.cell (p := ⟨g, 1, none⟩) (HXr.out.lt)).trans (HXr.out.c1); have e2 := (hSw.cell (p := ⟨b1, o1 + k * 2, none⟩) L1.out).trans C0.out; have e3 := (hSw.cell (p := ⟨b1, o1 + k * 2 + 1, none⟩) L1.out).trans C1.out; go_simp; first | done | with_reducible rfl
            try simp only [Act.put, List.setIfInBounds_toArray, List.set_cons_zero, List.set_cons_succ]
            refine wpAnyH_ready (rs := [7]) (by kernel_rfl) (by simp) ?_
            refine AllReadyH.cons (o := { dst := some 22, op := Op.call { callee := Callee.value (Operand.func 30), args := #[Operand.tmp 17, Operand.tmp 21], argTypes := #[24, 24] }, type := 4, pos := "ref.go:169", after := #[{ on := 2, ground := Ground.data }, { on := 6, ground := Ground.data }, { on := 1, ground := Ground.chain }, { on := 1, ground := Ground.guard }], guard := some (1, false) }) rfl (fun K hK => ?_) AllReadyH.nil
            clear hHeld
            go_simp
            refine (HCW.out _).mono ?_
            rintro e wr1 ⟨rfl, hB⟩
            have HR1 := hide (((Below.refl wr.heap.size wr).drew).trans (hB.mono ((Below.refl wr.heap.size wr).drew).size))
            clear hB
            refine hK.out _ _ (HR1.out) (fun hHeld => ?_)
            clear hK K
            try simp only [Act.put, List.setIfInBounds_toArray, List.set_cons_zero, List.set_cons_succ]
            refine wpAnyH_take (i := 8) (oi := { dst := some 23, op := Op.pick (Operand.tmp 16) (Operand.const (Value.bool true)) (Operand.tmp 22), type := 4, pos := "ref.go:169", after := #[{ on := 1, ground := Ground.data }, { on := 7, ground := Ground.data }], guard := none }) (v := ?_) rfl (by kernel_rfl) (by kernel_rfl) (by kernel_rfl) (fun _ _ _ h => h) (Or.inl ⟨by rfl, ?_⟩) hHeld ?_
            rotate_left
            · intro w hSw; (try dsimp only at hSw); go_simp; first | done | with_reducible rfl
            try simp only [Act.put, List.setIfInBounds_toArray, List.set_cons_zero, List.set_cons_succ]
            refine wpAnyH_take (i := 9) (oi := { dst := some 24, op := Op.move (Operand.tmp 23), type := 4, pos := "ref.go:169", after := #[{ on := 8, ground := Ground.data }, { on := 7, ground := Ground.chain }], guard := none }) (v := ?_) rfl (by kernel_rfl) (by kernel_rfl) (by kernel_rfl) (fun _ _ _ h => h) (Or.inl ⟨by rfl, ?_⟩) hHeld ?_
            rotate_left
            · intro w hSw; (try dsimp only at hSw); go_simp; first | done | with_reducible rfl
            try simp only [Act.put, List.setIfInBounds_toArray, List.set_cons_zero, List.set_cons_succ]
            refine wpAnyH_take (i := 10) (oi := { dst := some 25, op := Op.move (Operand.tmp 1), type := 37, pos := "ref.go:169", after := #[{ on := 9, ground := Ground.guard }], guard := some (9, false) }) (v := ?_) rfl (by kernel_rfl) (by kernel_rfl) (by kernel_rfl) (fun _ _ _ h => h) (Or.inl ⟨by rfl, ?_⟩) hHeld ?_
            rotate_left
            · intro w hSw; (try dsimp only at hSw); go_simp; first | done | with_reducible rfl
            try simp only [Act.put, List.setIfInBounds_toArray, List.set_cons_zero, List.set_cons_succ]
            refine wpAnyH_take (i := 11) (oi := { dst := some 26, op := Op.move (Operand.tmp 6), type := 3, pos := "ref.go:169", after := #[{ on := 9, ground := Ground.guard }], guard := some (9, false) }) (v := ?_) rfl (by kernel_rfl) (by kernel_rfl) (by kernel_rfl) (fun _ _ _ h => h) (Or.inl ⟨by rfl, ?_⟩) hHeld ?_
            rotate_left
            · intro w hSw; (try dsimp only at hSw); go_simp; first | done | with_reducible rfl
            try simp only [Act.put, List.setIfInBounds_toArray, List.set_cons_zero, List.set_cons_succ]
            refine wpAnyH_take (i := 12) (oi := { dst := some 27, op := Op.indexAddr 37 (Operand.tmp 25) (Operand.tmp 26), type := 0, pos := "ref.go:169", after := #[{ on := 10, ground := Ground.data }, { on := 11, ground := Ground.data }, { on := 9, ground := Ground.guard }], guard := some (9, false) }) (v := ?_) rfl (by kernel_rfl) (by kernel_rfl) (by kernel_rfl) (fun _ _ _ h => h) (Or.inl ⟨by rfl, ?_⟩) hHeld ?_
            rotate_left
            · intro w hSw; (try dsimp only at hSw); have h := hlt'; go_simp; first | done | with_reducible rfl
            try simp only [Act.put, List.setIfInBounds_toArray, List.set_cons_zero, List.set_cons_succ]
            refine wpAnyH_take (i := 13) (oi := { dst := some 28, op := Op.load 24 (Operand.tmp 27), type := 24, pos := "ref.go:169", after := #[{ on := 12, ground := Ground.data }, { on := 9, ground := Ground.guard }], guard := some (9, false) }) (v := ?_) rfl (by kernel_rfl) (by kernel_rfl) (by kernel_rfl) (fun _ _ _ h => h) (Or.inl ⟨by rfl, ?_⟩) hHeld ?_
            rotate_left
            · intro w hSw; (try dsimp only at hSw); have e0 := (hSw.cell (p := ⟨g, 0, none⟩) (HXr.out.lt)).trans (HXr.out.c0); have e1 := (hSw.cell (p := ⟨g, 1, none⟩) (HXr.out.lt)).trans (HXr.out.c1); have e2 := (hSw.cell (p := ⟨b1, o1 + k * 2, none⟩) L1.out).trans C0.out; have e3 := (hSw.cell (p := ⟨b1, o1 + k * 2 + 1, none⟩) L1.out).trans C1.out; go_simp; first | done | with_reducible rfl
            try simp only [Act.put, List.setIfInBounds_toArray, List.set_cons_zero, List.set_cons_succ]
            refine wpAnyH_take (i := 14) (oi := { dst := some 29, op := Op.load 24 (Operand.tmp 2), type := 24, pos := "ref.go:169", after := #[{ on := 9, ground := Ground.guard }], guard := some (9, false) }) (v := ?_) rfl (by kernel_rfl) (by kernel_rfl) (by kernel_rfl) (fun _ _ _ h => h) (Or.inl ⟨by rfl, ?_⟩) hHeld ?_
            rotate_left
            · intro w hSw; (try dsimp only at hSw); have e0 := (hSw.cell (p := ⟨g, 0, none⟩) (HXr.out.lt)).trans (HXr.out.c0); have e1 := (hSw.cell (p := ⟨g, 1, none⟩) (HXr.out.lt)).trans (HXr.out.c1); have e2 := (hSw.cell (p := ⟨b1, o1 + k * 2, none⟩) L1.out).trans C0.out; have e3 := (hSw.cell (p := ⟨b1, o1 + k * 2 + 1, none⟩) L1.out).trans C1.out; go_simp; first | done | with_reducible rfl
            try simp only [Act.put, List.setIfInBounds_toArray, List.set_cons_zero, List.set_cons_succ]
            refine wpAnyH_ready (rs := [15]) (by kernel_rfl) (by simp) ?_
            refine AllReadyH.cons (o := { dst := some 30, op := Op.call { callee := Callee.value (Operand.func 30), args := #[Operand.tmp 28, Operand.tmp 29], argTypes := #[24, 24] }, type := 4, pos := "ref.go:169", after := #[{ on := 13, ground := Ground.data }, { on := 14, ground := Ground.data }, { on := 9, ground := Ground.chain }, { on := 9, ground := Ground.guard }], guard := some (9, false) }) rfl (fun K hK => ?_) AllReadyH.nil
            clear hHeld
            go_simp
            refine (HCV.out _).mono ?_
            rintro e wr2 ⟨rfl, hB⟩
            have HR2 := hide (HR1.out.trans (hB.mono HR1.out.size))
            clear hB
            refine hK.out _ _ (HR2.out) (fun hHeld => ?_)
            clear hK K
            try simp only [Act.put, List.setIfInBounds_toArray, List.set_cons_zero, List.set_cons_succ]
            refine wpAnyH_take (i := 16) (oi := { dst := some 31, op := Op.pick (Operand.tmp 24) (Operand.const (Value.bool true)) (Operand.tmp 30), type := 4, pos := "ref.go:169", after := #[{ on := 9, ground := Ground.data }, { on := 15, ground := Ground.data }], guard := none }) (v := ?_) rfl (by kernel_rfl) (by kernel_rfl) (by kernel_rfl) (fun _ _ _ h => h) (Or.inl ⟨by rfl, ?_⟩) hHeld ?_
            rotate_left
            · intro w hSw; (try dsimp only at hSw); go_simp; first | done | with_reducible rfl
            try simp only [Act.put, List.setIfInBounds_toArray, List.set_cons_zero, List.set_cons_succ]
            refine wpAnyH_take (i := 17) (oi := { dst := some 5, op := Op.assign (Operand.tmp 31), type := 4, pos := "ref.go:169", after := #[{ on := 16, ground := Ground.data }, { on := 15, ground := Ground.chain }, { on := 0, ground := Ground.phase }, { on := 1, ground := Ground.phase }, { on := 2, ground := Ground.phase }, { on := 3, ground := Ground.phase }, { on := 4, ground := Ground.phase }, { on := 5, ground := Ground.phase }, { on := 6, ground := Ground.phase }, { on := 7, ground := Ground.phase }, { on := 8, ground := Ground.phase }, { on := 9, ground := Ground.phase }, { on := 10, ground := Ground.phase }, { on := 11, ground := Ground.phase }, { on := 12, ground := Ground.phase }, { on := 13, ground := Ground.phase }, { on := 14, ground := Ground.phase }, { on := 15, ground := Ground.phase }, { on := 16, ground := Ground.phase }], guard := none }) (v := ?_) rfl (by kernel_rfl) (by kernel_rfl) (by kernel_rfl) (fun _ _ _ h => h) (Or.inl ⟨by rfl, ?_⟩) hHeld ?_
            rotate_left
            · intro w hSw; (try dsimp only at hSw); go_simp; first | done | with_reducible rfl
            try simp only [Act.put, List.setIfInBounds_toArray, List.set_cons_zero, List.set_cons_succ]
            refine wpAnyH_done (by kernel_rfl) ?_ _
            clear hHeld
            go_wp2_with fail
            go_roundw
            case rel => exact ⟨k + 1, cv, by omega, by go_num, rfl, by rw [HAN.out]; simp, HXr.out.below_b HR2.out, HBr.out.trans (HR2.out.mono HBr.out.size)⟩
            case measure => simp [intOf]; omega
      · have hlt' : ¬ (k : Int) < (n9 : Int) := by omega
        have htk : l.take k = l := List.take_of_length_le (by rw [HN.out]; omega)
        rw [htk] at hb
        have HXr := hide hX
        have HBr := hide hB
        clear hX hB htk hlt
        cases b with
        | false =>
          have HD : Hid (cn = []) := hide (HCN.out fun c hc => by
            have := List.any_eq_false.1 hb.symm c hc
            simp only [Bool.or_eq_true, not_or, Bool.not_eq_true] at this
            exact ⟨this.2, this.1⟩)
          clear hb
          go_wp2_with fail
          go_ret
          exact ⟨_, rfl, by rw [HD.out]; exact CRow.nil _ _, HBr.out⟩
        | true =>
          obtain ⟨c, hc, hcc⟩ := List.any_eq_true.1 hb.symm
          clear hb
          cases fu with
          | true =>
            have HD : Hid (cn = [⟨x, bb⟩]) := hide (HCF.out rfl)
            have c0 := HXr.out.c0
            have c1 := HXr.out.c1
            clear hc hcc
            go_wp2_with fail
            refine (HWH.out _ _ (HL.out.below HBr.out)).mono ?_
            rintro e w7 ⟨rfl, hB⟩
            have HX7 := hide (HXr.out.below_b hB)
            have HB7 := hide (HBr.out.trans (hB.mono HBr.out.size))
            clear hB c0 c1
            have c0 := HX7.out.c0
            have c1 := HX7.out.c1
            go_wp2_with fail
            go_ret
            refine ⟨_, rfl, ?_, HB7.out.alloc HB7.out.size _⟩
            rw [HD.out]
            exact World.ownsRow_lit (base := w.heap.size) (e := 24) (size := 2) w7 #[.int .u32 (x : Nat), .int .i64 bb] 1 HB7.out.size (by unfold maxLen; omega) rfl
          | false =>
            exfalso
            have := H1.out c hc hcc
            cases this
  | succ m ih =>
    intro hn x hx htop v w hC
    obtain ⟨n9, hn9⟩ : ∃ n9, l.length = n9 := ⟨_, rfl⟩
    obtain ⟨ao, cap, rfl⟩ := hC.len
    rw [hn9] at hC ⊢
    have HL := hide hC
    have HN := hide hn9
    have hn9l : n9 ≤ 1000 := by omega
    have hxlt : x < 4294967296 := by have := Nat.pow_pos (n := m + 1) (show 0 < 2 by omega); omega
    obtain ⟨bb, hbb⟩ : ∃ bb : Int, 32 - ((m + 1 : Nat) : Int) = bb := ⟨_, rfl⟩
    have HCVF := hide (fun (c : Net) (hc : c ∈ l) (h : coversB c ⟨x, bb⟩ = true) => full_cov l hn c hc (by unfold downL; rw [hbb]; exact h))
    have HNO9 := hide (fun (h : ∀ c ∈ l, coversB c ⟨x, bb⟩ = false ∧ coversB ⟨x, bb⟩ c = false) => some_no l hn hx (by unfold downL; rw [hbb]; exact h))
    have HC1 := hide (fun (c : Net) (hc : c ∈ l) W => coversR_any c ⟨x, bb⟩ (hf c hc) hxlt W)
    have HC2 := hide (fun (c : Net) (hc : c ∈ l) W => coversR_any ⟨x, bb⟩ c hxlt (hf c hc) W)
    unfold Net.val at HC1 HC2
    dsimp only at HC1 HC2
    have HX0 := hide (BoxAt.new w x bb)
    have HB0 : Hid (Below w.heap.size w (w.alloc (.cells #[.int .u32 (x : Nat), .int .i64 bb] 24))) := hide ((Below.refl _ _).alloc (Nat.le_refl _) _)
    obtain ⟨b2, hb2⟩ : ∃ b2 : Int, 32 - (m : Int) = b2 := ⟨_, rfl⟩
    have hp : 2 ^ (m + 1) = 2 * 2 ^ m := by rw [Nat.pow_succ, Nat.mul_comm]
    have hpp : 0 < 2 ^ m := Nat.pow_pos (by omega)
    have hdl : 2 ^ m ∣ x := Nat.dvd_trans ⟨2, by rw [hp, Nat.mul_comm]⟩ hx
    have hol : Ok ⟨x, b2⟩ := by
      have := downL_ok (n := m) (x := x) (by omega) hdl
      unfold downL at this
      rw [hb2] at this
      exact this
    have HLST := hide (fun W => lastR_any ⟨x, b2⟩ hxlt hol W)
    unfold Net.val at HLST
    dsimp only at HLST
    have hsz : sz b2 = 2 ^ m := by rw [← hb2]; exact sz_of m (by omega)
    rw [hsz] at HLST
    have hw1 : IntKind.i64.wrap (bb + 1) = b2 := by rw [IntWalk.i64_in _ (by omega)]; omega
    have hw2 : IntKind.u32.wrap (((x + (2 ^ m - 1) : Nat) : Int) + 1) = ((x + 2 ^ m : Nat) : Int) := by rw [IntWalk.u32_in _ (by omega)]; omega
    have hge : ¬ (32 : Int) ≤ bb := by omega
    have HWH := hide (fun v W h => whole_any l hf hl (m + 1) hn x hx htop v W h)
    have HCN := hide (fun h => canon_none (allB l) (m + 1) x (HNO9.out h))
    have HCF := hide (fun h => canon_full (allB l) (m + 1) x h)
    have HCH := hide (fun h => canon_half (allB l) m x h)
    have HI1 := hide (fun v W h => ih (by omega) x hdl (by omega) v W h)
    have HI2 := hide (fun v W h => ih (by omega) (x + 2 ^ m) (Nat.dvd_add hdl (Nat.dvd_refl _)) (by omega) v W h)
    have HLN := hide (show (canon (allB l) m x).length + (canon (allB l) m (x + 2 ^ m)).length ≤ 8000000000000 by
      have h1 := canon_len (allB l) m x
      have h2 := canon_len (allB l) m (x + 2 ^ m)
      omega)
    rw [hb2] at HI1 HI2
    rw [hbb] at HWH HCF ⊢
    clear hbb hC hn9 hn hx htop hl hxlt HNO9 hb2 hp hpp hdl hol hsz ih
    generalize canon (allB l) (m + 1) x = cn at *
    generalize full (allB l) (m + 1) x = fu at *
    generalize canon (allB l) m x = cA at *
    generalize canon (allB l) m (x + 2 ^ m) = cB at *
    generalize x + (2 ^ m - 1) = y1 at *
    generalize x + 2 ^ m = y2 at *
    unfold RMPost at HI1 HI2 ⊢
    go_enter Tryd.func49, Tryd.ntmps49
    go_wp2_with fail
    generalize w.alloc (.cells #[.int .u32 (x : Nat), .int .i64 bb] 24) = W1 at *
    obtain ⟨g, hg⟩ : ∃ g, w.heap.size = g := ⟨_, rfl⟩
    rw [hg] at HX0 ⊢
    have HG0 := hide hg
    clear hg
    go_loopw [5, 6] (fun s i wr => ∃ (k : Nat) (b : Bool), k ≤ n9 ∧ i = .int .i64 k ∧ s = .bool b ∧ b = (l.take k).any (fun c => coversB ⟨x, bb⟩ c || coversB c ⟨x, bb⟩) ∧ BoxAt wr g x bb ∧ Below w.heap.size w wr) (fun _ i _ => n9 - (intOf i).toNat)
    case atStart => exact ⟨0, false, Nat.zero_le _, rfl, rfl, by simp, HX0.out, HB0.out⟩
    case round =>
      obtain ⟨k, b, hk, rfl, rfl, hb, hX, hB⟩ := hrel
      by_cases hlt : k < n9
      · have hlt' : (k : Int) < (n9 : Int) := by omega
        obtain ⟨b1, o1, h1, hb1, hc0, hc1⟩ := HL.out.at (k := k) hlt
        subst h1
        have hkl : k < l.length := by rw [HN.out]; exact hlt
        have hmem := mem_getD l k hkl
        have HCV := hide (HC1.out _ hmem)
        have HCW := hide (HC2.out _ hmem)
        have hany := any_next l k hkl (fun c => coversB ⟨x, bb⟩ c || coversB c ⟨x, bb⟩)
        have htk : ∀ c ∈ l.take (k + 1), c ∈ l.take k ∨ c = l.getD k default := fun c hc => mem_next l k hkl hc
        have hcov := HCVF.out _ hmem
        rw [← hb] at hany
        generalize l.getD k default = e at *
        obtain ⟨ea, eb⟩ := e
        dsimp only at HCV HCW hc0 hc1 hany
        have C0 := hide ((hB.cell (p := ⟨b1, o1 + k * 2, none⟩) hb1).trans hc0)
        have C1 := hide ((hB.cell (p := ⟨b1, o1 + k * 2 + 1, none⟩) hb1).trans hc1)
        have L1 := hide (Nat.lt_of_lt_of_le hb1 hB.size)
        have HXr := hide hX
        have HBr := hide hB
        have HAN := hide hany
        have HTK := hide htk
        clear hb hX hB hany htk hc0 hc1 hb1 hkl hmem hlt hcov HTK
        generalize coversB ⟨ea, eb⟩ ⟨x, bb⟩ = cv at *
        generalize coversB ⟨x, bb⟩ ⟨ea, eb⟩ = cw at *
        cases b with
        | true =>
          go_wp2_with fail
          refine wp_region_held_drew (S := fun w' => Below wr.heap.size wr w') (by kernel_rfl) ((Below.refl _ _).drew) (fun hHeld => ?_)
          refine wpAnyH_take (i := 0) (oi := { dst := some 15, op := Op.move (Operand.tmp 5), type := 4, pos := "ref.go:169", after := #[], guard := none }) (v := ?_) rfl (by kernel_rfl) (by kernel_rfl) (by kernel_rfl) (fun _ _ _ h => h) (Or.inl ⟨by rfl, ?_⟩) hHeld ?_
          rotate_left
          · intro w hSw; (try dsimp only at hSw); go_simp; first | done | with_reducible rfl
          try simp only [Act.put, List.setIfInBounds_toArray, List.set_cons_zero, List.set_cons_succ]
          refine wpAnyH_take (i := 1) (oi := { dst := some 16, op := Op.move (Operand.tmp 15), type := 4, pos := "ref.go:169", after := #[{ on := 0, ground := Ground.data }], guard := none }) (v := ?_) rfl (by kernel_rfl) (by kernel_rfl) (by kernel_rfl) (fun _ _ _ h => h) (Or.inl ⟨by rfl, ?_⟩) hHeld ?_
          rotate_left
          · intro w hSw; (try dsimp only at hSw); go_simp; first | done | with_reducible rfl
          try simp only [Act.put, List.setIfInBounds_toArray, List.set_cons_zero, List.set_cons_succ]
          refine wpAnyH_take (i := 2) (oi := { dst := some 17, op := Op.load 24 (Operand.tmp 2), type := 24, pos := "ref.go:169", after := #[{ on := 1, ground := Ground.guard }], guard := some (1, false) }) (v := undef) rfl (by kernel_rfl) (by kernel_rfl) (by kernel_rfl) (fun _ _ _ h => h) (Or.inr ⟨by rfl, rfl⟩) hHeld ?_
          try simp only [Act.put, List.setIfInBounds_toArray, List.set_cons_zero, List.set_cons_succ]
          refine wpAnyH_take (i := 3) (oi := { dst := some 18, op := Op.move (Operand.tmp 1), type := 37, pos := "ref.go:169", after := #[{ on := 1, ground := Ground.guard }], guard := some (1, false) }) (v := undef) rfl (by kernel_rfl) (by kernel_rfl) (by kernel_rfl) (fun _ _ _ h => h) (Or.inr ⟨by rfl, rfl⟩) hHeld ?_
          try simp only [Act.put, List.setIfInBounds_toArray, List.set_cons_zero, List.set_cons_succ]
          refine wpAnyH_take (i := 4) (oi := { dst := some 19, op := Op.move (Operand.tmp 6), type := 3, pos := "ref.go:169", after := #[{ on := 1, ground := Ground.guard }], guard := some (1, false) }) (v := undef) rfl (by kernel_rfl) (by kernel_rfl) (by kernel_rfl) (fun _ _ _ h => h) (Or.inr ⟨by rfl, rfl⟩) hHeld ?_
          try simp only [Act.put, List.setIfInBounds_toArray, List.set_cons_zero, List.set_cons_succ]
          refine wpAnyH_take (i := 5) (oi := { dst := some 20, op := Op.indexAddr 37 (Operand.tmp 18) (Operand.tmp 19), type := 0, pos := "ref.go:169", after := #[{ on := 3, ground := Ground.data }, { on := 4, ground := Ground.data }, { on := 1, ground := Ground.guard }], guard := some (1, false) }) (v := undef) rfl (by kernel_rfl) (by kernel_rfl) (by kernel_rfl) (fun _ _ _ h => h) (Or.inr ⟨by rfl, rfl⟩) hHeld ?_
          try simp only [Act.put, List.setIfInBounds_toArray, List.set_cons_zero, List.set_cons_succ]
          refine wpAnyH_take (i := 6) (oi := { dst := some 21, op := Op.load 24 (Operand.tmp 20), type := 24, pos := "ref.go:169", after := #[{ on := 5, ground := Ground.data }, { on := 1, ground := Ground.guard }], guard := some (1, false) }) (v := undef) rfl (by kernel_rfl) (by kernel_rfl) (by kernel_rfl) (fun _ _ _ h => h) (Or.inr ⟨by rfl, rfl⟩) hHeld ?_
          try simp only [Act.put, List.setIfInBounds_toArray, List.set_cons_zero, List.set_cons_succ]
          refine wpAnyH_take (i := 7) (oi := { dst := some 22, op := Op.call { callee := Callee.value (Operand.func 30), args := #[Operand.tmp 17, Operand.tmp 21], argTypes := #[24, 24] }, type := 4, pos := "ref.go:169", after := #[{ on := 2, ground := Ground.data }, { on := 6, ground := Ground.data }, { on := 1, ground := Ground.chain }, { on := 1, ground := Ground.guard }], guard := some (1, false) }) (v := undef) rfl (by kernel_rfl) (by kernel_rfl) (by kernel_rfl) (fun _ _ _ h => h) (Or.inr ⟨by rfl, rfl⟩) hHeld ?_
          try simp only [Act.put, List.setIfInBounds_toArray, List.set_cons_zero, List.set_cons_succ]
          refine wpAnyH_take (i := 8) (oi := { dst := some 23, op := Op.pick (Operand.tmp 16) (Operand.const (Value.bool true)) (Operand.tmp 22), type := 4, pos := "ref.go:169", after := #[{ on := 1, ground := Ground.data }, { on := 7, ground := Ground.data }], guard := none }) (v := ?_) rfl (by kernel_rfl) (by kernel_rfl) (by kernel_rfl) (fun _ _ _ h => h) (Or.inl ⟨by rfl, ?_⟩) hHeld ?_
          rotate_left
          · intro w hSw; (try dsimp only at hSw); go_simp; first | done | with_reducible rfl
          try simp only [Act.put, List.setIfInBounds_toArray, List.set_cons_zero, List.set_cons_succ]
          refine wpAnyH_take (i := 9) (oi := { dst := some 24, op := Op.move (Operand.tmp 23), type := 4, pos := "ref.go:169", after := #[{ on := 8, ground := Ground.data }, { on := 7, ground := Ground.chain }], guard := none }) (v := ?_) rfl (by kernel_rfl) (by kernel_rfl) (by kernel_rfl) (fun _ _ _ h => h) (Or.inl ⟨by rfl, ?_⟩) hHeld ?_
          rotate_left
          · intro w hSw; (try dsimp only at hSw); go_simp; first | done | with_reducible rfl
          try simp only [Act.put, List.setIfInBounds_toArray, List.set_cons_zero, List.set_cons_succ]
          refine wpAnyH_take (i := 10) (oi := { dst := some 25, op := Op.move (Operand.tmp 1), type := 37, pos := "ref.go:169", after := #[{ on := 9, ground := Ground.guard }], guard := some (9, false) }) (v := undef) rfl (by kernel_rfl) (by kernel_rfl) (by kernel_rfl) (fun _ _ _ h => h) (Or.inr ⟨by rfl, rfl⟩) hHeld ?_
          try simp only [Act.put, List.setIfInBounds_toArray, List.set_cons_zero, List.set_cons_succ]
          refine wpAnyH_take (i := 11) (oi := { dst := some 26, op := Op.move (Operand.tmp 6), type := 3, pos := "ref.go:169", after := #[{ on := 9, ground := Ground.guard }], guard := some (9, false) }) (v := undef) rfl (by kernel_rfl) (by kernel_rfl) (by kernel_rfl) (fun _ _ _ h => h) (Or.inr ⟨by rfl, rfl⟩) hHeld ?_
          try simp only [Act.put, List.setIfInBounds_toArray, List.set_cons_zero, List.set_cons_succ]
          refine wpAnyH_take (i := 12) (oi := { dst := some 27, op := Op.indexAddr 37 (Operand.tmp 25) (Operand.tmp 26), type := 0, pos := "ref.go:169", after := #[{ on := 10, ground := Ground.data }, { on := 11, ground := Ground.data }, { on := 9, ground := Ground.guard }], guard := some (9, false) }) (v := undef) rfl (by kernel_rfl) (by kernel_rfl) (by kernel_rfl) (fun _ _ _ h => h) (Or.inr ⟨by rfl, rfl⟩) hHeld ?_
          try simp only [Act.put, List.setIfInBounds_toArray, List.set_cons_zero, List.set_cons_succ]
          refine wpAnyH_take (i := 13) (oi := { dst := some 28, op := Op.load 24 (Operand.tmp 27), type := 24, pos := "ref.go:169", after := #[{ on := 12, ground := Ground.data }, { on := 9, ground := Ground.guard }], guard := some (9, false) }) (v := undef) rfl (by kernel_rfl) (by kernel_rfl) (by kernel_rfl) (fun _ _ _ h => h) (Or.inr ⟨by rfl, rfl⟩) hHeld ?_
          try simp only [Act.put, List.setIfInBounds_toArray, List.set_cons_zero, List.set_cons_succ]
          refine wpAnyH_take (i := 14) (oi := { dst := some 29, op := Op.load 24 (Operand.tmp 2), type := 24, pos := "ref.go:169", after := #[{ on := 9, ground := Ground.guard }], guard := some (9, false) }) (v := undef) rfl (by kernel_rfl) (by kernel_rfl) (by kernel_rfl) (fun _ _ _ h => h) (Or.inr ⟨by rfl, rfl⟩) hHeld ?_
          try simp only [Act.put, List.setIfInBounds_toArray, List.set_cons_zero, List.set_cons_succ]
          refine wpAnyH_take (i := 15) (oi := { dst := some 30, op := Op.call { callee := Callee.value (Operand.func 30), args := #[Operand.tmp 28, Operand.tmp 29], argTypes := #[24, 24] }, type := 4, pos := "ref.go:169", after := #[{ on := 13, ground := Ground.data }, { on := 14, ground := Ground.data }, { on := 9, ground := Ground.chain }, { on := 9, ground := Ground.guard }], guard := some (9, false) }) (v := undef) rfl (by kernel_rfl) (by kernel_rfl) (by kernel_rfl) (fun _ _ _ h => h) (Or.inr ⟨by rfl, rfl⟩) hHeld ?_
          try simp only [Act.put, List.setIfInBounds_toArray, List.set_cons_zero, List.set_cons_succ]
          refine wpAnyH_take (i := 16) (oi := { dst := some 31, op := Op.pick (Operand.tmp 24) (Operand.const (Value.bool true)) (Operand.tmp 30), type := 4, pos := "ref.go:169", after := #[{ on := 9, ground := Ground.data }, { on := 15, ground := Ground.data }], guard := none }) (v := ?_) rfl (by kernel_rfl) (by kernel_rfl) (by kernel_rfl) (fun _ _ _ h => h) (Or.inl ⟨by rfl, ?_⟩) hHeld ?_
          rotate_left
          · intro w hSw; (try dsimp only at hSw); go_simp; first | done | with_reducible rfl
          try simp only [Act.put, List.setIfInBounds_toArray, List.set_cons_zero, List.set_cons_succ]
          refine wpAnyH_take (i := 17) (oi := { dst := some 5, op := Op.assign (Operand.tmp 31), type := 4, pos := "ref.go:169", after := #[{ on := 16, ground := Ground.data }, { on := 15, ground := Ground.chain }, { on := 0, ground := Ground.phase }, { on := 1, ground := Ground.phase }, { on := 2, ground := Ground.phase }, { on := 3, ground := Ground.phase }, { on := 4, ground := Ground.phase }, { on := 5, ground := Ground.phase }, { on := 6, ground := Ground.phase }, { on := 7, ground := Ground.phase }, { on := 8, ground := Ground.phase }, { on := 9, ground := Ground.phase }, { on := 10, ground := Ground.phase }, { on := 11, ground := Ground.phase }, { on := 12, ground := Ground.phase }, { on := 13, ground := Ground.phase }, { on := 14, ground := Ground.phase }, { on := 15, ground := Ground.phase }, { on := 16, ground := Ground.phase }], guard := none }) (v := ?_) rfl (by kernel_rfl) (by kernel_rfl) (by kernel_rfl) (fun _ _ _ h => h) (Or.inl ⟨by rfl, ?_⟩) hHeld ?_
          rotate_left
          · intro w hSw; (try dsimp only at hSw); go_simp; first | done | with_reducible rfl
          try simp only [Act.put, List.setIfInBounds_toArray, List.set_cons_zero, List.set_cons_succ]
          refine wpAnyH_done (by kernel_rfl) ?_ _
          clear hHeld
          go_wp2_with fail
          go_roundw
          case rel => exact ⟨k + 1, true, by omega, by go_num, rfl, by rw [HAN.out]; simp, HXr.out.below_b ((Below.refl wr.heap.size wr).drew), HBr.out.trans (((Below.refl wr.heap.size wr).drew).mono HBr.out.size)⟩
          case measure => simp [intOf]; omega
        | false =>
          cases cw with
          | true =>
            go_wp2_with fail
            refine wp_region_held_drew (S := fun w' => Below wr.heap.size wr w') (by kernel_rfl) ((Below.refl _ _).drew) (fun hHeld => ?_)
            refine wpAnyH_take (i := 0) (oi := { dst := some 15, op := Op.move (Operand.tmp 5), type := 4, pos := "ref.go:169", after := #[], guard := none }) (v := ?_) rfl (by kernel_rfl) (by kernel_rfl) (by kernel_rfl) (fun _ _ _ h => h) (Or.inl ⟨by rfl, ?_⟩) hHeld ?_
            rotate_left
            · intro w hSw; (try dsimp only at hSw); go_simp; first | done | with_reducible rfl
            try simp only [Act.put, List.setIfInBounds_toArray, List.set_cons_zero, List.set_cons_succ]
            refine wpAnyH_take (i := 1) (oi := { dst := some 16, op := Op.move (Operand.tmp 15), type := 4, pos := "ref.go:169", after := #[{ on := 0, ground := Ground.data }], guard := none }) (v := ?_) rfl (by kernel_rfl) (by kernel_rfl) (by kernel_rfl) (fun _ _ _ h => h) (Or.inl ⟨by rfl, ?_⟩) hHeld ?_
            rotate_left
            · intro w hSw; (try dsimp only at hSw); go_simp; first | done | with_reducible rfl
            try simp only [Act.put, List.setIfInBounds_toArray, List.set_cons_zero, List.set_cons_succ]
            refine wpAnyH_take (i := 2) (oi := { dst := some 17, op := Op.load 24 (Operand.tmp 2), type := 24, pos := "ref.go:169", after := #[{ on := 1, ground := Ground.guard }], guard := some (1, false) }) (v := ?_) rfl (by kernel_rfl) (by kernel_rfl) (by kernel_rfl) (fun _ _ _ h => h) (Or.inl ⟨by rfl, ?_⟩) hHeld ?_
            rotate_left
            · intro w hSw; (try dsimp only at hSw); have e0 := (hSw.cell (p := ⟨g, 0, none⟩) (HXr.out.lt)).trans (HXr.out.c0); have e1 := (hSw.cell (p := ⟨g, 1, none⟩) (HXr.out.lt)).trans (HXr.out.c1); have e2 := (hSw.cell (p := ⟨b1, o1 + k * 2, none⟩) L1.out).trans C0.out; have e3 := (hSw.cell (p := ⟨b1, o1 + k * 2 + 1, none⟩) L1.out).trans C1.out; go_simp; first | done | with_reducible rfl
            try simp only [Act.put, List.setIfInBounds_toArray, List.set_cons_zero, List.set_cons_succ]
            refine wpAnyH_take (i := 3) (oi := { dst := some 18, op := Op.move (Operand.tmp 1), type := 37, pos := "ref.go:169", after := #[{ on := 1, ground := Ground.guard }], guard := some (1, false) }) (v := ?_) rfl (by kernel_rfl) (by kernel_rfl) (by kernel_rfl) (fun _ _ _ h => h) (Or.inl ⟨by rfl, ?_⟩) hHeld ?_
            rotate_left
            · intro w hSw; (try dsimp only at hSw); go_simp; first | done | with_reducible rfl
            try simp only [Act.put, List.setIfInBounds_toArray, List.set_cons_zero, List.set_cons_succ]
            refine wpAnyH_take (i := 4) (oi := { dst := some 19, op := Op.move (Operand.tmp 6), type := 3, pos := "ref.go:169", after := #[{ on := 1, ground := Ground.guard }], guard := some (1, false) }) (v := ?_) rfl (by kernel_rfl) (by kernel_rfl) (by kernel_rfl) (fun _ _ _ h => h) (Or.inl ⟨by rfl, ?_⟩) hHeld ?_
            rotate_left
            · intro w hSw; (try dsimp only at hSw); go_simp; first | done | with_reducible rfl
            try simp only [Act.put, List.setIfInBounds_toArray, List.set_cons_zero, List.set_cons_succ]
            refine wpAnyH_take (i := 5) (oi := { dst := some 20, op := Op.indexAddr 37 (Operand.tmp 18) (Operand.tmp 19), type := 0, pos := "ref.go:169", after := #[{ on := 3, ground := Ground.data }, { on := 4, ground := Ground.data }, { on := 1, ground := Ground.guard }], guard := some (1, false) }) (v := ?_) rfl (by kernel_rfl) (by kernel_rfl) (by kernel_rfl) (fun _ _ _ h => h) (Or.inl ⟨by rfl, ?_⟩) hHeld ?_
            rotate_left
            · intro w hSw; (try dsimp only at hSw); have h := hlt'; go_simp; first | done | with_reducible rfl
            try simp only [Act.put, List.setIfInBounds_toArray, List.set_cons_zero, List.set_cons_succ]
            refine wpAnyH_take (i := 6) (oi := { dst := some 21, op := Op.load 24 (Operand.tmp 20), type := 24, pos := "ref.go:169", after := #[{ on := 5, ground := Ground.data }, { on := 1, ground := Ground.guard }], guard := some (1, false) }) (v := ?_) rfl (by kernel_rfl) (by kernel_rfl) (by kernel_rfl) (fun _ _ _ h => h) (Or.inl ⟨by rfl, ?_⟩) hHeld ?_
            rotate_left
            · intro w hSw; (try dsimp only at hSw); have e0 := (hSw.cell (p := ⟨g, 0, none⟩) (HXr.out.lt)).trans (HXr.out.c0); have e1 := (hSw.cell (p := ⟨g, 1, none⟩) (HXr.out.lt)).trans (HXr.out.c1); have e2 := (hSw.cell (p := ⟨b1, o1 + k * 2, none⟩) L1.out).trans C0.out; have e3 := (hSw.cell (p := ⟨b1, o1 + k * 2 + 1, none⟩) L1.out).trans C1.out; go_simp; first | done | with_reducible rfl
            try simp only [Act.put, List.setIfInBounds_toArray, List.set_cons_zero, List.set_cons_succ]
            refine wpAnyH_ready (rs := [7]) (by kernel_rfl) (by simp) ?_
            refine AllReadyH.cons (o := { dst := some 22, op := Op.call { callee := Callee.value (Operand.func 30), args := #[Operand.tmp 17, Operand.tmp 21], argTypes := #[24, 24] }, type := 4, pos := "ref.go:169", after := #[{ on := 2, ground := Ground.data }, { on := 6, ground := Ground.data }, { on := 1, ground := Ground.chain }, { on := 1, ground := Ground.guard }], guard := some (1, false) }) rfl (fun K hK => ?_) AllReadyH.nil
            clear hHeld
            go_simp
            refine (HCW.out _).mono ?_
            rintro e wr1 ⟨rfl, hB⟩
            have HR1 := hide (((Below.refl wr.heap.size wr).drew).trans (hB.mono ((Below.refl wr.heap.size wr).drew).size))
            clear hB
            refine hK.out _ _ (HR1.out) (fun hHeld => ?_)
            clear hK K
            try simp only [Act.put, List.setIfInBounds_toArray, List.set_cons_zero, List.set_cons_succ]
            refine wpAnyH_take (i := 8) (oi := { dst := some 23, op := Op.pick (Operand.tmp 16) (Operand.const (Value.bool true)) (Operand.tmp 22), type := 4, pos := "ref.go:169", after := #[{ on := 1, ground := Ground.data }, { on := 7, ground := Ground.data }], guard := none }) (v := ?_) rfl (by kernel_rfl) (by kernel_rfl) (by kernel_rfl) (fun _ _ _ h => h) (Or.inl ⟨by rfl, ?_⟩) hHeld ?_
            rotate_left
            · intro w hSw; (try dsimp only at hSw); go_simp; first | done | with_reducible rfl
            try simp only [Act.put, List.setIfInBounds_toArray, List.set_cons_zero, List.set_cons_succ]
            refine wpAnyH_take (i := 9) (oi := { dst := some 24, op := Op.move (Operand.tmp 23), type := 4, pos := "ref.go:169", after := #[{ on := 8, ground := Ground.data }, { on := 7, ground := Ground.chain }], guard := none }) (v := ?_) rfl (by kernel_rfl) (by kernel_rfl) (by kernel_rfl) (fun _ _ _ h => h) (Or.inl ⟨by rfl, ?_⟩) hHeld ?_
            rotate_left
            · intro w hSw; (try dsimp only at hSw); go_simp; first | done | with_reducible rfl
            try simp only [Act.put, List.setIfInBounds_toArray, List.set_cons_zero, List.set_cons_succ]
            refine wpAnyH_take (i := 10) (oi := { dst := some 25, op := Op.move (Operand.tmp 1), type := 37, pos := "ref.go:169", after := #[{ on := 9, ground := Ground.guard }], guard := some (9, false) }) (v := undef) rfl (by kernel_rfl) (by kernel_rfl) (by kernel_rfl) (fun _ _ _ h => h) (Or.inr ⟨by rfl, rfl⟩) hHeld ?_
            try simp only [Act.put, List.setIfInBounds_toArray, List.set_cons_zero, List.set_cons_succ]
            refine wpAnyH_take (i := 11) (oi := { dst := some 26, op := Op.move (Operand.tmp 6), type := 3, pos := "ref.go:169", after := #[{ on := 9, ground := Ground.guard }], guard := some (9, false) }) (v := undef) rfl (by kernel_rfl) (by kernel_rfl) (by kernel_rfl) (fun _ _ _ h => h) (Or.inr ⟨by rfl, rfl⟩) hHeld ?_
            try simp only [Act.put, List.setIfInBounds_toArray, List.set_cons_zero, List.set_cons_succ]
            refine wpAnyH_take (i := 12) (oi := { dst := some 27, op := Op.indexAddr 37 (Operand.tmp 25) (Operand.tmp 26), type := 0, pos := "ref.go:169", after := #[{ on := 10, ground := Ground.data }, { on := 11, ground := Ground.data }, { on := 9, ground := Ground.guard }], guard := some (9, false) }) (v := undef) rfl (by kernel_rfl) (by kernel_rfl) (by kernel_rfl) (fun _ _ _ h => h) (Or.inr ⟨by rfl, rfl⟩) hHeld ?_
            try simp only [Act.put, List.setIfInBounds_toArray, List.set_cons_zero, List.set_cons_succ]
            refine wpAnyH_take (i := 13) (oi := { dst := some 28, op := Op.load 24 (Operand.tmp 27), type := 24, pos := "ref.go:169", after := #[{ on := 12, ground := Ground.data }, { on := 9, ground := Ground.guard }], guard := some (9, false) }) (v := undef) rfl (by kernel_rfl) (by kernel_rfl) (by kernel_rfl) (fun _ _ _ h => h) (Or.inr ⟨by rfl, rfl⟩) hHeld ?_
            try simp only [Act.put, List.setIfInBounds_toArray, List.set_cons_zero, List.set_cons_succ]
            refine wpAnyH_take (i := 14) (oi := { dst := some 29, op := Op.load 24 (Operand.tmp 2), type := 24, pos := "ref.go:169", after := #[{ on := 9, ground := Ground.guard }], guard := some (9, false) }) (v := undef) rfl (by kernel_rfl) (by kernel_rfl) (by kernel_rfl) (fun _ _ _ h => h) (Or.inr ⟨by rfl, rfl⟩) hHeld ?_
            try simp only [Act.put, List.setIfInBounds_toArray, List.set_cons_zero, List.set_cons_succ]
            refine wpAnyH_take (i := 15) (oi := { dst := some 30, op := Op.call { callee := Callee.value (Operand.func 30), args := #[Operand.tmp 28, Operand.tmp 29], argTypes := #[24, 24] }, type := 4, pos := "ref.go:169", after := #[{ on := 13, ground := Ground.data }, { on := 14, ground := Ground.data }, { on := 9, ground := Ground.chain }, { on := 9, ground := Ground.guard }], guard := some (9, false) }) (v := undef) rfl (by kernel_rfl) (by kernel_rfl) (by kernel_rfl) (fun _ _ _ h => h) (Or.inr ⟨by rfl, rfl⟩) hHeld ?_
            try simp only [Act.put, List.setIfInBounds_toArray, List.set_cons_zero, List.set_cons_succ]
            refine wpAnyH_take (i := 16) (oi := { dst := some 31, op := Op.pick (Operand.tmp 24) (Operand.const (Value.bool true)) (Operand.tmp 30), type := 4, pos := "ref.go:169", after := #[{ on := 9, ground := Ground.data }, { on := 15, ground := Ground.data }], guard := none }) (v := ?_) rfl (by kernel_rfl) (by kernel_rfl) (by kernel_rfl) (fun _ _ _ h => h) (Or.inl ⟨by rfl, ?_⟩) hHeld ?_
            rotate_left
            · intro w hSw; (try dsimp only at hSw); go_simp; first | done | with_reducible rfl
            try simp only [Act.put, List.setIfInBounds_toArray, List.set_cons_zero, List.set_cons_succ]
            refine wpAnyH_take (i := 17) (oi := { dst := some 5, op := Op.assign (Operand.tmp 31), type := 4, pos := "ref.go:169", after := #[{ on := 16, ground := Ground.data }, { on := 15, ground := Ground.chain }, { on := 0, ground := Ground.phase }, { on := 1, ground := Ground.phase }, { on := 2, ground := Ground.phase }, { on := 3, ground := Ground.phase }, { on := 4, ground := Ground.phase }, { on := 5, ground := Ground.phase }, { on := 6, ground := Ground.phase }, { on := 7, ground := Ground.phase }, { on := 8, ground := Ground.phase }, { on := 9, ground := Ground.phase }, { on := 10, ground := Ground.phase }, { on := 11, ground := Ground.phase }, { on := 12, ground := Ground.phase }, { on := 13, ground := Ground.phase }, { on := 14, ground := Ground.phase }, { on := 15, ground := Ground.phase }, { on := 16, ground := Ground.phase }], guard := none }) (v := ?_) rfl (by kernel_rfl) (by kernel_rfl) (by kernel_rfl) (fun _ _ _ h => h) (Or.inl ⟨by rfl, ?_⟩) hHeld ?_
            rotate_left
            · intro w hSw; (try dsimp only at hSw); go_simp; first | done | with_reducible rfl
            try simp only [Act.put, List.setIfInBounds_toArray, List.set_cons_zero, List.set_cons_succ]
            refine wpAnyH_done (by kernel_rfl) ?_ _
            clear hHeld
            go_wp2_with fail
            go_roundw
            case rel => exact ⟨k + 1, true, by omega, by go_num, rfl, by rw [HAN.out]; simp, HXr.out.below_b HR1.out, HBr.out.trans (HR1.out.mono HBr.out.size)⟩
            case measure => simp [intOf]; omega
          | false =>
            go_wp2_with fail
            refine wp_region_held_drew (S := fun w' => Below wr.heap.size wr w') (by kernel_rfl) ((Below.refl _ _).drew) (fun hHeld => ?_)
            refine wpAnyH_take (i := 0) (oi := { dst := some 15, op := Op.move (Operand.tmp 5), type := 4, pos := "ref.go:169", after := #[], guard := none }) (v := ?_) rfl (by kernel_rfl) (by kernel_rfl) (by kernel_rfl) (fun _ _ _ h => h) (Or.inl ⟨by rfl, ?_⟩) hHeld ?_
            rotate_left
            · intro w hSw; (try dsimp only at hSw); go_simp; first | done | with_reducible rfl
            try simp only [Act.put, List.setIfInBounds_toArray, List.set_cons_zero, List.set_cons_succ]
            refine wpAnyH_take (i := 1) (oi := { dst := some 16, op := Op.move (Operand.tmp 15), type := 4, pos := "ref.go:169", after := #[{ on := 0, ground := Ground.data }], guard := none }) (v := ?_) rfl (by kernel_rfl) (by kernel_rfl) (by kernel_rfl) (fun _ _ _ h => h) (Or.inl ⟨by rfl, ?_⟩) hHeld ?_
            rotate_left
            · intro w hSw; (try dsimp only at hSw); go_simp; first | done | with_reducible rfl
            try simp only [Act.put, List.setIfInBounds_toArray, List.set_cons_zero, List.set_cons_succ]
            refine wpAnyH_take (i := 2) (oi := { dst := some 17, op := Op.load 24 (Operand.tmp 2), type := 24, pos := "ref.go:169", after := #[{ on := 1, ground := Ground.guard }], guard := some (1, false) }) (v := ?_) rfl (by kernel_rfl) (by kernel_rfl) (by kernel_rfl) (fun _ _ _ h => h) (Or.inl ⟨by rfl, ?_⟩) hHeld ?_
            rotate_left
            · intro w hSw; (try dsimp only at hSw); have e0 := (hSw.cell (p := ⟨g, 0, none⟩) (HXr.out.lt)).trans (HXr.out.c0); have e1 := (hSw.cell (p := ⟨g, 1, none⟩) (HXr.out.lt)).trans (HXr.out.c1); have e2 := (hSw.cell (p := ⟨b1, o1 + k * 2, none⟩) L1.out).trans C0.out; have e3 := (hSw.cell (p := ⟨b1, o1 + k * 2 + 1, none⟩) L1.out).trans C1.out; go_simp; first | done | with_reducible rfl
            try simp only [Act.put, List.setIfInBounds_toArray, List.set_cons_zero, List.set_cons_succ]
            refine wpAnyH_take (i := 3) (oi := { dst := some 18, op := Op.move (Operand.tmp 1), type := 37, pos := "ref.go:169", after := #[{ on := 1, ground := Ground.guard }], guard := some (1, false) }) (v := ?_) rfl (by kernel_rfl) (by kernel_rfl) (by kernel_rfl) (fun _ _ _ h => h) (Or.inl ⟨by rfl, ?_⟩) hHeld ?_
            rotate_left
            · intro w hSw; (try dsimp only at hSw); go_simp; first | done | with_reducible rfl
            try simp only [Act.put, List.setIfInBounds_toArray, List.set_cons_zero, List.set_cons_succ]
            refine wpAnyH_take (i := 4) (oi := { dst := some 19, op := Op.move (Operand.tmp 6), type := 3, pos := "ref.go:169", after := #[{ on := 1, ground := Ground.guard }], guard := some (1, false) }) (v := ?_) rfl (by kernel_rfl) (by kernel_rfl) (by kernel_rfl) (fun _ _ _ h => h) (Or.inl ⟨by rfl, ?_⟩) hHeld ?_
            rotate_left
            · intro w hSw; (try dsimp only at hSw); go_simp; first | done | with_reducible rfl
            try simp only [Act.put, List.setIfInBounds_toArray, List.set_cons_zero, List.set_cons_succ]
            refine wpAnyH_take (i := 5) (oi := { dst := some 20, op := Op.indexAddr 37 (Operand.tmp 18) (Operand.tmp 19), type := 0, pos := "ref.go:169", after := #[{ on := 3, ground := Ground.data }, { on := 4, ground := Ground.data }, { on := 1, ground := Ground.guard }], guard := some (1, false) }) (v := ?_) rfl (by kernel_rfl) (by kernel_rfl) (by kernel_rfl) (fun _ _ _ h => h) (Or.inl ⟨by rfl, ?_⟩) hHeld ?_
            rotate_left
            · intro w hSw; (try dsimp only at hSw); have h := hlt'; go_simp; first | done | with_reducible rfl
            try simp only [Act.put, List.setIfInBounds_toArray, List.set_cons_zero, List.set_cons_succ]
            refine wpAnyH_take (i := 6) (oi := { dst := some 21, op := Op.load 24 (Operand.tmp 20), type := 24, pos := "ref.go:169", after := #[{ on := 5, ground := Ground.data }, { on := 1, ground := Ground.guard }], guard := some (1, false) }) (v := ?_) rfl (by kernel_rfl) (by kernel_rfl) (by kernel_rfl) (fun _ _ _ h => h) (Or.inl ⟨by rfl, ?_⟩) hHeld ?_
            rotate_left
            · intro w hSw; (try dsimp only at hSw); have e0 := (hSw.cell (p := ⟨g, 0, none⟩) (HXr.out.lt)).trans (HXr.out.c0); have e1 := (hSw.cell (p := ⟨g, 1, none⟩) (HXr.out.lt)).trans (HXr.out.c1); have e2 := (hSw.cell (p := ⟨b1, o1 + k * 2, none⟩) L1.out).trans C0.out; have e3 := (hSw.cell (p := ⟨b1, o1 + k * 2 + 1, none⟩) L1.out).trans C1.out; go_simp; first | done | with_reducible rfl
            try simp only [Act.put, List.setIfInBounds_toArray, List.set_cons_zero, List.set_cons_succ]
            refine wpAnyH_ready (rs := [7]) (by kernel_rfl) (by simp) ?_
            refine AllReadyH.cons (o := { dst := some 22, op := Op.call { callee := Callee.value (Operand.func 30), args := #[Operand.tmp 17, Operand.tmp 21], argTypes := #[24, 24] }, type := 4, pos := "ref.go:169", after := #[{ on := 2, ground := Ground.data }, { on := 6, ground := Ground.data }, { on := 1, ground := Ground.chain }, { on := 1, ground := Ground.guard }], guard := some (1, false) }) rfl (fun K hK => ?_) AllReadyH.nil
            clear hHeld
            go_simp
            refine (HCW.out _).mono ?_
            rintro e wr1 ⟨rfl, hB⟩
            have HR1 := hide (((Below.refl wr.heap.size wr).drew).trans (hB.mono ((Below.refl wr.heap.size wr).drew).size))
            clear hB
            refine hK.out _ _ (HR1.out) (fun hHeld => ?_)
            clear hK K
            try simp only [Act.put, List.setIfInBounds_toArray, List.set_cons_zero, List.set_cons_succ]
            refine wpAnyH_take (i := 8) (oi := { dst := some 23, op := Op.pick (Operand.tmp 16) (Operand.const (Value.bool true)) (Operand.tmp 22), type := 4, pos := "ref.go:169", after := #[{ on := 1, ground := Ground.data }, { on := 7, ground := Ground.data }], guard := none }) (v := ?_) rfl (by kernel_rfl) (by kernel_rfl) (by kernel_rfl) (fun _ _ _ h => h) (Or.inl ⟨by rfl, ?_⟩) hHeld ?_
            rotate_left
            · intro w hSw; (try dsimp only at hSw); go_simp; first | done | with_reducible rfl
            try simp only [Act.put, List.setIfInBounds_toArray, List.set_cons_zero, List.set_cons_succ]
            refine wpAnyH_take (i := 9) (oi := { dst := some 24, op := Op.move (Operand.tmp 23), type := 4, pos := "ref.go:169", after := #[{ on := 8, ground := Ground.data }, { on := 7, ground := Ground.chain }], guard := none }) (v := ?_) rfl (by kernel_rfl) (by kernel_rfl) (by kernel_rfl) (fun _ _ _ h => h) (Or.inl ⟨by rfl, ?_⟩) hHeld ?_
            rotate_left
            · intro w hSw; (try dsimp only at hSw); go_simp; first | done | with_reducible rfl
            try simp only [Act.put, List.setIfInBounds_toArray, List.set_cons_zero, List.set_cons_succ]
            refine wpAnyH_take (i := 10) (oi := { dst := some 25, op := Op.move (Operand.tmp 1), type := 37, pos := "ref.go:169", after := #[{ on := 9, ground := Ground.guard }], guard := some (9, false) }) (v := ?_) rfl (by kernel_rfl) (by kernel_rfl) (by kernel_rfl) (fun _ _ _ h => h) (Or.inl ⟨by rfl, ?_⟩) hHeld ?_
            rotate_left
            · intro w hSw; (try dsimp only at hSw); go_simp; first | done | with_reducible rfl
            try simp only [Act.put, List.setIfInBounds_toArray, List.set_cons_zero, List.set_cons_succ]
            refine wpAnyH_take (i := 11) (oi := { dst := some 26, op := Op.move (Operand.tmp 6), type := 3, pos := "ref.go:169", after := #[{ on := 9, ground := Ground.guard }], guard := some (9, false) }) (v := ?_) rfl (by kernel_rfl) (by kernel_rfl) (by kernel_rfl) (fun _ _ _ h => h) (Or.inl ⟨by rfl, ?_⟩) hHeld ?_
            rotate_left
            · intro w hSw; (try dsimp only at hSw); go_simp; first | done | with_reducible rfl
            try simp only [Act.put, List.setIfInBounds_toArray, List.set_cons_zero, List.set_cons_succ]
            refine wpAnyH_take (i := 12) (oi := { dst := some 27, op := Op.indexAddr 37 (Operand.tmp 25) (Operand.tmp 26), type := 0, pos := "ref.go:169", after := #[{ on := 10, ground := Ground.data }, { on := 11, ground := Ground.data }, { on := 9, ground := Ground.guard }], guard := some (9, false) }) (v := ?_) rfl (by kernel_rfl) (by kernel_rfl) (by kernel_rfl) (fun _ _ _ h => h) (Or.inl ⟨by rfl, ?_⟩) hHeld ?_
            rotate_left
            · intro w hSw; (try dsimp only at hSw); have h := hlt'; go_simp; first | done | with_reducible rfl
            try simp only [Act.put, List.setIfInBounds_toArray, List.set_cons_zero, List.set_cons_succ]
            refine wpAnyH_take (i := 13) (oi := { dst := some 28, op := Op.load 24 (Operand.tmp 27), type := 24, pos := "ref.go:169", after := #[{ on := 12, ground := Ground.data }, { on := 9, ground := Ground.guard }], guard := some (9, false) }) (v := ?_) rfl (by kernel_rfl) (by kernel_rfl) (by kernel_rfl) (fun _ _ _ h => h) (Or.inl ⟨by rfl, ?_⟩) hHeld ?_
            rotate_left
            · intro w hSw; (try dsimp only at hSw); have e0 := (hSw.cell (p := ⟨g, 0, none⟩) (HXr.out.lt)).trans (HXr.out.c0); have e1 := (hSw.cell (p := ⟨g, 1, none⟩) (HXr.out.lt)).trans (HXr.out.c1); have e2 := (hSw.cell (p := ⟨b1, o1 + k * 2, none⟩) L1.out).trans C0.out; have e3 := (hSw.cell (p := ⟨b1, o1 + k * 2 + 1, none⟩) L1.out).trans C1.out; go_simp; first | done | with_reducible rfl
            try simp only [Act.put, List.setIfInBounds_toArray, List.set_cons_zero, List.set_cons_succ]
            refine wpAnyH_take (i := 14) (oi := { dst := some 29, op := Op.load 24 (Operand.tmp 2), type := 24, pos := "ref.go:169", after := #[{ on := 9, ground := Ground.guard }], guard := some (9, false) }) (v := ?_) rfl (by kernel_rfl) (by kernel_rfl) (by kernel_rfl) (fun _ _ _ h => h) (Or.inl ⟨by rfl, ?_⟩) hHeld ?_
            rotate_left
            · intro w hSw; (try dsimp only at hSw); have e0 := (hSw.cell (p := ⟨g, 0, none⟩) (HXr.out.lt)).trans (HXr.out.c0); have e1 := (hSw.cell (p := ⟨g, 1, none⟩) (HXr.out.lt)).trans (HXr.out.c1); have e2 := (hSw.cell (p := ⟨b1, o1 + k * 2, none⟩) L1.out).trans C0.out; have e3 := (hSw.cell (p := ⟨b1, o1 + k * 2 + 1, none⟩) L1.out).trans C1.out; go_simp; first | done | with_reducible rfl
            try simp only [Act.put, List.setIfInBounds_toArray, List.set_cons_zero, List.set_cons_succ]
            refine wpAnyH_ready (rs := [15]) (by kernel_rfl) (by simp) ?_
            refine AllReadyH.cons (o := { dst := some 30, op := Op.call { callee := Callee.value (Operand.func 30), args := #[Operand.tmp 28, Operand.tmp 29], argTypes := #[24, 24] }, type := 4, pos := "ref.go:169", after := #[{ on := 13, ground := Ground.data }, { on := 14, ground := Ground.data }, { on := 9, ground := Ground.chain }, { on := 9, ground := Ground.guard }], guard := some (9, false) }) rfl (fun K hK => ?_) AllReadyH.nil
            clear hHeld
            go_simp
            refine (HCV.out _).mono ?_
            rintro e wr2 ⟨rfl, hB⟩
            have HR2 := hide (HR1.out.trans (hB.mono HR1.out.size))
            clear hB
            refine hK.out _ _ (HR2.out) (fun hHeld => ?_)
            clear hK K
            try simp only [Act.put, List.setIfInBounds_toArray, List.set_cons_zero, List.set_cons_succ]
            refine wpAnyH_take (i := 16) (oi := { dst := some 31, op := Op.pick (Operand.tmp 24) (Operand.const (Value.bool true)) (Operand.tmp 30), type := 4, pos := "ref.go:169", after := #[{ on := 9, ground := Ground.data }, { on := 15, ground := Ground.data }], guard := none }) (v := ?_) rfl (by kernel_rfl) (by kernel_rfl) (by kernel_rfl) (fun _ _ _ h => h) (Or.inl ⟨by rfl, ?_⟩) hHeld ?_
            rotate_left
            · intro w hSw; (try dsimp only at hSw); go_simp; first | done | with_reducible rfl
            try simp only [Act.put, List.setIfInBounds_toArray, List.set_cons_zero, List.set_cons_succ]
            refine wpAnyH_take (i := 17) (oi := { dst := some 5, op := Op.assign (Operand.tmp 31), type := 4, pos := "ref.go:169", after := #[{ on := 16, ground := Ground.data }, { on := 15, ground := Ground.chain }, { on := 0, ground := Ground.phase }, { on := 1, ground := Ground.phase }, { on := 2, ground := Ground.phase }, { on := 3, ground := Ground.phase }, { on := 4, ground := Ground.phase }, { on := 5, ground := Ground.phase }, { on := 6, ground := Ground.phase }, { on := 7, ground := Ground.phase }, { on := 8, ground := Ground.phase }, { on := 9, ground := Ground.phase }, { on := 10, ground := Ground.phase }, { on := 11, ground := Ground.phase }, { on := 12, ground := Ground.phase }, { on := 13, ground := Ground.phase }, { on := 14, ground := Ground.phase }, { on := 15, ground := Ground.phase }, { on := 16, ground := Ground.phase }], guard := none }) (v := ?_) rfl (by kernel_rfl) (by kernel_rfl) (by kernel_rfl) (fun _ _ _ h => h) (Or.inl ⟨by rfl, ?_⟩) hHeld ?_
            rotate_left
            · intro w hSw; (try dsimp only at hSw); go_simp; first | done | with_reducible rfl
            try simp only [Act.put, List.setIfInBounds_toArray, List.set_cons_zero, List.set_cons_succ]
            refine wpAnyH_done (by kernel_rfl) ?_ _
            clear hHeld
            go_wp2_with fail
            go_roundw
            case rel => exact ⟨k + 1, cv, by omega, by go_num, rfl, by rw [HAN.out]; simp, HXr.out.below_b HR2.out, HBr.out.trans (HR2.out.mono HBr.out.size)⟩
            case measure => simp [intOf]; omega
      · have hlt' : ¬ (k : Int) < (n9 : Int) := by omega
        have htk : l.take k = l := List.take_of_length_le (by rw [HN.out]; omega)
        rw [htk] at hb
        have HXr := hide hX
        have HBr := hide hB
        clear hX hB htk hlt
        cases b with
        | false =>
          have HD : Hid (cn = []) := hide (HCN.out fun c hc => by
            have := List.any_eq_false.1 hb.symm c hc
            simp only [Bool.or_eq_true, not_or, Bool.not_eq_true] at this
            exact ⟨this.2, this.1⟩)
          clear hb
          go_wp2_with fail
          go_ret
          exact ⟨_, rfl, by rw [HD.out]; exact CRow.nil _ _, HBr.out⟩
        | true =>
          obtain ⟨c, hc, hcc⟩ := List.any_eq_true.1 hb.symm
          clear hb
          cases fu with
          | true =>
            have HD : Hid (cn = [⟨x, bb⟩]) := hide (HCF.out rfl)
            have c0 := HXr.out.c0
            have c1 := HXr.out.c1
            clear hc hcc
            go_wp2_with fail
            refine (HWH.out _ _ (HL.out.below HBr.out)).mono ?_
            rintro e w7 ⟨rfl, hB⟩
            have HX7 := hide (HXr.out.below_b hB)
            have HB7 := hide (HBr.out.trans (hB.mono HBr.out.size))
            clear hB c0 c1
            have c0 := HX7.out.c0
            have c1 := HX7.out.c1
            go_wp2_with fail
            go_ret
            refine ⟨_, rfl, ?_, HB7.out.alloc HB7.out.size _⟩
            rw [HD.out]
            exact World.ownsRow_lit (base := w.heap.size) (e := 24) (size := 2) w7 #[.int .u32 (x : Nat), .int .i64 bb] 1 HB7.out.size (by unfold maxLen; omega) rfl
          | false =>
            clear hc hcc
            have HFF := hide (HCH.out rfl)
            have c0 := HXr.out.c0
            have c1 := HXr.out.c1
            go_wp2_with fail
            refine (HWH.out _ _ (HL.out.below HBr.out)).mono ?_
            rintro e w7 ⟨rfl, hB⟩
            have HX7 := hide (HXr.out.below_b hB)
            have HB7 := hide (HBr.out.trans (hB.mono HBr.out.size))
            clear hB c0 c1 HXr HBr
            have HXr := hide HX7.out
            have HBr := hide HB7.out
            have c0 := HXr.out.c0
            have c1 := HXr.out.c1
            clear HX7 HB7
            obtain ⟨wr, hwr⟩ : ∃ wr, w7 = wr := ⟨_, rfl⟩
            subst hwr
            go_upto_region 11 with fail
            clear c0 c1
            have HXl0 := hide (BoxAt.new w7 x b2)
            have HXc0 := hide (HXr.out.below_b ((Below.refl w7.heap.size w7).alloc (Nat.le_refl _) (.cells #[.int .u32 (x : Nat), .int .i64 b2] 24)))
            have HBl0 := hide (HBr.out.alloc HBr.out.size (.cells #[.int .u32 (x : Nat), .int .i64 b2] 24))
            generalize w7.alloc (.cells #[.int .u32 (x : Nat), .int .i64 b2] 24) = W10 at *
            obtain ⟨gl, hgl⟩ : ∃ gl, w7.heap.size = gl := ⟨_, rfl⟩
            rw [hgl] at HXl0 ⊢
            clear hgl
            have HXl := hide HXl0.out
            have HXc := hide HXc0.out
            have HBl := hide HBl0.out
            clear HXl0 HXc0 HBl0
            go_cut [8] (fun s8 W => ∃ gh, s8 = .pointer (some ⟨gh, 0, none⟩) ∧ BoxAt W gl x b2 ∧ BoxAt W gh y2 b2 ∧ Below w.heap.size w W)
            case first =>
              refine wp_region_held_drew (S := fun w' => Below W10.heap.size W10 w') (by kernel_rfl) ((Below.refl _ _).drew) (fun hHeld => ?_)
              refine wpAnyH_take (i := 0) (oi := { dst := some 45, op := Op.load 24 (Operand.tmp 7), type := 24, pos := "ref.go:178", after := #[], guard := none }) (v := ?_) rfl (by kernel_rfl) (by kernel_rfl) (by kernel_rfl) (fun _ _ _ h => h) (Or.inl ⟨by rfl, ?_⟩) hHeld ?_
              rotate_left
              · intro w hSw; (try dsimp only at hSw); have e0 := (hSw.cell (p := ⟨gl, 0, none⟩) HXl.out.lt).trans HXl.out.c0; have e1 := (hSw.cell (p := ⟨gl, 1, none⟩) HXl.out.lt).trans HXl.out.c1; go_simp; first | done | with_reducible rfl
              try simp only [Act.put, List.setIfInBounds_toArray, List.set_cons_zero, List.set_cons_succ]
              refine wpAnyH_take (i := 3) (oi := { dst := some 48, op := Op.fieldAddr 24 (Operand.tmp 2) 1, type := 0, pos := "ref.go:178", after := #[], guard := none }) (v := ?_) rfl (by kernel_rfl) (by kernel_rfl) (by kernel_rfl) (fun _ _ _ h => h) (Or.inl ⟨by rfl, ?_⟩) hHeld ?_
              rotate_left
              · intro w hSw; (try dsimp only at hSw); go_simp; first | done | with_reducible rfl
              try simp only [Act.put, List.setIfInBounds_toArray, List.set_cons_zero, List.set_cons_succ]
              refine wpAnyH_take (i := 4) (oi := { dst := some 49, op := Op.load 3 (Operand.tmp 48), type := 3, pos := "ref.go:178", after := #[{ on := 3, ground := Ground.data }], guard := none }) (v := ?_) rfl (by kernel_rfl) (by kernel_rfl) (by kernel_rfl) (fun _ _ _ h => h) (Or.inl ⟨by rfl, ?_⟩) hHeld ?_
              rotate_left
              · intro w hSw; (try dsimp only at hSw); have e0 := (hSw.cell (p := ⟨g, 0, none⟩) HXc.out.lt).trans HXc.out.c0; have e1 := (hSw.cell (p := ⟨g, 1, none⟩) HXc.out.lt).trans HXc.out.c1; go_simp; first | done | with_reducible rfl
              try simp only [Act.put, List.setIfInBounds_toArray, List.set_cons_zero, List.set_cons_succ]
              refine wpAnyH_take (i := 5) (oi := { dst := some 50, op := Op.binOp BinOp.add 3 (Operand.tmp 49) (Operand.const (Value.int IntKind.i64 1)) 3, type := 3, pos := "ref.go:178", after := #[{ on := 4, ground := Ground.data }], guard := none }) (v := ?_) rfl (by kernel_rfl) (by kernel_rfl) (by kernel_rfl) (fun _ _ _ h => h) (Or.inl ⟨by rfl, ?_⟩) hHeld ?_
              rotate_left
              · intro w hSw; (try dsimp only at hSw); have h := hw1; go_simp; first | done | with_reducible rfl
              try simp only [Act.put, List.setIfInBounds_toArray, List.set_cons_zero, List.set_cons_succ]
              refine wpAnyH_ready (rs := [1, 7]) (by kernel_rfl) (by simp) ?_
              refine AllReadyH.cons (o := { dst := some 46, op := Op.call { callee := Callee.value (Operand.func 31), args := #[Operand.tmp 45], argTypes := #[24] }, type := 22, pos := "ref.go:178", after := #[{ on := 0, ground := Ground.data }], guard := none }) rfl (fun K hK => ?_) (AllReadyH.cons (o := { dst := some 8, op := Op.alloc 24, type := 0, pos := "ref.go:178", after := #[], guard := none }) rfl (fun K hK => ?_) AllReadyH.nil)
              · clear hHeld
                go_simp
                refine (HLST.out _).mono ?_
                rintro e w3 ⟨rfl, hB3⟩
                have HBj := hide (((Below.refl W10.heap.size W10).drew).trans hB3)
                clear hB3
                refine hK.out _ _ (HBj.out) (fun hHeld => ?_)
                clear hK K
                try simp only [Act.put, List.setIfInBounds_toArray, List.set_cons_zero, List.set_cons_succ]
                refine wpAnyH_take (i := 2) (oi := { dst := some 47, op := Op.binOp BinOp.add 22 (Operand.tmp 46) (Operand.const (Value.int IntKind.u32 1)) 22, type := 22, pos := "ref.go:178", after := #[{ on := 1, ground := Ground.data }], guard := none }) (v := ?_) rfl (by kernel_rfl) (by kernel_rfl) (by kernel_rfl) (fun _ _ _ h => h) (Or.inl ⟨by rfl, ?_⟩) hHeld ?_
                rotate_left
                · intro w hSw; (try dsimp only at hSw); have h := hw2; go_simp; first | done | with_reducible rfl
                try simp only [Act.put, List.setIfInBounds_toArray, List.set_cons_zero, List.set_cons_succ]
                refine wpAnyH_take (i := 6) (oi := { dst := some 51, op := Op.build 24 #[(0, Operand.tmp 47), (1, Operand.tmp 50)], type := 24, pos := "ref.go:178", after := #[{ on := 2, ground := Ground.data }, { on := 5, ground := Ground.data }], guard := none }) (v := ?_) rfl (by kernel_rfl) (by kernel_rfl) (by kernel_rfl) (fun _ _ _ h => h) (Or.inl ⟨by rfl, ?_⟩) hHeld ?_
                rotate_left
                · intro w hSw; (try dsimp only at hSw); go_simp; first | done | with_reducible rfl
                try simp only [Act.put, List.setIfInBounds_toArray, List.set_cons_zero, List.set_cons_succ]
                refine wpAnyH_ready (rs := [7]) (by kernel_rfl) (by simp) ?_
                refine AllReadyH.cons (o := { dst := some 8, op := Op.alloc 24, type := 0, pos := "ref.go:178", after := #[], guard := none }) rfl (fun K hK => ?_) AllReadyH.nil
                clear hHeld
                go_simp
                have HZ := hide (BoxAt.new w3 0 0)
                have HBz := hide (HBj.out.alloc HBj.out.size (.cells #[.int .u32 (0 : Nat), .int .i64 0] 24))
                refine hK.out _ _ (HBz.out) (fun hHeld => ?_)
                clear hK K
                try simp only [Act.put, List.setIfInBounds_toArray, List.set_cons_zero, List.set_cons_succ]
                have HGE : Hid (W10.heap.size ≤ w3.heap.size) := hide HBj.out.size
                obtain ⟨gw, hgw⟩ : ∃ gw, w3.heap.size = gw := ⟨_, rfl⟩
                rw [hgw] at HZ HGE ⊢
                clear hgw
                obtain ⟨Wz, hWz⟩ : ∃ Wz, (w3.alloc (.cells #[.int .u32 0, .int .i64 0] 24)) = Wz := ⟨_, rfl⟩
                have HZ := hide (show BoxAt Wz gw 0 0 by rw [← hWz]; exact HZ.out)
                have HBz := hide (show Below W10.heap.size W10 Wz by rw [← hWz]; exact HBz.out)
                rw [hWz] at hHeld ⊢
                clear hWz
                have d0 := HZ.out.c0
                have d1 := HZ.out.c1
                have f0 := HZ.out.frozen 0
                have f1 := HZ.out.frozen 1
                refine wpAnyH_ready (rs := [8]) (by kernel_rfl) (by simp) ?_
                refine AllReadyH.cons (o := { dst := none, op := Op.store 24 (Operand.tmp 8) (Operand.tmp 51), type := 0, pos := "ref.go:178", after := #[{ on := 7, ground := Ground.data }, { on := 6, ground := Ground.data }, { on := 1, ground := Ground.chain }, { on := 0, ground := Ground.phase }, { on := 1, ground := Ground.phase }, { on := 2, ground := Ground.phase }, { on := 3, ground := Ground.phase }, { on := 4, ground := Ground.phase }, { on := 5, ground := Ground.phase }, { on := 6, ground := Ground.phase }, { on := 7, ground := Ground.phase }], guard := none }) rfl (fun K hK => ?_) AllReadyH.nil
                clear hHeld
                go_simp
                have HZ2 := hide (HZ.out.st y2 b2)
                have HB5 := hide ((HBz.out.setCell (p := ⟨gw, 0, none⟩) HGE.out (.int .u32 (y2 : Int))).setCell (p := ⟨gw, 1, none⟩) HGE.out (.int .i64 b2))
                refine hK.out _ _ (HB5.out) (fun hHeld => ?_)
                clear hK K
                try simp only [Act.put]
                refine wpAnyH_done (by kernel_rfl) ?_ _
                clear hHeld d0 d1 f0 f1
                go_wp2_with fail
                go_meet
                case rel => exact ⟨_, rfl, HXl.out.below_b HB5.out, HZ2.out, HBl.out.trans (HB5.out.mono HBl.out.size)⟩
              · clear hHeld
                go_simp
                have HZ0 := hide (show BoxAt (W10.drew.alloc (.cells #[.int .u32 (0 : Nat), .int .i64 0] 24)) W10.heap.size 0 0 from BoxAt.new W10.drew 0 0)
                have HBa := hide (((Below.refl W10.heap.size W10).drew).alloc (Nat.le_refl _) (.cells #[.int .u32 (0 : Nat), .int .i64 0] 24))
                refine hK.out _ _ (HBa.out) (fun hHeld => ?_)
                clear hK K
                try simp only [Act.put, List.setIfInBounds_toArray, List.set_cons_zero, List.set_cons_succ]
                refine wpAnyH_ready (rs := [1]) (by kernel_rfl) (by simp) ?_
                refine AllReadyH.cons (o := { dst := some 46, op := Op.call { callee := Callee.value (Operand.func 31), args := #[Operand.tmp 45], argTypes := #[24] }, type := 22, pos := "ref.go:178", after := #[{ on := 0, ground := Ground.data }], guard := none }) rfl (fun K hK => ?_) AllReadyH.nil
                clear hHeld
                go_simp
                refine (HLST.out _).mono ?_
                rintro e w4 ⟨rfl, hB4⟩
                have HZ := hide (HZ0.out.next hB4)
                have HBz := hide (HBa.out.trans (hB4.mono HBa.out.size))
                clear hB4
                refine hK.out _ _ (HBz.out) (fun hHeld => ?_)
                clear hK K
                try simp only [Act.put, List.setIfInBounds_toArray, List.set_cons_zero, List.set_cons_succ]
                refine wpAnyH_take (i := 2) (oi := { dst := some 47, op := Op.binOp BinOp.add 22 (Operand.tmp 46) (Operand.const (Value.int IntKind.u32 1)) 22, type := 22, pos := "ref.go:178", after := #[{ on := 1, ground := Ground.data }], guard := none }) (v := ?_) rfl (by kernel_rfl) (by kernel_rfl) (by kernel_rfl) (fun _ _ _ h => h) (Or.inl ⟨by rfl, ?_⟩) hHeld ?_
                rotate_left
                · intro w hSw; (try dsimp only at hSw); have h := hw2; go_simp; first | done | with_reducible rfl
                try simp only [Act.put, List.setIfInBounds_toArray, List.set_cons_zero, List.set_cons_succ]
                refine wpAnyH_take (i := 6) (oi := { dst := some 51, op := Op.build 24 #[(0, Operand.tmp 47), (1, Operand.tmp 50)], type := 24, pos := "ref.go:178", after := #[{ on := 2, ground := Ground.data }, { on := 5, ground := Ground.data }], guard := none }) (v := ?_) rfl (by kernel_rfl) (by kernel_rfl) (by kernel_rfl) (fun _ _ _ h => h) (Or.inl ⟨by rfl, ?_⟩) hHeld ?_
                rotate_left
                · intro w hSw; (try dsimp only at hSw); go_simp; first | done | with_reducible rfl
                try simp only [Act.put, List.setIfInBounds_toArray, List.set_cons_zero, List.set_cons_succ]
                have HGE : Hid (W10.heap.size ≤ W10.heap.size) := hide (Nat.le_refl _)
                obtain ⟨Wz, hWz⟩ : ∃ Wz, w4 = Wz := ⟨_, rfl⟩
                have HZ := hide (show BoxAt Wz W10.heap.size 0 0 by rw [← hWz]; exact HZ.out)
                have HBz := hide (show Below W10.heap.size W10 Wz by rw [← hWz]; exact HBz.out)
                rw [hWz] at hHeld ⊢
                clear hWz
                have d0 := HZ.out.c0
                have d1 := HZ.out.c1
                have f0 := HZ.out.frozen 0
                have f1 := HZ.out.frozen 1
                refine wpAnyH_ready (rs := [8]) (by kernel_rfl) (by simp) ?_
                refine AllReadyH.cons (o := { dst := none, op := Op.store 24 (Operand.tmp 8) (Operand.tmp 51), type := 0, pos := "ref.go:178", after := #[{ on := 7, ground := Ground.data }, { on := 6, ground := Ground.data }, { on := 1, ground := Ground.chain }, { on := 0, ground := Ground.phase }, { on := 1, ground := Ground.phase }, { on := 2, ground := Ground.phase }, { on := 3, ground := Ground.phase }, { on := 4, ground := Ground.phase }, { on := 5, ground := Ground.phase }, { on := 6, ground := Ground.phase }, { on := 7, ground := Ground.phase }], guard := none }) rfl (fun K hK => ?_) AllReadyH.nil
                clear hHeld
                go_simp
                have HZ2 := hide (HZ.out.st y2 b2)
                have HB5 := hide ((HBz.out.setCell (p := ⟨W10.heap.size, 0, none⟩) HGE.out (.int .u32 (y2 : Int))).setCell (p := ⟨W10.heap.size, 1, none⟩) HGE.out (.int .i64 b2))
                refine hK.out _ _ (HB5.out) (fun hHeld => ?_)
                clear hK K
                try simp only [Act.put]
                refine wpAnyH_done (by kernel_rfl) ?_ _
                clear hHeld d0 d1 f0 f1
                go_wp2_with fail
                go_meet
                case rel => exact ⟨_, rfl, HXl.out.below_b HB5.out, HZ2.out, HBl.out.trans (HB5.out.mono HBl.out.size)⟩
            case rest =>
              obtain ⟨gh, rfl, hxl, hxh, hbw⟩ := hcut
              have HXL := hide hxl
              have HXH := hide hxh
              have HBW := hide hbw
              clear hxl hxh hbw
              go_wp2_with fail
              refine wp_region_held_drew (S := fun w' => Below wc.heap.size wc w') (by kernel_rfl) ((Below.refl _ _).drew) (fun hHeld => ?_)
              refine wpAnyH_take (i := 0) (oi := { dst := some 52, op := Op.load 24 (Operand.tmp 7), type := 24, pos := "ref.go:179", after := #[], guard := none }) (v := ?_) rfl (by kernel_rfl) (by kernel_rfl) (by kernel_rfl) (fun _ _ _ h => h) (Or.inl ⟨by rfl, ?_⟩) hHeld ?_
              rotate_left
              · intro w hSw; (try dsimp only at hSw); have e0 := (hSw.cell (p := ⟨gl, 0, none⟩) HXL.out.lt).trans HXL.out.c0; have e1 := (hSw.cell (p := ⟨gl, 1, none⟩) HXL.out.lt).trans HXL.out.c1; go_simp; first | done | with_reducible rfl
              try simp only [Act.put, List.setIfInBounds_toArray, List.set_cons_zero, List.set_cons_succ]
              refine wpAnyH_take (i := 1) (oi := { dst := some 53, op := Op.move (Operand.tmp 1), type := 37, pos := "ref.go:179", after := #[], guard := none }) (v := ?_) rfl (by kernel_rfl) (by kernel_rfl) (by kernel_rfl) (fun _ _ _ h => h) (Or.inl ⟨by rfl, ?_⟩) hHeld ?_
              rotate_left
              · intro w hSw; (try dsimp only at hSw); go_simp; first | done | with_reducible rfl
              try simp only [Act.put, List.setIfInBounds_toArray, List.set_cons_zero, List.set_cons_succ]
              refine wpAnyH_take (i := 3) (oi := { dst := some 55, op := Op.load 24 (Operand.tmp 8), type := 24, pos := "ref.go:179", after := #[], guard := none }) (v := ?_) rfl (by kernel_rfl) (by kernel_rfl) (by kernel_rfl) (fun _ _ _ h => h) (Or.inl ⟨by rfl, ?_⟩) hHeld ?_
              rotate_left
              · intro w hSw; (try dsimp only at hSw); have e0 := (hSw.cell (p := ⟨gh, 0, none⟩) HXH.out.lt).trans HXH.out.c0; have e1 := (hSw.cell (p := ⟨gh, 1, none⟩) HXH.out.lt).trans HXH.out.c1; go_simp; first | done | with_reducible rfl
              try simp only [Act.put, List.setIfInBounds_toArray, List.set_cons_zero, List.set_cons_succ]
              refine wpAnyH_take (i := 4) (oi := { dst := some 56, op := Op.move (Operand.tmp 1), type := 37, pos := "ref.go:179", after := #[], guard := none }) (v := ?_) rfl (by kernel_rfl) (by kernel_rfl) (by kernel_rfl) (fun _ _ _ h => h) (Or.inl ⟨by rfl, ?_⟩) hHeld ?_
              rotate_left
              · intro w hSw; (try dsimp only at hSw); go_simp; first | done | with_reducible rfl
              try simp only [Act.put, List.setIfInBounds_toArray, List.set_cons_zero, List.set_cons_succ]
              refine wpAnyH_ready (rs := [2]) (by kernel_rfl) (by simp) ?_
              refine AllReadyH.cons (o := { dst := some 54, op := Op.call { callee := Callee.value (Operand.func 49), args := #[Operand.tmp 52, Operand.tmp 53], argTypes := #[24, 37] }, type := 37, pos := "ref.go:179", after := #[{ on := 0, ground := Ground.data }, { on := 1, ground := Ground.data }], guard := none }) rfl (fun K hK => ?_) AllReadyH.nil
              clear hHeld
              go_simp
              refine (HI1.out _ _ (HL.out.below (HBW.out.trans (((Below.refl wc.heap.size wc).drew).mono HBW.out.size)))).mono ?_
              rintro e wr1 ⟨v1, rfl, hR1, hB⟩
              have HR1 := hide (((Below.refl wc.heap.size wc).drew).trans hB)
              have HV1 := hide hR1
              clear hB hR1
              refine hK.out _ _ (HR1.out) (fun hHeld => ?_)
              clear hK K
              try simp only [Act.put, List.setIfInBounds_toArray, List.set_cons_zero, List.set_cons_succ]
              refine wpAnyH_ready (rs := [5]) (by kernel_rfl) (by simp) ?_
              refine AllReadyH.cons (o := { dst := some 57, op := Op.call { callee := Callee.value (Operand.func 49), args := #[Operand.tmp 55, Operand.tmp 56], argTypes := #[24, 37] }, type := 37, pos := "ref.go:179", after := #[{ on := 3, ground := Ground.data }, { on := 4, ground := Ground.data }, { on := 2, ground := Ground.chain }], guard := none }) rfl (fun K hK => ?_) AllReadyH.nil
              clear hHeld
              go_simp
              refine (HI2.out _ _ (HL.out.below (HBW.out.trans (HR1.out.mono HBW.out.size)))).mono ?_
              rintro e wr2 ⟨v2, rfl, hR2, hB⟩
              have HR2 := hide (HR1.out.trans (hB.mono HR1.out.size))
              have HV2 := hide hR2.cAt
              have HV1b := hide (HV1.out.below hB)
              clear hB hR2
              refine hK.out _ _ (HR2.out) (fun hHeld => ?_)
              clear hK K
              try simp only [Act.put, List.setIfInBounds_toArray, List.set_cons_zero, List.set_cons_succ]
              refine wpAnyH_ready (rs := [6]) (by kernel_rfl) (by simp) ?_
              refine AllReadyH.cons (o := { dst := some 58, op := Op.call { callee := Callee.builtin Builtin.append, args := #[Operand.tmp 54, Operand.tmp 57], argTypes := #[37, 37] }, type := 37, pos := "ref.go:179", after := #[{ on := 2, ground := Ground.data }, { on := 5, ground := Ground.data }, { on := 5, ground := Ground.chain }], guard := none }) rfl (fun K hK => ?_) AllReadyH.nil
              clear hHeld
              rw [if_pos (by rfl)]
              obtain ⟨v3, w9, hrun, hR3, hK3, _⟩ := append_nets wr2 wc.heap.size v1 cA (HV1b.out.base (by exact Nat.le_refl _)) v2 cB HV2.out HLN.out HR2.out.size
              refine wp_append_run (.tmp 54) (.tmp 57) 37 37 37 rfl rfl _ _ v3 w9 rfl rfl hrun ?_
              have HR3 := hide (hK3.through HR2.out (fun x hx => HV1b.out.ge hx) HR2.out.size)
              have HV3 := hide hR3
              clear hrun hR3 hK3
              refine hK.out _ _ (HR3.out) (fun hHeld => ?_)
              clear hK K
              try simp only [Act.put, List.setIfInBounds_toArray, List.set_cons_zero, List.set_cons_succ]
              refine wpAnyH_take (i := 7) (oi := { dst := some 4, op := Op.assign (Operand.tmp 58), type := 37, pos := "ref.go:179", after := #[{ on := 6, ground := Ground.data }, { on := 6, ground := Ground.chain }, { on := 0, ground := Ground.phase }, { on := 1, ground := Ground.phase }, { on := 2, ground := Ground.phase }, { on := 3, ground := Ground.phase }, { on := 4, ground := Ground.phase }, { on := 5, ground := Ground.phase }, { on := 6, ground := Ground.phase }], guard := none }) (v := ?_) rfl (by kernel_rfl) (by kernel_rfl) (by kernel_rfl) (fun _ _ _ h => h) (Or.inl ⟨by rfl, ?_⟩) hHeld ?_
              rotate_left
              · intro w hSw; (try dsimp only at hSw); go_simp; first | done | with_reducible rfl
              try simp only [Act.put, List.setIfInBounds_toArray, List.set_cons_zero, List.set_cons_succ]
              refine wpAnyH_done (by kernel_rfl) ?_ _
              clear hHeld
              go_wp2_with fail
              go_ret
              refine ⟨_, rfl, ?_, HBW.out.trans (HR3.out.mono HBW.out.size)⟩
              rw [HFF.out]
              exact HV3.out.base HBW.out.size

theorem net_zero : (Net.val ⟨0, 0⟩) = .agg #[.int .u32 ((0 : Nat) : Int), .int .i64 (32 - ((32 : Nat) : Int))] := rfl
set_option maxRecDepth 100000 in
theorem mergeR_any (v : Value) (l : List Net) (w : World) (hC : CAt w v l) (hf : ∀ c ∈ l, c.a < 4294967296) (hl : l.length ≤ 1000) : Calls Tryd.prog 34 #[v] w (RMPost w (mergeS l)) := by
  have HR : Hid (∀ W, CAt W v l → Calls Tryd.prog 49 #[.agg #[.int .u32 0, .int .i64 0], v] W (RMPost W (mergeS l))) := hide (fun W h => rmerge_any l hf hl 32 (Nat.le_refl _) 0 ⟨0, rfl⟩ (by decide) v W h)
  have HC := hide hC
  clear hC
  unfold RMPost at HR ⊢
  generalize mergeS l = q at *
  go_enter Tryd.func34, Tryd.ntmps34
  go_wp2_with fail
  refine (HR.out _ HC.out).mono ?_
  rintro e w2 ⟨v2, rfl, hR, hB⟩
  have HX := hide (And.intro hR hB)
  clear hR hB
  go_wp2_with fail
  go_ret
  exact ⟨_, rfl, HX.out.1, HX.out.2⟩
end Go.Proofs.YtgikkjjnoakhdaaDoor
