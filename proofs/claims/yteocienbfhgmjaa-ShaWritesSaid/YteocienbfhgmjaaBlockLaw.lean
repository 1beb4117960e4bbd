/- The law ShaBlock: an array of numbers as an argument, and its walk. -/
import Derived.Test.YteocienbfhgmjaaProg
import Derived.Test.YteocienbfhgmjaaPl
import Derived.Test.YteocienbfhgmjaaFrame
import Derived.ChangeSlices
import Derived.Test.YteocienbfhgmjaaRt6
import Derived.Test.YteocienbfhgmjaaRefOf
import Derived.Test.YteocienbfhgmjaaAwake
import Derived.Deep.RegionHeld3
import Derived.Deep.RegionWith
import Derived.Deep.MidRow
namespace Go.Proofs.Yteocienbfhgmjaa
open Go.ChangeShapes Go.WideShapes Go.ChangeAt Go.RowKit

theorem nat_of' {a : Int} (w0 : (Lit.int .u64 a).wf = true) : ∃ n : Nat, a = n ∧ n < 18446744073709551616 := by
  have h := w0
  simp [Lit.wf, IntKind.min, IntKind.max, IntKind.signed, IntKind.bits] at h
  exact ⟨a.toNat, by omega, by omega⟩

theorem mapM_each {α β : Type} {f : α → Option β} : ∀ {L : List α} {ys : List β}, L.mapM f = some ys → ∀ i ∈ L, ∃ y, f i = some y
  | [], _, _, i, hi => by cases hi
  | a :: L, ys, h, i, hi => by
    rw [List.mapM_cons] at h
    simp only [bind, Option.bind_eq_some_iff, pure, Option.some.injEq] at h
    obtain ⟨y, hy, zs, hz, _⟩ := h
    rcases List.mem_cons.1 hi with rfl | hi
    · exact ⟨y, hy⟩
    · exact mapM_each hz i hi

theorem arg_arr {H : Type} {enc : TypeId × Value → H} {P : Program} {W : World} {r : Reach} {base : Nat} {t e : TypeId} {n : Nat} {k : IntKind} {v : Value} {d : DataW H} {p : List MemPlace} (hu : P.underlying t = some (.array n e)) (he : P.underlying e = some (.int k)) (hce : P.cellsOf e = 1) (hct : P.cellsOf t = n)
    (hval : Value.okWide P W r base t v) (h0 : DataW.Trod enc P W 0 (fun _ => true) true t v d p) : ∃ zs : List Int, v = .agg (cellsOf k zs) ∧ zs.length = n ∧ ∀ i, i < n → (Lit.int k (nth zs i)).wf = true := by
  simp only [Value.okWide, hu] at hval
  obtain ⟨cs, rfl, h2, _⟩ := hval
  rw [hct] at h2
  obtain ⟨fuel, hf⟩ := h0
  have hall : ∀ i, i < n → ∃ a, cs[i]? = some (.int k a) ∧ (Lit.int k a).wf = true := by
    cases fuel with
    | zero => simp [DataW.trod] at hf
    | succ m =>
      rw [DataW.trod_step] at hf
      unfold DataW.trodStep at hf
      simp only [hu, Value.cells] at hf
      rw [if_pos (by rw [hct]; simpa using h2)] at hf
      simp only [Option.map_eq_some_iff] at hf
      obtain ⟨ys, hy, _⟩ := hf
      intro i hi
      obtain ⟨y, hy2⟩ := mapM_each hy i (by simpa using hi)
      obtain ⟨a, ea, _, wa⟩ := DataW.trod_int he hy2
      rw [hce, Nat.mul_one] at ea
      refine ⟨a, ?_, wa⟩
      have := congrArg (fun l => l[0]?) ea
      simpa [List.getElem?_take, List.getElem?_drop] using this
  refine ⟨cs.toList.map (fun v => match v with | .int _ a => a | _ => 0), ?_, by simp [h2], fun i hi => ?_⟩
  · congr 1
    apply Array.ext'
    rw [toArray_cellsOf, List.map_map]
    apply List.ext_getElem?
    intro i
    rw [List.getElem?_map, Array.getElem?_toList]
    rcases Nat.lt_or_ge i n with hi | hi
    · obtain ⟨a, ha, _⟩ := hall i hi
      rw [ha]; rfl
    · rw [Array.getElem?_eq_none (by omega)]; rfl
  · obtain ⟨a, ha, hw⟩ := hall i hi
    have : nth (cs.toList.map (fun v => match v with | .int _ a => a | _ => 0)) i = a := by
      simp [nth, List.getD, List.getElem?_map, ha]
    rw [this]; exact hw
end Go.Proofs.Yteocienbfhgmjaa
namespace Go.Proofs.Yteocienbfhgmjaa
open Go.RowKit

theorem under24 : Try.prog.underlying 24 = some (.array 8 23) := Try.underlying24

theorem SlAt.string {P : Program} {w : World} {v : Value} {xs : List Int} (h : SlAt w v xs) (src e dst : Nat) (hs : P.underlying src = some (.slice e)) (he : P.underlying e = some (.int .u8)) (hd : P.underlying dst = some .string) :
    (convert src dst v).run P w = .ok (.string (strOfNums xs)) w := by
  obtain ⟨ao, cap, rfl, hn, _, ha⟩ := h
  cases hao : ao with
  | none =>
    obtain ⟨rfl, rfl⟩ := hn hao
    exact run_convert_bytes_nil w src e hs he _ _ dst hd
  | some ad =>
    by_cases h0 : 0 < xs.length
    · have hsp := (ha ad hao 0 h0).1
      obtain ⟨g, off, sp⟩ := ad
      cases hsp
      exact run_convert_bytes_arg w src e hs he g off xs.length cap xs rfl (fun i hi => by have := (ha _ hao i hi).2.2; rw [addr_plain] at this; rw [this]; simp [nth]) dst hd
    · have hx : xs = [] := List.eq_nil_of_length_eq_zero (by omega)
      subst hx
      have hl : (loadCells ad 0).run P w = .ok #[] w := by simpa using run_loadCells_list (P := P) w ad [] (by simp)
      rw [show ([] : List Int).length = 0 from rfl, run_convert_bytes_string w src dst e _ 0 cap hs he hd, run_bytesToString w _ 0 cap [] (by simpa using hl)]
      rfl

set_option maxRecDepth 100000 in
set_option maxHeartbeats 1000000 in
theorem block_walk (zs xs : List Int) (n : Nat) (v : Value) (w : World) (hz : zs.length = 8) (hx : SlAt w v xs) (hb : ∀ x ∈ xs, 0 ≤ x ∧ x < 256) (hm : xs.length ≤ maxLen) :
    Calls Try.prog 4 #[.agg (cellsOf .u32 zs), v, .int .u64 n] w (LawPost w) := by
  obtain ⟨ao, cap, rfl⟩ := hx.len
  have HX := hide hx
  have HBY := hide hb
  have HZ := hide hz
  obtain ⟨m, hn⟩ : ∃ n, n = xs.length := ⟨_, rfl⟩
  have HN := hide hn
  rw [← hn] at HX hm ⊢
  unfold maxLen at hm
  clear hx hn hb hz
  go_enter Try.func4, Try.ntmps4
  by_cases hbig : 1000 < m
  · go_wp2_with fail
    refine (awake_any _).mono ?_
    rintro e w1 ⟨rfl, hB⟩
    have hBF := below_through hB ((Below.refl w.heap.size w).alloc (Nat.le_refl _) _)
    clear hB
    go_wp2_with fail
    go_ret
    exact ⟨rfl, hBF⟩
  · have hb0 : Blk (w.alloc (.cells (cellsOf .u32 zs) 24)) w.heap.size 24 .u32 zs := Blk.new _ _ _ _
    have hB0 : Below w.heap.size w (w.alloc (.cells (cellsOf .u32 zs) 24)) := (Below.refl _ _).alloc (Nat.le_refl _) _
    have HB0 := hide hB0
    have Hb0 := hide hb0
    clear hB0 hb0
    go_wp2_with (first | (with_reducible refine wpList_load_row rfl 24 (.tmp 3) rfl w.heap.size rfl _ _ (0, 0) _ Hb0.out.row Try.underlying24 rfl (sz24 zs HZ.out) ?_))
    clear hbig
    by_cases h64 : m = 64
    · subst h64
      have HG := hide (block_good zs xs (.slice ao 64 cap) (w.alloc (.cells (cellsOf .u32 zs) 24)) HZ.out (HX.out.below HB0.out) HN.out.symm)
      refine HG.out.mono ?_
      rintro e w1 ⟨rfl, hBX⟩
      have HB1 := hide (below_through hBX HB0.out)
      have Hb1 := hide (blk_through hBX Hb0.out)
      clear hBX HG HB0 Hb0
      obtain ⟨st, hst⟩ : ∃ st, st = takeS zs keysS xs := ⟨_, rfl⟩
      have hl8 : st.length = 8 := by rw [hst, length_takeS]; exact HZ.out
      rw [← hst]
      have HST := hide hst
      have HL8 := hide hl8
      clear hst hl8
      go_wp2_with (first | (with_reducible refine wpList_alloc_row rfl 24 rfl (cellsOf .u32 zeros8) zero24 ?_) | (with_reducible refine wpList_store_row rfl 24 (.tmp 7) (.tmp 17) rfl w1.heap.size (cellsOf .u32 st) rfl rfl _ _ (heap_alloc_new _ _) (sz24 st HL8.out) (szZ8 st HL8.out) (oneCell_cellsOf _ _) ?_))
      have hB2 : Below w.heap.size w ((w1.alloc (.cells (cellsOf .u32 zeros8) 24)).setRow w1.heap.size (cellsOf .u32 st)) := below_setRow (HB1.out.alloc HB1.out.size _) HB1.out.size _
      have hb2 : Blk ((w1.alloc (.cells (cellsOf .u32 zeros8) 24)).setRow w1.heap.size (cellsOf .u32 st)) w1.heap.size 24 .u32 st := (Blk.new w1 _ .u32 zeros8).setRow st
      have hb3 : Blk ((w1.alloc (.cells (cellsOf .u32 zeros8) 24)).setRow w1.heap.size (cellsOf .u32 st)) w.heap.size 24 .u32 zs := (Hb1.out.alloc _).rowOther _ _ (Nat.ne_of_lt Hb1.out.lt)
      generalize ((w1.alloc (.cells (cellsOf .u32 zeros8) 24)).setRow w1.heap.size (cellsOf .u32 st)) = w2 at hB2 hb2 hb3 ⊢
      generalize w1.heap.size = gx at hb2 ⊢
      have HB2 := hide hB2
      have Hb2 := hide hb2
      have Hb3 := hide hb3
      clear hB2 hb2 hb3 HB1 Hb1
      go_wp2_with fail
      have HE1 : Hid (∀ W, Calls Try.prog 18 #[.int .u64 n] W (EndSl n W)) := hide (fun W => end_sl n W)
      go_region_with (first | (go_at_call 18; refine (HE1.out _).mono ?_; rintro e wB ⟨ap, rfl, hsl, hBX⟩; (have hBW : Below w2.heap.size w2 wB := (Below.refl w2.heap.size w2).drew.trans hBX); have hcv1 := hsl.string (P := Try.prog) 28 5 9 Try.underlying28 Try.underlying5 Try.underlying9; have HSL := hide hsl; clear hsl hBX) | (go_at_call 19; refine (end_ref n _).mono ?_; rintro e wC ⟨aq, rfl, hsl2, hBX⟩; (have hBV : Below w2.heap.size w2 wC := hBW.trans (hBX.mono hBW.size)); have hcv3 := (HSL.out.below hBX).string (P := Try.prog) 28 5 9 Try.underlying28 Try.underlying5 Try.underlying9; have hcv2 := hsl2.string (P := Try.prog) 28 5 9 Try.underlying28 Try.underlying5 Try.underlying9; clear hsl2 hBX))
      all_goals
        have Hx := hide (blk_through hBV Hb2.out)
        have Hh := hide (blk_through hBV Hb3.out)
        have HBt := hide (below_through hBV HB2.out)
        clear hcv1 hcv2 hcv3 hBW hBV HB2 Hb2 Hb3 HSL
        go_wp2_with fail
        obtain ⟨wr, hwr⟩ : ∃ wr, wr = wC := ⟨wC, rfl⟩
        rw [← hwr] at Hx Hh HBt ⊢
        clear hwr
        have hgx := Hx.out.lt
        have hgh := Hh.out.lt
        obtain ⟨CX, hCX⟩ : ∃ C, C = st.map (Value.int .u32) := ⟨_, rfl⟩
        obtain ⟨CH, hCH⟩ : ∃ C, C = zs.map (Value.int .u32) := ⟨_, rfl⟩
        have HIX : Hid ((Try.prog.info? 24).map (·.size) = some CX.length) := hide (by rw [hCX, List.length_map, HL8.out]; exact size24)
        have HIH : Hid ((Try.prog.info? 24).map (·.size) = some CH.length) := hide (by rw [hCH, List.length_map, HZ.out]; exact size24)
        have HS0 : Hid (∀ W, Below wr.heap.size wr W → W.rangeAt gx 0 CX ∧ W.rangeAt w.heap.size 0 CH) := hide (fun W hb => ⟨fun j v hv => (hb.cell (p := ⟨gx, 0 + j, none⟩) hgx).trans (blk_rangeK Hx.out j v (by rw [← hCX]; exact hv)), fun j v hv => (hb.cell (p := ⟨w.heap.size, 0 + j, none⟩) hgh).trans (blk_rangeK Hh.out j v (by rw [← hCH]; exact hv))⟩)
        have HBL : Hid (∀ W, Below wr.heap.size wr W → Calls Try.prog 20 #[.agg CH.toArray, .slice ao 64 cap, .agg (cellsOf .u32 keysS)] W (fun e w' => e = .returned (.agg CX.toArray) ∧ Below W.heap.size W w')) := hide (fun W hb => by
          have h := block_ref zs keysS xs (.slice ao 64 cap) W (hide HZ.out) (hide rfl) (hide HN.out.symm) (hide HBY.out) (HX.out.below (HBt.out.trans (hb.mono HBt.out.size)))
          rw [← HST.out] at h
          rw [hCX, hCH]
          exact h)
        have heq : ∀ w, (Op.equalIn 10000 24 (.agg CX.toArray) (.agg CX.toArray)).run Try.prog w = .ok true w := by
          rw [hCX]
          exact eqAgg 8 24 23 Try.underlying24 Try.underlying23 size23 st HL8.out
        clear hCX hCH
        refine wp_region_held_drew (S := fun w' => w'.rangeAt gx 0 CX ∧ w'.rangeAt w.heap.size 0 CH) (by kernel_rfl) (HS0.out _ (Below.refl _ _).drew) (fun hHeld => ?_)
        refine wpAnyH_take (i := 0) (oi := { dst := some 39, op := Op.move (Operand.tmp 8), type := 30, pos := "law.go:33", after := #[], guard := none }) (v := ?_) rfl (by kernel_rfl) (by kernel_rfl) (by kernel_rfl) (fun _ _ _ h => h) (Or.inl ⟨by rfl, ?_⟩) hHeld ?_
        rotate_left
        · intro w hSw; (try dsimp only at hSw); go_simp; first | done | with_reducible rfl
        try simp only [Act.put, List.setIfInBounds_toArray, List.set_cons_zero, List.set_cons_succ]
        refine wpAnyH_take (i := 1) (oi := { dst := some 40, op := Op.binOp BinOp.eql 30 (Operand.tmp 39) (Operand.const (Value.int IntKind.i64 0)) 30, type := 4, pos := "law.go:33", after := #[{ on := 0, ground := Ground.data }], guard := none }) (v := ?_) rfl (by kernel_rfl) (by kernel_rfl) (by kernel_rfl) (fun _ _ _ h => h) (Or.inl ⟨by rfl, ?_⟩) hHeld ?_
        rotate_left
        · intro w hSw; (try dsimp only at hSw); go_simp; first | done | with_reducible rfl
        try simp only [Act.put, List.setIfInBounds_toArray, List.set_cons_zero, List.set_cons_succ]
        refine wpAnyH_take (i := 2) (oi := { dst := some 41, op := Op.move (Operand.tmp 40), type := 4, pos := "law.go:33", after := #[{ on := 1, ground := Ground.data }], guard := none }) (v := ?_) rfl (by kernel_rfl) (by kernel_rfl) (by kernel_rfl) (fun _ _ _ h => h) (Or.inl ⟨by rfl, ?_⟩) hHeld ?_
        rotate_left
        · intro w hSw; (try dsimp only at hSw); go_simp; first | done | with_reducible rfl
        try simp only [Act.put, List.setIfInBounds_toArray, List.set_cons_zero, List.set_cons_succ]
        refine wpAnyH_take (i := 3) (oi := { dst := some 42, op := Op.load 24 (Operand.tmp 7), type := 24, pos := "law.go:33", after := #[{ on := 2, ground := Ground.guard }], guard := some (2, true) }) (v := .agg CX.toArray) rfl (by kernel_rfl) (by kernel_rfl) (by kernel_rfl) (fun _ _ _ h => h) (yieldsIf_load_mid (by rfl) _ _ rfl gx 0 rfl CX _ (fun w hS => hS.1) under24 rfl HIX.out) hHeld ?_
        try simp only [Act.put, List.setIfInBounds_toArray, List.set_cons_zero, List.set_cons_succ]
        refine wpAnyH_take (i := 4) (oi := { dst := some 43, op := Op.load 24 (Operand.tmp 3), type := 24, pos := "law.go:33", after := #[{ on := 2, ground := Ground.guard }], guard := some (2, true) }) (v := .agg CH.toArray) rfl (by kernel_rfl) (by kernel_rfl) (by kernel_rfl) (fun _ _ _ h => h) (yieldsIf_load_mid (by rfl) _ _ rfl w.heap.size 0 rfl CH _ (fun w hS => hS.2) under24 rfl HIH.out) hHeld ?_
        try simp only [Act.put, List.setIfInBounds_toArray, List.set_cons_zero, List.set_cons_succ]
        refine wpAnyH_take (i := 5) (oi := { dst := some 44, op := Op.move (Operand.tmp 1), type := 28, pos := "law.go:33", after := #[{ on := 2, ground := Ground.guard }], guard := some (2, true) }) (v := ?_) rfl (by kernel_rfl) (by kernel_rfl) (by kernel_rfl) (fun _ _ _ h => h) (Or.inl ⟨by rfl, ?_⟩) hHeld ?_
        rotate_left
        · intro w hSw; (try dsimp only at hSw); go_simp; first | done | with_reducible rfl
        try simp only [Act.put, List.setIfInBounds_toArray, List.set_cons_zero, List.set_cons_succ]
        refine wpAnyH_ready (rs := [6]) (by kernel_rfl) (by simp) ?_
        refine AllReadyH.cons (o := { dst := some 45, op := Op.call { callee := Callee.value (Operand.func 15), args := #[], argTypes := #[] }, type := 26, pos := "law.go:33", after := #[{ on := 2, ground := Ground.chain }, { on := 2, ground := Ground.guard }], guard := some (2, true) }) rfl (fun K hK => ?_) AllReadyH.nil
        clear hHeld
        go_simp
        refine (keysR _).mono ?_
        rintro e wk ⟨rfl, hBX⟩
        have HBk := hide ((Below.refl wr.heap.size wr).drew.trans hBX)
        clear hBX
        dsimp only
        refine hK.out _ _ (HS0.out _ HBk.out) (fun hHeld => ?_)
        clear hK K
        try simp only [Act.put, List.setIfInBounds_toArray, List.set_cons_zero, List.set_cons_succ]
        refine wpAnyH_ready (rs := [7]) (by kernel_rfl) (by simp) ?_
        refine AllReadyH.cons (o := { dst := some 46, op := Op.call { callee := Callee.value (Operand.func 20), args := #[Operand.tmp 43, Operand.tmp 44, Operand.tmp 45], argTypes := #[24, 28, 26] }, type := 24, pos := "law.go:33", after := #[{ on := 4, ground := Ground.data }, { on := 5, ground := Ground.data }, { on := 6, ground := Ground.data }, { on := 6, ground := Ground.chain }, { on := 2, ground := Ground.guard }], guard := some (2, true) }) rfl (fun K hK => ?_) AllReadyH.nil
        clear hHeld
        go_simp
        refine (HBL.out _ HBk.out).mono ?_
        rintro e wb ⟨rfl, hBX⟩
        have HBb := hide (HBk.out.trans (hBX.mono HBk.out.size))
        clear hBX
        dsimp only
        refine hK.out _ _ (HS0.out _ HBb.out) (fun hHeld => ?_)
        clear hK K
        try simp only [Act.put, List.setIfInBounds_toArray, List.set_cons_zero, List.set_cons_succ]
        refine wpAnyH_take (i := 8) (oi := { dst := some 47, op := Op.binOp BinOp.eql 24 (Operand.tmp 42) (Operand.tmp 46) 24, type := 4, pos := "law.go:33", after := #[{ on := 3, ground := Ground.data }, { on := 7, ground := Ground.data }, { on := 2, ground := Ground.guard }], guard := some (2, true) }) (v := ?_) rfl (by kernel_rfl) (by kernel_rfl) (by kernel_rfl) (fun _ _ _ h => h) (Or.inl ⟨by rfl, ?_⟩) hHeld ?_
        rotate_left
        · intro w hSw; (try dsimp only at hSw); go_simp; first | done | with_reducible rfl
        try simp only [Act.put, List.setIfInBounds_toArray, List.set_cons_zero, List.set_cons_succ]
        refine wpAnyH_take (i := 9) (oi := { dst := some 48, op := Op.pick (Operand.tmp 41) (Operand.tmp 47) (Operand.const (Value.bool false)), type := 4, pos := "law.go:33", after := #[{ on := 2, ground := Ground.data }, { on := 8, ground := Ground.data }], guard := none }) (v := ?_) rfl (by kernel_rfl) (by kernel_rfl) (by kernel_rfl) (fun _ _ _ h => h) (Or.inl ⟨by rfl, ?_⟩) hHeld ?_
        rotate_left
        · intro w hSw; (try dsimp only at hSw); go_simp; first | done | with_reducible rfl
        try simp only [Act.put, List.setIfInBounds_toArray, List.set_cons_zero, List.set_cons_succ]
        refine wpAnyH_take (i := 10) (oi := { dst := some 49, op := Op.move (Operand.tmp 48), type := 4, pos := "law.go:33", after := #[{ on := 9, ground := Ground.data }, { on := 7, ground := Ground.chain }], guard := none }) (v := ?_) rfl (by kernel_rfl) (by kernel_rfl) (by kernel_rfl) (fun _ _ _ h => h) (Or.inl ⟨by rfl, ?_⟩) hHeld ?_
        rotate_left
        · intro w hSw; (try dsimp only at hSw); go_simp; first | done | with_reducible rfl
        try simp only [Act.put, List.setIfInBounds_toArray, List.set_cons_zero, List.set_cons_succ]
        refine wpAnyH_ready (rs := [11]) (by kernel_rfl) (by simp) ?_
        refine AllReadyH.cons (o := { dst := some 50, op := Op.call { callee := Callee.value (Operand.func 16), args := #[], argTypes := #[] }, type := 4, pos := "law.go:33", after := #[{ on := 10, ground := Ground.chain }, { on := 10, ground := Ground.guard }], guard := some (10, true) }) rfl (fun K hK => ?_) AllReadyH.nil
        clear hHeld
        go_simp
        refine (awake_any _).mono ?_
        rintro e wa ⟨rfl, hBX⟩
        have HBa := hide (HBb.out.trans (hBX.mono HBb.out.size))
        clear hBX
        dsimp only
        refine hK.out _ _ (HS0.out _ HBa.out) (fun hHeld => ?_)
        clear hK K
        try simp only [Act.put, List.setIfInBounds_toArray, List.set_cons_zero, List.set_cons_succ]
        refine wpAnyH_take (i := 12) (oi := { dst := some 51, op := Op.pick (Operand.tmp 49) (Operand.tmp 50) (Operand.const (Value.bool false)), type := 4, pos := "law.go:33", after := #[{ on := 10, ground := Ground.data }, { on := 11, ground := Ground.data }], guard := none }) (v := ?_) rfl (by kernel_rfl) (by kernel_rfl) (by kernel_rfl) (fun _ _ _ h => h) (Or.inl ⟨by rfl, ?_⟩) hHeld ?_
        rotate_left
        · intro w hSw; (try dsimp only at hSw); go_simp; first | done | with_reducible rfl
        try simp only [Act.put, List.setIfInBounds_toArray, List.set_cons_zero, List.set_cons_succ]
        refine wpAnyH_take (i := 13) (oi := { dst := some 6, op := Op.assign (Operand.tmp 51), type := 4, pos := "law.go:33", after := #[{ on := 12, ground := Ground.data }, { on := 11, ground := Ground.chain }, { on := 0, ground := Ground.phase }, { on := 1, ground := Ground.phase }, { on := 2, ground := Ground.phase }, { on := 3, ground := Ground.phase }, { on := 4, ground := Ground.phase }, { on := 5, ground := Ground.phase }, { on := 6, ground := Ground.phase }, { on := 7, ground := Ground.phase }, { on := 8, ground := Ground.phase }, { on := 9, ground := Ground.phase }, { on := 10, ground := Ground.phase }, { on := 11, ground := Ground.phase }, { on := 12, ground := Ground.phase }], guard := none }) (v := ?_) rfl (by kernel_rfl) (by kernel_rfl) (by kernel_rfl) (fun _ _ _ h => h) (Or.inl ⟨by rfl, ?_⟩) hHeld ?_
        rotate_left
        · intro w hSw; (try dsimp only at hSw); go_simp; first | done | with_reducible rfl
        try simp only [Act.put, List.setIfInBounds_toArray, List.set_cons_zero, List.set_cons_succ]
        refine wpAnyH_done (by kernel_rfl) ?_ _
        go_wp2_with fail
        go_ret
        exact ⟨rfl, HBt.out.trans (HBa.out.mono HBt.out.size)⟩
    · have HG := hide (block_bad zs xs (.slice ao m cap) (w.alloc (.cells (cellsOf .u32 zs) 24)) (HX.out.below HB0.out) (by rw [← HN.out]; exact h64))
      refine HG.out.mono ?_
      rintro e w1 ⟨rfl, hBX⟩
      have HB1 := hide (below_through hBX HB0.out)
      have Hb1 := hide (blk_through hBX Hb0.out)
      clear hBX HG HB0 Hb0
      obtain ⟨st, hst⟩ : ∃ st, st = zeros8 := ⟨_, rfl⟩
      have hl8 : st.length = 8 := by rw [hst]; rfl
      rw [← hst]
      have HST := hide hst
      have HL8 := hide hl8
      clear hst hl8
      go_wp2_with (first | (with_reducible refine wpList_alloc_row rfl 24 rfl (cellsOf .u32 zeros8) zero24 ?_) | (with_reducible refine wpList_store_row rfl 24 (.tmp 7) (.tmp 17) rfl w1.heap.size (cellsOf .u32 st) rfl rfl _ _ (heap_alloc_new _ _) (sz24 st HL8.out) (szZ8 st HL8.out) (oneCell_cellsOf _ _) ?_))
      have hB2 : Below w.heap.size w ((w1.alloc (.cells (cellsOf .u32 zeros8) 24)).setRow w1.heap.size (cellsOf .u32 st)) := below_setRow (HB1.out.alloc HB1.out.size _) HB1.out.size _
      have hb2 : Blk ((w1.alloc (.cells (cellsOf .u32 zeros8) 24)).setRow w1.heap.size (cellsOf .u32 st)) w1.heap.size 24 .u32 st := (Blk.new w1 _ .u32 zeros8).setRow st
      have hb3 : Blk ((w1.alloc (.cells (cellsOf .u32 zeros8) 24)).setRow w1.heap.size (cellsOf .u32 st)) w.heap.size 24 .u32 zs := (Hb1.out.alloc _).rowOther _ _ (Nat.ne_of_lt Hb1.out.lt)
      generalize ((w1.alloc (.cells (cellsOf .u32 zeros8) 24)).setRow w1.heap.size (cellsOf .u32 st)) = w2 at hB2 hb2 hb3 ⊢
      generalize w1.heap.size = gx at hb2 ⊢
      have HB2 := hide hB2
      have Hb2 := hide hb2
      have Hb3 := hide hb3
      clear hB2 hb2 hb3 HB1 Hb1
      go_wp2_with fail
      have HE1 : Hid (∀ W, Calls Try.prog 18 #[.int .u64 n] W (EndSl n W)) := hide (fun W => end_sl n W)
      go_region_with (first | (go_at_call 18; refine (HE1.out _).mono ?_; rintro e wB ⟨ap, rfl, hsl, hBX⟩; (have hBW : Below w2.heap.size w2 wB := (Below.refl w2.heap.size w2).drew.trans hBX); have hcv1 := hsl.string (P := Try.prog) 28 5 9 Try.underlying28 Try.underlying5 Try.underlying9; have HSL := hide hsl; clear hsl hBX) | (go_at_call 19; refine (end_ref n _).mono ?_; rintro e wC ⟨aq, rfl, hsl2, hBX⟩; (have hBV : Below w2.heap.size w2 wC := hBW.trans (hBX.mono hBW.size)); have hcv3 := (HSL.out.below hBX).string (P := Try.prog) 28 5 9 Try.underlying28 Try.underlying5 Try.underlying9; have hcv2 := hsl2.string (P := Try.prog) 28 5 9 Try.underlying28 Try.underlying5 Try.underlying9; clear hsl2 hBX))
      all_goals
        have Hx := hide (blk_through hBV Hb2.out)
        have HBt := hide (below_through hBV HB2.out)
        clear hcv1 hcv2 hcv3 hBW hBV HB2 Hb2 Hb3 HSL
        have heq : ∀ w, (Op.equalIn 10000 24 (.agg #[.int .u32 0, .int .u32 0, .int .u32 0, .int .u32 0, .int .u32 0, .int .u32 0, .int .u32 0, .int .u32 0]) (.agg #[.int .u32 0, .int .u32 0, .int .u32 0, .int .u32 0, .int .u32 0, .int .u32 0, .int .u32 0, .int .u32 0])).run Try.prog w = .ok true w :=
          eqAgg 8 24 23 Try.underlying24 Try.underlying23 size23 zeros8 rfl
        have hxz : Blk wC gx 24 .u32 zeros8 := by rw [← HST.out]; exact Hx.out
        have c0 : wC.cell? ⟨gx, 0, none⟩ = some (.int .u32 0) := hxz.cell 0 (by decide)
        have c1 : wC.cell? ⟨gx, 1, none⟩ = some (.int .u32 0) := hxz.cell 1 (by decide)
        have c2 : wC.cell? ⟨gx, 2, none⟩ = some (.int .u32 0) := hxz.cell 2 (by decide)
        have c3 : wC.cell? ⟨gx, 3, none⟩ = some (.int .u32 0) := hxz.cell 3 (by decide)
        have c4 : wC.cell? ⟨gx, 4, none⟩ = some (.int .u32 0) := hxz.cell 4 (by decide)
        have c5 : wC.cell? ⟨gx, 5, none⟩ = some (.int .u32 0) := hxz.cell 5 (by decide)
        have c6 : wC.cell? ⟨gx, 6, none⟩ = some (.int .u32 0) := hxz.cell 6 (by decide)
        have c7 : wC.cell? ⟨gx, 7, none⟩ = some (.int .u32 0) := hxz.cell 7 (by decide)
        clear hxz Hx
        go_wp2_with fail
        refine (awake_any _).mono ?_
        rintro e wa ⟨rfl, hBX⟩
        have HBa := hide (below_through hBX HBt.out)
        clear hBX c0 c1 c2 c3 c4 c5 c6 c7 heq
        go_wp2_with fail
        go_ret
        exact ⟨rfl, HBa.out⟩
end Go.Proofs.Yteocienbfhgmjaa
