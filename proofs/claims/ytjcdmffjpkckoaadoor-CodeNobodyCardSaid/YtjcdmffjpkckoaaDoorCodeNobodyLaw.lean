/- The law CodeNobody, walked. -/
import Derived.Test.YtjcdmffjpkckoaaDoorCdNil
import Derived.Test.YtjcdmffjpkckoaaDoorCodeWritesLaw
namespace Go.Proofs.YtjcdmffjpkckoaaDoor
open Go.RowKit

set_option maxRecDepth 100000 in
set_option maxHeartbeats 8000000 in
theorem nobody_walk (l : List Fld) (lv : Value) (w : World) (ht : Tab w) (hlv : FAt w lv l) (hl : ∀ f ∈ l, f.ok) :
    Calls Tryd.prog 5 #[lv] w (LawPost w) := by
  have h2 := ht.two
  obtain ⟨al, capl, rfl⟩ := hlv.len
  have HL := hide (long_any l _ w hlv hl)
  have HAW0 := hide (awake_any w ht)
  have HF := hide hlv
  have HOK := hide hl
  obtain ⟨n, hn⟩ : ∃ n, n = l.length := ⟨_, rfl⟩
  have HN := tuck hn
  rw [← hn] at HF HL ⊢
  clear hlv hl hn
  by_cases hlong : 1000 < cnt l
  · rw [decide_eq_true hlong] at HL
    clear hlong
    go_enter Tryd.func5, Tryd.ntmps5
    go_wp2_with fail
    refine HL.out.mono ?_
    rintro e w ⟨rfl, rfl⟩
    go_wp2_with fail
    refine HAW0.out.mono ?_
    rintro e w1 ⟨rfl, hB⟩
    go_wp2_with fail
    go_ret
    exact ⟨rfl, hB⟩
  rw [decide_eq_false hlong] at HL
  have hn1000 : n ≤ 1000 := by have := cnt_len l; have := HN.out; omega
  have HSZ : Hid (∀ f ∈ l, f.s.size ≤ 100000000) := hide (fun f hf => by have := size_in l f hf; omega)
  have HXL : Tuck ((fieldsS l).length ≤ 100000) := tuck (by have := fieldsS_cnt l; omega)
  clear hlong
  go_enter Tryd.func5, Tryd.ntmps5
  go_wp2_with fail
  refine HL.out.mono ?_
  rintro e w ⟨rfl, rfl⟩
  clear HL HAW0
  go_wp2_with fail
  have hs1 : (w.alloc (.cells #[.pointer none, .int .i64 0] 56)).heap.size = w.heap.size + 1 := by simp
  have HRS : Hid (Rd ((w.alloc (.cells #[.pointer none, .int .i64 0] 56)).alloc (.cells #[.slice none 0 0, .bool false] 58)) w.heap.size (fun j => j = w.heap.size + 1) (w.heap.size + 1) [] false) :=
    hide ⟨rfl, fun j hj => by rw [hj]; simp, .slice none 0 0, (by rw [← hs1]; exact heap_alloc_new _ _), nil_slAt _, fun j e => by simp [Value.ownBlock] at e⟩
  have HWV : Hid (Wr ((w.alloc (.cells #[.pointer none, .int .i64 0] 56)).alloc (.cells #[.slice none 0 0, .bool false] 58)) w.heap.size (fun j => j = w.heap.size) w.heap.size []) :=
    hide ⟨rfl, fun j hj => by rw [hj]; simp; omega, .inl ⟨rfl, (Below.heap_alloc _ _ _ (by simp)).trans (heap_alloc_new _ _)⟩⟩
  have HB0 : Hid (Below w.heap.size w ((w.alloc (.cells #[.pointer none, .int .i64 0] 56)).alloc (.cells #[.slice none 0 0, .bool false] 58))) := hide (((Below.refl _ _).alloc (Nat.le_refl _) _).alloc (by simp) _)
  refine (err_any _ _ _ _ _ _ HRS.out).mono ?_
  rintro e w1 ⟨rfl, hw1⟩
  rw [← hw1] at HRS HWV HB0
  clear hw1 hs1
  rw [show errOf false = 0 from rfl]
  go_wp2_with fail
  refine (left_any _ _ _ _ _ _ HRS.out).mono ?_
  rintro e w1 ⟨rfl, rfl⟩
  rw [show (([] : List Int).length : Int) = 0 from rfl]
  go_wp2_with fail
  refine (endr_any _ _ _ _ _ _ HRS.out).mono ?_
  rintro e w2 ⟨rfl, hK, hN⟩
  rw [show errOf (false || !([] : List Int).isEmpty) = 0 from rfl]
  have HB2 := hide (hK.through HB0.out (fun j hj => by rw [hj]; omega) HB0.out.size)
  have HW2 := hide (HWV.out.keep hK (fun j h1 h3 => by omega))
  clear hK hN HRS HWV HB0
  go_wp2_with fail
  go_loopw [7, 8] (fun a i wr => ∃ k : Nat, k ≤ n ∧ i = .int .i64 k ∧ ∃ Fw : Nat → Prop, Hid (Wr wr w.heap.size Fw w.heap.size (fieldsS (l.take k))) ∧ Hid (Row wr w.heap.size a (fieldsS (l.take k))) ∧ Hid (Off Fw a) ∧ Hid (Below w.heap.size w wr))
    (fun _ i _ => n - (intOf i).toNat)
  case atStart => exact ⟨0, by omega, rfl, _, HW2, hide (Row.nil _ _), hide (fun k e => by simp [Value.ownBlock] at e), HB2⟩
  case round =>
    clear HW2 HB2
    obtain ⟨k, hk, rfl, Fw, HW, HR, HO, HB⟩ := hrel
    obtain ⟨ar, cr, hvr⟩ := HR.out.slAt.len
    subst hvr
    by_cases hlt : k < n
    · obtain ⟨fb, fo, rfl, hfb, e0, e1, e2, e3, e4⟩ := HF.out.at hlt
      have HC0 := hide e0
      have HC1 := hide e1
      have HC2 := hide e2
      have HC3 := hide e3
      have HC4 := hide e4
      clear e0 e1 e2 e3 e4
      have hkl : k < l.length := by rw [← HN.out]; exact hlt
      have hmem : l.getD k default ∈ l := by simp [List.getD, hkl]
      have HOKf := hide (HOK.out _ hmem)
      have HSZf := hide (HSZ.out _ hmem)
      have HSU : Tuck (fieldsS (l.take (k + 1)) = fieldsS (l.take k) ++ fieldS (l.getD k default)) := tuck (fieldsS_succ l k hkl)
      have HXk : Tuck ((fieldsS (l.take k)).length ≤ 100000) := tuck (by have := fieldsS_take_le l k; have := HXL.out; omega)
      clear hmem hkl
      obtain ⟨f, hff⟩ : ∃ f, l.getD k default = f := ⟨_, rfl⟩
      rw [hff] at HC0 HC1 HC2 HC3 HC4 HOKf HSZf HSU
      clear hff
      obtain ⟨X, hX⟩ : ∃ X, fieldsS (l.take k) = X := ⟨_, rfl⟩
      rw [hX] at HSU HXk HW HR HO ⊢
      clear hX
      obtain ⟨lx, hlx⟩ : ∃ lx, X.length = lx := ⟨_, rfl⟩
      have HLX := tuck hlx
      rw [hlx] at HR HO ⊢
      clear hlx
      have HNL := hide (write_nil f HOKf.out wr (ht.below HB.out h2))
      have HMN := hide (fun W => meant_any f HOKf.out HSZf.out W)
      have HWA := hide (fun W Fw => write_any f HOKf.out W w.heap.size Fw w.heap.size X)
      unfold Fld.val at HNL HMN HWA
      have ya := (HB.out.cell (p := ⟨fb, fo + k * 5, none⟩) hfb).trans HC0.out
      have yb := (HB.out.cell (p := ⟨fb, fo + k * 5 + 1, none⟩) hfb).trans HC1.out
      have yc := (HB.out.cell (p := ⟨fb, fo + k * 5 + 2, none⟩) hfb).trans HC2.out
      have yd := (HB.out.cell (p := ⟨fb, fo + k * 5 + 3, none⟩) hfb).trans HC3.out
      have ye := (HB.out.cell (p := ⟨fb, fo + k * 5 + 4, none⟩) hfb).trans HC4.out
      go_wp2_with fail
      refine HNL.out.mono ?_
      rintro e u0 ⟨rfl, hB0⟩
      have HW0 := hide (HW.out.keep (Keep.of_below hB0 : Keep (fun _ => False) wr u0) (fun _ _ => id))
      have HR0 := hide (HR.out.below hB0)
      have HB0 := hide (HB.out.trans (hB0.mono HB.out.size))
      clear hB0 HW HR HB HNL ya yb yc yd ye
      have ya := (HB0.out.cell (p := ⟨fb, fo + k * 5, none⟩) hfb).trans HC0.out
      have yb := (HB0.out.cell (p := ⟨fb, fo + k * 5 + 1, none⟩) hfb).trans HC1.out
      have yc := (HB0.out.cell (p := ⟨fb, fo + k * 5 + 2, none⟩) hfb).trans HC2.out
      have yd := (HB0.out.cell (p := ⟨fb, fo + k * 5 + 3, none⟩) hfb).trans HC3.out
      have ye := (HB0.out.cell (p := ⟨fb, fo + k * 5 + 4, none⟩) hfb).trans HC4.out
      go_wp2_with fail
      refine (HWA.out u0 Fw (ht.below HB0.out h2) h2 HW0.out (by have := HXk.out; have := HSZf.out; omega)).mono ?_
      intro e u1 hp
      obtain ⟨rfl, hK1, hN1⟩ := hp
      have HB1 := hide (hK1.through HB0.out (fun j hj => (HW0.out.ge j hj).1) HB0.out.size)
      have HW1 := hide hN1
      have HR1 := hide (HR0.out.keep hK1 HO.out)
      have HO1 := hide (Off.up (w' := u1) HO.out HR0.out)
      clear hK1 hN1 HWA ya yb yc yd ye
      have ya := (HB1.out.cell (p := ⟨fb, fo + k * 5, none⟩) hfb).trans HC0.out
      have yb := (HB1.out.cell (p := ⟨fb, fo + k * 5 + 1, none⟩) hfb).trans HC1.out
      have yc := (HB1.out.cell (p := ⟨fb, fo + k * 5 + 2, none⟩) hfb).trans HC2.out
      have yd := (HB1.out.cell (p := ⟨fb, fo + k * 5 + 3, none⟩) hfb).trans HC3.out
      have ye := (HB1.out.cell (p := ⟨fb, fo + k * 5 + 4, none⟩) hfb).trans HC4.out
      go_wp2_with fail
      refine (HMN.out _).mono ?_
      rintro e u2 ⟨vm, rfl, hvm, hB2⟩
      have HB2 := hide (HB1.out.trans (hB2.mono HB1.out.size))
      have HW2 := hide (HW1.out.keep (Keep.of_below hB2 : Keep (fun _ => False) u1 u2) (fun _ _ => id))
      have HR2 := hide (HR1.out.below hB2)
      obtain ⟨v', w', hrun, hrow, hk2, hat⟩ := append_keep u2 w.heap.size _ X HR2.out vm (fieldS f) hvm (by have := HXk.out; have := fieldS_len f; have := HSZf.out; omega) HB2.out.size
      obtain ⟨HW3, HO3⟩ := HW2.out.beside hk2 HO1.out hat
      have HB3 := hide (hk2.through HB2.out (fun j hj => HR2.out.ge hj) HB2.out.size)
      rw [← HSU.out] at hrow HW3
      have HW3 := hide HW3
      have HO3 := hide HO3
      have HR3 := hide hrow
      obtain ⟨am, cm, rfl⟩ := hvm.len
      obtain ⟨a3, c3, hv3⟩ := HR3.out.slAt.len
      obtain ⟨lm, hlm⟩ : ∃ lm, (fieldS f).length = lm := ⟨_, rfl⟩
      rw [hlm] at hrun ⊢
      obtain ⟨l3, hl3⟩ : ∃ l3, (fieldsS (l.take (k + 1))).length = l3 := ⟨_, rfl⟩
      rw [hl3] at hv3
      subst hv3
      clear hvm hB2 hrow hk2 hat hlm hl3 HMN HB2 HW2 HR2 HW1 HR1 HB1 HO1 HO HW0 HR0 HB0 ya yb yc yd ye
      go_wp2_with (first | (at_builtin; with_reducible refine wpList_append_run rfl (.tmp 47) (.tmp 52) 28 28 28 rfl rfl (.slice ar lx cr) (.slice am lm cm) _ w' rfl rfl hrun ?_))
      refine (r8_nil _).mono ?_
      rintro e x0 ⟨rfl, hX⟩
      have HW4 := hide (HW3.out.keep (Keep.of_below hX : Keep (fun _ => False) _ x0) (fun _ _ => id))
      have HR4 := hide (HR3.out.below hX)
      have HB4 := hide (HB3.out.trans (hX.mono HB3.out.size))
      clear hX HW3 HR3 HB3
      have hm0 : x0.cell? ⟨fb, fo + k * 5 + 1, none⟩ = some (.int .i64 f.most) := (HB4.out.cell (p := ⟨fb, fo + k * 5 + 1, none⟩) hfb).trans HC1.out
      go_wp2_with fail
      refine (r32_nil _).mono ?_
      rintro e x1 ⟨rfl, hX⟩
      have HW5 := hide (HW4.out.keep (Keep.of_below hX : Keep (fun _ => False) _ x1) (fun _ _ => id))
      have HR5 := hide (HR4.out.below hX)
      have HB5 := hide (HB4.out.trans (hX.mono HB4.out.size))
      clear hX HW4 HR4 HB4
      have hm1 : x1.cell? ⟨fb, fo + k * 5 + 1, none⟩ = some (.int .i64 f.most) := (HB5.out.cell (p := ⟨fb, fo + k * 5 + 1, none⟩) hfb).trans HC1.out
      go_wp2_with fail
      refine (ru_nil _).mono ?_
      rintro e x2 ⟨rfl, hX⟩
      have HW6 := hide (HW5.out.keep (Keep.of_below hX : Keep (fun _ => False) _ x2) (fun _ _ => id))
      have HR6 := hide (HR5.out.below hX)
      have HB6 := hide (HB5.out.trans (hX.mono HB5.out.size))
      clear hX HW5 HR5 HB5
      have hm2 : x2.cell? ⟨fb, fo + k * 5 + 1, none⟩ = some (.int .i64 f.most) := (HB6.out.cell (p := ⟨fb, fo + k * 5 + 1, none⟩) hfb).trans HC1.out
      go_wp2_with fail
      refine (rt_nil f.most _).mono ?_
      rintro e x3 ⟨rfl, hX⟩
      have HW7 := hide (HW6.out.keep (Keep.of_below hX : Keep (fun _ => False) _ x3) (fun _ _ => id))
      have HR7 := hide (HR6.out.below hX)
      have HB7 := hide (HB6.out.trans (hX.mono HB6.out.size))
      clear hX HW6 HR6 HB6
      have hm3 : x3.cell? ⟨fb, fo + k * 5 + 1, none⟩ = some (.int .i64 f.most) := (HB7.out.cell (p := ⟨fb, fo + k * 5 + 1, none⟩) hfb).trans HC1.out
      go_wp2_with fail
      refine (rr_nil f.most _).mono ?_
      rintro e x4 ⟨rfl, hX⟩
      have HW8 := hide (HW7.out.keep (Keep.of_below hX : Keep (fun _ => False) _ x4) (fun _ _ => id))
      have HR8 := hide (HR7.out.below hX)
      have HB8 := hide (HB7.out.trans (hX.mono HB7.out.size))
      clear hX HW7 HR7 HB7
      have hm4 : x4.cell? ⟨fb, fo + k * 5 + 1, none⟩ = some (.int .i64 f.most) := (HB8.out.cell (p := ⟨fb, fo + k * 5 + 1, none⟩) hfb).trans HC1.out
      go_wp2_with fail
      refine (left_nil _).mono ?_
      rintro e x4 ⟨rfl, rfl⟩
      go_wp2_with fail
      refine (fail_nil _).mono ?_
      rintro e x4 ⟨rfl, rfl⟩
      go_wp2_with fail
      go_roundw
      case rel => exact ⟨k + 1, by omega, by go_num, _, HW8, HR8, HO3, HB8⟩
      case measure => simp [intOf]; omega
    · obtain rfl : k = n := by omega
      have hle0 := fieldsS_take_le l k
      have hle1 := HXL.out
      obtain ⟨Z, hZ⟩ : ∃ Z, fieldsS (l.take k) = Z := ⟨_, rfl⟩
      rw [hZ] at HW HR HO hle0 ⊢
      have HZL : Tuck (Z.length ≤ 100000) := tuck (by omega)
      clear hZ hle0 hle1 HXL
      obtain ⟨lz, hlz⟩ : ∃ lz, Z.length = lz := ⟨_, rfl⟩
      have HLZ := tuck hlz
      rw [hlz] at HR HO ⊢
      clear hlz
      have HBz := HB
      have HWD := hide (show SlAt wr.drew _ _ from HR.out.slAt)
      have HBY := hide (bytes_any wr.drew _ _ _ _ (HW.out.keep (Keep.drew (fun _ => False) wr) (fun _ _ => id)) (by have := HZL.out; omega))
      clear HR HW HB HO
      go_wp2_with fail
      refine wp_region_held_drew (S := fun w' => SlAt w' (.slice ar lz cr) Z) (by kernel_rfl) HWD.out (fun hHeld => ?_)
      refine wpAnyH_take (i := 0) (oi := { dst := some 95, op := Op.move (Operand.tmp 3), type := 26, pos := "law.go:167", after := #[], guard := none }) (v := ?_) rfl (by kernel_rfl) (by kernel_rfl) (by kernel_rfl) (fun _ _ _ h => h) (Or.inl ⟨by rfl, ?_⟩) hHeld ?_
      rotate_left
      · intro w hSw; (try dsimp only at hSw); go_simp; first | done | with_reducible rfl
      try simp only [Act.put, List.setIfInBounds_toArray, List.set_cons_zero, List.set_cons_succ]
      refine wpAnyH_ready (rs := [1]) (by kernel_rfl) (by simp) ?_
      refine AllReadyH.cons (o := { dst := some 96, op := Op.call { callee := Callee.value (Operand.func 18), args := #[Operand.tmp 95], argTypes := #[26] }, type := 28, pos := "law.go:167", after := #[{ on := 0, ground := Ground.data }], guard := none }) rfl (fun K hK => ?_) AllReadyH.nil
      clear hHeld
      go_simp
      refine (bytes_nil _).mono ?_
      rintro e z0 ⟨rfl, rfl⟩
      dsimp only
      refine hK.out _ _ (HWD.out) (fun hHeld => ?_)
      clear hK K
      try simp only [Act.put, List.setIfInBounds_toArray, List.set_cons_zero, List.set_cons_succ]
      refine wpAnyH_take (i := 2) (oi := { dst := some 97, op := Op.call { callee := Callee.builtin Builtin.len, args := #[Operand.tmp 96], argTypes := #[28] }, type := 3, pos := "law.go:167", after := #[{ on := 1, ground := Ground.data }], guard := none }) (v := ?_) rfl (by kernel_rfl) (by kernel_rfl) (by kernel_rfl) (fun _ _ _ h => h) (Or.inl ⟨by rfl, ?_⟩) hHeld ?_
      rotate_left
      · intro w hSw; (try dsimp only at hSw); go_simp; first | done | with_reducible rfl
      try simp only [Act.put, List.setIfInBounds_toArray, List.set_cons_zero, List.set_cons_succ]
      refine wpAnyH_take (i := 3) (oi := { dst := some 98, op := Op.binOp BinOp.eql 3 (Operand.tmp 97) (Operand.const (Value.int IntKind.i64 0)) 3, type := 4, pos := "law.go:167", after := #[{ on := 2, ground := Ground.data }], guard := none }) (v := ?_) rfl (by kernel_rfl) (by kernel_rfl) (by kernel_rfl) (fun _ _ _ h => h) (Or.inl ⟨by rfl, ?_⟩) hHeld ?_
      rotate_left
      · intro w hSw; (try dsimp only at hSw); go_simp; first | done | with_reducible rfl
      try simp only [Act.put, List.setIfInBounds_toArray, List.set_cons_zero, List.set_cons_succ]
      refine wpAnyH_take (i := 4) (oi := { dst := some 99, op := Op.move (Operand.tmp 98), type := 4, pos := "law.go:167", after := #[{ on := 3, ground := Ground.data }, { on := 1, ground := Ground.chain }], guard := none }) (v := ?_) rfl (by kernel_rfl) (by kernel_rfl) (by kernel_rfl) (fun _ _ _ h => h) (Or.inl ⟨by rfl, ?_⟩) hHeld ?_
      rotate_left
      · intro w hSw; (try dsimp only at hSw); go_simp; first | done | with_reducible rfl
      try simp only [Act.put, List.setIfInBounds_toArray, List.set_cons_zero, List.set_cons_succ]
      refine wpAnyH_take (i := 5) (oi := { dst := some 100, op := Op.move (Operand.tmp 5), type := 26, pos := "law.go:167", after := #[{ on := 4, ground := Ground.guard }], guard := some (4, true) }) (v := ?_) rfl (by kernel_rfl) (by kernel_rfl) (by kernel_rfl) (fun _ _ _ h => h) (Or.inl ⟨by rfl, ?_⟩) hHeld ?_
      rotate_left
      · intro w hSw; (try dsimp only at hSw); go_simp; first | done | with_reducible rfl
      try simp only [Act.put, List.setIfInBounds_toArray, List.set_cons_zero, List.set_cons_succ]
      refine wpAnyH_take (i := 8) (oi := { dst := some 103, op := Op.move (Operand.tmp 7), type := 28, pos := "law.go:167", after := #[{ on := 4, ground := Ground.guard }], guard := some (4, true) }) (v := ?_) rfl (by kernel_rfl) (by kernel_rfl) (by kernel_rfl) (fun _ _ _ h => h) (Or.inl ⟨by rfl, ?_⟩) hHeld ?_
      rotate_left
      · intro w hSw; (try dsimp only at hSw); go_simp; first | done | with_reducible rfl
      try simp only [Act.put, List.setIfInBounds_toArray, List.set_cons_zero, List.set_cons_succ]
      refine wpAnyH_take (i := 9) (oi := { dst := some 104, op := Op.convert 28 9 (Operand.tmp 103), type := 9, pos := "law.go:167", after := #[{ on := 8, ground := Ground.data }, { on := 4, ground := Ground.guard }], guard := some (4, true) }) (v := ?_) rfl (by kernel_rfl) (by kernel_rfl) (by kernel_rfl) (fun _ _ _ h => h) (Or.inl ⟨by rfl, ?_⟩) hHeld ?_
      rotate_left
      · intro w hSw; (try dsimp only at hSw); (have hcw := hSw.string (P := Tryd.prog) 28 5 9 Tryd.underlying28 Tryd.underlying5 Tryd.underlying9); go_simp; first | done | with_reducible rfl
      try simp only [Act.put, List.setIfInBounds_toArray, List.set_cons_zero, List.set_cons_succ]
      refine wpAnyH_ready (rs := [6]) (by kernel_rfl) (by simp) ?_
      refine AllReadyH.cons (o := { dst := some 101, op := Op.call { callee := Callee.value (Operand.func 18), args := #[Operand.tmp 100], argTypes := #[26] }, type := 28, pos := "law.go:167", after := #[{ on := 5, ground := Ground.data }, { on := 4, ground := Ground.chain }, { on := 4, ground := Ground.guard }], guard := some (4, true) }) rfl (fun K hK => ?_) AllReadyH.nil
      clear hHeld
      go_simp
      refine HBY.out.mono ?_
      rintro e z1 ⟨vc, rfl, hrowc, hB⟩
      have HB1 := hide (HBz.out.drew.trans (hB.mono HBz.out.size))
      have hstc := hrowc.str
      obtain ⟨ac, cc, hvc⟩ := hrowc.slAt.len
      rw [HLZ.out] at hvc
      subst hvc
      have HWz1 := hide (HWD.out.below hB)
      have HAW := hide (awake_any z1 (ht.below HB1.out h2))
      dsimp only
      refine hK.out _ _ (HWD.out.below hB) (fun hHeld => ?_)
      clear hK K
      try simp only [Act.put, List.setIfInBounds_toArray, List.set_cons_zero, List.set_cons_succ]
      refine wpAnyH_ready (rs := [7]) (by kernel_rfl) (by simp) ?_
      refine AllReadyH.cons (o := { dst := some 102, op := Op.convert 28 9 (Operand.tmp 101), type := 9, pos := "law.go:167", after := #[{ on := 6, ground := Ground.data }, { on := 4, ground := Ground.guard }], guard := some (4, true) }) rfl (fun K hK => ?_) AllReadyH.nil
      clear hHeld
      go_simp
      refine hK.out _ _ (HWz1.out) (fun hHeld => ?_)
      clear hK K
      try simp only [Act.put, List.setIfInBounds_toArray, List.set_cons_zero, List.set_cons_succ]
      refine wpAnyH_take (i := 10) (oi := { dst := some 105, op := Op.binOp BinOp.eql 9 (Operand.tmp 102) (Operand.tmp 104) 9, type := 4, pos := "law.go:167", after := #[{ on := 7, ground := Ground.data }, { on := 9, ground := Ground.data }, { on := 4, ground := Ground.guard }], guard := some (4, true) }) (v := ?_) rfl (by kernel_rfl) (by kernel_rfl) (by kernel_rfl) (fun _ _ _ h => h) (Or.inl ⟨by rfl, ?_⟩) hHeld ?_
      rotate_left
      · intro w hSw; (try dsimp only at hSw); go_simp; first | done | with_reducible rfl
      try simp only [Act.put, List.setIfInBounds_toArray, List.set_cons_zero, List.set_cons_succ]
      refine wpAnyH_take (i := 11) (oi := { dst := some 106, op := Op.pick (Operand.tmp 99) (Operand.tmp 105) (Operand.const (Value.bool false)), type := 4, pos := "law.go:167", after := #[{ on := 4, ground := Ground.data }, { on := 10, ground := Ground.data }], guard := none }) (v := ?_) rfl (by kernel_rfl) (by kernel_rfl) (by kernel_rfl) (fun _ _ _ h => h) (Or.inl ⟨by rfl, ?_⟩) hHeld ?_
      rotate_left
      · intro w hSw; (try dsimp only at hSw); go_simp; first | done | with_reducible rfl
      try simp only [Act.put, List.setIfInBounds_toArray, List.set_cons_zero, List.set_cons_succ]
      refine wpAnyH_take (i := 12) (oi := { dst := some 107, op := Op.move (Operand.tmp 106), type := 4, pos := "law.go:167", after := #[{ on := 11, ground := Ground.data }, { on := 6, ground := Ground.chain }], guard := none }) (v := ?_) rfl (by kernel_rfl) (by kernel_rfl) (by kernel_rfl) (fun _ _ _ h => h) (Or.inl ⟨by rfl, ?_⟩) hHeld ?_
      rotate_left
      · intro w hSw; (try dsimp only at hSw); go_simp; first | done | with_reducible rfl
      try simp only [Act.put, List.setIfInBounds_toArray, List.set_cons_zero, List.set_cons_succ]
      refine wpAnyH_take (i := 13) (oi := { dst := some 108, op := Op.move (Operand.tmp 4), type := 38, pos := "law.go:167", after := #[{ on := 12, ground := Ground.guard }], guard := some (12, true) }) (v := ?_) rfl (by kernel_rfl) (by kernel_rfl) (by kernel_rfl) (fun _ _ _ h => h) (Or.inl ⟨by rfl, ?_⟩) hHeld ?_
      rotate_left
      · intro w hSw; (try dsimp only at hSw); go_simp; first | done | with_reducible rfl
      try simp only [Act.put, List.setIfInBounds_toArray, List.set_cons_zero, List.set_cons_succ]
      refine wpAnyH_ready (rs := [14]) (by kernel_rfl) (by simp) ?_
      refine AllReadyH.cons (o := { dst := some 109, op := Op.call { callee := Callee.value (Operand.func 32), args := #[Operand.tmp 108], argTypes := #[38] }, type := 51, pos := "law.go:167", after := #[{ on := 13, ground := Ground.data }, { on := 12, ground := Ground.chain }, { on := 12, ground := Ground.guard }], guard := some (12, true) }) rfl (fun K hK => ?_) AllReadyH.nil
      clear hHeld
      go_simp
      refine (err_nil _).mono ?_
      rintro e z1 ⟨rfl, rfl⟩
      dsimp only
      refine hK.out _ _ (HWz1.out) (fun hHeld => ?_)
      clear hK K
      try simp only [Act.put, List.setIfInBounds_toArray, List.set_cons_zero, List.set_cons_succ]
      refine wpAnyH_take (i := 15) (oi := { dst := some 110, op := Op.binOp BinOp.eql 51 (Operand.tmp 109) (Operand.const (Value.int IntKind.i64 2)) 51, type := 4, pos := "law.go:167", after := #[{ on := 14, ground := Ground.data }, { on := 12, ground := Ground.guard }], guard := some (12, true) }) (v := ?_) rfl (by kernel_rfl) (by kernel_rfl) (by kernel_rfl) (fun _ _ _ h => h) (Or.inl ⟨by rfl, ?_⟩) hHeld ?_
      rotate_left
      · intro w hSw; (try dsimp only at hSw); go_simp; first | done | with_reducible rfl
      try simp only [Act.put, List.setIfInBounds_toArray, List.set_cons_zero, List.set_cons_succ]
      refine wpAnyH_take (i := 16) (oi := { dst := some 111, op := Op.pick (Operand.tmp 107) (Operand.tmp 110) (Operand.const (Value.bool false)), type := 4, pos := "law.go:167", after := #[{ on := 12, ground := Ground.data }, { on := 15, ground := Ground.data }], guard := none }) (v := ?_) rfl (by kernel_rfl) (by kernel_rfl) (by kernel_rfl) (fun _ _ _ h => h) (Or.inl ⟨by rfl, ?_⟩) hHeld ?_
      rotate_left
      · intro w hSw; (try dsimp only at hSw); go_simp; first | done | with_reducible rfl
      try simp only [Act.put, List.setIfInBounds_toArray, List.set_cons_zero, List.set_cons_succ]
      refine wpAnyH_take (i := 17) (oi := { dst := some 112, op := Op.move (Operand.tmp 111), type := 4, pos := "law.go:167", after := #[{ on := 16, ground := Ground.data }, { on := 14, ground := Ground.chain }], guard := none }) (v := ?_) rfl (by kernel_rfl) (by kernel_rfl) (by kernel_rfl) (fun _ _ _ h => h) (Or.inl ⟨by rfl, ?_⟩) hHeld ?_
      rotate_left
      · intro w hSw; (try dsimp only at hSw); go_simp; first | done | with_reducible rfl
      try simp only [Act.put, List.setIfInBounds_toArray, List.set_cons_zero, List.set_cons_succ]
      refine wpAnyH_take (i := 18) (oi := { dst := some 113, op := Op.move (Operand.tmp 4), type := 38, pos := "law.go:167", after := #[{ on := 17, ground := Ground.guard }], guard := some (17, true) }) (v := ?_) rfl (by kernel_rfl) (by kernel_rfl) (by kernel_rfl) (fun _ _ _ h => h) (Or.inl ⟨by rfl, ?_⟩) hHeld ?_
      rotate_left
      · intro w hSw; (try dsimp only at hSw); go_simp; first | done | with_reducible rfl
      try simp only [Act.put, List.setIfInBounds_toArray, List.set_cons_zero, List.set_cons_succ]
      refine wpAnyH_ready (rs := [19]) (by kernel_rfl) (by simp) ?_
      refine AllReadyH.cons (o := { dst := some 114, op := Op.call { callee := Callee.value (Operand.func 34), args := #[Operand.tmp 113], argTypes := #[38] }, type := 51, pos := "law.go:167", after := #[{ on := 18, ground := Ground.data }, { on := 17, ground := Ground.chain }, { on := 17, ground := Ground.guard }], guard := some (17, true) }) rfl (fun K hK => ?_) AllReadyH.nil
      clear hHeld
      go_simp
      refine (end_nil _).mono ?_
      rintro e z1 ⟨rfl, rfl⟩
      dsimp only
      refine hK.out _ _ (HWz1.out) (fun hHeld => ?_)
      clear hK K
      try simp only [Act.put, List.setIfInBounds_toArray, List.set_cons_zero, List.set_cons_succ]
      refine wpAnyH_take (i := 20) (oi := { dst := some 115, op := Op.binOp BinOp.eql 51 (Operand.tmp 114) (Operand.const (Value.int IntKind.i64 2)) 51, type := 4, pos := "law.go:167", after := #[{ on := 19, ground := Ground.data }, { on := 17, ground := Ground.guard }], guard := some (17, true) }) (v := ?_) rfl (by kernel_rfl) (by kernel_rfl) (by kernel_rfl) (fun _ _ _ h => h) (Or.inl ⟨by rfl, ?_⟩) hHeld ?_
      rotate_left
      · intro w hSw; (try dsimp only at hSw); go_simp; first | done | with_reducible rfl
      try simp only [Act.put, List.setIfInBounds_toArray, List.set_cons_zero, List.set_cons_succ]
      refine wpAnyH_take (i := 21) (oi := { dst := some 116, op := Op.pick (Operand.tmp 112) (Operand.tmp 115) (Operand.const (Value.bool false)), type := 4, pos := "law.go:167", after := #[{ on := 17, ground := Ground.data }, { on := 20, ground := Ground.data }], guard := none }) (v := ?_) rfl (by kernel_rfl) (by kernel_rfl) (by kernel_rfl) (fun _ _ _ h => h) (Or.inl ⟨by rfl, ?_⟩) hHeld ?_
      rotate_left
      · intro w hSw; (try dsimp only at hSw); go_simp; first | done | with_reducible rfl
      try simp only [Act.put, List.setIfInBounds_toArray, List.set_cons_zero, List.set_cons_succ]
      refine wpAnyH_take (i := 22) (oi := { dst := some 117, op := Op.move (Operand.tmp 116), type := 4, pos := "law.go:167", after := #[{ on := 21, ground := Ground.data }, { on := 19, ground := Ground.chain }], guard := none }) (v := ?_) rfl (by kernel_rfl) (by kernel_rfl) (by kernel_rfl) (fun _ _ _ h => h) (Or.inl ⟨by rfl, ?_⟩) hHeld ?_
      rotate_left
      · intro w hSw; (try dsimp only at hSw); go_simp; first | done | with_reducible rfl
      try simp only [Act.put, List.setIfInBounds_toArray, List.set_cons_zero, List.set_cons_succ]
      refine wpAnyH_ready (rs := [23]) (by kernel_rfl) (by simp) ?_
      refine AllReadyH.cons (o := { dst := some 118, op := Op.call { callee := Callee.value (Operand.func 12), args := #[], argTypes := #[] }, type := 4, pos := "law.go:167", after := #[{ on := 22, ground := Ground.chain }, { on := 22, ground := Ground.guard }], guard := some (22, true) }) rfl (fun K hK => ?_) AllReadyH.nil
      clear hHeld
      go_simp
      refine HAW.out.mono ?_
      rintro e z2 ⟨rfl, hB3⟩
      have HB3 := hide hB3
      dsimp only
      refine hK.out _ _ (HWz1.out.below hB3) (fun hHeld => ?_)
      clear hK K
      try simp only [Act.put, List.setIfInBounds_toArray, List.set_cons_zero, List.set_cons_succ]
      refine wpAnyH_take (i := 24) (oi := { dst := some 119, op := Op.pick (Operand.tmp 117) (Operand.tmp 118) (Operand.const (Value.bool false)), type := 4, pos := "law.go:167", after := #[{ on := 22, ground := Ground.data }, { on := 23, ground := Ground.data }], guard := none }) (v := ?_) rfl (by kernel_rfl) (by kernel_rfl) (by kernel_rfl) (fun _ _ _ h => h) (Or.inl ⟨by rfl, ?_⟩) hHeld ?_
      rotate_left
      · intro w hSw; (try dsimp only at hSw); go_simp; first | done | with_reducible rfl
      try simp only [Act.put, List.setIfInBounds_toArray, List.set_cons_zero, List.set_cons_succ]
      refine wpAnyH_take (i := 25) (oi := { dst := some 2, op := Op.assign (Operand.tmp 119), type := 4, pos := "law.go:167", after := #[{ on := 24, ground := Ground.data }, { on := 23, ground := Ground.chain }, { on := 0, ground := Ground.phase }, { on := 1, ground := Ground.phase }, { on := 2, ground := Ground.phase }, { on := 3, ground := Ground.phase }, { on := 4, ground := Ground.phase }, { on := 5, ground := Ground.phase }, { on := 6, ground := Ground.phase }, { on := 7, ground := Ground.phase }, { on := 8, ground := Ground.phase }, { on := 9, ground := Ground.phase }, { on := 10, ground := Ground.phase }, { on := 11, ground := Ground.phase }, { on := 12, ground := Ground.phase }, { on := 13, ground := Ground.phase }, { on := 14, ground := Ground.phase }, { on := 15, ground := Ground.phase }, { on := 16, ground := Ground.phase }, { on := 17, ground := Ground.phase }, { on := 18, ground := Ground.phase }, { on := 19, ground := Ground.phase }, { on := 20, ground := Ground.phase }, { on := 21, ground := Ground.phase }, { on := 22, ground := Ground.phase }, { on := 23, ground := Ground.phase }, { on := 24, ground := Ground.phase }], guard := none }) (v := ?_) rfl (by kernel_rfl) (by kernel_rfl) (by kernel_rfl) (fun _ _ _ h => h) (Or.inl ⟨by rfl, ?_⟩) hHeld ?_
      rotate_left
      · intro w hSw; (try dsimp only at hSw); go_simp; first | done | with_reducible rfl
      try simp only [Act.put, List.setIfInBounds_toArray, List.set_cons_zero, List.set_cons_succ]
      refine wpAnyH_done (by kernel_rfl) ?_ _
      go_wp2_with fail
      go_ret
      exact ⟨rfl, HB1.out.trans (HB3.out.mono HB1.out.size)⟩
end Go.Proofs.YtjcdmffjpkckoaaDoor
