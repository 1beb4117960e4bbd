/- The law AddrEnds (P4.7). -/
import Derived.Test.YtgikkjjnoakhdaaDoorAdAwake
import Derived.Test.YtgikkjjnoakhdaaDoorAdHalves
import Derived.Deep.DeepCutAuto
namespace Go.Proofs.YtgikkjjnoakhdaaDoor
open Go.RowKit Go.Lib

/-- What Halves answers, whatever the net. -/
theorem halves_all (c : Net) (ha : c.a < 4294967296) (W : World) : Calls Tryd.prog 22 #[c.val] W (fun e w' => ∃ v two, e = .returned (.tuple #[v, .bool two]) ∧ Below W.heap.size W w' ∧ two = (mayB c && decide (c.b < 32)) ∧ (two = true → Ok c ∧ c.b < 32 ∧ CRow w' W.heap.size v [lowOf c, highOf c]) ∧ (two = false → v = .slice none 0 0)) := by
  by_cases h : mayB c = true ∧ c.b < 32
  · have ho := (mayB_iff c).1 h.1
    refine (halves_yes c ha ho h.2 W).mono ?_
    rintro e w' ⟨v, rfl, hR, hB⟩
    exact ⟨v, true, rfl, hB, by simp [h.1, h.2], fun _ => ⟨ho, h.2, hR⟩, fun h => by cases h⟩
  · refine (halves_no c ha (by
      cases hm : mayB c with
      | false => exact .inl rfl
      | true =>
        right
        have := ((mayB_iff c).1 hm).hi
        have : ¬ c.b < 32 := fun h2 => h ⟨hm, h2⟩
        omega) W).mono ?_
    rintro e w' ⟨rfl, hB⟩
    refine ⟨_, false, rfl, hB, ?_, fun h => (by cases h), fun _ => rfl⟩
    cases hm : mayB c with
    | false => rfl
    | true =>
      have : ¬ c.b < 32 := fun h2 => h ⟨hm, h2⟩
      simp
      omega
/-- The halves of a net that has two. -/
theorem halves_ok {c : Net} (ho : Ok c) (h : c.b < 32) : Ok (lowOf c) ∧ Ok (highOf c) ∧ (lowOf c).a = c.a ∧ (highOf c).a = c.a + sz (c.b + 1) ∧ sz c.b = 2 * sz (c.b + 1) ∧ (lowOf c).b = c.b + 1 ∧ (highOf c).b = c.b + 1 := by
  have h0 := ho.lo
  have h2 : sz c.b = 2 * sz (c.b + 1) := by
    have := sz_two (b := c.b + 1) (by omega) (by omega)
    rw [show c.b + 1 - 1 = c.b by omega] at this
    exact this
  have hp := sz_pos (c.b + 1)
  have hd : sz (c.b + 1) ∣ c.a := Nat.dvd_trans (sz_dvd (by omega)) ho.dvd
  have e1 : flo c.a (c.b + 1) = c.a := flo_self hd
  have e2 : flo (c.a + (sz c.b - 1)) (c.b + 1) = c.a + sz (c.b + 1) := flo_eq (Nat.dvd_add hd (Nat.dvd_refl _)) (by omega) (by omega)
  refine ⟨⟨by show 0 ≤ c.b + 1; omega, by show c.b + 1 ≤ 32; omega, by show sz (c.b + 1) ∣ flo c.a (c.b + 1); rw [e1]; exact hd⟩, ⟨by show 0 ≤ c.b + 1; omega, by show c.b + 1 ≤ 32; omega, by show sz (c.b + 1) ∣ flo (c.a + (sz c.b - 1)) (c.b + 1); rw [e2]; exact Nat.dvd_add hd (Nat.dvd_refl _)⟩, e1, e2, h2, rfl, rfl⟩
theorem halves_in {c : Net} (ho : Ok c) (h : c.b < 32) (x : Nat) : inB c x = (inB (lowOf c) x || inB (highOf c) x) ∧ (inB (lowOf c) x && inB (highOf c) x) = false := by
  obtain ⟨h1, h2, h3, h4, h5, h6, h7⟩ := halves_ok ho h
  have e1 := inB_iff c x
  have e2 := inB_iff (lowOf c) x
  have e3 := inB_iff (highOf c) x
  rw [h3, h6] at e2
  rw [h4, h7] at e3
  rw [h5] at e1
  constructor
  · rw [Bool.eq_iff_iff, Bool.or_eq_true, e1, e2, e3]
    constructor
    · rintro ⟨_, a, b⟩
      rcases Nat.lt_or_ge x (c.a + sz (c.b + 1)) with h | h
      · exact .inl ⟨h1, a, h⟩
      · exact .inr ⟨h2, h, by omega⟩
    · rintro (⟨_, a, b⟩ | ⟨_, a, b⟩)
      · exact ⟨ho, a, by omega⟩
      · exact ⟨ho, by omega, by omega⟩
  · apply Bool.eq_false_iff.2
    intro h
    rw [Bool.and_eq_true, e2, e3] at h
    omega
theorem halves_lt {c : Net} (ho : Ok c) (h : c.b < 32) (ha : c.a < 4294967296) : (lowOf c).a < 4294967296 ∧ (highOf c).a < 4294967296 := by
  obtain ⟨h1, h2, h3, h4, h5, h6, h7⟩ := halves_ok ho h
  have := ho.top ha
  have := sz_pos (c.b + 1)
  omega
theorem ends_in {c : Net} (x : Nat) (_ha : c.a < 4294967296) : inB c x = (mayB c && (decide ((if mayB c = true then c.a else 0) ≤ x) && decide (x ≤ (if mayB c = true then c.a + (sz c.b - 1) else 0)))) := by
  have hp := sz_pos c.b
  cases hm : mayB c with
  | false => rw [inB_no hm]; rfl
  | true =>
    rw [Bool.eq_iff_iff, inB_iff, if_pos rfl, if_pos rfl]
    simp only [Bool.true_and, Bool.and_eq_true, decide_eq_true_eq]
    have := (mayB_iff c).1 hm
    constructor
    · rintro ⟨_, h1, h2⟩
      omega
    · rintro ⟨h1, h2⟩
      exact ⟨this, h1, by omega⟩
theorem covers_trans {c d e : Net} (h1 : coversB c d = true) (h2 : coversB d e = true) : coversB c e = true := by
  rw [coversB_iff] at *
  obtain ⟨a1, a2, a3, a4⟩ := h1
  obtain ⟨b1, b2, b3, b4⟩ := h2
  exact ⟨a1, b2, by omega, by omega⟩
theorem covers_in {c d : Net} {x : Nat} (h1 : coversB c d = true) (h2 : inB d x = true) : inB c x = true := by
  rw [coversB_iff] at h1
  rw [inB_iff] at *
  obtain ⟨a1, a2, a3, a4⟩ := h1
  obtain ⟨b1, b3, b4⟩ := h2
  exact ⟨a1, by omega, by omega⟩

/-- The three boxes of the law, and what has stayed. -/
def EAt (w : World) (c d e : Net) (g : Nat) (W : World) : Prop := BoxAt W g c.a c.b ∧ BoxAt W (g + 1) d.a d.b ∧ BoxAt W (g + 1 + 1) e.a e.b ∧ Below w.heap.size w W
theorem EAt.on {w : World} {c d e : Net} {g : Nat} {W W' : World} (h : EAt w c d e g W) (hb : Below W.heap.size W W') : EAt w c d e g W' :=
  ⟨h.1.below_b hb, h.2.1.below_b hb, h.2.2.1.below_b hb, h.2.2.2.trans (hb.mono h.2.2.2.size)⟩

set_option maxRecDepth 100000 in
set_option maxHeartbeats 4000000 in
theorem ends_any (a : Nat) (ha : a < 4294967296) (c : Net) (hc : c.a < 4294967296) (d : Net) (hd : d.a < 4294967296) (e : Net) (he : e.a < 4294967296) (w : World) (hE : Env w) : Calls Tryd.prog 7 #[.int .u32 a, c.val, d.val, e.val] w (LawPost w) := by
  have HE := hide hE
  clear hE
  have HFI := hide (fun W => first_any c hc W)
  have HLA := hide (fun W => last_any c hc W)
  have HIC := hide (fun W => in_any c hc a ha W)
  have HHA := hide (fun W => halves_all c hc W)
  have HCD := hide (fun W => covers_any c d hc hd W)
  have HDE := hide (fun W => covers_any d e hd he W)
  have HCE := hide (fun W => covers_any c e hc he W)
  have HID := hide (fun W => in_any d hd a ha W)
  have HEI := hide (ends_in (c := c) a hc)
  have HTR := hide (fun h1 h2 => covers_trans (c := c) (d := d) (e := e) h1 h2)
  have HCI := hide (fun h1 h2 => covers_in (c := c) (d := d) (x := a) h1 h2)
  have HLO := hide (fun (ho : Ok c) (h : c.b < 32) W => in_any (lowOf c) (halves_lt ho h hc).1 a ha W)
  have HHI := hide (fun (ho : Ok c) (h : c.b < 32) W => in_any (highOf c) (halves_lt ho h hc).2 a ha W)
  have HHH := hide (fun (ho : Ok c) (h : c.b < 32) => halves_in ho h a)
  have HX := hide (show EAt w c d e w.heap.size (((w.alloc (.cells #[.int .u32 c.a, .int .i64 c.b] 24)).alloc (.cells #[.int .u32 d.a, .int .i64 d.b] 24)).alloc (.cells #[.int .u32 e.a, .int .i64 e.b] 24)) from by
    have h1 := BoxAt.new w c.a c.b
    have h2 := BoxAt.new (w.alloc (.cells #[.int .u32 c.a, .int .i64 c.b] 24)) d.a d.b
    have h3 := BoxAt.new ((w.alloc (.cells #[.int .u32 c.a, .int .i64 c.b] 24)).alloc (.cells #[.int .u32 d.a, .int .i64 d.b] 24)) e.a e.b
    rw [World.size_alloc] at h2
    rw [World.size_alloc, World.size_alloc] at h3
    exact ⟨(h1.below_b ((Below.refl _ _).alloc (Nat.le_refl _) _)).below_b ((Below.refl _ _).alloc (Nat.le_refl _) _), h2.below_b ((Below.refl _ _).alloc (Nat.le_refl _) _), h3, (((Below.refl _ _).alloc (Nat.le_refl _) _).alloc (by simp) _).alloc (by simp; omega) _⟩)
  generalize (if mayB c = true then c.a else 0) = fa at *
  generalize (if mayB c = true then c.a + (sz c.b - 1) else 0) = la at *
  generalize mayB c = m at *
  generalize inB c a = ic at *
  generalize inB d a = jd at *
  generalize coversB c d = xcd at *
  generalize coversB d e = xde at *
  generalize coversB c e = xce at *
  obtain ⟨ca, cb⟩ := c
  obtain ⟨da, db⟩ := d
  obtain ⟨ea, eb⟩ := e
  unfold Net.val at *
  dsimp only at *
  go_enter Tryd.func7, Tryd.ntmps7
  go_wp2_with fail
  generalize (((w.alloc (.cells #[.int .u32 ca, .int .i64 cb] 24)).alloc (.cells #[.int .u32 da, .int .i64 db] 24)).alloc (.cells #[.int .u32 ea, .int .i64 eb] 24)) = W0 at *
  obtain ⟨g, hg⟩ : ∃ g, w.heap.size = g := ⟨_, rfl⟩
  rw [hg] at HX ⊢
  have HG := hide hg
  clear hg
  have c0c := HX.out.1.c0
  have c1c := HX.out.1.c1
  refine (HFI.out _).mono ?_
  rintro e w1_ ⟨rfl, hB⟩
  have HX1 := hide (HX.out.on hB)
  clear hB
  clear c0c c1c
  have c0c := HX1.out.1.c0
  have c1c := HX1.out.1.c1
  go_wp2_with fail
  refine (HLA.out _).mono ?_
  rintro e w2_ ⟨rfl, hB⟩
  have HX2 := hide (HX1.out.on hB)
  clear hB
  clear c0c c1c
  have c0c := HX2.out.1.c0
  have c1c := HX2.out.1.c1
  go_upto_region 3 with fail
  go_cut [8, 39] (fun s8 s9 W => s8 = .bool false ∧ s9 = .bool false ∧ EAt w ⟨ca, cb⟩ ⟨da, db⟩ ⟨ea, eb⟩ g W)
  case first =>
    have hei := HEI.out
    cases m with
    | false =>
      obtain rfl : ic = false := hei
      go_wp2_with fail
      refine (HIC.out _).mono ?_
      rintro e w3_ ⟨rfl, hB⟩
      have HX3 := hide (HX2.out.on hB)
      clear hB
      go_wp2_with fail
      go_meet
      case rel => exact ⟨rfl, rfl, HX3.out⟩
    | true =>
      by_cases h1 : fa ≤ a
      · have h1' : (fa : Int) ≤ (a : Int) := by omega
        by_cases h2 : a ≤ la
        · have h2' : (a : Int) ≤ (la : Int) := by omega
          obtain rfl : ic = true := by rw [hei]; simp [h1, h2]
          clear hei h1 h2
          go_wp2_with fail
          refine (HIC.out _).mono ?_
          rintro e w3_ ⟨rfl, hB⟩
          have HX3 := hide (HX2.out.on hB)
          clear hB
          go_wp2_with fail
          go_meet
          case rel => exact ⟨rfl, rfl, HX3.out⟩
        · have h2' : ¬ (a : Int) ≤ (la : Int) := by omega
          have h2d : decide (a ≤ la) = false := by simpa using h2
          obtain rfl : ic = false := by rw [hei]; simp [h2]
          clear hei h1 h2
          go_wp2_with fail
          refine (HIC.out _).mono ?_
          rintro e w3_ ⟨rfl, hB⟩
          have HX3 := hide (HX2.out.on hB)
          clear hB
          go_wp2_with fail
          go_meet
          case rel => exact ⟨rfl, rfl, HX3.out⟩
      · have h1' : ¬ (fa : Int) ≤ (a : Int) := by omega
        have h1d : decide (fa ≤ a) = false := by simpa using h1
        obtain rfl : ic = false := by rw [hei]; simp [h1]
        clear hei h1
        go_wp2_with fail
        refine (HIC.out _).mono ?_
        rintro e w3_ ⟨rfl, hB⟩
        have HX3 := hide (HX2.out.on hB)
        clear hB
        go_wp2_with fail
        go_meet
        case rel => exact ⟨rfl, rfl, HX3.out⟩
  case rest =>
    obtain ⟨hs8, hs9, hx⟩ := hcut
    subst hs8 hs9
    have HX4 := hide hx
    clear hx c0c c1c
    have c0c := HX4.out.1.c0
    have c1c := HX4.out.1.c1
    go_wp2_with fail
    refine (HHA.out _).mono ?_
    rintro e w5_ ⟨v, two, rfl, hB, htwo, hyes, hno⟩
    have HX5 := hide (HX4.out.on hB)
    have HYES := hide hyes
    have HNO := hide hno
    have HLT5 : Hid (∀ x, two = true → v.ownBlock = some x → x < w5_.heap.size) := hide (fun x h1 h2 => (hyes h1).2.2.lt h2)
    clear hB htwo hyes hno
    clear c0c c1c
    go_upto_region 6 with fail
    go_cut [8, 82] (fun s8 s9 W => s8 = .bool false ∧ s9 = .bool false ∧ EAt w ⟨ca, cb⟩ ⟨da, db⟩ ⟨ea, eb⟩ g W)
    case first =>
      cases two with
      | false =>
        obtain rfl := HNO.out rfl
        refine wp_region_held_drew (S := fun w' => Below w5_.heap.size w5_ w') (by kernel_rfl) ((Below.refl _ _).drew) (fun hHeld => ?_)
        refine wpAnyH_take (i := 0) (oi := { dst := some 45, op := Op.move (Operand.tmp 14), type := 4, pos := "outright.go:41", after := #[], guard := none }) (v := ?_) rfl (by kernel_rfl) (by kernel_rfl) (by kernel_rfl) (fun _ _ _ h => h) (Or.inl ⟨by rfl, ?_⟩) hHeld ?_
        rotate_left
        · intro w hSw; (try dsimp only at hSw); go_simp; first | done | with_reducible rfl
        try simp only [Act.put, List.setIfInBounds_toArray, List.set_cons_zero, List.set_cons_succ]
        refine wpAnyH_take (i := 1) (oi := { dst := some 46, op := Op.move (Operand.tmp 45), type := 4, pos := "outright.go:41", after := #[{ on := 0, ground := Ground.data }], guard := none }) (v := ?_) rfl (by kernel_rfl) (by kernel_rfl) (by kernel_rfl) (fun _ _ _ h => h) (Or.inl ⟨by rfl, ?_⟩) hHeld ?_
        rotate_left
        · intro w hSw; (try dsimp only at hSw); go_simp; first | done | with_reducible rfl
        try simp only [Act.put, List.setIfInBounds_toArray, List.set_cons_zero, List.set_cons_succ]
        refine wpAnyH_take (i := 2) (oi := { dst := some 47, op := Op.move (Operand.tmp 13), type := 37, pos := "outright.go:41", after := #[{ on := 1, ground := Ground.guard }], guard := some (1, true) }) (v := undef) rfl (by kernel_rfl) (by kernel_rfl) (by kernel_rfl) (fun _ _ _ h => h) (Or.inr ⟨by rfl, rfl⟩) hHeld ?_
        try simp only [Act.put, List.setIfInBounds_toArray, List.set_cons_zero, List.set_cons_succ]
        refine wpAnyH_take (i := 3) (oi := { dst := some 48, op := Op.call { callee := Callee.builtin Builtin.len, args := #[Operand.tmp 47], argTypes := #[37] }, type := 3, pos := "outright.go:41", after := #[{ on := 2, ground := Ground.data }, { on := 1, ground := Ground.guard }], guard := some (1, true) }) (v := undef) rfl (by kernel_rfl) (by kernel_rfl) (by kernel_rfl) (fun _ _ _ h => h) (Or.inr ⟨by rfl, rfl⟩) hHeld ?_
        try simp only [Act.put, List.setIfInBounds_toArray, List.set_cons_zero, List.set_cons_succ]
        refine wpAnyH_take (i := 4) (oi := { dst := some 49, op := Op.binOp BinOp.neq 3 (Operand.tmp 48) (Operand.const (Value.int IntKind.i64 2)) 3, type := 4, pos := "outright.go:41", after := #[{ on := 3, ground := Ground.data }, { on := 1, ground := Ground.guard }], guard := some (1, true) }) (v := undef) rfl (by kernel_rfl) (by kernel_rfl) (by kernel_rfl) (fun _ _ _ h => h) (Or.inr ⟨by rfl, rfl⟩) hHeld ?_
        try simp only [Act.put, List.setIfInBounds_toArray, List.set_cons_zero, List.set_cons_succ]
        refine wpAnyH_take (i := 5) (oi := { dst := some 50, op := Op.move (Operand.tmp 49), type := 4, pos := "outright.go:41", after := #[{ on := 4, ground := Ground.data }, { on := 1, ground := Ground.chain }, { on := 1, ground := Ground.guard }], guard := some (1, true) }) (v := undef) rfl (by kernel_rfl) (by kernel_rfl) (by kernel_rfl) (fun _ _ _ h => h) (Or.inr ⟨by rfl, rfl⟩) hHeld ?_
        try simp only [Act.put, List.setIfInBounds_toArray, List.set_cons_zero, List.set_cons_succ]
        refine wpAnyH_take (i := 6) (oi := { dst := some 51, op := Op.move (Operand.tmp 13), type := 37, pos := "outright.go:41", after := #[{ on := 5, ground := Ground.guard }], guard := some (5, false) }) (v := undef) rfl (by kernel_rfl) (by kernel_rfl) (by kernel_rfl) (fun _ _ _ h => h) (Or.inr ⟨by rfl, rfl⟩) hHeld ?_
        try simp only [Act.put, List.setIfInBounds_toArray, List.set_cons_zero, List.set_cons_succ]
        refine wpAnyH_take (i := 7) (oi := { dst := some 52, op := Op.indexAddr 37 (Operand.tmp 51) (Operand.const (Value.int IntKind.i64 0)), type := 0, pos := "outright.go:41", after := #[{ on := 6, ground := Ground.data }, { on := 5, ground := Ground.guard }], guard := some (5, false) }) (v := undef) rfl (by kernel_rfl) (by kernel_rfl) (by kernel_rfl) (fun _ _ _ h => h) (Or.inr ⟨by rfl, rfl⟩) hHeld ?_
        try simp only [Act.put, List.setIfInBounds_toArray, List.set_cons_zero, List.set_cons_succ]
        refine wpAnyH_take (i := 8) (oi := { dst := some 53, op := Op.load 24 (Operand.tmp 52), type := 24, pos := "outright.go:41", after := #[{ on := 7, ground := Ground.data }, { on := 5, ground := Ground.guard }], guard := some (5, false) }) (v := undef) rfl (by kernel_rfl) (by kernel_rfl) (by kernel_rfl) (fun _ _ _ h => h) (Or.inr ⟨by rfl, rfl⟩) hHeld ?_
        try simp only [Act.put, List.setIfInBounds_toArray, List.set_cons_zero, List.set_cons_succ]
        refine wpAnyH_take (i := 9) (oi := { dst := some 54, op := Op.move (Operand.tmp 0), type := 22, pos := "outright.go:41", after := #[{ on := 5, ground := Ground.guard }], guard := some (5, false) }) (v := undef) rfl (by kernel_rfl) (by kernel_rfl) (by kernel_rfl) (fun _ _ _ h => h) (Or.inr ⟨by rfl, rfl⟩) hHeld ?_
        try simp only [Act.put, List.setIfInBounds_toArray, List.set_cons_zero, List.set_cons_succ]
        refine wpAnyH_take (i := 10) (oi := { dst := some 55, op := Op.call { callee := Callee.value (Operand.func 27), args := #[Operand.tmp 53, Operand.tmp 54], argTypes := #[24, 22] }, type := 4, pos := "outright.go:41", after := #[{ on := 8, ground := Ground.data }, { on := 9, ground := Ground.data }, { on := 5, ground := Ground.chain }, { on := 5, ground := Ground.guard }], guard := some (5, false) }) (v := undef) rfl (by kernel_rfl) (by kernel_rfl) (by kernel_rfl) (fun _ _ _ h => h) (Or.inr ⟨by rfl, rfl⟩) hHeld ?_
        try simp only [Act.put, List.setIfInBounds_toArray, List.set_cons_zero, List.set_cons_succ]
        refine wpAnyH_take (i := 11) (oi := { dst := some 56, op := Op.move (Operand.tmp 55), type := 4, pos := "outright.go:41", after := #[{ on := 10, ground := Ground.data }, { on := 10, ground := Ground.chain }, { on := 5, ground := Ground.guard }], guard := some (5, false) }) (v := undef) rfl (by kernel_rfl) (by kernel_rfl) (by kernel_rfl) (fun _ _ _ h => h) (Or.inr ⟨by rfl, rfl⟩) hHeld ?_
        try simp only [Act.put, List.setIfInBounds_toArray, List.set_cons_zero, List.set_cons_succ]
        refine wpAnyH_take (i := 12) (oi := { dst := some 57, op := Op.move (Operand.tmp 13), type := 37, pos := "outright.go:41", after := #[{ on := 11, ground := Ground.guard }], guard := some (11, true) }) (v := undef) rfl (by kernel_rfl) (by kernel_rfl) (by kernel_rfl) (fun _ _ _ h => h) (Or.inr ⟨by rfl, rfl⟩) hHeld ?_
        try simp only [Act.put, List.setIfInBounds_toArray, List.set_cons_zero, List.set_cons_succ]
        refine wpAnyH_take (i := 13) (oi := { dst := some 58, op := Op.indexAddr 37 (Operand.tmp 57) (Operand.const (Value.int IntKind.i64 1)), type := 0, pos := "outright.go:41", after := #[{ on := 12, ground := Ground.data }, { on := 11, ground := Ground.guard }], guard := some (11, true) }) (v := undef) rfl (by kernel_rfl) (by kernel_rfl) (by kernel_rfl) (fun _ _ _ h => h) (Or.inr ⟨by rfl, rfl⟩) hHeld ?_
        try simp only [Act.put, List.setIfInBounds_toArray, List.set_cons_zero, List.set_cons_succ]
        refine wpAnyH_take (i := 14) (oi := { dst := some 59, op := Op.load 24 (Operand.tmp 58), type := 24, pos := "outright.go:41", after := #[{ on := 13, ground := Ground.data }, { on := 11, ground := Ground.guard }], guard := some (11, true) }) (v := undef) rfl (by kernel_rfl) (by kernel_rfl) (by kernel_rfl) (fun _ _ _ h => h) (Or.inr ⟨by rfl, rfl⟩) hHeld ?_
        try simp only [Act.put, List.setIfInBounds_toArray, List.set_cons_zero, List.set_cons_succ]
        refine wpAnyH_take (i := 15) (oi := { dst := some 60, op := Op.move (Operand.tmp 0), type := 22, pos := "outright.go:41", after := #[{ on := 11, ground := Ground.guard }], guard := some (11, true) }) (v := undef) rfl (by kernel_rfl) (by kernel_rfl) (by kernel_rfl) (fun _ _ _ h => h) (Or.inr ⟨by rfl, rfl⟩) hHeld ?_
        try simp only [Act.put, List.setIfInBounds_toArray, List.set_cons_zero, List.set_cons_succ]
        refine wpAnyH_take (i := 16) (oi := { dst := some 61, op := Op.call { callee := Callee.value (Operand.func 27), args := #[Operand.tmp 59, Operand.tmp 60], argTypes := #[24, 22] }, type := 4, pos := "outright.go:41", after := #[{ on := 14, ground := Ground.data }, { on := 15, ground := Ground.data }, { on := 11, ground := Ground.chain }, { on := 11, ground := Ground.guard }], guard := some (11, true) }) (v := undef) rfl (by kernel_rfl) (by kernel_rfl) (by kernel_rfl) (fun _ _ _ h => h) (Or.inr ⟨by rfl, rfl⟩) hHeld ?_
        try simp only [Act.put, List.setIfInBounds_toArray, List.set_cons_zero, List.set_cons_succ]
        refine wpAnyH_take (i := 17) (oi := { dst := some 62, op := Op.pick (Operand.tmp 56) (Operand.tmp 61) (Operand.const (Value.bool false)), type := 4, pos := "outright.go:41", after := #[{ on := 11, ground := Ground.data }, { on := 16, ground := Ground.data }, { on := 5, ground := Ground.guard }], guard := some (5, false) }) (v := undef) rfl (by kernel_rfl) (by kernel_rfl) (by kernel_rfl) (fun _ _ _ h => h) (Or.inr ⟨by rfl, rfl⟩) hHeld ?_
        try simp only [Act.put, List.setIfInBounds_toArray, List.set_cons_zero, List.set_cons_succ]
        refine wpAnyH_take (i := 18) (oi := { dst := some 63, op := Op.pick (Operand.tmp 50) (Operand.const (Value.bool true)) (Operand.tmp 62), type := 4, pos := "outright.go:41", after := #[{ on := 5, ground := Ground.data }, { on := 17, ground := Ground.data }, { on := 1, ground := Ground.guard }], guard := some (1, true) }) (v := undef) rfl (by kernel_rfl) (by kernel_rfl) (by kernel_rfl) (fun _ _ _ h => h) (Or.inr ⟨by rfl, rfl⟩) hHeld ?_
        try simp only [Act.put, List.setIfInBounds_toArray, List.set_cons_zero, List.set_cons_succ]
        refine wpAnyH_take (i := 19) (oi := { dst := some 64, op := Op.move (Operand.tmp 63), type := 4, pos := "outright.go:41", after := #[{ on := 18, ground := Ground.data }, { on := 16, ground := Ground.chain }, { on := 1, ground := Ground.guard }], guard := some (1, true) }) (v := undef) rfl (by kernel_rfl) (by kernel_rfl) (by kernel_rfl) (fun _ _ _ h => h) (Or.inr ⟨by rfl, rfl⟩) hHeld ?_
        try simp only [Act.put, List.setIfInBounds_toArray, List.set_cons_zero, List.set_cons_succ]
        refine wpAnyH_take (i := 20) (oi := { dst := some 65, op := Op.move (Operand.tmp 13), type := 37, pos := "outright.go:41", after := #[{ on := 19, ground := Ground.guard }], guard := some (19, false) }) (v := undef) rfl (by kernel_rfl) (by kernel_rfl) (by kernel_rfl) (fun _ _ _ h => h) (Or.inr ⟨by rfl, rfl⟩) hHeld ?_
        try simp only [Act.put, List.setIfInBounds_toArray, List.set_cons_zero, List.set_cons_succ]
        refine wpAnyH_take (i := 21) (oi := { dst := some 66, op := Op.indexAddr 37 (Operand.tmp 65) (Operand.const (Value.int IntKind.i64 0)), type := 0, pos := "outright.go:41", after := #[{ on := 20, ground := Ground.data }, { on := 19, ground := Ground.guard }], guard := some (19, false) }) (v := undef) rfl (by kernel_rfl) (by kernel_rfl) (by kernel_rfl) (fun _ _ _ h => h) (Or.inr ⟨by rfl, rfl⟩) hHeld ?_
        try simp only [Act.put, List.setIfInBounds_toArray, List.set_cons_zero, List.set_cons_succ]
        refine wpAnyH_take (i := 22) (oi := { dst := some 67, op := Op.load 24 (Operand.tmp 66), type := 24, pos := "outright.go:41", after := #[{ on := 21, ground := Ground.data }, { on := 19, ground := Ground.guard }], guard := some (19, false) }) (v := undef) rfl (by kernel_rfl) (by kernel_rfl) (by kernel_rfl) (fun _ _ _ h => h) (Or.inr ⟨by rfl, rfl⟩) hHeld ?_
        try simp only [Act.put, List.setIfInBounds_toArray, List.set_cons_zero, List.set_cons_succ]
        refine wpAnyH_take (i := 23) (oi := { dst := some 68, op := Op.move (Operand.tmp 0), type := 22, pos := "outright.go:41", after := #[{ on := 19, ground := Ground.guard }], guard := some (19, false) }) (v := undef) rfl (by kernel_rfl) (by kernel_rfl) (by kernel_rfl) (fun _ _ _ h => h) (Or.inr ⟨by rfl, rfl⟩) hHeld ?_
        try simp only [Act.put, List.setIfInBounds_toArray, List.set_cons_zero, List.set_cons_succ]
        refine wpAnyH_take (i := 24) (oi := { dst := some 69, op := Op.call { callee := Callee.value (Operand.func 27), args := #[Operand.tmp 67, Operand.tmp 68], argTypes := #[24, 22] }, type := 4, pos := "outright.go:41", after := #[{ on := 22, ground := Ground.data }, { on := 23, ground := Ground.data }, { on := 19, ground := Ground.chain }, { on := 19, ground := Ground.guard }], guard := some (19, false) }) (v := undef) rfl (by kernel_rfl) (by kernel_rfl) (by kernel_rfl) (fun _ _ _ h => h) (Or.inr ⟨by rfl, rfl⟩) hHeld ?_
        try simp only [Act.put, List.setIfInBounds_toArray, List.set_cons_zero, List.set_cons_succ]
        refine wpAnyH_take (i := 25) (oi := { dst := some 70, op := Op.move (Operand.tmp 69), type := 4, pos := "outright.go:41", after := #[{ on := 24, ground := Ground.data }, { on := 24, ground := Ground.chain }, { on := 19, ground := Ground.guard }], guard := some (19, false) }) (v := undef) rfl (by kernel_rfl) (by kernel_rfl) (by kernel_rfl) (fun _ _ _ h => h) (Or.inr ⟨by rfl, rfl⟩) hHeld ?_
        try simp only [Act.put, List.setIfInBounds_toArray, List.set_cons_zero, List.set_cons_succ]
        refine wpAnyH_take (i := 26) (oi := { dst := some 71, op := Op.move (Operand.tmp 13), type := 37, pos := "outright.go:41", after := #[{ on := 25, ground := Ground.guard }], guard := some (25, false) }) (v := undef) rfl (by kernel_rfl) (by kernel_rfl) (by kernel_rfl) (fun _ _ _ h => h) (Or.inr ⟨by rfl, rfl⟩) hHeld ?_
        try simp only [Act.put, List.setIfInBounds_toArray, List.set_cons_zero, List.set_cons_succ]
        refine wpAnyH_take (i := 27) (oi := { dst := some 72, op := Op.indexAddr 37 (Operand.tmp 71) (Operand.const (Value.int IntKind.i64 1)), type := 0, pos := "outright.go:41", after := #[{ on := 26, ground := Ground.data }, { on := 25, ground := Ground.guard }], guard := some (25, false) }) (v := undef) rfl (by kernel_rfl) (by kernel_rfl) (by kernel_rfl) (fun _ _ _ h => h) (Or.inr ⟨by rfl, rfl⟩) hHeld ?_
        try simp only [Act.put, List.setIfInBounds_toArray, List.set_cons_zero, List.set_cons_succ]
        refine wpAnyH_take (i := 28) (oi := { dst := some 73, op := Op.load 24 (Operand.tmp 72), type := 24, pos := "outright.go:41", after := #[{ on := 27, ground := Ground.data }, { on := 25, ground := Ground.guard }], guard := some (25, false) }) (v := undef) rfl (by kernel_rfl) (by kernel_rfl) (by kernel_rfl) (fun _ _ _ h => h) (Or.inr ⟨by rfl, rfl⟩) hHeld ?_
        try simp only [Act.put, List.setIfInBounds_toArray, List.set_cons_zero, List.set_cons_succ]
        refine wpAnyH_take (i := 29) (oi := { dst := some 74, op := Op.move (Operand.tmp 0), type := 22, pos := "outright.go:41", after := #[{ on := 25, ground := Ground.guard }], guard := some (25, false) }) (v := undef) rfl (by kernel_rfl) (by kernel_rfl) (by kernel_rfl) (fun _ _ _ h => h) (Or.inr ⟨by rfl, rfl⟩) hHeld ?_
        try simp only [Act.put, List.setIfInBounds_toArray, List.set_cons_zero, List.set_cons_succ]
        refine wpAnyH_take (i := 30) (oi := { dst := some 75, op := Op.call { callee := Callee.value (Operand.func 27), args := #[Operand.tmp 73, Operand.tmp 74], argTypes := #[24, 22] }, type := 4, pos := "outright.go:41", after := #[{ on := 28, ground := Ground.data }, { on := 29, ground := Ground.data }, { on := 25, ground := Ground.chain }, { on := 25, ground := Ground.guard }], guard := some (25, false) }) (v := undef) rfl (by kernel_rfl) (by kernel_rfl) (by kernel_rfl) (fun _ _ _ h => h) (Or.inr ⟨by rfl, rfl⟩) hHeld ?_
        try simp only [Act.put, List.setIfInBounds_toArray, List.set_cons_zero, List.set_cons_succ]
        refine wpAnyH_take (i := 31) (oi := { dst := some 76, op := Op.pick (Operand.tmp 70) (Operand.const (Value.bool true)) (Operand.tmp 75), type := 4, pos := "outright.go:41", after := #[{ on := 25, ground := Ground.data }, { on := 30, ground := Ground.data }, { on := 19, ground := Ground.guard }], guard := some (19, false) }) (v := undef) rfl (by kernel_rfl) (by kernel_rfl) (by kernel_rfl) (fun _ _ _ h => h) (Or.inr ⟨by rfl, rfl⟩) hHeld ?_
        try simp only [Act.put, List.setIfInBounds_toArray, List.set_cons_zero, List.set_cons_succ]
        refine wpAnyH_take (i := 32) (oi := { dst := some 77, op := Op.load 24 (Operand.tmp 5), type := 24, pos := "outright.go:41", after := #[{ on := 19, ground := Ground.guard }], guard := some (19, false) }) (v := undef) rfl (by kernel_rfl) (by kernel_rfl) (by kernel_rfl) (fun _ _ _ h => h) (Or.inr ⟨by rfl, rfl⟩) hHeld ?_
        try simp only [Act.put, List.setIfInBounds_toArray, List.set_cons_zero, List.set_cons_succ]
        refine wpAnyH_take (i := 33) (oi := { dst := some 78, op := Op.move (Operand.tmp 0), type := 22, pos := "outright.go:41", after := #[{ on := 19, ground := Ground.guard }], guard := some (19, false) }) (v := undef) rfl (by kernel_rfl) (by kernel_rfl) (by kernel_rfl) (fun _ _ _ h => h) (Or.inr ⟨by rfl, rfl⟩) hHeld ?_
        try simp only [Act.put, List.setIfInBounds_toArray, List.set_cons_zero, List.set_cons_succ]
        refine wpAnyH_take (i := 34) (oi := { dst := some 79, op := Op.call { callee := Callee.value (Operand.func 27), args := #[Operand.tmp 77, Operand.tmp 78], argTypes := #[24, 22] }, type := 4, pos := "outright.go:41", after := #[{ on := 32, ground := Ground.data }, { on := 33, ground := Ground.data }, { on := 30, ground := Ground.chain }, { on := 19, ground := Ground.guard }], guard := some (19, false) }) (v := undef) rfl (by kernel_rfl) (by kernel_rfl) (by kernel_rfl) (fun _ _ _ h => h) (Or.inr ⟨by rfl, rfl⟩) hHeld ?_
        try simp only [Act.put, List.setIfInBounds_toArray, List.set_cons_zero, List.set_cons_succ]
        refine wpAnyH_take (i := 35) (oi := { dst := some 80, op := Op.binOp BinOp.neq 4 (Operand.tmp 76) (Operand.tmp 79) 4, type := 4, pos := "outright.go:41", after := #[{ on := 31, ground := Ground.data }, { on := 34, ground := Ground.data }, { on := 19, ground := Ground.guard }], guard := some (19, false) }) (v := undef) rfl (by kernel_rfl) (by kernel_rfl) (by kernel_rfl) (fun _ _ _ h => h) (Or.inr ⟨by rfl, rfl⟩) hHeld ?_
        try simp only [Act.put, List.setIfInBounds_toArray, List.set_cons_zero, List.set_cons_succ]
        refine wpAnyH_take (i := 36) (oi := { dst := some 81, op := Op.pick (Operand.tmp 64) (Operand.const (Value.bool true)) (Operand.tmp 80), type := 4, pos := "outright.go:41", after := #[{ on := 19, ground := Ground.data }, { on := 35, ground := Ground.data }, { on := 1, ground := Ground.guard }], guard := some (1, true) }) (v := undef) rfl (by kernel_rfl) (by kernel_rfl) (by kernel_rfl) (fun _ _ _ h => h) (Or.inr ⟨by rfl, rfl⟩) hHeld ?_
        try simp only [Act.put, List.setIfInBounds_toArray, List.set_cons_zero, List.set_cons_succ]
        refine wpAnyH_take (i := 37) (oi := { dst := some 82, op := Op.pick (Operand.tmp 46) (Operand.tmp 81) (Operand.const (Value.bool false)), type := 4, pos := "outright.go:41", after := #[{ on := 1, ground := Ground.data }, { on := 36, ground := Ground.data }], guard := none }) (v := ?_) rfl (by kernel_rfl) (by kernel_rfl) (by kernel_rfl) (fun _ _ _ h => h) (Or.inl ⟨by rfl, ?_⟩) hHeld ?_
        rotate_left
        · intro w hSw; (try dsimp only at hSw); go_simp; first | done | with_reducible rfl
        try simp only [Act.put, List.setIfInBounds_toArray, List.set_cons_zero, List.set_cons_succ]
        refine wpAnyH_done (by kernel_rfl) ?_ _
        clear hHeld
        go_wp2_with fail
        go_meet
        case rel => exact ⟨rfl, rfl, HX5.out.on ((Below.refl w5_.heap.size w5_).drew)⟩
      | true =>
        obtain ⟨hok, hb32, hrow⟩ := HYES.out rfl
        have hh := HHH.out hok hb32
        have HLQ := hide (HLO.out hok hb32)
        have HHQ := hide (HHI.out hok hb32)
        have hT := hrow.cAt
        obtain ⟨aol, capl, rfl⟩ := hT.len
        obtain ⟨gl, ol, rfl, hbl, hm0, hm1⟩ := hT.at (k := 0) (by simp)
        obtain ⟨gl2, ol2, hao2, hbl2, hm2, hm3⟩ := hT.at (k := 1) (by simp)
        injection hao2 with hao2
        injection hao2 with q1 q2
        subst q1 q2
        rw [Nat.zero_mul, Nat.add_zero] at hm0 hm1
        rw [Nat.one_mul] at hm2 hm3
        have D0 : Hid (w5_.cell? ⟨gl, ol, none⟩ = some (.int .u32 ((lowOf ⟨ca, cb⟩).a : Int))) := hide hm0
        have D1 : Hid (w5_.cell? ⟨gl, ol + 1, none⟩ = some (.int .i64 (lowOf ⟨ca, cb⟩).b)) := hide hm1
        have D2 : Hid (w5_.cell? ⟨gl, ol + 2, none⟩ = some (.int .u32 ((highOf ⟨ca, cb⟩).a : Int))) := hide hm2
        have D3 : Hid (w5_.cell? ⟨gl, ol + 3, none⟩ = some (.int .i64 (highOf ⟨ca, cb⟩).b)) := hide hm3
        have HBL := hide hbl
        clear hrow hT hm0 hm1 hm2 hm3 hbl hbl2 hok hb32 HYES HNO HLT5 HHH HLO HHI
        simp only [List.length_cons, List.length_nil, Nat.zero_add]
        generalize inB (lowOf ⟨ca, cb⟩) a = A at *
        generalize inB (highOf ⟨ca, cb⟩) a = B at *
        obtain ⟨la0, lb0⟩ : ∃ p : Net, p = lowOf ⟨ca, cb⟩ := ⟨_, rfl⟩
        obtain ⟨ha0, hb0⟩ : ∃ p : Net, p = highOf ⟨ca, cb⟩ := ⟨_, rfl⟩
        rw [← lb0] at HLQ D0 D1
        rw [← hb0] at HHQ D2 D3
        clear lb0 hb0
        cases A with
        | true =>
          cases B with
          | true => simp at hh
          | false =>
            obtain rfl : ic = true := by simpa using hh
            clear hh
            refine wp_region_held_drew (S := fun w' => Below w5_.heap.size w5_ w') (by kernel_rfl) ((Below.refl _ _).drew) (fun hHeld => ?_)
            refine wpAnyH_take (i := 0) (oi := { dst := some 45, op := Op.move (Operand.tmp 14), type := 4, pos := "outright.go:41", after := #[], guard := none }) (v := ?_) rfl (by kernel_rfl) (by kernel_rfl) (by kernel_rfl) (fun _ _ _ h => h) (Or.inl ⟨by rfl, ?_⟩) hHeld ?_
            rotate_left
            · intro w hSw; (try dsimp only at hSw); go_simp; first | done | with_reducible rfl
            try simp only [Act.put, List.setIfInBounds_toArray, List.set_cons_zero, List.set_cons_succ]
            refine wpAnyH_take (i := 1) (oi := { dst := some 46, op := Op.move (Operand.tmp 45), type := 4, pos := "outright.go:41", after := #[{ on := 0, ground := Ground.data }], guard := none }) (v := ?_) rfl (by kernel_rfl) (by kernel_rfl) (by kernel_rfl) (fun _ _ _ h => h) (Or.inl ⟨by rfl, ?_⟩) hHeld ?_
            rotate_left
            · intro w hSw; (try dsimp only at hSw); go_simp; first | done | with_reducible rfl
            try simp only [Act.put, List.setIfInBounds_toArray, List.set_cons_zero, List.set_cons_succ]
            refine wpAnyH_take (i := 2) (oi := { dst := some 47, op := Op.move (Operand.tmp 13), type := 37, pos := "outright.go:41", after := #[{ on := 1, ground := Ground.guard }], guard := some (1, true) }) (v := ?_) rfl (by kernel_rfl) (by kernel_rfl) (by kernel_rfl) (fun _ _ _ h => h) (Or.inl ⟨by rfl, ?_⟩) hHeld ?_
            rotate_left
            · intro w hSw; (try dsimp only at hSw); go_simp; first | done | with_reducible rfl
            try simp only [Act.put, List.setIfInBounds_toArray, List.set_cons_zero, List.set_cons_succ]
            refine wpAnyH_take (i := 3) (oi := { dst := some 48, op := Op.call { callee := Callee.builtin Builtin.len, args := #[Operand.tmp 47], argTypes := #[37] }, type := 3, pos := "outright.go:41", after := #[{ on := 2, ground := Ground.data }, { on := 1, ground := Ground.guard }], guard := some (1, true) }) (v := ?_) rfl (by kernel_rfl) (by kernel_rfl) (by kernel_rfl) (fun _ _ _ h => h) (Or.inl ⟨by rfl, ?_⟩) hHeld ?_
            rotate_left
            · intro w hSw; (try dsimp only at hSw); go_simp; first | done | with_reducible rfl
            try simp only [Act.put, List.setIfInBounds_toArray, List.set_cons_zero, List.set_cons_succ]
            refine wpAnyH_take (i := 4) (oi := { dst := some 49, op := Op.binOp BinOp.neq 3 (Operand.tmp 48) (Operand.const (Value.int IntKind.i64 2)) 3, type := 4, pos := "outright.go:41", after := #[{ on := 3, ground := Ground.data }, { on := 1, ground := Ground.guard }], guard := some (1, true) }) (v := ?_) rfl (by kernel_rfl) (by kernel_rfl) (by kernel_rfl) (fun _ _ _ h => h) (Or.inl ⟨by rfl, ?_⟩) hHeld ?_
            rotate_left
            · intro w hSw; (try dsimp only at hSw); go_simp; first | done | with_reducible rfl
            try simp only [Act.put, List.setIfInBounds_toArray, List.set_cons_zero, List.set_cons_succ]
            refine wpAnyH_take (i := 5) (oi := { dst := some 50, op := Op.move (Operand.tmp 49), type := 4, pos := "outright.go:41", after := #[{ on := 4, ground := Ground.data }, { on := 1, ground := Ground.chain }, { on := 1, ground := Ground.guard }], guard := some (1, true) }) (v := ?_) rfl (by kernel_rfl) (by kernel_rfl) (by kernel_rfl) (fun _ _ _ h => h) (Or.inl ⟨by rfl, ?_⟩) hHeld ?_
            rotate_left
            · intro w hSw; (try dsimp only at hSw); go_simp; first | done | with_reducible rfl
            try simp only [Act.put, List.setIfInBounds_toArray, List.set_cons_zero, List.set_cons_succ]
            refine wpAnyH_take (i := 6) (oi := { dst := some 51, op := Op.move (Operand.tmp 13), type := 37, pos := "outright.go:41", after := #[{ on := 5, ground := Ground.guard }], guard := some (5, false) }) (v := ?_) rfl (by kernel_rfl) (by kernel_rfl) (by kernel_rfl) (fun _ _ _ h => h) (Or.inl ⟨by rfl, ?_⟩) hHeld ?_
            rotate_left
            · intro w hSw; (try dsimp only at hSw); go_simp; first | done | with_reducible rfl
            try simp only [Act.put, List.setIfInBounds_toArray, List.set_cons_zero, List.set_cons_succ]
            refine wpAnyH_take (i := 7) (oi := { dst := some 52, op := Op.indexAddr 37 (Operand.tmp 51) (Operand.const (Value.int IntKind.i64 0)), type := 0, pos := "outright.go:41", after := #[{ on := 6, ground := Ground.data }, { on := 5, ground := Ground.guard }], guard := some (5, false) }) (v := ?_) rfl (by kernel_rfl) (by kernel_rfl) (by kernel_rfl) (fun _ _ _ h => h) (Or.inl ⟨by rfl, ?_⟩) hHeld ?_
            rotate_left
            · intro w hSw; (try dsimp only at hSw); go_simp; first | done | with_reducible rfl
            try simp only [Act.put, List.setIfInBounds_toArray, List.set_cons_zero, List.set_cons_succ]
            refine wpAnyH_take (i := 8) (oi := { dst := some 53, op := Op.load 24 (Operand.tmp 52), type := 24, pos := "outright.go:41", after := #[{ on := 7, ground := Ground.data }, { on := 5, ground := Ground.guard }], guard := some (5, false) }) (v := ?_) rfl (by kernel_rfl) (by kernel_rfl) (by kernel_rfl) (fun _ _ _ h => h) (Or.inl ⟨by rfl, ?_⟩) hHeld ?_
            rotate_left
            · intro w hSw; (try dsimp only at hSw); have e0 := (hSw.cell (p := ⟨g, 0, none⟩) HX5.out.1.lt).trans HX5.out.1.c0; have e1 := (hSw.cell (p := ⟨g, 1, none⟩) HX5.out.1.lt).trans HX5.out.1.c1; have e2 := (hSw.cell (p := ⟨gl, ol, none⟩) HBL.out).trans D0.out; have e3 := (hSw.cell (p := ⟨gl, ol + 1, none⟩) HBL.out).trans D1.out; have e4 := (hSw.cell (p := ⟨gl, ol + 2, none⟩) HBL.out).trans D2.out; have e5 := (hSw.cell (p := ⟨gl, ol + 3, none⟩) HBL.out).trans D3.out; go_simp; first | done | with_reducible rfl
            try simp only [Act.put, List.setIfInBounds_toArray, List.set_cons_zero, List.set_cons_succ]
            refine wpAnyH_take (i := 9) (oi := { dst := some 54, op := Op.move (Operand.tmp 0), type := 22, pos := "outright.go:41", after := #[{ on := 5, ground := Ground.guard }], guard := some (5, false) }) (v := ?_) rfl (by kernel_rfl) (by kernel_rfl) (by kernel_rfl) (fun _ _ _ h => h) (Or.inl ⟨by rfl, ?_⟩) hHeld ?_
            rotate_left
            · intro w hSw; (try dsimp only at hSw); go_simp; first | done | with_reducible rfl
            try simp only [Act.put, List.setIfInBounds_toArray, List.set_cons_zero, List.set_cons_succ]
            refine wpAnyH_ready (rs := [10]) (by kernel_rfl) (by simp) ?_
            refine AllReadyH.cons (o := { dst := some 55, op := Op.call { callee := Callee.value (Operand.func 27), args := #[Operand.tmp 53, Operand.tmp 54], argTypes := #[24, 22] }, type := 4, pos := "outright.go:41", after := #[{ on := 8, ground := Ground.data }, { on := 9, ground := Ground.data }, { on := 5, ground := Ground.chain }, { on := 5, ground := Ground.guard }], guard := some (5, false) }) rfl (fun K hK => ?_) AllReadyH.nil
            clear hHeld
            go_simp
            refine (HLQ.out _).mono ?_
            rintro e wr1 ⟨rfl, hB⟩
            have HR1 := hide (((Below.refl w5_.heap.size w5_).drew).trans (hB.mono ((Below.refl w5_.heap.size w5_).drew).size))
            clear hB
            refine hK.out _ _ (HR1.out) (fun hHeld => ?_)
            clear hK K
            try simp only [Act.put, List.setIfInBounds_toArray, List.set_cons_zero, List.set_cons_succ]
            refine wpAnyH_take (i := 11) (oi := { dst := some 56, op := Op.move (Operand.tmp 55), type := 4, pos := "outright.go:41", after := #[{ on := 10, ground := Ground.data }, { on := 10, ground := Ground.chain }, { on := 5, ground := Ground.guard }], guard := some (5, false) }) (v := ?_) rfl (by kernel_rfl) (by kernel_rfl) (by kernel_rfl) (fun _ _ _ h => h) (Or.inl ⟨by rfl, ?_⟩) hHeld ?_
            rotate_left
            · intro w hSw; (try dsimp only at hSw); go_simp; first | done | with_reducible rfl
            try simp only [Act.put, List.setIfInBounds_toArray, List.set_cons_zero, List.set_cons_succ]
            refine wpAnyH_take (i := 12) (oi := { dst := some 57, op := Op.move (Operand.tmp 13), type := 37, pos := "outright.go:41", after := #[{ on := 11, ground := Ground.guard }], guard := some (11, true) }) (v := ?_) rfl (by kernel_rfl) (by kernel_rfl) (by kernel_rfl) (fun _ _ _ h => h) (Or.inl ⟨by rfl, ?_⟩) hHeld ?_
            rotate_left
            · intro w hSw; (try dsimp only at hSw); go_simp; first | done | with_reducible rfl
            try simp only [Act.put, List.setIfInBounds_toArray, List.set_cons_zero, List.set_cons_succ]
            refine wpAnyH_take (i := 13) (oi := { dst := some 58, op := Op.indexAddr 37 (Operand.tmp 57) (Operand.const (Value.int IntKind.i64 1)), type := 0, pos := "outright.go:41", after := #[{ on := 12, ground := Ground.data }, { on := 11, ground := Ground.guard }], guard := some (11, true) }) (v := ?_) rfl (by kernel_rfl) (by kernel_rfl) (by kernel_rfl) (fun _ _ _ h => h) (Or.inl ⟨by rfl, ?_⟩) hHeld ?_
            rotate_left
            · intro w hSw; (try dsimp only at hSw); go_simp; first | done | with_reducible rfl
            try simp only [Act.put, List.setIfInBounds_toArray, List.set_cons_zero, List.set_cons_succ]
            refine wpAnyH_take (i := 14) (oi := { dst := some 59, op := Op.load 24 (Operand.tmp 58), type := 24, pos := "outright.go:41", after := #[{ on := 13, ground := Ground.data }, { on := 11, ground := Ground.guard }], guard := some (11, true) }) (v := ?_) rfl (by kernel_rfl) (by kernel_rfl) (by kernel_rfl) (fun _ _ _ h => h) (Or.inl ⟨by rfl, ?_⟩) hHeld ?_
            rotate_left
            · intro w hSw; (try dsimp only at hSw); have e0 := (hSw.cell (p := ⟨g, 0, none⟩) HX5.out.1.lt).trans HX5.out.1.c0; have e1 := (hSw.cell (p := ⟨g, 1, none⟩) HX5.out.1.lt).trans HX5.out.1.c1; have e2 := (hSw.cell (p := ⟨gl, ol, none⟩) HBL.out).trans D0.out; have e3 := (hSw.cell (p := ⟨gl, ol + 1, none⟩) HBL.out).trans D1.out; have e4 := (hSw.cell (p := ⟨gl, ol + 2, none⟩) HBL.out).trans D2.out; have e5 := (hSw.cell (p := ⟨gl, ol + 3, none⟩) HBL.out).trans D3.out; go_simp; first | done | with_reducible rfl
            try simp only [Act.put, List.setIfInBounds_toArray, List.set_cons_zero, List.set_cons_succ]
            refine wpAnyH_take (i := 15) (oi := { dst := some 60, op := Op.move (Operand.tmp 0), type := 22, pos := "outright.go:41", after := #[{ on := 11, ground := Ground.guard }], guard := some (11, true) }) (v := ?_) rfl (by kernel_rfl) (by kernel_rfl) (by kernel_rfl) (fun _ _ _ h => h) (Or.inl ⟨by rfl, ?_⟩) hHeld ?_
            rotate_left
            · intro w hSw; (try dsimp only at hSw); go_simp; first | done | with_reducible rfl
            try simp only [Act.put, List.setIfInBounds_toArray, List.set_cons_zero, List.set_cons_succ]
            refine wpAnyH_ready (rs := [16]) (by kernel_rfl) (by simp) ?_
            refine AllReadyH.cons (o := { dst := some 61, op := Op.call { callee := Callee.value (Operand.func 27), args := #[Operand.tmp 59, Operand.tmp 60], argTypes := #[24, 22] }, type := 4, pos := "outright.go:41", after := #[{ on := 14, ground := Ground.data }, { on := 15, ground := Ground.data }, { on := 11, ground := Ground.chain }, { on := 11, ground := Ground.guard }], guard := some (11, true) }) rfl (fun K hK => ?_) AllReadyH.nil
            clear hHeld
            go_simp
            refine (HHQ.out _).mono ?_
            rintro e wr2 ⟨rfl, hB⟩
            have HR2 := hide (HR1.out.trans (hB.mono HR1.out.size))
            clear hB
            refine hK.out _ _ (HR2.out) (fun hHeld => ?_)
            clear hK K
            try simp only [Act.put, List.setIfInBounds_toArray, List.set_cons_zero, List.set_cons_succ]
            refine wpAnyH_take (i := 17) (oi := { dst := some 62, op := Op.pick (Operand.tmp 56) (Operand.tmp 61) (Operand.const (Value.bool false)), type := 4, pos := "outright.go:41", after := #[{ on := 11, ground := Ground.data }, { on := 16, ground := Ground.data }, { on := 5, ground := Ground.guard }], guard := some (5, false) }) (v := ?_) rfl (by kernel_rfl) (by kernel_rfl) (by kernel_rfl) (fun _ _ _ h => h) (Or.inl ⟨by rfl, ?_⟩) hHeld ?_
            rotate_left
            · intro w hSw; (try dsimp only at hSw); go_simp; first | done | with_reducible rfl
            try simp only [Act.put, List.setIfInBounds_toArray, List.set_cons_zero, List.set_cons_succ]
            refine wpAnyH_take (i := 18) (oi := { dst := some 63, op := Op.pick (Operand.tmp 50) (Operand.const (Value.bool true)) (Operand.tmp 62), type := 4, pos := "outright.go:41", after := #[{ on := 5, ground := Ground.data }, { on := 17, ground := Ground.data }, { on := 1, ground := Ground.guard }], guard := some (1, true) }) (v := ?_) rfl (by kernel_rfl) (by kernel_rfl) (by kernel_rfl) (fun _ _ _ h => h) (Or.inl ⟨by rfl, ?_⟩) hHeld ?_
            rotate_left
            · intro w hSw; (try dsimp only at hSw); go_simp; first | done | with_reducible rfl
            try simp only [Act.put, List.setIfInBounds_toArray, List.set_cons_zero, List.set_cons_succ]
            refine wpAnyH_take (i := 19) (oi := { dst := some 64, op := Op.move (Operand.tmp 63), type := 4, pos := "outright.go:41", after := #[{ on := 18, ground := Ground.data }, { on := 16, ground := Ground.chain }, { on := 1, ground := Ground.guard }], guard := some (1, true) }) (v := ?_) rfl (by kernel_rfl) (by kernel_rfl) (by kernel_rfl) (fun _ _ _ h => h) (Or.inl ⟨by rfl, ?_⟩) hHeld ?_
            rotate_left
            · intro w hSw; (try dsimp only at hSw); go_simp; first | done | with_reducible rfl
            try simp only [Act.put, List.setIfInBounds_toArray, List.set_cons_zero, List.set_cons_succ]
            refine wpAnyH_take (i := 20) (oi := { dst := some 65, op := Op.move (Operand.tmp 13), type := 37, pos := "outright.go:41", after := #[{ on := 19, ground := Ground.guard }], guard := some (19, false) }) (v := ?_) rfl (by kernel_rfl) (by kernel_rfl) (by kernel_rfl) (fun _ _ _ h => h) (Or.inl ⟨by rfl, ?_⟩) hHeld ?_
            rotate_left
            · intro w hSw; (try dsimp only at hSw); go_simp; first | done | with_reducible rfl
            try simp only [Act.put, List.setIfInBounds_toArray, List.set_cons_zero, List.set_cons_succ]
            refine wpAnyH_take (i := 21) (oi := { dst := some 66, op := Op.indexAddr 37 (Operand.tmp 65) (Operand.const (Value.int IntKind.i64 0)), type := 0, pos := "outright.go:41", after := #[{ on := 20, ground := Ground.data }, { on := 19, ground := Ground.guard }], guard := some (19, false) }) (v := ?_) rfl (by kernel_rfl) (by kernel_rfl) (by kernel_rfl) (fun _ _ _ h => h) (Or.inl ⟨by rfl, ?_⟩) hHeld ?_
            rotate_left
            · intro w hSw; (try dsimp only at hSw); go_simp; first | done | with_reducible rfl
            try simp only [Act.put, List.setIfInBounds_toArray, List.set_cons_zero, List.set_cons_succ]
            refine wpAnyH_take (i := 22) (oi := { dst := some 67, op := Op.load 24 (Operand.tmp 66), type := 24, pos := "outright.go:41", after := #[{ on := 21, ground := Ground.data }, { on := 19, ground := Ground.guard }], guard := some (19, false) }) (v := ?_) rfl (by kernel_rfl) (by kernel_rfl) (by kernel_rfl) (fun _ _ _ h => h) (Or.inl ⟨by rfl, ?_⟩) hHeld ?_
            rotate_left
            · intro w hSw; (try dsimp only at hSw); have e0 := (hSw.cell (p := ⟨g, 0, none⟩) HX5.out.1.lt).trans HX5.out.1.c0; have e1 := (hSw.cell (p := ⟨g, 1, none⟩) HX5.out.1.lt).trans HX5.out.1.c1; have e2 := (hSw.cell (p := ⟨gl, ol, none⟩) HBL.out).trans D0.out; have e3 := (hSw.cell (p := ⟨gl, ol + 1, none⟩) HBL.out).trans D1.out; have e4 := (hSw.cell (p := ⟨gl, ol + 2, none⟩) HBL.out).trans D2.out; have e5 := (hSw.cell (p := ⟨gl, ol + 3, none⟩) HBL.out).trans D3.out; go_simp; first | done | with_reducible rfl
            try simp only [Act.put, List.setIfInBounds_toArray, List.set_cons_zero, List.set_cons_succ]
            refine wpAnyH_take (i := 23) (oi := { dst := some 68, op := Op.move (Operand.tmp 0), type := 22, pos := "outright.go:41", after := #[{ on := 19, ground := Ground.guard }], guard := some (19, false) }) (v := ?_) rfl (by kernel_rfl) (by kernel_rfl) (by kernel_rfl) (fun _ _ _ h => h) (Or.inl ⟨by rfl, ?_⟩) hHeld ?_
            rotate_left
            · intro w hSw; (try dsimp only at hSw); go_simp; first | done | with_reducible rfl
            try simp only [Act.put, List.setIfInBounds_toArray, List.set_cons_zero, List.set_cons_succ]
            refine wpAnyH_take (i := 32) (oi := { dst := some 77, op := Op.load 24 (Operand.tmp 5), type := 24, pos := "outright.go:41", after := #[{ on := 19, ground := Ground.guard }], guard := some (19, false) }) (v := ?_) rfl (by kernel_rfl) (by kernel_rfl) (by kernel_rfl) (fun _ _ _ h => h) (Or.inl ⟨by rfl, ?_⟩) hHeld ?_
            rotate_left
            · intro w hSw; (try dsimp only at hSw); have e0 := (hSw.cell (p := ⟨g, 0, none⟩) HX5.out.1.lt).trans HX5.out.1.c0; have e1 := (hSw.cell (p := ⟨g, 1, none⟩) HX5.out.1.lt).trans HX5.out.1.c1; have e2 := (hSw.cell (p := ⟨gl, ol, none⟩) HBL.out).trans D0.out; have e3 := (hSw.cell (p := ⟨gl, ol + 1, none⟩) HBL.out).trans D1.out; have e4 := (hSw.cell (p := ⟨gl, ol + 2, none⟩) HBL.out).trans D2.out; have e5 := (hSw.cell (p := ⟨gl, ol + 3, none⟩) HBL.out).trans D3.out; go_simp; first | done | with_reducible rfl
            try simp only [Act.put, List.setIfInBounds_toArray, List.set_cons_zero, List.set_cons_succ]
            refine wpAnyH_take (i := 33) (oi := { dst := some 78, op := Op.move (Operand.tmp 0), type := 22, pos := "outright.go:41", after := #[{ on := 19, ground := Ground.guard }], guard := some (19, false) }) (v := ?_) rfl (by kernel_rfl) (by kernel_rfl) (by kernel_rfl) (fun _ _ _ h => h) (Or.inl ⟨by rfl, ?_⟩) hHeld ?_
            rotate_left
            · intro w hSw; (try dsimp only at hSw); go_simp; first | done | with_reducible rfl
            try simp only [Act.put, List.setIfInBounds_toArray, List.set_cons_zero, List.set_cons_succ]
            refine wpAnyH_ready (rs := [24]) (by kernel_rfl) (by simp) ?_
            refine AllReadyH.cons (o := { dst := some 69, op := Op.call { callee := Callee.value (Operand.func 27), args := #[Operand.tmp 67, Operand.tmp 68], argTypes := #[24, 22] }, type := 4, pos := "outright.go:41", after := #[{ on := 22, ground := Ground.data }, { on := 23, ground := Ground.data }, { on := 19, ground := Ground.chain }, { on := 19, ground := Ground.guard }], guard := some (19, false) }) rfl (fun K hK => ?_) AllReadyH.nil
            clear hHeld
            go_simp
            refine (HLQ.out _).mono ?_
            rintro e wr3 ⟨rfl, hB⟩
            have HR3 := hide (HR2.out.trans (hB.mono HR2.out.size))
            clear hB
            refine hK.out _ _ (HR3.out) (fun hHeld => ?_)
            clear hK K
            try simp only [Act.put, List.setIfInBounds_toArray, List.set_cons_zero, List.set_cons_succ]
            refine wpAnyH_take (i := 25) (oi := { dst := some 70, op := Op.move (Operand.tmp 69), type := 4, pos := "outright.go:41", after := #[{ on := 24, ground := Ground.data }, { on := 24, ground := Ground.chain }, { on := 19, ground := Ground.guard }], guard := some (19, false) }) (v := ?_) rfl (by kernel_rfl) (by kernel_rfl) (by kernel_rfl) (fun _ _ _ h => h) (Or.inl ⟨by rfl, ?_⟩) hHeld ?_
            rotate_left
            · intro w hSw; (try dsimp only at hSw); go_simp; first | done | with_reducible rfl
            try simp only [Act.put, List.setIfInBounds_toArray, List.set_cons_zero, List.set_cons_succ]
            refine wpAnyH_take (i := 26) (oi := { dst := some 71, op := Op.move (Operand.tmp 13), type := 37, pos := "outright.go:41", after := #[{ on := 25, ground := Ground.guard }], guard := some (25, false) }) (v := undef) rfl (by kernel_rfl) (by kernel_rfl) (by kernel_rfl) (fun _ _ _ h => h) (Or.inr ⟨by rfl, rfl⟩) hHeld ?_
            try simp only [Act.put, List.setIfInBounds_toArray, List.set_cons_zero, List.set_cons_succ]
            refine wpAnyH_take (i := 27) (oi := { dst := some 72, op := Op.indexAddr 37 (Operand.tmp 71) (Operand.const (Value.int IntKind.i64 1)), type := 0, pos := "outright.go:41", after := #[{ on := 26, ground := Ground.data }, { on := 25, ground := Ground.guard }], guard := some (25, false) }) (v := undef) rfl (by kernel_rfl) (by kernel_rfl) (by kernel_rfl) (fun _ _ _ h => h) (Or.inr ⟨by rfl, rfl⟩) hHeld ?_
            try simp only [Act.put, List.setIfInBounds_toArray, List.set_cons_zero, List.set_cons_succ]
            refine wpAnyH_take (i := 28) (oi := { dst := some 73, op := Op.load 24 (Operand.tmp 72), type := 24, pos := "outright.go:41", after := #[{ on := 27, ground := Ground.data }, { on := 25, ground := Ground.guard }], guard := some (25, false) }) (v := undef) rfl (by kernel_rfl) (by kernel_rfl) (by kernel_rfl) (fun _ _ _ h => h) (Or.inr ⟨by rfl, rfl⟩) hHeld ?_
            try simp only [Act.put, List.setIfInBounds_toArray, List.set_cons_zero, List.set_cons_succ]
            refine wpAnyH_take (i := 29) (oi := { dst := some 74, op := Op.move (Operand.tmp 0), type := 22, pos := "outright.go:41", after := #[{ on := 25, ground := Ground.guard }], guard := some (25, false) }) (v := undef) rfl (by kernel_rfl) (by kernel_rfl) (by kernel_rfl) (fun _ _ _ h => h) (Or.inr ⟨by rfl, rfl⟩) hHeld ?_
            try simp only [Act.put, List.setIfInBounds_toArray, List.set_cons_zero, List.set_cons_succ]
            refine wpAnyH_take (i := 30) (oi := { dst := some 75, op := Op.call { callee := Callee.value (Operand.func 27), args := #[Operand.tmp 73, Operand.tmp 74], argTypes := #[24, 22] }, type := 4, pos := "outright.go:41", after := #[{ on := 28, ground := Ground.data }, { on := 29, ground := Ground.data }, { on := 25, ground := Ground.chain }, { on := 25, ground := Ground.guard }], guard := some (25, false) }) (v := undef) rfl (by kernel_rfl) (by kernel_rfl) (by kernel_rfl) (fun _ _ _ h => h) (Or.inr ⟨by rfl, rfl⟩) hHeld ?_
            try simp only [Act.put, List.setIfInBounds_toArray, List.set_cons_zero, List.set_cons_succ]
            refine wpAnyH_take (i := 31) (oi := { dst := some 76, op := Op.pick (Operand.tmp 70) (Operand.const (Value.bool true)) (Operand.tmp 75), type := 4, pos := "outright.go:41", after := #[{ on := 25, ground := Ground.data }, { on := 30, ground := Ground.data }, { on := 19, ground := Ground.guard }], guard := some (19, false) }) (v := ?_) rfl (by kernel_rfl) (by kernel_rfl) (by kernel_rfl) (fun _ _ _ h => h) (Or.inl ⟨by rfl, ?_⟩) hHeld ?_
            rotate_left
            · intro w hSw; (try dsimp only at hSw); go_simp; first | done | with_reducible rfl
            try simp only [Act.put, List.setIfInBounds_toArray, List.set_cons_zero, List.set_cons_succ]
            refine wpAnyH_ready (rs := [34]) (by kernel_rfl) (by simp) ?_
            refine AllReadyH.cons (o := { dst := some 79, op := Op.call { callee := Callee.value (Operand.func 27), args := #[Operand.tmp 77, Operand.tmp 78], argTypes := #[24, 22] }, type := 4, pos := "outright.go:41", after := #[{ on := 32, ground := Ground.data }, { on := 33, ground := Ground.data }, { on := 30, ground := Ground.chain }, { on := 19, ground := Ground.guard }], guard := some (19, false) }) rfl (fun K hK => ?_) AllReadyH.nil
            clear hHeld
            go_simp
            refine (HIC.out _).mono ?_
            rintro e wr4 ⟨rfl, hB⟩
            have HR4 := hide (HR3.out.trans (hB.mono HR3.out.size))
            clear hB
            refine hK.out _ _ (HR4.out) (fun hHeld => ?_)
            clear hK K
            try simp only [Act.put, List.setIfInBounds_toArray, List.set_cons_zero, List.set_cons_succ]
            refine wpAnyH_take (i := 35) (oi := { dst := some 80, op := Op.binOp BinOp.neq 4 (Operand.tmp 76) (Operand.tmp 79) 4, type := 4, pos := "outright.go:41", after := #[{ on := 31, ground := Ground.data }, { on := 34, ground := Ground.data }, { on := 19, ground := Ground.guard }], guard := some (19, false) }) (v := ?_) rfl (by kernel_rfl) (by kernel_rfl) (by kernel_rfl) (fun _ _ _ h => h) (Or.inl ⟨by rfl, ?_⟩) hHeld ?_
            rotate_left
            · intro w hSw; (try dsimp only at hSw); go_simp; first | done | with_reducible rfl
            try simp only [Act.put, List.setIfInBounds_toArray, List.set_cons_zero, List.set_cons_succ]
            refine wpAnyH_take (i := 36) (oi := { dst := some 81, op := Op.pick (Operand.tmp 64) (Operand.const (Value.bool true)) (Operand.tmp 80), type := 4, pos := "outright.go:41", after := #[{ on := 19, ground := Ground.data }, { on := 35, ground := Ground.data }, { on := 1, ground := Ground.guard }], guard := some (1, true) }) (v := ?_) rfl (by kernel_rfl) (by kernel_rfl) (by kernel_rfl) (fun _ _ _ h => h) (Or.inl ⟨by rfl, ?_⟩) hHeld ?_
            rotate_left
            · intro w hSw; (try dsimp only at hSw); go_simp; first | done | with_reducible rfl
            try simp only [Act.put, List.setIfInBounds_toArray, List.set_cons_zero, List.set_cons_succ]
            refine wpAnyH_take (i := 37) (oi := { dst := some 82, op := Op.pick (Operand.tmp 46) (Operand.tmp 81) (Operand.const (Value.bool false)), type := 4, pos := "outright.go:41", after := #[{ on := 1, ground := Ground.data }, { on := 36, ground := Ground.data }], guard := none }) (v := ?_) rfl (by kernel_rfl) (by kernel_rfl) (by kernel_rfl) (fun _ _ _ h => h) (Or.inl ⟨by rfl, ?_⟩) hHeld ?_
            rotate_left
            · intro w hSw; (try dsimp only at hSw); go_simp; first | done | with_reducible rfl
            try simp only [Act.put, List.setIfInBounds_toArray, List.set_cons_zero, List.set_cons_succ]
            refine wpAnyH_done (by kernel_rfl) ?_ _
            clear hHeld
            go_wp2_with fail
            go_meet
            case rel => exact ⟨rfl, rfl, HX5.out.on HR4.out⟩
        | false =>
          cases B with
          | true =>
            obtain rfl : ic = true := by simpa using hh
            clear hh
            refine wp_region_held_drew (S := fun w' => Below w5_.heap.size w5_ w') (by kernel_rfl) ((Below.refl _ _).drew) (fun hHeld => ?_)
            refine wpAnyH_take (i := 0) (oi := { dst := some 45, op := Op.move (Operand.tmp 14), type := 4, pos := "outright.go:41", after := #[], guard := none }) (v := ?_) rfl (by kernel_rfl) (by kernel_rfl) (by kernel_rfl) (fun _ _ _ h => h) (Or.inl ⟨by rfl, ?_⟩) hHeld ?_
            rotate_left
            · intro w hSw; (try dsimp only at hSw); go_simp; first | done | with_reducible rfl
            try simp only [Act.put, List.setIfInBounds_toArray, List.set_cons_zero, List.set_cons_succ]
            refine wpAnyH_take (i := 1) (oi := { dst := some 46, op := Op.move (Operand.tmp 45), type := 4, pos := "outright.go:41", after := #[{ on := 0, ground := Ground.data }], guard := none }) (v := ?_) rfl (by kernel_rfl) (by kernel_rfl) (by kernel_rfl) (fun _ _ _ h => h) (Or.inl ⟨by rfl, ?_⟩) hHeld ?_
            rotate_left
            · intro w hSw; (try dsimp only at hSw); go_simp; first | done | with_reducible rfl
            try simp only [Act.put, List.setIfInBounds_toArray, List.set_cons_zero, List.set_cons_succ]
            refine wpAnyH_take (i := 2) (oi := { dst := some 47, op := Op.move (Operand.tmp 13), type := 37, pos := "outright.go:41", after := #[{ on := 1, ground := Ground.guard }], guard := some (1, true) }) (v := ?_) rfl (by kernel_rfl) (by kernel_rfl) (by kernel_rfl) (fun _ _ _ h => h) (Or.inl ⟨by rfl, ?_⟩) hHeld ?_
            rotate_left
            · intro w hSw; (try dsimp only at hSw); go_simp; first | done | with_reducible rfl
            try simp only [Act.put, List.setIfInBounds_toArray, List.set_cons_zero, List.set_cons_succ]
            refine wpAnyH_take (i := 3) (oi := { dst := some 48, op := Op.call { callee := Callee.builtin Builtin.len, args := #[Operand.tmp 47], argTypes := #[37] }, type := 3, pos := "outright.go:41", after := #[{ on := 2, ground := Ground.data }, { on := 1, ground := Ground.guard }], guard := some (1, true) }) (v := ?_) rfl (by kernel_rfl) (by kernel_rfl) (by kernel_rfl) (fun _ _ _ h => h) (Or.inl ⟨by rfl, ?_⟩) hHeld ?_
            rotate_left
            · intro w hSw; (try dsimp only at hSw); go_simp; first | done | with_reducible rfl
            try simp only [Act.put, List.setIfInBounds_toArray, List.set_cons_zero, List.set_cons_succ]
            refine wpAnyH_take (i := 4) (oi := { dst := some 49, op := Op.binOp BinOp.neq 3 (Operand.tmp 48) (Operand.const (Value.int IntKind.i64 2)) 3, type := 4, pos := "outright.go:41", after := #[{ on := 3, ground := Ground.data }, { on := 1, ground := Ground.guard }], guard := some (1, true) }) (v := ?_) rfl (by kernel_rfl) (by kernel_rfl) (by kernel_rfl) (fun _ _ _ h => h) (Or.inl ⟨by rfl, ?_⟩) hHeld ?_
            rotate_left
            · intro w hSw; (try dsimp only at hSw); go_simp; first | done | with_reducible rfl
            try simp only [Act.put, List.setIfInBounds_toArray, List.set_cons_zero, List.set_cons_succ]
            refine wpAnyH_take (i := 5) (oi := { dst := some 50, op := Op.move (Operand.tmp 49), type := 4, pos := "outright.go:41", after := #[{ on := 4, ground := Ground.data }, { on := 1, ground := Ground.chain }, { on := 1, ground := Ground.guard }], guard := some (1, true) }) (v := ?_) rfl (by kernel_rfl) (by kernel_rfl) (by kernel_rfl) (fun _ _ _ h => h) (Or.inl ⟨by rfl, ?_⟩) hHeld ?_
            rotate_left
            · intro w hSw; (try dsimp only at hSw); go_simp; first | done | with_reducible rfl
            try simp only [Act.put, List.setIfInBounds_toArray, List.set_cons_zero, List.set_cons_succ]
            refine wpAnyH_take (i := 6) (oi := { dst := some 51, op := Op.move (Operand.tmp 13), type := 37, pos := "outright.go:41", after := #[{ on := 5, ground := Ground.guard }], guard := some (5, false) }) (v := ?_) rfl (by kernel_rfl) (by kernel_rfl) (by kernel_rfl) (fun _ _ _ h => h) (Or.inl ⟨by rfl, ?_⟩) hHeld ?_
            rotate_left
            · intro w hSw; (try dsimp only at hSw); go_simp; first | done | with_reducible rfl
            try simp only [Act.put, List.setIfInBounds_toArray, List.set_cons_zero, List.set_cons_succ]
            refine wpAnyH_take (i := 7) (oi := { dst := some 52, op := Op.indexAddr 37 (Operand.tmp 51) (Operand.const (Value.int IntKind.i64 0)), type := 0, pos := "outright.go:41", after := #[{ on := 6, ground := Ground.data }, { on := 5, ground := Ground.guard }], guard := some (5, false) }) (v := ?_) rfl (by kernel_rfl) (by kernel_rfl) (by kernel_rfl) (fun _ _ _ h => h) (Or.inl ⟨by rfl, ?_⟩) hHeld ?_
            rotate_left
            · intro w hSw; (try dsimp only at hSw); go_simp; first | done | with_reducible rfl
            try simp only [Act.put, List.setIfInBounds_toArray, List.set_cons_zero, List.set_cons_succ]
            refine wpAnyH_take (i := 8) (oi := { dst := some 53, op := Op.load 24 (Operand.tmp 52), type := 24, pos := "outright.go:41", after := #[{ on := 7, ground := Ground.data }, { on := 5, ground := Ground.guard }], guard := some (5, false) }) (v := ?_) rfl (by kernel_rfl) (by kernel_rfl) (by kernel_rfl) (fun _ _ _ h => h) (Or.inl ⟨by rfl, ?_⟩) hHeld ?_
            rotate_left
            · intro w hSw; (try dsimp only at hSw); have e0 := (hSw.cell (p := ⟨g, 0, none⟩) HX5.out.1.lt).trans HX5.out.1.c0; have e1 := (hSw.cell (p := ⟨g, 1, none⟩) HX5.out.1.lt).trans HX5.out.1.c1; have e2 := (hSw.cell (p := ⟨gl, ol, none⟩) HBL.out).trans D0.out; have e3 := (hSw.cell (p := ⟨gl, ol + 1, none⟩) HBL.out).trans D1.out; have e4 := (hSw.cell (p := ⟨gl, ol + 2, none⟩) HBL.out).trans D2.out; have e5 := (hSw.cell (p := ⟨gl, ol + 3, none⟩) HBL.out).trans D3.out; go_simp; first | done | with_reducible rfl
            try simp only [Act.put, List.setIfInBounds_toArray, List.set_cons_zero, List.set_cons_succ]
            refine wpAnyH_take (i := 9) (oi := { dst := some 54, op := Op.move (Operand.tmp 0), type := 22, pos := "outright.go:41", after := #[{ on := 5, ground := Ground.guard }], guard := some (5, false) }) (v := ?_) rfl (by kernel_rfl) (by kernel_rfl) (by kernel_rfl) (fun _ _ _ h => h) (Or.inl ⟨by rfl, ?_⟩) hHeld ?_
            rotate_left
            · intro w hSw; (try dsimp only at hSw); go_simp; first | done | with_reducible rfl
            try simp only [Act.put, List.setIfInBounds_toArray, List.set_cons_zero, List.set_cons_succ]
            refine wpAnyH_ready (rs := [10]) (by kernel_rfl) (by simp) ?_
            refine AllReadyH.cons (o := { dst := some 55, op := Op.call { callee := Callee.value (Operand.func 27), args := #[Operand.tmp 53, Operand.tmp 54], argTypes := #[24, 22] }, type := 4, pos := "outright.go:41", after := #[{ on := 8, ground := Ground.data }, { on := 9, ground := Ground.data }, { on := 5, ground := Ground.chain }, { on := 5, ground := Ground.guard }], guard := some (5, false) }) rfl (fun K hK => ?_) AllReadyH.nil
            clear hHeld
            go_simp
            refine (HLQ.out _).mono ?_
            rintro e wr1 ⟨rfl, hB⟩
            have HR1 := hide (((Below.refl w5_.heap.size w5_).drew).trans (hB.mono ((Below.refl w5_.heap.size w5_).drew).size))
            clear hB
            refine hK.out _ _ (HR1.out) (fun hHeld => ?_)
            clear hK K
            try simp only [Act.put, List.setIfInBounds_toArray, List.set_cons_zero, List.set_cons_succ]
            refine wpAnyH_take (i := 11) (oi := { dst := some 56, op := Op.move (Operand.tmp 55), type := 4, pos := "outright.go:41", after := #[{ on := 10, ground := Ground.data }, { on := 10, ground := Ground.chain }, { on := 5, ground := Ground.guard }], guard := some (5, false) }) (v := ?_) rfl (by kernel_rfl) (by kernel_rfl) (by kernel_rfl) (fun _ _ _ h => h) (Or.inl ⟨by rfl, ?_⟩) hHeld ?_
            rotate_left
            · intro w hSw; (try dsimp only at hSw); go_simp; first | done | with_reducible rfl
            try simp only [Act.put, List.setIfInBounds_toArray, List.set_cons_zero, List.set_cons_succ]
            refine wpAnyH_take (i := 12) (oi := { dst := some 57, op := Op.move (Operand.tmp 13), type := 37, pos := "outright.go:41", after := #[{ on := 11, ground := Ground.guard }], guard := some (11, true) }) (v := undef) rfl (by kernel_rfl) (by kernel_rfl) (by kernel_rfl) (fun _ _ _ h => h) (Or.inr ⟨by rfl, rfl⟩) hHeld ?_
            try simp only [Act.put, List.setIfInBounds_toArray, List.set_cons_zero, List.set_cons_succ]
            refine wpAnyH_take (i := 13) (oi := { dst := some 58, op := Op.indexAddr 37 (Operand.tmp 57) (Operand.const (Value.int IntKind.i64 1)), type := 0, pos := "outright.go:41", after := #[{ on := 12, ground := Ground.data }, { on := 11, ground := Ground.guard }], guard := some (11, true) }) (v := undef) rfl (by kernel_rfl) (by kernel_rfl) (by kernel_rfl) (fun _ _ _ h => h) (Or.inr ⟨by rfl, rfl⟩) hHeld ?_
            try simp only [Act.put, List.setIfInBounds_toArray, List.set_cons_zero, List.set_cons_succ]
            refine wpAnyH_take (i := 14) (oi := { dst := some 59, op := Op.load 24 (Operand.tmp 58), type := 24, pos := "outright.go:41", after := #[{ on := 13, ground := Ground.data }, { on := 11, ground := Ground.guard }], guard := some (11, true) }) (v := undef) rfl (by kernel_rfl) (by kernel_rfl) (by kernel_rfl) (fun _ _ _ h => h) (Or.inr ⟨by rfl, rfl⟩) hHeld ?_
            try simp only [Act.put, List.setIfInBounds_toArray, List.set_cons_zero, List.set_cons_succ]
            refine wpAnyH_take (i := 15) (oi := { dst := some 60, op := Op.move (Operand.tmp 0), type := 22, pos := "outright.go:41", after := #[{ on := 11, ground := Ground.guard }], guard := some (11, true) }) (v := undef) rfl (by kernel_rfl) (by kernel_rfl) (by kernel_rfl) (fun _ _ _ h => h) (Or.inr ⟨by rfl, rfl⟩) hHeld ?_
            try simp only [Act.put, List.setIfInBounds_toArray, List.set_cons_zero, List.set_cons_succ]
            refine wpAnyH_take (i := 16) (oi := { dst := some 61, op := Op.call { callee := Callee.value (Operand.func 27), args := #[Operand.tmp 59, Operand.tmp 60], argTypes := #[24, 22] }, type := 4, pos := "outright.go:41", after := #[{ on := 14, ground := Ground.data }, { on := 15, ground := Ground.data }, { on := 11, ground := Ground.chain }, { on := 11, ground := Ground.guard }], guard := some (11, true) }) (v := undef) rfl (by kernel_rfl) (by kernel_rfl) (by kernel_rfl) (fun _ _ _ h => h) (Or.inr ⟨by rfl, rfl⟩) hHeld ?_
            try simp only [Act.put, List.setIfInBounds_toArray, List.set_cons_zero, List.set_cons_succ]
            refine wpAnyH_take (i := 17) (oi := { dst := some 62, op := Op.pick (Operand.tmp 56) (Operand.tmp 61) (Operand.const (Value.bool false)), type := 4, pos := "outright.go:41", after := #[{ on := 11, ground := Ground.data }, { on := 16, ground := Ground.data }, { on := 5, ground := Ground.guard }], guard := some (5, false) }) (v := ?_) rfl (by kernel_rfl) (by kernel_rfl) (by kernel_rfl) (fun _ _ _ h => h) (Or.inl ⟨by rfl, ?_⟩) hHeld ?_
            rotate_left
            · intro w hSw; (try dsimp only at hSw); go_simp; first | done | with_reducible rfl
            try simp only [Act.put, List.setIfInBounds_toArray, List.set_cons_zero, List.set_cons_succ]
            refine wpAnyH_take (i := 18) (oi := { dst := some 63, op := Op.pick (Operand.tmp 50) (Operand.const (Value.bool true)) (Operand.tmp 62), type := 4, pos := "outright.go:41", after := #[{ on := 5, ground := Ground.data }, { on := 17, ground := Ground.data }, { on := 1, ground := Ground.guard }], guard := some (1, true) }) (v := ?_) rfl (by kernel_rfl) (by kernel_rfl) (by kernel_rfl) (fun _ _ _ h => h) (Or.inl ⟨by rfl, ?_⟩) hHeld ?_
            rotate_left
            · intro w hSw; (try dsimp only at hSw); go_simp; first | done | with_reducible rfl
            try simp only [Act.put, List.setIfInBounds_toArray, List.set_cons_zero, List.set_cons_succ]
            refine wpAnyH_take (i := 19) (oi := { dst := some 64, op := Op.move (Operand.tmp 63), type := 4, pos := "outright.go:41", after := #[{ on := 18, ground := Ground.data }, { on := 16, ground := Ground.chain }, { on := 1, ground := Ground.guard }], guard := some (1, true) }) (v := ?_) rfl (by kernel_rfl) (by kernel_rfl) (by kernel_rfl) (fun _ _ _ h => h) (Or.inl ⟨by rfl, ?_⟩) hHeld ?_
            rotate_left
            · intro w hSw; (try dsimp only at hSw); go_simp; first | done | with_reducible rfl
            try simp only [Act.put, List.setIfInBounds_toArray, List.set_cons_zero, List.set_cons_succ]
            refine wpAnyH_take (i := 20) (oi := { dst := some 65, op := Op.move (Operand.tmp 13), type := 37, pos := "outright.go:41", after := #[{ on := 19, ground := Ground.guard }], guard := some (19, false) }) (v := ?_) rfl (by kernel_rfl) (by kernel_rfl) (by kernel_rfl) (fun _ _ _ h => h) (Or.inl ⟨by rfl, ?_⟩) hHeld ?_
            rotate_left
            · intro w hSw; (try dsimp only at hSw); go_simp; first | done | with_reducible rfl
            try simp only [Act.put, List.setIfInBounds_toArray, List.set_cons_zero, List.set_cons_succ]
            refine wpAnyH_take (i := 21) (oi := { dst := some 66, op := Op.indexAddr 37 (Operand.tmp 65) (Operand.const (Value.int IntKind.i64 0)), type := 0, pos := "outright.go:41", after := #[{ on := 20, ground := Ground.data }, { on := 19, ground := Ground.guard }], guard := some (19, false) }) (v := ?_) rfl (by kernel_rfl) (by kernel_rfl) (by kernel_rfl) (fun _ _ _ h => h) (Or.inl ⟨by rfl, ?_⟩) hHeld ?_
            rotate_left
            · intro w hSw; (try dsimp only at hSw); go_simp; first | done | with_reducible rfl
            try simp only [Act.put, List.setIfInBounds_toArray, List.set_cons_zero, List.set_cons_succ]
            refine wpAnyH_take (i := 22) (oi := { dst := some 67, op := Op.load 24 (Operand.tmp 66), type := 24, pos := "outright.go:41", after := #[{ on := 21, ground := Ground.data }, { on := 19, ground := Ground.guard }], guard := some (19, false) }) (v := ?_) rfl (by kernel_rfl) (by kernel_rfl) (by kernel_rfl) (fun _ _ _ h => h) (Or.inl ⟨by rfl, ?_⟩) hHeld ?_
            rotate_left
            · intro w hSw; (try dsimp only at hSw); have e0 := (hSw.cell (p := ⟨g, 0, none⟩) HX5.out.1.lt).trans HX5.out.1.c0; have e1 := (hSw.cell (p := ⟨g, 1, none⟩) HX5.out.1.lt).trans HX5.out.1.c1; have e2 := (hSw.cell (p := ⟨gl, ol, none⟩) HBL.out).trans D0.out; have e3 := (hSw.cell (p := ⟨gl, ol + 1, none⟩) HBL.out).trans D1.out; have e4 := (hSw.cell (p := ⟨gl, ol + 2, none⟩) HBL.out).trans D2.out; have e5 := (hSw.cell (p := ⟨gl, ol + 3, none⟩) HBL.out).trans D3.out; go_simp; first | done | with_reducible rfl
            try simp only [Act.put, List.setIfInBounds_toArray, List.set_cons_zero, List.set_cons_succ]
            refine wpAnyH_take (i := 23) (oi := { dst := some 68, op := Op.move (Operand.tmp 0), type := 22, pos := "outright.go:41", after := #[{ on := 19, ground := Ground.guard }], guard := some (19, false) }) (v := ?_) rfl (by kernel_rfl) (by kernel_rfl) (by kernel_rfl) (fun _ _ _ h => h) (Or.inl ⟨by rfl, ?_⟩) hHeld ?_
            rotate_left
            · intro w hSw; (try dsimp only at hSw); go_simp; first | done | with_reducible rfl
            try simp only [Act.put, List.setIfInBounds_toArray, List.set_cons_zero, List.set_cons_succ]
            refine wpAnyH_take (i := 32) (oi := { dst := some 77, op := Op.load 24 (Operand.tmp 5), type := 24, pos := "outright.go:41", after := #[{ on := 19, ground := Ground.guard }], guard := some (19, false) }) (v := ?_) rfl (by kernel_rfl) (by kernel_rfl) (by kernel_rfl) (fun _ _ _ h => h) (Or.inl ⟨by rfl, ?_⟩) hHeld ?_
            rotate_left
            · intro w hSw; (try dsimp only at hSw); have e0 := (hSw.cell (p := ⟨g, 0, none⟩) HX5.out.1.lt).trans HX5.out.1.c0; have e1 := (hSw.cell (p := ⟨g, 1, none⟩) HX5.out.1.lt).trans HX5.out.1.c1; have e2 := (hSw.cell (p := ⟨gl, ol, none⟩) HBL.out).trans D0.out; have e3 := (hSw.cell (p := ⟨gl, ol + 1, none⟩) HBL.out).trans D1.out; have e4 := (hSw.cell (p := ⟨gl, ol + 2, none⟩) HBL.out).trans D2.out; have e5 := (hSw.cell (p := ⟨gl, ol + 3, none⟩) HBL.out).trans D3.out; go_simp; first | done | with_reducible rfl
            try simp only [Act.put, List.setIfInBounds_toArray, List.set_cons_zero, List.set_cons_succ]
            refine wpAnyH_take (i := 33) (oi := { dst := some 78, op := Op.move (Operand.tmp 0), type := 22, pos := "outright.go:41", after := #[{ on := 19, ground := Ground.guard }], guard := some (19, false) }) (v := ?_) rfl (by kernel_rfl) (by kernel_rfl) (by kernel_rfl) (fun _ _ _ h => h) (Or.inl ⟨by rfl, ?_⟩) hHeld ?_
            rotate_left
            · intro w hSw; (try dsimp only at hSw); go_simp; first | done | with_reducible rfl
            try simp only [Act.put, List.setIfInBounds_toArray, List.set_cons_zero, List.set_cons_succ]
            refine wpAnyH_ready (rs := [24]) (by kernel_rfl) (by simp) ?_
            refine AllReadyH.cons (o := { dst := some 69, op := Op.call { callee := Callee.value (Operand.func 27), args := #[Operand.tmp 67, Operand.tmp 68], argTypes := #[24, 22] }, type := 4, pos := "outright.go:41", after := #[{ on := 22, ground := Ground.data }, { on := 23, ground := Ground.data }, { on := 19, ground := Ground.chain }, { on := 19, ground := Ground.guard }], guard := some (19, false) }) rfl (fun K hK => ?_) AllReadyH.nil
            clear hHeld
            go_simp
            refine (HLQ.out _).mono ?_
            rintro e wr2 ⟨rfl, hB⟩
            have HR2 := hide (HR1.out.trans (hB.mono HR1.out.size))
            clear hB
            refine hK.out _ _ (HR2.out) (fun hHeld => ?_)
            clear hK K
            try simp only [Act.put, List.setIfInBounds_toArray, List.set_cons_zero, List.set_cons_succ]
            refine wpAnyH_take (i := 25) (oi := { dst := some 70, op := Op.move (Operand.tmp 69), type := 4, pos := "outright.go:41", after := #[{ on := 24, ground := Ground.data }, { on := 24, ground := Ground.chain }, { on := 19, ground := Ground.guard }], guard := some (19, false) }) (v := ?_) rfl (by kernel_rfl) (by kernel_rfl) (by kernel_rfl) (fun _ _ _ h => h) (Or.inl ⟨by rfl, ?_⟩) hHeld ?_
            rotate_left
            · intro w hSw; (try dsimp only at hSw); go_simp; first | done | with_reducible rfl
            try simp only [Act.put, List.setIfInBounds_toArray, List.set_cons_zero, List.set_cons_succ]
            refine wpAnyH_take (i := 26) (oi := { dst := some 71, op := Op.move (Operand.tmp 13), type := 37, pos := "outright.go:41", after := #[{ on := 25, ground := Ground.guard }], guard := some (25, false) }) (v := ?_) rfl (by kernel_rfl) (by kernel_rfl) (by kernel_rfl) (fun _ _ _ h => h) (Or.inl ⟨by rfl, ?_⟩) hHeld ?_
            rotate_left
            · intro w hSw; (try dsimp only at hSw); go_simp; first | done | with_reducible rfl
            try simp only [Act.put, List.setIfInBounds_toArray, List.set_cons_zero, List.set_cons_succ]
            refine wpAnyH_take (i := 27) (oi := { dst := some 72, op := Op.indexAddr 37 (Operand.tmp 71) (Operand.const (Value.int IntKind.i64 1)), type := 0, pos := "outright.go:41", after := #[{ on := 26, ground := Ground.data }, { on := 25, ground := Ground.guard }], guard := some (25, false) }) (v := ?_) rfl (by kernel_rfl) (by kernel_rfl) (by kernel_rfl) (fun _ _ _ h => h) (Or.inl ⟨by rfl, ?_⟩) hHeld ?_
            rotate_left
            · intro w hSw; (try dsimp only at hSw); go_simp; first | done | with_reducible rfl
            try simp only [Act.put, List.setIfInBounds_toArray, List.set_cons_zero, List.set_cons_succ]
            refine wpAnyH_take (i := 28) (oi := { dst := some 73, op := Op.load 24 (Operand.tmp 72), type := 24, pos := "outright.go:41", after := #[{ on := 27, ground := Ground.data }, { on := 25, ground := Ground.guard }], guard := some (25, false) }) (v := ?_) rfl (by kernel_rfl) (by kernel_rfl) (by kernel_rfl) (fun _ _ _ h => h) (Or.inl ⟨by rfl, ?_⟩) hHeld ?_
            rotate_left
            · intro w hSw; (try dsimp only at hSw); have e0 := (hSw.cell (p := ⟨g, 0, none⟩) HX5.out.1.lt).trans HX5.out.1.c0; have e1 := (hSw.cell (p := ⟨g, 1, none⟩) HX5.out.1.lt).trans HX5.out.1.c1; have e2 := (hSw.cell (p := ⟨gl, ol, none⟩) HBL.out).trans D0.out; have e3 := (hSw.cell (p := ⟨gl, ol + 1, none⟩) HBL.out).trans D1.out; have e4 := (hSw.cell (p := ⟨gl, ol + 2, none⟩) HBL.out).trans D2.out; have e5 := (hSw.cell (p := ⟨gl, ol + 3, none⟩) HBL.out).trans D3.out; go_simp; first | done | with_reducible rfl
            try simp only [Act.put, List.setIfInBounds_toArray, List.set_cons_zero, List.set_cons_succ]
            refine wpAnyH_take (i := 29) (oi := { dst := some 74, op := Op.move (Operand.tmp 0), type := 22, pos := "outright.go:41", after := #[{ on := 25, ground := Ground.guard }], guard := some (25, false) }) (v := ?_) rfl (by kernel_rfl) (by kernel_rfl) (by kernel_rfl) (fun _ _ _ h => h) (Or.inl ⟨by rfl, ?_⟩) hHeld ?_
            rotate_left
            · intro w hSw; (try dsimp only at hSw); go_simp; first | done | with_reducible rfl
            try simp only [Act.put, List.setIfInBounds_toArray, List.set_cons_zero, List.set_cons_succ]
            refine wpAnyH_ready (rs := [30]) (by kernel_rfl) (by simp) ?_
            refine AllReadyH.cons (o := { dst := some 75, op := Op.call { callee := Callee.value (Operand.func 27), args := #[Operand.tmp 73, Operand.tmp 74], argTypes := #[24, 22] }, type := 4, pos := "outright.go:41", after := #[{ on := 28, ground := Ground.data }, { on := 29, ground := Ground.data }, { on := 25, ground := Ground.chain }, { on := 25, ground := Ground.guard }], guard := some (25, false) }) rfl (fun K hK => ?_) AllReadyH.nil
            clear hHeld
            go_simp
            refine (HHQ.out _).mono ?_
            rintro e wr3 ⟨rfl, hB⟩
            have HR3 := hide (HR2.out.trans (hB.mono HR2.out.size))
            clear hB
            refine hK.out _ _ (HR3.out) (fun hHeld => ?_)
            clear hK K
            try simp only [Act.put, List.setIfInBounds_toArray, List.set_cons_zero, List.set_cons_succ]
            refine wpAnyH_take (i := 31) (oi := { dst := some 76, op := Op.pick (Operand.tmp 70) (Operand.const (Value.bool true)) (Operand.tmp 75), type := 4, pos := "outright.go:41", after := #[{ on := 25, ground := Ground.data }, { on := 30, ground := Ground.data }, { on := 19, ground := Ground.guard }], guard := some (19, false) }) (v := ?_) rfl (by kernel_rfl) (by kernel_rfl) (by kernel_rfl) (fun _ _ _ h => h) (Or.inl ⟨by rfl, ?_⟩) hHeld ?_
            rotate_left
            · intro w hSw; (try dsimp only at hSw); go_simp; first | done | with_reducible rfl
            try simp only [Act.put, List.setIfInBounds_toArray, List.set_cons_zero, List.set_cons_succ]
            refine wpAnyH_ready (rs := [34]) (by kernel_rfl) (by simp) ?_
            refine AllReadyH.cons (o := { dst := some 79, op := Op.call { callee := Callee.value (Operand.func 27), args := #[Operand.tmp 77, Operand.tmp 78], argTypes := #[24, 22] }, type := 4, pos := "outright.go:41", after := #[{ on := 32, ground := Ground.data }, { on := 33, ground := Ground.data }, { on := 30, ground := Ground.chain }, { on := 19, ground := Ground.guard }], guard := some (19, false) }) rfl (fun K hK => ?_) AllReadyH.nil
            clear hHeld
            go_simp
            refine (HIC.out _).mono ?_
            rintro e wr4 ⟨rfl, hB⟩
            have HR4 := hide (HR3.out.trans (hB.mono HR3.out.size))
            clear hB
            refine hK.out _ _ (HR4.out) (fun hHeld => ?_)
            clear hK K
            try simp only [Act.put, List.setIfInBounds_toArray, List.set_cons_zero, List.set_cons_succ]
            refine wpAnyH_take (i := 35) (oi := { dst := some 80, op := Op.binOp BinOp.neq 4 (Operand.tmp 76) (Operand.tmp 79) 4, type := 4, pos := "outright.go:41", after := #[{ on := 31, ground := Ground.data }, { on := 34, ground := Ground.data }, { on := 19, ground := Ground.guard }], guard := some (19, false) }) (v := ?_) rfl (by kernel_rfl) (by kernel_rfl) (by kernel_rfl) (fun _ _ _ h => h) (Or.inl ⟨by rfl, ?_⟩) hHeld ?_
            rotate_left
            · intro w hSw; (try dsimp only at hSw); go_simp; first | done | with_reducible rfl
            try simp only [Act.put, List.setIfInBounds_toArray, List.set_cons_zero, List.set_cons_succ]
            refine wpAnyH_take (i := 36) (oi := { dst := some 81, op := Op.pick (Operand.tmp 64) (Operand.const (Value.bool true)) (Operand.tmp 80), type := 4, pos := "outright.go:41", after := #[{ on := 19, ground := Ground.data }, { on := 35, ground := Ground.data }, { on := 1, ground := Ground.guard }], guard := some (1, true) }) (v := ?_) rfl (by kernel_rfl) (by kernel_rfl) (by kernel_rfl) (fun _ _ _ h => h) (Or.inl ⟨by rfl, ?_⟩) hHeld ?_
            rotate_left
            · intro w hSw; (try dsimp only at hSw); go_simp; first | done | with_reducible rfl
            try simp only [Act.put, List.setIfInBounds_toArray, List.set_cons_zero, List.set_cons_succ]
            refine wpAnyH_take (i := 37) (oi := { dst := some 82, op := Op.pick (Operand.tmp 46) (Operand.tmp 81) (Operand.const (Value.bool false)), type := 4, pos := "outright.go:41", after := #[{ on := 1, ground := Ground.data }, { on := 36, ground := Ground.data }], guard := none }) (v := ?_) rfl (by kernel_rfl) (by kernel_rfl) (by kernel_rfl) (fun _ _ _ h => h) (Or.inl ⟨by rfl, ?_⟩) hHeld ?_
            rotate_left
            · intro w hSw; (try dsimp only at hSw); go_simp; first | done | with_reducible rfl
            try simp only [Act.put, List.setIfInBounds_toArray, List.set_cons_zero, List.set_cons_succ]
            refine wpAnyH_done (by kernel_rfl) ?_ _
            clear hHeld
            go_wp2_with fail
            go_meet
            case rel => exact ⟨rfl, rfl, HX5.out.on HR4.out⟩
          | false =>
            obtain rfl : ic = false := by simpa using hh
            clear hh
            refine wp_region_held_drew (S := fun w' => Below w5_.heap.size w5_ w') (by kernel_rfl) ((Below.refl _ _).drew) (fun hHeld => ?_)
            refine wpAnyH_take (i := 0) (oi := { dst := some 45, op := Op.move (Operand.tmp 14), type := 4, pos := "outright.go:41", after := #[], guard := none }) (v := ?_) rfl (by kernel_rfl) (by kernel_rfl) (by kernel_rfl) (fun _ _ _ h => h) (Or.inl ⟨by rfl, ?_⟩) hHeld ?_
            rotate_left
            · intro w hSw; (try dsimp only at hSw); go_simp; first | done | with_reducible rfl
            try simp only [Act.put, List.setIfInBounds_toArray, List.set_cons_zero, List.set_cons_succ]
            refine wpAnyH_take (i := 1) (oi := { dst := some 46, op := Op.move (Operand.tmp 45), type := 4, pos := "outright.go:41", after := #[{ on := 0, ground := Ground.data }], guard := none }) (v := ?_) rfl (by kernel_rfl) (by kernel_rfl) (by kernel_rfl) (fun _ _ _ h => h) (Or.inl ⟨by rfl, ?_⟩) hHeld ?_
            rotate_left
            · intro w hSw; (try dsimp only at hSw); go_simp; first | done | with_reducible rfl
            try simp only [Act.put, List.setIfInBounds_toArray, List.set_cons_zero, List.set_cons_succ]
            refine wpAnyH_take (i := 2) (oi := { dst := some 47, op := Op.move (Operand.tmp 13), type := 37, pos := "outright.go:41", after := #[{ on := 1, ground := Ground.guard }], guard := some (1, true) }) (v := ?_) rfl (by kernel_rfl) (by kernel_rfl) (by kernel_rfl) (fun _ _ _ h => h) (Or.inl ⟨by rfl, ?_⟩) hHeld ?_
            rotate_left
            · intro w hSw; (try dsimp only at hSw); go_simp; first | done | with_reducible rfl
            try simp only [Act.put, List.setIfInBounds_toArray, List.set_cons_zero, List.set_cons_succ]
            refine wpAnyH_take (i := 3) (oi := { dst := some 48, op := Op.call { callee := Callee.builtin Builtin.len, args := #[Operand.tmp 47], argTypes := #[37] }, type := 3, pos := "outright.go:41", after := #[{ on := 2, ground := Ground.data }, { on := 1, ground := Ground.guard }], guard := some (1, true) }) (v := ?_) rfl (by kernel_rfl) (by kernel_rfl) (by kernel_rfl) (fun _ _ _ h => h) (Or.inl ⟨by rfl, ?_⟩) hHeld ?_
            rotate_left
            · intro w hSw; (try dsimp only at hSw); go_simp; first | done | with_reducible rfl
            try simp only [Act.put, List.setIfInBounds_toArray, List.set_cons_zero, List.set_cons_succ]
            refine wpAnyH_take (i := 4) (oi := { dst := some 49, op := Op.binOp BinOp.neq 3 (Operand.tmp 48) (Operand.const (Value.int IntKind.i64 2)) 3, type := 4, pos := "outright.go:41", after := #[{ on := 3, ground := Ground.data }, { on := 1, ground := Ground.guard }], guard := some (1, true) }) (v := ?_) rfl (by kernel_rfl) (by kernel_rfl) (by kernel_rfl) (fun _ _ _ h => h) (Or.inl ⟨by rfl, ?_⟩) hHeld ?_
            rotate_left
            · intro w hSw; (try dsimp only at hSw); go_simp; first | done | with_reducible rfl
            try simp only [Act.put, List.setIfInBounds_toArray, List.set_cons_zero, List.set_cons_succ]
            refine wpAnyH_take (i := 5) (oi := { dst := some 50, op := Op.move (Operand.tmp 49), type := 4, pos := "outright.go:41", after := #[{ on := 4, ground := Ground.data }, { on := 1, ground := Ground.chain }, { on := 1, ground := Ground.guard }], guard := some (1, true) }) (v := ?_) rfl (by kernel_rfl) (by kernel_rfl) (by kernel_rfl) (fun _ _ _ h => h) (Or.inl ⟨by rfl, ?_⟩) hHeld ?_
            rotate_left
            · intro w hSw; (try dsimp only at hSw); go_simp; first | done | with_reducible rfl
            try simp only [Act.put, List.setIfInBounds_toArray, List.set_cons_zero, List.set_cons_succ]
            refine wpAnyH_take (i := 6) (oi := { dst := some 51, op := Op.move (Operand.tmp 13), type := 37, pos := "outright.go:41", after := #[{ on := 5, ground := Ground.guard }], guard := some (5, false) }) (v := ?_) rfl (by kernel_rfl) (by kernel_rfl) (by kernel_rfl) (fun _ _ _ h => h) (Or.inl ⟨by rfl, ?_⟩) hHeld ?_
            rotate_left
            · intro w hSw; (try dsimp only at hSw); go_simp; first | done | with_reducible rfl
            try simp only [Act.put, List.setIfInBounds_toArray, List.set_cons_zero, List.set_cons_succ]
            refine wpAnyH_take (i := 7) (oi := { dst := some 52, op := Op.indexAddr 37 (Operand.tmp 51) (Operand.const (Value.int IntKind.i64 0)), type := 0, pos := "outright.go:41", after := #[{ on := 6, ground := Ground.data }, { on := 5, ground := Ground.guard }], guard := some (5, false) }) (v := ?_) rfl (by kernel_rfl) (by kernel_rfl) (by kernel_rfl) (fun _ _ _ h => h) (Or.inl ⟨by rfl, ?_⟩) hHeld ?_
            rotate_left
            · intro w hSw; (try dsimp only at hSw); go_simp; first | done | with_reducible rfl
            try simp only [Act.put, List.setIfInBounds_toArray, List.set_cons_zero, List.set_cons_succ]
            refine wpAnyH_take (i := 8) (oi := { dst := some 53, op := Op.load 24 (Operand.tmp 52), type := 24, pos := "outright.go:41", after := #[{ on := 7, ground := Ground.data }, { on := 5, ground := Ground.guard }], guard := some (5, false) }) (v := ?_) rfl (by kernel_rfl) (by kernel_rfl) (by kernel_rfl) (fun _ _ _ h => h) (Or.inl ⟨by rfl, ?_⟩) hHeld ?_
            rotate_left
            · intro w hSw; (try dsimp only at hSw); have e0 := (hSw.cell (p := ⟨g, 0, none⟩) HX5.out.1.lt).trans HX5.out.1.c0; have e1 := (hSw.cell (p := ⟨g, 1, none⟩) HX5.out.1.lt).trans HX5.out.1.c1; have e2 := (hSw.cell (p := ⟨gl, ol, none⟩) HBL.out).trans D0.out; have e3 := (hSw.cell (p := ⟨gl, ol + 1, none⟩) HBL.out).trans D1.out; have e4 := (hSw.cell (p := ⟨gl, ol + 2, none⟩) HBL.out).trans D2.out; have e5 := (hSw.cell (p := ⟨gl, ol + 3, none⟩) HBL.out).trans D3.out; go_simp; first | done | with_reducible rfl
            try simp only [Act.put, List.setIfInBounds_toArray, List.set_cons_zero, List.set_cons_succ]
            refine wpAnyH_take (i := 9) (oi := { dst := some 54, op := Op.move (Operand.tmp 0), type := 22, pos := "outright.go:41", after := #[{ on := 5, ground := Ground.guard }], guard := some (5, false) }) (v := ?_) rfl (by kernel_rfl) (by kernel_rfl) (by kernel_rfl) (fun _ _ _ h => h) (Or.inl ⟨by rfl, ?_⟩) hHeld ?_
            rotate_left
            · intro w hSw; (try dsimp only at hSw); go_simp; first | done | with_reducible rfl
            try simp only [Act.put, List.setIfInBounds_toArray, List.set_cons_zero, List.set_cons_succ]
            refine wpAnyH_ready (rs := [10]) (by kernel_rfl) (by simp) ?_
            refine AllReadyH.cons (o := { dst := some 55, op := Op.call { callee := Callee.value (Operand.func 27), args := #[Operand.tmp 53, Operand.tmp 54], argTypes := #[24, 22] }, type := 4, pos := "outright.go:41", after := #[{ on := 8, ground := Ground.data }, { on := 9, ground := Ground.data }, { on := 5, ground := Ground.chain }, { on := 5, ground := Ground.guard }], guard := some (5, false) }) rfl (fun K hK => ?_) AllReadyH.nil
            clear hHeld
            go_simp
            refine (HLQ.out _).mono ?_
            rintro e wr1 ⟨rfl, hB⟩
            have HR1 := hide (((Below.refl w5_.heap.size w5_).drew).trans (hB.mono ((Below.refl w5_.heap.size w5_).drew).size))
            clear hB
            refine hK.out _ _ (HR1.out) (fun hHeld => ?_)
            clear hK K
            try simp only [Act.put, List.setIfInBounds_toArray, List.set_cons_zero, List.set_cons_succ]
            refine wpAnyH_take (i := 11) (oi := { dst := some 56, op := Op.move (Operand.tmp 55), type := 4, pos := "outright.go:41", after := #[{ on := 10, ground := Ground.data }, { on := 10, ground := Ground.chain }, { on := 5, ground := Ground.guard }], guard := some (5, false) }) (v := ?_) rfl (by kernel_rfl) (by kernel_rfl) (by kernel_rfl) (fun _ _ _ h => h) (Or.inl ⟨by rfl, ?_⟩) hHeld ?_
            rotate_left
            · intro w hSw; (try dsimp only at hSw); go_simp; first | done | with_reducible rfl
            try simp only [Act.put, List.setIfInBounds_toArray, List.set_cons_zero, List.set_cons_succ]
            refine wpAnyH_take (i := 12) (oi := { dst := some 57, op := Op.move (Operand.tmp 13), type := 37, pos := "outright.go:41", after := #[{ on := 11, ground := Ground.guard }], guard := some (11, true) }) (v := undef) rfl (by kernel_rfl) (by kernel_rfl) (by kernel_rfl) (fun _ _ _ h => h) (Or.inr ⟨by rfl, rfl⟩) hHeld ?_
            try simp only [Act.put, List.setIfInBounds_toArray, List.set_cons_zero, List.set_cons_succ]
            refine wpAnyH_take (i := 13) (oi := { dst := some 58, op := Op.indexAddr 37 (Operand.tmp 57) (Operand.const (Value.int IntKind.i64 1)), type := 0, pos := "outright.go:41", after := #[{ on := 12, ground := Ground.data }, { on := 11, ground := Ground.guard }], guard := some (11, true) }) (v := undef) rfl (by kernel_rfl) (by kernel_rfl) (by kernel_rfl) (fun _ _ _ h => h) (Or.inr ⟨by rfl, rfl⟩) hHeld ?_
            try simp only [Act.put, List.setIfInBounds_toArray, List.set_cons_zero, List.set_cons_succ]
            refine wpAnyH_take (i := 14) (oi := { dst := some 59, op := Op.load 24 (Operand.tmp 58), type := 24, pos := "outright.go:41", after := #[{ on := 13, ground := Ground.data }, { on := 11, ground := Ground.guard }], guard := some (11, true) }) (v := undef) rfl (by kernel_rfl) (by kernel_rfl) (by kernel_rfl) (fun _ _ _ h => h) (Or.inr ⟨by rfl, rfl⟩) hHeld ?_
            try simp only [Act.put, List.setIfInBounds_toArray, List.set_cons_zero, List.set_cons_succ]
            refine wpAnyH_take (i := 15) (oi := { dst := some 60, op := Op.move (Operand.tmp 0), type := 22, pos := "outright.go:41", after := #[{ on := 11, ground := Ground.guard }], guard := some (11, true) }) (v := undef) rfl (by kernel_rfl) (by kernel_rfl) (by kernel_rfl) (fun _ _ _ h => h) (Or.inr ⟨by rfl, rfl⟩) hHeld ?_
            try simp only [Act.put, List.setIfInBounds_toArray, List.set_cons_zero, List.set_cons_succ]
            refine wpAnyH_take (i := 16) (oi := { dst := some 61, op := Op.call { callee := Callee.value (Operand.func 27), args := #[Operand.tmp 59, Operand.tmp 60], argTypes := #[24, 22] }, type := 4, pos := "outright.go:41", after := #[{ on := 14, ground := Ground.data }, { on := 15, ground := Ground.data }, { on := 11, ground := Ground.chain }, { on := 11, ground := Ground.guard }], guard := some (11, true) }) (v := undef) rfl (by kernel_rfl) (by kernel_rfl) (by kernel_rfl) (fun _ _ _ h => h) (Or.inr ⟨by rfl, rfl⟩) hHeld ?_
            try simp only [Act.put, List.setIfInBounds_toArray, List.set_cons_zero, List.set_cons_succ]
            refine wpAnyH_take (i := 17) (oi := { dst := some 62, op := Op.pick (Operand.tmp 56) (Operand.tmp 61) (Operand.const (Value.bool false)), type := 4, pos := "outright.go:41", after := #[{ on := 11, ground := Ground.data }, { on := 16, ground := Ground.data }, { on := 5, ground := Ground.guard }], guard := some (5, false) }) (v := ?_) rfl (by kernel_rfl) (by kernel_rfl) (by kernel_rfl) (fun _ _ _ h => h) (Or.inl ⟨by rfl, ?_⟩) hHeld ?_
            rotate_left
            · intro w hSw; (try dsimp only at hSw); go_simp; first | done | with_reducible rfl
            try simp only [Act.put, List.setIfInBounds_toArray, List.set_cons_zero, List.set_cons_succ]
            refine wpAnyH_take (i := 18) (oi := { dst := some 63, op := Op.pick (Operand.tmp 50) (Operand.const (Value.bool true)) (Operand.tmp 62), type := 4, pos := "outright.go:41", after := #[{ on := 5, ground := Ground.data }, { on := 17, ground := Ground.data }, { on := 1, ground := Ground.guard }], guard := some (1, true) }) (v := ?_) rfl (by kernel_rfl) (by kernel_rfl) (by kernel_rfl) (fun _ _ _ h => h) (Or.inl ⟨by rfl, ?_⟩) hHeld ?_
            rotate_left
            · intro w hSw; (try dsimp only at hSw); go_simp; first | done | with_reducible rfl
            try simp only [Act.put, List.setIfInBounds_toArray, List.set_cons_zero, List.set_cons_succ]
            refine wpAnyH_take (i := 19) (oi := { dst := some 64, op := Op.move (Operand.tmp 63), type := 4, pos := "outright.go:41", after := #[{ on := 18, ground := Ground.data }, { on := 16, ground := Ground.chain }, { on := 1, ground := Ground.guard }], guard := some (1, true) }) (v := ?_) rfl (by kernel_rfl) (by kernel_rfl) (by kernel_rfl) (fun _ _ _ h => h) (Or.inl ⟨by rfl, ?_⟩) hHeld ?_
            rotate_left
            · intro w hSw; (try dsimp only at hSw); go_simp; first | done | with_reducible rfl
            try simp only [Act.put, List.setIfInBounds_toArray, List.set_cons_zero, List.set_cons_succ]
            refine wpAnyH_take (i := 20) (oi := { dst := some 65, op := Op.move (Operand.tmp 13), type := 37, pos := "outright.go:41", after := #[{ on := 19, ground := Ground.guard }], guard := some (19, false) }) (v := ?_) rfl (by kernel_rfl) (by kernel_rfl) (by kernel_rfl) (fun _ _ _ h => h) (Or.inl ⟨by rfl, ?_⟩) hHeld ?_
            rotate_left
            · intro w hSw; (try dsimp only at hSw); go_simp; first | done | with_reducible rfl
            try simp only [Act.put, List.setIfInBounds_toArray, List.set_cons_zero, List.set_cons_succ]
            refine wpAnyH_take (i := 21) (oi := { dst := some 66, op := Op.indexAddr 37 (Operand.tmp 65) (Operand.const (Value.int IntKind.i64 0)), type := 0, pos := "outright.go:41", after := #[{ on := 20, ground := Ground.data }, { on := 19, ground := Ground.guard }], guard := some (19, false) }) (v := ?_) rfl (by kernel_rfl) (by kernel_rfl) (by kernel_rfl) (fun _ _ _ h => h) (Or.inl ⟨by rfl, ?_⟩) hHeld ?_
            rotate_left
            · intro w hSw; (try dsimp only at hSw); go_simp; first | done | with_reducible rfl
            try simp only [Act.put, List.setIfInBounds_toArray, List.set_cons_zero, List.set_cons_succ]
            refine wpAnyH_take (i := 22) (oi := { dst := some 67, op := Op.load 24 (Operand.tmp 66), type := 24, pos := "outright.go:41", after := #[{ on := 21, ground := Ground.data }, { on := 19, ground := Ground.guard }], guard := some (19, false) }) (v := ?_) rfl (by kernel_rfl) (by kernel_rfl) (by kernel_rfl) (fun _ _ _ h => h) (Or.inl ⟨by rfl, ?_⟩) hHeld ?_
            rotate_left
            · intro w hSw; (try dsimp only at hSw); have e0 := (hSw.cell (p := ⟨g, 0, none⟩) HX5.out.1.lt).trans HX5.out.1.c0; have e1 := (hSw.cell (p := ⟨g, 1, none⟩) HX5.out.1.lt).trans HX5.out.1.c1; have e2 := (hSw.cell (p := ⟨gl, ol, none⟩) HBL.out).trans D0.out; have e3 := (hSw.cell (p := ⟨gl, ol + 1, none⟩) HBL.out).trans D1.out; have e4 := (hSw.cell (p := ⟨gl, ol + 2, none⟩) HBL.out).trans D2.out; have e5 := (hSw.cell (p := ⟨gl, ol + 3, none⟩) HBL.out).trans D3.out; go_simp; first | done | with_reducible rfl
            try simp only [Act.put, List.setIfInBounds_toArray, List.set_cons_zero, List.set_cons_succ]
            refine wpAnyH_take (i := 23) (oi := { dst := some 68, op := Op.move (Operand.tmp 0), type := 22, pos := "outright.go:41", after := #[{ on := 19, ground := Ground.guard }], guard := some (19, false) }) (v := ?_) rfl (by kernel_rfl) (by kernel_rfl) (by kernel_rfl) (fun _ _ _ h => h) (Or.inl ⟨by rfl, ?_⟩) hHeld ?_
            rotate_left
            · intro w hSw; (try dsimp only at hSw); go_simp; first | done | with_reducible rfl
            try simp only [Act.put, List.setIfInBounds_toArray, List.set_cons_zero, List.set_cons_succ]
            refine wpAnyH_take (i := 32) (oi := { dst := some 77, op := Op.load 24 (Operand.tmp 5), type := 24, pos := "outright.go:41", after := #[{ on := 19, ground := Ground.guard }], guard := some (19, false) }) (v := ?_) rfl (by kernel_rfl) (by kernel_rfl) (by kernel_rfl) (fun _ _ _ h => h) (Or.inl ⟨by rfl, ?_⟩) hHeld ?_
            rotate_left
            · intro w hSw; (try dsimp only at hSw); have e0 := (hSw.cell (p := ⟨g, 0, none⟩) HX5.out.1.lt).trans HX5.out.1.c0; have e1 := (hSw.cell (p := ⟨g, 1, none⟩) HX5.out.1.lt).trans HX5.out.1.c1; have e2 := (hSw.cell (p := ⟨gl, ol, none⟩) HBL.out).trans D0.out; have e3 := (hSw.cell (p := ⟨gl, ol + 1, none⟩) HBL.out).trans D1.out; have e4 := (hSw.cell (p := ⟨gl, ol + 2, none⟩) HBL.out).trans D2.out; have e5 := (hSw.cell (p := ⟨gl, ol + 3, none⟩) HBL.out).trans D3.out; go_simp; first | done | with_reducible rfl
            try simp only [Act.put, List.setIfInBounds_toArray, List.set_cons_zero, List.set_cons_succ]
            refine wpAnyH_take (i := 33) (oi := { dst := some 78, op := Op.move (Operand.tmp 0), type := 22, pos := "outright.go:41", after := #[{ on := 19, ground := Ground.guard }], guard := some (19, false) }) (v := ?_) rfl (by kernel_rfl) (by kernel_rfl) (by kernel_rfl) (fun _ _ _ h => h) (Or.inl ⟨by rfl, ?_⟩) hHeld ?_
            rotate_left
            · intro w hSw; (try dsimp only at hSw); go_simp; first | done | with_reducible rfl
            try simp only [Act.put, List.setIfInBounds_toArray, List.set_cons_zero, List.set_cons_succ]
            refine wpAnyH_ready (rs := [24]) (by kernel_rfl) (by simp) ?_
            refine AllReadyH.cons (o := { dst := some 69, op := Op.call { callee := Callee.value (Operand.func 27), args := #[Operand.tmp 67, Operand.tmp 68], argTypes := #[24, 22] }, type := 4, pos := "outright.go:41", after := #[{ on := 22, ground := Ground.data }, { on := 23, ground := Ground.data }, { on := 19, ground := Ground.chain }, { on := 19, ground := Ground.guard }], guard := some (19, false) }) rfl (fun K hK => ?_) AllReadyH.nil
            clear hHeld
            go_simp
            refine (HLQ.out _).mono ?_
            rintro e wr2 ⟨rfl, hB⟩
            have HR2 := hide (HR1.out.trans (hB.mono HR1.out.size))
            clear hB
            refine hK.out _ _ (HR2.out) (fun hHeld => ?_)
            clear hK K
            try simp only [Act.put, List.setIfInBounds_toArray, List.set_cons_zero, List.set_cons_succ]
            refine wpAnyH_take (i := 25) (oi := { dst := some 70, op := Op.move (Operand.tmp 69), type := 4, pos := "outright.go:41", after := #[{ on := 24, ground := Ground.data }, { on := 24, ground := Ground.chain }, { on := 19, ground := Ground.guard }], guard := some (19, false) }) (v := ?_) rfl (by kernel_rfl) (by kernel_rfl) (by kernel_rfl) (fun _ _ _ h => h) (Or.inl ⟨by rfl, ?_⟩) hHeld ?_
            rotate_left
            · intro w hSw; (try dsimp only at hSw); go_simp; first | done | with_reducible rfl
            try simp only [Act.put, List.setIfInBounds_toArray, List.set_cons_zero, List.set_cons_succ]
            refine wpAnyH_take (i := 26) (oi := { dst := some 71, op := Op.move (Operand.tmp 13), type := 37, pos := "outright.go:41", after := #[{ on := 25, ground := Ground.guard }], guard := some (25, false) }) (v := ?_) rfl (by kernel_rfl) (by kernel_rfl) (by kernel_rfl) (fun _ _ _ h => h) (Or.inl ⟨by rfl, ?_⟩) hHeld ?_
            rotate_left
            · intro w hSw; (try dsimp only at hSw); go_simp; first | done | with_reducible rfl
            try simp only [Act.put, List.setIfInBounds_toArray, List.set_cons_zero, List.set_cons_succ]
            refine wpAnyH_take (i := 27) (oi := { dst := some 72, op := Op.indexAddr 37 (Operand.tmp 71) (Operand.const (Value.int IntKind.i64 1)), type := 0, pos := "outright.go:41", after := #[{ on := 26, ground := Ground.data }, { on := 25, ground := Ground.guard }], guard := some (25, false) }) (v := ?_) rfl (by kernel_rfl) (by kernel_rfl) (by kernel_rfl) (fun _ _ _ h => h) (Or.inl ⟨by rfl, ?_⟩) hHeld ?_
            rotate_left
            · intro w hSw; (try dsimp only at hSw); go_simp; first | done | with_reducible rfl
            try simp only [Act.put, List.setIfInBounds_toArray, List.set_cons_zero, List.set_cons_succ]
            refine wpAnyH_take (i := 28) (oi := { dst := some 73, op := Op.load 24 (Operand.tmp 72), type := 24, pos := "outright.go:41", after := #[{ on := 27, ground := Ground.data }, { on := 25, ground := Ground.guard }], guard := some (25, false) }) (v := ?_) rfl (by kernel_rfl) (by kernel_rfl) (by kernel_rfl) (fun _ _ _ h => h) (Or.inl ⟨by rfl, ?_⟩) hHeld ?_
            rotate_left
            · intro w hSw; (try dsimp only at hSw); have e0 := (hSw.cell (p := ⟨g, 0, none⟩) HX5.out.1.lt).trans HX5.out.1.c0; have e1 := (hSw.cell (p := ⟨g, 1, none⟩) HX5.out.1.lt).trans HX5.out.1.c1; have e2 := (hSw.cell (p := ⟨gl, ol, none⟩) HBL.out).trans D0.out; have e3 := (hSw.cell (p := ⟨gl, ol + 1, none⟩) HBL.out).trans D1.out; have e4 := (hSw.cell (p := ⟨gl, ol + 2, none⟩) HBL.out).trans D2.out; have e5 := (hSw.cell (p := ⟨gl, ol + 3, none⟩) HBL.out).trans D3.out; go_simp; first | done | with_reducible rfl
            try simp only [Act.put, List.setIfInBounds_toArray, List.set_cons_zero, List.set_cons_succ]
            refine wpAnyH_take (i := 29) (oi := { dst := some 74, op := Op.move (Operand.tmp 0), type := 22, pos := "outright.go:41", after := #[{ on := 25, ground := Ground.guard }], guard := some (25, false) }) (v := ?_) rfl (by kernel_rfl) (by kernel_rfl) (by kernel_rfl) (fun _ _ _ h => h) (Or.inl ⟨by rfl, ?_⟩) hHeld ?_
            rotate_left
            · intro w hSw; (try dsimp only at hSw); go_simp; first | done | with_reducible rfl
            try simp only [Act.put, List.setIfInBounds_toArray, List.set_cons_zero, List.set_cons_succ]
            refine wpAnyH_ready (rs := [30]) (by kernel_rfl) (by simp) ?_
            refine AllReadyH.cons (o := { dst := some 75, op := Op.call { callee := Callee.value (Operand.func 27), args := #[Operand.tmp 73, Operand.tmp 74], argTypes := #[24, 22] }, type := 4, pos := "outright.go:41", after := #[{ on := 28, ground := Ground.data }, { on := 29, ground := Ground.data }, { on := 25, ground := Ground.chain }, { on := 25, ground := Ground.guard }], guard := some (25, false) }) rfl (fun K hK => ?_) AllReadyH.nil
            clear hHeld
            go_simp
            refine (HHQ.out _).mono ?_
            rintro e wr3 ⟨rfl, hB⟩
            have HR3 := hide (HR2.out.trans (hB.mono HR2.out.size))
            clear hB
            refine hK.out _ _ (HR3.out) (fun hHeld => ?_)
            clear hK K
            try simp only [Act.put, List.setIfInBounds_toArray, List.set_cons_zero, List.set_cons_succ]
            refine wpAnyH_take (i := 31) (oi := { dst := some 76, op := Op.pick (Operand.tmp 70) (Operand.const (Value.bool true)) (Operand.tmp 75), type := 4, pos := "outright.go:41", after := #[{ on := 25, ground := Ground.data }, { on := 30, ground := Ground.data }, { on := 19, ground := Ground.guard }], guard := some (19, false) }) (v := ?_) rfl (by kernel_rfl) (by kernel_rfl) (by kernel_rfl) (fun _ _ _ h => h) (Or.inl ⟨by rfl, ?_⟩) hHeld ?_
            rotate_left
            · intro w hSw; (try dsimp only at hSw); go_simp; first | done | with_reducible rfl
            try simp only [Act.put, List.setIfInBounds_toArray, List.set_cons_zero, List.set_cons_succ]
            refine wpAnyH_ready (rs := [34]) (by kernel_rfl) (by simp) ?_
            refine AllReadyH.cons (o := { dst := some 79, op := Op.call { callee := Callee.value (Operand.func 27), args := #[Operand.tmp 77, Operand.tmp 78], argTypes := #[24, 22] }, type := 4, pos := "outright.go:41", after := #[{ on := 32, ground := Ground.data }, { on := 33, ground := Ground.data }, { on := 30, ground := Ground.chain }, { on := 19, ground := Ground.guard }], guard := some (19, false) }) rfl (fun K hK => ?_) AllReadyH.nil
            clear hHeld
            go_simp
            refine (HIC.out _).mono ?_
            rintro e wr4 ⟨rfl, hB⟩
            have HR4 := hide (HR3.out.trans (hB.mono HR3.out.size))
            clear hB
            refine hK.out _ _ (HR4.out) (fun hHeld => ?_)
            clear hK K
            try simp only [Act.put, List.setIfInBounds_toArray, List.set_cons_zero, List.set_cons_succ]
            refine wpAnyH_take (i := 35) (oi := { dst := some 80, op := Op.binOp BinOp.neq 4 (Operand.tmp 76) (Operand.tmp 79) 4, type := 4, pos := "outright.go:41", after := #[{ on := 31, ground := Ground.data }, { on := 34, ground := Ground.data }, { on := 19, ground := Ground.guard }], guard := some (19, false) }) (v := ?_) rfl (by kernel_rfl) (by kernel_rfl) (by kernel_rfl) (fun _ _ _ h => h) (Or.inl ⟨by rfl, ?_⟩) hHeld ?_
            rotate_left
            · intro w hSw; (try dsimp only at hSw); go_simp; first | done | with_reducible rfl
            try simp only [Act.put, List.setIfInBounds_toArray, List.set_cons_zero, List.set_cons_succ]
            refine wpAnyH_take (i := 36) (oi := { dst := some 81, op := Op.pick (Operand.tmp 64) (Operand.const (Value.bool true)) (Operand.tmp 80), type := 4, pos := "outright.go:41", after := #[{ on := 19, ground := Ground.data }, { on := 35, ground := Ground.data }, { on := 1, ground := Ground.guard }], guard := some (1, true) }) (v := ?_) rfl (by kernel_rfl) (by kernel_rfl) (by kernel_rfl) (fun _ _ _ h => h) (Or.inl ⟨by rfl, ?_⟩) hHeld ?_
            rotate_left
            · intro w hSw; (try dsimp only at hSw); go_simp; first | done | with_reducible rfl
            try simp only [Act.put, List.setIfInBounds_toArray, List.set_cons_zero, List.set_cons_succ]
            refine wpAnyH_take (i := 37) (oi := { dst := some 82, op := Op.pick (Operand.tmp 46) (Operand.tmp 81) (Operand.const (Value.bool false)), type := 4, pos := "outright.go:41", after := #[{ on := 1, ground := Ground.data }, { on := 36, ground := Ground.data }], guard := none }) (v := ?_) rfl (by kernel_rfl) (by kernel_rfl) (by kernel_rfl) (fun _ _ _ h => h) (Or.inl ⟨by rfl, ?_⟩) hHeld ?_
            rotate_left
            · intro w hSw; (try dsimp only at hSw); go_simp; first | done | with_reducible rfl
            try simp only [Act.put, List.setIfInBounds_toArray, List.set_cons_zero, List.set_cons_succ]
            refine wpAnyH_done (by kernel_rfl) ?_ _
            clear hHeld
            go_wp2_with fail
            go_meet
            case rel => exact ⟨rfl, rfl, HX5.out.on HR4.out⟩
    case rest =>
      obtain ⟨hs8, hs9, hx⟩ := hcut
      subst hs8 hs9
      have HX6 := hide hx
      clear hx HYES HNO HLT5
      cases xcd with
      | false =>
        have c0c := HX6.out.1.c0
        have c1c := HX6.out.1.c1
        have c0d := HX6.out.2.1.c0
        have c1d := HX6.out.2.1.c1
        have c0e := HX6.out.2.2.1.c0
        have c1e := HX6.out.2.2.1.c1
        go_wp2_with fail
        refine (HCD.out _).mono ?_
        rintro e w7_ ⟨rfl, hB⟩
        have HX7 := hide (HX6.out.on hB)
        clear hB
        clear c0c c1c c0d c1d c0e c1e
        go_wp2_with fail
        refine (awake_any _ (HE.out.below HX7.out.2.2.2)).mono ?_
        rintro e wz ⟨rfl, hB⟩
        have HZ := hide (HX7.out.on hB)
        clear hB
        go_wp2_with fail
        go_ret
        exact ⟨rfl, HZ.out.2.2.2⟩
      | true =>
        cases xde with
        | false =>
          cases jd with
          | false =>
            have c0c := HX6.out.1.c0
            have c1c := HX6.out.1.c1
            have c0d := HX6.out.2.1.c0
            have c1d := HX6.out.2.1.c1
            have c0e := HX6.out.2.2.1.c0
            have c1e := HX6.out.2.2.1.c1
            go_wp2_with fail
            refine (HCD.out _).mono ?_
            rintro e w7_ ⟨rfl, hB⟩
            have HX7 := hide (HX6.out.on hB)
            clear hB
            clear c0c c1c c0d c1d c0e c1e
            have c0c := HX7.out.1.c0
            have c1c := HX7.out.1.c1
            have c0d := HX7.out.2.1.c0
            have c1d := HX7.out.2.1.c1
            have c0e := HX7.out.2.2.1.c0
            have c1e := HX7.out.2.2.1.c1
            go_wp2_with fail
            refine (HDE.out _).mono ?_
            rintro e w8_ ⟨rfl, hB⟩
            have HX8 := hide (HX7.out.on hB)
            clear hB
            clear c0c c1c c0d c1d c0e c1e
            have c0c := HX8.out.1.c0
            have c1c := HX8.out.1.c1
            have c0d := HX8.out.2.1.c0
            have c1d := HX8.out.2.1.c1
            have c0e := HX8.out.2.2.1.c0
            have c1e := HX8.out.2.2.1.c1
            go_wp2_with fail
            refine (HID.out _).mono ?_
            rintro e w9_ ⟨rfl, hB⟩
            have HX9 := hide (HX8.out.on hB)
            clear hB
            clear c0c c1c c0d c1d c0e c1e
            go_wp2_with fail
            refine (awake_any _ (HE.out.below HX9.out.2.2.2)).mono ?_
            rintro e wz ⟨rfl, hB⟩
            have HZ := hide (HX9.out.on hB)
            clear hB
            go_wp2_with fail
            go_ret
            exact ⟨rfl, HZ.out.2.2.2⟩
          | true =>
            obtain rfl : ic = true := HCI.out rfl rfl
            have c0c := HX6.out.1.c0
            have c1c := HX6.out.1.c1
            have c0d := HX6.out.2.1.c0
            have c1d := HX6.out.2.1.c1
            have c0e := HX6.out.2.2.1.c0
            have c1e := HX6.out.2.2.1.c1
            go_wp2_with fail
            refine (HCD.out _).mono ?_
            rintro e w7_ ⟨rfl, hB⟩
            have HX7 := hide (HX6.out.on hB)
            clear hB
            clear c0c c1c c0d c1d c0e c1e
            have c0c := HX7.out.1.c0
            have c1c := HX7.out.1.c1
            have c0d := HX7.out.2.1.c0
            have c1d := HX7.out.2.1.c1
            have c0e := HX7.out.2.2.1.c0
            have c1e := HX7.out.2.2.1.c1
            go_wp2_with fail
            refine (HDE.out _).mono ?_
            rintro e w8_ ⟨rfl, hB⟩
            have HX8 := hide (HX7.out.on hB)
            clear hB
            clear c0c c1c c0d c1d c0e c1e
            have c0c := HX8.out.1.c0
            have c1c := HX8.out.1.c1
            have c0d := HX8.out.2.1.c0
            have c1d := HX8.out.2.1.c1
            have c0e := HX8.out.2.2.1.c0
            have c1e := HX8.out.2.2.1.c1
            go_wp2_with fail
            refine (HID.out _).mono ?_
            rintro e w9_ ⟨rfl, hB⟩
            have HX9 := hide (HX8.out.on hB)
            clear hB
            clear c0c c1c c0d c1d c0e c1e
            have c0c := HX9.out.1.c0
            have c1c := HX9.out.1.c1
            have c0d := HX9.out.2.1.c0
            have c1d := HX9.out.2.1.c1
            have c0e := HX9.out.2.2.1.c0
            have c1e := HX9.out.2.2.1.c1
            go_wp2_with fail
            refine (HIC.out _).mono ?_
            rintro e w10_ ⟨rfl, hB⟩
            have HX10 := hide (HX9.out.on hB)
            clear hB
            clear c0c c1c c0d c1d c0e c1e
            go_wp2_with fail
            refine (awake_any _ (HE.out.below HX10.out.2.2.2)).mono ?_
            rintro e wz ⟨rfl, hB⟩
            have HZ := hide (HX10.out.on hB)
            clear hB
            go_wp2_with fail
            go_ret
            exact ⟨rfl, HZ.out.2.2.2⟩
        | true =>
          obtain rfl : xce = true := HTR.out rfl rfl
          cases jd with
          | false =>
            have c0c := HX6.out.1.c0
            have c1c := HX6.out.1.c1
            have c0d := HX6.out.2.1.c0
            have c1d := HX6.out.2.1.c1
            have c0e := HX6.out.2.2.1.c0
            have c1e := HX6.out.2.2.1.c1
            go_wp2_with fail
            refine (HCD.out _).mono ?_
            rintro e w7_ ⟨rfl, hB⟩
            have HX7 := hide (HX6.out.on hB)
            clear hB
            clear c0c c1c c0d c1d c0e c1e
            have c0c := HX7.out.1.c0
            have c1c := HX7.out.1.c1
            have c0d := HX7.out.2.1.c0
            have c1d := HX7.out.2.1.c1
            have c0e := HX7.out.2.2.1.c0
            have c1e := HX7.out.2.2.1.c1
            go_wp2_with fail
            refine (HDE.out _).mono ?_
            rintro e w8_ ⟨rfl, hB⟩
            have HX8 := hide (HX7.out.on hB)
            clear hB
            clear c0c c1c c0d c1d c0e c1e
            have c0c := HX8.out.1.c0
            have c1c := HX8.out.1.c1
            have c0d := HX8.out.2.1.c0
            have c1d := HX8.out.2.1.c1
            have c0e := HX8.out.2.2.1.c0
            have c1e := HX8.out.2.2.1.c1
            go_wp2_with fail
            refine (HCE.out _).mono ?_
            rintro e w9_ ⟨rfl, hB⟩
            have HX9 := hide (HX8.out.on hB)
            clear hB
            clear c0c c1c c0d c1d c0e c1e
            have c0c := HX9.out.1.c0
            have c1c := HX9.out.1.c1
            have c0d := HX9.out.2.1.c0
            have c1d := HX9.out.2.1.c1
            have c0e := HX9.out.2.2.1.c0
            have c1e := HX9.out.2.2.1.c1
            go_wp2_with fail
            refine (HID.out _).mono ?_
            rintro e w10_ ⟨rfl, hB⟩
            have HX10 := hide (HX9.out.on hB)
            clear hB
            clear c0c c1c c0d c1d c0e c1e
            go_wp2_with fail
            refine (awake_any _ (HE.out.below HX10.out.2.2.2)).mono ?_
            rintro e wz ⟨rfl, hB⟩
            have HZ := hide (HX10.out.on hB)
            clear hB
            go_wp2_with fail
            go_ret
            exact ⟨rfl, HZ.out.2.2.2⟩
          | true =>
            obtain rfl : ic = true := HCI.out rfl rfl
            have c0c := HX6.out.1.c0
            have c1c := HX6.out.1.c1
            have c0d := HX6.out.2.1.c0
            have c1d := HX6.out.2.1.c1
            have c0e := HX6.out.2.2.1.c0
            have c1e := HX6.out.2.2.1.c1
            go_wp2_with fail
            refine (HCD.out _).mono ?_
            rintro e w7_ ⟨rfl, hB⟩
            have HX7 := hide (HX6.out.on hB)
            clear hB
            clear c0c c1c c0d c1d c0e c1e
            have c0c := HX7.out.1.c0
            have c1c := HX7.out.1.c1
            have c0d := HX7.out.2.1.c0
            have c1d := HX7.out.2.1.c1
            have c0e := HX7.out.2.2.1.c0
            have c1e := HX7.out.2.2.1.c1
            go_wp2_with fail
            refine (HDE.out _).mono ?_
            rintro e w8_ ⟨rfl, hB⟩
            have HX8 := hide (HX7.out.on hB)
            clear hB
            clear c0c c1c c0d c1d c0e c1e
            have c0c := HX8.out.1.c0
            have c1c := HX8.out.1.c1
            have c0d := HX8.out.2.1.c0
            have c1d := HX8.out.2.1.c1
            have c0e := HX8.out.2.2.1.c0
            have c1e := HX8.out.2.2.1.c1
            go_wp2_with fail
            refine (HCE.out _).mono ?_
            rintro e w9_ ⟨rfl, hB⟩
            have HX9 := hide (HX8.out.on hB)
            clear hB
            clear c0c c1c c0d c1d c0e c1e
            have c0c := HX9.out.1.c0
            have c1c := HX9.out.1.c1
            have c0d := HX9.out.2.1.c0
            have c1d := HX9.out.2.1.c1
            have c0e := HX9.out.2.2.1.c0
            have c1e := HX9.out.2.2.1.c1
            go_wp2_with fail
            refine (HID.out _).mono ?_
            rintro e w10_ ⟨rfl, hB⟩
            have HX10 := hide (HX9.out.on hB)
            clear hB
            clear c0c c1c c0d c1d c0e c1e
            have c0c := HX10.out.1.c0
            have c1c := HX10.out.1.c1
            have c0d := HX10.out.2.1.c0
            have c1d := HX10.out.2.1.c1
            have c0e := HX10.out.2.2.1.c0
            have c1e := HX10.out.2.2.1.c1
            go_wp2_with fail
            refine (HIC.out _).mono ?_
            rintro e w11_ ⟨rfl, hB⟩
            have HX11 := hide (HX10.out.on hB)
            clear hB
            clear c0c c1c c0d c1d c0e c1e
            go_wp2_with fail
            refine (awake_any _ (HE.out.below HX11.out.2.2.2)).mono ?_
            rintro e wz ⟨rfl, hB⟩
            have HZ := hide (HX11.out.on hB)
            clear hB
            go_wp2_with fail
            go_ret
            exact ⟨rfl, HZ.out.2.2.2⟩
end Go.Proofs.YtgikkjjnoakhdaaDoor
