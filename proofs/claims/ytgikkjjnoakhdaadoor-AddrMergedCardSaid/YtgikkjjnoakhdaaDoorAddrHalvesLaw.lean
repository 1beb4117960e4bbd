/- The law AddrHalves (P4.9). -/
import Derived.Test.YtgikkjjnoakhdaaDoorAddrNetsLaw
import Derived.Test.YtgikkjjnoakhdaaDoorAdSame
namespace Go.Proofs.YtgikkjjnoakhdaaDoor
open Go.RowKit Go.Lib

theorem merge_halves {c : Net} (ho : Ok c) (h : c.b < 32) (ha : c.a < 4294967296) : mergeS [lowOf c, highOf c] = [c] := by
  obtain ⟨h1, h2, h3, h4, h5, h6, h7⟩ := halves_ok ho h
  have hp := sz_pos (c.b + 1)
  have hlt := halves_lt ho h ha
  have hm1 := (mayB_iff _).2 h1
  have hm2 := (mayB_iff _).2 h2
  have hw : wholeOf (lowOf c) = c := by
    refine Net.same ?_ (by show (lowOf c).b - 1 = c.b; rw [h6]; omega)
    show flo (lowOf c).a ((lowOf c).b - 1) = c.a
    rw [h3, h6, show c.b + 1 - 1 = c.b by omega]
    exact flo_self ho.dvd
  have hj : joinB (lowOf c) (highOf c) = true := by
    unfold joinB
    rw [hw]
    simp
  have hc : coversB (lowOf c) (highOf c) = false := by
    apply Bool.eq_false_iff.2
    intro hx
    obtain ⟨_, _, _, q⟩ := (coversB_iff _ _).1 hx
    rw [h3, h4, h6, h7] at q
    omega
  have hf : ([lowOf c, highOf c] : List Net).filter mayB = [lowOf c, highOf c] := by simp [List.filter_cons, hm1, hm2]
  rw [← merge_of (l' := [lowOf c, highOf c]) (by rw [hf]) (by simp [lexle, h3, h4]; omega) (by simp [hlt.1, hlt.2])]
  simp [push, hj, hc, hw]
theorem over_iff {c d : Net} (hc : Ok c) (hd : Ok d) : (max c.a d.a ≤ min (c.a + (sz c.b - 1)) (d.a + (sz d.b - 1))) ↔ (coversB c d || coversB d c) = true := by
  have p1 := sz_pos c.b
  have p2 := sz_pos d.b
  rw [Bool.or_eq_true, coversB_iff, coversB_iff]
  rcases Int.lt_or_le d.b c.b with h | h
  · rcases nested hd hc (by omega) with q | q | q
    · exact ⟨fun _ => .inr ⟨hd, hc, q.1, q.2⟩, fun _ => by omega⟩
    · exact ⟨fun _ => by omega, fun x => by rcases x with ⟨_, _, a, b⟩ | ⟨_, _, a, b⟩ <;> omega⟩
    · exact ⟨fun _ => by omega, fun x => by rcases x with ⟨_, _, a, b⟩ | ⟨_, _, a, b⟩ <;> omega⟩
  · rcases nested hc hd h with q | q | q
    · exact ⟨fun _ => .inl ⟨hc, hd, q.1, q.2⟩, fun _ => by omega⟩
    · exact ⟨fun _ => by omega, fun x => by rcases x with ⟨_, _, a, b⟩ | ⟨_, _, a, b⟩ <;> omega⟩
    · exact ⟨fun _ => by omega, fun x => by rcases x with ⟨_, _, a, b⟩ | ⟨_, _, a, b⟩ <;> omega⟩
theorem covers_no {c d : Net} (h : mayB c = false ∨ mayB d = false) : coversB c d = false := by
  apply Bool.eq_false_iff.2
  intro hx
  obtain ⟨h1, h2, _, _⟩ := (coversB_iff _ _).1 hx
  rw [(mayB_iff _).2 h1, (mayB_iff _).2 h2] at h
  simp at h
theorem same_self (v u : Value) (l : List Net) (w : World) (hv : CAt w v l) (hu : CAt w u l) (hl : l.length < 9223372036854775807) : Calls Tryd.prog 33 #[v, u] w (fun e w' => e = .returned (.bool true) ∧ Below w.heap.size w w') := by
  have h := same_any v u l l w hv hu hl
  rw [show decide (l = l) = true by simp] at h
  exact h

set_option maxRecDepth 100000 in
set_option maxHeartbeats 8000000 in
theorem half_any (c : Net) (hc : c.a < 4294967296) (d : Net) (hd : d.a < 4294967296) (w : World) (hE : Env w) : Calls Tryd.prog 9 #[c.val, d.val] w (LawPost w) := by
  have HE := hide hE
  clear hE
  have HFC := hide (fun W => first_any c hc W)
  have HFD := hide (fun W => first_any d hd W)
  have HLC := hide (fun W => last_any c hc W)
  have HLD := hide (fun W => last_any d hd W)
  have HMC := hide (fun W => may_any c hc W)
  have HMD := hide (fun W => may_any d hd W)
  have HCD := hide (fun W => covers_any c d hc hd W)
  have HDC := hide (fun W => covers_any d c hd hc W)
  have HB0 : Hid (Below w.heap.size w ((w.alloc (.cells #[.int .u32 c.a, .int .i64 c.b] 24)).alloc (.cells #[.int .u32 d.a, .int .i64 d.b] 24))) := hide (((Below.refl _ _).alloc (Nat.le_refl _) _).alloc (by simp) _)
  have HX0 : Hid (BoxAt ((w.alloc (.cells #[.int .u32 c.a, .int .i64 c.b] 24)).alloc (.cells #[.int .u32 d.a, .int .i64 d.b] 24)) w.heap.size c.a c.b) := hide ((BoxAt.new w c.a c.b).below_b ((Below.refl _ _).alloc (Nat.le_refl _) _))
  have HY0 : Hid (BoxAt ((w.alloc (.cells #[.int .u32 c.a, .int .i64 c.b] 24)).alloc (.cells #[.int .u32 d.a, .int .i64 d.b] 24)) (w.heap.size + 1) d.a d.b) := hide (by
    have := BoxAt.new (w.alloc (.cells #[.int .u32 c.a, .int .i64 c.b] 24)) d.a d.b
    rw [World.size_alloc] at this
    exact this)
  have HHY := fun (hm : mayB c = true) (hb : c.b < 32) => hide (fun W => (halves_yes c hc ((mayB_iff c).1 hm) hb W))
  have HHN : mayB c = false ∨ c.b = 32 → Hid (∀ W : World, Calls Tryd.prog 22 #[c.val] W (fun e w' => e = .returned (.tuple #[.slice none 0 0, .bool false]) ∧ Below W.heap.size W w')) := fun h => hide (fun W => halves_no c hc h W)
  cases hm : mayB c with
  | false =>
    rw [hm] at HMC
    rw [covers_no (.inl hm)] at HCD
    rw [covers_no (.inr hm)] at HDC
    clear hm HHY HHN HFC HFD HLC HLD
    obtain ⟨ca, cb⟩ := c
    obtain ⟨da, db⟩ := d
    unfold Net.val at *
    dsimp only at *
    clear hc hd
    go_enter Tryd.func9, Tryd.ntmps9
    go_wp2_with fail
    have HXc := hide HX0.out
    have HXd := hide HY0.out
    have HBs := hide HB0.out
    clear HX0 HY0 HB0
    generalize ((w.alloc (.cells #[.int .u32 ca, .int .i64 cb] 24)).alloc (.cells #[.int .u32 da, .int .i64 db] 24)) = W0 at *
    obtain ⟨g, hg⟩ : ∃ g, w.heap.size = g := ⟨_, rfl⟩
    rw [hg] at HXc HXd ⊢
    clear hg
    have c0c := HXc.out.c0
    have c1c := HXc.out.c1
    have c0d := HXd.out.c0
    have c1d := HXd.out.c1
    refine (HMC.out _).mono ?_
    rintro e w1_ ⟨rfl, hB⟩
    clear c0c c1c c0d c1d
    have HXc1 := hide (HXc.out.below_b hB)
    have HXd1 := hide (HXd.out.below_b hB)
    have HB1_ := hide (HBs.out.trans (hB.mono HBs.out.size))
    clear hB
    have c0c := HXc1.out.c0
    have c1c := HXc1.out.c1
    have c0d := HXd1.out.c0
    have c1d := HXd1.out.c1
    go_wp2_with fail
    refine (HCD.out _).mono ?_
    rintro e w2_ ⟨rfl, hB⟩
    clear c0c c1c c0d c1d
    have HXc2 := hide (HXc1.out.below_b hB)
    have HXd2 := hide (HXd1.out.below_b hB)
    have HB2_ := hide (HB1_.out.trans (hB.mono HB1_.out.size))
    clear hB
    have c0c := HXc2.out.c0
    have c1c := HXc2.out.c1
    have c0d := HXd2.out.c0
    have c1d := HXd2.out.c1
    go_wp2_with fail
    refine (HDC.out _).mono ?_
    rintro e w3_ ⟨rfl, hB⟩
    clear c0c c1c c0d c1d
    have HXc3 := hide (HXc2.out.below_b hB)
    have HXd3 := hide (HXd2.out.below_b hB)
    have HB3_ := hide (HB2_.out.trans (hB.mono HB2_.out.size))
    clear hB
    go_wp2_with fail
    refine (awake_any _ (HE.out.below HB3_.out)).mono ?_
    rintro e w4_ ⟨rfl, hB⟩
    have HXc4 := hide (HXc3.out.below_b hB)
    have HXd4 := hide (HXd3.out.below_b hB)
    have HB4_ := hide (HB3_.out.trans (hB.mono HB3_.out.size))
    clear hB
    go_wp2_with fail
    go_ret
    exact ⟨rfl, HB4_.out⟩
  | true =>
    cases hm2 : mayB d with
    | false =>
      rw [hm] at HMC
      rw [hm2] at HMD
      rw [covers_no (.inr hm2)] at HCD
      rw [covers_no (.inl hm2)] at HDC
      clear hm hm2 HHY HHN HFC HFD HLC HLD
      obtain ⟨ca, cb⟩ := c
      obtain ⟨da, db⟩ := d
      unfold Net.val at *
      dsimp only at *
      clear hc hd
      go_enter Tryd.func9, Tryd.ntmps9
      go_wp2_with fail
      have HXc := hide HX0.out
      have HXd := hide HY0.out
      have HBs := hide HB0.out
      clear HX0 HY0 HB0
      generalize ((w.alloc (.cells #[.int .u32 ca, .int .i64 cb] 24)).alloc (.cells #[.int .u32 da, .int .i64 db] 24)) = W0 at *
      obtain ⟨g, hg⟩ : ∃ g, w.heap.size = g := ⟨_, rfl⟩
      rw [hg] at HXc HXd ⊢
      clear hg
      have c0c := HXc.out.c0
      have c1c := HXc.out.c1
      have c0d := HXd.out.c0
      have c1d := HXd.out.c1
      refine (HMC.out _).mono ?_
      rintro e w1_ ⟨rfl, hB⟩
      clear c0c c1c c0d c1d
      have HXc1 := hide (HXc.out.below_b hB)
      have HXd1 := hide (HXd.out.below_b hB)
      have HB1_ := hide (HBs.out.trans (hB.mono HBs.out.size))
      clear hB
      have c0c := HXc1.out.c0
      have c1c := HXc1.out.c1
      have c0d := HXd1.out.c0
      have c1d := HXd1.out.c1
      go_wp2_with fail
      refine (HMD.out _).mono ?_
      rintro e w2_ ⟨rfl, hB⟩
      clear c0c c1c c0d c1d
      have HXc2 := hide (HXc1.out.below_b hB)
      have HXd2 := hide (HXd1.out.below_b hB)
      have HB2_ := hide (HB1_.out.trans (hB.mono HB1_.out.size))
      clear hB
      have c0c := HXc2.out.c0
      have c1c := HXc2.out.c1
      have c0d := HXd2.out.c0
      have c1d := HXd2.out.c1
      go_wp2_with fail
      refine (HCD.out _).mono ?_
      rintro e w3_ ⟨rfl, hB⟩
      clear c0c c1c c0d c1d
      have HXc3 := hide (HXc2.out.below_b hB)
      have HXd3 := hide (HXd2.out.below_b hB)
      have HB3_ := hide (HB2_.out.trans (hB.mono HB2_.out.size))
      clear hB
      have c0c := HXc3.out.c0
      have c1c := HXc3.out.c1
      have c0d := HXd3.out.c0
      have c1d := HXd3.out.c1
      go_wp2_with fail
      refine (HDC.out _).mono ?_
      rintro e w4_ ⟨rfl, hB⟩
      clear c0c c1c c0d c1d
      have HXc4 := hide (HXc3.out.below_b hB)
      have HXd4 := hide (HXd3.out.below_b hB)
      have HB4_ := hide (HB3_.out.trans (hB.mono HB3_.out.size))
      clear hB
      go_wp2_with fail
      refine (awake_any _ (HE.out.below HB4_.out)).mono ?_
      rintro e w5_ ⟨rfl, hB⟩
      have HXc5 := hide (HXc4.out.below_b hB)
      have HXd5 := hide (HXd4.out.below_b hB)
      have HB5_ := hide (HB4_.out.trans (hB.mono HB4_.out.size))
      clear hB
      go_wp2_with fail
      go_ret
      exact ⟨rfl, HB5_.out⟩
    | true =>
      have ho := (mayB_iff c).1 hm
      have hod := (mayB_iff d).1 hm2
      have HOV := hide (over_iff ho hod)
      have HHY := HHY hm
      have HMH := hide (fun h => merge_halves ho h hc)
      have HHL := fun h => hide (halves_lt ho h hc)
      have h32 : c.b < 32 ∨ c.b = 32 := by have := ho.hi; omega
      rw [hm] at HMC HFC HLC
      rw [hm2] at HMD HFD HLD
      simp only [if_true] at HFC HFD HLC HLD
      clear hm hm2 ho hod
      generalize coversB c d = A at *
      generalize coversB d c = B at *
      generalize c.a + (sz c.b - 1) = uc at *
      generalize d.a + (sz d.b - 1) = ud at *
      have HH : (∃ hb : c.b < 32, True) ∨ Tuck (c.b = 32) := h32.elim (fun h => .inl ⟨h, trivial⟩) (fun h => .inr (Tuck.mk h))
      clear h32
      obtain ⟨ca, cb⟩ := c
      obtain ⟨da, db⟩ := d
      unfold Net.val at *
      dsimp only at *
      clear hc hd
      go_enter Tryd.func9, Tryd.ntmps9
      go_wp2_with fail
      have HXc := hide HX0.out
      have HXd := hide HY0.out
      have HBs := hide HB0.out
      clear HX0 HY0 HB0
      generalize ((w.alloc (.cells #[.int .u32 ca, .int .i64 cb] 24)).alloc (.cells #[.int .u32 da, .int .i64 db] 24)) = W0 at *
      obtain ⟨g, hg⟩ : ∃ g, w.heap.size = g := ⟨_, rfl⟩
      rw [hg] at HXc HXd ⊢
      clear hg
      have c0c := HXc.out.c0
      have c1c := HXc.out.c1
      have c0d := HXd.out.c0
      have c1d := HXd.out.c1
      refine (HMC.out _).mono ?_
      rintro e w1_ ⟨rfl, hB⟩
      clear c0c c1c c0d c1d
      have HXc1 := hide (HXc.out.below_b hB)
      have HXd1 := hide (HXd.out.below_b hB)
      have HB1_ := hide (HBs.out.trans (hB.mono HBs.out.size))
      clear hB
      have c0c := HXc1.out.c0
      have c1c := HXc1.out.c1
      have c0d := HXd1.out.c0
      have c1d := HXd1.out.c1
      go_wp2_with fail
      refine (HMD.out _).mono ?_
      rintro e w2_ ⟨rfl, hB⟩
      clear c0c c1c c0d c1d
      have HXc2 := hide (HXc1.out.below_b hB)
      have HXd2 := hide (HXd1.out.below_b hB)
      have HB2_ := hide (HB1_.out.trans (hB.mono HB1_.out.size))
      clear hB
      have c0c := HXc2.out.c0
      have c1c := HXc2.out.c1
      have c0d := HXd2.out.c0
      have c1d := HXd2.out.c1
      go_wp2_with fail
      refine (HFC.out _).mono ?_
      rintro e w3_ ⟨rfl, hB⟩
      clear c0c c1c c0d c1d
      have HXc3 := hide (HXc2.out.below_b hB)
      have HXd3 := hide (HXd2.out.below_b hB)
      have HB3_ := hide (HB2_.out.trans (hB.mono HB2_.out.size))
      clear hB
      have c0c := HXc3.out.c0
      have c1c := HXc3.out.c1
      have c0d := HXd3.out.c0
      have c1d := HXd3.out.c1
      go_wp2_with fail
      refine (HFD.out _).mono ?_
      rintro e w4_ ⟨rfl, hB⟩
      clear c0c c1c c0d c1d
      have HXc4 := hide (HXc3.out.below_b hB)
      have HXd4 := hide (HXd3.out.below_b hB)
      have HB4_ := hide (HB3_.out.trans (hB.mono HB3_.out.size))
      clear hB
      have c0c := HXc4.out.c0
      have c1c := HXc4.out.c1
      have c0d := HXd4.out.c0
      have c1d := HXd4.out.c1
      go_wp2_with fail
      refine (HLC.out _).mono ?_
      rintro e w5_ ⟨rfl, hB⟩
      clear c0c c1c c0d c1d
      have HXc5 := hide (HXc4.out.below_b hB)
      have HXd5 := hide (HXd4.out.below_b hB)
      have HB5_ := hide (HB4_.out.trans (hB.mono HB4_.out.size))
      clear hB
      have c0c := HXc5.out.c0
      have c1c := HXc5.out.c1
      have c0d := HXd5.out.c0
      have c1d := HXd5.out.c1
      go_wp2_with fail
      refine (HLD.out _).mono ?_
      rintro e w6_ ⟨rfl, hB⟩
      clear c0c c1c c0d c1d
      have HXc6 := hide (HXc5.out.below_b hB)
      have HXd6 := hide (HXd5.out.below_b hB)
      have HB6_ := hide (HB5_.out.trans (hB.mono HB5_.out.size))
      clear hB
      have hov := HOV.out
      clear HOV HFC HFD HLC HLD HMC HMD
      go_upto_region 7 with fail
      go_cut [4, 71] (fun s4 s7 W => s4 = .bool false ∧ s7 = .bool false ∧ BoxAt W g ca cb ∧ BoxAt W (g + 1) da db ∧ Below w.heap.size w W)
      case first =>
        cases A with
        | true =>
          have ho := hov.2 (by simp)
          have ho2 : max (ca : Int) (da : Int) ≤ min (uc : Int) (ud : Int) := by omega
          have c0c := HXc6.out.c0
          have c1c := HXc6.out.c1
          have c0d := HXd6.out.c0
          have c1d := HXd6.out.c1
          go_wp2_with fail
          refine (HCD.out _).mono ?_
          rintro e w7_ ⟨rfl, hB⟩
          clear c0c c1c c0d c1d
          have HXc7 := hide (HXc6.out.below_b hB)
          have HXd7 := hide (HXd6.out.below_b hB)
          have HB7_ := hide (HB6_.out.trans (hB.mono HB6_.out.size))
          clear hB
          go_wp2_with fail
          go_meet
          case rel => exact ⟨rfl, rfl, HXc7.out, HXd7.out, HB7_.out⟩
        | false =>
          cases B with
          | true =>
            have ho := hov.2 (by simp)
            have ho2 : max (ca : Int) (da : Int) ≤ min (uc : Int) (ud : Int) := by omega
            have c0c := HXc6.out.c0
            have c1c := HXc6.out.c1
            have c0d := HXd6.out.c0
            have c1d := HXd6.out.c1
            go_wp2_with fail
            refine (HCD.out _).mono ?_
            rintro e w7_ ⟨rfl, hB⟩
            clear c0c c1c c0d c1d
            have HXc7 := hide (HXc6.out.below_b hB)
            have HXd7 := hide (HXd6.out.below_b hB)
            have HB7_ := hide (HB6_.out.trans (hB.mono HB6_.out.size))
            clear hB
            have c0c := HXc7.out.c0
            have c1c := HXc7.out.c1
            have c0d := HXd7.out.c0
            have c1d := HXd7.out.c1
            go_wp2_with fail
            refine (HDC.out _).mono ?_
            rintro e w8_ ⟨rfl, hB⟩
            clear c0c c1c c0d c1d
            have HXc8 := hide (HXc7.out.below_b hB)
            have HXd8 := hide (HXd7.out.below_b hB)
            have HB8_ := hide (HB7_.out.trans (hB.mono HB7_.out.size))
            clear hB
            go_wp2_with fail
            go_meet
            case rel => exact ⟨rfl, rfl, HXc8.out, HXd8.out, HB8_.out⟩
          | false =>
            have ho : ¬ (max ca da ≤ min uc ud) := fun h => by simpa using hov.1 h
            have ho2 : ¬ max (ca : Int) (da : Int) ≤ min (uc : Int) (ud : Int) := by omega
            have c0c := HXc6.out.c0
            have c1c := HXc6.out.c1
            have c0d := HXd6.out.c0
            have c1d := HXd6.out.c1
            go_wp2_with fail
            refine (HCD.out _).mono ?_
            rintro e w7_ ⟨rfl, hB⟩
            clear c0c c1c c0d c1d
            have HXc7 := hide (HXc6.out.below_b hB)
            have HXd7 := hide (HXd6.out.below_b hB)
            have HB7_ := hide (HB6_.out.trans (hB.mono HB6_.out.size))
            clear hB
            have c0c := HXc7.out.c0
            have c1c := HXc7.out.c1
            have c0d := HXd7.out.c0
            have c1d := HXd7.out.c1
            go_wp2_with fail
            refine (HDC.out _).mono ?_
            rintro e w8_ ⟨rfl, hB⟩
            clear c0c c1c c0d c1d
            have HXc8 := hide (HXc7.out.below_b hB)
            have HXd8 := hide (HXd7.out.below_b hB)
            have HB8_ := hide (HB7_.out.trans (hB.mono HB7_.out.size))
            clear hB
            go_wp2_with fail
            go_meet
            case rel => exact ⟨rfl, rfl, HXc8.out, HXd8.out, HB8_.out⟩
      case rest =>
        obtain ⟨hs4, hs7, hxc, hxd, hbw⟩ := hcut
        subst hs4 hs7
        have HXc9 := hide hxc
        have HXd9 := hide hxd
        have HB9 := hide hbw
        clear hxc hxd hbw hov HCD HDC
        rcases HH with ⟨hb, _⟩ | hb
        rotate_left
        · have h32d : decide (cb < 32) = false := by have := hb.out; simp; omega
          have HHQ := HHN (.inr hb.out)
          clear HHN HHY HMH HHL
          have c0c := HXc9.out.c0
          have c1c := HXc9.out.c1
          go_wp2_with fail
          refine (HHQ.out _).mono ?_
          rintro e w21_ ⟨rfl, hB⟩
          clear c0c c1c
          have HXc21 := hide (HXc9.out.below_b hB)
          have HB21_ := hide (HB9.out.trans (hB.mono HB9.out.size))
          clear hB
          go_wp2_with fail
          refine wp_region_held_drew (S := fun w' => Below w21_.heap.size w21_ w') (by kernel_rfl) ((Below.refl _ _).drew) (fun hHeld => ?_)
          refine wpAnyH_take (i := 0) (oi := { dst := some 77, op := Op.move (Operand.tmp 14), type := 4, pos := "outright.go:87", after := #[], guard := none }) (v := ?_) rfl (by kernel_rfl) (by kernel_rfl) (by kernel_rfl) (fun _ _ _ h => h) (Or.inl ⟨by rfl, ?_⟩) hHeld ?_
          rotate_left
          · intro w hSw; (try dsimp only at hSw); go_simp; first | done | with_reducible rfl
          try simp only [Act.put, List.setIfInBounds_toArray, List.set_cons_zero, List.set_cons_succ]
          refine wpAnyH_take (i := 1) (oi := { dst := some 78, op := Op.fieldAddr 24 (Operand.tmp 2) 1, type := 0, pos := "outright.go:87", after := #[], guard := none }) (v := ?_) rfl (by kernel_rfl) (by kernel_rfl) (by kernel_rfl) (fun _ _ _ h => h) (Or.inl ⟨by rfl, ?_⟩) hHeld ?_
          rotate_left
          · intro w hSw; (try dsimp only at hSw); go_simp; first | done | with_reducible rfl
          try simp only [Act.put, List.setIfInBounds_toArray, List.set_cons_zero, List.set_cons_succ]
          refine wpAnyH_take (i := 2) (oi := { dst := some 79, op := Op.load 3 (Operand.tmp 78), type := 3, pos := "outright.go:87", after := #[{ on := 1, ground := Ground.data }], guard := none }) (v := ?_) rfl (by kernel_rfl) (by kernel_rfl) (by kernel_rfl) (fun _ _ _ h => h) (Or.inl ⟨by rfl, ?_⟩) hHeld ?_
          rotate_left
          · intro w hSw; (try dsimp only at hSw); have e0 := (hSw.cell (p := ⟨g, 0, none⟩) HXc21.out.lt).trans HXc21.out.c0; have e1 := (hSw.cell (p := ⟨g, 1, none⟩) HXc21.out.lt).trans HXc21.out.c1; go_simp; first | done | with_reducible rfl
          try simp only [Act.put, List.setIfInBounds_toArray, List.set_cons_zero, List.set_cons_succ]
          refine wpAnyH_take (i := 3) (oi := { dst := some 80, op := Op.binOp BinOp.lss 3 (Operand.tmp 79) (Operand.const (Value.int IntKind.i64 32)) 3, type := 4, pos := "outright.go:87", after := #[{ on := 2, ground := Ground.data }], guard := none }) (v := ?_) rfl (by kernel_rfl) (by kernel_rfl) (by kernel_rfl) (fun _ _ _ h => h) (Or.inl ⟨by rfl, ?_⟩) hHeld ?_
          rotate_left
          · intro w hSw; (try dsimp only at hSw); go_simp; first | done | with_reducible rfl
          try simp only [Act.put, List.setIfInBounds_toArray, List.set_cons_zero, List.set_cons_succ]
          refine wpAnyH_take (i := 4) (oi := { dst := some 81, op := Op.binOp BinOp.eql 4 (Operand.tmp 77) (Operand.tmp 80) 4, type := 4, pos := "outright.go:87", after := #[{ on := 0, ground := Ground.data }, { on := 3, ground := Ground.data }], guard := none }) (v := ?_) rfl (by kernel_rfl) (by kernel_rfl) (by kernel_rfl) (fun _ _ _ h => h) (Or.inl ⟨by rfl, ?_⟩) hHeld ?_
          rotate_left
          · intro w hSw; (try dsimp only at hSw); have h := h32d; go_simp; first | done | with_reducible rfl
          try simp only [Act.put, List.setIfInBounds_toArray, List.set_cons_zero, List.set_cons_succ]
          refine wpAnyH_take (i := 5) (oi := { dst := some 82, op := Op.move (Operand.tmp 81), type := 4, pos := "outright.go:87", after := #[{ on := 4, ground := Ground.data }], guard := none }) (v := ?_) rfl (by kernel_rfl) (by kernel_rfl) (by kernel_rfl) (fun _ _ _ h => h) (Or.inl ⟨by rfl, ?_⟩) hHeld ?_
          rotate_left
          · intro w hSw; (try dsimp only at hSw); go_simp; first | done | with_reducible rfl
          try simp only [Act.put, List.setIfInBounds_toArray, List.set_cons_zero, List.set_cons_succ]
          refine wpAnyH_take (i := 6) (oi := { dst := some 83, op := Op.move (Operand.tmp 14), type := 4, pos := "outright.go:87", after := #[{ on := 5, ground := Ground.guard }], guard := some (5, true) }) (v := ?_) rfl (by kernel_rfl) (by kernel_rfl) (by kernel_rfl) (fun _ _ _ h => h) (Or.inl ⟨by rfl, ?_⟩) hHeld ?_
          rotate_left
          · intro w hSw; (try dsimp only at hSw); go_simp; first | done | with_reducible rfl
          try simp only [Act.put, List.setIfInBounds_toArray, List.set_cons_zero, List.set_cons_succ]
          refine wpAnyH_take (i := 7) (oi := { dst := some 84, op := Op.unOp UnOp.not 4 (Operand.tmp 83), type := 4, pos := "outright.go:87", after := #[{ on := 6, ground := Ground.data }, { on := 5, ground := Ground.guard }], guard := some (5, true) }) (v := ?_) rfl (by kernel_rfl) (by kernel_rfl) (by kernel_rfl) (fun _ _ _ h => h) (Or.inl ⟨by rfl, ?_⟩) hHeld ?_
          rotate_left
          · intro w hSw; (try dsimp only at hSw); go_simp; first | done | with_reducible rfl
          try simp only [Act.put, List.setIfInBounds_toArray, List.set_cons_zero, List.set_cons_succ]
          refine wpAnyH_take (i := 8) (oi := { dst := some 85, op := Op.move (Operand.tmp 84), type := 4, pos := "outright.go:87", after := #[{ on := 7, ground := Ground.data }, { on := 5, ground := Ground.chain }, { on := 5, ground := Ground.guard }], guard := some (5, true) }) (v := ?_) rfl (by kernel_rfl) (by kernel_rfl) (by kernel_rfl) (fun _ _ _ h => h) (Or.inl ⟨by rfl, ?_⟩) hHeld ?_
          rotate_left
          · intro w hSw; (try dsimp only at hSw); go_simp; first | done | with_reducible rfl
          try simp only [Act.put, List.setIfInBounds_toArray, List.set_cons_zero, List.set_cons_succ]
          refine wpAnyH_take (i := 9) (oi := { dst := some 86, op := Op.move (Operand.tmp 13), type := 37, pos := "outright.go:87", after := #[{ on := 8, ground := Ground.guard }], guard := some (8, false) }) (v := undef) rfl (by kernel_rfl) (by kernel_rfl) (by kernel_rfl) (fun _ _ _ h => h) (Or.inr ⟨by rfl, rfl⟩) hHeld ?_
          try simp only [Act.put, List.setIfInBounds_toArray, List.set_cons_zero, List.set_cons_succ]
          refine wpAnyH_take (i := 10) (oi := { dst := some 87, op := Op.call { callee := Callee.value (Operand.func 32), args := #[Operand.tmp 86], argTypes := #[37] }, type := 37, pos := "outright.go:87", after := #[{ on := 9, ground := Ground.data }, { on := 8, ground := Ground.chain }, { on := 8, ground := Ground.guard }], guard := some (8, false) }) (v := undef) rfl (by kernel_rfl) (by kernel_rfl) (by kernel_rfl) (fun _ _ _ h => h) (Or.inr ⟨by rfl, rfl⟩) hHeld ?_
          try simp only [Act.put, List.setIfInBounds_toArray, List.set_cons_zero, List.set_cons_succ]
          refine wpAnyH_take (i := 11) (oi := { dst := some 88, op := Op.load 24 (Operand.tmp 2), type := 24, pos := "outright.go:87", after := #[{ on := 8, ground := Ground.guard }], guard := some (8, false) }) (v := undef) rfl (by kernel_rfl) (by kernel_rfl) (by kernel_rfl) (fun _ _ _ h => h) (Or.inr ⟨by rfl, rfl⟩) hHeld ?_
          try simp only [Act.put, List.setIfInBounds_toArray, List.set_cons_zero, List.set_cons_succ]
          refine wpAnyH_take (i := 12) (oi := { dst := some 89, op := Op.buildSlice 37 1 #[(0, Operand.tmp 88)], type := 37, pos := "outright.go:87", after := #[{ on := 11, ground := Ground.data }, { on := 8, ground := Ground.guard }], guard := some (8, false) }) (v := undef) rfl (by kernel_rfl) (by kernel_rfl) (by kernel_rfl) (fun _ _ _ h => h) (Or.inr ⟨by rfl, rfl⟩) hHeld ?_
          try simp only [Act.put, List.setIfInBounds_toArray, List.set_cons_zero, List.set_cons_succ]
          refine wpAnyH_take (i := 13) (oi := { dst := some 90, op := Op.call { callee := Callee.value (Operand.func 33), args := #[Operand.tmp 87, Operand.tmp 89], argTypes := #[37, 37] }, type := 4, pos := "outright.go:87", after := #[{ on := 10, ground := Ground.data }, { on := 12, ground := Ground.data }, { on := 10, ground := Ground.chain }, { on := 8, ground := Ground.guard }], guard := some (8, false) }) (v := undef) rfl (by kernel_rfl) (by kernel_rfl) (by kernel_rfl) (fun _ _ _ h => h) (Or.inr ⟨by rfl, rfl⟩) hHeld ?_
          try simp only [Act.put, List.setIfInBounds_toArray, List.set_cons_zero, List.set_cons_succ]
          refine wpAnyH_take (i := 14) (oi := { dst := some 91, op := Op.pick (Operand.tmp 85) (Operand.const (Value.bool true)) (Operand.tmp 90), type := 4, pos := "outright.go:87", after := #[{ on := 8, ground := Ground.data }, { on := 13, ground := Ground.data }, { on := 5, ground := Ground.guard }], guard := some (5, true) }) (v := ?_) rfl (by kernel_rfl) (by kernel_rfl) (by kernel_rfl) (fun _ _ _ h => h) (Or.inl ⟨by rfl, ?_⟩) hHeld ?_
          rotate_left
          · intro w hSw; (try dsimp only at hSw); go_simp; first | done | with_reducible rfl
          try simp only [Act.put, List.setIfInBounds_toArray, List.set_cons_zero, List.set_cons_succ]
          refine wpAnyH_take (i := 15) (oi := { dst := some 92, op := Op.pick (Operand.tmp 82) (Operand.tmp 91) (Operand.const (Value.bool false)), type := 4, pos := "outright.go:87", after := #[{ on := 5, ground := Ground.data }, { on := 14, ground := Ground.data }], guard := none }) (v := ?_) rfl (by kernel_rfl) (by kernel_rfl) (by kernel_rfl) (fun _ _ _ h => h) (Or.inl ⟨by rfl, ?_⟩) hHeld ?_
          rotate_left
          · intro w hSw; (try dsimp only at hSw); go_simp; first | done | with_reducible rfl
          try simp only [Act.put, List.setIfInBounds_toArray, List.set_cons_zero, List.set_cons_succ]
          refine wpAnyH_take (i := 16) (oi := { dst := some 93, op := Op.move (Operand.tmp 92), type := 4, pos := "outright.go:87", after := #[{ on := 15, ground := Ground.data }, { on := 13, ground := Ground.chain }], guard := none }) (v := ?_) rfl (by kernel_rfl) (by kernel_rfl) (by kernel_rfl) (fun _ _ _ h => h) (Or.inl ⟨by rfl, ?_⟩) hHeld ?_
          rotate_left
          · intro w hSw; (try dsimp only at hSw); go_simp; first | done | with_reducible rfl
          try simp only [Act.put, List.setIfInBounds_toArray, List.set_cons_zero, List.set_cons_succ]
          refine wpAnyH_ready (rs := [17]) (by kernel_rfl) (by simp) ?_
          refine AllReadyH.cons (o := { dst := some 94, op := Op.call { callee := Callee.value (Operand.func 10), args := #[], argTypes := #[] }, type := 4, pos := "outright.go:87", after := #[{ on := 16, ground := Ground.chain }, { on := 16, ground := Ground.guard }], guard := some (16, true) }) rfl (fun K hK => ?_) AllReadyH.nil
          clear hHeld
          go_simp
          refine (awake_any _ (HE.out.below (HB21_.out.trans (((Below.refl w21_.heap.size w21_).drew).mono HB21_.out.size)))).mono ?_
          rintro e wr1 ⟨rfl, hB⟩
          have HR1 := hide (((Below.refl w21_.heap.size w21_).drew).trans (hB.mono ((Below.refl w21_.heap.size w21_).drew).size))
          clear hB
          refine hK.out _ _ (HR1.out) (fun hHeld => ?_)
          clear hK K
          try simp only [Act.put, List.setIfInBounds_toArray, List.set_cons_zero, List.set_cons_succ]
          refine wpAnyH_take (i := 18) (oi := { dst := some 95, op := Op.pick (Operand.tmp 93) (Operand.tmp 94) (Operand.const (Value.bool false)), type := 4, pos := "outright.go:87", after := #[{ on := 16, ground := Ground.data }, { on := 17, ground := Ground.data }], guard := none }) (v := ?_) rfl (by kernel_rfl) (by kernel_rfl) (by kernel_rfl) (fun _ _ _ h => h) (Or.inl ⟨by rfl, ?_⟩) hHeld ?_
          rotate_left
          · intro w hSw; (try dsimp only at hSw); go_simp; first | done | with_reducible rfl
          try simp only [Act.put, List.setIfInBounds_toArray, List.set_cons_zero, List.set_cons_succ]
          refine wpAnyH_take (i := 19) (oi := { dst := some 4, op := Op.assign (Operand.tmp 95), type := 4, pos := "outright.go:87", after := #[{ on := 18, ground := Ground.data }, { on := 17, ground := Ground.chain }, { on := 0, ground := Ground.phase }, { on := 1, ground := Ground.phase }, { on := 2, ground := Ground.phase }, { on := 3, ground := Ground.phase }, { on := 4, ground := Ground.phase }, { on := 5, ground := Ground.phase }, { on := 6, ground := Ground.phase }, { on := 7, ground := Ground.phase }, { on := 8, ground := Ground.phase }, { on := 9, ground := Ground.phase }, { on := 10, ground := Ground.phase }, { on := 11, ground := Ground.phase }, { on := 12, ground := Ground.phase }, { on := 13, ground := Ground.phase }, { on := 14, ground := Ground.phase }, { on := 15, ground := Ground.phase }, { on := 16, ground := Ground.phase }, { on := 17, ground := Ground.phase }, { on := 18, ground := Ground.phase }], guard := none }) (v := ?_) rfl (by kernel_rfl) (by kernel_rfl) (by kernel_rfl) (fun _ _ _ h => h) (Or.inl ⟨by rfl, ?_⟩) hHeld ?_
          rotate_left
          · intro w hSw; (try dsimp only at hSw); go_simp; first | done | with_reducible rfl
          try simp only [Act.put, List.setIfInBounds_toArray, List.set_cons_zero, List.set_cons_succ]
          refine wpAnyH_done (by kernel_rfl) ?_ _
          clear hHeld
          go_wp2_with fail
          go_ret
          exact ⟨rfl, HB21_.out.trans (HR1.out.mono HB21_.out.size)⟩
        · have h32d : decide (cb < 32) = true := by simpa using hb
          have HHQ := HHY hb
          have hmh := HMH.out hb
          have hhl := (HHL hb).out
          clear HHN HHY HMH HHL
          have c0c := HXc9.out.c0
          have c1c := HXc9.out.c1
          go_wp2_with fail
          refine (HHQ.out _).mono ?_
          rintro e w9_ ⟨vl, rfl, hrow, hB⟩
          have HROW := hide hrow.cAt
          clear c0c c1c
          have HXc21 := hide (HXc9.out.below_b hB)
          have HB21_ := hide (HB9.out.trans (hB.mono HB9.out.size))
          clear hB hrow
          have HMG := hide (fun W h => merge_any vl [lowOf ⟨ca, cb⟩, highOf ⟨ca, cb⟩] W h (by simp [hhl.1, hhl.2]) (by simp))
          unfold MergePost at HMG
          rw [hmh] at HMG
          clear hmh hhl
          go_wp2_with fail
          refine wp_region_held_drew (S := fun w' => Below w9_.heap.size w9_ w') (by kernel_rfl) ((Below.refl _ _).drew) (fun hHeld => ?_)
          refine wpAnyH_take (i := 0) (oi := { dst := some 77, op := Op.move (Operand.tmp 14), type := 4, pos := "outright.go:87", after := #[], guard := none }) (v := ?_) rfl (by kernel_rfl) (by kernel_rfl) (by kernel_rfl) (fun _ _ _ h => h) (Or.inl ⟨by rfl, ?_⟩) hHeld ?_
          rotate_left
          · intro w hSw; (try dsimp only at hSw); go_simp; first | done | with_reducible rfl
          try simp only [Act.put, List.setIfInBounds_toArray, List.set_cons_zero, List.set_cons_succ]
          refine wpAnyH_take (i := 1) (oi := { dst := some 78, op := Op.fieldAddr 24 (Operand.tmp 2) 1, type := 0, pos := "outright.go:87", after := #[], guard := none }) (v := ?_) rfl (by kernel_rfl) (by kernel_rfl) (by kernel_rfl) (fun _ _ _ h => h) (Or.inl ⟨by rfl, ?_⟩) hHeld ?_
          rotate_left
          · intro w hSw; (try dsimp only at hSw); go_simp; first | done | with_reducible rfl
          try simp only [Act.put, List.setIfInBounds_toArray, List.set_cons_zero, List.set_cons_succ]
          refine wpAnyH_take (i := 2) (oi := { dst := some 79, op := Op.load 3 (Operand.tmp 78), type := 3, pos := "outright.go:87", after := #[{ on := 1, ground := Ground.data }], guard := none }) (v := ?_) rfl (by kernel_rfl) (by kernel_rfl) (by kernel_rfl) (fun _ _ _ h => h) (Or.inl ⟨by rfl, ?_⟩) hHeld ?_
          rotate_left
          · intro w hSw; (try dsimp only at hSw); have e0 := (hSw.cell (p := ⟨g, 0, none⟩) HXc21.out.lt).trans HXc21.out.c0; have e1 := (hSw.cell (p := ⟨g, 1, none⟩) HXc21.out.lt).trans HXc21.out.c1; go_simp; first | done | with_reducible rfl
          try simp only [Act.put, List.setIfInBounds_toArray, List.set_cons_zero, List.set_cons_succ]
          refine wpAnyH_take (i := 3) (oi := { dst := some 80, op := Op.binOp BinOp.lss 3 (Operand.tmp 79) (Operand.const (Value.int IntKind.i64 32)) 3, type := 4, pos := "outright.go:87", after := #[{ on := 2, ground := Ground.data }], guard := none }) (v := ?_) rfl (by kernel_rfl) (by kernel_rfl) (by kernel_rfl) (fun _ _ _ h => h) (Or.inl ⟨by rfl, ?_⟩) hHeld ?_
          rotate_left
          · intro w hSw; (try dsimp only at hSw); go_simp; first | done | with_reducible rfl
          try simp only [Act.put, List.setIfInBounds_toArray, List.set_cons_zero, List.set_cons_succ]
          refine wpAnyH_take (i := 4) (oi := { dst := some 81, op := Op.binOp BinOp.eql 4 (Operand.tmp 77) (Operand.tmp 80) 4, type := 4, pos := "outright.go:87", after := #[{ on := 0, ground := Ground.data }, { on := 3, ground := Ground.data }], guard := none }) (v := ?_) rfl (by kernel_rfl) (by kernel_rfl) (by kernel_rfl) (fun _ _ _ h => h) (Or.inl ⟨by rfl, ?_⟩) hHeld ?_
          rotate_left
          · intro w hSw; (try dsimp only at hSw); have h := h32d; go_simp; first | done | with_reducible rfl
          try simp only [Act.put, List.setIfInBounds_toArray, List.set_cons_zero, List.set_cons_succ]
          refine wpAnyH_take (i := 5) (oi := { dst := some 82, op := Op.move (Operand.tmp 81), type := 4, pos := "outright.go:87", after := #[{ on := 4, ground := Ground.data }], guard := none }) (v := ?_) rfl (by kernel_rfl) (by kernel_rfl) (by kernel_rfl) (fun _ _ _ h => h) (Or.inl ⟨by rfl, ?_⟩) hHeld ?_
          rotate_left
          · intro w hSw; (try dsimp only at hSw); go_simp; first | done | with_reducible rfl
          try simp only [Act.put, List.setIfInBounds_toArray, List.set_cons_zero, List.set_cons_succ]
          refine wpAnyH_take (i := 6) (oi := { dst := some 83, op := Op.move (Operand.tmp 14), type := 4, pos := "outright.go:87", after := #[{ on := 5, ground := Ground.guard }], guard := some (5, true) }) (v := ?_) rfl (by kernel_rfl) (by kernel_rfl) (by kernel_rfl) (fun _ _ _ h => h) (Or.inl ⟨by rfl, ?_⟩) hHeld ?_
          rotate_left
          · intro w hSw; (try dsimp only at hSw); go_simp; first | done | with_reducible rfl
          try simp only [Act.put, List.setIfInBounds_toArray, List.set_cons_zero, List.set_cons_succ]
          refine wpAnyH_take (i := 7) (oi := { dst := some 84, op := Op.unOp UnOp.not 4 (Operand.tmp 83), type := 4, pos := "outright.go:87", after := #[{ on := 6, ground := Ground.data }, { on := 5, ground := Ground.guard }], guard := some (5, true) }) (v := ?_) rfl (by kernel_rfl) (by kernel_rfl) (by kernel_rfl) (fun _ _ _ h => h) (Or.inl ⟨by rfl, ?_⟩) hHeld ?_
          rotate_left
          · intro w hSw; (try dsimp only at hSw); go_simp; first | done | with_reducible rfl
          try simp only [Act.put, List.setIfInBounds_toArray, List.set_cons_zero, List.set_cons_succ]
          refine wpAnyH_take (i := 8) (oi := { dst := some 85, op := Op.move (Operand.tmp 84), type := 4, pos := "outright.go:87", after := #[{ on := 7, ground := Ground.data }, { on := 5, ground := Ground.chain }, { on := 5, ground := Ground.guard }], guard := some (5, true) }) (v := ?_) rfl (by kernel_rfl) (by kernel_rfl) (by kernel_rfl) (fun _ _ _ h => h) (Or.inl ⟨by rfl, ?_⟩) hHeld ?_
          rotate_left
          · intro w hSw; (try dsimp only at hSw); go_simp; first | done | with_reducible rfl
          try simp only [Act.put, List.setIfInBounds_toArray, List.set_cons_zero, List.set_cons_succ]
          refine wpAnyH_take (i := 9) (oi := { dst := some 86, op := Op.move (Operand.tmp 13), type := 37, pos := "outright.go:87", after := #[{ on := 8, ground := Ground.guard }], guard := some (8, false) }) (v := ?_) rfl (by kernel_rfl) (by kernel_rfl) (by kernel_rfl) (fun _ _ _ h => h) (Or.inl ⟨by rfl, ?_⟩) hHeld ?_
          rotate_left
          · intro w hSw; (try dsimp only at hSw); go_simp; first | done | with_reducible rfl
          try simp only [Act.put, List.setIfInBounds_toArray, List.set_cons_zero, List.set_cons_succ]
          refine wpAnyH_take (i := 11) (oi := { dst := some 88, op := Op.load 24 (Operand.tmp 2), type := 24, pos := "outright.go:87", after := #[{ on := 8, ground := Ground.guard }], guard := some (8, false) }) (v := ?_) rfl (by kernel_rfl) (by kernel_rfl) (by kernel_rfl) (fun _ _ _ h => h) (Or.inl ⟨by rfl, ?_⟩) hHeld ?_
          rotate_left
          · intro w hSw; (try dsimp only at hSw); have e0 := (hSw.cell (p := ⟨g, 0, none⟩) HXc21.out.lt).trans HXc21.out.c0; have e1 := (hSw.cell (p := ⟨g, 1, none⟩) HXc21.out.lt).trans HXc21.out.c1; go_simp; first | done | with_reducible rfl
          try simp only [Act.put, List.setIfInBounds_toArray, List.set_cons_zero, List.set_cons_succ]
          refine wpAnyH_ready (rs := [10, 12]) (by kernel_rfl) (by simp) ?_
          refine AllReadyH.cons (o := { dst := some 87, op := Op.call { callee := Callee.value (Operand.func 32), args := #[Operand.tmp 86], argTypes := #[37] }, type := 37, pos := "outright.go:87", after := #[{ on := 9, ground := Ground.data }, { on := 8, ground := Ground.chain }, { on := 8, ground := Ground.guard }], guard := some (8, false) }) rfl (fun K hK => ?_) (AllReadyH.cons (o := { dst := some 89, op := Op.buildSlice 37 1 #[(0, Operand.tmp 88)], type := 37, pos := "outright.go:87", after := #[{ on := 11, ground := Ground.data }, { on := 8, ground := Ground.guard }], guard := some (8, false) }) rfl (fun K hK => ?_) AllReadyH.nil)
          · clear hHeld
            go_simp
            refine (HMG.out _ (HROW.out.below ((Below.refl w9_.heap.size w9_).drew))).mono ?_
            rintro e w5 ⟨v5, rfl, hR5, hB5⟩
            have HB5 := hide (((Below.refl w9_.heap.size w9_).drew).trans (hB5.mono ((Below.refl w9_.heap.size w9_).drew).size))
            have HV5 := hide hR5.cAt
            clear hR5 hB5
            refine hK.out _ _ (HB5.out) (fun hHeld => ?_)
            clear hK K
            try simp only [Act.put, List.setIfInBounds_toArray, List.set_cons_zero, List.set_cons_succ]
            refine wpAnyH_ready (rs := [12]) (by kernel_rfl) (by simp) ?_
            refine AllReadyH.cons (o := { dst := some 89, op := Op.buildSlice 37 1 #[(0, Operand.tmp 88)], type := 37, pos := "outright.go:87", after := #[{ on := 11, ground := Ground.data }, { on := 8, ground := Ground.guard }], guard := some (8, false) }) rfl (fun K hK => ?_) AllReadyH.nil
            clear hHeld
            go_simp
            have HU5 := hide (box_row _ w5.heap.size ⟨ca, cb⟩ (heap_alloc_new w5 (.cells #[.int .u32 (ca : Nat), .int .i64 cb] 24)) 1)
            have HB6 := hide (HB5.out.alloc HB5.out.size (.cells #[.int .u32 (ca : Nat), .int .i64 cb] 24))
            have HV6 := hide (HV5.out.below ((Below.refl w5.heap.size w5).alloc (Nat.le_refl _) (.cells #[.int .u32 (ca : Nat), .int .i64 cb] 24)))
            refine hK.out _ _ (HB6.out) (fun hHeld => ?_)
            clear hK K
            try simp only [Act.put, List.setIfInBounds_toArray, List.set_cons_zero, List.set_cons_succ]
            refine wpAnyH_ready (rs := [13]) (by kernel_rfl) (by simp) ?_
            refine AllReadyH.cons (o := { dst := some 90, op := Op.call { callee := Callee.value (Operand.func 33), args := #[Operand.tmp 87, Operand.tmp 89], argTypes := #[37, 37] }, type := 4, pos := "outright.go:87", after := #[{ on := 10, ground := Ground.data }, { on := 12, ground := Ground.data }, { on := 10, ground := Ground.chain }, { on := 8, ground := Ground.guard }], guard := some (8, false) }) rfl (fun K hK => ?_) AllReadyH.nil
            clear hHeld
            go_simp
            refine (same_self _ _ _ _ HV6.out HU5.out (by simp)).mono ?_
            rintro e w7 ⟨rfl, hB⟩
            have HB7 := hide (HB6.out.trans (hB.mono HB6.out.size))
            clear hB
            refine hK.out _ _ (HB7.out) (fun hHeld => ?_)
            clear hK K
            try simp only [Act.put, List.setIfInBounds_toArray, List.set_cons_zero, List.set_cons_succ]
            refine wpAnyH_take (i := 14) (oi := { dst := some 91, op := Op.pick (Operand.tmp 85) (Operand.const (Value.bool true)) (Operand.tmp 90), type := 4, pos := "outright.go:87", after := #[{ on := 8, ground := Ground.data }, { on := 13, ground := Ground.data }, { on := 5, ground := Ground.guard }], guard := some (5, true) }) (v := ?_) rfl (by kernel_rfl) (by kernel_rfl) (by kernel_rfl) (fun _ _ _ h => h) (Or.inl ⟨by rfl, ?_⟩) hHeld ?_
            rotate_left
            · intro w hSw; (try dsimp only at hSw); go_simp; first | done | with_reducible rfl
            try simp only [Act.put, List.setIfInBounds_toArray, List.set_cons_zero, List.set_cons_succ]
            refine wpAnyH_take (i := 15) (oi := { dst := some 92, op := Op.pick (Operand.tmp 82) (Operand.tmp 91) (Operand.const (Value.bool false)), type := 4, pos := "outright.go:87", after := #[{ on := 5, ground := Ground.data }, { on := 14, ground := Ground.data }], guard := none }) (v := ?_) rfl (by kernel_rfl) (by kernel_rfl) (by kernel_rfl) (fun _ _ _ h => h) (Or.inl ⟨by rfl, ?_⟩) hHeld ?_
            rotate_left
            · intro w hSw; (try dsimp only at hSw); go_simp; first | done | with_reducible rfl
            try simp only [Act.put, List.setIfInBounds_toArray, List.set_cons_zero, List.set_cons_succ]
            refine wpAnyH_take (i := 16) (oi := { dst := some 93, op := Op.move (Operand.tmp 92), type := 4, pos := "outright.go:87", after := #[{ on := 15, ground := Ground.data }, { on := 13, ground := Ground.chain }], guard := none }) (v := ?_) rfl (by kernel_rfl) (by kernel_rfl) (by kernel_rfl) (fun _ _ _ h => h) (Or.inl ⟨by rfl, ?_⟩) hHeld ?_
            rotate_left
            · intro w hSw; (try dsimp only at hSw); go_simp; first | done | with_reducible rfl
            try simp only [Act.put, List.setIfInBounds_toArray, List.set_cons_zero, List.set_cons_succ]
            refine wpAnyH_ready (rs := [17]) (by kernel_rfl) (by simp) ?_
            refine AllReadyH.cons (o := { dst := some 94, op := Op.call { callee := Callee.value (Operand.func 10), args := #[], argTypes := #[] }, type := 4, pos := "outright.go:87", after := #[{ on := 16, ground := Ground.chain }, { on := 16, ground := Ground.guard }], guard := some (16, true) }) rfl (fun K hK => ?_) AllReadyH.nil
            clear hHeld
            go_simp
            refine (awake_any _ (HE.out.below (HB21_.out.trans (HB7.out.mono HB21_.out.size)))).mono ?_
            rintro e w8 ⟨rfl, hB⟩
            have HB8 := hide (HB7.out.trans (hB.mono HB7.out.size))
            clear hB
            refine hK.out _ _ (HB8.out) (fun hHeld => ?_)
            clear hK K
            try simp only [Act.put, List.setIfInBounds_toArray, List.set_cons_zero, List.set_cons_succ]
            refine wpAnyH_take (i := 18) (oi := { dst := some 95, op := Op.pick (Operand.tmp 93) (Operand.tmp 94) (Operand.const (Value.bool false)), type := 4, pos := "outright.go:87", after := #[{ on := 16, ground := Ground.data }, { on := 17, ground := Ground.data }], guard := none }) (v := ?_) rfl (by kernel_rfl) (by kernel_rfl) (by kernel_rfl) (fun _ _ _ h => h) (Or.inl ⟨by rfl, ?_⟩) hHeld ?_
            rotate_left
            · intro w hSw; (try dsimp only at hSw); go_simp; first | done | with_reducible rfl
            try simp only [Act.put, List.setIfInBounds_toArray, List.set_cons_zero, List.set_cons_succ]
            refine wpAnyH_take (i := 19) (oi := { dst := some 4, op := Op.assign (Operand.tmp 95), type := 4, pos := "outright.go:87", after := #[{ on := 18, ground := Ground.data }, { on := 17, ground := Ground.chain }, { on := 0, ground := Ground.phase }, { on := 1, ground := Ground.phase }, { on := 2, ground := Ground.phase }, { on := 3, ground := Ground.phase }, { on := 4, ground := Ground.phase }, { on := 5, ground := Ground.phase }, { on := 6, ground := Ground.phase }, { on := 7, ground := Ground.phase }, { on := 8, ground := Ground.phase }, { on := 9, ground := Ground.phase }, { on := 10, ground := Ground.phase }, { on := 11, ground := Ground.phase }, { on := 12, ground := Ground.phase }, { on := 13, ground := Ground.phase }, { on := 14, ground := Ground.phase }, { on := 15, ground := Ground.phase }, { on := 16, ground := Ground.phase }, { on := 17, ground := Ground.phase }, { on := 18, ground := Ground.phase }], guard := none }) (v := ?_) rfl (by kernel_rfl) (by kernel_rfl) (by kernel_rfl) (fun _ _ _ h => h) (Or.inl ⟨by rfl, ?_⟩) hHeld ?_
            rotate_left
            · intro w hSw; (try dsimp only at hSw); go_simp; first | done | with_reducible rfl
            try simp only [Act.put, List.setIfInBounds_toArray, List.set_cons_zero, List.set_cons_succ]
            refine wpAnyH_done (by kernel_rfl) ?_ _
            clear hHeld
            go_wp2_with fail
            go_ret
            exact ⟨rfl, HB21_.out.trans (HB8.out.mono HB21_.out.size)⟩
          · clear hHeld
            go_simp
            have HU := hide (show CAt (w9_.alloc (.cells #[.int .u32 (ca : Nat), .int .i64 cb] 24)).drew (.slice (some ⟨w9_.heap.size, 0, none⟩) 1 1) [⟨ca, cb⟩] from box_row _ w9_.heap.size ⟨ca, cb⟩ (heap_alloc_new w9_ (.cells #[.int .u32 (ca : Nat), .int .i64 cb] 24)) 1)
            have HBb := hide (((Below.refl w9_.heap.size w9_).alloc (Nat.le_refl _) (.cells #[.int .u32 (ca : Nat), .int .i64 cb] 24)).drew)
            generalize (w9_.alloc (.cells #[.int .u32 (ca : Nat), .int .i64 cb] 24)).drew = Wb at *
            refine hK.out _ _ (HBb.out) (fun hHeld => ?_)
            clear hK K
            try simp only [Act.put, List.setIfInBounds_toArray, List.set_cons_zero, List.set_cons_succ]
            refine wpAnyH_ready (rs := [10]) (by kernel_rfl) (by simp) ?_
            refine AllReadyH.cons (o := { dst := some 87, op := Op.call { callee := Callee.value (Operand.func 32), args := #[Operand.tmp 86], argTypes := #[37] }, type := 37, pos := "outright.go:87", after := #[{ on := 9, ground := Ground.data }, { on := 8, ground := Ground.chain }, { on := 8, ground := Ground.guard }], guard := some (8, false) }) rfl (fun K hK => ?_) AllReadyH.nil
            clear hHeld
            go_simp
            refine (HMG.out _ (HROW.out.below HBb.out)).mono ?_
            rintro e w5 ⟨v5, rfl, hR5, hB5⟩
            have HB5 := hide (HBb.out.trans (hB5.mono HBb.out.size))
            have HV5 := hide hR5.cAt
            have HU5 := hide (HU.out.below hB5)
            clear hR5 hB5
            refine hK.out _ _ (HB5.out) (fun hHeld => ?_)
            clear hK K
            try simp only [Act.put, List.setIfInBounds_toArray, List.set_cons_zero, List.set_cons_succ]
            refine wpAnyH_ready (rs := [13]) (by kernel_rfl) (by simp) ?_
            refine AllReadyH.cons (o := { dst := some 90, op := Op.call { callee := Callee.value (Operand.func 33), args := #[Operand.tmp 87, Operand.tmp 89], argTypes := #[37, 37] }, type := 4, pos := "outright.go:87", after := #[{ on := 10, ground := Ground.data }, { on := 12, ground := Ground.data }, { on := 10, ground := Ground.chain }, { on := 8, ground := Ground.guard }], guard := some (8, false) }) rfl (fun K hK => ?_) AllReadyH.nil
            clear hHeld
            go_simp
            refine (same_self _ _ _ _ HV5.out HU5.out (by simp)).mono ?_
            rintro e w7 ⟨rfl, hB⟩
            have HB7 := hide (HB5.out.trans (hB.mono HB5.out.size))
            clear hB
            refine hK.out _ _ (HB7.out) (fun hHeld => ?_)
            clear hK K
            try simp only [Act.put, List.setIfInBounds_toArray, List.set_cons_zero, List.set_cons_succ]
            refine wpAnyH_take (i := 14) (oi := { dst := some 91, op := Op.pick (Operand.tmp 85) (Operand.const (Value.bool true)) (Operand.tmp 90), type := 4, pos := "outright.go:87", after := #[{ on := 8, ground := Ground.data }, { on := 13, ground := Ground.data }, { on := 5, ground := Ground.guard }], guard := some (5, true) }) (v := ?_) rfl (by kernel_rfl) (by kernel_rfl) (by kernel_rfl) (fun _ _ _ h => h) (Or.inl ⟨by rfl, ?_⟩) hHeld ?_
            rotate_left
            · intro w hSw; (try dsimp only at hSw); go_simp; first | done | with_reducible rfl
            try simp only [Act.put, List.setIfInBounds_toArray, List.set_cons_zero, List.set_cons_succ]
            refine wpAnyH_take (i := 15) (oi := { dst := some 92, op := Op.pick (Operand.tmp 82) (Operand.tmp 91) (Operand.const (Value.bool false)), type := 4, pos := "outright.go:87", after := #[{ on := 5, ground := Ground.data }, { on := 14, ground := Ground.data }], guard := none }) (v := ?_) rfl (by kernel_rfl) (by kernel_rfl) (by kernel_rfl) (fun _ _ _ h => h) (Or.inl ⟨by rfl, ?_⟩) hHeld ?_
            rotate_left
            · intro w hSw; (try dsimp only at hSw); go_simp; first | done | with_reducible rfl
            try simp only [Act.put, List.setIfInBounds_toArray, List.set_cons_zero, List.set_cons_succ]
            refine wpAnyH_take (i := 16) (oi := { dst := some 93, op := Op.move (Operand.tmp 92), type := 4, pos := "outright.go:87", after := #[{ on := 15, ground := Ground.data }, { on := 13, ground := Ground.chain }], guard := none }) (v := ?_) rfl (by kernel_rfl) (by kernel_rfl) (by kernel_rfl) (fun _ _ _ h => h) (Or.inl ⟨by rfl, ?_⟩) hHeld ?_
            rotate_left
            · intro w hSw; (try dsimp only at hSw); go_simp; first | done | with_reducible rfl
            try simp only [Act.put, List.setIfInBounds_toArray, List.set_cons_zero, List.set_cons_succ]
            refine wpAnyH_ready (rs := [17]) (by kernel_rfl) (by simp) ?_
            refine AllReadyH.cons (o := { dst := some 94, op := Op.call { callee := Callee.value (Operand.func 10), args := #[], argTypes := #[] }, type := 4, pos := "outright.go:87", after := #[{ on := 16, ground := Ground.chain }, { on := 16, ground := Ground.guard }], guard := some (16, true) }) rfl (fun K hK => ?_) AllReadyH.nil
            clear hHeld
            go_simp
            refine (awake_any _ (HE.out.below (HB21_.out.trans (HB7.out.mono HB21_.out.size)))).mono ?_
            rintro e w8 ⟨rfl, hB⟩
            have HB8 := hide (HB7.out.trans (hB.mono HB7.out.size))
            clear hB
            refine hK.out _ _ (HB8.out) (fun hHeld => ?_)
            clear hK K
            try simp only [Act.put, List.setIfInBounds_toArray, List.set_cons_zero, List.set_cons_succ]
            refine wpAnyH_take (i := 18) (oi := { dst := some 95, op := Op.pick (Operand.tmp 93) (Operand.tmp 94) (Operand.const (Value.bool false)), type := 4, pos := "outright.go:87", after := #[{ on := 16, ground := Ground.data }, { on := 17, ground := Ground.data }], guard := none }) (v := ?_) rfl (by kernel_rfl) (by kernel_rfl) (by kernel_rfl) (fun _ _ _ h => h) (Or.inl ⟨by rfl, ?_⟩) hHeld ?_
            rotate_left
            · intro w hSw; (try dsimp only at hSw); go_simp; first | done | with_reducible rfl
            try simp only [Act.put, List.setIfInBounds_toArray, List.set_cons_zero, List.set_cons_succ]
            refine wpAnyH_take (i := 19) (oi := { dst := some 4, op := Op.assign (Operand.tmp 95), type := 4, pos := "outright.go:87", after := #[{ on := 18, ground := Ground.data }, { on := 17, ground := Ground.chain }, { on := 0, ground := Ground.phase }, { on := 1, ground := Ground.phase }, { on := 2, ground := Ground.phase }, { on := 3, ground := Ground.phase }, { on := 4, ground := Ground.phase }, { on := 5, ground := Ground.phase }, { on := 6, ground := Ground.phase }, { on := 7, ground := Ground.phase }, { on := 8, ground := Ground.phase }, { on := 9, ground := Ground.phase }, { on := 10, ground := Ground.phase }, { on := 11, ground := Ground.phase }, { on := 12, ground := Ground.phase }, { on := 13, ground := Ground.phase }, { on := 14, ground := Ground.phase }, { on := 15, ground := Ground.phase }, { on := 16, ground := Ground.phase }, { on := 17, ground := Ground.phase }, { on := 18, ground := Ground.phase }], guard := none }) (v := ?_) rfl (by kernel_rfl) (by kernel_rfl) (by kernel_rfl) (fun _ _ _ h => h) (Or.inl ⟨by rfl, ?_⟩) hHeld ?_
            rotate_left
            · intro w hSw; (try dsimp only at hSw); go_simp; first | done | with_reducible rfl
            try simp only [Act.put, List.setIfInBounds_toArray, List.set_cons_zero, List.set_cons_succ]
            refine wpAnyH_done (by kernel_rfl) ?_ _
            clear hHeld
            go_wp2_with fail
            go_ret
            exact ⟨rfl, HB21_.out.trans (HB8.out.mono HB21_.out.size)⟩
end Go.Proofs.YtgikkjjnoakhdaaDoor
