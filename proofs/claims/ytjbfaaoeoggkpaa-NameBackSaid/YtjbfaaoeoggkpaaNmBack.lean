/- The law NameBack (P5.5). -/
import Derived.Test.YtjbfaaoeoggkpaaNmAwake
import Derived.Test.YtjbfaaoeoggkpaaNmArg
namespace Go.Proofs.Ytjbfaaoeoggkpaa
open Go.RowKit Go.Lib

theorem par_pr {a : Nm} (h : mayN a = true) : parN (prN a) = some a := by
  unfold mayN at h
  rw [Bool.and_eq_true] at h
  exact parN_some (by rw [prN_list]; exact parse_text h.1 h.2)
theorem pr_size {a : Nm} (h : mayN a = true) : (prN a).size ≤ 64 := by
  unfold mayN at h
  rw [Bool.and_eq_true] at h
  have h1 := (labelS_len h.1).2
  have h2 := (labelS_len h.2).2
  have h3 := text_length a.ns.data.toList a.sa.data.toList
  rw [← prN_list, size_list] at h3
  omega
theorem pr_par {s : ByteArray} {m : Nm} (h : parN s = some m) : mayN m = true ∧ prN m = s := by
  unfold parN at h
  cases hp : parseS s.data.toList with
  | none => rw [hp] at h; cases h
  | some p =>
    rw [hp] at h
    injection h with h
    obtain ⟨h1, h2, h3, _⟩ := text_parse (ns := p.1) (sa := p.2) hp
    subst h
    refine ⟨?_, bytes_ext ?_⟩
    · unfold mayN; dsimp only; rw [h1, h2]; rfl
    · rw [prN_list]; exact h3
theorem pr_one {a b : Nm} (ha : mayN a = true) (hb : mayN b = true) (h : prN a = prN b) : a = b := by
  unfold mayN at ha hb
  rw [Bool.and_eq_true] at ha hb
  have h2 : (prN a).data.toList = (prN b).data.toList := by rw [h]
  rw [prN_list, prN_list] at h2
  obtain ⟨h3, h4⟩ := text_one ha.1 hb.1 h2
  exact Nm.same h3 h4

set_option maxRecDepth 100000 in
set_option maxHeartbeats 1000000 in
theorem back_00x0 (w0 : World) (hE : Env w0) (s : ByteArray) (hs : ¬ (1000 : Int) < s.size) (hs2 : s.size ≤ 100000) (p0 p1 q0 q1 : ByteArray)
    (LPA : HidL (∀ W : World, Calls Try.prog 15 #[.agg #[.string p0, .string p1]] W (fun e w' => e = .returned (.tuple #[.string ByteArray.empty, .int .i64 1]) ∧ Below W.heap.size W w')))
    (LMA : HidL (∀ W : World, Calls Try.prog 11 #[.agg #[.string p0, .string p1]] W (fun e w' => e = .returned (.bool false) ∧ Below W.heap.size W w')))
    (LPB : HidL (∀ W : World, Calls Try.prog 15 #[.agg #[.string q0, .string q1]] W (fun e w' => e = .returned (.tuple #[.string ByteArray.empty, .int .i64 1]) ∧ Below W.heap.size W w')))
    (LS : HidL (∀ W : World, Env W → Calls Try.prog 17 #[.string s] W (fun e w' => e = .returned (.tuple #[.agg #[.string ByteArray.empty, .string ByteArray.empty], .int .i64 2]) ∧ Below W.heap.size W w'))) : Calls Try.prog 6 #[.agg #[.string p0, .string p1], .agg #[.string q0, .string q1], .string s] w0 (LawPost w0) := by
  have HB1 := (Below.refl w0.heap.size w0).alloc (Nat.le_refl _) (.cells #[.string p0, .string p1] 23)
  have HX := hideL ((NBox.new w0 p0 p1).next ((Below.refl _ _).alloc (Nat.le_refl _) (.cells #[.string q0, .string q1] 23)))
  have HY := NBox.new (w0.alloc (.cells #[.string p0, .string p1] 23)) q0 q1
  rw [World.size_alloc] at HY
  replace HY := hideL HY
  have HB := hideL (HB1.alloc HB1.size (.cells #[.string q0, .string q1] 23))
  have HE := hideL (hE.below HB.out)
  clear HB1 hE
  have ep0 := eqs_true (rfl : p0 = p0)
  have ep1 := eqs_true (rfl : p1 = p1)
  have ess := eqs_true (rfl : s = s)
  have x0 := HX.out.c0
  have x1 := HX.out.c1
  have y0 := HY.out.c0
  have y1 := HY.out.c1
  go_enter Try.func6, Try.ntmps6
  go_wp2_with (first
    | (go_at_call 15; with_reducible refine (LPA.out _).mono ?_; clear LPA; rintro e w2 ⟨rfl, hB2⟩; have HB2 := hideL (HB.out.trans (hB2.mono HB.out.size)); have HX2 := hideL (HX.out.next hB2); have HY2 := hideL (HY.out.next hB2); have HE2 := hideL (HE.out.below hB2); have x02 := HX2.out.c0; have x12 := HX2.out.c1; have y02 := HY2.out.c0; have y12 := HY2.out.c1; clear hB2)
    | (go_at_call 11; with_reducible refine (LMA.out _).mono ?_; clear LMA; rintro e w3 ⟨rfl, hB3⟩; have HB3 := hideL (HB2.out.trans (hB3.mono HB2.out.size)); have HX3 := hideL (HX2.out.next hB3); have HY3 := hideL (HY2.out.next hB3); have HE3 := hideL (HE2.out.below hB3); have x03 := HX3.out.c0; have x13 := HX3.out.c1; have y03 := HY3.out.c0; have y13 := HY3.out.c1; clear hB3)
    | (go_at_call 15; with_reducible refine (LPB.out _).mono ?_; clear LPB; rintro e w4 ⟨rfl, hB4⟩; have HB4 := hideL (HB3.out.trans (hB4.mono HB3.out.size)); have HX4 := hideL (HX3.out.next hB4); have HY4 := hideL (HY3.out.next hB4); have HE4 := hideL (HE3.out.below hB4); have x04 := HX4.out.c0; have x14 := HX4.out.c1; have y04 := HY4.out.c0; have y14 := HY4.out.c1; clear hB4)
    | (go_at_call 17; with_reducible refine (LS.out _ HE4.out).mono ?_; clear LS; rintro e w5 ⟨rfl, hB5⟩; have HB5 := hideL (HB4.out.trans (hB5.mono HB4.out.size)); have HX5 := hideL (HX4.out.next hB5); have HY5 := hideL (HY4.out.next hB5); have HE5 := hideL (HE4.out.below hB5); have HC5 := hideL (HB5.out.trans (((Below.refl w5.heap.size w5).alloc (Nat.le_refl _) (.cells #[.string ByteArray.empty, .string ByteArray.empty] 23)).mono HB5.out.size)); have HU5 := hideL (HX5.out.next ((Below.refl w5.heap.size w5).alloc (Nat.le_refl _) (.cells #[.string ByteArray.empty, .string ByteArray.empty] 23))); have HV5 := hideL (HY5.out.next ((Below.refl w5.heap.size w5).alloc (Nat.le_refl _) (.cells #[.string ByteArray.empty, .string ByteArray.empty] 23))); have HF5 := hideL (HE5.out.below ((Below.refl w5.heap.size w5).alloc (Nat.le_refl _) (.cells #[.string ByteArray.empty, .string ByteArray.empty] 23))); have HN5 := hideL (NBox.new w5 ByteArray.empty ByteArray.empty); have n05 := HN5.out.c0; have n15 := HN5.out.c1; have x05 := HU5.out.c0; have x15 := HU5.out.c1; have y05 := HV5.out.c0; have y15 := HV5.out.c1; clear hB5)
    | (go_at_call 8; with_reducible refine (awake_any _ HF5.out).mono ?_; rintro e w6 ⟨rfl, hB6⟩))
  go_ret
  exact ⟨rfl, HC5.out.trans (hB6.mono HC5.out.size)⟩

set_option maxRecDepth 100000 in
set_option maxHeartbeats 1000000 in
theorem back_00x1 (w0 : World) (hE : Env w0) (s : ByteArray) (hs : ¬ (1000 : Int) < s.size) (hs2 : s.size ≤ 100000) (p0 p1 q0 q1 : ByteArray)
    (LPA : HidL (∀ W : World, Calls Try.prog 15 #[.agg #[.string p0, .string p1]] W (fun e w' => e = .returned (.tuple #[.string ByteArray.empty, .int .i64 1]) ∧ Below W.heap.size W w')))
    (LMA : HidL (∀ W : World, Calls Try.prog 11 #[.agg #[.string p0, .string p1]] W (fun e w' => e = .returned (.bool false) ∧ Below W.heap.size W w')))
    (LPB : HidL (∀ W : World, Calls Try.prog 15 #[.agg #[.string q0, .string q1]] W (fun e w' => e = .returned (.tuple #[.string ByteArray.empty, .int .i64 1]) ∧ Below W.heap.size W w')))
    (m0 m1 : ByteArray)
    (LS : HidL (∀ W : World, Env W → Calls Try.prog 17 #[.string s] W (fun e w' => e = .returned (.tuple #[.agg #[.string m0, .string m1], .int .i64 0]) ∧ Below W.heap.size W w')))
    (LPM : HidL (∀ W : World, Calls Try.prog 15 #[.agg #[.string m0, .string m1]] W (fun e w' => e = .returned (.tuple #[.string s, .int .i64 0]) ∧ Below W.heap.size W w')))
    (LMM : HidL (∀ W : World, Calls Try.prog 11 #[.agg #[.string m0, .string m1]] W (fun e w' => e = .returned (.bool true) ∧ Below W.heap.size W w'))) : Calls Try.prog 6 #[.agg #[.string p0, .string p1], .agg #[.string q0, .string q1], .string s] w0 (LawPost w0) := by
  have HB1 := (Below.refl w0.heap.size w0).alloc (Nat.le_refl _) (.cells #[.string p0, .string p1] 23)
  have HX := hideL ((NBox.new w0 p0 p1).next ((Below.refl _ _).alloc (Nat.le_refl _) (.cells #[.string q0, .string q1] 23)))
  have HY := NBox.new (w0.alloc (.cells #[.string p0, .string p1] 23)) q0 q1
  rw [World.size_alloc] at HY
  replace HY := hideL HY
  have HB := hideL (HB1.alloc HB1.size (.cells #[.string q0, .string q1] 23))
  have HE := hideL (hE.below HB.out)
  clear HB1 hE
  have ep0 := eqs_true (rfl : p0 = p0)
  have ep1 := eqs_true (rfl : p1 = p1)
  have ess := eqs_true (rfl : s = s)
  have x0 := HX.out.c0
  have x1 := HX.out.c1
  have y0 := HY.out.c0
  have y1 := HY.out.c1
  go_enter Try.func6, Try.ntmps6
  go_wp2_with (first
    | (go_at_call 15; with_reducible refine (LPA.out _).mono ?_; clear LPA; rintro e w2 ⟨rfl, hB2⟩; have HB2 := hideL (HB.out.trans (hB2.mono HB.out.size)); have HX2 := hideL (HX.out.next hB2); have HY2 := hideL (HY.out.next hB2); have HE2 := hideL (HE.out.below hB2); have x02 := HX2.out.c0; have x12 := HX2.out.c1; have y02 := HY2.out.c0; have y12 := HY2.out.c1; clear hB2)
    | (go_at_call 11; with_reducible refine (LMA.out _).mono ?_; clear LMA; rintro e w3 ⟨rfl, hB3⟩; have HB3 := hideL (HB2.out.trans (hB3.mono HB2.out.size)); have HX3 := hideL (HX2.out.next hB3); have HY3 := hideL (HY2.out.next hB3); have HE3 := hideL (HE2.out.below hB3); have x03 := HX3.out.c0; have x13 := HX3.out.c1; have y03 := HY3.out.c0; have y13 := HY3.out.c1; clear hB3)
    | (go_at_call 15; with_reducible refine (LPB.out _).mono ?_; clear LPB; rintro e w4 ⟨rfl, hB4⟩; have HB4 := hideL (HB3.out.trans (hB4.mono HB3.out.size)); have HX4 := hideL (HX3.out.next hB4); have HY4 := hideL (HY3.out.next hB4); have HE4 := hideL (HE3.out.below hB4); have x04 := HX4.out.c0; have x14 := HX4.out.c1; have y04 := HY4.out.c0; have y14 := HY4.out.c1; clear hB4)
    | (go_at_call 17; with_reducible refine (LS.out _ HE4.out).mono ?_; clear LS; rintro e w5 ⟨rfl, hB5⟩; have HB5 := hideL (HB4.out.trans (hB5.mono HB4.out.size)); have HX5 := hideL (HX4.out.next hB5); have HY5 := hideL (HY4.out.next hB5); have HE5 := hideL (HE4.out.below hB5); have HC5 := hideL (HB5.out.trans (((Below.refl w5.heap.size w5).alloc (Nat.le_refl _) (.cells #[.string m0, .string m1] 23)).mono HB5.out.size)); have HU5 := hideL (HX5.out.next ((Below.refl w5.heap.size w5).alloc (Nat.le_refl _) (.cells #[.string m0, .string m1] 23))); have HV5 := hideL (HY5.out.next ((Below.refl w5.heap.size w5).alloc (Nat.le_refl _) (.cells #[.string m0, .string m1] 23))); have HF5 := hideL (HE5.out.below ((Below.refl w5.heap.size w5).alloc (Nat.le_refl _) (.cells #[.string m0, .string m1] 23))); have HN5 := hideL (NBox.new w5 m0 m1); have n05 := HN5.out.c0; have n15 := HN5.out.c1; have x05 := HU5.out.c0; have x15 := HU5.out.c1; have y05 := HV5.out.c0; have y15 := HV5.out.c1; clear hB5)
    | (go_at_call 15; with_reducible refine (LPM.out _).mono ?_; clear LPM; rintro e w6 ⟨rfl, hB6⟩; have HB6 := hideL (HC5.out.trans (hB6.mono HC5.out.size)); have HX6 := hideL (HU5.out.next hB6); have HY6 := hideL (HV5.out.next hB6); have HE6 := hideL (HF5.out.below hB6); have HM6 := hideL (HN5.out.next hB6); have m06 := HM6.out.c0; have m16 := HM6.out.c1; have x06 := HX6.out.c0; have x16 := HX6.out.c1; have y06 := HY6.out.c0; have y16 := HY6.out.c1; clear hB6)
    | (go_at_call 11; with_reducible refine (LMM.out _).mono ?_; clear LMM; rintro e w7 ⟨rfl, hB7⟩; have HB7 := hideL (HB6.out.trans (hB7.mono HB6.out.size)); have HX7 := hideL (HX6.out.next hB7); have HY7 := hideL (HY6.out.next hB7); have HE7 := hideL (HE6.out.below hB7); have HM7 := hideL (HM6.out.next hB7); have m07 := HM7.out.c0; have m17 := HM7.out.c1; have x07 := HX7.out.c0; have x17 := HX7.out.c1; have y07 := HY7.out.c0; have y17 := HY7.out.c1; clear hB7)
    | (go_at_call 8; with_reducible refine (awake_any _ HE7.out).mono ?_; rintro e w8 ⟨rfl, hB8⟩))
  go_ret
  exact ⟨rfl, HB7.out.trans (hB8.mono HB7.out.size)⟩

set_option maxRecDepth 100000 in
set_option maxHeartbeats 1000000 in
theorem back_01x0 (w0 : World) (hE : Env w0) (s : ByteArray) (hs : ¬ (1000 : Int) < s.size) (hs2 : s.size ≤ 100000) (p0 p1 q0 q1 : ByteArray)
    (pb : ByteArray)
    (LPA : HidL (∀ W : World, Calls Try.prog 15 #[.agg #[.string p0, .string p1]] W (fun e w' => e = .returned (.tuple #[.string ByteArray.empty, .int .i64 1]) ∧ Below W.heap.size W w')))
    (LMA : HidL (∀ W : World, Calls Try.prog 11 #[.agg #[.string p0, .string p1]] W (fun e w' => e = .returned (.bool false) ∧ Below W.heap.size W w')))
    (LPB : HidL (∀ W : World, Calls Try.prog 15 #[.agg #[.string q0, .string q1]] W (fun e w' => e = .returned (.tuple #[.string pb, .int .i64 0]) ∧ Below W.heap.size W w')))
    (LS : HidL (∀ W : World, Env W → Calls Try.prog 17 #[.string s] W (fun e w' => e = .returned (.tuple #[.agg #[.string ByteArray.empty, .string ByteArray.empty], .int .i64 2]) ∧ Below W.heap.size W w'))) : Calls Try.prog 6 #[.agg #[.string p0, .string p1], .agg #[.string q0, .string q1], .string s] w0 (LawPost w0) := by
  have HB1 := (Below.refl w0.heap.size w0).alloc (Nat.le_refl _) (.cells #[.string p0, .string p1] 23)
  have HX := hideL ((NBox.new w0 p0 p1).next ((Below.refl _ _).alloc (Nat.le_refl _) (.cells #[.string q0, .string q1] 23)))
  have HY := NBox.new (w0.alloc (.cells #[.string p0, .string p1] 23)) q0 q1
  rw [World.size_alloc] at HY
  replace HY := hideL HY
  have HB := hideL (HB1.alloc HB1.size (.cells #[.string q0, .string q1] 23))
  have HE := hideL (hE.below HB.out)
  clear HB1 hE
  have ep0 := eqs_true (rfl : p0 = p0)
  have ep1 := eqs_true (rfl : p1 = p1)
  have ess := eqs_true (rfl : s = s)
  have x0 := HX.out.c0
  have x1 := HX.out.c1
  have y0 := HY.out.c0
  have y1 := HY.out.c1
  go_enter Try.func6, Try.ntmps6
  go_wp2_with (first
    | (go_at_call 15; with_reducible refine (LPA.out _).mono ?_; clear LPA; rintro e w2 ⟨rfl, hB2⟩; have HB2 := hideL (HB.out.trans (hB2.mono HB.out.size)); have HX2 := hideL (HX.out.next hB2); have HY2 := hideL (HY.out.next hB2); have HE2 := hideL (HE.out.below hB2); have x02 := HX2.out.c0; have x12 := HX2.out.c1; have y02 := HY2.out.c0; have y12 := HY2.out.c1; clear hB2)
    | (go_at_call 11; with_reducible refine (LMA.out _).mono ?_; clear LMA; rintro e w3 ⟨rfl, hB3⟩; have HB3 := hideL (HB2.out.trans (hB3.mono HB2.out.size)); have HX3 := hideL (HX2.out.next hB3); have HY3 := hideL (HY2.out.next hB3); have HE3 := hideL (HE2.out.below hB3); have x03 := HX3.out.c0; have x13 := HX3.out.c1; have y03 := HY3.out.c0; have y13 := HY3.out.c1; clear hB3)
    | (go_at_call 15; with_reducible refine (LPB.out _).mono ?_; clear LPB; rintro e w4 ⟨rfl, hB4⟩; have HB4 := hideL (HB3.out.trans (hB4.mono HB3.out.size)); have HX4 := hideL (HX3.out.next hB4); have HY4 := hideL (HY3.out.next hB4); have HE4 := hideL (HE3.out.below hB4); have x04 := HX4.out.c0; have x14 := HX4.out.c1; have y04 := HY4.out.c0; have y14 := HY4.out.c1; clear hB4)
    | (go_at_call 17; with_reducible refine (LS.out _ HE4.out).mono ?_; clear LS; rintro e w5 ⟨rfl, hB5⟩; have HB5 := hideL (HB4.out.trans (hB5.mono HB4.out.size)); have HX5 := hideL (HX4.out.next hB5); have HY5 := hideL (HY4.out.next hB5); have HE5 := hideL (HE4.out.below hB5); have HC5 := hideL (HB5.out.trans (((Below.refl w5.heap.size w5).alloc (Nat.le_refl _) (.cells #[.string ByteArray.empty, .string ByteArray.empty] 23)).mono HB5.out.size)); have HU5 := hideL (HX5.out.next ((Below.refl w5.heap.size w5).alloc (Nat.le_refl _) (.cells #[.string ByteArray.empty, .string ByteArray.empty] 23))); have HV5 := hideL (HY5.out.next ((Below.refl w5.heap.size w5).alloc (Nat.le_refl _) (.cells #[.string ByteArray.empty, .string ByteArray.empty] 23))); have HF5 := hideL (HE5.out.below ((Below.refl w5.heap.size w5).alloc (Nat.le_refl _) (.cells #[.string ByteArray.empty, .string ByteArray.empty] 23))); have HN5 := hideL (NBox.new w5 ByteArray.empty ByteArray.empty); have n05 := HN5.out.c0; have n15 := HN5.out.c1; have x05 := HU5.out.c0; have x15 := HU5.out.c1; have y05 := HV5.out.c0; have y15 := HV5.out.c1; clear hB5)
    | (go_at_call 8; with_reducible refine (awake_any _ HF5.out).mono ?_; rintro e w6 ⟨rfl, hB6⟩))
  go_ret
  exact ⟨rfl, HC5.out.trans (hB6.mono HC5.out.size)⟩

set_option maxRecDepth 100000 in
set_option maxHeartbeats 1000000 in
theorem back_01x1 (w0 : World) (hE : Env w0) (s : ByteArray) (hs : ¬ (1000 : Int) < s.size) (hs2 : s.size ≤ 100000) (p0 p1 q0 q1 : ByteArray)
    (pb : ByteArray)
    (LPA : HidL (∀ W : World, Calls Try.prog 15 #[.agg #[.string p0, .string p1]] W (fun e w' => e = .returned (.tuple #[.string ByteArray.empty, .int .i64 1]) ∧ Below W.heap.size W w')))
    (LMA : HidL (∀ W : World, Calls Try.prog 11 #[.agg #[.string p0, .string p1]] W (fun e w' => e = .returned (.bool false) ∧ Below W.heap.size W w')))
    (LPB : HidL (∀ W : World, Calls Try.prog 15 #[.agg #[.string q0, .string q1]] W (fun e w' => e = .returned (.tuple #[.string pb, .int .i64 0]) ∧ Below W.heap.size W w')))
    (m0 m1 : ByteArray)
    (LS : HidL (∀ W : World, Env W → Calls Try.prog 17 #[.string s] W (fun e w' => e = .returned (.tuple #[.agg #[.string m0, .string m1], .int .i64 0]) ∧ Below W.heap.size W w')))
    (LPM : HidL (∀ W : World, Calls Try.prog 15 #[.agg #[.string m0, .string m1]] W (fun e w' => e = .returned (.tuple #[.string s, .int .i64 0]) ∧ Below W.heap.size W w')))
    (LMM : HidL (∀ W : World, Calls Try.prog 11 #[.agg #[.string m0, .string m1]] W (fun e w' => e = .returned (.bool true) ∧ Below W.heap.size W w'))) : Calls Try.prog 6 #[.agg #[.string p0, .string p1], .agg #[.string q0, .string q1], .string s] w0 (LawPost w0) := by
  have HB1 := (Below.refl w0.heap.size w0).alloc (Nat.le_refl _) (.cells #[.string p0, .string p1] 23)
  have HX := hideL ((NBox.new w0 p0 p1).next ((Below.refl _ _).alloc (Nat.le_refl _) (.cells #[.string q0, .string q1] 23)))
  have HY := NBox.new (w0.alloc (.cells #[.string p0, .string p1] 23)) q0 q1
  rw [World.size_alloc] at HY
  replace HY := hideL HY
  have HB := hideL (HB1.alloc HB1.size (.cells #[.string q0, .string q1] 23))
  have HE := hideL (hE.below HB.out)
  clear HB1 hE
  have ep0 := eqs_true (rfl : p0 = p0)
  have ep1 := eqs_true (rfl : p1 = p1)
  have ess := eqs_true (rfl : s = s)
  have x0 := HX.out.c0
  have x1 := HX.out.c1
  have y0 := HY.out.c0
  have y1 := HY.out.c1
  go_enter Try.func6, Try.ntmps6
  go_wp2_with (first
    | (go_at_call 15; with_reducible refine (LPA.out _).mono ?_; clear LPA; rintro e w2 ⟨rfl, hB2⟩; have HB2 := hideL (HB.out.trans (hB2.mono HB.out.size)); have HX2 := hideL (HX.out.next hB2); have HY2 := hideL (HY.out.next hB2); have HE2 := hideL (HE.out.below hB2); have x02 := HX2.out.c0; have x12 := HX2.out.c1; have y02 := HY2.out.c0; have y12 := HY2.out.c1; clear hB2)
    | (go_at_call 11; with_reducible refine (LMA.out _).mono ?_; clear LMA; rintro e w3 ⟨rfl, hB3⟩; have HB3 := hideL (HB2.out.trans (hB3.mono HB2.out.size)); have HX3 := hideL (HX2.out.next hB3); have HY3 := hideL (HY2.out.next hB3); have HE3 := hideL (HE2.out.below hB3); have x03 := HX3.out.c0; have x13 := HX3.out.c1; have y03 := HY3.out.c0; have y13 := HY3.out.c1; clear hB3)
    | (go_at_call 15; with_reducible refine (LPB.out _).mono ?_; clear LPB; rintro e w4 ⟨rfl, hB4⟩; have HB4 := hideL (HB3.out.trans (hB4.mono HB3.out.size)); have HX4 := hideL (HX3.out.next hB4); have HY4 := hideL (HY3.out.next hB4); have HE4 := hideL (HE3.out.below hB4); have x04 := HX4.out.c0; have x14 := HX4.out.c1; have y04 := HY4.out.c0; have y14 := HY4.out.c1; clear hB4)
    | (go_at_call 17; with_reducible refine (LS.out _ HE4.out).mono ?_; clear LS; rintro e w5 ⟨rfl, hB5⟩; have HB5 := hideL (HB4.out.trans (hB5.mono HB4.out.size)); have HX5 := hideL (HX4.out.next hB5); have HY5 := hideL (HY4.out.next hB5); have HE5 := hideL (HE4.out.below hB5); have HC5 := hideL (HB5.out.trans (((Below.refl w5.heap.size w5).alloc (Nat.le_refl _) (.cells #[.string m0, .string m1] 23)).mono HB5.out.size)); have HU5 := hideL (HX5.out.next ((Below.refl w5.heap.size w5).alloc (Nat.le_refl _) (.cells #[.string m0, .string m1] 23))); have HV5 := hideL (HY5.out.next ((Below.refl w5.heap.size w5).alloc (Nat.le_refl _) (.cells #[.string m0, .string m1] 23))); have HF5 := hideL (HE5.out.below ((Below.refl w5.heap.size w5).alloc (Nat.le_refl _) (.cells #[.string m0, .string m1] 23))); have HN5 := hideL (NBox.new w5 m0 m1); have n05 := HN5.out.c0; have n15 := HN5.out.c1; have x05 := HU5.out.c0; have x15 := HU5.out.c1; have y05 := HV5.out.c0; have y15 := HV5.out.c1; clear hB5)
    | (go_at_call 15; with_reducible refine (LPM.out _).mono ?_; clear LPM; rintro e w6 ⟨rfl, hB6⟩; have HB6 := hideL (HC5.out.trans (hB6.mono HC5.out.size)); have HX6 := hideL (HU5.out.next hB6); have HY6 := hideL (HV5.out.next hB6); have HE6 := hideL (HF5.out.below hB6); have HM6 := hideL (HN5.out.next hB6); have m06 := HM6.out.c0; have m16 := HM6.out.c1; have x06 := HX6.out.c0; have x16 := HX6.out.c1; have y06 := HY6.out.c0; have y16 := HY6.out.c1; clear hB6)
    | (go_at_call 11; with_reducible refine (LMM.out _).mono ?_; clear LMM; rintro e w7 ⟨rfl, hB7⟩; have HB7 := hideL (HB6.out.trans (hB7.mono HB6.out.size)); have HX7 := hideL (HX6.out.next hB7); have HY7 := hideL (HY6.out.next hB7); have HE7 := hideL (HE6.out.below hB7); have HM7 := hideL (HM6.out.next hB7); have m07 := HM7.out.c0; have m17 := HM7.out.c1; have x07 := HX7.out.c0; have x17 := HX7.out.c1; have y07 := HY7.out.c0; have y17 := HY7.out.c1; clear hB7)
    | (go_at_call 8; with_reducible refine (awake_any _ HE7.out).mono ?_; rintro e w8 ⟨rfl, hB8⟩))
  go_ret
  exact ⟨rfl, HB7.out.trans (hB8.mono HB7.out.size)⟩

set_option maxRecDepth 100000 in
set_option maxHeartbeats 1000000 in
theorem back_10x0 (w0 : World) (hE : Env w0) (s : ByteArray) (hs : ¬ (1000 : Int) < s.size) (hs2 : s.size ≤ 100000) (p0 p1 q0 q1 : ByteArray)
    (pa : ByteArray) (h64 : ¬ (64 : Int) < pa.size)
    (LPA : HidL (∀ W : World, Calls Try.prog 15 #[.agg #[.string p0, .string p1]] W (fun e w' => e = .returned (.tuple #[.string pa, .int .i64 0]) ∧ Below W.heap.size W w')))
    (LMA : HidL (∀ W : World, Calls Try.prog 11 #[.agg #[.string p0, .string p1]] W (fun e w' => e = .returned (.bool true) ∧ Below W.heap.size W w')))
    (LQ : HidL (∀ W : World, Env W → Calls Try.prog 17 #[.string pa] W (fun e w' => e = .returned (.tuple #[.agg #[.string p0, .string p1], .int .i64 0]) ∧ Below W.heap.size W w')))
    (LPB : HidL (∀ W : World, Calls Try.prog 15 #[.agg #[.string q0, .string q1]] W (fun e w' => e = .returned (.tuple #[.string ByteArray.empty, .int .i64 1]) ∧ Below W.heap.size W w')))
    (LS : HidL (∀ W : World, Env W → Calls Try.prog 17 #[.string s] W (fun e w' => e = .returned (.tuple #[.agg #[.string ByteArray.empty, .string ByteArray.empty], .int .i64 2]) ∧ Below W.heap.size W w'))) : Calls Try.prog 6 #[.agg #[.string p0, .string p1], .agg #[.string q0, .string q1], .string s] w0 (LawPost w0) := by
  have HB1 := (Below.refl w0.heap.size w0).alloc (Nat.le_refl _) (.cells #[.string p0, .string p1] 23)
  have HX := hideL ((NBox.new w0 p0 p1).next ((Below.refl _ _).alloc (Nat.le_refl _) (.cells #[.string q0, .string q1] 23)))
  have HY := NBox.new (w0.alloc (.cells #[.string p0, .string p1] 23)) q0 q1
  rw [World.size_alloc] at HY
  replace HY := hideL HY
  have HB := hideL (HB1.alloc HB1.size (.cells #[.string q0, .string q1] 23))
  have HE := hideL (hE.below HB.out)
  clear HB1 hE
  have ep0 := eqs_true (rfl : p0 = p0)
  have ep1 := eqs_true (rfl : p1 = p1)
  have ess := eqs_true (rfl : s = s)
  have epa := eqs_true (rfl : pa = pa)
  have x0 := HX.out.c0
  have x1 := HX.out.c1
  have y0 := HY.out.c0
  have y1 := HY.out.c1
  go_enter Try.func6, Try.ntmps6
  go_wp2_with (first
    | (go_at_call 15; with_reducible refine (LPA.out _).mono ?_; clear LPA; rintro e w2 ⟨rfl, hB2⟩; have HB2 := hideL (HB.out.trans (hB2.mono HB.out.size)); have HX2 := hideL (HX.out.next hB2); have HY2 := hideL (HY.out.next hB2); have HE2 := hideL (HE.out.below hB2); have x02 := HX2.out.c0; have x12 := HX2.out.c1; have y02 := HY2.out.c0; have y12 := HY2.out.c1; clear hB2)
    | (go_at_call 11; with_reducible refine (LMA.out _).mono ?_; clear LMA; rintro e w3 ⟨rfl, hB3⟩; have HB3 := hideL (HB2.out.trans (hB3.mono HB2.out.size)); have HX3 := hideL (HX2.out.next hB3); have HY3 := hideL (HY2.out.next hB3); have HE3 := hideL (HE2.out.below hB3); have x03 := HX3.out.c0; have x13 := HX3.out.c1; have y03 := HY3.out.c0; have y13 := HY3.out.c1; clear hB3)
    | (go_at_call 17; with_reducible refine (LQ.out _ HE3.out).mono ?_; clear LQ; rintro e w4 ⟨rfl, hB4⟩; have HB4 := hideL (HB3.out.trans (hB4.mono HB3.out.size)); have HX4 := hideL (HX3.out.next hB4); have HY4 := hideL (HY3.out.next hB4); have HE4 := hideL (HE3.out.below hB4); have HC4 := hideL (HB4.out.trans (((Below.refl w4.heap.size w4).alloc (Nat.le_refl _) (.cells #[.string p0, .string p1] 23)).mono HB4.out.size)); have HU4 := hideL (HX4.out.next ((Below.refl w4.heap.size w4).alloc (Nat.le_refl _) (.cells #[.string p0, .string p1] 23))); have HV4 := hideL (HY4.out.next ((Below.refl w4.heap.size w4).alloc (Nat.le_refl _) (.cells #[.string p0, .string p1] 23))); have HF4 := hideL (HE4.out.below ((Below.refl w4.heap.size w4).alloc (Nat.le_refl _) (.cells #[.string p0, .string p1] 23))); have HN4 := hideL (NBox.new w4 p0 p1); have n04 := HN4.out.c0; have n14 := HN4.out.c1; have x04 := HU4.out.c0; have x14 := HU4.out.c1; have y04 := HV4.out.c0; have y14 := HV4.out.c1; clear hB4)
    | (go_at_call 15; with_reducible refine (LPB.out _).mono ?_; clear LPB; rintro e w5 ⟨rfl, hB5⟩; have HB5 := hideL (HC4.out.trans (hB5.mono HC4.out.size)); have HX5 := hideL (HU4.out.next hB5); have HY5 := hideL (HV4.out.next hB5); have HE5 := hideL (HF4.out.below hB5); have x05 := HX5.out.c0; have x15 := HX5.out.c1; have y05 := HY5.out.c0; have y15 := HY5.out.c1; clear hB5)
    | (go_at_call 17; with_reducible refine (LS.out _ HE5.out).mono ?_; clear LS; rintro e w6 ⟨rfl, hB6⟩; have HB6 := hideL (HB5.out.trans (hB6.mono HB5.out.size)); have HX6 := hideL (HX5.out.next hB6); have HY6 := hideL (HY5.out.next hB6); have HE6 := hideL (HE5.out.below hB6); have HC6 := hideL (HB6.out.trans (((Below.refl w6.heap.size w6).alloc (Nat.le_refl _) (.cells #[.string ByteArray.empty, .string ByteArray.empty] 23)).mono HB6.out.size)); have HU6 := hideL (HX6.out.next ((Below.refl w6.heap.size w6).alloc (Nat.le_refl _) (.cells #[.string ByteArray.empty, .string ByteArray.empty] 23))); have HV6 := hideL (HY6.out.next ((Below.refl w6.heap.size w6).alloc (Nat.le_refl _) (.cells #[.string ByteArray.empty, .string ByteArray.empty] 23))); have HF6 := hideL (HE6.out.below ((Below.refl w6.heap.size w6).alloc (Nat.le_refl _) (.cells #[.string ByteArray.empty, .string ByteArray.empty] 23))); have HN6 := hideL (NBox.new w6 ByteArray.empty ByteArray.empty); have n06 := HN6.out.c0; have n16 := HN6.out.c1; have x06 := HU6.out.c0; have x16 := HU6.out.c1; have y06 := HV6.out.c0; have y16 := HV6.out.c1; clear hB6)
    | (go_at_call 8; with_reducible refine (awake_any _ HF6.out).mono ?_; rintro e w7 ⟨rfl, hB7⟩))
  go_ret
  exact ⟨rfl, HC6.out.trans (hB7.mono HC6.out.size)⟩

set_option maxRecDepth 100000 in
set_option maxHeartbeats 1000000 in
theorem back_10x1 (w0 : World) (hE : Env w0) (s : ByteArray) (hs : ¬ (1000 : Int) < s.size) (hs2 : s.size ≤ 100000) (p0 p1 q0 q1 : ByteArray)
    (pa : ByteArray) (h64 : ¬ (64 : Int) < pa.size)
    (LPA : HidL (∀ W : World, Calls Try.prog 15 #[.agg #[.string p0, .string p1]] W (fun e w' => e = .returned (.tuple #[.string pa, .int .i64 0]) ∧ Below W.heap.size W w')))
    (LMA : HidL (∀ W : World, Calls Try.prog 11 #[.agg #[.string p0, .string p1]] W (fun e w' => e = .returned (.bool true) ∧ Below W.heap.size W w')))
    (LQ : HidL (∀ W : World, Env W → Calls Try.prog 17 #[.string pa] W (fun e w' => e = .returned (.tuple #[.agg #[.string p0, .string p1], .int .i64 0]) ∧ Below W.heap.size W w')))
    (LPB : HidL (∀ W : World, Calls Try.prog 15 #[.agg #[.string q0, .string q1]] W (fun e w' => e = .returned (.tuple #[.string ByteArray.empty, .int .i64 1]) ∧ Below W.heap.size W w')))
    (m0 m1 : ByteArray)
    (LS : HidL (∀ W : World, Env W → Calls Try.prog 17 #[.string s] W (fun e w' => e = .returned (.tuple #[.agg #[.string m0, .string m1], .int .i64 0]) ∧ Below W.heap.size W w')))
    (LPM : HidL (∀ W : World, Calls Try.prog 15 #[.agg #[.string m0, .string m1]] W (fun e w' => e = .returned (.tuple #[.string s, .int .i64 0]) ∧ Below W.heap.size W w')))
    (LMM : HidL (∀ W : World, Calls Try.prog 11 #[.agg #[.string m0, .string m1]] W (fun e w' => e = .returned (.bool true) ∧ Below W.heap.size W w'))) : Calls Try.prog 6 #[.agg #[.string p0, .string p1], .agg #[.string q0, .string q1], .string s] w0 (LawPost w0) := by
  have HB1 := (Below.refl w0.heap.size w0).alloc (Nat.le_refl _) (.cells #[.string p0, .string p1] 23)
  have HX := hideL ((NBox.new w0 p0 p1).next ((Below.refl _ _).alloc (Nat.le_refl _) (.cells #[.string q0, .string q1] 23)))
  have HY := NBox.new (w0.alloc (.cells #[.string p0, .string p1] 23)) q0 q1
  rw [World.size_alloc] at HY
  replace HY := hideL HY
  have HB := hideL (HB1.alloc HB1.size (.cells #[.string q0, .string q1] 23))
  have HE := hideL (hE.below HB.out)
  clear HB1 hE
  have ep0 := eqs_true (rfl : p0 = p0)
  have ep1 := eqs_true (rfl : p1 = p1)
  have ess := eqs_true (rfl : s = s)
  have epa := eqs_true (rfl : pa = pa)
  have x0 := HX.out.c0
  have x1 := HX.out.c1
  have y0 := HY.out.c0
  have y1 := HY.out.c1
  go_enter Try.func6, Try.ntmps6
  go_wp2_with (first
    | (go_at_call 15; with_reducible refine (LPA.out _).mono ?_; clear LPA; rintro e w2 ⟨rfl, hB2⟩; have HB2 := hideL (HB.out.trans (hB2.mono HB.out.size)); have HX2 := hideL (HX.out.next hB2); have HY2 := hideL (HY.out.next hB2); have HE2 := hideL (HE.out.below hB2); have x02 := HX2.out.c0; have x12 := HX2.out.c1; have y02 := HY2.out.c0; have y12 := HY2.out.c1; clear hB2)
    | (go_at_call 11; with_reducible refine (LMA.out _).mono ?_; clear LMA; rintro e w3 ⟨rfl, hB3⟩; have HB3 := hideL (HB2.out.trans (hB3.mono HB2.out.size)); have HX3 := hideL (HX2.out.next hB3); have HY3 := hideL (HY2.out.next hB3); have HE3 := hideL (HE2.out.below hB3); have x03 := HX3.out.c0; have x13 := HX3.out.c1; have y03 := HY3.out.c0; have y13 := HY3.out.c1; clear hB3)
    | (go_at_call 17; with_reducible refine (LQ.out _ HE3.out).mono ?_; clear LQ; rintro e w4 ⟨rfl, hB4⟩; have HB4 := hideL (HB3.out.trans (hB4.mono HB3.out.size)); have HX4 := hideL (HX3.out.next hB4); have HY4 := hideL (HY3.out.next hB4); have HE4 := hideL (HE3.out.below hB4); have HC4 := hideL (HB4.out.trans (((Below.refl w4.heap.size w4).alloc (Nat.le_refl _) (.cells #[.string p0, .string p1] 23)).mono HB4.out.size)); have HU4 := hideL (HX4.out.next ((Below.refl w4.heap.size w4).alloc (Nat.le_refl _) (.cells #[.string p0, .string p1] 23))); have HV4 := hideL (HY4.out.next ((Below.refl w4.heap.size w4).alloc (Nat.le_refl _) (.cells #[.string p0, .string p1] 23))); have HF4 := hideL (HE4.out.below ((Below.refl w4.heap.size w4).alloc (Nat.le_refl _) (.cells #[.string p0, .string p1] 23))); have HN4 := hideL (NBox.new w4 p0 p1); have n04 := HN4.out.c0; have n14 := HN4.out.c1; have x04 := HU4.out.c0; have x14 := HU4.out.c1; have y04 := HV4.out.c0; have y14 := HV4.out.c1; clear hB4)
    | (go_at_call 15; with_reducible refine (LPB.out _).mono ?_; clear LPB; rintro e w5 ⟨rfl, hB5⟩; have HB5 := hideL (HC4.out.trans (hB5.mono HC4.out.size)); have HX5 := hideL (HU4.out.next hB5); have HY5 := hideL (HV4.out.next hB5); have HE5 := hideL (HF4.out.below hB5); have x05 := HX5.out.c0; have x15 := HX5.out.c1; have y05 := HY5.out.c0; have y15 := HY5.out.c1; clear hB5)
    | (go_at_call 17; with_reducible refine (LS.out _ HE5.out).mono ?_; clear LS; rintro e w6 ⟨rfl, hB6⟩; have HB6 := hideL (HB5.out.trans (hB6.mono HB5.out.size)); have HX6 := hideL (HX5.out.next hB6); have HY6 := hideL (HY5.out.next hB6); have HE6 := hideL (HE5.out.below hB6); have HC6 := hideL (HB6.out.trans (((Below.refl w6.heap.size w6).alloc (Nat.le_refl _) (.cells #[.string m0, .string m1] 23)).mono HB6.out.size)); have HU6 := hideL (HX6.out.next ((Below.refl w6.heap.size w6).alloc (Nat.le_refl _) (.cells #[.string m0, .string m1] 23))); have HV6 := hideL (HY6.out.next ((Below.refl w6.heap.size w6).alloc (Nat.le_refl _) (.cells #[.string m0, .string m1] 23))); have HF6 := hideL (HE6.out.below ((Below.refl w6.heap.size w6).alloc (Nat.le_refl _) (.cells #[.string m0, .string m1] 23))); have HN6 := hideL (NBox.new w6 m0 m1); have n06 := HN6.out.c0; have n16 := HN6.out.c1; have x06 := HU6.out.c0; have x16 := HU6.out.c1; have y06 := HV6.out.c0; have y16 := HV6.out.c1; clear hB6)
    | (go_at_call 15; with_reducible refine (LPM.out _).mono ?_; clear LPM; rintro e w7 ⟨rfl, hB7⟩; have HB7 := hideL (HC6.out.trans (hB7.mono HC6.out.size)); have HX7 := hideL (HU6.out.next hB7); have HY7 := hideL (HV6.out.next hB7); have HE7 := hideL (HF6.out.below hB7); have HM7 := hideL (HN6.out.next hB7); have m07 := HM7.out.c0; have m17 := HM7.out.c1; have x07 := HX7.out.c0; have x17 := HX7.out.c1; have y07 := HY7.out.c0; have y17 := HY7.out.c1; clear hB7)
    | (go_at_call 11; with_reducible refine (LMM.out _).mono ?_; clear LMM; rintro e w8 ⟨rfl, hB8⟩; have HB8 := hideL (HB7.out.trans (hB8.mono HB7.out.size)); have HX8 := hideL (HX7.out.next hB8); have HY8 := hideL (HY7.out.next hB8); have HE8 := hideL (HE7.out.below hB8); have HM8 := hideL (HM7.out.next hB8); have m08 := HM8.out.c0; have m18 := HM8.out.c1; have x08 := HX8.out.c0; have x18 := HX8.out.c1; have y08 := HY8.out.c0; have y18 := HY8.out.c1; clear hB8)
    | (go_at_call 8; with_reducible refine (awake_any _ HE8.out).mono ?_; rintro e w9 ⟨rfl, hB9⟩))
  go_ret
  exact ⟨rfl, HB8.out.trans (hB9.mono HB8.out.size)⟩

set_option maxRecDepth 100000 in
set_option maxHeartbeats 1000000 in
theorem back_11eq0 (w0 : World) (hE : Env w0) (s : ByteArray) (hs : ¬ (1000 : Int) < s.size) (hs2 : s.size ≤ 100000) (p0 p1 : ByteArray)
    (pa : ByteArray) (h64 : ¬ (64 : Int) < pa.size)
    (LPA : HidL (∀ W : World, Calls Try.prog 15 #[.agg #[.string p0, .string p1]] W (fun e w' => e = .returned (.tuple #[.string pa, .int .i64 0]) ∧ Below W.heap.size W w')))
    (LMA : HidL (∀ W : World, Calls Try.prog 11 #[.agg #[.string p0, .string p1]] W (fun e w' => e = .returned (.bool true) ∧ Below W.heap.size W w')))
    (LQ : HidL (∀ W : World, Env W → Calls Try.prog 17 #[.string pa] W (fun e w' => e = .returned (.tuple #[.agg #[.string p0, .string p1], .int .i64 0]) ∧ Below W.heap.size W w')))
    (LPB : HidL (∀ W : World, Calls Try.prog 15 #[.agg #[.string p0, .string p1]] W (fun e w' => e = .returned (.tuple #[.string pa, .int .i64 0]) ∧ Below W.heap.size W w')))
    (LS : HidL (∀ W : World, Env W → Calls Try.prog 17 #[.string s] W (fun e w' => e = .returned (.tuple #[.agg #[.string ByteArray.empty, .string ByteArray.empty], .int .i64 2]) ∧ Below W.heap.size W w'))) : Calls Try.prog 6 #[.agg #[.string p0, .string p1], .agg #[.string p0, .string p1], .string s] w0 (LawPost w0) := by
  have HB1 := (Below.refl w0.heap.size w0).alloc (Nat.le_refl _) (.cells #[.string p0, .string p1] 23)
  have HX := hideL ((NBox.new w0 p0 p1).next ((Below.refl _ _).alloc (Nat.le_refl _) (.cells #[.string p0, .string p1] 23)))
  have HY := NBox.new (w0.alloc (.cells #[.string p0, .string p1] 23)) p0 p1
  rw [World.size_alloc] at HY
  replace HY := hideL HY
  have HB := hideL (HB1.alloc HB1.size (.cells #[.string p0, .string p1] 23))
  have HE := hideL (hE.below HB.out)
  clear HB1 hE
  have ep0 := eqs_true (rfl : p0 = p0)
  have ep1 := eqs_true (rfl : p1 = p1)
  have ess := eqs_true (rfl : s = s)
  have epa := eqs_true (rfl : pa = pa)
  have x0 := HX.out.c0
  have x1 := HX.out.c1
  have y0 := HY.out.c0
  have y1 := HY.out.c1
  go_enter Try.func6, Try.ntmps6
  go_wp2_with (first
    | (go_at_call 15; with_reducible refine (LPA.out _).mono ?_; clear LPA; rintro e w2 ⟨rfl, hB2⟩; have HB2 := hideL (HB.out.trans (hB2.mono HB.out.size)); have HX2 := hideL (HX.out.next hB2); have HY2 := hideL (HY.out.next hB2); have HE2 := hideL (HE.out.below hB2); have x02 := HX2.out.c0; have x12 := HX2.out.c1; have y02 := HY2.out.c0; have y12 := HY2.out.c1; clear hB2)
    | (go_at_call 11; with_reducible refine (LMA.out _).mono ?_; clear LMA; rintro e w3 ⟨rfl, hB3⟩; have HB3 := hideL (HB2.out.trans (hB3.mono HB2.out.size)); have HX3 := hideL (HX2.out.next hB3); have HY3 := hideL (HY2.out.next hB3); have HE3 := hideL (HE2.out.below hB3); have x03 := HX3.out.c0; have x13 := HX3.out.c1; have y03 := HY3.out.c0; have y13 := HY3.out.c1; clear hB3)
    | (go_at_call 17; with_reducible refine (LQ.out _ HE3.out).mono ?_; clear LQ; rintro e w4 ⟨rfl, hB4⟩; have HB4 := hideL (HB3.out.trans (hB4.mono HB3.out.size)); have HX4 := hideL (HX3.out.next hB4); have HY4 := hideL (HY3.out.next hB4); have HE4 := hideL (HE3.out.below hB4); have HC4 := hideL (HB4.out.trans (((Below.refl w4.heap.size w4).alloc (Nat.le_refl _) (.cells #[.string p0, .string p1] 23)).mono HB4.out.size)); have HU4 := hideL (HX4.out.next ((Below.refl w4.heap.size w4).alloc (Nat.le_refl _) (.cells #[.string p0, .string p1] 23))); have HV4 := hideL (HY4.out.next ((Below.refl w4.heap.size w4).alloc (Nat.le_refl _) (.cells #[.string p0, .string p1] 23))); have HF4 := hideL (HE4.out.below ((Below.refl w4.heap.size w4).alloc (Nat.le_refl _) (.cells #[.string p0, .string p1] 23))); have HN4 := hideL (NBox.new w4 p0 p1); have n04 := HN4.out.c0; have n14 := HN4.out.c1; have x04 := HU4.out.c0; have x14 := HU4.out.c1; have y04 := HV4.out.c0; have y14 := HV4.out.c1; clear hB4)
    | (go_at_call 15; with_reducible refine (LPB.out _).mono ?_; clear LPB; rintro e w5 ⟨rfl, hB5⟩; have HB5 := hideL (HC4.out.trans (hB5.mono HC4.out.size)); have HX5 := hideL (HU4.out.next hB5); have HY5 := hideL (HV4.out.next hB5); have HE5 := hideL (HF4.out.below hB5); have x05 := HX5.out.c0; have x15 := HX5.out.c1; have y05 := HY5.out.c0; have y15 := HY5.out.c1; clear hB5)
    | (go_at_call 17; with_reducible refine (LS.out _ HE5.out).mono ?_; clear LS; rintro e w6 ⟨rfl, hB6⟩; have HB6 := hideL (HB5.out.trans (hB6.mono HB5.out.size)); have HX6 := hideL (HX5.out.next hB6); have HY6 := hideL (HY5.out.next hB6); have HE6 := hideL (HE5.out.below hB6); have HC6 := hideL (HB6.out.trans (((Below.refl w6.heap.size w6).alloc (Nat.le_refl _) (.cells #[.string ByteArray.empty, .string ByteArray.empty] 23)).mono HB6.out.size)); have HU6 := hideL (HX6.out.next ((Below.refl w6.heap.size w6).alloc (Nat.le_refl _) (.cells #[.string ByteArray.empty, .string ByteArray.empty] 23))); have HV6 := hideL (HY6.out.next ((Below.refl w6.heap.size w6).alloc (Nat.le_refl _) (.cells #[.string ByteArray.empty, .string ByteArray.empty] 23))); have HF6 := hideL (HE6.out.below ((Below.refl w6.heap.size w6).alloc (Nat.le_refl _) (.cells #[.string ByteArray.empty, .string ByteArray.empty] 23))); have HN6 := hideL (NBox.new w6 ByteArray.empty ByteArray.empty); have n06 := HN6.out.c0; have n16 := HN6.out.c1; have x06 := HU6.out.c0; have x16 := HU6.out.c1; have y06 := HV6.out.c0; have y16 := HV6.out.c1; clear hB6)
    | (go_at_call 8; with_reducible refine (awake_any _ HF6.out).mono ?_; rintro e w7 ⟨rfl, hB7⟩))
  go_ret
  exact ⟨rfl, HC6.out.trans (hB7.mono HC6.out.size)⟩

set_option maxRecDepth 100000 in
set_option maxHeartbeats 1000000 in
theorem back_11eq1 (w0 : World) (hE : Env w0) (s : ByteArray) (hs : ¬ (1000 : Int) < s.size) (hs2 : s.size ≤ 100000) (p0 p1 : ByteArray)
    (pa : ByteArray) (h64 : ¬ (64 : Int) < pa.size)
    (LPA : HidL (∀ W : World, Calls Try.prog 15 #[.agg #[.string p0, .string p1]] W (fun e w' => e = .returned (.tuple #[.string pa, .int .i64 0]) ∧ Below W.heap.size W w')))
    (LMA : HidL (∀ W : World, Calls Try.prog 11 #[.agg #[.string p0, .string p1]] W (fun e w' => e = .returned (.bool true) ∧ Below W.heap.size W w')))
    (LQ : HidL (∀ W : World, Env W → Calls Try.prog 17 #[.string pa] W (fun e w' => e = .returned (.tuple #[.agg #[.string p0, .string p1], .int .i64 0]) ∧ Below W.heap.size W w')))
    (LPB : HidL (∀ W : World, Calls Try.prog 15 #[.agg #[.string p0, .string p1]] W (fun e w' => e = .returned (.tuple #[.string pa, .int .i64 0]) ∧ Below W.heap.size W w')))
    (m0 m1 : ByteArray)
    (LS : HidL (∀ W : World, Env W → Calls Try.prog 17 #[.string s] W (fun e w' => e = .returned (.tuple #[.agg #[.string m0, .string m1], .int .i64 0]) ∧ Below W.heap.size W w')))
    (LPM : HidL (∀ W : World, Calls Try.prog 15 #[.agg #[.string m0, .string m1]] W (fun e w' => e = .returned (.tuple #[.string s, .int .i64 0]) ∧ Below W.heap.size W w')))
    (LMM : HidL (∀ W : World, Calls Try.prog 11 #[.agg #[.string m0, .string m1]] W (fun e w' => e = .returned (.bool true) ∧ Below W.heap.size W w'))) : Calls Try.prog 6 #[.agg #[.string p0, .string p1], .agg #[.string p0, .string p1], .string s] w0 (LawPost w0) := by
  have HB1 := (Below.refl w0.heap.size w0).alloc (Nat.le_refl _) (.cells #[.string p0, .string p1] 23)
  have HX := hideL ((NBox.new w0 p0 p1).next ((Below.refl _ _).alloc (Nat.le_refl _) (.cells #[.string p0, .string p1] 23)))
  have HY := NBox.new (w0.alloc (.cells #[.string p0, .string p1] 23)) p0 p1
  rw [World.size_alloc] at HY
  replace HY := hideL HY
  have HB := hideL (HB1.alloc HB1.size (.cells #[.string p0, .string p1] 23))
  have HE := hideL (hE.below HB.out)
  clear HB1 hE
  have ep0 := eqs_true (rfl : p0 = p0)
  have ep1 := eqs_true (rfl : p1 = p1)
  have ess := eqs_true (rfl : s = s)
  have epa := eqs_true (rfl : pa = pa)
  have x0 := HX.out.c0
  have x1 := HX.out.c1
  have y0 := HY.out.c0
  have y1 := HY.out.c1
  go_enter Try.func6, Try.ntmps6
  go_wp2_with (first
    | (go_at_call 15; with_reducible refine (LPA.out _).mono ?_; clear LPA; rintro e w2 ⟨rfl, hB2⟩; have HB2 := hideL (HB.out.trans (hB2.mono HB.out.size)); have HX2 := hideL (HX.out.next hB2); have HY2 := hideL (HY.out.next hB2); have HE2 := hideL (HE.out.below hB2); have x02 := HX2.out.c0; have x12 := HX2.out.c1; have y02 := HY2.out.c0; have y12 := HY2.out.c1; clear hB2)
    | (go_at_call 11; with_reducible refine (LMA.out _).mono ?_; clear LMA; rintro e w3 ⟨rfl, hB3⟩; have HB3 := hideL (HB2.out.trans (hB3.mono HB2.out.size)); have HX3 := hideL (HX2.out.next hB3); have HY3 := hideL (HY2.out.next hB3); have HE3 := hideL (HE2.out.below hB3); have x03 := HX3.out.c0; have x13 := HX3.out.c1; have y03 := HY3.out.c0; have y13 := HY3.out.c1; clear hB3)
    | (go_at_call 17; with_reducible refine (LQ.out _ HE3.out).mono ?_; clear LQ; rintro e w4 ⟨rfl, hB4⟩; have HB4 := hideL (HB3.out.trans (hB4.mono HB3.out.size)); have HX4 := hideL (HX3.out.next hB4); have HY4 := hideL (HY3.out.next hB4); have HE4 := hideL (HE3.out.below hB4); have HC4 := hideL (HB4.out.trans (((Below.refl w4.heap.size w4).alloc (Nat.le_refl _) (.cells #[.string p0, .string p1] 23)).mono HB4.out.size)); have HU4 := hideL (HX4.out.next ((Below.refl w4.heap.size w4).alloc (Nat.le_refl _) (.cells #[.string p0, .string p1] 23))); have HV4 := hideL (HY4.out.next ((Below.refl w4.heap.size w4).alloc (Nat.le_refl _) (.cells #[.string p0, .string p1] 23))); have HF4 := hideL (HE4.out.below ((Below.refl w4.heap.size w4).alloc (Nat.le_refl _) (.cells #[.string p0, .string p1] 23))); have HN4 := hideL (NBox.new w4 p0 p1); have n04 := HN4.out.c0; have n14 := HN4.out.c1; have x04 := HU4.out.c0; have x14 := HU4.out.c1; have y04 := HV4.out.c0; have y14 := HV4.out.c1; clear hB4)
    | (go_at_call 15; with_reducible refine (LPB.out _).mono ?_; clear LPB; rintro e w5 ⟨rfl, hB5⟩; have HB5 := hideL (HC4.out.trans (hB5.mono HC4.out.size)); have HX5 := hideL (HU4.out.next hB5); have HY5 := hideL (HV4.out.next hB5); have HE5 := hideL (HF4.out.below hB5); have x05 := HX5.out.c0; have x15 := HX5.out.c1; have y05 := HY5.out.c0; have y15 := HY5.out.c1; clear hB5)
    | (go_at_call 17; with_reducible refine (LS.out _ HE5.out).mono ?_; clear LS; rintro e w6 ⟨rfl, hB6⟩; have HB6 := hideL (HB5.out.trans (hB6.mono HB5.out.size)); have HX6 := hideL (HX5.out.next hB6); have HY6 := hideL (HY5.out.next hB6); have HE6 := hideL (HE5.out.below hB6); have HC6 := hideL (HB6.out.trans (((Below.refl w6.heap.size w6).alloc (Nat.le_refl _) (.cells #[.string m0, .string m1] 23)).mono HB6.out.size)); have HU6 := hideL (HX6.out.next ((Below.refl w6.heap.size w6).alloc (Nat.le_refl _) (.cells #[.string m0, .string m1] 23))); have HV6 := hideL (HY6.out.next ((Below.refl w6.heap.size w6).alloc (Nat.le_refl _) (.cells #[.string m0, .string m1] 23))); have HF6 := hideL (HE6.out.below ((Below.refl w6.heap.size w6).alloc (Nat.le_refl _) (.cells #[.string m0, .string m1] 23))); have HN6 := hideL (NBox.new w6 m0 m1); have n06 := HN6.out.c0; have n16 := HN6.out.c1; have x06 := HU6.out.c0; have x16 := HU6.out.c1; have y06 := HV6.out.c0; have y16 := HV6.out.c1; clear hB6)
    | (go_at_call 15; with_reducible refine (LPM.out _).mono ?_; clear LPM; rintro e w7 ⟨rfl, hB7⟩; have HB7 := hideL (HC6.out.trans (hB7.mono HC6.out.size)); have HX7 := hideL (HU6.out.next hB7); have HY7 := hideL (HV6.out.next hB7); have HE7 := hideL (HF6.out.below hB7); have HM7 := hideL (HN6.out.next hB7); have m07 := HM7.out.c0; have m17 := HM7.out.c1; have x07 := HX7.out.c0; have x17 := HX7.out.c1; have y07 := HY7.out.c0; have y17 := HY7.out.c1; clear hB7)
    | (go_at_call 11; with_reducible refine (LMM.out _).mono ?_; clear LMM; rintro e w8 ⟨rfl, hB8⟩; have HB8 := hideL (HB7.out.trans (hB8.mono HB7.out.size)); have HX8 := hideL (HX7.out.next hB8); have HY8 := hideL (HY7.out.next hB8); have HE8 := hideL (HE7.out.below hB8); have HM8 := hideL (HM7.out.next hB8); have m08 := HM8.out.c0; have m18 := HM8.out.c1; have x08 := HX8.out.c0; have x18 := HX8.out.c1; have y08 := HY8.out.c0; have y18 := HY8.out.c1; clear hB8)
    | (go_at_call 8; with_reducible refine (awake_any _ HE8.out).mono ?_; rintro e w9 ⟨rfl, hB9⟩))
  go_ret
  exact ⟨rfl, HB8.out.trans (hB9.mono HB8.out.size)⟩

set_option maxRecDepth 100000 in
set_option maxHeartbeats 1000000 in
theorem back_11ns0 (w0 : World) (hE : Env w0) (s : ByteArray) (hs : ¬ (1000 : Int) < s.size) (hs2 : s.size ≤ 100000) (p0 p1 q0 q1 : ByteArray)
    (pa : ByteArray) (h64 : ¬ (64 : Int) < pa.size)
    (pb : ByteArray)
    (hpq : (pa.toList == pb.toList) = false) (hq : (p0.toList == q0.toList) = false)
    (LPA : HidL (∀ W : World, Calls Try.prog 15 #[.agg #[.string p0, .string p1]] W (fun e w' => e = .returned (.tuple #[.string pa, .int .i64 0]) ∧ Below W.heap.size W w')))
    (LMA : HidL (∀ W : World, Calls Try.prog 11 #[.agg #[.string p0, .string p1]] W (fun e w' => e = .returned (.bool true) ∧ Below W.heap.size W w')))
    (LQ : HidL (∀ W : World, Env W → Calls Try.prog 17 #[.string pa] W (fun e w' => e = .returned (.tuple #[.agg #[.string p0, .string p1], .int .i64 0]) ∧ Below W.heap.size W w')))
    (LPB : HidL (∀ W : World, Calls Try.prog 15 #[.agg #[.string q0, .string q1]] W (fun e w' => e = .returned (.tuple #[.string pb, .int .i64 0]) ∧ Below W.heap.size W w')))
    (LS : HidL (∀ W : World, Env W → Calls Try.prog 17 #[.string s] W (fun e w' => e = .returned (.tuple #[.agg #[.string ByteArray.empty, .string ByteArray.empty], .int .i64 2]) ∧ Below W.heap.size W w'))) : Calls Try.prog 6 #[.agg #[.string p0, .string p1], .agg #[.string q0, .string q1], .string s] w0 (LawPost w0) := by
  have HB1 := (Below.refl w0.heap.size w0).alloc (Nat.le_refl _) (.cells #[.string p0, .string p1] 23)
  have HX := hideL ((NBox.new w0 p0 p1).next ((Below.refl _ _).alloc (Nat.le_refl _) (.cells #[.string q0, .string q1] 23)))
  have HY := NBox.new (w0.alloc (.cells #[.string p0, .string p1] 23)) q0 q1
  rw [World.size_alloc] at HY
  replace HY := hideL HY
  have HB := hideL (HB1.alloc HB1.size (.cells #[.string q0, .string q1] 23))
  have HE := hideL (hE.below HB.out)
  clear HB1 hE
  have ep0 := eqs_true (rfl : p0 = p0)
  have ep1 := eqs_true (rfl : p1 = p1)
  have ess := eqs_true (rfl : s = s)
  have epa := eqs_true (rfl : pa = pa)
  have x0 := HX.out.c0
  have x1 := HX.out.c1
  have y0 := HY.out.c0
  have y1 := HY.out.c1
  go_enter Try.func6, Try.ntmps6
  go_wp2_with (first
    | (go_at_call 15; with_reducible refine (LPA.out _).mono ?_; clear LPA; rintro e w2 ⟨rfl, hB2⟩; have HB2 := hideL (HB.out.trans (hB2.mono HB.out.size)); have HX2 := hideL (HX.out.next hB2); have HY2 := hideL (HY.out.next hB2); have HE2 := hideL (HE.out.below hB2); have x02 := HX2.out.c0; have x12 := HX2.out.c1; have y02 := HY2.out.c0; have y12 := HY2.out.c1; clear hB2)
    | (go_at_call 11; with_reducible refine (LMA.out _).mono ?_; clear LMA; rintro e w3 ⟨rfl, hB3⟩; have HB3 := hideL (HB2.out.trans (hB3.mono HB2.out.size)); have HX3 := hideL (HX2.out.next hB3); have HY3 := hideL (HY2.out.next hB3); have HE3 := hideL (HE2.out.below hB3); have x03 := HX3.out.c0; have x13 := HX3.out.c1; have y03 := HY3.out.c0; have y13 := HY3.out.c1; clear hB3)
    | (go_at_call 17; with_reducible refine (LQ.out _ HE3.out).mono ?_; clear LQ; rintro e w4 ⟨rfl, hB4⟩; have HB4 := hideL (HB3.out.trans (hB4.mono HB3.out.size)); have HX4 := hideL (HX3.out.next hB4); have HY4 := hideL (HY3.out.next hB4); have HE4 := hideL (HE3.out.below hB4); have HC4 := hideL (HB4.out.trans (((Below.refl w4.heap.size w4).alloc (Nat.le_refl _) (.cells #[.string p0, .string p1] 23)).mono HB4.out.size)); have HU4 := hideL (HX4.out.next ((Below.refl w4.heap.size w4).alloc (Nat.le_refl _) (.cells #[.string p0, .string p1] 23))); have HV4 := hideL (HY4.out.next ((Below.refl w4.heap.size w4).alloc (Nat.le_refl _) (.cells #[.string p0, .string p1] 23))); have HF4 := hideL (HE4.out.below ((Below.refl w4.heap.size w4).alloc (Nat.le_refl _) (.cells #[.string p0, .string p1] 23))); have HN4 := hideL (NBox.new w4 p0 p1); have n04 := HN4.out.c0; have n14 := HN4.out.c1; have x04 := HU4.out.c0; have x14 := HU4.out.c1; have y04 := HV4.out.c0; have y14 := HV4.out.c1; clear hB4)
    | (go_at_call 15; with_reducible refine (LPB.out _).mono ?_; clear LPB; rintro e w5 ⟨rfl, hB5⟩; have HB5 := hideL (HC4.out.trans (hB5.mono HC4.out.size)); have HX5 := hideL (HU4.out.next hB5); have HY5 := hideL (HV4.out.next hB5); have HE5 := hideL (HF4.out.below hB5); have x05 := HX5.out.c0; have x15 := HX5.out.c1; have y05 := HY5.out.c0; have y15 := HY5.out.c1; clear hB5)
    | (go_at_call 17; with_reducible refine (LS.out _ HE5.out).mono ?_; clear LS; rintro e w6 ⟨rfl, hB6⟩; have HB6 := hideL (HB5.out.trans (hB6.mono HB5.out.size)); have HX6 := hideL (HX5.out.next hB6); have HY6 := hideL (HY5.out.next hB6); have HE6 := hideL (HE5.out.below hB6); have HC6 := hideL (HB6.out.trans (((Below.refl w6.heap.size w6).alloc (Nat.le_refl _) (.cells #[.string ByteArray.empty, .string ByteArray.empty] 23)).mono HB6.out.size)); have HU6 := hideL (HX6.out.next ((Below.refl w6.heap.size w6).alloc (Nat.le_refl _) (.cells #[.string ByteArray.empty, .string ByteArray.empty] 23))); have HV6 := hideL (HY6.out.next ((Below.refl w6.heap.size w6).alloc (Nat.le_refl _) (.cells #[.string ByteArray.empty, .string ByteArray.empty] 23))); have HF6 := hideL (HE6.out.below ((Below.refl w6.heap.size w6).alloc (Nat.le_refl _) (.cells #[.string ByteArray.empty, .string ByteArray.empty] 23))); have HN6 := hideL (NBox.new w6 ByteArray.empty ByteArray.empty); have n06 := HN6.out.c0; have n16 := HN6.out.c1; have x06 := HU6.out.c0; have x16 := HU6.out.c1; have y06 := HV6.out.c0; have y16 := HV6.out.c1; clear hB6)
    | (go_at_call 8; with_reducible refine (awake_any _ HF6.out).mono ?_; rintro e w7 ⟨rfl, hB7⟩))
  go_ret
  exact ⟨rfl, HC6.out.trans (hB7.mono HC6.out.size)⟩

set_option maxRecDepth 100000 in
set_option maxHeartbeats 1000000 in
theorem back_11ns1 (w0 : World) (hE : Env w0) (s : ByteArray) (hs : ¬ (1000 : Int) < s.size) (hs2 : s.size ≤ 100000) (p0 p1 q0 q1 : ByteArray)
    (pa : ByteArray) (h64 : ¬ (64 : Int) < pa.size)
    (pb : ByteArray)
    (hpq : (pa.toList == pb.toList) = false) (hq : (p0.toList == q0.toList) = false)
    (LPA : HidL (∀ W : World, Calls Try.prog 15 #[.agg #[.string p0, .string p1]] W (fun e w' => e = .returned (.tuple #[.string pa, .int .i64 0]) ∧ Below W.heap.size W w')))
    (LMA : HidL (∀ W : World, Calls Try.prog 11 #[.agg #[.string p0, .string p1]] W (fun e w' => e = .returned (.bool true) ∧ Below W.heap.size W w')))
    (LQ : HidL (∀ W : World, Env W → Calls Try.prog 17 #[.string pa] W (fun e w' => e = .returned (.tuple #[.agg #[.string p0, .string p1], .int .i64 0]) ∧ Below W.heap.size W w')))
    (LPB : HidL (∀ W : World, Calls Try.prog 15 #[.agg #[.string q0, .string q1]] W (fun e w' => e = .returned (.tuple #[.string pb, .int .i64 0]) ∧ Below W.heap.size W w')))
    (m0 m1 : ByteArray)
    (LS : HidL (∀ W : World, Env W → Calls Try.prog 17 #[.string s] W (fun e w' => e = .returned (.tuple #[.agg #[.string m0, .string m1], .int .i64 0]) ∧ Below W.heap.size W w')))
    (LPM : HidL (∀ W : World, Calls Try.prog 15 #[.agg #[.string m0, .string m1]] W (fun e w' => e = .returned (.tuple #[.string s, .int .i64 0]) ∧ Below W.heap.size W w')))
    (LMM : HidL (∀ W : World, Calls Try.prog 11 #[.agg #[.string m0, .string m1]] W (fun e w' => e = .returned (.bool true) ∧ Below W.heap.size W w'))) : Calls Try.prog 6 #[.agg #[.string p0, .string p1], .agg #[.string q0, .string q1], .string s] w0 (LawPost w0) := by
  have HB1 := (Below.refl w0.heap.size w0).alloc (Nat.le_refl _) (.cells #[.string p0, .string p1] 23)
  have HX := hideL ((NBox.new w0 p0 p1).next ((Below.refl _ _).alloc (Nat.le_refl _) (.cells #[.string q0, .string q1] 23)))
  have HY := NBox.new (w0.alloc (.cells #[.string p0, .string p1] 23)) q0 q1
  rw [World.size_alloc] at HY
  replace HY := hideL HY
  have HB := hideL (HB1.alloc HB1.size (.cells #[.string q0, .string q1] 23))
  have HE := hideL (hE.below HB.out)
  clear HB1 hE
  have ep0 := eqs_true (rfl : p0 = p0)
  have ep1 := eqs_true (rfl : p1 = p1)
  have ess := eqs_true (rfl : s = s)
  have epa := eqs_true (rfl : pa = pa)
  have x0 := HX.out.c0
  have x1 := HX.out.c1
  have y0 := HY.out.c0
  have y1 := HY.out.c1
  go_enter Try.func6, Try.ntmps6
  go_wp2_with (first
    | (go_at_call 15; with_reducible refine (LPA.out _).mono ?_; clear LPA; rintro e w2 ⟨rfl, hB2⟩; have HB2 := hideL (HB.out.trans (hB2.mono HB.out.size)); have HX2 := hideL (HX.out.next hB2); have HY2 := hideL (HY.out.next hB2); have HE2 := hideL (HE.out.below hB2); have x02 := HX2.out.c0; have x12 := HX2.out.c1; have y02 := HY2.out.c0; have y12 := HY2.out.c1; clear hB2)
    | (go_at_call 11; with_reducible refine (LMA.out _).mono ?_; clear LMA; rintro e w3 ⟨rfl, hB3⟩; have HB3 := hideL (HB2.out.trans (hB3.mono HB2.out.size)); have HX3 := hideL (HX2.out.next hB3); have HY3 := hideL (HY2.out.next hB3); have HE3 := hideL (HE2.out.below hB3); have x03 := HX3.out.c0; have x13 := HX3.out.c1; have y03 := HY3.out.c0; have y13 := HY3.out.c1; clear hB3)
    | (go_at_call 17; with_reducible refine (LQ.out _ HE3.out).mono ?_; clear LQ; rintro e w4 ⟨rfl, hB4⟩; have HB4 := hideL (HB3.out.trans (hB4.mono HB3.out.size)); have HX4 := hideL (HX3.out.next hB4); have HY4 := hideL (HY3.out.next hB4); have HE4 := hideL (HE3.out.below hB4); have HC4 := hideL (HB4.out.trans (((Below.refl w4.heap.size w4).alloc (Nat.le_refl _) (.cells #[.string p0, .string p1] 23)).mono HB4.out.size)); have HU4 := hideL (HX4.out.next ((Below.refl w4.heap.size w4).alloc (Nat.le_refl _) (.cells #[.string p0, .string p1] 23))); have HV4 := hideL (HY4.out.next ((Below.refl w4.heap.size w4).alloc (Nat.le_refl _) (.cells #[.string p0, .string p1] 23))); have HF4 := hideL (HE4.out.below ((Below.refl w4.heap.size w4).alloc (Nat.le_refl _) (.cells #[.string p0, .string p1] 23))); have HN4 := hideL (NBox.new w4 p0 p1); have n04 := HN4.out.c0; have n14 := HN4.out.c1; have x04 := HU4.out.c0; have x14 := HU4.out.c1; have y04 := HV4.out.c0; have y14 := HV4.out.c1; clear hB4)
    | (go_at_call 15; with_reducible refine (LPB.out _).mono ?_; clear LPB; rintro e w5 ⟨rfl, hB5⟩; have HB5 := hideL (HC4.out.trans (hB5.mono HC4.out.size)); have HX5 := hideL (HU4.out.next hB5); have HY5 := hideL (HV4.out.next hB5); have HE5 := hideL (HF4.out.below hB5); have x05 := HX5.out.c0; have x15 := HX5.out.c1; have y05 := HY5.out.c0; have y15 := HY5.out.c1; clear hB5)
    | (go_at_call 17; with_reducible refine (LS.out _ HE5.out).mono ?_; clear LS; rintro e w6 ⟨rfl, hB6⟩; have HB6 := hideL (HB5.out.trans (hB6.mono HB5.out.size)); have HX6 := hideL (HX5.out.next hB6); have HY6 := hideL (HY5.out.next hB6); have HE6 := hideL (HE5.out.below hB6); have HC6 := hideL (HB6.out.trans (((Below.refl w6.heap.size w6).alloc (Nat.le_refl _) (.cells #[.string m0, .string m1] 23)).mono HB6.out.size)); have HU6 := hideL (HX6.out.next ((Below.refl w6.heap.size w6).alloc (Nat.le_refl _) (.cells #[.string m0, .string m1] 23))); have HV6 := hideL (HY6.out.next ((Below.refl w6.heap.size w6).alloc (Nat.le_refl _) (.cells #[.string m0, .string m1] 23))); have HF6 := hideL (HE6.out.below ((Below.refl w6.heap.size w6).alloc (Nat.le_refl _) (.cells #[.string m0, .string m1] 23))); have HN6 := hideL (NBox.new w6 m0 m1); have n06 := HN6.out.c0; have n16 := HN6.out.c1; have x06 := HU6.out.c0; have x16 := HU6.out.c1; have y06 := HV6.out.c0; have y16 := HV6.out.c1; clear hB6)
    | (go_at_call 15; with_reducible refine (LPM.out _).mono ?_; clear LPM; rintro e w7 ⟨rfl, hB7⟩; have HB7 := hideL (HC6.out.trans (hB7.mono HC6.out.size)); have HX7 := hideL (HU6.out.next hB7); have HY7 := hideL (HV6.out.next hB7); have HE7 := hideL (HF6.out.below hB7); have HM7 := hideL (HN6.out.next hB7); have m07 := HM7.out.c0; have m17 := HM7.out.c1; have x07 := HX7.out.c0; have x17 := HX7.out.c1; have y07 := HY7.out.c0; have y17 := HY7.out.c1; clear hB7)
    | (go_at_call 11; with_reducible refine (LMM.out _).mono ?_; clear LMM; rintro e w8 ⟨rfl, hB8⟩; have HB8 := hideL (HB7.out.trans (hB8.mono HB7.out.size)); have HX8 := hideL (HX7.out.next hB8); have HY8 := hideL (HY7.out.next hB8); have HE8 := hideL (HE7.out.below hB8); have HM8 := hideL (HM7.out.next hB8); have m08 := HM8.out.c0; have m18 := HM8.out.c1; have x08 := HX8.out.c0; have x18 := HX8.out.c1; have y08 := HY8.out.c0; have y18 := HY8.out.c1; clear hB8)
    | (go_at_call 8; with_reducible refine (awake_any _ HE8.out).mono ?_; rintro e w9 ⟨rfl, hB9⟩))
  go_ret
  exact ⟨rfl, HB8.out.trans (hB9.mono HB8.out.size)⟩

set_option maxRecDepth 100000 in
set_option maxHeartbeats 1000000 in
theorem back_11sa0 (w0 : World) (hE : Env w0) (s : ByteArray) (hs : ¬ (1000 : Int) < s.size) (hs2 : s.size ≤ 100000) (p0 p1 q1 : ByteArray)
    (pa : ByteArray) (h64 : ¬ (64 : Int) < pa.size)
    (pb : ByteArray)
    (hpq : (pa.toList == pb.toList) = false) (hq : (p1.toList == q1.toList) = false)
    (LPA : HidL (∀ W : World, Calls Try.prog 15 #[.agg #[.string p0, .string p1]] W (fun e w' => e = .returned (.tuple #[.string pa, .int .i64 0]) ∧ Below W.heap.size W w')))
    (LMA : HidL (∀ W : World, Calls Try.prog 11 #[.agg #[.string p0, .string p1]] W (fun e w' => e = .returned (.bool true) ∧ Below W.heap.size W w')))
    (LQ : HidL (∀ W : World, Env W → Calls Try.prog 17 #[.string pa] W (fun e w' => e = .returned (.tuple #[.agg #[.string p0, .string p1], .int .i64 0]) ∧ Below W.heap.size W w')))
    (LPB : HidL (∀ W : World, Calls Try.prog 15 #[.agg #[.string p0, .string q1]] W (fun e w' => e = .returned (.tuple #[.string pb, .int .i64 0]) ∧ Below W.heap.size W w')))
    (LS : HidL (∀ W : World, Env W → Calls Try.prog 17 #[.string s] W (fun e w' => e = .returned (.tuple #[.agg #[.string ByteArray.empty, .string ByteArray.empty], .int .i64 2]) ∧ Below W.heap.size W w'))) : Calls Try.prog 6 #[.agg #[.string p0, .string p1], .agg #[.string p0, .string q1], .string s] w0 (LawPost w0) := by
  have HB1 := (Below.refl w0.heap.size w0).alloc (Nat.le_refl _) (.cells #[.string p0, .string p1] 23)
  have HX := hideL ((NBox.new w0 p0 p1).next ((Below.refl _ _).alloc (Nat.le_refl _) (.cells #[.string p0, .string q1] 23)))
  have HY := NBox.new (w0.alloc (.cells #[.string p0, .string p1] 23)) p0 q1
  rw [World.size_alloc] at HY
  replace HY := hideL HY
  have HB := hideL (HB1.alloc HB1.size (.cells #[.string p0, .string q1] 23))
  have HE := hideL (hE.below HB.out)
  clear HB1 hE
  have ep0 := eqs_true (rfl : p0 = p0)
  have ep1 := eqs_true (rfl : p1 = p1)
  have ess := eqs_true (rfl : s = s)
  have epa := eqs_true (rfl : pa = pa)
  have x0 := HX.out.c0
  have x1 := HX.out.c1
  have y0 := HY.out.c0
  have y1 := HY.out.c1
  go_enter Try.func6, Try.ntmps6
  go_wp2_with (first
    | (go_at_call 15; with_reducible refine (LPA.out _).mono ?_; clear LPA; rintro e w2 ⟨rfl, hB2⟩; have HB2 := hideL (HB.out.trans (hB2.mono HB.out.size)); have HX2 := hideL (HX.out.next hB2); have HY2 := hideL (HY.out.next hB2); have HE2 := hideL (HE.out.below hB2); have x02 := HX2.out.c0; have x12 := HX2.out.c1; have y02 := HY2.out.c0; have y12 := HY2.out.c1; clear hB2)
    | (go_at_call 11; with_reducible refine (LMA.out _).mono ?_; clear LMA; rintro e w3 ⟨rfl, hB3⟩; have HB3 := hideL (HB2.out.trans (hB3.mono HB2.out.size)); have HX3 := hideL (HX2.out.next hB3); have HY3 := hideL (HY2.out.next hB3); have HE3 := hideL (HE2.out.below hB3); have x03 := HX3.out.c0; have x13 := HX3.out.c1; have y03 := HY3.out.c0; have y13 := HY3.out.c1; clear hB3)
    | (go_at_call 17; with_reducible refine (LQ.out _ HE3.out).mono ?_; clear LQ; rintro e w4 ⟨rfl, hB4⟩; have HB4 := hideL (HB3.out.trans (hB4.mono HB3.out.size)); have HX4 := hideL (HX3.out.next hB4); have HY4 := hideL (HY3.out.next hB4); have HE4 := hideL (HE3.out.below hB4); have HC4 := hideL (HB4.out.trans (((Below.refl w4.heap.size w4).alloc (Nat.le_refl _) (.cells #[.string p0, .string p1] 23)).mono HB4.out.size)); have HU4 := hideL (HX4.out.next ((Below.refl w4.heap.size w4).alloc (Nat.le_refl _) (.cells #[.string p0, .string p1] 23))); have HV4 := hideL (HY4.out.next ((Below.refl w4.heap.size w4).alloc (Nat.le_refl _) (.cells #[.string p0, .string p1] 23))); have HF4 := hideL (HE4.out.below ((Below.refl w4.heap.size w4).alloc (Nat.le_refl _) (.cells #[.string p0, .string p1] 23))); have HN4 := hideL (NBox.new w4 p0 p1); have n04 := HN4.out.c0; have n14 := HN4.out.c1; have x04 := HU4.out.c0; have x14 := HU4.out.c1; have y04 := HV4.out.c0; have y14 := HV4.out.c1; clear hB4)
    | (go_at_call 15; with_reducible refine (LPB.out _).mono ?_; clear LPB; rintro e w5 ⟨rfl, hB5⟩; have HB5 := hideL (HC4.out.trans (hB5.mono HC4.out.size)); have HX5 := hideL (HU4.out.next hB5); have HY5 := hideL (HV4.out.next hB5); have HE5 := hideL (HF4.out.below hB5); have x05 := HX5.out.c0; have x15 := HX5.out.c1; have y05 := HY5.out.c0; have y15 := HY5.out.c1; clear hB5)
    | (go_at_call 17; with_reducible refine (LS.out _ HE5.out).mono ?_; clear LS; rintro e w6 ⟨rfl, hB6⟩; have HB6 := hideL (HB5.out.trans (hB6.mono HB5.out.size)); have HX6 := hideL (HX5.out.next hB6); have HY6 := hideL (HY5.out.next hB6); have HE6 := hideL (HE5.out.below hB6); have HC6 := hideL (HB6.out.trans (((Below.refl w6.heap.size w6).alloc (Nat.le_refl _) (.cells #[.string ByteArray.empty, .string ByteArray.empty] 23)).mono HB6.out.size)); have HU6 := hideL (HX6.out.next ((Below.refl w6.heap.size w6).alloc (Nat.le_refl _) (.cells #[.string ByteArray.empty, .string ByteArray.empty] 23))); have HV6 := hideL (HY6.out.next ((Below.refl w6.heap.size w6).alloc (Nat.le_refl _) (.cells #[.string ByteArray.empty, .string ByteArray.empty] 23))); have HF6 := hideL (HE6.out.below ((Below.refl w6.heap.size w6).alloc (Nat.le_refl _) (.cells #[.string ByteArray.empty, .string ByteArray.empty] 23))); have HN6 := hideL (NBox.new w6 ByteArray.empty ByteArray.empty); have n06 := HN6.out.c0; have n16 := HN6.out.c1; have x06 := HU6.out.c0; have x16 := HU6.out.c1; have y06 := HV6.out.c0; have y16 := HV6.out.c1; clear hB6)
    | (go_at_call 8; with_reducible refine (awake_any _ HF6.out).mono ?_; rintro e w7 ⟨rfl, hB7⟩))
  go_ret
  exact ⟨rfl, HC6.out.trans (hB7.mono HC6.out.size)⟩

set_option maxRecDepth 100000 in
set_option maxHeartbeats 1000000 in
theorem back_11sa1 (w0 : World) (hE : Env w0) (s : ByteArray) (hs : ¬ (1000 : Int) < s.size) (hs2 : s.size ≤ 100000) (p0 p1 q1 : ByteArray)
    (pa : ByteArray) (h64 : ¬ (64 : Int) < pa.size)
    (pb : ByteArray)
    (hpq : (pa.toList == pb.toList) = false) (hq : (p1.toList == q1.toList) = false)
    (LPA : HidL (∀ W : World, Calls Try.prog 15 #[.agg #[.string p0, .string p1]] W (fun e w' => e = .returned (.tuple #[.string pa, .int .i64 0]) ∧ Below W.heap.size W w')))
    (LMA : HidL (∀ W : World, Calls Try.prog 11 #[.agg #[.string p0, .string p1]] W (fun e w' => e = .returned (.bool true) ∧ Below W.heap.size W w')))
    (LQ : HidL (∀ W : World, Env W → Calls Try.prog 17 #[.string pa] W (fun e w' => e = .returned (.tuple #[.agg #[.string p0, .string p1], .int .i64 0]) ∧ Below W.heap.size W w')))
    (LPB : HidL (∀ W : World, Calls Try.prog 15 #[.agg #[.string p0, .string q1]] W (fun e w' => e = .returned (.tuple #[.string pb, .int .i64 0]) ∧ Below W.heap.size W w')))
    (m0 m1 : ByteArray)
    (LS : HidL (∀ W : World, Env W → Calls Try.prog 17 #[.string s] W (fun e w' => e = .returned (.tuple #[.agg #[.string m0, .string m1], .int .i64 0]) ∧ Below W.heap.size W w')))
    (LPM : HidL (∀ W : World, Calls Try.prog 15 #[.agg #[.string m0, .string m1]] W (fun e w' => e = .returned (.tuple #[.string s, .int .i64 0]) ∧ Below W.heap.size W w')))
    (LMM : HidL (∀ W : World, Calls Try.prog 11 #[.agg #[.string m0, .string m1]] W (fun e w' => e = .returned (.bool true) ∧ Below W.heap.size W w'))) : Calls Try.prog 6 #[.agg #[.string p0, .string p1], .agg #[.string p0, .string q1], .string s] w0 (LawPost w0) := by
  have HB1 := (Below.refl w0.heap.size w0).alloc (Nat.le_refl _) (.cells #[.string p0, .string p1] 23)
  have HX := hideL ((NBox.new w0 p0 p1).next ((Below.refl _ _).alloc (Nat.le_refl _) (.cells #[.string p0, .string q1] 23)))
  have HY := NBox.new (w0.alloc (.cells #[.string p0, .string p1] 23)) p0 q1
  rw [World.size_alloc] at HY
  replace HY := hideL HY
  have HB := hideL (HB1.alloc HB1.size (.cells #[.string p0, .string q1] 23))
  have HE := hideL (hE.below HB.out)
  clear HB1 hE
  have ep0 := eqs_true (rfl : p0 = p0)
  have ep1 := eqs_true (rfl : p1 = p1)
  have ess := eqs_true (rfl : s = s)
  have epa := eqs_true (rfl : pa = pa)
  have x0 := HX.out.c0
  have x1 := HX.out.c1
  have y0 := HY.out.c0
  have y1 := HY.out.c1
  go_enter Try.func6, Try.ntmps6
  go_wp2_with (first
    | (go_at_call 15; with_reducible refine (LPA.out _).mono ?_; clear LPA; rintro e w2 ⟨rfl, hB2⟩; have HB2 := hideL (HB.out.trans (hB2.mono HB.out.size)); have HX2 := hideL (HX.out.next hB2); have HY2 := hideL (HY.out.next hB2); have HE2 := hideL (HE.out.below hB2); have x02 := HX2.out.c0; have x12 := HX2.out.c1; have y02 := HY2.out.c0; have y12 := HY2.out.c1; clear hB2)
    | (go_at_call 11; with_reducible refine (LMA.out _).mono ?_; clear LMA; rintro e w3 ⟨rfl, hB3⟩; have HB3 := hideL (HB2.out.trans (hB3.mono HB2.out.size)); have HX3 := hideL (HX2.out.next hB3); have HY3 := hideL (HY2.out.next hB3); have HE3 := hideL (HE2.out.below hB3); have x03 := HX3.out.c0; have x13 := HX3.out.c1; have y03 := HY3.out.c0; have y13 := HY3.out.c1; clear hB3)
    | (go_at_call 17; with_reducible refine (LQ.out _ HE3.out).mono ?_; clear LQ; rintro e w4 ⟨rfl, hB4⟩; have HB4 := hideL (HB3.out.trans (hB4.mono HB3.out.size)); have HX4 := hideL (HX3.out.next hB4); have HY4 := hideL (HY3.out.next hB4); have HE4 := hideL (HE3.out.below hB4); have HC4 := hideL (HB4.out.trans (((Below.refl w4.heap.size w4).alloc (Nat.le_refl _) (.cells #[.string p0, .string p1] 23)).mono HB4.out.size)); have HU4 := hideL (HX4.out.next ((Below.refl w4.heap.size w4).alloc (Nat.le_refl _) (.cells #[.string p0, .string p1] 23))); have HV4 := hideL (HY4.out.next ((Below.refl w4.heap.size w4).alloc (Nat.le_refl _) (.cells #[.string p0, .string p1] 23))); have HF4 := hideL (HE4.out.below ((Below.refl w4.heap.size w4).alloc (Nat.le_refl _) (.cells #[.string p0, .string p1] 23))); have HN4 := hideL (NBox.new w4 p0 p1); have n04 := HN4.out.c0; have n14 := HN4.out.c1; have x04 := HU4.out.c0; have x14 := HU4.out.c1; have y04 := HV4.out.c0; have y14 := HV4.out.c1; clear hB4)
    | (go_at_call 15; with_reducible refine (LPB.out _).mono ?_; clear LPB; rintro e w5 ⟨rfl, hB5⟩; have HB5 := hideL (HC4.out.trans (hB5.mono HC4.out.size)); have HX5 := hideL (HU4.out.next hB5); have HY5 := hideL (HV4.out.next hB5); have HE5 := hideL (HF4.out.below hB5); have x05 := HX5.out.c0; have x15 := HX5.out.c1; have y05 := HY5.out.c0; have y15 := HY5.out.c1; clear hB5)
    | (go_at_call 17; with_reducible refine (LS.out _ HE5.out).mono ?_; clear LS; rintro e w6 ⟨rfl, hB6⟩; have HB6 := hideL (HB5.out.trans (hB6.mono HB5.out.size)); have HX6 := hideL (HX5.out.next hB6); have HY6 := hideL (HY5.out.next hB6); have HE6 := hideL (HE5.out.below hB6); have HC6 := hideL (HB6.out.trans (((Below.refl w6.heap.size w6).alloc (Nat.le_refl _) (.cells #[.string m0, .string m1] 23)).mono HB6.out.size)); have HU6 := hideL (HX6.out.next ((Below.refl w6.heap.size w6).alloc (Nat.le_refl _) (.cells #[.string m0, .string m1] 23))); have HV6 := hideL (HY6.out.next ((Below.refl w6.heap.size w6).alloc (Nat.le_refl _) (.cells #[.string m0, .string m1] 23))); have HF6 := hideL (HE6.out.below ((Below.refl w6.heap.size w6).alloc (Nat.le_refl _) (.cells #[.string m0, .string m1] 23))); have HN6 := hideL (NBox.new w6 m0 m1); have n06 := HN6.out.c0; have n16 := HN6.out.c1; have x06 := HU6.out.c0; have x16 := HU6.out.c1; have y06 := HV6.out.c0; have y16 := HV6.out.c1; clear hB6)
    | (go_at_call 15; with_reducible refine (LPM.out _).mono ?_; clear LPM; rintro e w7 ⟨rfl, hB7⟩; have HB7 := hideL (HC6.out.trans (hB7.mono HC6.out.size)); have HX7 := hideL (HU6.out.next hB7); have HY7 := hideL (HV6.out.next hB7); have HE7 := hideL (HF6.out.below hB7); have HM7 := hideL (HN6.out.next hB7); have m07 := HM7.out.c0; have m17 := HM7.out.c1; have x07 := HX7.out.c0; have x17 := HX7.out.c1; have y07 := HY7.out.c0; have y17 := HY7.out.c1; clear hB7)
    | (go_at_call 11; with_reducible refine (LMM.out _).mono ?_; clear LMM; rintro e w8 ⟨rfl, hB8⟩; have HB8 := hideL (HB7.out.trans (hB8.mono HB7.out.size)); have HX8 := hideL (HX7.out.next hB8); have HY8 := hideL (HY7.out.next hB8); have HE8 := hideL (HE7.out.below hB8); have HM8 := hideL (HM7.out.next hB8); have m08 := HM8.out.c0; have m18 := HM8.out.c1; have x08 := HX8.out.c0; have x18 := HX8.out.c1; have y08 := HY8.out.c0; have y18 := HY8.out.c1; clear hB8)
    | (go_at_call 8; with_reducible refine (awake_any _ HE8.out).mono ?_; rintro e w9 ⟨rfl, hB9⟩))
  go_ret
  exact ⟨rfl, HB8.out.trans (hB9.mono HB8.out.size)⟩

set_option maxRecDepth 100000 in
theorem nameBack_walk (a b : Nm) (s : ByteArray) (w : World) (hE : Env w) (ha : a.ok) (hb : b.ok) (ms : s.size ≤ maxLen) : Calls Try.prog 6 #[.agg #[.string a.ns, .string a.sa], .agg #[.string b.ns, .string b.sa], .string s] w (LawPost w) := by
  unfold maxLen at ms
  unfold Nm.ok maxLen at ha hb
  obtain ⟨a1, a2⟩ := ha
  obtain ⟨b1, b2⟩ := hb
  by_cases g : (1000 : Int) < s.size
  · have HB1 := (Below.refl w.heap.size w).alloc (Nat.le_refl _) (.cells #[.string a.ns, .string a.sa] 23)
    have HB := hideL (HB1.alloc HB1.size (.cells #[.string b.ns, .string b.sa] 23))
    have HE := hideL (hE.below HB.out)
    go_enter Try.func6, Try.ntmps6
    go_wp2_with (go_at_call 8; with_reducible refine (awake_any _ HE.out).mono ?_; rintro e w9 ⟨rfl, hB9⟩)
    go_ret
    exact ⟨rfl, HB.out.trans (hB9.mono HB.out.size)⟩
  have hs2 : s.size ≤ 100000 := by omega
  have LPA := hideL (print_any a (by omega) (by omega))
  have LMA := hideL (may_any a (by omega) (by omega))
  have LPB := hideL (print_any b (by omega) (by omega))
  have LS := hideL (fun W hE => parse_any s hs2 W hE)
  have LQ : mayN a = true → HidL (∀ W : World, Env W → Calls Try.prog 17 #[.string (prN a)] W (fun e w' => e = .returned (.tuple #[.agg #[.string a.ns, .string a.sa], .int .i64 0]) ∧ Below W.heap.size W w')) := fun h => hideL fun W hE => by
    have h2 := parse_any (prN a) (by have := pr_size h; omega) W hE
    rw [par_pr h] at h2
    exact h2
  have LR : ∀ m, parN s = some m → HidL (∀ W : World, Calls Try.prog 15 #[.agg #[.string m.ns, .string m.sa]] W (fun e w' => e = .returned (.tuple #[.string s, .int .i64 0]) ∧ Below W.heap.size W w')) ∧ HidL (∀ W : World, Calls Try.prog 11 #[.agg #[.string m.ns, .string m.sa]] W (fun e w' => e = .returned (.bool true) ∧ Below W.heap.size W w')) := fun m hm => by
    obtain ⟨h1, h2⟩ := pr_par hm
    obtain ⟨h3, h4⟩ := may_size h1
    refine ⟨hideL fun W => ?_, hideL fun W => ?_⟩
    · have h5 := print_any m (by omega) (by omega) W
      unfold priV at h5
      rw [h1, h2] at h5
      exact h5
    · have h5 := may_any m (by omega) (by omega) W
      rw [h1] at h5
      exact h5
  have h64 : mayN a = true → ¬ (64 : Int) < (prN a).size := fun h => by have := pr_size h; omega
  have h1 := @pr_one a b
  unfold priV at LPA LPB
  unfold parP at LS
  generalize hpa : prN a = pa at *
  generalize hpb : prN b = pb at *
  have hsame : a = b → pa = pb := fun h => by rw [← hpa, ← hpb, h]
  clear hpa hpb
  generalize parN s = r at *
  generalize mayN a = ma at *
  obtain ⟨mb, hmb⟩ : ∃ x, mayN b = x := ⟨_, rfl⟩
  rw [hmb] at LPB h1
  obtain ⟨p0, p1⟩ := a
  obtain ⟨q0, q1⟩ := b
  dsimp only at *
  cases ma with
  | false =>
    cases mb with
    | false =>
      cases r with
      | none =>
        exact back_00x0 w hE s g hs2 p0 p1 q0 q1 LPA LMA LPB LS
      | some m =>
        exact back_00x1 w hE s g hs2 p0 p1 q0 q1 LPA LMA LPB m.ns m.sa LS (LR m rfl).1 (LR m rfl).2
    | true =>
      cases r with
      | none =>
        exact back_01x0 w hE s g hs2 p0 p1 q0 q1 pb LPA LMA LPB LS
      | some m =>
        exact back_01x1 w hE s g hs2 p0 p1 q0 q1 pb LPA LMA LPB m.ns m.sa LS (LR m rfl).1 (LR m rfl).2
  | true =>
    cases mb with
    | false =>
      cases r with
      | none =>
        exact back_10x0 w hE s g hs2 p0 p1 q0 q1 pa (h64 rfl) LPA LMA (LQ rfl) LPB LS
      | some m =>
        exact back_10x1 w hE s g hs2 p0 p1 q0 q1 pa (h64 rfl) LPA LMA (LQ rfl) LPB m.ns m.sa LS (LR m rfl).1 (LR m rfl).2
    | true =>
      by_cases e0 : p0 = q0
      · subst e0
        by_cases e1 : p1 = q1
        · subst e1
          obtain rfl := hsame rfl
          cases r with
          | none =>
            exact back_11eq0 w hE s g hs2 p0 p1 pa (h64 rfl) LPA LMA (LQ rfl) LPB LS
          | some m =>
            exact back_11eq1 w hE s g hs2 p0 p1 pa (h64 rfl) LPA LMA (LQ rfl) LPB m.ns m.sa LS (LR m rfl).1 (LR m rfl).2
        · have hq : p1 ≠ q1 := e1
          have hpq := eqs_false (fun h => e1 (by have := h1 rfl rfl h; injection this))
          cases r with
          | none =>
            exact back_11sa0 w hE s g hs2 p0 p1 q1 pa (h64 rfl) pb hpq (eqs_false hq) LPA LMA (LQ rfl) LPB LS
          | some m =>
            exact back_11sa1 w hE s g hs2 p0 p1 q1 pa (h64 rfl) pb hpq (eqs_false hq) LPA LMA (LQ rfl) LPB m.ns m.sa LS (LR m rfl).1 (LR m rfl).2
      · have hq : p0 ≠ q0 := e0
        have hpq := eqs_false (fun h => e0 (by have := h1 rfl rfl h; injection this))
        cases r with
        | none =>
          exact back_11ns0 w hE s g hs2 p0 p1 q0 q1 pa (h64 rfl) pb hpq (eqs_false hq) LPA LMA (LQ rfl) LPB LS
        | some m =>
          exact back_11ns1 w hE s g hs2 p0 p1 q0 q1 pa (h64 rfl) pb hpq (eqs_false hq) LPA LMA (LQ rfl) LPB m.ns m.sa LS (LR m rfl).1 (LR m rfl).2
end Go.Proofs.Ytjbfaaoeoggkpaa
