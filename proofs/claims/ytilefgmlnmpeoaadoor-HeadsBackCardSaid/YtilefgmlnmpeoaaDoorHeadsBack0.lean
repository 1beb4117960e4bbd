/- The law HeadsBack (P9.6): what is long; lines and what they are read as. -/
import Derived.Test.YtilefgmlnmpeoaaDoorHdBlank
namespace Go.Proofs.YtilefgmlnmpeoaaDoor
open Go.RowKit Go.Lib

theorem lineP_list (h : Hd) : (lineP h).data.toList = h.n.data.toList ++ 58 :: 32 :: h.v.data.toList := by
  unfold lineP
  simp
theorem goodP_both {h : Hd} (hg : goodP h = true) : nameP h.n.data.toList = true ∧ valP h.v.data.toList = true := by
  rw [goodP_eq, Bool.and_eq_true] at hg
  exact hg
theorem goodP_size {h : Hd} (hg : goodP h = true) : h.n.size ≤ 64 ∧ 1 ≤ h.n.size ∧ h.v.size ≤ 512 := by
  obtain ⟨h1, h2⟩ := goodP_both hg
  have a := nameP_len h1
  have b := valP_len h2
  rw [size_list] at a b
  omega
theorem lineP_size (h : Hd) : (lineP h).size = h.n.size + 2 + h.v.size := by
  unfold lineP
  rw [ByteArray.size_append, ByteArray.size_append]
  rfl
/-- A header's line is read as it. -/
theorem readLine_any (h : Hd) (hg : goodP h = true) (w : World) : Calls Tryd.prog 19 #[.string (lineP h)] w (fun e w' => e = .returned (.tuple #[hdV h, .int .i64 0]) ∧ Below w.heap.size w w') := by
  have hz := goodP_size hg
  have h1 := read_any (lineP h) (by rw [lineP_size]; omega) w
  rw [lineP_list, read_line (goodP_both hg).1 (goodP_both hg).2] at h1
  unfold readA at h1
  rw [bo_of, bo_of] at h1
  exact h1
theorem lineGood_any (h : Hd) (hg : goodP h = true) (w : World) : Calls Tryd.prog 17 #[hdV h] w (fun e w' => e = .returned (.tuple #[.string (lineP h), .int .i64 0]) ∧ Below w.heap.size w w') := by
  have hz := goodP_size hg
  have h1 := line_any h (by omega) w
  unfold lineV at h1
  rw [hg, if_pos rfl] at h1
  exact h1
theorem lineBad_any (h : Hd) (hg : goodP h = false) (hs : h.n.size ≤ 1000000 ∧ h.v.size ≤ 1000000) (w : World) : Calls Tryd.prog 17 #[hdV h] w (fun e w' => e = .returned (.tuple #[.string ⟨#[]⟩, .int .i64 1]) ∧ Below w.heap.size w w') := by
  have h1 := line_any h hs w
  unfold lineV at h1
  rw [hg, if_neg (by decide)] at h1
  exact h1
/-- Whatever text: as it is read. -/
theorem readN_any (s : ByteArray) (hs : s.size ≤ 1000000) (e : Nat) (rn rv : List UInt8) (hr : readP s.data.toList = (e, rn, rv)) (w : World) : Calls Tryd.prog 19 #[.string s] w (fun e' w' => e' = .returned (.tuple #[.agg #[.string (bo rn), .string (bo rv)], .int .i64 e]) ∧ Below w.heap.size w w') := by
  have h1 := read_any s hs w
  rw [hr] at h1
  exact h1
/-- A line with letters large, or as they are, and blanks around the value. -/
theorem wide_read {n v : ByteArray} {M a b : List UInt8} (hg : goodP ⟨n, v⟩ = true) (hM : M = n.data.toList ∨ M = n.data.toList.map lgB) (ha : ∀ c ∈ a, wsB c = true) (hb : ∀ c ∈ b, wsB c = true) (T : ByteArray) (hT : T = bo M ++ ⟨#[58]⟩ ++ bo a ++ v ++ bo b) :
    (T.size ≤ 578 → readP T.data.toList = (0, n.data.toList, v.data.toList)) ∧ (578 < T.size → readP T.data.toList = (6, [], [])) := by
  obtain ⟨h1, h2⟩ := goodP_both hg
  have hl : T.data.toList = M ++ 58 :: (a ++ v.data.toList ++ b) := by rw [hT]; simp [bo]
  have hs := size_list T
  refine ⟨fun h => ?_, fun h => readP_long (by omega)⟩
  rw [hl] at hs ⊢
  rcases hM with rfl | rfl
  · exact read_wide (name_colon h1) (small_name h1) h1 h2 ha hb (by omega)
  · exact read_wide (large_colon h1) (small_large h1) h1 h2 ha hb (by omega)

set_option maxRecDepth 100000 in
set_option maxHeartbeats 8000000 in
theorem back_long0 (h : Hd) (s : ByteArray) (ahead behind : Int) (large : Bool) (w0 : World) (hE : Env w0) (hh : longH h = true) : Calls Tryd.prog 6 #[hdV h, .string s, .int .i64 ahead, .int .i64 behind, .bool large] w0 (fun e w' => e = .returned (.bool true) ∧ Below w0.heap.size w0 w') := by
  have LW := hideL (fun W (hE : Env W) => awake_any W hE)
  have HS := hideL (SL.new h (GAt.nil w0) hE)
  have L2 := long_lit h (w0.alloc (.cells #[.string h.n, .string h.v] 23))
  rw [show (⟨(w0.alloc (.cells #[.string h.n, .string h.v] 23)).heap.size, 0, none⟩ : Addr) = ⟨w0.heap.size + 1, 0, none⟩ from by rw [World.size_alloc]] at L2
  replace L2 := hideL L2
  rw [hh] at L2
  clear hh
  obtain ⟨n, c⟩ := h
  simp only [hdV] at *
  clear hE
  go_enter Tryd.func6, Tryd.ntmps6
  go_wp2_with (first
    | (go_at_call 9; with_reducible refine L2.out.mono ?_; rintro e w1 ⟨rfl, hB⟩; replace HS := hideL (HS.out.next hB); (try clear c0 c1); have c0 := HS.out.bx.c0; have c1 := HS.out.bx.c1; clear hB)
    | (go_at_call 10; with_reducible refine (LW.out _ HS.out.env).mono ?_; rintro e wx ⟨rfl, hB⟩; replace HS := hideL (HS.out.next hB); (try clear c0 c1); have c0 := HS.out.bx.c0; have c1 := HS.out.bx.c1; clear hB))
  go_ret
  exact ⟨rfl, HS.out.be⟩
set_option maxRecDepth 100000 in
set_option maxHeartbeats 8000000 in
theorem back_long1 (h : Hd) (s : ByteArray) (ahead behind : Int) (large : Bool) (w0 : World) (hE : Env w0) (hh : longH h = false) (hs : 2000 < s.size) : Calls Tryd.prog 6 #[hdV h, .string s, .int .i64 ahead, .int .i64 behind, .bool large] w0 (fun e w' => e = .returned (.bool true) ∧ Below w0.heap.size w0 w') := by
  have LW := hideL (fun W (hE : Env W) => awake_any W hE)
  have HS := hideL (SL.new h (GAt.nil w0) hE)
  have L2 := long_lit h (w0.alloc (.cells #[.string h.n, .string h.v] 23))
  rw [show (⟨(w0.alloc (.cells #[.string h.n, .string h.v] 23)).heap.size, 0, none⟩ : Addr) = ⟨w0.heap.size + 1, 0, none⟩ from by rw [World.size_alloc]] at L2
  replace L2 := hideL L2
  rw [hh] at L2
  have s0 : (2000 : Int) < (s.size : Int) := by omega
  clear hh hs
  obtain ⟨n, c⟩ := h
  simp only [hdV] at *
  clear hE
  go_enter Tryd.func6, Tryd.ntmps6
  go_wp2_with (first
    | (go_at_call 9; with_reducible refine L2.out.mono ?_; rintro e w1 ⟨rfl, hB⟩; replace HS := hideL (HS.out.next hB); (try clear c0 c1); have c0 := HS.out.bx.c0; have c1 := HS.out.bx.c1; clear hB)
    | (go_at_call 10; with_reducible refine (LW.out _ HS.out.env).mono ?_; rintro e wx ⟨rfl, hB⟩; replace HS := hideL (HS.out.next hB); (try clear c0 c1); have c0 := HS.out.bx.c0; have c1 := HS.out.bx.c1; clear hB))
  go_ret
  exact ⟨rfl, HS.out.be⟩
set_option maxRecDepth 100000 in
set_option maxHeartbeats 8000000 in
theorem back_long2 (h : Hd) (s : ByteArray) (ahead behind : Int) (large : Bool) (w0 : World) (hE : Env w0) (hh : longH h = false) (hs : s.size ≤ 2000) (ha : ahead < 0) : Calls Tryd.prog 6 #[hdV h, .string s, .int .i64 ahead, .int .i64 behind, .bool large] w0 (fun e w' => e = .returned (.bool true) ∧ Below w0.heap.size w0 w') := by
  have LW := hideL (fun W (hE : Env W) => awake_any W hE)
  have HS := hideL (SL.new h (GAt.nil w0) hE)
  have L2 := long_lit h (w0.alloc (.cells #[.string h.n, .string h.v] 23))
  rw [show (⟨(w0.alloc (.cells #[.string h.n, .string h.v] 23)).heap.size, 0, none⟩ : Addr) = ⟨w0.heap.size + 1, 0, none⟩ from by rw [World.size_alloc]] at L2
  replace L2 := hideL L2
  rw [hh] at L2
  have s0 : ¬ (2000 : Int) < (s.size : Int) := by omega
  clear hh hs
  obtain ⟨n, c⟩ := h
  simp only [hdV] at *
  clear hE
  go_enter Tryd.func6, Tryd.ntmps6
  go_wp2_with (first
    | (go_at_call 9; with_reducible refine L2.out.mono ?_; rintro e w1 ⟨rfl, hB⟩; replace HS := hideL (HS.out.next hB); (try clear c0 c1); have c0 := HS.out.bx.c0; have c1 := HS.out.bx.c1; clear hB)
    | (go_at_call 10; with_reducible refine (LW.out _ HS.out.env).mono ?_; rintro e wx ⟨rfl, hB⟩; replace HS := hideL (HS.out.next hB); (try clear c0 c1); have c0 := HS.out.bx.c0; have c1 := HS.out.bx.c1; clear hB))
  go_ret
  exact ⟨rfl, HS.out.be⟩
set_option maxRecDepth 100000 in
set_option maxHeartbeats 8000000 in
theorem back_long3 (h : Hd) (s : ByteArray) (ahead behind : Int) (large : Bool) (w0 : World) (hE : Env w0) (hh : longH h = false) (hs : s.size ≤ 2000) (ha : ¬ ahead < 0) (ha2 : 20 < ahead) : Calls Tryd.prog 6 #[hdV h, .string s, .int .i64 ahead, .int .i64 behind, .bool large] w0 (fun e w' => e = .returned (.bool true) ∧ Below w0.heap.size w0 w') := by
  have LW := hideL (fun W (hE : Env W) => awake_any W hE)
  have HS := hideL (SL.new h (GAt.nil w0) hE)
  have L2 := long_lit h (w0.alloc (.cells #[.string h.n, .string h.v] 23))
  rw [show (⟨(w0.alloc (.cells #[.string h.n, .string h.v] 23)).heap.size, 0, none⟩ : Addr) = ⟨w0.heap.size + 1, 0, none⟩ from by rw [World.size_alloc]] at L2
  replace L2 := hideL L2
  rw [hh] at L2
  have s0 : ¬ (2000 : Int) < (s.size : Int) := by omega
  clear hh hs
  obtain ⟨n, c⟩ := h
  simp only [hdV] at *
  clear hE
  go_enter Tryd.func6, Tryd.ntmps6
  go_wp2_with (first
    | (go_at_call 9; with_reducible refine L2.out.mono ?_; rintro e w1 ⟨rfl, hB⟩; replace HS := hideL (HS.out.next hB); (try clear c0 c1); have c0 := HS.out.bx.c0; have c1 := HS.out.bx.c1; clear hB)
    | (go_at_call 10; with_reducible refine (LW.out _ HS.out.env).mono ?_; rintro e wx ⟨rfl, hB⟩; replace HS := hideL (HS.out.next hB); (try clear c0 c1); have c0 := HS.out.bx.c0; have c1 := HS.out.bx.c1; clear hB))
  go_ret
  exact ⟨rfl, HS.out.be⟩
set_option maxRecDepth 100000 in
set_option maxHeartbeats 8000000 in
theorem back_long4 (h : Hd) (s : ByteArray) (ahead behind : Int) (large : Bool) (w0 : World) (hE : Env w0) (hh : longH h = false) (hs : s.size ≤ 2000) (ha : ¬ ahead < 0) (ha2 : ¬ 20 < ahead) (hb : behind < 0) : Calls Tryd.prog 6 #[hdV h, .string s, .int .i64 ahead, .int .i64 behind, .bool large] w0 (fun e w' => e = .returned (.bool true) ∧ Below w0.heap.size w0 w') := by
  have LW := hideL (fun W (hE : Env W) => awake_any W hE)
  have HS := hideL (SL.new h (GAt.nil w0) hE)
  have L2 := long_lit h (w0.alloc (.cells #[.string h.n, .string h.v] 23))
  rw [show (⟨(w0.alloc (.cells #[.string h.n, .string h.v] 23)).heap.size, 0, none⟩ : Addr) = ⟨w0.heap.size + 1, 0, none⟩ from by rw [World.size_alloc]] at L2
  replace L2 := hideL L2
  rw [hh] at L2
  have s0 : ¬ (2000 : Int) < (s.size : Int) := by omega
  clear hh hs
  obtain ⟨n, c⟩ := h
  simp only [hdV] at *
  clear hE
  go_enter Tryd.func6, Tryd.ntmps6
  go_wp2_with (first
    | (go_at_call 9; with_reducible refine L2.out.mono ?_; rintro e w1 ⟨rfl, hB⟩; replace HS := hideL (HS.out.next hB); (try clear c0 c1); have c0 := HS.out.bx.c0; have c1 := HS.out.bx.c1; clear hB)
    | (go_at_call 10; with_reducible refine (LW.out _ HS.out.env).mono ?_; rintro e wx ⟨rfl, hB⟩; replace HS := hideL (HS.out.next hB); (try clear c0 c1); have c0 := HS.out.bx.c0; have c1 := HS.out.bx.c1; clear hB))
  go_ret
  exact ⟨rfl, HS.out.be⟩
set_option maxRecDepth 100000 in
set_option maxHeartbeats 8000000 in
theorem back_long5 (h : Hd) (s : ByteArray) (ahead behind : Int) (large : Bool) (w0 : World) (hE : Env w0) (hh : longH h = false) (hs : s.size ≤ 2000) (ha : ¬ ahead < 0) (ha2 : ¬ 20 < ahead) (hb : ¬ behind < 0) (hb2 : 20 < behind) : Calls Tryd.prog 6 #[hdV h, .string s, .int .i64 ahead, .int .i64 behind, .bool large] w0 (fun e w' => e = .returned (.bool true) ∧ Below w0.heap.size w0 w') := by
  have LW := hideL (fun W (hE : Env W) => awake_any W hE)
  have HS := hideL (SL.new h (GAt.nil w0) hE)
  have L2 := long_lit h (w0.alloc (.cells #[.string h.n, .string h.v] 23))
  rw [show (⟨(w0.alloc (.cells #[.string h.n, .string h.v] 23)).heap.size, 0, none⟩ : Addr) = ⟨w0.heap.size + 1, 0, none⟩ from by rw [World.size_alloc]] at L2
  replace L2 := hideL L2
  rw [hh] at L2
  have s0 : ¬ (2000 : Int) < (s.size : Int) := by omega
  clear hh hs
  obtain ⟨n, c⟩ := h
  simp only [hdV] at *
  clear hE
  go_enter Tryd.func6, Tryd.ntmps6
  go_wp2_with (first
    | (go_at_call 9; with_reducible refine L2.out.mono ?_; rintro e w1 ⟨rfl, hB⟩; replace HS := hideL (HS.out.next hB); (try clear c0 c1); have c0 := HS.out.bx.c0; have c1 := HS.out.bx.c1; clear hB)
    | (go_at_call 10; with_reducible refine (LW.out _ HS.out.env).mono ?_; rintro e wx ⟨rfl, hB⟩; replace HS := hideL (HS.out.next hB); (try clear c0 c1); have c0 := HS.out.bx.c0; have c1 := HS.out.bx.c1; clear hB))
  go_ret
  exact ⟨rfl, HS.out.be⟩
set_option maxRecDepth 100000 in
set_option maxHeartbeats 8000000 in
theorem back_bad_ok (h : Hd) (s : ByteArray) (ahead behind : Int) (large : Bool) (w0 : World) (hE : Env w0) (a b : Nat) (ea : ahead = (a : Int)) (eb : behind = (b : Int)) (ha : a ≤ 20) (hb : b ≤ 20) (hh : longH h = false) (hs : s.size ≤ 2000) (hg : goodP h = false) (e0 : Nat) (rn rv : List UInt8) (hr : readP s.data.toList = (e0, rn, rv)) (he : e0 = 0) : Calls Tryd.prog 6 #[hdV h, .string s, .int .i64 ahead, .int .i64 behind, .bool large] w0 (fun e w' => e = .returned (.bool true) ∧ Below w0.heap.size w0 w') := by
  have LW := hideL (fun W (hE : Env W) => awake_any W hE)
  have HS := hideL (SL.new h (GAt.nil w0) hE)
  have L2 := long_lit h (w0.alloc (.cells #[.string h.n, .string h.v] 23))
  rw [show (⟨(w0.alloc (.cells #[.string h.n, .string h.v] 23)).heap.size, 0, none⟩ : Addr) = ⟨w0.heap.size + 1, 0, none⟩ from by rw [World.size_alloc]] at L2
  replace L2 := hideL L2
  subst ea eb
  rw [hh] at L2
  have s0 : ¬ (2000 : Int) < (s.size : Int) := by omega
  have hhs := longH_no hh
  have RS := hideL (readN_any s (by omega) e0 rn rv hr)
  have i1 : ¬ (a : Int) < 0 := by omega
  have i2 : ¬ (20 : Int) < (a : Int) := by omega
  have i3 : ¬ (b : Int) < 0 := by omega
  have i4 : ¬ (20 : Int) < (b : Int) := by omega
  subst he
  have hok := readP_ok hr
  have hgx : goodP ⟨bo rn, bo rv⟩ = true := by rw [goodP_bo, hok.1, hok.2]; rfl
  have LX := hideL (lineGood_any ⟨bo rn, bo rv⟩ hgx)
  have RX := hideL (readLine_any ⟨bo rn, bo rv⟩ hgx)
  simp only [hdV] at LX RX
  generalize lineP ⟨bo rn, bo rv⟩ = XL at *
  generalize bo rn = xn at *
  generalize bo rv = xv at *
  clear hok hgx
  have LB := hideL (lineBad_any h hg (by omega))
  clear hh hs hr hg hhs
  obtain ⟨n, c⟩ := h
  simp only [hdV] at *
  clear hE
  go_enter Tryd.func6, Tryd.ntmps6
  go_wp2_with (first
    | (go_at_call 9; with_reducible refine L2.out.mono ?_; rintro e w1 ⟨rfl, hB⟩; replace HS := hideL (HS.out.next hB); (try clear c0 c1); have c0 := HS.out.bx.c0; have c1 := HS.out.bx.c1; clear hB)
    | (go_at_call 17; first
      | (with_reducible refine (LX.out _).mono ?_; rintro e w21 ⟨rfl, hB⟩; (try clear p0 p1); replace HP := hideL (HP.out.next hB); have p0 := HP.out.c0; have p1 := HP.out.c1; replace HS := hideL (HS.out.next hB); (try clear c0 c1); have c0 := HS.out.bx.c0; have c1 := HS.out.bx.c1; clear hB)
      | (with_reducible refine (LB.out _).mono ?_; rintro e w2 ⟨rfl, hB⟩; replace HS := hideL (HS.out.next hB); (try clear c0 c1); have c0 := HS.out.bx.c0; have c1 := HS.out.bx.c1; clear hB))
    | (go_at_call 19; first
        | (with_reducible refine (RS.out _).mono ?_; rintro e w20 ⟨rfl, hB⟩; have hA := (Below.refl w20.heap.size w20).alloc (Nat.le_refl _) (.cells #[.string xn, .string xv] 23); replace HS := hideL ((HS.out.next hB).next hA); (try clear c0 c1); have c0 := HS.out.bx.c0; have c1 := HS.out.bx.c1; have HP := hideL (HBox.new w20 xn xv); have p0 := HP.out.c0; have p1 := HP.out.c1; clear hB hA)
        | (with_reducible refine (RX.out _).mono ?_; rintro e w22 ⟨rfl, hB⟩; (try clear p0 p1); have hA2 := (Below.refl w22.heap.size w22).alloc (Nat.le_refl _) (.cells #[.string xn, .string xv] 23); replace HP := hideL ((HP.out.next hB).next hA2); have p0 := HP.out.c0; have p1 := HP.out.c1; clear hA2; have hA := (Below.refl w22.heap.size w22).alloc (Nat.le_refl _) (.cells #[.string xn, .string xv] 23); replace HS := hideL ((HS.out.next hB).next hA); (try clear c0 c1); have c0 := HS.out.bx.c0; have c1 := HS.out.bx.c1; clear hB hA))
    | fail
    | (go_at_call 10; with_reducible refine (LW.out _ HS.out.env).mono ?_; rintro e wx ⟨rfl, hB⟩; replace HS := hideL (HS.out.next hB); (try clear c0 c1); have c0 := HS.out.bx.c0; have c1 := HS.out.bx.c1; clear hB))
  go_ret
  exact ⟨rfl, HS.out.be⟩
set_option maxRecDepth 100000 in
set_option maxHeartbeats 8000000 in
theorem back_bad_no (h : Hd) (s : ByteArray) (ahead behind : Int) (large : Bool) (w0 : World) (hE : Env w0) (a b : Nat) (ea : ahead = (a : Int)) (eb : behind = (b : Int)) (ha : a ≤ 20) (hb : b ≤ 20) (hh : longH h = false) (hs : s.size ≤ 2000) (hg : goodP h = false) (e0 : Nat) (rn rv : List UInt8) (hr : readP s.data.toList = (e0, rn, rv)) (he : e0 ≠ 0) : Calls Tryd.prog 6 #[hdV h, .string s, .int .i64 ahead, .int .i64 behind, .bool large] w0 (fun e w' => e = .returned (.bool true) ∧ Below w0.heap.size w0 w') := by
  have LW := hideL (fun W (hE : Env W) => awake_any W hE)
  have HS := hideL (SL.new h (GAt.nil w0) hE)
  have L2 := long_lit h (w0.alloc (.cells #[.string h.n, .string h.v] 23))
  rw [show (⟨(w0.alloc (.cells #[.string h.n, .string h.v] 23)).heap.size, 0, none⟩ : Addr) = ⟨w0.heap.size + 1, 0, none⟩ from by rw [World.size_alloc]] at L2
  replace L2 := hideL L2
  subst ea eb
  rw [hh] at L2
  have s0 : ¬ (2000 : Int) < (s.size : Int) := by omega
  have hhs := longH_no hh
  have RS := hideL (readN_any s (by omega) e0 rn rv hr)
  have i1 : ¬ (a : Int) < 0 := by omega
  have i2 : ¬ (20 : Int) < (a : Int) := by omega
  have i3 : ¬ (b : Int) < 0 := by omega
  have i4 : ¬ (20 : Int) < (b : Int) := by omega
  obtain ⟨hn0, hv0⟩ := readP_no hr he
  rw [hn0, hv0] at RS
  obtain ⟨xn, hxn⟩ : ∃ x, (⟨#[]⟩ : ByteArray) = x := ⟨_, rfl⟩
  obtain ⟨xv, hxv⟩ : ∃ x, (⟨#[]⟩ : ByteArray) = x := ⟨_, rfl⟩
  subst hxn hxv
  have he2 : (((e0 : Nat) : Int) == 0) = false := beq_eq_false_iff_ne.2 (by omega)
  rw [show bo [] = (⟨#[]⟩ : ByteArray) from rfl] at RS
  have LB := hideL (lineBad_any h hg (by omega))
  clear hh hs hr hg hhs he hn0 hv0
  obtain ⟨n, c⟩ := h
  simp only [hdV] at *
  clear hE
  go_enter Tryd.func6, Tryd.ntmps6
  go_wp2_with (first
    | (go_at_call 9; with_reducible refine L2.out.mono ?_; rintro e w1 ⟨rfl, hB⟩; replace HS := hideL (HS.out.next hB); (try clear c0 c1); have c0 := HS.out.bx.c0; have c1 := HS.out.bx.c1; clear hB)
    | (go_at_call 17; first
      | (with_reducible refine (LB.out _).mono ?_; rintro e w2 ⟨rfl, hB⟩; replace HS := hideL (HS.out.next hB); (try clear c0 c1); have c0 := HS.out.bx.c0; have c1 := HS.out.bx.c1; clear hB))
    | (go_at_call 19; first
        | (with_reducible refine (RS.out _).mono ?_; rintro e w20 ⟨rfl, hB⟩; have hA := (Below.refl w20.heap.size w20).alloc (Nat.le_refl _) (.cells #[.string (⟨#[]⟩ : ByteArray), .string (⟨#[]⟩ : ByteArray)] 23); replace HS := hideL ((HS.out.next hB).next hA); (try clear c0 c1); have c0 := HS.out.bx.c0; have c1 := HS.out.bx.c1; have HP := hideL (HBox.new w20 (⟨#[]⟩ : ByteArray) (⟨#[]⟩ : ByteArray)); have p0 := HP.out.c0; have p1 := HP.out.c1; clear hB hA))
    | (go_at_call 10; with_reducible refine (LW.out _ HS.out.env).mono ?_; rintro e wx ⟨rfl, hB⟩; replace HS := hideL (HS.out.next hB); (try clear c0 c1); have c0 := HS.out.bx.c0; have c1 := HS.out.bx.c1; clear hB))
  go_ret
  exact ⟨rfl, HS.out.be⟩
end Go.Proofs.YtilefgmlnmpeoaaDoor
