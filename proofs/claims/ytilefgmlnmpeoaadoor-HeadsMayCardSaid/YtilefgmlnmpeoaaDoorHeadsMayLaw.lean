/- The law HeadsMay (P9.1, P9.2). -/
import Derived.Test.YtilefgmlnmpeoaaDoorHdLaw
import Derived.Test.YtilefgmlnmpeoaaDoorHdMay
import Derived.Test.YtilefgmlnmpeoaaDoorHdRefR
namespace Go.Proofs.YtilefgmlnmpeoaaDoor
open Go.RowKit Go.Lib

set_option maxRecDepth 100000 in
set_option maxHeartbeats 4000000 in
theorem may_long1 (s : ByteArray) (h : Hd) (v : Value) (l : List Hd) (w0 : World) (hv : GAt KH w0 v l) (hE : Env w0) (hl : longP l = true) : Calls Tryd.prog 3 #[.string s, hdV h, v] w0 (fun e w' => e = .returned (.bool true) ∧ Below w0.heap.size w0 w') := by
  have LW := hideL (fun W (hE : Env W) => awake_any W hE)
  have HS := hideL (SL.new h hv hE)
  have L1 := hideL (fun W hv => long_any v l W hv)
  have L2 := hideL (long_lit h)
  rw [hl] at L1
  clear hl
  obtain ⟨n, c⟩ := h
  obtain ⟨ao, cap, rfl⟩ := hv.len
  simp only [hdV] at *
  clear hv hE
  go_enter Tryd.func3, Tryd.ntmps3
  go_wp2_with (first
    | (go_at_call 9; first
      | (with_reducible refine (L1.out _ HS.out.row).mono ?_; rintro e w1 ⟨rfl, hB⟩; replace HS := hideL (HS.out.next hB); (try clear c0 c1); have c0 := HS.out.bx.c0; have c1 := HS.out.bx.c1; clear hB)
      | (with_reducible refine (L2.out _).mono ?_; rintro e w2 ⟨rfl, hB⟩; replace HS := hideL (HS.out.next hB); (try clear c0 c1); have c0 := HS.out.bx.c0; have c1 := HS.out.bx.c1; clear hB))
    | (go_at_call 10; with_reducible refine (LW.out _ HS.out.env).mono ?_; rintro e wx ⟨rfl, hB⟩; replace HS := hideL (HS.out.next hB); (try clear c0 c1); have c0 := HS.out.bx.c0; have c1 := HS.out.bx.c1; clear hB))
  go_ret
  exact ⟨rfl, HS.out.be⟩
set_option maxRecDepth 100000 in
set_option maxHeartbeats 4000000 in
theorem may_long2 (s : ByteArray) (h : Hd) (v : Value) (l : List Hd) (w0 : World) (hv : GAt KH w0 v l) (hE : Env w0) (hl : longP l = false) (hh : longH h = true) : Calls Tryd.prog 3 #[.string s, hdV h, v] w0 (fun e w' => e = .returned (.bool true) ∧ Below w0.heap.size w0 w') := by
  have LW := hideL (fun W (hE : Env W) => awake_any W hE)
  have HS := hideL (SL.new h hv hE)
  have L1 := hideL (fun W hv => long_any v l W hv)
  have L2 := hideL (long_lit h)
  rw [hl] at L1
  rw [hh] at L2
  clear hl hh
  obtain ⟨n, c⟩ := h
  obtain ⟨ao, cap, rfl⟩ := hv.len
  simp only [hdV] at *
  clear hv hE
  go_enter Tryd.func3, Tryd.ntmps3
  go_wp2_with (first
    | (go_at_call 9; first
      | (with_reducible refine (L1.out _ HS.out.row).mono ?_; rintro e w1 ⟨rfl, hB⟩; replace HS := hideL (HS.out.next hB); (try clear c0 c1); have c0 := HS.out.bx.c0; have c1 := HS.out.bx.c1; clear hB)
      | (with_reducible refine (L2.out _).mono ?_; rintro e w2 ⟨rfl, hB⟩; replace HS := hideL (HS.out.next hB); (try clear c0 c1); have c0 := HS.out.bx.c0; have c1 := HS.out.bx.c1; clear hB))
    | (go_at_call 10; with_reducible refine (LW.out _ HS.out.env).mono ?_; rintro e wx ⟨rfl, hB⟩; replace HS := hideL (HS.out.next hB); (try clear c0 c1); have c0 := HS.out.bx.c0; have c1 := HS.out.bx.c1; clear hB))
  go_ret
  exact ⟨rfl, HS.out.be⟩
set_option maxRecDepth 100000 in
set_option maxHeartbeats 4000000 in
theorem may_long3 (s : ByteArray) (h : Hd) (v : Value) (l : List Hd) (w0 : World) (hv : GAt KH w0 v l) (hE : Env w0) (hl : longP l = false) (hh : longH h = false) (hs : 2000 < s.size) : Calls Tryd.prog 3 #[.string s, hdV h, v] w0 (fun e w' => e = .returned (.bool true) ∧ Below w0.heap.size w0 w') := by
  have LW := hideL (fun W (hE : Env W) => awake_any W hE)
  have HS := hideL (SL.new h hv hE)
  have L1 := hideL (fun W hv => long_any v l W hv)
  have L2 := hideL (long_lit h)
  rw [hl] at L1
  rw [hh] at L2
  have hs' : (2000 : Int) < (s.size : Int) := by omega
  clear hl hh hs
  obtain ⟨n, c⟩ := h
  obtain ⟨ao, cap, rfl⟩ := hv.len
  simp only [hdV] at *
  clear hv hE
  go_enter Tryd.func3, Tryd.ntmps3
  go_wp2_with (first
    | (go_at_call 9; first
      | (with_reducible refine (L1.out _ HS.out.row).mono ?_; rintro e w1 ⟨rfl, hB⟩; replace HS := hideL (HS.out.next hB); (try clear c0 c1); have c0 := HS.out.bx.c0; have c1 := HS.out.bx.c1; clear hB)
      | (with_reducible refine (L2.out _).mono ?_; rintro e w2 ⟨rfl, hB⟩; replace HS := hideL (HS.out.next hB); (try clear c0 c1); have c0 := HS.out.bx.c0; have c1 := HS.out.bx.c1; clear hB))
    | (go_at_call 10; with_reducible refine (LW.out _ HS.out.env).mono ?_; rintro e wx ⟨rfl, hB⟩; replace HS := hideL (HS.out.next hB); (try clear c0 c1); have c0 := HS.out.bx.c0; have c1 := HS.out.bx.c1; clear hB))
  go_ret
  exact ⟨rfl, HS.out.be⟩
set_option maxRecDepth 100000 in
set_option maxHeartbeats 4000000 in
theorem may_main1 (s : ByteArray) (h : Hd) (v : Value) (l : List Hd) (w0 : World) (hv : GAt KH w0 v l) (hE : Env w0) (hl : longP l = false) (hh : longH h = false) (hs : s.size ≤ 2000) (hg : goodP h = true) : Calls Tryd.prog 3 #[.string s, hdV h, v] w0 (fun e w' => e = .returned (.bool true) ∧ Below w0.heap.size w0 w') := by
  have LW := hideL (fun W (hE : Env W) => awake_any W hE)
  have HS := hideL (SL.new h hv hE)
  have L1 := hideL (fun W hv => long_any v l W hv)
  have L2 := hideL (long_lit h)
  rw [hl] at L1
  rw [hh] at L2
  have hs' : ¬ (2000 : Int) < (s.size : Int) := by omega
  have hfit := longP_fits hl
  have hll := (longP_no hl).1
  have hhs := longH_no hh
  have N1 := hideL (mayName_any s)
  have N2 := hideL (mayNameR_any s)
  have V1 := hideL (mayValue_any s (by omega))
  have V2 := hideL (mayValueR_any s (by omega))
  have M1 := hideL (fun W hv => mayH_any v l W hv hfit (by omega))
  have M2 := hideL (fun W hv => mayHR_any v l W hv hfit (by omega))
  have LL := hideL (line_any h (by omega))
  have LG := hideL (good_any h (by omega))
  have R1 := hideL (read_any s (by omega))
  have R2 := hideL (readR_any s (by omega))
  have a1 : ¬ 9223372036854775807 < h.n.size + 2 := by omega
  have a2 : ¬ 9223372036854775807 < h.n.size + 2 + h.v.size := by omega
  obtain ⟨b1, hb1⟩ : ∃ b, nameP s.data.toList = b := ⟨_, rfl⟩
  obtain ⟨b2, hb2⟩ : ∃ b, valP s.data.toList = b := ⟨_, rfl⟩
  obtain ⟨b3, hb3⟩ : ∃ b, mayH l = b := ⟨_, rfl⟩
  obtain ⟨⟨e0, rn, rv⟩, hr⟩ : ∃ r, readP s.data.toList = r := ⟨_, rfl⟩
  rw [hb1] at N1 N2
  rw [hb2] at V1 V2
  rw [hb3] at M1 M2
  rw [hr] at R1 R2
  rw [hg] at LG
  unfold lineV at LL
  rw [hg] at LL
  rw [if_pos rfl] at LL
  unfold lineP at LL
  simp only [readA] at R1 R2
  generalize bo rn = xn at *
  generalize bo rv = xv at *
  clear hl hh hs hg hb1 hb2 hb3 hr hfit hll hhs
  obtain ⟨n, c⟩ := h
  obtain ⟨ao, cap, rfl⟩ := hv.len
  simp only [hdV] at *
  clear hv hE
  go_enter Tryd.func3, Tryd.ntmps3
  go_wp2_with (first
    | (go_at_call 9; first
      | (with_reducible refine (L1.out _ HS.out.row).mono ?_; rintro e w1 ⟨rfl, hB⟩; replace HS := hideL (HS.out.next hB); (try clear c0 c1); have c0 := HS.out.bx.c0; have c1 := HS.out.bx.c1; clear hB)
      | (with_reducible refine (L2.out _).mono ?_; rintro e w2 ⟨rfl, hB⟩; replace HS := hideL (HS.out.next hB); (try clear c0 c1); have c0 := HS.out.bx.c0; have c1 := HS.out.bx.c1; clear hB))
    | (go_at_call 11; with_reducible refine (N1.out _).mono ?_; rintro e w3 ⟨rfl, hB⟩; replace HS := hideL (HS.out.next hB); (try clear c0 c1); have c0 := HS.out.bx.c0; have c1 := HS.out.bx.c1; clear hB)
    | (go_at_call 12; with_reducible refine (N2.out _).mono ?_; rintro e w4 ⟨rfl, hB⟩; replace HS := hideL (HS.out.next hB); (try clear c0 c1); have c0 := HS.out.bx.c0; have c1 := HS.out.bx.c1; clear hB)
    | (go_at_call 13; with_reducible refine (V1.out _).mono ?_; rintro e w5 ⟨rfl, hB⟩; replace HS := hideL (HS.out.next hB); (try clear c0 c1); have c0 := HS.out.bx.c0; have c1 := HS.out.bx.c1; clear hB)
    | (go_at_call 14; with_reducible refine (V2.out _).mono ?_; rintro e w6 ⟨rfl, hB⟩; replace HS := hideL (HS.out.next hB); (try clear c0 c1); have c0 := HS.out.bx.c0; have c1 := HS.out.bx.c1; clear hB)
    | (go_at_call 15; with_reducible refine (M1.out _ HS.out.row).mono ?_; rintro e w7 ⟨rfl, hB⟩; replace HS := hideL (HS.out.next hB); (try clear c0 c1); have c0 := HS.out.bx.c0; have c1 := HS.out.bx.c1; clear hB)
    | (go_at_call 16; with_reducible refine (M2.out _ HS.out.row).mono ?_; rintro e w8 ⟨rfl, hB⟩; replace HS := hideL (HS.out.next hB); (try clear c0 c1); have c0 := HS.out.bx.c0; have c1 := HS.out.bx.c1; clear hB)
    | (go_at_call 17; with_reducible refine (LL.out _).mono ?_; rintro e w9 ⟨rfl, hB⟩; replace HS := hideL (HS.out.next hB); (try clear c0 c1); have c0 := HS.out.bx.c0; have c1 := HS.out.bx.c1; clear hB)
    | (go_at_call 18; with_reducible refine (LG.out _).mono ?_; rintro e wg ⟨rfl, hB⟩; replace HS := hideL (HS.out.next hB); (try clear c0 c1); have c0 := HS.out.bx.c0; have c1 := HS.out.bx.c1; clear hB)
    | (go_at_call 19; with_reducible refine (R1.out _).mono ?_; rintro e wp ⟨rfl, hB⟩; have hA := (Below.refl wp.heap.size wp).alloc (Nat.le_refl _) (.cells #[.string xn, .string xv] 23); replace HS := hideL ((HS.out.next hB).next hA); have HP := hideL (HBox.new wp xn xv); clear hB hA)
    | (go_at_call 20; with_reducible refine (R2.out _).mono ?_; rintro e wq ⟨rfl, hB⟩; have hA := (Below.refl wq.heap.size wq).alloc (Nat.le_refl _) (.cells #[.string xn, .string xv] 23); replace HS := hideL ((HS.out.next hB).next hA); replace HP := hideL ((HP.out.next hB).next hA); have HQ := hideL (HBox.new wq xn xv); have p0 := HP.out.c0; have p1 := HP.out.c1; clear hB hA)
    | (go_at_call 10; with_reducible refine (LW.out _ HS.out.env).mono ?_; rintro e wx ⟨rfl, hB⟩; replace HS := hideL (HS.out.next hB); (try clear c0 c1); have c0 := HS.out.bx.c0; have c1 := HS.out.bx.c1; clear hB))
  go_ret
  exact ⟨rfl, HS.out.be⟩
set_option maxRecDepth 100000 in
set_option maxHeartbeats 4000000 in
theorem may_main0 (s : ByteArray) (h : Hd) (v : Value) (l : List Hd) (w0 : World) (hv : GAt KH w0 v l) (hE : Env w0) (hl : longP l = false) (hh : longH h = false) (hs : s.size ≤ 2000) (hg : goodP h = false) : Calls Tryd.prog 3 #[.string s, hdV h, v] w0 (fun e w' => e = .returned (.bool true) ∧ Below w0.heap.size w0 w') := by
  have LW := hideL (fun W (hE : Env W) => awake_any W hE)
  have HS := hideL (SL.new h hv hE)
  have L1 := hideL (fun W hv => long_any v l W hv)
  have L2 := hideL (long_lit h)
  rw [hl] at L1
  rw [hh] at L2
  have hs' : ¬ (2000 : Int) < (s.size : Int) := by omega
  have hfit := longP_fits hl
  have hll := (longP_no hl).1
  have hhs := longH_no hh
  have N1 := hideL (mayName_any s)
  have N2 := hideL (mayNameR_any s)
  have V1 := hideL (mayValue_any s (by omega))
  have V2 := hideL (mayValueR_any s (by omega))
  have M1 := hideL (fun W hv => mayH_any v l W hv hfit (by omega))
  have M2 := hideL (fun W hv => mayHR_any v l W hv hfit (by omega))
  have LL := hideL (line_any h (by omega))
  have LG := hideL (good_any h (by omega))
  have R1 := hideL (read_any s (by omega))
  have R2 := hideL (readR_any s (by omega))
  have a1 : ¬ 9223372036854775807 < h.n.size + 2 := by omega
  have a2 : ¬ 9223372036854775807 < h.n.size + 2 + h.v.size := by omega
  obtain ⟨b1, hb1⟩ : ∃ b, nameP s.data.toList = b := ⟨_, rfl⟩
  obtain ⟨b2, hb2⟩ : ∃ b, valP s.data.toList = b := ⟨_, rfl⟩
  obtain ⟨b3, hb3⟩ : ∃ b, mayH l = b := ⟨_, rfl⟩
  obtain ⟨⟨e0, rn, rv⟩, hr⟩ : ∃ r, readP s.data.toList = r := ⟨_, rfl⟩
  rw [hb1] at N1 N2
  rw [hb2] at V1 V2
  rw [hb3] at M1 M2
  rw [hr] at R1 R2
  rw [hg] at LG
  unfold lineV at LL
  rw [hg] at LL
  rw [if_neg (by decide)] at LL
  simp only [readA] at R1 R2
  generalize bo rn = xn at *
  generalize bo rv = xv at *
  clear hl hh hs hg hb1 hb2 hb3 hr hfit hll hhs
  obtain ⟨n, c⟩ := h
  obtain ⟨ao, cap, rfl⟩ := hv.len
  simp only [hdV] at *
  clear hv hE
  go_enter Tryd.func3, Tryd.ntmps3
  go_wp2_with (first
    | (go_at_call 9; first
      | (with_reducible refine (L1.out _ HS.out.row).mono ?_; rintro e w1 ⟨rfl, hB⟩; replace HS := hideL (HS.out.next hB); (try clear c0 c1); have c0 := HS.out.bx.c0; have c1 := HS.out.bx.c1; clear hB)
      | (with_reducible refine (L2.out _).mono ?_; rintro e w2 ⟨rfl, hB⟩; replace HS := hideL (HS.out.next hB); (try clear c0 c1); have c0 := HS.out.bx.c0; have c1 := HS.out.bx.c1; clear hB))
    | (go_at_call 11; with_reducible refine (N1.out _).mono ?_; rintro e w3 ⟨rfl, hB⟩; replace HS := hideL (HS.out.next hB); (try clear c0 c1); have c0 := HS.out.bx.c0; have c1 := HS.out.bx.c1; clear hB)
    | (go_at_call 12; with_reducible refine (N2.out _).mono ?_; rintro e w4 ⟨rfl, hB⟩; replace HS := hideL (HS.out.next hB); (try clear c0 c1); have c0 := HS.out.bx.c0; have c1 := HS.out.bx.c1; clear hB)
    | (go_at_call 13; with_reducible refine (V1.out _).mono ?_; rintro e w5 ⟨rfl, hB⟩; replace HS := hideL (HS.out.next hB); (try clear c0 c1); have c0 := HS.out.bx.c0; have c1 := HS.out.bx.c1; clear hB)
    | (go_at_call 14; with_reducible refine (V2.out _).mono ?_; rintro e w6 ⟨rfl, hB⟩; replace HS := hideL (HS.out.next hB); (try clear c0 c1); have c0 := HS.out.bx.c0; have c1 := HS.out.bx.c1; clear hB)
    | (go_at_call 15; with_reducible refine (M1.out _ HS.out.row).mono ?_; rintro e w7 ⟨rfl, hB⟩; replace HS := hideL (HS.out.next hB); (try clear c0 c1); have c0 := HS.out.bx.c0; have c1 := HS.out.bx.c1; clear hB)
    | (go_at_call 16; with_reducible refine (M2.out _ HS.out.row).mono ?_; rintro e w8 ⟨rfl, hB⟩; replace HS := hideL (HS.out.next hB); (try clear c0 c1); have c0 := HS.out.bx.c0; have c1 := HS.out.bx.c1; clear hB)
    | (go_at_call 17; with_reducible refine (LL.out _).mono ?_; rintro e w9 ⟨rfl, hB⟩; replace HS := hideL (HS.out.next hB); (try clear c0 c1); have c0 := HS.out.bx.c0; have c1 := HS.out.bx.c1; clear hB)
    | (go_at_call 18; with_reducible refine (LG.out _).mono ?_; rintro e wg ⟨rfl, hB⟩; replace HS := hideL (HS.out.next hB); (try clear c0 c1); have c0 := HS.out.bx.c0; have c1 := HS.out.bx.c1; clear hB)
    | (go_at_call 19; with_reducible refine (R1.out _).mono ?_; rintro e wp ⟨rfl, hB⟩; have hA := (Below.refl wp.heap.size wp).alloc (Nat.le_refl _) (.cells #[.string xn, .string xv] 23); replace HS := hideL ((HS.out.next hB).next hA); have HP := hideL (HBox.new wp xn xv); clear hB hA)
    | (go_at_call 20; with_reducible refine (R2.out _).mono ?_; rintro e wq ⟨rfl, hB⟩; have hA := (Below.refl wq.heap.size wq).alloc (Nat.le_refl _) (.cells #[.string xn, .string xv] 23); replace HS := hideL ((HS.out.next hB).next hA); replace HP := hideL ((HP.out.next hB).next hA); have HQ := hideL (HBox.new wq xn xv); have p0 := HP.out.c0; have p1 := HP.out.c1; clear hB hA)
    | (go_at_call 10; with_reducible refine (LW.out _ HS.out.env).mono ?_; rintro e wx ⟨rfl, hB⟩; replace HS := hideL (HS.out.next hB); (try clear c0 c1); have c0 := HS.out.bx.c0; have c1 := HS.out.bx.c1; clear hB))
  go_ret
  exact ⟨rfl, HS.out.be⟩
theorem may_law (s : ByteArray) (h : Hd) (v : Value) (l : List Hd) (w0 : World) (hv : GAt KH w0 v l) (hE : Env w0) : Calls Tryd.prog 3 #[.string s, hdV h, v] w0 (fun e w' => e = .returned (.bool true) ∧ Below w0.heap.size w0 w') := by
  cases hl : longP l
  · cases hh : longH h
    · by_cases hs : 2000 < s.size
      · exact may_long3 s h v l w0 hv hE hl hh hs
      · cases hg : goodP h
        · exact may_main0 s h v l w0 hv hE hl hh (by omega) hg
        · exact may_main1 s h v l w0 hv hE hl hh (by omega) hg
    · exact may_long2 s h v l w0 hv hE hl hh
  · exact may_long1 s h v l w0 hv hE hl
end Go.Proofs.YtilefgmlnmpeoaaDoor
