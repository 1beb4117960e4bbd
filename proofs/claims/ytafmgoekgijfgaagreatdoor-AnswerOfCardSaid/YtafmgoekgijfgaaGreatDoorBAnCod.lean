/- The code that a first line tells: codeOf. -/
import Derived.Test.YtafmgoekgijfgaaGreatDoorBAnLib
import Derived.Test.YtafmgoekgijfgaaGreatDoorBAnDig
namespace Go.Proofs.YtafmgoekgijfgaaGreatDoor
open Go.RowKit Go.Lib

theorem ato_dec {n : Nat} (h : codB n = true) : atoP (decS n) = some (n : Int) := by
 unfold codB at h
 have hn := of_decide_eq_true h
 obtain ⟨d1, d2, d3⟩ := dec_dig (n := n) (by omega) (by omega)
 have := atoi_digits (decS n) (fun e => by rw [e] at d1; cases d1) (fun c hc => List.all_eq_true.1 d2 c hc)
 rw [d3, if_pos (by omega)] at this
 unfold atoP
 rw [this]
theorem cod_none {s : List UInt8} (h : ∀ n, codP s ≠ some n) : codP s = none := by
 cases hc : codP s with
 | none => rfl
 | some n => exact absurd hc (h n)
def codA : Option Nat → Value
 | some n => .tuple #[.int .i64 n, .bool true]
 | none => .tuple #[.int .i64 0, .bool false]
set_option maxRecDepth 100000 in
set_option maxHeartbeats 2000000 in
theorem cod_1 (s : ByteArray) (hs : s.size ≤ 1000000) (w0 : World) (hE : Env w0) (hS : EnvS w0) (hV : ¬ verL <+: s.data.toList) : Calls Tryz.prog 66 #[.string s] w0 (fun e w' => e = .returned (.tuple #[.int .i64 0, .bool false]) ∧ Below w0.heap.size w0 w') := by
 have LC := cutV_any s
 have hr : (resA s.data.toList).length ≤ 1000000 := Nat.le_trans (resA_len _) (by rw [size_list]; exact hs)
 have LD := fun (y : Bool) (hy : y = true ↔ (32 : UInt8) ∈ resA s.data.toList) => cutB_all (bo (resA s.data.toList)) (by rw [bo_size]; exact hr) y (by rw [bo_list]; exact hy)
 simp only [bo_list] at LD
 have h9 : (hdB (resA s.data.toList)).length ≤ 1000000 := Nat.le_trans (hdB_len _) hr
 have LT := fun (W : World) (hb : Below w0.heap.size w0 W) => atoi_full (bo (hdB (resA s.data.toList))) (by rw [bo_size]; omega) W (hE.next hb) (hS.next hb)
 simp only [bo_list] at LT
 have LT := hideL LT
 have LM := hideL mayCode_any
 have LR := fun (W : World) => mayReason_any (bo (tlB (resA s.data.toList))) W
 simp only [bo_list] at LR
 rw [decide_eq_false hV] at LC
 have LC := hideL LC
 obtain ⟨yb, hyb⟩ : ∃ y : Bool, y = true ↔ (32 : UInt8) ∈ resA s.data.toList := ⟨decide _, decide_eq_true_iff⟩
 have LD := hideL (LD yb hyb)
 clear hV hr h9 hs hE hS LR hyb
 go_enter Tryz.func66, Tryz.ntmps66
 go_wp2_with (first
   | (go_at_call 103; refine (LC.out _).mono ?_; rintro e w2 ⟨rfl, hw⟩; rw [hw]; clear hw w2)
   | (go_at_call 41; refine (LD.out _).mono ?_; rintro e w3 ⟨rfl, hB⟩; have HB3 := hideL hB; clear hB)
   | (go_at_call 104; refine (LT.out _ HB3.out).mono ?_; rintro e w4 ⟨⟨x, ev, rfl, hx1, hx2⟩, hB⟩; have HB4 := hideL (HB3.out.trans (hB.mono HB3.out.size)); skip; clear hB hx1 hx2))
 exact bodyPost_ret (v := .tuple #[.int .i64 0, .bool false]) (by simp [results, Tryz.results66, go_sem]) rfl ⟨rfl, HB4.out⟩
set_option maxRecDepth 100000 in
set_option maxHeartbeats 2000000 in
theorem cod_2 (s : ByteArray) (hs : s.size ≤ 1000000) (w0 : World) (hE : Env w0) (hS : EnvS w0) (hV : verL <+: s.data.toList) (hP : ¬ (32 : UInt8) ∈ resA s.data.toList) : Calls Tryz.prog 66 #[.string s] w0 (fun e w' => e = .returned (.tuple #[.int .i64 0, .bool false]) ∧ Below w0.heap.size w0 w') := by
 have LC := cutV_any s
 have hr : (resA s.data.toList).length ≤ 1000000 := Nat.le_trans (resA_len _) (by rw [size_list]; exact hs)
 have LD := fun (y : Bool) (hy : y = true ↔ (32 : UInt8) ∈ resA s.data.toList) => cutB_all (bo (resA s.data.toList)) (by rw [bo_size]; exact hr) y (by rw [bo_list]; exact hy)
 simp only [bo_list] at LD
 have h9 : (hdB (resA s.data.toList)).length ≤ 1000000 := Nat.le_trans (hdB_len _) hr
 have LT := fun (W : World) (hb : Below w0.heap.size w0 W) => atoi_full (bo (hdB (resA s.data.toList))) (by rw [bo_size]; omega) W (hE.next hb) (hS.next hb)
 simp only [bo_list] at LT
 have LT := hideL LT
 have LM := hideL mayCode_any
 have LR := fun (W : World) => mayReason_any (bo (tlB (resA s.data.toList))) W
 simp only [bo_list] at LR
 rw [decide_eq_true hV] at LC
 have LD := LD false ⟨fun h => (by cases h), fun h => absurd h hP⟩
 have LC := hideL LC
 have LD := hideL LD
 clear hV hP hr h9 hs hE hS LR
 go_enter Tryz.func66, Tryz.ntmps66
 go_wp2_with (first
   | (go_at_call 103; refine (LC.out _).mono ?_; rintro e w2 ⟨rfl, hw⟩; rw [hw]; clear hw w2)
   | (go_at_call 41; refine (LD.out _).mono ?_; rintro e w3 ⟨rfl, hB⟩; have HB3 := hideL hB; clear hB)
   | (go_at_call 104; refine (LT.out _ HB3.out).mono ?_; rintro e w4 ⟨⟨x, ev, rfl, hx1, hx2⟩, hB⟩; have HB4 := hideL (HB3.out.trans (hB.mono HB3.out.size)); skip; clear hB hx1 hx2))
 exact bodyPost_ret (v := .tuple #[.int .i64 0, .bool false]) (by simp [results, Tryz.results66, go_sem]) rfl ⟨rfl, HB4.out⟩
set_option maxRecDepth 100000 in
set_option maxHeartbeats 2000000 in
theorem cod_3 (s : ByteArray) (hs : s.size ≤ 1000000) (w0 : World) (hE : Env w0) (hS : EnvS w0) (hV : verL <+: s.data.toList) (hP : (32 : UInt8) ∈ resA s.data.toList) (hA : atoP (hdB (resA s.data.toList)) = none) : Calls Tryz.prog 66 #[.string s] w0 (fun e w' => e = .returned (.tuple #[.int .i64 0, .bool false]) ∧ Below w0.heap.size w0 w') := by
 have LC := cutV_any s
 have hr : (resA s.data.toList).length ≤ 1000000 := Nat.le_trans (resA_len _) (by rw [size_list]; exact hs)
 have LD := fun (y : Bool) (hy : y = true ↔ (32 : UInt8) ∈ resA s.data.toList) => cutB_all (bo (resA s.data.toList)) (by rw [bo_size]; exact hr) y (by rw [bo_list]; exact hy)
 simp only [bo_list] at LD
 have h9 : (hdB (resA s.data.toList)).length ≤ 1000000 := Nat.le_trans (hdB_len _) hr
 have LT := fun (W : World) (hb : Below w0.heap.size w0 W) => atoi_full (bo (hdB (resA s.data.toList))) (by rw [bo_size]; omega) W (hE.next hb) (hS.next hb)
 simp only [bo_list] at LT
 have LT := hideL LT
 have LM := hideL mayCode_any
 have LR := fun (W : World) => mayReason_any (bo (tlB (resA s.data.toList))) W
 simp only [bo_list] at LR
 rw [decide_eq_true hV] at LC
 have LD := LD true ⟨fun _ => hP, fun _ => rfl⟩
 have LC := hideL LC
 have LD := hideL LD
 have HA := hideL hA
 clear hV hP hr h9 hs hE hS LR hA
 go_enter Tryz.func66, Tryz.ntmps66
 go_wp2_with (first
   | (go_at_call 103; refine (LC.out _).mono ?_; rintro e w2 ⟨rfl, hw⟩; rw [hw]; clear hw w2)
   | (go_at_call 41; refine (LD.out _).mono ?_; rintro e w3 ⟨rfl, hB⟩; have HB3 := hideL hB; clear hB)
   | (go_at_call 104; refine (LT.out _ HB3.out).mono ?_; rintro e w4 ⟨⟨x, ev, rfl, hx1, hx2⟩, hB⟩; have HB4 := hideL (HB3.out.trans (hB.mono HB3.out.size)); obtain ⟨te, pe, rfl⟩ := hx2 HA.out; clear hB hx1 hx2))
 exact bodyPost_ret (v := .tuple #[.int .i64 0, .bool false]) (by simp [results, Tryz.results66, go_sem]) rfl ⟨rfl, HB4.out⟩
set_option maxRecDepth 100000 in
set_option maxHeartbeats 2000000 in
theorem cod_4 (s : ByteArray) (hs : s.size ≤ 1000000) (w0 : World) (hE : Env w0) (hS : EnvS w0) (hV : verL <+: s.data.toList) (hP : (32 : UInt8) ∈ resA s.data.toList) {v : Int} (hA : atoP (hdB (resA s.data.toList)) = some v) (hC : codB v = false) : Calls Tryz.prog 66 #[.string s] w0 (fun e w' => e = .returned (.tuple #[.int .i64 0, .bool false]) ∧ Below w0.heap.size w0 w') := by
 have LC := cutV_any s
 have hr : (resA s.data.toList).length ≤ 1000000 := Nat.le_trans (resA_len _) (by rw [size_list]; exact hs)
 have LD := fun (y : Bool) (hy : y = true ↔ (32 : UInt8) ∈ resA s.data.toList) => cutB_all (bo (resA s.data.toList)) (by rw [bo_size]; exact hr) y (by rw [bo_list]; exact hy)
 simp only [bo_list] at LD
 have h9 : (hdB (resA s.data.toList)).length ≤ 1000000 := Nat.le_trans (hdB_len _) hr
 have LT := fun (W : World) (hb : Below w0.heap.size w0 W) => atoi_full (bo (hdB (resA s.data.toList))) (by rw [bo_size]; omega) W (hE.next hb) (hS.next hb)
 simp only [bo_list] at LT
 have LT := hideL LT
 have LM := hideL mayCode_any
 have LR := fun (W : World) => mayReason_any (bo (tlB (resA s.data.toList))) W
 simp only [bo_list] at LR
 rw [decide_eq_true hV] at LC
 have LD := LD true ⟨fun _ => hP, fun _ => rfl⟩
 have LC := hideL LC
 have LD := hideL LD
 have HA := hideL hA
 have LM : HidL (∀ W : World, Calls Tryz.prog 64 #[.int .i64 v] W (fun e w' => e = .returned (.bool false) ∧ w' = W)) := ⟨fun W => by have := mayCode_any v W; rw [hC] at this; exact this⟩
 clear hV hP hr h9 hs hE hS LR hA hC
 go_enter Tryz.func66, Tryz.ntmps66
 go_wp2_with (first
   | (go_at_call 103; refine (LC.out _).mono ?_; rintro e w2 ⟨rfl, hw⟩; rw [hw]; clear hw w2)
   | (go_at_call 41; refine (LD.out _).mono ?_; rintro e w3 ⟨rfl, hB⟩; have HB3 := hideL hB; clear hB)
   | (go_at_call 104; refine (LT.out _ HB3.out).mono ?_; rintro e w4 ⟨⟨x, ev, rfl, hx1, hx2⟩, hB⟩; have HB4 := hideL (HB3.out.trans (hB.mono HB3.out.size)); obtain ⟨rfl, rfl⟩ := hx1 _ HA.out; clear hB hx1 hx2)
   | (go_at_call 64; refine (LM.out _).mono ?_; rintro e w5 ⟨rfl, hw⟩; rw [hw]; clear hw w5))
 exact bodyPost_ret (v := .tuple #[.int .i64 0, .bool false]) (by simp [results, Tryz.results66, go_sem]) rfl ⟨rfl, HB4.out⟩
set_option maxRecDepth 100000 in
set_option maxHeartbeats 2000000 in
theorem cod_5 (s : ByteArray) (hs : s.size ≤ 1000000) (w0 : World) (hE : Env w0) (hS : EnvS w0) (hV : verL <+: s.data.toList) (hP : (32 : UInt8) ∈ resA s.data.toList) {v : Int} (hA : atoP (hdB (resA s.data.toList)) = some v) (hC : codB v = true) (hR : (tlB (resA s.data.toList)).all priB = false) : Calls Tryz.prog 66 #[.string s] w0 (fun e w' => e = .returned (.tuple #[.int .i64 0, .bool false]) ∧ Below w0.heap.size w0 w') := by
 have LC := cutV_any s
 have hr : (resA s.data.toList).length ≤ 1000000 := Nat.le_trans (resA_len _) (by rw [size_list]; exact hs)
 have LD := fun (y : Bool) (hy : y = true ↔ (32 : UInt8) ∈ resA s.data.toList) => cutB_all (bo (resA s.data.toList)) (by rw [bo_size]; exact hr) y (by rw [bo_list]; exact hy)
 simp only [bo_list] at LD
 have h9 : (hdB (resA s.data.toList)).length ≤ 1000000 := Nat.le_trans (hdB_len _) hr
 have LT := fun (W : World) (hb : Below w0.heap.size w0 W) => atoi_full (bo (hdB (resA s.data.toList))) (by rw [bo_size]; omega) W (hE.next hb) (hS.next hb)
 simp only [bo_list] at LT
 have LT := hideL LT
 have LM := hideL mayCode_any
 have LR := fun (W : World) => mayReason_any (bo (tlB (resA s.data.toList))) W
 simp only [bo_list] at LR
 rw [decide_eq_true hV] at LC
 have LD := LD true ⟨fun _ => hP, fun _ => rfl⟩
 have LC := hideL LC
 have LD := hideL LD
 have HA := hideL hA
 have LM : HidL (∀ W : World, Calls Tryz.prog 64 #[.int .i64 v] W (fun e w' => e = .returned (.bool true) ∧ w' = W)) := ⟨fun W => by have := mayCode_any v W; rw [hC] at this; exact this⟩
 rw [hR] at LR
 have LR := hideL LR
 clear hV hP hr h9 hs hE hS hA hC hR
 go_enter Tryz.func66, Tryz.ntmps66
 go_wp2_with (first
   | (go_at_call 103; refine (LC.out _).mono ?_; rintro e w2 ⟨rfl, hw⟩; rw [hw]; clear hw w2)
   | (go_at_call 41; refine (LD.out _).mono ?_; rintro e w3 ⟨rfl, hB⟩; have HB3 := hideL hB; clear hB)
   | (go_at_call 104; refine (LT.out _ HB3.out).mono ?_; rintro e w4 ⟨⟨x, ev, rfl, hx1, hx2⟩, hB⟩; have HB4 := hideL (HB3.out.trans (hB.mono HB3.out.size)); obtain ⟨rfl, rfl⟩ := hx1 _ HA.out; clear hB hx1 hx2)
   | (go_at_call 64; refine (LM.out _).mono ?_; rintro e w5 ⟨rfl, hw⟩; rw [hw]; clear hw w5)
   | (go_at_call 105; refine (LR.out _).mono ?_; rintro e w6 ⟨rfl, hB⟩; have HB6 := hideL (HB4.out.trans (hB.mono HB4.out.size)); clear hB))
 exact bodyPost_ret (v := .tuple #[.int .i64 0, .bool false]) (by simp [results, Tryz.results66, go_sem]) rfl ⟨rfl, HB6.out⟩
set_option maxRecDepth 100000 in
set_option maxHeartbeats 2000000 in
theorem cod_6 (s : ByteArray) (hs : s.size ≤ 1000000) (w0 : World) (hE : Env w0) (hS : EnvS w0) (hV : verL <+: s.data.toList) (hP : (32 : UInt8) ∈ resA s.data.toList) {n : Nat} (hA : atoP (hdB (resA s.data.toList)) = some (n : Int)) (hC : codB n = true) (hR : (tlB (resA s.data.toList)).all priB = true) (hD : decS n ≠ hdB (resA s.data.toList)) : Calls Tryz.prog 66 #[.string s] w0 (fun e w' => e = .returned (.tuple #[.int .i64 0, .bool false]) ∧ Below w0.heap.size w0 w') := by
 have LC := cutV_any s
 have hr : (resA s.data.toList).length ≤ 1000000 := Nat.le_trans (resA_len _) (by rw [size_list]; exact hs)
 have LD := fun (y : Bool) (hy : y = true ↔ (32 : UInt8) ∈ resA s.data.toList) => cutB_all (bo (resA s.data.toList)) (by rw [bo_size]; exact hr) y (by rw [bo_list]; exact hy)
 simp only [bo_list] at LD
 have h9 : (hdB (resA s.data.toList)).length ≤ 1000000 := Nat.le_trans (hdB_len _) hr
 have LT := fun (W : World) (hb : Below w0.heap.size w0 W) => atoi_full (bo (hdB (resA s.data.toList))) (by rw [bo_size]; omega) W (hE.next hb) (hS.next hb)
 simp only [bo_list] at LT
 have LT := hideL LT
 have LM := hideL mayCode_any
 have LR := fun (W : World) => mayReason_any (bo (tlB (resA s.data.toList))) W
 simp only [bo_list] at LR
 rw [decide_eq_true hV] at LC
 have LD := LD true ⟨fun _ => hP, fun _ => rfl⟩
 have LC := hideL LC
 have LD := hideL LD
 have HA := hideL hA
 have LM : HidL (∀ W : World, Calls Tryz.prog 64 #[.int .i64 (n : Int)] W (fun e w' => e = .returned (.bool true) ∧ w' = W)) := ⟨fun W => by have := mayCode_any (n : Int) W; rw [hC] at this; exact this⟩
 rw [hR] at LR
 have LR := hideL LR
 have hn : n < 10000 := by
   unfold codB at hC
   have := of_decide_eq_true hC
   omega
 have LG := hideL (digits_any n hn)
 have eD : ((bo (decS n)).toList == (bo (hdB (resA s.data.toList))).toList) = false := eqs_false (fun e => hD (bo_inj e))
 clear hV hP hr h9 hs hE hS hA hC hR hD hn
 go_enter Tryz.func66, Tryz.ntmps66
 go_wp2_with (first
   | (go_at_call 103; refine (LC.out _).mono ?_; rintro e w2 ⟨rfl, hw⟩; rw [hw]; clear hw w2)
   | (go_at_call 41; refine (LD.out _).mono ?_; rintro e w3 ⟨rfl, hB⟩; have HB3 := hideL hB; clear hB)
   | (go_at_call 104; refine (LT.out _ HB3.out).mono ?_; rintro e w4 ⟨⟨x, ev, rfl, hx1, hx2⟩, hB⟩; have HB4 := hideL (HB3.out.trans (hB.mono HB3.out.size)); obtain ⟨rfl, rfl⟩ := hx1 _ HA.out; clear hB hx1 hx2)
   | (go_at_call 64; refine (LM.out _).mono ?_; rintro e w5 ⟨rfl, hw⟩; rw [hw]; clear hw w5)
   | (go_at_call 105; refine (LR.out _).mono ?_; rintro e w6 ⟨rfl, hB⟩; have HB6 := hideL (HB4.out.trans (hB.mono HB4.out.size)); clear hB)
   | (go_at_call 101; refine (LG.out _).mono ?_; rintro e w7 ⟨rfl, hB⟩; have HB7 := hideL (HB6.out.trans (hB.mono HB6.out.size)); clear hB))
 exact bodyPost_ret (v := .tuple #[.int .i64 0, .bool false]) (by simp [results, Tryz.results66, go_sem]) rfl ⟨rfl, HB7.out⟩
set_option maxRecDepth 100000 in
set_option maxHeartbeats 2000000 in
theorem cod_7 (s : ByteArray) (hs : s.size ≤ 1000000) (w0 : World) (hE : Env w0) (hS : EnvS w0) (hV : verL <+: s.data.toList) (hP : (32 : UInt8) ∈ resA s.data.toList) {n : Nat} (hA : atoP (hdB (resA s.data.toList)) = some (n : Int)) (hC : codB n = true) (hR : (tlB (resA s.data.toList)).all priB = true) (hD : decS n = hdB (resA s.data.toList)) : Calls Tryz.prog 66 #[.string s] w0 (fun e w' => e = .returned (.tuple #[.int .i64 n, .bool true]) ∧ Below w0.heap.size w0 w') := by
 have LC := cutV_any s
 have hr : (resA s.data.toList).length ≤ 1000000 := Nat.le_trans (resA_len _) (by rw [size_list]; exact hs)
 have LD := fun (y : Bool) (hy : y = true ↔ (32 : UInt8) ∈ resA s.data.toList) => cutB_all (bo (resA s.data.toList)) (by rw [bo_size]; exact hr) y (by rw [bo_list]; exact hy)
 simp only [bo_list] at LD
 have h9 : (hdB (resA s.data.toList)).length ≤ 1000000 := Nat.le_trans (hdB_len _) hr
 have LT := fun (W : World) (hb : Below w0.heap.size w0 W) => atoi_full (bo (hdB (resA s.data.toList))) (by rw [bo_size]; omega) W (hE.next hb) (hS.next hb)
 simp only [bo_list] at LT
 have LT := hideL LT
 have LM := hideL mayCode_any
 have LR := fun (W : World) => mayReason_any (bo (tlB (resA s.data.toList))) W
 simp only [bo_list] at LR
 rw [decide_eq_true hV] at LC
 have LD := LD true ⟨fun _ => hP, fun _ => rfl⟩
 have LC := hideL LC
 have LD := hideL LD
 have HA := hideL hA
 have LM : HidL (∀ W : World, Calls Tryz.prog 64 #[.int .i64 (n : Int)] W (fun e w' => e = .returned (.bool true) ∧ w' = W)) := ⟨fun W => by have := mayCode_any (n : Int) W; rw [hC] at this; exact this⟩
 rw [hR] at LR
 have LR := hideL LR
 have hn : n < 10000 := by
   unfold codB at hC
   have := of_decide_eq_true hC
   omega
 have LG := hideL (digits_any n hn)
 have eD : ((bo (decS n)).toList == (bo (hdB (resA s.data.toList))).toList) = true := eqs_true (by rw [hD])
 clear hV hP hr h9 hs hE hS hA hC hR hD hn
 go_enter Tryz.func66, Tryz.ntmps66
 go_wp2_with (first
   | (go_at_call 103; refine (LC.out _).mono ?_; rintro e w2 ⟨rfl, hw⟩; rw [hw]; clear hw w2)
   | (go_at_call 41; refine (LD.out _).mono ?_; rintro e w3 ⟨rfl, hB⟩; have HB3 := hideL hB; clear hB)
   | (go_at_call 104; refine (LT.out _ HB3.out).mono ?_; rintro e w4 ⟨⟨x, ev, rfl, hx1, hx2⟩, hB⟩; have HB4 := hideL (HB3.out.trans (hB.mono HB3.out.size)); obtain ⟨rfl, rfl⟩ := hx1 _ HA.out; clear hB hx1 hx2)
   | (go_at_call 64; refine (LM.out _).mono ?_; rintro e w5 ⟨rfl, hw⟩; rw [hw]; clear hw w5)
   | (go_at_call 105; refine (LR.out _).mono ?_; rintro e w6 ⟨rfl, hB⟩; have HB6 := hideL (HB4.out.trans (hB.mono HB4.out.size)); clear hB)
   | (go_at_call 101; refine (LG.out _).mono ?_; rintro e w7 ⟨rfl, hB⟩; have HB7 := hideL (HB6.out.trans (hB.mono HB6.out.size)); clear hB))
 exact bodyPost_ret (v := .tuple #[.int .i64 n, .bool true]) (by simp [results, Tryz.results66, go_sem]) rfl ⟨rfl, HB7.out⟩
theorem codeOf_any (s : ByteArray) (hs : s.size ≤ 1000000) (w0 : World) (hE : Env w0) (hS : EnvS w0) : Calls Tryz.prog 66 #[.string s] w0 (fun e w' => e = .returned (codA (codP s.data.toList)) ∧ Below w0.heap.size w0 w') := by
 have hno : ∀ (_ : codP s.data.toList = none) (_ : Calls Tryz.prog 66 #[.string s] w0 (fun e w' => e = .returned (.tuple #[.int .i64 0, .bool false]) ∧ Below w0.heap.size w0 w')), Calls Tryz.prog 66 #[.string s] w0 (fun e w' => e = .returned (codA (codP s.data.toList)) ∧ Below w0.heap.size w0 w') := by
   intro h hc
   rw [h]
   exact hc
 by_cases hV : verL <+: s.data.toList
 case neg => exact hno (cod_none fun n h => hV (cod_parts h).1) (cod_1 s hs w0 hE hS hV)
 by_cases hP : (32 : UInt8) ∈ resA s.data.toList
 case neg => exact hno (cod_none fun n h => hP (cod_parts h).2.1) (cod_2 s hs w0 hE hS hV hP)
 have hato : ∀ n, codP s.data.toList = some n → atoP (hdB (resA s.data.toList)) = some (n : Int) ∧ codB n = true ∧ (tlB (resA s.data.toList)).all priB = true ∧ decS n = hdB (resA s.data.toList) := fun n h => by
   obtain ⟨_, _, h3, h4⟩ := cod_parts h
   have hb := (codP_some h).2.1
   have h3' : hdB (resA s.data.toList) = decS n := h3
   exact ⟨by rw [h3']; exact ato_dec hb, hb, h4, h3'.symm⟩
 cases hA : atoP (hdB (resA s.data.toList)) with
 | none => exact hno (cod_none fun n h => by have := (hato n h).1; rw [hA] at this; cases this) (cod_3 s hs w0 hE hS hV hP hA)
 | some v =>
   have hin : ∀ n, codP s.data.toList = some n → v = (n : Int) := fun n h => by
     have := (hato n h).1
     rw [hA] at this
     injection this
   cases hC : codB v with
   | false => exact hno (cod_none fun n h => by have := (hato n h).2.1; rw [← hin n h, hC] at this; cases this) (cod_4 s hs w0 hE hS hV hP hA hC)
   | true =>
     obtain ⟨n, rfl⟩ : ∃ n : Nat, v = (n : Int) := ⟨v.toNat, (code_nat hC).symm⟩
     cases hR : (tlB (resA s.data.toList)).all priB with
     | false => exact hno (cod_none fun m h => by have := (hato m h).2.2.1; rw [hR] at this; cases this) (cod_5 s hs w0 hE hS hV hP hA hC hR)
     | true =>
       by_cases hD : decS n = hdB (resA s.data.toList)
       · rw [parts_cod hC hV hP hD.symm hR]
         exact cod_7 s hs w0 hE hS hV hP hA hC hR hD
       · exact hno (cod_none fun m h => by
           have h1 := hin m h
           obtain rfl : n = m := by omega
           exact hD (hato n h).2.2.2) (cod_6 s hs w0 hE hS hV hP hA hC hR hD)
end Go.Proofs.YtafmgoekgijfgaaGreatDoor
