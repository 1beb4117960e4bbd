/- The law HeadsTable (P9.3, P9.5): what is long; rows by their lengths. -/
import Derived.Test.YtilefgmlnmpeoaaDoorHeadsAddedLaw
import Derived.Test.YtilefgmlnmpeoaaDoorHdRefT
import Derived.Test.YtilefgmlnmpeoaaDoorHdRef
namespace Go.Proofs.YtilefgmlnmpeoaaDoor
open Go.RowKit Go.Lib

theorem allRN_any (name : ByteArray) (v : Value) (l : List Hd) (n : Nat) (hn : (allP name l).length = n) (w : World) (hv : GAt KH w v l) (hl : l.length ≤ 1000) :
    Calls Tryd.prog 21 #[.string name, v] w (fun e w' => ∃ ro rc, e = .returned (.slice ro n rc) ∧ GAt KS w' (.slice ro n rc) (allP name l) ∧ Below w.heap.size w w') :=
  (allR_any name v l w hv hl).mono fun e w' ⟨r, he, hR, hB⟩ => by
    have hg := hR.gAt
    obtain ⟨ro, rc, hr⟩ := hg.len
    rw [hn] at hr
    subst hr
    exact ⟨ro, rc, he, hg, hB⟩
theorem textsSame_any (va vb : Value) (a : List ByteArray) (w : World) (ha : GAt KS w va a) (hb : GAt KS w vb a) (hm : a.length ≤ 1000) :
    Calls Tryd.prog 23 #[va, vb] w (fun e w' => e = .returned (.bool true) ∧ Below w.heap.size w w') := by
  have h := texts_any va vb a a w ha hb hm
  rwa [decide_eq_true rfl] at h
theorem sameSame_any (va vb : Value) (a : List Hd) (w : World) (ha : GAt KH w va a) (hb : GAt KH w vb a) (hm : a.length ≤ 1000) :
    Calls Tryd.prog 26 #[va, vb] w (fun e w' => e = .returned (.bool true) ∧ Below w.heap.size w w') := by
  have h := same_any va vb a a w ha hb hm
  rwa [decide_eq_true rfl] at h
theorem delP_snoc (name : ByteArray) (l : List Hd) (h : Hd) : delP name (l ++ [h]) = delP name l ++ (if h.n = name then [] else [h]) := by
  unfold delP
  rw [List.filter_append]
  by_cases e : h.n = name <;> simp [e]

set_option maxRecDepth 100000 in
set_option maxHeartbeats 8000000 in
theorem table_long1 (v : Value) (l : List Hd) (h : Hd) (name : ByteArray) (w0 : World) (hv : GAt KH w0 v l) (hE : Env w0) (hl : longP l = true) : Calls Tryd.prog 4 #[v, hdV h, .string name] w0 (fun e w' => e = .returned (.bool true) ∧ Below w0.heap.size w0 w') := by
  have LW := hideL (fun W (hE : Env W) => awake_any W hE)
  have HS := hideL (SL.new h hv hE)
  have L1 := hideL (fun W hv => long_any v l W hv)
  have L2 := hideL (long_lit h)
  rw [hl] at L1
  clear hl
  obtain ⟨n, c⟩ := h
  obtain ⟨ao, cap, rfl⟩ := hv.len
  simp only [hdV] at *
  clear hv hE
  go_enter Tryd.func4, Tryd.ntmps4
  go_wp2_with (first
    | (go_at_call 9; first
      | (with_reducible refine (L1.out _ HS.out.row).mono ?_; rintro e w1 ⟨rfl, hB⟩; replace HS := hideL (HS.out.next hB); (try clear c0 c1); have c0 := HS.out.bx.c0; have c1 := HS.out.bx.c1; (try replace HCL := hideL ((hB.cell (p := ⟨b, q, none⟩) HBL.out).trans HCL.out)); (try replace HBL := hideL (Nat.lt_of_lt_of_le HBL.out hB.size)); (try replace HWS := hideL (HWS.out.below hB)); (try replace HA := hideL (HA.out.below hB)); (try replace HX := hideL (HX.out.below hB)); clear hB)
      | (with_reducible refine (L2.out _).mono ?_; rintro e w2 ⟨rfl, hB⟩; replace HS := hideL (HS.out.next hB); (try clear c0 c1); have c0 := HS.out.bx.c0; have c1 := HS.out.bx.c1; (try replace HCL := hideL ((hB.cell (p := ⟨b, q, none⟩) HBL.out).trans HCL.out)); (try replace HBL := hideL (Nat.lt_of_lt_of_le HBL.out hB.size)); (try replace HWS := hideL (HWS.out.below hB)); (try replace HA := hideL (HA.out.below hB)); (try replace HX := hideL (HX.out.below hB)); clear hB))
    | (go_at_call 10; with_reducible refine (LW.out _ HS.out.env).mono ?_; rintro e wx ⟨rfl, hB⟩; replace HS := hideL (HS.out.next hB); (try clear c0 c1); have c0 := HS.out.bx.c0; have c1 := HS.out.bx.c1; (try replace HCL := hideL ((hB.cell (p := ⟨b, q, none⟩) HBL.out).trans HCL.out)); (try replace HBL := hideL (Nat.lt_of_lt_of_le HBL.out hB.size)); (try replace HWS := hideL (HWS.out.below hB)); (try replace HA := hideL (HA.out.below hB)); (try replace HX := hideL (HX.out.below hB)); clear hB))
  go_ret
  exact ⟨rfl, HS.out.be⟩
set_option maxRecDepth 100000 in
set_option maxHeartbeats 8000000 in
theorem table_long2 (v : Value) (l : List Hd) (h : Hd) (name : ByteArray) (w0 : World) (hv : GAt KH w0 v l) (hE : Env w0) (hl : longP l = false) (hh : longH h = true) : Calls Tryd.prog 4 #[v, hdV h, .string name] w0 (fun e w' => e = .returned (.bool true) ∧ Below w0.heap.size w0 w') := by
  have LW := hideL (fun W (hE : Env W) => awake_any W hE)
  have HS := hideL (SL.new h hv hE)
  have L1 := hideL (fun W hv => long_any v l W hv)
  have L2 := hideL (long_lit h)
  rw [hl] at L1
  rw [hh] at L2
  clear hl hh
  obtain ⟨n, c⟩ := h
  obtain ⟨ao, cap, rfl⟩ := hv.len
  simp only [hdV] at *
  clear hv hE
  go_enter Tryd.func4, Tryd.ntmps4
  go_wp2_with (first
    | (go_at_call 9; first
      | (with_reducible refine (L1.out _ HS.out.row).mono ?_; rintro e w1 ⟨rfl, hB⟩; replace HS := hideL (HS.out.next hB); (try clear c0 c1); have c0 := HS.out.bx.c0; have c1 := HS.out.bx.c1; (try replace HCL := hideL ((hB.cell (p := ⟨b, q, none⟩) HBL.out).trans HCL.out)); (try replace HBL := hideL (Nat.lt_of_lt_of_le HBL.out hB.size)); (try replace HWS := hideL (HWS.out.below hB)); (try replace HA := hideL (HA.out.below hB)); (try replace HX := hideL (HX.out.below hB)); clear hB)
      | (with_reducible refine (L2.out _).mono ?_; rintro e w2 ⟨rfl, hB⟩; replace HS := hideL (HS.out.next hB); (try clear c0 c1); have c0 := HS.out.bx.c0; have c1 := HS.out.bx.c1; (try replace HCL := hideL ((hB.cell (p := ⟨b, q, none⟩) HBL.out).trans HCL.out)); (try replace HBL := hideL (Nat.lt_of_lt_of_le HBL.out hB.size)); (try replace HWS := hideL (HWS.out.below hB)); (try replace HA := hideL (HA.out.below hB)); (try replace HX := hideL (HX.out.below hB)); clear hB))
    | (go_at_call 10; with_reducible refine (LW.out _ HS.out.env).mono ?_; rintro e wx ⟨rfl, hB⟩; replace HS := hideL (HS.out.next hB); (try clear c0 c1); have c0 := HS.out.bx.c0; have c1 := HS.out.bx.c1; (try replace HCL := hideL ((hB.cell (p := ⟨b, q, none⟩) HBL.out).trans HCL.out)); (try replace HBL := hideL (Nat.lt_of_lt_of_le HBL.out hB.size)); (try replace HWS := hideL (HWS.out.below hB)); (try replace HA := hideL (HA.out.below hB)); (try replace HX := hideL (HX.out.below hB)); clear hB))
  go_ret
  exact ⟨rfl, HS.out.be⟩
set_option maxRecDepth 100000 in
set_option maxHeartbeats 8000000 in
theorem table_long3 (v : Value) (l : List Hd) (h : Hd) (name : ByteArray) (w0 : World) (hv : GAt KH w0 v l) (hE : Env w0) (hl : longP l = false) (hh : longH h = false) (hs : 1000 < name.size) : Calls Tryd.prog 4 #[v, hdV h, .string name] w0 (fun e w' => e = .returned (.bool true) ∧ Below w0.heap.size w0 w') := by
  have LW := hideL (fun W (hE : Env W) => awake_any W hE)
  have HS := hideL (SL.new h hv hE)
  have L1 := hideL (fun W hv => long_any v l W hv)
  have L2 := hideL (long_lit h)
  rw [hl] at L1
  rw [hh] at L2
  have hs' : (1000 : Int) < (name.size : Int) := by omega
  clear hl hh hs
  obtain ⟨n, c⟩ := h
  obtain ⟨ao, cap, rfl⟩ := hv.len
  simp only [hdV] at *
  clear hv hE
  go_enter Tryd.func4, Tryd.ntmps4
  go_wp2_with (first
    | (go_at_call 9; first
      | (with_reducible refine (L1.out _ HS.out.row).mono ?_; rintro e w1 ⟨rfl, hB⟩; replace HS := hideL (HS.out.next hB); (try clear c0 c1); have c0 := HS.out.bx.c0; have c1 := HS.out.bx.c1; (try replace HCL := hideL ((hB.cell (p := ⟨b, q, none⟩) HBL.out).trans HCL.out)); (try replace HBL := hideL (Nat.lt_of_lt_of_le HBL.out hB.size)); (try replace HWS := hideL (HWS.out.below hB)); (try replace HA := hideL (HA.out.below hB)); (try replace HX := hideL (HX.out.below hB)); clear hB)
      | (with_reducible refine (L2.out _).mono ?_; rintro e w2 ⟨rfl, hB⟩; replace HS := hideL (HS.out.next hB); (try clear c0 c1); have c0 := HS.out.bx.c0; have c1 := HS.out.bx.c1; (try replace HCL := hideL ((hB.cell (p := ⟨b, q, none⟩) HBL.out).trans HCL.out)); (try replace HBL := hideL (Nat.lt_of_lt_of_le HBL.out hB.size)); (try replace HWS := hideL (HWS.out.below hB)); (try replace HA := hideL (HA.out.below hB)); (try replace HX := hideL (HX.out.below hB)); clear hB))
    | (go_at_call 10; with_reducible refine (LW.out _ HS.out.env).mono ?_; rintro e wx ⟨rfl, hB⟩; replace HS := hideL (HS.out.next hB); (try clear c0 c1); have c0 := HS.out.bx.c0; have c1 := HS.out.bx.c1; (try replace HCL := hideL ((hB.cell (p := ⟨b, q, none⟩) HBL.out).trans HCL.out)); (try replace HBL := hideL (Nat.lt_of_lt_of_le HBL.out hB.size)); (try replace HWS := hideL (HWS.out.below hB)); (try replace HA := hideL (HA.out.below hB)); (try replace HX := hideL (HX.out.below hB)); clear hB))
  go_ret
  exact ⟨rfl, HS.out.be⟩
end Go.Proofs.YtilefgmlnmpeoaaDoor
