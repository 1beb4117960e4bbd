/- The program's Canon, Segments, isLong, Join. -/
import Derived.Test.YthbgnkkjchaaeaaDoorPhNormal
import Derived.Shelf.Slices.Equal
import Derived.Shelf.Slices.Empties2
namespace Go.Proofs.YthbgnkkjchaaeaaDoor
open Go.RowKit

set_option maxRecDepth 100000 in
set_option maxHeartbeats 400000 in
theorem canon_any (s : ByteArray) (hs : s.size ≤ 1000000) (w : World) (hE : Env w) : Calls Tryd.prog 10 #[.string s] w fun e w' => e = .returned (.bool (canP s.data.toList)) ∧ Below w.heap.size w w' := by
  have HN := hideL (normal_any s hs w hE)
  unfold canP
  cases hn : norP s.data.toList with
  | none =>
    rw [hn] at HN
    have HN : HidL (Calls Tryd.prog 8 #[.string s] w fun e w' => e = .returned (.tuple #[.string ⟨#[]⟩, .string ⟨#[]⟩, .int .i64 2]) ∧ Below w.heap.size w w') := HN
    clear hn
    go_enter Tryd.func10, Tryd.ntmps10
    go_wp2_with (first | (go_at_call 8; refine (HN.out).mono ?_; rintro e w2 ⟨rfl, hB2⟩) | go_region)
    all_goals go_ret
    all_goals exact ⟨rfl, hB2⟩
  | some pq =>
    obtain ⟨p, q⟩ := pq
    rw [hn] at HN
    have HN : HidL (Calls Tryd.prog 8 #[.string s] w fun e w' => e = .returned (.tuple #[.string (bo p), .string (bo q), .int .i64 0]) ∧ Below w.heap.size w w') := HN
    clear hn
    dsimp only
    have he : ((bo p).toList == s.toList) = decide (p = s.data.toList) := by
      rw [eqs_dec]
      apply decide_eq_decide.2
      constructor
      · intro e
        have : (bo p).data.toList = _ := congrArg (fun b : ByteArray => b.data.toList) e
        exact this
      · intro e
        rw [e, bo_of]
    obtain ⟨b, hb⟩ : ∃ b, decide (p = s.data.toList) = b := ⟨_, rfl⟩
    rw [hb] at he ⊢
    clear hb
    cases b <;>
    · go_enter Tryd.func10, Tryd.ntmps10
      go_wp2_with (first | (go_at_call 8; refine (HN.out).mono ?_; rintro e w2 ⟨rfl, hB2⟩) | go_region)
      all_goals go_ret
      all_goals exact ⟨rfl, hB2⟩
def segP (l : List UInt8) : List (List UInt8) := (lefP [] (splP l)).getD []
set_option maxRecDepth 100000 in
set_option maxHeartbeats 400000 in
theorem segments_yes (s : ByteArray) (hs : s.size ≤ 1000000) (hc : canP s.data.toList = true) (w : World) (hE : Env w) : Calls Tryd.prog 12 #[.string s] w fun e w' => ∃ v, e = .returned (.tuple #[v, .int .i64 0]) ∧ GAt KS w' v ((segP s.data.toList).map bo) ∧ Below w.heap.size w w' := by
  have HN := hideL (canon_any s hs w hE)
  rw [hc] at HN
  have HC := hideL (fun W : World => clone_any s (by omega) W)
  have HL := hideL (fun W : World => left_any s hs W)
  clear hc hE
  unfold segP
  obtain ⟨K, hK⟩ : ∃ K, lefP [] (splP s.data.toList) = K := ⟨_, rfl⟩
  rw [hK] at HL ⊢
  clear hK
  go_enter Tryd.func12, Tryd.ntmps12
  go_wp2_with (first
    | (go_at_call 10; refine (HN.out).mono ?_; rintro e w2 ⟨rfl, hB2⟩)
    | (go_at_call 28; refine (HC.out _).mono ?_; rintro e w3 ⟨rfl, hB3⟩; have HB3 := hideL (hB2.trans (hB3.mono hB2.size)))
    | (go_at_call 24; refine (HL.out _).mono ?_; rintro e w5 ⟨v, d, b, rfl, hb, hs5, hn5, hB5⟩; have HB5 := hideL (HB3.out.trans (hB5.mono HB3.out.size)); have HS5 := hideL hs5; have HN5 := hideL hn5; clear hB5 hn5 hs5)
    | go_region)
  all_goals go_ret2
  all_goals refine ⟨v, rfl, ?_, HB5.out⟩
  all_goals cases K with
  | none => rw [HN5.out rfl]; exact GAt.nil _
  | some a => exact (HS5.out a rfl).2
set_option maxRecDepth 100000 in
set_option maxHeartbeats 400000 in
theorem segments_no (s : ByteArray) (hs : s.size ≤ 1000000) (hc : canP s.data.toList = false) (w : World) (hE : Env w) : Calls Tryd.prog 12 #[.string s] w fun e w' => e = .returned (.tuple #[.slice none 0 0, .int .i64 2]) ∧ Below w.heap.size w w' := by
  have HN := hideL (canon_any s hs w hE)
  rw [hc] at HN
  clear hc hE
  go_enter Tryd.func12, Tryd.ntmps12
  go_wp2_with (go_at_call 10; refine (HN.out).mono ?_; rintro e w2 ⟨rfl, hB2⟩)
  go_ret2
  exact ⟨rfl, hB2⟩
/-- How many bytes the segments have, a slash ahead of each. -/
def totP : List ByteArray → Nat
  | [] => 0
  | s :: r => 1 + s.size + totP r
theorem totP_le : ∀ l : List ByteArray, (∀ s ∈ l, s.size ≤ 1000) → totP l ≤ l.length * 1001
  | [], _ => by simp [totP]
  | s :: r, h => by
    have h1 := h s List.mem_cons_self
    have h2 := totP_le r (fun x hx => h x (List.mem_cons_of_mem _ hx))
    rw [totP, List.length_cons, Nat.succ_mul]
    omega
set_option maxRecDepth 100000 in
set_option maxHeartbeats 400000 in
theorem isLong_any (v : Value) (l : List ByteArray) (w : World) (hv : GAt KS w v l) (hs : ∀ s ∈ l, s.size ≤ 1000) (hn : l.length ≤ 1000) : Calls Tryd.prog 29 #[v] w fun e w' => e = .returned (.bool (decide (512 < totP l))) ∧ Below w.heap.size w w' := by
  obtain ⟨ao, cap, rfl⟩ := hv.len
  obtain ⟨n, hnn⟩ : ∃ n, l.length = n := ⟨_, rfl⟩
  rw [hnn] at hv hn ⊢
  have HN := hideL hnn
  have HV := hideL hv
  have HS := hideL hs
  obtain ⟨T, hT⟩ : ∃ T, totP l = T := ⟨_, rfl⟩
  rw [hT]
  have H0 : HidL (0 + totP (l.drop 0) = T) := ⟨by rw [Nat.zero_add]; exact hT⟩
  obtain ⟨R, hRR⟩ : ∃ R, decide (512 < T) = R := ⟨_, rfl⟩
  rw [hRR]
  have HRR := hideL hRR
  clear hT hv hnn hs hRR
  go_enter Tryd.func29, Tryd.ntmps29
  go_wp2_with fail
  go_loopw [3, 8] (fun t i wr => ∃ k m : Nat, k ≤ n ∧ i = .int .i64 k ∧ t = .int .i64 m ∧ m ≤ 512 ∧ HidL (Below w.heap.size w wr) ∧ HidL (m + totP (l.drop k) = T)) (fun _ i _ => n - (RowKit.intOf i).toNat)
  case atStart => exact ⟨0, 0, Nat.zero_le _, rfl, rfl, by omega, ⟨Below.refl _ _⟩, H0⟩
  case round =>
    obtain ⟨k, m, hk, rfl, rfl, hm, HB, HD⟩ := hrel
    clear H0
    by_cases hlt : k < n
    · have hlt' : (k : Int) < (n : Int) := by omega
      obtain ⟨b, o, hao, hbl, hcell⟩ := gat_text HV.out (k := k) hlt
      subst hao
      have hkl : k < l.length := by rw [HN.out]; exact hlt
      have hd : l.drop k = l.getD k ByteArray.empty :: l.drop (k + 1) := by
        rw [List.drop_eq_getElem_cons hkl]
        simp [List.getD, hkl]
      have hxs : (l.getD k ByteArray.empty).size ≤ 1000 := HS.out _ (by simp [List.getD, hkl])
      have hD := HD.out
      rw [hd, totP] at hD
      generalize l.getD k ByteArray.empty = x at *
      have c0 := (HB.out.cell (p := ⟨b, o + k, none⟩) hbl).trans hcell
      clear hcell hd HD
      by_cases hx : 512 < m + (1 + x.size)
      · have hR : R = true := by rw [← HRR.out]; exact decide_eq_true (by omega)
        subst hR
        have hx' : (512 : Int) < (m : Int) + (1 + (x.size : Int)) := by omega
        clear hD
        go_wp2_with fail
        go_ret
        exact ⟨rfl, HB.out⟩
      · have hx' : ¬ (512 : Int) < (m : Int) + (1 + (x.size : Int)) := by omega
        have HD2 : HidL ((m + (1 + x.size)) + totP (l.drop (k + 1)) = T) := ⟨by omega⟩
        clear hD
        go_wp2_with fail
        go_roundw
        case rel => exact ⟨k + 1, m + (1 + x.size), by omega, by go_num, by go_num, by omega, HB, HD2⟩
        case measure => simp [RowKit.intOf]; omega
    · obtain rfl : k = n := by omega
      have hlt' : ¬ (k : Int) < (k : Int) := by omega
      have hD := HD.out
      rw [List.drop_of_length_le (by rw [HN.out]; omega), totP] at hD
      have hR : R = false := by rw [← HRR.out]; exact decide_eq_false (by omega)
      subst hR
      clear hD HD
      go_wp2_with fail
      go_ret
      exact ⟨rfl, HB.out⟩
theorem equal_any (u v : Value) (a b : List ByteArray) (w : World) (hu : GAt KS w u a) (hv : GAt KS w v b) (ha : a.length ≤ 1000000) (hb : b.length ≤ 1000000) : Calls Tryd.prog 30 #[u, v] w fun e w' => e = .returned (.bool (decide (a = b))) ∧ Below w.heap.size w w' := by
  obtain ⟨ao, cap, rfl⟩ := hu.len
  obtain ⟨bo', cap', rfl⟩ := hv.len
  by_cases hab : a.length = b.length
  · by_cases h0 : a.length = 0
    · have e1 : a = [] := List.length_eq_zero_iff.1 h0
      have e2 : b = [] := List.length_eq_zero_iff.1 (by omega)
      subst e1 e2
      refine (Any.slices_Equal_string_empty Tryd.lays193 ao bo' cap 0 cap' w (by omega)).mono fun e w' h => ⟨?_, h.2 ▸ Below.refl _ _⟩
      rw [h.1]
      simp
    · obtain ⟨b1, o1, rfl, _, _⟩ := gat_text hu (k := 0) (by omega)
      obtain ⟨b2, o2, rfl, _, _⟩ := gat_text hv (k := 0) (by omega)
      have hc1 : ∀ j, j < a.length → w.cell? ⟨b1, o1 + j, none⟩ = some (.string (a.getD j ByteArray.empty)) := fun j hj => by
        obtain ⟨b', o', e, _, h3⟩ := gat_text hu hj
        injection e with e
        injection e with e1 e2
        subst e1 e2
        exact h3
      have hc2 : ∀ j, j < b.length → w.cell? ⟨b2, o2 + j, none⟩ = some (.string (b.getD j ByteArray.empty)) := fun j hj => by
        obtain ⟨b', o', e, _, h3⟩ := gat_text hv hj
        injection e with e
        injection e with e1 e2
        subst e1 e2
        exact h3
      have h := Any.slices_Equal_string Tryd.lays193 b1 o1 a.length cap b2 o2 b.length cap' a b w (Nat.le_refl _) (Nat.le_refl _) (by omega) (by omega) hc1 hc2
      rw [List.take_of_length_le (Nat.le_refl _), List.take_of_length_le (Nat.le_refl _)] at h
      exact h.mono fun e w' ⟨h1, q, hq⟩ => ⟨h1, hq ▸ below_drewN5 w q⟩
  · rw [decide_eq_false (fun e => hab (by rw [e]))]
    exact (Any.slices_Equal_string_lens Tryd.lays193 ao bo' a.length cap b.length cap' w hab).mono fun e w' h => ⟨h.1, h.2 ▸ Below.refl _ _⟩
def joR (dir : Bool) (l : List ByteArray) : Option (List UInt8) :=
  if totP l ≤ 512 ∧ canP (joiP dir (l.map (·.data.toList))) = true ∧ segP (joiP dir (l.map (·.data.toList))) = l.map (·.data.toList) then some (joiP dir (l.map (·.data.toList))) else none
def joA : Option (List UInt8) → Value
  | some p => .tuple #[.string (bo p), .int .i64 0]
  | none => .tuple #[.string ⟨#[]⟩, .int .i64 2]
theorem bo_map (l : List ByteArray) : (l.map (·.data.toList)).map bo = l := by
  rw [List.map_map]
  exact List.map_id'' (fun s => bo_of s) l
theorem map_inj_bo {a b : List (List UInt8)} (h : a.map bo = b.map bo) : a = b := by
  have := congrArg (List.map (fun s : ByteArray => s.data.toList)) h
  rwa [map_bo, map_bo] at this
theorem joi_total (dir : Bool) : ∀ l : List ByteArray, ((l.map (·.data.toList)).flatMap fun s => (47 : UInt8) :: s).length = totP l
  | [] => rfl
  | s :: r => by
    rw [List.map_cons, List.flatMap_cons, List.length_append, joi_total dir r, totP, List.length_cons, size_list]
    omega
set_option maxRecDepth 100000 in
set_option maxHeartbeats 1000000 in
theorem pjoin_any (dir : Bool) (v : Value) (l : List ByteArray) (w : World) (hE : Env w) (hv : GAt KS w v l) (hs : ∀ s ∈ l, s.size ≤ 1000) (hn : l.length ≤ 60) : Calls Tryd.prog 17 #[.bool dir, v] w fun e w' => e = .returned (joA (joR dir l)) ∧ Below w.heap.size w w' := by
  have HI := hideL (isLong_any v l w hv hs (by omega))
  have htot := totP_le l hs
  have htl : totP l ≤ 60 * 1001 := Nat.le_trans htot (Nat.mul_le_mul_right _ hn)
  by_cases ht : totP l ≤ 512
  · rw [decide_eq_false (by omega)] at HI
    obtain ⟨L, hL⟩ : ∃ L, l.map (·.data.toList) = L := ⟨_, rfl⟩
    have hLb : L.map bo = l := by rw [← hL, bo_map]
    have hJlen : (joiP dir L).length ≤ 1000 := by
      unfold joiP
      rw [List.length_append, ← hL, joi_total dir l]
      have : (if l.map (·.data.toList) = [] ∨ dir = true then [(47 : UInt8)] else []).length ≤ 1 := by split <;> simp
      omega
    have HV := hideL hv
    rw [← hLb] at hv
    have HJ := hideL (fun (W : World) (h : GAt KS W v (L.map bo)) => joined_any dir v L W h (by omega))
    have HGA := hideL hv
    have HE := hideL hE
    obtain ⟨J, hJ⟩ : ∃ J, joiP dir L = J := ⟨_, rfl⟩
    have hR : joR dir l = if canP J = true ∧ segP J = L then some J else none := by
      unfold joR
      rw [hL, hJ]
      by_cases h : canP J = true ∧ segP J = L
      · rw [if_pos h, if_pos ⟨ht, h⟩]
      · rw [if_neg h, if_neg (fun h' => h h'.2)]
    rw [hR]
    rw [hJ] at HJ hJlen
    clear hR hv htot htl ht hs hE hJ
    have hJs : (bo J).size ≤ 1000000 := by rw [bo_size]; omega
    cases hc : canP J
    · rw [if_neg (fun h => by cases h.1)]
      have HS := hideL (fun (W : World) (h : Env W) => segments_no (bo J) hJs hc W h)
      clear hc hJlen
      go_enter Tryd.func17, Tryd.ntmps17
      go_wp2_with (first
        | (go_at_call 29; refine (HI.out).mono ?_; rintro e w2 ⟨rfl, hB2⟩; have HG2 := hideL (HGA.out.below hB2); have HB2 := hideL hB2; have HE2 := hideL (HE.out.next hB2); clear hB2)
        | (go_at_call 25; refine (HJ.out _ HG2.out).mono ?_; rintro e w3 ⟨rfl, hB3⟩; have HB3 := hideL (HB2.out.trans (hB3.mono HB2.out.size)); have HE3 := hideL (HE2.out.next hB3); clear hB3)
        | (go_at_call 12; refine (HS.out _ HE3.out).mono ?_; rintro e w4 ⟨rfl, hB4⟩; have HB4 := hideL (HB3.out.trans (hB4.mono HB3.out.size)); clear hB4)
        | go_region)
      all_goals go_ret2
      all_goals exact ⟨rfl, HB4.out⟩
    · have HS := hideL (fun (W : World) (h : Env W) => segments_yes (bo J) hJs hc W h)
      rw [bo_list] at HS
      have hsl : (segP J).length ≤ 1000000 := by
        unfold segP
        cases hk : lefP [] (splP J) with
        | none => simp
        | some a =>
          have h1 := lefP_len _ _ _ hk
          have h2 := splP_length J
          simp at h1 ⊢
          omega
      obtain ⟨S, hS⟩ : ∃ S, segP J = S := ⟨_, rfl⟩
      rw [hS] at HS hsl ⊢
      have HQ := hideL (fun (u : Value) (W : World) (h1 : GAt KS W u (S.map bo)) (h2 : GAt KS W v (L.map bo)) => equal_any u v (S.map bo) (L.map bo) W h1 h2 (by rw [List.length_map]; exact hsl) (by rw [hLb]; omega))
      obtain ⟨b, hb⟩ : ∃ b, decide (S = L) = b := ⟨_, rfl⟩
      have hbb : decide (S.map bo = L.map bo) = b := by
        rw [← hb]
        apply decide_eq_decide.2
        exact ⟨map_inj_bo, fun e => by rw [e]⟩
      rw [hbb] at HQ
      have hif : (if true = true ∧ S = L then some J else none) = if b = true then some J else none := by
        rw [← hb]
        by_cases h : S = L
        · rw [if_pos ⟨rfl, h⟩, if_pos (decide_eq_true h)]
        · rw [if_neg (fun h' => h h'.2), if_neg (by rw [decide_eq_false h]; decide)]
      rw [hif]
      clear hc hJlen hsl hS hb hbb hif
      cases b
      · rw [if_neg (by decide)]
        go_enter Tryd.func17, Tryd.ntmps17
        go_wp2_with (first
          | (go_at_call 29; refine (HI.out).mono ?_; rintro e w2 ⟨rfl, hB2⟩; have HG2 := hideL (HGA.out.below hB2); have HB2 := hideL hB2; have HE2 := hideL (HE.out.next hB2); clear hB2)
          | (go_at_call 25; refine (HJ.out _ HG2.out).mono ?_; rintro e w3 ⟨rfl, hB3⟩; have HB3 := hideL (HB2.out.trans (hB3.mono HB2.out.size)); have HE3 := hideL (HE2.out.next hB3); have HG3 := hideL (HG2.out.below hB3); clear hB3)
          | (go_at_call 12; refine (HS.out _ HE3.out).mono ?_; rintro e w4 ⟨u, rfl, hg4, hB4⟩; have HB4 := hideL (HB3.out.trans (hB4.mono HB3.out.size)); have HQ4 := hideL (HQ.out u w4 hg4 (HG3.out.below hB4)); clear hB4 hg4)
          | (go_at_call 30; refine (HQ4.out).mono ?_; rintro e w5 ⟨rfl, hB5⟩; have HB5 := hideL (HB4.out.trans (hB5.mono HB4.out.size)); clear hB5)
          | go_region)
        all_goals go_ret2
        all_goals exact ⟨rfl, HB5.out⟩
      · rw [if_pos rfl]
        go_enter Tryd.func17, Tryd.ntmps17
        go_wp2_with (first
          | (go_at_call 29; refine (HI.out).mono ?_; rintro e w2 ⟨rfl, hB2⟩; have HG2 := hideL (HGA.out.below hB2); have HB2 := hideL hB2; have HE2 := hideL (HE.out.next hB2); clear hB2)
          | (go_at_call 25; refine (HJ.out _ HG2.out).mono ?_; rintro e w3 ⟨rfl, hB3⟩; have HB3 := hideL (HB2.out.trans (hB3.mono HB2.out.size)); have HE3 := hideL (HE2.out.next hB3); have HG3 := hideL (HG2.out.below hB3); clear hB3)
          | (go_at_call 12; refine (HS.out _ HE3.out).mono ?_; rintro e w4 ⟨u, rfl, hg4, hB4⟩; have HB4 := hideL (HB3.out.trans (hB4.mono HB3.out.size)); have HQ4 := hideL (HQ.out u w4 hg4 (HG3.out.below hB4)); clear hB4 hg4)
          | (go_at_call 30; refine (HQ4.out).mono ?_; rintro e w5 ⟨rfl, hB5⟩; have HB5 := hideL (HB4.out.trans (hB5.mono HB4.out.size)); clear hB5)
          | go_region)
        all_goals go_ret2
        all_goals exact ⟨rfl, HB5.out⟩
  · rw [decide_eq_true (by omega)] at HI
    have hR : joR dir l = none := by unfold joR; rw [if_neg (fun h => ht h.1)]
    rw [hR]
    clear hR hv hs htot ht hE htl
    go_enter Tryd.func17, Tryd.ntmps17
    go_wp2_with (go_at_call 29; refine (HI.out).mono ?_; rintro e w2 ⟨rfl, hB2⟩)
    go_ret2
    exact ⟨rfl, hB2⟩
end Go.Proofs.YthbgnkkjchaaeaaDoor
