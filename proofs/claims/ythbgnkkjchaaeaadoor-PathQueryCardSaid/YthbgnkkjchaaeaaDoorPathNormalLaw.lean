/- The law PathNormal (P8.1 to P8.3). -/
import Derived.Test.YthbgnkkjchaaeaaDoorPhAwake
import Derived.Test.YthbgnkkjchaaeaaDoorPhJoin
import Derived.Test.YthbgnkkjchaaeaaDoorPhRefN
namespace Go.Proofs.YthbgnkkjchaaeaaDoor
open Go.RowKit

set_option maxRecDepth 100000 in
set_option maxHeartbeats 2000000 in
theorem pnormal_long (s : ByteArray) (hs : 2000 < s.size) (w0 : World) (hE : Env w0) : Calls Tryd.prog 3 #[.string s] w0 (fun e w' => e = .returned (.bool true) ∧ Below w0.heap.size w0 w') := by
  have HE := hideL hE
  have HB : HidL (Below w0.heap.size w0 w0) := ⟨Below.refl _ _⟩
  have LW := hideL (fun (W : World) (h : Env W) => awake_any W h)
  clear hE
  have i0 : (2000 : Int) < (s.size : Int) := by omega
  clear hs
  go_enter Tryd.func3, Tryd.ntmps3
  go_wp2_with (first
    | (go_at_call 7; with_reducible refine (LW.out _ HE.out).mono ?_; rintro e wx ⟨rfl, hB⟩; replace HE := hideL (HE.out.next hB); (try replace HG := hideL (HG.out.below hB)); (try replace HT := hideL (HT.out.below hB)); (try replace HU := hideL (HU.out.below hB)); replace HB := hideL (HB.out.trans (hB.mono HB.out.size)); clear hB)
    | go_region)
  all_goals go_ret
  all_goals exact ⟨rfl, HB.out⟩
set_option maxRecDepth 100000 in
set_option maxHeartbeats 2000000 in
theorem pnormal_none (s : ByteArray) (hs : s.size ≤ 2000) (hn : norP s.data.toList = none) (w0 : World) (hE : Env w0) : Calls Tryd.prog 3 #[.string s] w0 (fun e w' => e = .returned (.bool true) ∧ Below w0.heap.size w0 w') := by
  have HE := hideL hE
  have HB : HidL (Below w0.heap.size w0 w0) := ⟨Below.refl _ _⟩
  have LW := hideL (fun (W : World) (h : Env W) => awake_any W h)
  clear hE
  have hc : canP s.data.toList = false := by unfold canP; rw [hn]
  have i0 : ¬ (2000 : Int) < (s.size : Int) := by omega
  have LP : HidL (∀ W : World, Env W → Calls Tryd.prog 8 #[.string s] W fun e w' => e = .returned (.tuple #[.string ⟨#[]⟩, .string ⟨#[]⟩, .int .i64 2]) ∧ Below W.heap.size W w') := ⟨fun W h => by have hh := normal_any s (by omega) W h; rw [hn] at hh; exact hh⟩
  have LR : HidL (∀ W : World, Calls Tryd.prog 9 #[.string s] W fun e w' => e = .returned (.tuple #[.string ⟨#[]⟩, .string ⟨#[]⟩, .bool false]) ∧ Below W.heap.size W w') := ⟨fun W => by have hh := normalR_any s (by omega) W; rw [hn] at hh; exact hh⟩
  have LC : HidL (∀ W : World, Env W → Calls Tryd.prog 10 #[.string s] W fun e w' => e = .returned (.bool false) ∧ Below W.heap.size W w') := ⟨fun W h => by have hh := canon_any s (by omega) W h; rw [hc] at hh; exact hh⟩
  have LD : HidL (∀ W : World, Calls Tryd.prog 11 #[.string s] W fun e w' => e = .returned (.bool false) ∧ Below W.heap.size W w') := ⟨fun W => by have hh := canonR_any s (by omega) W; rw [hc] at hh; exact hh⟩
  have LS := hideL (fun (W : World) (h : Env W) => segments_no s (by omega) hc W h)
  clear hn hc hs
  go_enter Tryd.func3, Tryd.ntmps3
  go_wp2_with (first
    | (go_at_call 8; with_reducible refine (LP.out _ HE.out).mono ?_; rintro e wx ⟨rfl, hB⟩; replace HE := hideL (HE.out.next hB); (try replace HG := hideL (HG.out.below hB)); (try replace HT := hideL (HT.out.below hB)); (try replace HU := hideL (HU.out.below hB)); replace HB := hideL (HB.out.trans (hB.mono HB.out.size)); clear hB)
    | (go_at_call 9; with_reducible refine (LR.out _).mono ?_; rintro e wx ⟨rfl, hB⟩; replace HE := hideL (HE.out.next hB); (try replace HG := hideL (HG.out.below hB)); (try replace HT := hideL (HT.out.below hB)); (try replace HU := hideL (HU.out.below hB)); replace HB := hideL (HB.out.trans (hB.mono HB.out.size)); clear hB)
    | (go_at_call 10; with_reducible refine (LC.out _ HE.out).mono ?_; rintro e wx ⟨rfl, hB⟩; replace HE := hideL (HE.out.next hB); (try replace HG := hideL (HG.out.below hB)); (try replace HT := hideL (HT.out.below hB)); (try replace HU := hideL (HU.out.below hB)); replace HB := hideL (HB.out.trans (hB.mono HB.out.size)); clear hB)
    | (go_at_call 11; with_reducible refine (LD.out _).mono ?_; rintro e wx ⟨rfl, hB⟩; replace HE := hideL (HE.out.next hB); (try replace HG := hideL (HG.out.below hB)); (try replace HT := hideL (HT.out.below hB)); (try replace HU := hideL (HU.out.below hB)); replace HB := hideL (HB.out.trans (hB.mono HB.out.size)); clear hB)
    | (go_at_call 7; with_reducible refine (LW.out _ HE.out).mono ?_; rintro e wx ⟨rfl, hB⟩; replace HE := hideL (HE.out.next hB); (try replace HG := hideL (HG.out.below hB)); (try replace HT := hideL (HT.out.below hB)); (try replace HU := hideL (HU.out.below hB)); replace HB := hideL (HB.out.trans (hB.mono HB.out.size)); clear hB)
    | (go_at_call 12; with_reducible refine (LS.out _ HE.out).mono ?_; rintro e wx ⟨rfl, hB⟩; replace HE := hideL (HE.out.next hB); (try replace HG := hideL (HG.out.below hB)); (try replace HT := hideL (HT.out.below hB)); (try replace HU := hideL (HU.out.below hB)); replace HB := hideL (HB.out.trans (hB.mono HB.out.size)); clear hB)
    | go_region)
  all_goals go_ret
  all_goals exact ⟨rfl, HB.out⟩
set_option maxRecDepth 100000 in
set_option maxHeartbeats 2000000 in
theorem pnormal_no (s : ByteArray) (hs : s.size ≤ 2000) (p q : List UInt8) (hn : norP s.data.toList = some (p, q)) (hc : canP s.data.toList = false) (w0 : World) (hE : Env w0) : Calls Tryd.prog 3 #[.string s] w0 (fun e w' => e = .returned (.bool true) ∧ Below w0.heap.size w0 w') := by
  have HE := hideL hE
  have HB : HidL (Below w0.heap.size w0 w0) := ⟨Below.refl _ _⟩
  have LW := hideL (fun (W : World) (h : Env W) => awake_any W h)
  clear hE
  have i0 : ¬ (2000 : Int) < (s.size : Int) := by omega
  have LP : HidL (∀ W : World, Env W → Calls Tryd.prog 8 #[.string s] W fun e w' => e = .returned (.tuple #[.string (bo p), .string (bo q), .int .i64 0]) ∧ Below W.heap.size W w') := ⟨fun W h => by have hh := normal_any s (by omega) W h; rw [hn] at hh; exact hh⟩
  have LR : HidL (∀ W : World, Calls Tryd.prog 9 #[.string s] W fun e w' => e = .returned (.tuple #[.string (bo p), .string (bo q), .bool true]) ∧ Below W.heap.size W w') := ⟨fun W => by have hh := normalR_any s (by omega) W; rw [hn] at hh; exact hh⟩
  have LC : HidL (∀ W : World, Env W → Calls Tryd.prog 10 #[.string s] W fun e w' => e = .returned (.bool false) ∧ Below W.heap.size W w') := ⟨fun W h => by have hh := canon_any s (by omega) W h; rw [hc] at hh; exact hh⟩
  have LD : HidL (∀ W : World, Calls Tryd.prog 11 #[.string s] W fun e w' => e = .returned (.bool false) ∧ Below W.heap.size W w') := ⟨fun W => by have hh := canonR_any s (by omega) W; rw [hc] at hh; exact hh⟩
  have LS := hideL (fun (W : World) (h : Env W) => segments_no s (by omega) hc W h)
  clear hn hc hs
  go_enter Tryd.func3, Tryd.ntmps3
  go_wp2_with (first
    | (go_at_call 8; with_reducible refine (LP.out _ HE.out).mono ?_; rintro e wx ⟨rfl, hB⟩; replace HE := hideL (HE.out.next hB); (try replace HG := hideL (HG.out.below hB)); (try replace HT := hideL (HT.out.below hB)); (try replace HU := hideL (HU.out.below hB)); replace HB := hideL (HB.out.trans (hB.mono HB.out.size)); clear hB)
    | (go_at_call 9; with_reducible refine (LR.out _).mono ?_; rintro e wx ⟨rfl, hB⟩; replace HE := hideL (HE.out.next hB); (try replace HG := hideL (HG.out.below hB)); (try replace HT := hideL (HT.out.below hB)); (try replace HU := hideL (HU.out.below hB)); replace HB := hideL (HB.out.trans (hB.mono HB.out.size)); clear hB)
    | (go_at_call 10; with_reducible refine (LC.out _ HE.out).mono ?_; rintro e wx ⟨rfl, hB⟩; replace HE := hideL (HE.out.next hB); (try replace HG := hideL (HG.out.below hB)); (try replace HT := hideL (HT.out.below hB)); (try replace HU := hideL (HU.out.below hB)); replace HB := hideL (HB.out.trans (hB.mono HB.out.size)); clear hB)
    | (go_at_call 11; with_reducible refine (LD.out _).mono ?_; rintro e wx ⟨rfl, hB⟩; replace HE := hideL (HE.out.next hB); (try replace HG := hideL (HG.out.below hB)); (try replace HT := hideL (HT.out.below hB)); (try replace HU := hideL (HU.out.below hB)); replace HB := hideL (HB.out.trans (hB.mono HB.out.size)); clear hB)
    | (go_at_call 7; with_reducible refine (LW.out _ HE.out).mono ?_; rintro e wx ⟨rfl, hB⟩; replace HE := hideL (HE.out.next hB); (try replace HG := hideL (HG.out.below hB)); (try replace HT := hideL (HT.out.below hB)); (try replace HU := hideL (HU.out.below hB)); replace HB := hideL (HB.out.trans (hB.mono HB.out.size)); clear hB)
    | (go_at_call 12; with_reducible refine (LS.out _ HE.out).mono ?_; rintro e wx ⟨rfl, hB⟩; replace HE := hideL (HE.out.next hB); (try replace HG := hideL (HG.out.below hB)); (try replace HT := hideL (HT.out.below hB)); (try replace HU := hideL (HU.out.below hB)); replace HB := hideL (HB.out.trans (hB.mono HB.out.size)); clear hB)
    | go_region)
  all_goals go_ret
  all_goals exact ⟨rfl, HB.out⟩
theorem norP_head {L p q : List UInt8} (h : norP L = some (p, q)) : ∃ r, L = 47 :: r := by
  unfold norP at h
  split at h
  · rename_i hh
    cases L with
    | nil => cases hh.2.1
    | cons c r =>
      have := hh.2.1
      injection this with e
      exact ⟨r, by rw [e]⟩
  · cases h
theorem segP_cons (r : List UInt8) : segP (47 :: r) = (lefP [] (splP r)).getD [] := by unfold segP; rw [splP_slash, lefP_skip (.inl rfl)]
theorem segP_len (r : List UInt8) : ((lefP [] (splP r)).getD []).length ≤ r.length + 1 := by
  have h2 := splP_length r
  cases h : lefP [] (splP r) with
  | none => simp
  | some a => have h1 := lefP_len _ _ _ h; simp at h1 ⊢; omega
/-- Kept, whatever it answers: a row that reads as it. -/
theorem kept_any (v : Value) (l : List (List UInt8)) (w : World) (hv : GAt KS w v (l.map bo)) (hl : l.length ≤ 900000) : Calls Tryd.prog 13 #[v] w fun e w' => ∃ u b, e = .returned (.tuple #[u, .bool b]) ∧ GAt KS w' u (((lefP [] l).getD []).map bo) ∧ Below w.heap.size w w' := by
  refine (keptR_any v l w hv hl).mono ?_
  rintro e w' h
  unfold KeptPost at h
  cases hk : lefP [] l with
  | none =>
    rw [hk] at h
    exact ⟨_, _, h.1, GAt.nil _, h.2⟩
  | some a =>
    rw [hk] at h
    obtain ⟨⟨u, h1, h2⟩, h3⟩ := h
    exact ⟨u, _, h1, h2.gAt, h3⟩
set_option maxRecDepth 100000 in
set_option maxHeartbeats 2000000 in
theorem pnormal_yes (s : ByteArray) (hs : s.size ≤ 2000) (p q : List UInt8) (hn : norP s.data.toList = some (p, q)) (hc : canP s.data.toList = true) (w0 : World) (hE : Env w0) : Calls Tryd.prog 3 #[.string s] w0 (fun e w' => e = .returned (.bool true) ∧ Below w0.heap.size w0 w') := by
  have HE := hideL hE
  have HB : HidL (Below w0.heap.size w0 w0) := ⟨Below.refl _ _⟩
  have LW := hideL (fun (W : World) (h : Env W) => awake_any W h)
  clear hE
  obtain ⟨r, hr⟩ := norP_head hn
  have i0 : ¬ (2000 : Int) < (s.size : Int) := by omega
  have LP : HidL (∀ W : World, Env W → Calls Tryd.prog 8 #[.string s] W fun e w' => e = .returned (.tuple #[.string (bo p), .string (bo q), .int .i64 0]) ∧ Below W.heap.size W w') := ⟨fun W h => by have hh := normal_any s (by omega) W h; rw [hn] at hh; exact hh⟩
  have LR : HidL (∀ W : World, Calls Tryd.prog 9 #[.string s] W fun e w' => e = .returned (.tuple #[.string (bo p), .string (bo q), .bool true]) ∧ Below W.heap.size W w') := ⟨fun W => by have hh := normalR_any s (by omega) W; rw [hn] at hh; exact hh⟩
  have LC : HidL (∀ W : World, Env W → Calls Tryd.prog 10 #[.string s] W fun e w' => e = .returned (.bool true) ∧ Below W.heap.size W w') := ⟨fun W h => by have hh := canon_any s (by omega) W h; rw [hc] at hh; exact hh⟩
  have LD : HidL (∀ W : World, Calls Tryd.prog 11 #[.string s] W fun e w' => e = .returned (.bool true) ∧ Below W.heap.size W w') := ⟨fun W => by have hh := canonR_any s (by omega) W; rw [hc] at hh; exact hh⟩
  have hsz := size_list s
  have hl := segP_len r
  have hrs : r.length ≤ 2000 := by rw [hr, List.length_cons] at hsz; omega
  have LS := hideL (fun (W : World) (h : Env W) => segments_yes s (by omega) hc W h)
  have LT := hideL (fun (W : World) => splitR_any s (by rw [← hsz, hr]; simp) (by omega) W)
  rw [hr, segP_cons] at LS
  rw [hr, List.drop_succ_cons, List.drop_zero] at LT
  have LK := hideL (fun (v : Value) (W : World) (h : GAt KS W v ((splP r).map bo)) => kept_any v (splP r) W h (by have := splP_length r; omega))
  obtain ⟨G, hG⟩ : ∃ G, (lefP [] (splP r)).getD [] = G := ⟨_, rfl⟩
  rw [hG] at LS LK hl
  have LE : HidL (∀ (u v : Value) (W : World), GAt KS W u (G.map bo) → GAt KS W v (G.map bo) → Calls Tryd.prog 15 #[u, v] W fun e w' => e = .returned (.bool true) ∧ Below W.heap.size W w') := ⟨fun u v W h1 h2 => by
    have hh := sameR_any u v (G.map bo) (G.map bo) W h1 h2 (by rw [List.length_map]; omega) (by rw [List.length_map]; omega)
    rw [decide_eq_true rfl] at hh
    exact hh⟩
  clear hn hc hs hr hsz hl hrs hG
  go_enter Tryd.func3, Tryd.ntmps3
  go_wp2_with (first
    | (go_at_call 8; with_reducible refine (LP.out _ HE.out).mono ?_; rintro e wx ⟨rfl, hB⟩; replace HE := hideL (HE.out.next hB); (try replace HG := hideL (HG.out.below hB)); (try replace HT := hideL (HT.out.below hB)); (try replace HU := hideL (HU.out.below hB)); replace HB := hideL (HB.out.trans (hB.mono HB.out.size)); clear hB)
    | (go_at_call 9; with_reducible refine (LR.out _).mono ?_; rintro e wx ⟨rfl, hB⟩; replace HE := hideL (HE.out.next hB); (try replace HG := hideL (HG.out.below hB)); (try replace HT := hideL (HT.out.below hB)); (try replace HU := hideL (HU.out.below hB)); replace HB := hideL (HB.out.trans (hB.mono HB.out.size)); clear hB)
    | (go_at_call 10; with_reducible refine (LC.out _ HE.out).mono ?_; rintro e wx ⟨rfl, hB⟩; replace HE := hideL (HE.out.next hB); (try replace HG := hideL (HG.out.below hB)); (try replace HT := hideL (HT.out.below hB)); (try replace HU := hideL (HU.out.below hB)); replace HB := hideL (HB.out.trans (hB.mono HB.out.size)); clear hB)
    | (go_at_call 11; with_reducible refine (LD.out _).mono ?_; rintro e wx ⟨rfl, hB⟩; replace HE := hideL (HE.out.next hB); (try replace HG := hideL (HG.out.below hB)); (try replace HT := hideL (HT.out.below hB)); (try replace HU := hideL (HU.out.below hB)); replace HB := hideL (HB.out.trans (hB.mono HB.out.size)); clear hB)
    | (go_at_call 7; with_reducible refine (LW.out _ HE.out).mono ?_; rintro e wx ⟨rfl, hB⟩; replace HE := hideL (HE.out.next hB); (try replace HG := hideL (HG.out.below hB)); (try replace HT := hideL (HT.out.below hB)); (try replace HU := hideL (HU.out.below hB)); replace HB := hideL (HB.out.trans (hB.mono HB.out.size)); clear hB)
    | (go_at_call 12; with_reducible refine (LS.out _ HE.out).mono ?_; rintro e wx ⟨v, rfl, hg, hB⟩; have HG := hideL hg; replace HE := hideL (HE.out.next hB); replace HB := hideL (HB.out.trans (hB.mono HB.out.size)); clear hB hg)
    | (go_at_call 14; with_reducible refine (LT.out _).mono ?_; rintro e wx ⟨t, rfl, hg, hB⟩; have HT := hideL hg.gAt; replace HG := hideL (HG.out.below hB); replace HE := hideL (HE.out.next hB); replace HB := hideL (HB.out.trans (hB.mono HB.out.size)); clear hB hg)
    | (go_at_call 13; with_reducible refine (LK.out _ _ HT.out).mono ?_; rintro e wx ⟨u, b, rfl, hg, hB⟩; have HU := hideL hg; replace HG := hideL (HG.out.below hB); replace HE := hideL (HE.out.next hB); replace HB := hideL (HB.out.trans (hB.mono HB.out.size)); clear hB hg)
    | (go_at_call 15; with_reducible refine (LE.out _ _ _ HG.out HU.out).mono ?_; rintro e wx ⟨rfl, hB⟩; replace HE := hideL (HE.out.next hB); (try replace HG := hideL (HG.out.below hB)); (try replace HT := hideL (HT.out.below hB)); (try replace HU := hideL (HU.out.below hB)); replace HB := hideL (HB.out.trans (hB.mono HB.out.size)); clear hB)
    | go_region)
  all_goals go_ret
  all_goals exact ⟨rfl, HB.out⟩
theorem pnormal_law (s : ByteArray) (w0 : World) (hE : Env w0) : Calls Tryd.prog 3 #[.string s] w0 (fun e w' => e = .returned (.bool true) ∧ Below w0.heap.size w0 w') := by
  by_cases hs : 2000 < s.size
  · exact pnormal_long s hs w0 hE
  · cases hn : norP s.data.toList with
    | none => exact pnormal_none s (by omega) hn w0 hE
    | some pq =>
      obtain ⟨p, q⟩ := pq
      cases hc : canP s.data.toList
      · exact pnormal_no s (by omega) p q hn hc w0 hE
      · exact pnormal_yes s (by omega) p q hn hc w0 hE
end Go.Proofs.YthbgnkkjchaaeaaDoor
