/- The program's joined, Normal, Canon, Segments. -/
import Derived.Test.YtafmgoekgijfgaaGreatDoorFPhSpell
import Derived.Test.YtafmgoekgijfgaaGreatDoorFPhLeftW
import Derived.Test.YtafmgoekgijfgaaGreatDoorFRqM2
namespace Go.Proofs.YtafmgoekgijfgaaGreatDoor
open Go.RowKit

theorem left_any (s : ByteArray) (hs : s.size ≤ 1000000) (w : World) : Calls Tryz.prog 129 #[.string s] w fun e w' => ∃ v d b, e = .returned (.tuple #[v, .bool d, .bool b]) ∧ b = (lefP [] (splP s.data.toList)).isSome ∧ (∀ a, lefP [] (splP s.data.toList) = some a → d = dirP (splP s.data.toList) ∧ GAt KS w' v (a.map bo)) ∧ (lefP [] (splP s.data.toList) = none → v = .slice none 0 0) ∧ Below w.heap.size w w' := by
 refine ((callsIn_wide (n := 3)).1 (left_in 3 (by decide) s hs w)).mono ?_
 rintro e w' ⟨h1, h2⟩
 cases hl : lefP [] (splP s.data.toList) with
 | some a =>
   rw [hl] at h1
   obtain ⟨v, rfl, hg⟩ := h1
   exact ⟨v, _, _, rfl, rfl, fun a' e => by cases e; exact ⟨rfl, hg⟩, fun e => by (cases e), h2⟩
 | none =>
   rw [hl] at h1
   exact ⟨_, _, _, h1, rfl, fun a' e => by (cases e), fun _ => rfl, h2⟩
theorem map_bo (l : List (List UInt8)) : (l.map bo).map (fun b => b.data.toList) = l := by rw [List.map_map]; exact List.map_id'' (fun _ => rfl) l
theorem join_any (v : Value) (l : List (List UInt8)) (w : World) (hv : GAt KS w v (l.map bo)) (hl : (Lib.join l [47]).length ≤ 1000000) (hn : l.length ≤ 1000000) : Calls Tryz.prog 178 #[v, .string ⟨#[47]⟩] w (fun e w' => e = .returned (.string (bo (Lib.join l [47]))) ∧ Below w.heap.size w w') := by
 obtain ⟨ao, cap, rfl⟩ := hv.len
 rw [List.length_map] at hv ⊢
 cases l with
 | nil => exact (Any.strings_Join_none Tryz.lays156 Tryz.Builder_Extra_156 ao cap ⟨#[47]⟩ w).mono fun e w' h => ⟨h.1, h.2 ▸ Below.refl _ _⟩
 | cons x r =>
   obtain ⟨b, o, rfl, hb, _⟩ := gat_text hv (k := 0) (by simp)
   have hc : ∀ (j : Nat) y, ((x :: r).map bo)[j]? = some y → w.cell? ⟨b, o + j, none⟩ = some (.string y) := by
     intro j y hj
     have hjl : j < (x :: r).length := by simpa using (List.getElem?_eq_some_iff.1 hj).1
     obtain ⟨b', o', e, _, h3⟩ := gat_text hv hjl
     injection e with e
     injection e with e1 e2
     subst e1 e2
     rw [h3, List.getD, hj]
     rfl
   have hJ := Any.strings_Join Tryz.lays156 Tryz.Builder_Extra_156 b o cap ((x :: r).map bo) ⟨#[47]⟩ w hc hb (by rw [List.length_map]; omega) (by rw [List.length_map]; exact hv.le.2) (by rw [map_bo]; exact Nat.le_trans hl (by decide))
   rw [map_bo, List.length_map] at hJ
   exact hJ
theorem join_joi (l : List (List UInt8)) : 47 :: Lib.join l [47] = if l = [] then [47] else l.flatMap fun s => 47 :: s := by
 cases l with
 | nil => rfl
 | cons x r =>
   rw [if_neg (by simp), Lib.join_cons, List.flatMap_cons]
   unfold Lib.joinTail
   rw [List.flatMap_def]
   rfl
theorem joi_nil (dir : Bool) : joiP dir [] = [47] := by unfold joiP; rw [if_pos (.inl rfl)]; rfl
theorem joi_some (dir : Bool) {l : List (List UInt8)} (h : l ≠ []) : joiP dir l = 47 :: Lib.join l [47] ++ (if dir = true then [47] else []) := by
 unfold joiP
 rw [join_joi, if_neg h]
 congr 1
 cases dir
 · rw [if_neg (by rintro (e | e); exact h e; cases e), if_neg (by decide)]
 · rw [if_pos (.inr rfl), if_pos rfl]
theorem joi_long (dir : Bool) (l : List (List UInt8)) : (Lib.join l [47]).length + 1 ≤ (joiP dir l).length := by
 by_cases h : l = []
 · subst h; rw [joi_nil]; decide
 · rw [joi_some dir h, List.length_append, List.length_cons]; omega
theorem joi_many (dir : Bool) (l : List (List UInt8)) : l.length ≤ (joiP dir l).length := by
 unfold joiP
 rw [List.length_append]
 have : l.length ≤ (l.flatMap fun s => (47 : UInt8) :: s).length := by
   induction l with
   | nil => simp
   | cons x r ih => rw [List.flatMap_cons, List.length_append]; simp only [List.length_cons]; omega
 omega
set_option maxRecDepth 100000 in
set_option maxHeartbeats 400000 in
theorem joined_any (dir : Bool) (v : Value) (l : List (List UInt8)) (w : World) (hv : GAt KS w v (l.map bo)) (hl : (joiP dir l).length ≤ 1000000) : Calls Tryz.prog 130 #[.bool dir, v] w (fun e w' => e = .returned (.string (bo (joiP dir l))) ∧ Below w.heap.size w w') := by
 have h1 := joi_long dir l
 have h2 := joi_many dir l
 have HJ := hideL (join_any v l w hv (by omega) (by omega))
 obtain ⟨ao, cap, rfl⟩ := hv.len
 rw [List.length_map] at hv HJ ⊢
 obtain ⟨J, hJ⟩ : ∃ J, Lib.join l [47] = J := ⟨_, rfl⟩
 by_cases h0 : l = []
 · subst h0
   have hJe : J = [] := by rw [← hJ]; rfl
   rw [hJ] at HJ
   subst hJe
   rw [List.length_nil] at HJ ⊢
   have hR : bo (joiP dir []) = ⟨#[47]⟩ ++ bo [] := by rw [joi_nil]; exact bytes_ext (by simp [ByteArray.data_append, bo])
   rw [hR]
   clear hJ h1 h2 hv hl hR
   cases dir <;>
   · go_enter Tryz.func130, Tryz.ntmps130
     go_wp2_with (go_at_call 178; refine (HJ.out).mono ?_; rintro e w2 ⟨rfl, hB2⟩)
     go_ret
     exact ⟨rfl, hB2⟩
 · have hn : 0 < l.length := List.length_pos_iff.2 h0
   have hn' : (0 : Int) < (l.length : Int) := by omega
   have hR : bo (joiP dir l) = if dir = true then (⟨#[47]⟩ ++ bo J) ++ ⟨#[47]⟩ else ⟨#[47]⟩ ++ bo J := by
     rw [joi_some dir h0, hJ]
     cases dir
     · rw [if_neg (by decide), if_neg (by decide)]
       exact bytes_ext (by simp [ByteArray.data_append, bo])
     · rw [if_pos rfl, if_pos rfl]
       exact bytes_ext (by simp [ByteArray.data_append, bo])
   rw [hR]
   have hJs : (bo J).size ≤ 1000000 := by rw [bo_size, ← hJ]; omega
   have hJ2 : (⟨#[47]⟩ ++ bo J).size ≤ 1000001 := by rw [ByteArray.size_append]; show 1 + (bo J).size ≤ _; omega
   rw [hJ] at HJ
   clear hJ h1 h2 hv hl hR h0
   generalize l.length = n at *
   cases dir
   · rw [if_neg (by decide)]
     go_enter Tryz.func130, Tryz.ntmps130
     go_wp2_with (go_at_call 178; refine (HJ.out).mono ?_; rintro e w2 ⟨rfl, hB2⟩)
     go_ret
     exact ⟨rfl, hB2⟩
   · rw [if_pos rfl]
     go_enter Tryz.func130, Tryz.ntmps130
     go_wp2_with (go_at_call 178; refine (HJ.out).mono ?_; rintro e w2 ⟨rfl, hB2⟩)
     go_ret
     exact ⟨rfl, hB2⟩
theorem cut_ask (s : ByteArray) (hs : s.size ≤ 1000000) : ∃ m, ∀ w : World, Calls Tryz.prog 41 #[.string s, .string ⟨#[63]⟩] w (fun e w' => e = .returned (.tuple #[.string (bo (askP s.data.toList).1), .string (bo (askP s.data.toList).2), .bool m]) ∧ ∃ n, w' = w.drewN n) := by
 rcases ask_split s.data.toList with ⟨_, h2, h3⟩ | ⟨h1, h2⟩
 · exact ⟨true, fun w => cut_hit s 63 _ _ h2 h3 hs w⟩
 · refine ⟨false, fun w => ?_⟩
   rw [h2, bo_of]
   exact cut_none s 63 h1 w
def norA : Option (List UInt8 × List UInt8) → Value
 | some (p, q) => .tuple #[.string (bo p), .string (bo q), .int .i64 0]
 | none => .tuple #[.string ⟨#[]⟩, .string ⟨#[]⟩, .int .i64 2]
theorem flat_le (l : List (List UInt8)) (n : Nat) (h : ∀ s ∈ l, s.length ≤ n) : (l.flatMap fun s => (47 : UInt8) :: s).length ≤ l.length * (n + 1) := by
 induction l with
 | nil => simp
 | cons x r ih =>
   have h1 := h x List.mem_cons_self
   have h2 := ih (fun s hs => h s (List.mem_cons_of_mem _ hs))
   rw [List.flatMap_cons, List.length_append]
   simp only [List.length_cons, Nat.succ_mul] at *
   omega
theorem lefP_mem : ∀ (l acc a : List (List UInt8)), lefP acc l = some a → ∀ s ∈ a, s ∈ acc ∨ s ∈ l
 | [], acc, a, h, s, hs => by rw [lefP] at h; cases h; exact .inl hs
 | x :: r, acc, a, h, s, hs => by
   rw [lefP] at h
   split at h
   · rcases lefP_mem r acc a h s hs with h | h
     · exact .inl h
     · exact .inr (List.mem_cons_of_mem _ h)
   · split at h
     · split at h
       · cases h
       · rcases lefP_mem r _ a h s hs with h | h
         · exact .inl ((List.dropLast_sublist _).mem h)
         · exact .inr (List.mem_cons_of_mem _ h)
     · rcases lefP_mem r _ a h s hs with h | h
       · rcases List.mem_append.1 h with h | h
         · exact .inl h
         · simp at h; subst h; exact .inr List.mem_cons_self
       · exact .inr (List.mem_cons_of_mem _ h)
theorem lefP_len : ∀ (l acc a : List (List UInt8)), lefP acc l = some a → a.length ≤ acc.length + l.length
 | [], acc, a, h => by rw [lefP] at h; cases h; simp
 | x :: r, acc, a, h => by
   rw [lefP] at h
   split at h
   · have := lefP_len r acc a h; simp only [List.length_cons]; omega
   · split at h
     · split at h
       · cases h
       · have := lefP_len r _ a h; rw [List.length_dropLast] at this; simp only [List.length_cons]; omega
     · have := lefP_len r _ a h; rw [List.length_append] at this; simp only [List.length_cons, List.length_nil] at *; omega
theorem joi_short (dir : Bool) {x : List UInt8} (hx : x.length ≤ 900) {a : List (List UInt8)} (h : lefP [] (splP x) = some a) : (joiP dir a).length ≤ 1000000 := by
 have h1 := lefP_len _ _ _ h
 have h2 := splP_length x
 have h3 := flat_le a x.length (fun s hs => by
   rcases lefP_mem _ _ _ h s hs with h | h
   · cases h
   · exact splP_part h)
 have h4 : a.length * (x.length + 1) ≤ 901 * 901 := Nat.mul_le_mul (by simp at h1; omega) (by omega)
 unfold joiP
 rw [List.length_append]
 have : (if a = [] ∨ dir = true then [(47 : UInt8)] else []).length ≤ 1 := by split <;> simp
 omega
set_option maxRecDepth 100000 in
set_option maxHeartbeats 2000000 in
theorem normal_any (s : ByteArray) (hs : s.size ≤ 1000000) (w : World) (hE : EnvS w) : Calls Tryz.prog 79 #[.string s] w fun e w' => e = .returned (norA (norP s.data.toList)) ∧ Below w.heap.size w w' := by
 have hsz := size_list s
 obtain ⟨R, hR⟩ : ∃ R, norP s.data.toList = R := ⟨_, rfl⟩
 rw [hR]
 by_cases h5 : s.size ≤ 512
 · have i5 : ¬ (512 : Int) < (s.size : Int) := by omega
   have HP := hideL (fun W : World => hasSlash_any s W)
   by_cases hh : s.data.toList.head? = some 47
   · rw [decide_eq_true hh] at HP
     obtain ⟨m, HC⟩ := cut_ask s hs
     have hask := askP_length s.data.toList
     obtain ⟨p, hp⟩ : ∃ p, (askP s.data.toList).1 = p := ⟨_, rfl⟩
     obtain ⟨q, hq⟩ : ∃ q, (askP s.data.toList).2 = q := ⟨_, rfl⟩
     rw [hp, hq] at HC hask
     have HC := hideL HC
     have HX := hideL (fun (W : World) (h : EnvS W) => spellR_any (bo p) (by rw [bo_size]; omega) W h)
     have HY := hideL (fun (W : World) (h : EnvS W) => spellN_any (bo q) (by rw [bo_size]; omega) W h)
     rw [bo_list] at HX HY
     have hxl := spP_length (bad := badR) p
     obtain ⟨x, hx⟩ : ∃ x, spP badR p = x := ⟨_, rfl⟩
     obtain ⟨y, hy⟩ : ∃ y, spP nobad q = y := ⟨_, rfl⟩
     rw [hx] at HX hxl
     rw [hy] at HY
     have hRR : R = if x.2 = true ∧ y.2 = true then (lefP [] (splP x.1)).map fun k => (joiP (dirP (splP x.1)) k, y.1) else none := by
       rw [← hR]
       unfold norP
       rw [hp, hq, hx, hy]
       by_cases h : x.2 = true ∧ y.2 = true
       · rw [if_pos h, if_pos ⟨by omega, hh, h⟩]
       · rw [if_neg h, if_neg (fun h' => h h'.2.2)]
     obtain ⟨x1, x2⟩ := x
     obtain ⟨y1, y2⟩ := y
     dsimp only at *
     have HL := hideL (fun W : World => left_any (bo x1) (by rw [bo_size]; omega) W)
     rw [bo_list] at HL
     have HJS := hideL (fun (dir : Bool) (a : List (List UInt8)) (h : lefP [] (splP x1) = some a) => joi_short dir (x := x1) (by omega) h)
     have HX : HidL (∀ W : World, EnvS W → Calls Tryz.prog 126 #[.string (bo p), .func (.func 127) #[] #[]] W fun e w' => e = .returned (.tuple #[.string (bo x1), .bool x2]) ∧ Below W.heap.size W w') := ⟨fun W h => HX.out W h⟩
     have HY : HidL (∀ W : World, EnvS W → Calls Tryz.prog 126 #[.string (bo q), .func (.func 128) #[] #[]] W fun e w' => e = .returned (.tuple #[.string (bo y1), .bool y2]) ∧ Below W.heap.size W w') := ⟨fun W h => HY.out W h⟩
     have HE := hideL hE
     clear hR hE hask hp hq hx hy hxl hh
     obtain ⟨K, hK⟩ : ∃ K, lefP [] (splP x1) = K := ⟨_, rfl⟩
     obtain ⟨D, hD⟩ : ∃ D, dirP (splP x1) = D := ⟨_, rfl⟩
     rw [hK, hD] at hRR HL
     rw [hK] at HJS
     clear hK hD
     cases x2
     · have hRn : R = none := by rw [hRR, if_neg (by simp)]
       subst hRn
       clear hRR
       cases y2 <;> cases K <;>
       · go_enter Tryz.func79, Tryz.ntmps79
         go_wp2_with (first
         | (go_at_call 100; refine (HP.out _).mono ?_; rintro e w2 ⟨rfl, hw2⟩; rw [hw2]; clear hw2 w2)
         | (go_at_call 41; refine (HC.out _).mono ?_; rintro e w2 ⟨rfl, n2, rfl⟩; have HE2 := hideL (HE.out.next (below_drewN5 w n2)); have HB2 := hideL (below_drewN5 w n2))
         | (go_at_call 126; first
           | (with_reducible refine (HX.out _ HE2.out).mono ?_; rintro e w3 ⟨rfl, hB3⟩; have HB3 := hideL (HB2.out.trans (hB3.mono HB2.out.size)); have HE3 := hideL (HE2.out.next hB3); clear hB3 HX)
           | (with_reducible refine (HY.out _ HE3.out).mono ?_; rintro e w4 ⟨rfl, hB4⟩; have HB4 := hideL (HB3.out.trans (hB4.mono HB3.out.size)); clear hB4 HY))
         | (go_at_call 129; refine (HL.out _).mono ?_; rintro e w5 ⟨v, d, b, rfl, hb, hs5, hn5, hB5⟩; have HB5 := hideL (HB4.out.trans (hB5.mono HB4.out.size)); clear hB5 hn5; (simp only [Option.isSome_none, Option.isSome_some] at hb; subst hb); clear hs5)
         | go_region)
         all_goals go_ret3
         all_goals exact ⟨rfl, HB5.out⟩
     · cases y2
       · have hRn : R = none := by rw [hRR, if_neg (by simp)]
         subst hRn
         clear hRR
         cases K <;>
         · go_enter Tryz.func79, Tryz.ntmps79
           go_wp2_with (first
         | (go_at_call 100; refine (HP.out _).mono ?_; rintro e w2 ⟨rfl, hw2⟩; rw [hw2]; clear hw2 w2)
         | (go_at_call 41; refine (HC.out _).mono ?_; rintro e w2 ⟨rfl, n2, rfl⟩; have HE2 := hideL (HE.out.next (below_drewN5 w n2)); have HB2 := hideL (below_drewN5 w n2))
         | (go_at_call 126; first
           | (with_reducible refine (HX.out _ HE2.out).mono ?_; rintro e w3 ⟨rfl, hB3⟩; have HB3 := hideL (HB2.out.trans (hB3.mono HB2.out.size)); have HE3 := hideL (HE2.out.next hB3); clear hB3 HX)
           | (with_reducible refine (HY.out _ HE3.out).mono ?_; rintro e w4 ⟨rfl, hB4⟩; have HB4 := hideL (HB3.out.trans (hB4.mono HB3.out.size)); clear hB4 HY))
         | (go_at_call 129; refine (HL.out _).mono ?_; rintro e w5 ⟨v, d, b, rfl, hb, hs5, hn5, hB5⟩; have HB5 := hideL (HB4.out.trans (hB5.mono HB4.out.size)); clear hB5 hn5; (simp only [Option.isSome_none, Option.isSome_some] at hb; subst hb); clear hs5)
         | go_region)
           all_goals go_ret3
           all_goals exact ⟨rfl, HB5.out⟩
       · cases K with
         | none =>
           have hRn : R = none := by rw [hRR]; rfl
           subst hRn
           clear hRR
           go_enter Tryz.func79, Tryz.ntmps79
           go_wp2_with (first
         | (go_at_call 100; refine (HP.out _).mono ?_; rintro e w2 ⟨rfl, hw2⟩; rw [hw2]; clear hw2 w2)
         | (go_at_call 41; refine (HC.out _).mono ?_; rintro e w2 ⟨rfl, n2, rfl⟩; have HE2 := hideL (HE.out.next (below_drewN5 w n2)); have HB2 := hideL (below_drewN5 w n2))
         | (go_at_call 126; first
           | (with_reducible refine (HX.out _ HE2.out).mono ?_; rintro e w3 ⟨rfl, hB3⟩; have HB3 := hideL (HB2.out.trans (hB3.mono HB2.out.size)); have HE3 := hideL (HE2.out.next hB3); clear hB3 HX)
           | (with_reducible refine (HY.out _ HE3.out).mono ?_; rintro e w4 ⟨rfl, hB4⟩; have HB4 := hideL (HB3.out.trans (hB4.mono HB3.out.size)); clear hB4 HY))
         | (go_at_call 129; refine (HL.out _).mono ?_; rintro e w5 ⟨v, d, b, rfl, hb, hs5, hn5, hB5⟩; have HB5 := hideL (HB4.out.trans (hB5.mono HB4.out.size)); clear hB5 hn5; (simp only [Option.isSome_none] at hb; subst hb); clear hs5)
         | go_region)
           all_goals go_ret3
           all_goals exact ⟨rfl, HB5.out⟩
         | some a =>
           have hRn : R = some (joiP D a, y1) := by rw [hRR]; rfl
           subst hRn
           clear hRR
           go_enter Tryz.func79, Tryz.ntmps79
           go_wp2_with (first
         | (go_at_call 100; refine (HP.out _).mono ?_; rintro e w2 ⟨rfl, hw2⟩; rw [hw2]; clear hw2 w2)
         | (go_at_call 41; refine (HC.out _).mono ?_; rintro e w2 ⟨rfl, n2, rfl⟩; have HE2 := hideL (HE.out.next (below_drewN5 w n2)); have HB2 := hideL (below_drewN5 w n2))
         | (go_at_call 126; first
           | (with_reducible refine (HX.out _ HE2.out).mono ?_; rintro e w3 ⟨rfl, hB3⟩; have HB3 := hideL (HB2.out.trans (hB3.mono HB2.out.size)); have HE3 := hideL (HE2.out.next hB3); clear hB3 HX)
           | (with_reducible refine (HY.out _ HE3.out).mono ?_; rintro e w4 ⟨rfl, hB4⟩; have HB4 := hideL (HB3.out.trans (hB4.mono HB3.out.size)); clear hB4 HY))
         | (go_at_call 129; refine (HL.out _).mono ?_; rintro e w5 ⟨v, d, b, rfl, hb, hs5, hn5, hB5⟩; have HB5 := hideL (HB4.out.trans (hB5.mono HB4.out.size)); clear hB5 hn5; (obtain rfl : b = true := hb); obtain ⟨hd5, hg5⟩ := hs5 a rfl; subst hd5; have HJ := hideL (joined_any d v a w5 hg5 (HJS.out d a rfl)); clear hs5 hg5)
         | (go_at_call 130; refine (HJ.out).mono ?_; rintro e w6 ⟨rfl, hB6⟩; have HB6 := hideL (HB5.out.trans (hB6.mono HB5.out.size)))
         | go_region)
           all_goals go_ret3
           all_goals exact ⟨rfl, HB6.out⟩
   · rw [decide_eq_false hh] at HP
     have hRn : R = none := by rw [← hR]; unfold norP; rw [if_neg (fun h => hh h.2.1)]
     subst hRn
     clear hR hh
     go_enter Tryz.func79, Tryz.ntmps79
     go_wp2_with (go_at_call 100; refine (HP.out _).mono ?_; rintro e w2 ⟨rfl, rfl⟩)
     go_ret3
     exact ⟨rfl, Below.refl _ _⟩
 · have i5 : (512 : Int) < (s.size : Int) := by omega
   have hRn : R = none := by rw [← hR]; unfold norP; rw [if_neg (fun h => h5 (by omega))]
   subst hRn
   clear hR
   go_enter Tryz.func79, Tryz.ntmps79
   go_wp2_with fail
   go_ret3
   exact ⟨rfl, Below.refl _ _⟩
end Go.Proofs.YtafmgoekgijfgaaGreatDoor
