/- The law MatchBack (P7.7). -/
import Derived.Test.YtffbmkocmjpmeaaMtLaw
namespace Go.Proofs.Ytffbmkocmjpmeaa
open Go.RowKit

set_option maxRecDepth 100000 in
set_option maxHeartbeats 2000000 in
theorem back_long (a b : Tm) (s : ByteArray) (w : World) (ha : a.t.size ≤ maxLen) (hb : b.t.size ≤ maxLen) (_ : s.size ≤ maxLen) (hL : longM s [a, b] = true) : Calls Try.prog 7 #[.agg #[.int .i64 a.k, .string a.t], .agg #[.int .i64 b.k, .string b.t], .string s] w (LawPost w) := by
  unfold maxLen at *
  have LW := hideL awake_any
  have HS := hideL (S2.new w a b)
  have LL0 := long_row s [a, b] ((w.alloc (.cells #[.int .i64 a.k, .string a.t] 23)).alloc (.cells #[.int .i64 b.k, .string b.t] 23)) (show 2 ≤ maxLen by decide)
  have LL : HidL (Calls Try.prog 8 #[.string s, .slice (some ⟨w.heap.size + 1 + 1, 0, none⟩) 2 2] (((w.alloc (.cells #[.int .i64 a.k, .string a.t] 23)).alloc (.cells #[.int .i64 b.k, .string b.t] 23)).alloc (.cells #[.int .i64 a.k, .string a.t, .int .i64 b.k, .string b.t] 23)) (fun e w' => e = .returned (.bool (longM s [a, b])) ∧ Below ((w.alloc (.cells #[.int .i64 a.k, .string a.t] 23)).alloc (.cells #[.int .i64 b.k, .string b.t] 23)).heap.size ((w.alloc (.cells #[.int .i64 a.k, .string a.t] 23)).alloc (.cells #[.int .i64 b.k, .string b.t] 23)) w')) := hideL (by rw [World.size_alloc, World.size_alloc] at LL0; rw [World.size_alloc, World.size_alloc]; exact LL0)
  clear LL0
  rw [hL] at LL
  clear hL
  obtain ⟨ka, ta⟩ := a
  obtain ⟨kb, tb⟩ := b
  dsimp only at *
  go_enter Try.func7, Try.ntmps7
  go_wp2_with (first
    | (go_at_call 8; first
      | (with_reducible refine LL.out.mono ?_; rintro e wx ⟨rfl, hB⟩; replace HS := hideL (HS.out.next hB); (try clear c0 c1 d0 d1); have c0 := HS.out.ba.c0; have c1 := HS.out.ba.c1; have d0 := HS.out.bb.c0; have d1 := HS.out.bb.c1; clear hB))
    | (go_at_call 9; first
      | (with_reducible refine (LW.out _).mono ?_; rintro e wx ⟨rfl, hB⟩; replace HS := hideL (HS.out.next hB); (try clear c0 c1 d0 d1); have c0 := HS.out.ba.c0; have c1 := HS.out.ba.c1; have d0 := HS.out.bb.c0; have d1 := HS.out.bb.c1; clear hB)))
  go_ret
  exact ⟨rfl, HS.out.be⟩
set_option maxRecDepth 100000 in
set_option maxHeartbeats 2000000 in
theorem back_ffn (a b : Tm) (s : ByteArray) (w : World) (ha : a.t.size ≤ maxLen) (hb : b.t.size ≤ maxLen) (hs : s.size ≤ maxLen) (hL : longM s [a, b] = false) (hPA : mayM a = false) (hPB : mayM b = false) (hq : parM s.data.toList = none) : Calls Try.prog 7 #[.agg #[.int .i64 a.k, .string a.t], .agg #[.int .i64 b.k, .string b.t], .string s] w (LawPost w) := by
  unfold maxLen at *
  have LW := hideL awake_any
  have HS := hideL (S2.new w a b)
  have LL0 := long_row s [a, b] ((w.alloc (.cells #[.int .i64 a.k, .string a.t] 23)).alloc (.cells #[.int .i64 b.k, .string b.t] 23)) (show 2 ≤ maxLen by decide)
  have LL : HidL (Calls Try.prog 8 #[.string s, .slice (some ⟨w.heap.size + 1 + 1, 0, none⟩) 2 2] (((w.alloc (.cells #[.int .i64 a.k, .string a.t] 23)).alloc (.cells #[.int .i64 b.k, .string b.t] 23)).alloc (.cells #[.int .i64 a.k, .string a.t, .int .i64 b.k, .string b.t] 23)) (fun e w' => e = .returned (.bool (longM s [a, b])) ∧ Below ((w.alloc (.cells #[.int .i64 a.k, .string a.t] 23)).alloc (.cells #[.int .i64 b.k, .string b.t] 23)).heap.size ((w.alloc (.cells #[.int .i64 a.k, .string a.t] 23)).alloc (.cells #[.int .i64 b.k, .string b.t] 23)) w')) := hideL (by rw [World.size_alloc, World.size_alloc] at LL0; rw [World.size_alloc, World.size_alloc]; exact LL0)
  clear LL0
  rw [hL] at LL
  have PA := hideL (print_any a (by omega))
  unfold prV at PA
  rw [hPA] at PA
  simp only [Bool.false_eq_true, if_false] at PA
  have PB := hideL (print_any b (by omega))
  unfold prV at PB
  rw [hPB] at PB
  simp only [Bool.false_eq_true, if_false] at PB
  have LS := hideL (parse_any s (by omega))
  unfold paV at LS
  rw [hq] at LS
  simp only [Option.getD_none, Option.isSome_none, Bool.false_eq_true, if_false] at LS
  rw [show (default : Tm).k = 0 from rfl, show (default : Tm).t = ⟨#[]⟩ from rfl] at LS
  clear hL
  clear hPA
  clear hPB
  clear hq
  obtain ⟨ka, ta⟩ := a
  obtain ⟨kb, tb⟩ := b
  dsimp only at *
  go_enter Try.func7, Try.ntmps7
  go_wp2_with (first
    | (go_at_call 8; first
      | (with_reducible refine LL.out.mono ?_; rintro e wx ⟨rfl, hB⟩; replace HS := hideL (HS.out.next hB); (try clear c0 c1 d0 d1); have c0 := HS.out.ba.c0; have c1 := HS.out.ba.c1; have d0 := HS.out.bb.c0; have d1 := HS.out.bb.c1; clear hB))
    | (go_at_call 9; first
      | (with_reducible refine (LW.out _).mono ?_; rintro e wx ⟨rfl, hB⟩; replace HS := hideL (HS.out.next hB); (try clear c0 c1 d0 d1); have c0 := HS.out.ba.c0; have c1 := HS.out.ba.c1; have d0 := HS.out.bb.c0; have d1 := HS.out.bb.c1; clear hB))
    | (go_at_call 19; first
      | (with_reducible refine (PA.out _).mono ?_; rintro e wx ⟨rfl, hB⟩; replace HS := hideL (HS.out.next hB); (try clear c0 c1 d0 d1); have c0 := HS.out.ba.c0; have c1 := HS.out.ba.c1; have d0 := HS.out.bb.c0; have d1 := HS.out.bb.c1; clear hB)
      | (with_reducible refine (PB.out _).mono ?_; rintro e wx ⟨rfl, hB⟩; replace HS := hideL (HS.out.next hB); (try clear c0 c1 d0 d1); have c0 := HS.out.ba.c0; have c1 := HS.out.ba.c1; have d0 := HS.out.bb.c0; have d1 := HS.out.bb.c1; clear hB))
    | (go_at_call 21; first
      | (with_reducible refine (LS.out _).mono ?_; rintro e wt ⟨rfl, hB⟩; replace HS := hideL ((HS.out.next hB).next ((Below.refl _ _).alloc (Nat.le_refl _) (.cells #[.int .i64 0, .string ⟨#[]⟩] 23))); have HT := hideL (TBox.new wt (0) ⟨#[]⟩); (try clear c0 c1 d0 d1); have c0 := HS.out.ba.c0; have c1 := HS.out.ba.c1; have d0 := HS.out.bb.c0; have d1 := HS.out.bb.c1; clear hB)))
  go_ret
  exact ⟨rfl, HS.out.be⟩
set_option maxRecDepth 100000 in
set_option maxHeartbeats 2000000 in
theorem back_ffs (a b : Tm) (s : ByteArray) (w : World) (ha : a.t.size ≤ maxLen) (hb : b.t.size ≤ maxLen) (hs : s.size ≤ maxLen) (hL : longM s [a, b] = false) (hPA : mayM a = false) (hPB : mayM b = false) (q : Tm) (hq : parM s.data.toList = some q) : Calls Try.prog 7 #[.agg #[.int .i64 a.k, .string a.t], .agg #[.int .i64 b.k, .string b.t], .string s] w (LawPost w) := by
  unfold maxLen at *
  have LW := hideL awake_any
  have HS := hideL (S2.new w a b)
  have LL0 := long_row s [a, b] ((w.alloc (.cells #[.int .i64 a.k, .string a.t] 23)).alloc (.cells #[.int .i64 b.k, .string b.t] 23)) (show 2 ≤ maxLen by decide)
  have LL : HidL (Calls Try.prog 8 #[.string s, .slice (some ⟨w.heap.size + 1 + 1, 0, none⟩) 2 2] (((w.alloc (.cells #[.int .i64 a.k, .string a.t] 23)).alloc (.cells #[.int .i64 b.k, .string b.t] 23)).alloc (.cells #[.int .i64 a.k, .string a.t, .int .i64 b.k, .string b.t] 23)) (fun e w' => e = .returned (.bool (longM s [a, b])) ∧ Below ((w.alloc (.cells #[.int .i64 a.k, .string a.t] 23)).alloc (.cells #[.int .i64 b.k, .string b.t] 23)).heap.size ((w.alloc (.cells #[.int .i64 a.k, .string a.t] 23)).alloc (.cells #[.int .i64 b.k, .string b.t] 23)) w')) := hideL (by rw [World.size_alloc, World.size_alloc] at LL0; rw [World.size_alloc, World.size_alloc]; exact LL0)
  clear LL0
  rw [hL] at LL
  have PA := hideL (print_any a (by omega))
  unfold prV at PA
  rw [hPA] at PA
  simp only [Bool.false_eq_true, if_false] at PA
  have PB := hideL (print_any b (by omega))
  unfold prV at PB
  rw [hPB] at PB
  simp only [Bool.false_eq_true, if_false] at PB
  have LS := hideL (parse_any s (by omega))
  unfold paV at LS
  rw [hq] at LS
  simp only [Option.getD_some, Option.isSome_some, if_true] at LS
  obtain ⟨hqm, hqp⟩ := parM_some hq
  rw [bo_of] at hqp
  have hql := (mayM_bytes hqm).1
  rw [size_list] at hql
  have QP := hideL (print_any q (by omega))
  unfold prV at QP
  rw [hqm, hqp] at QP
  simp only [if_true] at QP
  have QM := hideL (may_any q (by omega))
  rw [hqm] at QM
  have hss : (s.toList == s.toList) = true := beq_self_eq_true _
  clear hqm hqp hql
  clear hq
  obtain ⟨kq, tq⟩ := q
  clear hL
  clear hPA
  clear hPB
  obtain ⟨ka, ta⟩ := a
  obtain ⟨kb, tb⟩ := b
  dsimp only at *
  go_enter Try.func7, Try.ntmps7
  go_wp2_with (first
    | (go_at_call 8; first
      | (with_reducible refine LL.out.mono ?_; rintro e wx ⟨rfl, hB⟩; replace HS := hideL (HS.out.next hB); (try clear c0 c1 d0 d1); have c0 := HS.out.ba.c0; have c1 := HS.out.ba.c1; have d0 := HS.out.bb.c0; have d1 := HS.out.bb.c1; clear hB))
    | (go_at_call 9; first
      | (with_reducible refine (LW.out _).mono ?_; rintro e wx ⟨rfl, hB⟩; replace HS := hideL (HS.out.next hB); (try clear c0 c1 d0 d1); have c0 := HS.out.ba.c0; have c1 := HS.out.ba.c1; have d0 := HS.out.bb.c0; have d1 := HS.out.bb.c1; clear hB))
    | (go_at_call 10; first
      | (with_reducible refine (QM.out _).mono ?_; rintro e wx ⟨rfl, hB⟩; replace HS := hideL (HS.out.next hB); (try clear c0 c1 d0 d1); have c0 := HS.out.ba.c0; have c1 := HS.out.ba.c1; have d0 := HS.out.bb.c0; have d1 := HS.out.bb.c1; (try clear q0 q1); replace HT := hideL (HT.out.next hB); have q0 := HT.out.c0; have q1 := HT.out.c1; clear hB))
    | (go_at_call 19; first
      | (with_reducible refine (PA.out _).mono ?_; rintro e wx ⟨rfl, hB⟩; replace HS := hideL (HS.out.next hB); (try clear c0 c1 d0 d1); have c0 := HS.out.ba.c0; have c1 := HS.out.ba.c1; have d0 := HS.out.bb.c0; have d1 := HS.out.bb.c1; clear hB)
      | (with_reducible refine (PB.out _).mono ?_; rintro e wx ⟨rfl, hB⟩; replace HS := hideL (HS.out.next hB); (try clear c0 c1 d0 d1); have c0 := HS.out.ba.c0; have c1 := HS.out.ba.c1; have d0 := HS.out.bb.c0; have d1 := HS.out.bb.c1; clear hB)
      | (with_reducible refine (QP.out _).mono ?_; rintro e wx ⟨rfl, hB⟩; replace HS := hideL (HS.out.next hB); (try clear c0 c1 d0 d1); have c0 := HS.out.ba.c0; have c1 := HS.out.ba.c1; have d0 := HS.out.bb.c0; have d1 := HS.out.bb.c1; (try clear q0 q1); replace HT := hideL (HT.out.next hB); have q0 := HT.out.c0; have q1 := HT.out.c1; clear hB))
    | (go_at_call 21; first
      | (with_reducible refine (LS.out _).mono ?_; rintro e wt ⟨rfl, hB⟩; replace HS := hideL ((HS.out.next hB).next ((Below.refl _ _).alloc (Nat.le_refl _) (.cells #[.int .i64 kq, .string tq] 23))); have HT := hideL (TBox.new wt (kq) tq); (try clear c0 c1 d0 d1); have c0 := HS.out.ba.c0; have c1 := HS.out.ba.c1; have d0 := HS.out.bb.c0; have d1 := HS.out.bb.c1; clear hB; have q0 := HT.out.c0; have q1 := HT.out.c1)))
  go_ret
  exact ⟨rfl, HS.out.be⟩
set_option maxRecDepth 100000 in
set_option maxHeartbeats 2000000 in
theorem back_ftn (a b : Tm) (s : ByteArray) (w : World) (ha : a.t.size ≤ maxLen) (hb : b.t.size ≤ maxLen) (hs : s.size ≤ maxLen) (hL : longM s [a, b] = false) (hPA : mayM a = false) (hPB : mayM b = true) (hq : parM s.data.toList = none) : Calls Try.prog 7 #[.agg #[.int .i64 a.k, .string a.t], .agg #[.int .i64 b.k, .string b.t], .string s] w (LawPost w) := by
  unfold maxLen at *
  have LW := hideL awake_any
  have HS := hideL (S2.new w a b)
  have LL0 := long_row s [a, b] ((w.alloc (.cells #[.int .i64 a.k, .string a.t] 23)).alloc (.cells #[.int .i64 b.k, .string b.t] 23)) (show 2 ≤ maxLen by decide)
  have LL : HidL (Calls Try.prog 8 #[.string s, .slice (some ⟨w.heap.size + 1 + 1, 0, none⟩) 2 2] (((w.alloc (.cells #[.int .i64 a.k, .string a.t] 23)).alloc (.cells #[.int .i64 b.k, .string b.t] 23)).alloc (.cells #[.int .i64 a.k, .string a.t, .int .i64 b.k, .string b.t] 23)) (fun e w' => e = .returned (.bool (longM s [a, b])) ∧ Below ((w.alloc (.cells #[.int .i64 a.k, .string a.t] 23)).alloc (.cells #[.int .i64 b.k, .string b.t] 23)).heap.size ((w.alloc (.cells #[.int .i64 a.k, .string a.t] 23)).alloc (.cells #[.int .i64 b.k, .string b.t] 23)) w')) := hideL (by rw [World.size_alloc, World.size_alloc] at LL0; rw [World.size_alloc, World.size_alloc]; exact LL0)
  clear LL0
  rw [hL] at LL
  have PA := hideL (print_any a (by omega))
  unfold prV at PA
  rw [hPA] at PA
  simp only [Bool.false_eq_true, if_false] at PA
  have PB := hideL (print_any b (by omega))
  unfold prV at PB
  rw [hPB] at PB
  simp only [if_true] at PB
  have LS := hideL (parse_any s (by omega))
  unfold paV at LS
  rw [hq] at LS
  simp only [Option.getD_none, Option.isSome_none, Bool.false_eq_true, if_false] at LS
  rw [show (default : Tm).k = 0 from rfl, show (default : Tm).t = ⟨#[]⟩ from rfl] at LS
  clear hL
  clear hPA
  clear hPB
  clear hq
  obtain ⟨ka, ta⟩ := a
  obtain ⟨kb, tb⟩ := b
  dsimp only at *
  go_enter Try.func7, Try.ntmps7
  go_wp2_with (first
    | (go_at_call 8; first
      | (with_reducible refine LL.out.mono ?_; rintro e wx ⟨rfl, hB⟩; replace HS := hideL (HS.out.next hB); (try clear c0 c1 d0 d1); have c0 := HS.out.ba.c0; have c1 := HS.out.ba.c1; have d0 := HS.out.bb.c0; have d1 := HS.out.bb.c1; clear hB))
    | (go_at_call 9; first
      | (with_reducible refine (LW.out _).mono ?_; rintro e wx ⟨rfl, hB⟩; replace HS := hideL (HS.out.next hB); (try clear c0 c1 d0 d1); have c0 := HS.out.ba.c0; have c1 := HS.out.ba.c1; have d0 := HS.out.bb.c0; have d1 := HS.out.bb.c1; clear hB))
    | (go_at_call 19; first
      | (with_reducible refine (PA.out _).mono ?_; rintro e wx ⟨rfl, hB⟩; replace HS := hideL (HS.out.next hB); (try clear c0 c1 d0 d1); have c0 := HS.out.ba.c0; have c1 := HS.out.ba.c1; have d0 := HS.out.bb.c0; have d1 := HS.out.bb.c1; clear hB)
      | (with_reducible refine (PB.out _).mono ?_; rintro e wx ⟨rfl, hB⟩; replace HS := hideL (HS.out.next hB); (try clear c0 c1 d0 d1); have c0 := HS.out.ba.c0; have c1 := HS.out.ba.c1; have d0 := HS.out.bb.c0; have d1 := HS.out.bb.c1; clear hB))
    | (go_at_call 21; first
      | (with_reducible refine (LS.out _).mono ?_; rintro e wt ⟨rfl, hB⟩; replace HS := hideL ((HS.out.next hB).next ((Below.refl _ _).alloc (Nat.le_refl _) (.cells #[.int .i64 0, .string ⟨#[]⟩] 23))); have HT := hideL (TBox.new wt (0) ⟨#[]⟩); (try clear c0 c1 d0 d1); have c0 := HS.out.ba.c0; have c1 := HS.out.ba.c1; have d0 := HS.out.bb.c0; have d1 := HS.out.bb.c1; clear hB)))
  go_ret
  exact ⟨rfl, HS.out.be⟩
set_option maxRecDepth 100000 in
set_option maxHeartbeats 2000000 in
theorem back_fts (a b : Tm) (s : ByteArray) (w : World) (ha : a.t.size ≤ maxLen) (hb : b.t.size ≤ maxLen) (hs : s.size ≤ maxLen) (hL : longM s [a, b] = false) (hPA : mayM a = false) (hPB : mayM b = true) (q : Tm) (hq : parM s.data.toList = some q) : Calls Try.prog 7 #[.agg #[.int .i64 a.k, .string a.t], .agg #[.int .i64 b.k, .string b.t], .string s] w (LawPost w) := by
  unfold maxLen at *
  have LW := hideL awake_any
  have HS := hideL (S2.new w a b)
  have LL0 := long_row s [a, b] ((w.alloc (.cells #[.int .i64 a.k, .string a.t] 23)).alloc (.cells #[.int .i64 b.k, .string b.t] 23)) (show 2 ≤ maxLen by decide)
  have LL : HidL (Calls Try.prog 8 #[.string s, .slice (some ⟨w.heap.size + 1 + 1, 0, none⟩) 2 2] (((w.alloc (.cells #[.int .i64 a.k, .string a.t] 23)).alloc (.cells #[.int .i64 b.k, .string b.t] 23)).alloc (.cells #[.int .i64 a.k, .string a.t, .int .i64 b.k, .string b.t] 23)) (fun e w' => e = .returned (.bool (longM s [a, b])) ∧ Below ((w.alloc (.cells #[.int .i64 a.k, .string a.t] 23)).alloc (.cells #[.int .i64 b.k, .string b.t] 23)).heap.size ((w.alloc (.cells #[.int .i64 a.k, .string a.t] 23)).alloc (.cells #[.int .i64 b.k, .string b.t] 23)) w')) := hideL (by rw [World.size_alloc, World.size_alloc] at LL0; rw [World.size_alloc, World.size_alloc]; exact LL0)
  clear LL0
  rw [hL] at LL
  have PA := hideL (print_any a (by omega))
  unfold prV at PA
  rw [hPA] at PA
  simp only [Bool.false_eq_true, if_false] at PA
  have PB := hideL (print_any b (by omega))
  unfold prV at PB
  rw [hPB] at PB
  simp only [if_true] at PB
  have LS := hideL (parse_any s (by omega))
  unfold paV at LS
  rw [hq] at LS
  simp only [Option.getD_some, Option.isSome_some, if_true] at LS
  obtain ⟨hqm, hqp⟩ := parM_some hq
  rw [bo_of] at hqp
  have hql := (mayM_bytes hqm).1
  rw [size_list] at hql
  have QP := hideL (print_any q (by omega))
  unfold prV at QP
  rw [hqm, hqp] at QP
  simp only [if_true] at QP
  have QM := hideL (may_any q (by omega))
  rw [hqm] at QM
  have hss : (s.toList == s.toList) = true := beq_self_eq_true _
  clear hqm hqp hql
  clear hq
  obtain ⟨kq, tq⟩ := q
  clear hL
  clear hPA
  clear hPB
  obtain ⟨ka, ta⟩ := a
  obtain ⟨kb, tb⟩ := b
  dsimp only at *
  go_enter Try.func7, Try.ntmps7
  go_wp2_with (first
    | (go_at_call 8; first
      | (with_reducible refine LL.out.mono ?_; rintro e wx ⟨rfl, hB⟩; replace HS := hideL (HS.out.next hB); (try clear c0 c1 d0 d1); have c0 := HS.out.ba.c0; have c1 := HS.out.ba.c1; have d0 := HS.out.bb.c0; have d1 := HS.out.bb.c1; clear hB))
    | (go_at_call 9; first
      | (with_reducible refine (LW.out _).mono ?_; rintro e wx ⟨rfl, hB⟩; replace HS := hideL (HS.out.next hB); (try clear c0 c1 d0 d1); have c0 := HS.out.ba.c0; have c1 := HS.out.ba.c1; have d0 := HS.out.bb.c0; have d1 := HS.out.bb.c1; clear hB))
    | (go_at_call 10; first
      | (with_reducible refine (QM.out _).mono ?_; rintro e wx ⟨rfl, hB⟩; replace HS := hideL (HS.out.next hB); (try clear c0 c1 d0 d1); have c0 := HS.out.ba.c0; have c1 := HS.out.ba.c1; have d0 := HS.out.bb.c0; have d1 := HS.out.bb.c1; (try clear q0 q1); replace HT := hideL (HT.out.next hB); have q0 := HT.out.c0; have q1 := HT.out.c1; clear hB))
    | (go_at_call 19; first
      | (with_reducible refine (PA.out _).mono ?_; rintro e wx ⟨rfl, hB⟩; replace HS := hideL (HS.out.next hB); (try clear c0 c1 d0 d1); have c0 := HS.out.ba.c0; have c1 := HS.out.ba.c1; have d0 := HS.out.bb.c0; have d1 := HS.out.bb.c1; clear hB)
      | (with_reducible refine (PB.out _).mono ?_; rintro e wx ⟨rfl, hB⟩; replace HS := hideL (HS.out.next hB); (try clear c0 c1 d0 d1); have c0 := HS.out.ba.c0; have c1 := HS.out.ba.c1; have d0 := HS.out.bb.c0; have d1 := HS.out.bb.c1; clear hB)
      | (with_reducible refine (QP.out _).mono ?_; rintro e wx ⟨rfl, hB⟩; replace HS := hideL (HS.out.next hB); (try clear c0 c1 d0 d1); have c0 := HS.out.ba.c0; have c1 := HS.out.ba.c1; have d0 := HS.out.bb.c0; have d1 := HS.out.bb.c1; (try clear q0 q1); replace HT := hideL (HT.out.next hB); have q0 := HT.out.c0; have q1 := HT.out.c1; clear hB))
    | (go_at_call 21; first
      | (with_reducible refine (LS.out _).mono ?_; rintro e wt ⟨rfl, hB⟩; replace HS := hideL ((HS.out.next hB).next ((Below.refl _ _).alloc (Nat.le_refl _) (.cells #[.int .i64 kq, .string tq] 23))); have HT := hideL (TBox.new wt (kq) tq); (try clear c0 c1 d0 d1); have c0 := HS.out.ba.c0; have c1 := HS.out.ba.c1; have d0 := HS.out.bb.c0; have d1 := HS.out.bb.c1; clear hB; have q0 := HT.out.c0; have q1 := HT.out.c1)))
  go_ret
  exact ⟨rfl, HS.out.be⟩
set_option maxRecDepth 100000 in
set_option maxHeartbeats 2000000 in
theorem back_tfn (a b : Tm) (s : ByteArray) (w : World) (ha : a.t.size ≤ maxLen) (hb : b.t.size ≤ maxLen) (hs : s.size ≤ maxLen) (hL : longM s [a, b] = false) (hPA : mayM a = true) (hPB : mayM b = false) (hq : parM s.data.toList = none) : Calls Try.prog 7 #[.agg #[.int .i64 a.k, .string a.t], .agg #[.int .i64 b.k, .string b.t], .string s] w (LawPost w) := by
  unfold maxLen at *
  have LW := hideL awake_any
  have HS := hideL (S2.new w a b)
  have LL0 := long_row s [a, b] ((w.alloc (.cells #[.int .i64 a.k, .string a.t] 23)).alloc (.cells #[.int .i64 b.k, .string b.t] 23)) (show 2 ≤ maxLen by decide)
  have LL : HidL (Calls Try.prog 8 #[.string s, .slice (some ⟨w.heap.size + 1 + 1, 0, none⟩) 2 2] (((w.alloc (.cells #[.int .i64 a.k, .string a.t] 23)).alloc (.cells #[.int .i64 b.k, .string b.t] 23)).alloc (.cells #[.int .i64 a.k, .string a.t, .int .i64 b.k, .string b.t] 23)) (fun e w' => e = .returned (.bool (longM s [a, b])) ∧ Below ((w.alloc (.cells #[.int .i64 a.k, .string a.t] 23)).alloc (.cells #[.int .i64 b.k, .string b.t] 23)).heap.size ((w.alloc (.cells #[.int .i64 a.k, .string a.t] 23)).alloc (.cells #[.int .i64 b.k, .string b.t] 23)) w')) := hideL (by rw [World.size_alloc, World.size_alloc] at LL0; rw [World.size_alloc, World.size_alloc]; exact LL0)
  clear LL0
  rw [hL] at LL
  have PA := hideL (print_any a (by omega))
  unfold prV at PA
  rw [hPA] at PA
  simp only [if_true] at PA
  have PB := hideL (print_any b (by omega))
  unfold prV at PB
  rw [hPB] at PB
  simp only [Bool.false_eq_true, if_false] at PB
  have hpl := prK_len hPA
  have LX := hideL (parse_any (prM a) (by omega))
  unfold paV at LX
  rw [parM_of (s := (prM a).data.toList) hPA (bo_of _).symm] at LX
  simp only [Option.getD_some, Option.isSome_some, if_true] at LX
  obtain ⟨X, hX⟩ : ∃ X, prM a = X := ⟨_, rfl⟩
  rw [hX] at PA LX
  clear hX hpl
  have LS := hideL (parse_any s (by omega))
  unfold paV at LS
  rw [hq] at LS
  simp only [Option.getD_none, Option.isSome_none, Bool.false_eq_true, if_false] at LS
  rw [show (default : Tm).k = 0 from rfl, show (default : Tm).t = ⟨#[]⟩ from rfl] at LS
  clear hL
  clear hPA
  clear hPB
  clear hq
  obtain ⟨ka, ta⟩ := a
  obtain ⟨kb, tb⟩ := b
  dsimp only at *
  go_enter Try.func7, Try.ntmps7
  go_wp2_with (first
    | (go_at_call 8; first
      | (with_reducible refine LL.out.mono ?_; rintro e wx ⟨rfl, hB⟩; replace HS := hideL (HS.out.next hB); (try clear c0 c1 d0 d1); have c0 := HS.out.ba.c0; have c1 := HS.out.ba.c1; have d0 := HS.out.bb.c0; have d1 := HS.out.bb.c1; clear hB))
    | (go_at_call 9; first
      | (with_reducible refine (LW.out _).mono ?_; rintro e wx ⟨rfl, hB⟩; replace HS := hideL (HS.out.next hB); (try clear c0 c1 d0 d1); have c0 := HS.out.ba.c0; have c1 := HS.out.ba.c1; have d0 := HS.out.bb.c0; have d1 := HS.out.bb.c1; clear hB))
    | (go_at_call 19; first
      | (with_reducible refine (PA.out _).mono ?_; rintro e wx ⟨rfl, hB⟩; replace HS := hideL (HS.out.next hB); (try clear c0 c1 d0 d1); have c0 := HS.out.ba.c0; have c1 := HS.out.ba.c1; have d0 := HS.out.bb.c0; have d1 := HS.out.bb.c1; clear hB)
      | (with_reducible refine (PB.out _).mono ?_; rintro e wx ⟨rfl, hB⟩; replace HS := hideL (HS.out.next hB); (try clear c0 c1 d0 d1); have c0 := HS.out.ba.c0; have c1 := HS.out.ba.c1; have d0 := HS.out.bb.c0; have d1 := HS.out.bb.c1; clear hB))
    | (go_at_call 21; first
      | (with_reducible refine (LX.out _).mono ?_; rintro e wp ⟨rfl, hB⟩; replace HS := hideL ((HS.out.next hB).next ((Below.refl _ _).alloc (Nat.le_refl _) (.cells #[.int .i64 ka, .string ta] 23))); have HA := hideL (TBox.new wp (ka) ta); (try clear c0 c1 d0 d1); have c0 := HS.out.ba.c0; have c1 := HS.out.ba.c1; have d0 := HS.out.bb.c0; have d1 := HS.out.bb.c1; clear hB)
      | (with_reducible refine (LS.out _).mono ?_; rintro e wt ⟨rfl, hB⟩; replace HS := hideL ((HS.out.next hB).next ((Below.refl _ _).alloc (Nat.le_refl _) (.cells #[.int .i64 0, .string ⟨#[]⟩] 23))); have HT := hideL (TBox.new wt (0) ⟨#[]⟩); (try clear c0 c1 d0 d1); have c0 := HS.out.ba.c0; have c1 := HS.out.ba.c1; have d0 := HS.out.bb.c0; have d1 := HS.out.bb.c1; clear hB)))
  go_ret
  exact ⟨rfl, HS.out.be⟩
set_option maxRecDepth 100000 in
set_option maxHeartbeats 2000000 in
theorem back_tfs (a b : Tm) (s : ByteArray) (w : World) (ha : a.t.size ≤ maxLen) (hb : b.t.size ≤ maxLen) (hs : s.size ≤ maxLen) (hL : longM s [a, b] = false) (hPA : mayM a = true) (hPB : mayM b = false) (q : Tm) (hq : parM s.data.toList = some q) : Calls Try.prog 7 #[.agg #[.int .i64 a.k, .string a.t], .agg #[.int .i64 b.k, .string b.t], .string s] w (LawPost w) := by
  unfold maxLen at *
  have LW := hideL awake_any
  have HS := hideL (S2.new w a b)
  have LL0 := long_row s [a, b] ((w.alloc (.cells #[.int .i64 a.k, .string a.t] 23)).alloc (.cells #[.int .i64 b.k, .string b.t] 23)) (show 2 ≤ maxLen by decide)
  have LL : HidL (Calls Try.prog 8 #[.string s, .slice (some ⟨w.heap.size + 1 + 1, 0, none⟩) 2 2] (((w.alloc (.cells #[.int .i64 a.k, .string a.t] 23)).alloc (.cells #[.int .i64 b.k, .string b.t] 23)).alloc (.cells #[.int .i64 a.k, .string a.t, .int .i64 b.k, .string b.t] 23)) (fun e w' => e = .returned (.bool (longM s [a, b])) ∧ Below ((w.alloc (.cells #[.int .i64 a.k, .string a.t] 23)).alloc (.cells #[.int .i64 b.k, .string b.t] 23)).heap.size ((w.alloc (.cells #[.int .i64 a.k, .string a.t] 23)).alloc (.cells #[.int .i64 b.k, .string b.t] 23)) w')) := hideL (by rw [World.size_alloc, World.size_alloc] at LL0; rw [World.size_alloc, World.size_alloc]; exact LL0)
  clear LL0
  rw [hL] at LL
  have PA := hideL (print_any a (by omega))
  unfold prV at PA
  rw [hPA] at PA
  simp only [if_true] at PA
  have PB := hideL (print_any b (by omega))
  unfold prV at PB
  rw [hPB] at PB
  simp only [Bool.false_eq_true, if_false] at PB
  have hpl := prK_len hPA
  have LX := hideL (parse_any (prM a) (by omega))
  unfold paV at LX
  rw [parM_of (s := (prM a).data.toList) hPA (bo_of _).symm] at LX
  simp only [Option.getD_some, Option.isSome_some, if_true] at LX
  obtain ⟨X, hX⟩ : ∃ X, prM a = X := ⟨_, rfl⟩
  rw [hX] at PA LX
  clear hX hpl
  have LS := hideL (parse_any s (by omega))
  unfold paV at LS
  rw [hq] at LS
  simp only [Option.getD_some, Option.isSome_some, if_true] at LS
  obtain ⟨hqm, hqp⟩ := parM_some hq
  rw [bo_of] at hqp
  have hql := (mayM_bytes hqm).1
  rw [size_list] at hql
  have QP := hideL (print_any q (by omega))
  unfold prV at QP
  rw [hqm, hqp] at QP
  simp only [if_true] at QP
  have QM := hideL (may_any q (by omega))
  rw [hqm] at QM
  have hss : (s.toList == s.toList) = true := beq_self_eq_true _
  clear hqm hqp hql
  clear hq
  obtain ⟨kq, tq⟩ := q
  clear hL
  clear hPA
  clear hPB
  obtain ⟨ka, ta⟩ := a
  obtain ⟨kb, tb⟩ := b
  dsimp only at *
  go_enter Try.func7, Try.ntmps7
  go_wp2_with (first
    | (go_at_call 8; first
      | (with_reducible refine LL.out.mono ?_; rintro e wx ⟨rfl, hB⟩; replace HS := hideL (HS.out.next hB); (try clear c0 c1 d0 d1); have c0 := HS.out.ba.c0; have c1 := HS.out.ba.c1; have d0 := HS.out.bb.c0; have d1 := HS.out.bb.c1; clear hB))
    | (go_at_call 9; first
      | (with_reducible refine (LW.out _).mono ?_; rintro e wx ⟨rfl, hB⟩; replace HS := hideL (HS.out.next hB); (try clear c0 c1 d0 d1); have c0 := HS.out.ba.c0; have c1 := HS.out.ba.c1; have d0 := HS.out.bb.c0; have d1 := HS.out.bb.c1; clear hB))
    | (go_at_call 10; first
      | (with_reducible refine (QM.out _).mono ?_; rintro e wx ⟨rfl, hB⟩; replace HS := hideL (HS.out.next hB); (try clear c0 c1 d0 d1); have c0 := HS.out.ba.c0; have c1 := HS.out.ba.c1; have d0 := HS.out.bb.c0; have d1 := HS.out.bb.c1; (try clear q0 q1); replace HT := hideL (HT.out.next hB); have q0 := HT.out.c0; have q1 := HT.out.c1; clear hB))
    | (go_at_call 19; first
      | (with_reducible refine (PA.out _).mono ?_; rintro e wx ⟨rfl, hB⟩; replace HS := hideL (HS.out.next hB); (try clear c0 c1 d0 d1); have c0 := HS.out.ba.c0; have c1 := HS.out.ba.c1; have d0 := HS.out.bb.c0; have d1 := HS.out.bb.c1; clear hB)
      | (with_reducible refine (PB.out _).mono ?_; rintro e wx ⟨rfl, hB⟩; replace HS := hideL (HS.out.next hB); (try clear c0 c1 d0 d1); have c0 := HS.out.ba.c0; have c1 := HS.out.ba.c1; have d0 := HS.out.bb.c0; have d1 := HS.out.bb.c1; clear hB)
      | (with_reducible refine (QP.out _).mono ?_; rintro e wx ⟨rfl, hB⟩; replace HS := hideL (HS.out.next hB); (try clear c0 c1 d0 d1); have c0 := HS.out.ba.c0; have c1 := HS.out.ba.c1; have d0 := HS.out.bb.c0; have d1 := HS.out.bb.c1; (try clear q0 q1); replace HT := hideL (HT.out.next hB); have q0 := HT.out.c0; have q1 := HT.out.c1; clear hB))
    | (go_at_call 21; first
      | (with_reducible refine (LX.out _).mono ?_; rintro e wp ⟨rfl, hB⟩; replace HS := hideL ((HS.out.next hB).next ((Below.refl _ _).alloc (Nat.le_refl _) (.cells #[.int .i64 ka, .string ta] 23))); have HA := hideL (TBox.new wp (ka) ta); (try clear c0 c1 d0 d1); have c0 := HS.out.ba.c0; have c1 := HS.out.ba.c1; have d0 := HS.out.bb.c0; have d1 := HS.out.bb.c1; clear hB)
      | (with_reducible refine (LS.out _).mono ?_; rintro e wt ⟨rfl, hB⟩; replace HS := hideL ((HS.out.next hB).next ((Below.refl _ _).alloc (Nat.le_refl _) (.cells #[.int .i64 kq, .string tq] 23))); have HT := hideL (TBox.new wt (kq) tq); (try clear c0 c1 d0 d1); have c0 := HS.out.ba.c0; have c1 := HS.out.ba.c1; have d0 := HS.out.bb.c0; have d1 := HS.out.bb.c1; clear hB; have q0 := HT.out.c0; have q1 := HT.out.c1)))
  go_ret
  exact ⟨rfl, HS.out.be⟩
set_option maxRecDepth 100000 in
set_option maxHeartbeats 2000000 in
theorem back_ttn (a b : Tm) (s : ByteArray) (w : World) (ha : a.t.size ≤ maxLen) (hb : b.t.size ≤ maxLen) (hs : s.size ≤ maxLen) (hL : longM s [a, b] = false) (hPA : mayM a = true) (hPB : mayM b = true) (hne : a ≠ b) (hkk : (a.k == b.k) = false) (hq : parM s.data.toList = none) : Calls Try.prog 7 #[.agg #[.int .i64 a.k, .string a.t], .agg #[.int .i64 b.k, .string b.t], .string s] w (LawPost w) := by
  unfold maxLen at *
  have LW := hideL awake_any
  have HS := hideL (S2.new w a b)
  have LL0 := long_row s [a, b] ((w.alloc (.cells #[.int .i64 a.k, .string a.t] 23)).alloc (.cells #[.int .i64 b.k, .string b.t] 23)) (show 2 ≤ maxLen by decide)
  have LL : HidL (Calls Try.prog 8 #[.string s, .slice (some ⟨w.heap.size + 1 + 1, 0, none⟩) 2 2] (((w.alloc (.cells #[.int .i64 a.k, .string a.t] 23)).alloc (.cells #[.int .i64 b.k, .string b.t] 23)).alloc (.cells #[.int .i64 a.k, .string a.t, .int .i64 b.k, .string b.t] 23)) (fun e w' => e = .returned (.bool (longM s [a, b])) ∧ Below ((w.alloc (.cells #[.int .i64 a.k, .string a.t] 23)).alloc (.cells #[.int .i64 b.k, .string b.t] 23)).heap.size ((w.alloc (.cells #[.int .i64 a.k, .string a.t] 23)).alloc (.cells #[.int .i64 b.k, .string b.t] 23)) w')) := hideL (by rw [World.size_alloc, World.size_alloc] at LL0; rw [World.size_alloc, World.size_alloc]; exact LL0)
  clear LL0
  rw [hL] at LL
  have PA := hideL (print_any a (by omega))
  unfold prV at PA
  rw [hPA] at PA
  simp only [if_true] at PA
  have PB := hideL (print_any b (by omega))
  unfold prV at PB
  rw [hPB] at PB
  simp only [if_true] at PB
  have hpl := prK_len hPA
  have LX := hideL (parse_any (prM a) (by omega))
  unfold paV at LX
  rw [parM_of (s := (prM a).data.toList) hPA (bo_of _).symm] at LX
  simp only [Option.getD_some, Option.isSome_some, if_true] at LX
  have hpe : ((prM a).toList == (prM b).toList) = false := eqs_false fun h => hne (pr_one hPA hPB h)
  obtain ⟨X, hX⟩ : ∃ X, prM a = X := ⟨_, rfl⟩
  obtain ⟨Y, hY⟩ : ∃ Y, prM b = Y := ⟨_, rfl⟩
  rw [hX] at PA LX hpe
  rw [hY] at PB hpe
  clear hX hY hpl
  have LS := hideL (parse_any s (by omega))
  unfold paV at LS
  rw [hq] at LS
  simp only [Option.getD_none, Option.isSome_none, Bool.false_eq_true, if_false] at LS
  rw [show (default : Tm).k = 0 from rfl, show (default : Tm).t = ⟨#[]⟩ from rfl] at LS
  clear hL
  clear hPA
  clear hPB
  clear hne
  clear hq
  obtain ⟨ka, ta⟩ := a
  obtain ⟨kb, tb⟩ := b
  dsimp only at *
  go_enter Try.func7, Try.ntmps7
  go_wp2_with (first
    | (go_at_call 8; first
      | (with_reducible refine LL.out.mono ?_; rintro e wx ⟨rfl, hB⟩; replace HS := hideL (HS.out.next hB); (try clear c0 c1 d0 d1); have c0 := HS.out.ba.c0; have c1 := HS.out.ba.c1; have d0 := HS.out.bb.c0; have d1 := HS.out.bb.c1; clear hB))
    | (go_at_call 9; first
      | (with_reducible refine (LW.out _).mono ?_; rintro e wx ⟨rfl, hB⟩; replace HS := hideL (HS.out.next hB); (try clear c0 c1 d0 d1); have c0 := HS.out.ba.c0; have c1 := HS.out.ba.c1; have d0 := HS.out.bb.c0; have d1 := HS.out.bb.c1; clear hB))
    | (go_at_call 19; first
      | (with_reducible refine (PA.out _).mono ?_; rintro e wx ⟨rfl, hB⟩; replace HS := hideL (HS.out.next hB); (try clear c0 c1 d0 d1); have c0 := HS.out.ba.c0; have c1 := HS.out.ba.c1; have d0 := HS.out.bb.c0; have d1 := HS.out.bb.c1; clear hB)
      | (with_reducible refine (PB.out _).mono ?_; rintro e wx ⟨rfl, hB⟩; replace HS := hideL (HS.out.next hB); (try clear c0 c1 d0 d1); have c0 := HS.out.ba.c0; have c1 := HS.out.ba.c1; have d0 := HS.out.bb.c0; have d1 := HS.out.bb.c1; clear hB))
    | (go_at_call 21; first
      | (with_reducible refine (LX.out _).mono ?_; rintro e wp ⟨rfl, hB⟩; replace HS := hideL ((HS.out.next hB).next ((Below.refl _ _).alloc (Nat.le_refl _) (.cells #[.int .i64 ka, .string ta] 23))); have HA := hideL (TBox.new wp (ka) ta); (try clear c0 c1 d0 d1); have c0 := HS.out.ba.c0; have c1 := HS.out.ba.c1; have d0 := HS.out.bb.c0; have d1 := HS.out.bb.c1; clear hB)
      | (with_reducible refine (LS.out _).mono ?_; rintro e wt ⟨rfl, hB⟩; replace HS := hideL ((HS.out.next hB).next ((Below.refl _ _).alloc (Nat.le_refl _) (.cells #[.int .i64 0, .string ⟨#[]⟩] 23))); have HT := hideL (TBox.new wt (0) ⟨#[]⟩); (try clear c0 c1 d0 d1); have c0 := HS.out.ba.c0; have c1 := HS.out.ba.c1; have d0 := HS.out.bb.c0; have d1 := HS.out.bb.c1; clear hB)))
  go_ret
  exact ⟨rfl, HS.out.be⟩
set_option maxRecDepth 100000 in
set_option maxHeartbeats 2000000 in
theorem back_tts (a b : Tm) (s : ByteArray) (w : World) (ha : a.t.size ≤ maxLen) (hb : b.t.size ≤ maxLen) (hs : s.size ≤ maxLen) (hL : longM s [a, b] = false) (hPA : mayM a = true) (hPB : mayM b = true) (hne : a ≠ b) (hkk : (a.k == b.k) = false) (q : Tm) (hq : parM s.data.toList = some q) : Calls Try.prog 7 #[.agg #[.int .i64 a.k, .string a.t], .agg #[.int .i64 b.k, .string b.t], .string s] w (LawPost w) := by
  unfold maxLen at *
  have LW := hideL awake_any
  have HS := hideL (S2.new w a b)
  have LL0 := long_row s [a, b] ((w.alloc (.cells #[.int .i64 a.k, .string a.t] 23)).alloc (.cells #[.int .i64 b.k, .string b.t] 23)) (show 2 ≤ maxLen by decide)
  have LL : HidL (Calls Try.prog 8 #[.string s, .slice (some ⟨w.heap.size + 1 + 1, 0, none⟩) 2 2] (((w.alloc (.cells #[.int .i64 a.k, .string a.t] 23)).alloc (.cells #[.int .i64 b.k, .string b.t] 23)).alloc (.cells #[.int .i64 a.k, .string a.t, .int .i64 b.k, .string b.t] 23)) (fun e w' => e = .returned (.bool (longM s [a, b])) ∧ Below ((w.alloc (.cells #[.int .i64 a.k, .string a.t] 23)).alloc (.cells #[.int .i64 b.k, .string b.t] 23)).heap.size ((w.alloc (.cells #[.int .i64 a.k, .string a.t] 23)).alloc (.cells #[.int .i64 b.k, .string b.t] 23)) w')) := hideL (by rw [World.size_alloc, World.size_alloc] at LL0; rw [World.size_alloc, World.size_alloc]; exact LL0)
  clear LL0
  rw [hL] at LL
  have PA := hideL (print_any a (by omega))
  unfold prV at PA
  rw [hPA] at PA
  simp only [if_true] at PA
  have PB := hideL (print_any b (by omega))
  unfold prV at PB
  rw [hPB] at PB
  simp only [if_true] at PB
  have hpl := prK_len hPA
  have LX := hideL (parse_any (prM a) (by omega))
  unfold paV at LX
  rw [parM_of (s := (prM a).data.toList) hPA (bo_of _).symm] at LX
  simp only [Option.getD_some, Option.isSome_some, if_true] at LX
  have hpe : ((prM a).toList == (prM b).toList) = false := eqs_false fun h => hne (pr_one hPA hPB h)
  obtain ⟨X, hX⟩ : ∃ X, prM a = X := ⟨_, rfl⟩
  obtain ⟨Y, hY⟩ : ∃ Y, prM b = Y := ⟨_, rfl⟩
  rw [hX] at PA LX hpe
  rw [hY] at PB hpe
  clear hX hY hpl
  have LS := hideL (parse_any s (by omega))
  unfold paV at LS
  rw [hq] at LS
  simp only [Option.getD_some, Option.isSome_some, if_true] at LS
  obtain ⟨hqm, hqp⟩ := parM_some hq
  rw [bo_of] at hqp
  have hql := (mayM_bytes hqm).1
  rw [size_list] at hql
  have QP := hideL (print_any q (by omega))
  unfold prV at QP
  rw [hqm, hqp] at QP
  simp only [if_true] at QP
  have QM := hideL (may_any q (by omega))
  rw [hqm] at QM
  have hss : (s.toList == s.toList) = true := beq_self_eq_true _
  clear hqm hqp hql
  clear hq
  obtain ⟨kq, tq⟩ := q
  clear hL
  clear hPA
  clear hPB
  clear hne
  obtain ⟨ka, ta⟩ := a
  obtain ⟨kb, tb⟩ := b
  dsimp only at *
  go_enter Try.func7, Try.ntmps7
  go_wp2_with (first
    | (go_at_call 8; first
      | (with_reducible refine LL.out.mono ?_; rintro e wx ⟨rfl, hB⟩; replace HS := hideL (HS.out.next hB); (try clear c0 c1 d0 d1); have c0 := HS.out.ba.c0; have c1 := HS.out.ba.c1; have d0 := HS.out.bb.c0; have d1 := HS.out.bb.c1; clear hB))
    | (go_at_call 9; first
      | (with_reducible refine (LW.out _).mono ?_; rintro e wx ⟨rfl, hB⟩; replace HS := hideL (HS.out.next hB); (try clear c0 c1 d0 d1); have c0 := HS.out.ba.c0; have c1 := HS.out.ba.c1; have d0 := HS.out.bb.c0; have d1 := HS.out.bb.c1; clear hB))
    | (go_at_call 10; first
      | (with_reducible refine (QM.out _).mono ?_; rintro e wx ⟨rfl, hB⟩; replace HS := hideL (HS.out.next hB); (try clear c0 c1 d0 d1); have c0 := HS.out.ba.c0; have c1 := HS.out.ba.c1; have d0 := HS.out.bb.c0; have d1 := HS.out.bb.c1; (try clear q0 q1); replace HT := hideL (HT.out.next hB); have q0 := HT.out.c0; have q1 := HT.out.c1; clear hB))
    | (go_at_call 19; first
      | (with_reducible refine (PA.out _).mono ?_; rintro e wx ⟨rfl, hB⟩; replace HS := hideL (HS.out.next hB); (try clear c0 c1 d0 d1); have c0 := HS.out.ba.c0; have c1 := HS.out.ba.c1; have d0 := HS.out.bb.c0; have d1 := HS.out.bb.c1; clear hB)
      | (with_reducible refine (PB.out _).mono ?_; rintro e wx ⟨rfl, hB⟩; replace HS := hideL (HS.out.next hB); (try clear c0 c1 d0 d1); have c0 := HS.out.ba.c0; have c1 := HS.out.ba.c1; have d0 := HS.out.bb.c0; have d1 := HS.out.bb.c1; clear hB)
      | (with_reducible refine (QP.out _).mono ?_; rintro e wx ⟨rfl, hB⟩; replace HS := hideL (HS.out.next hB); (try clear c0 c1 d0 d1); have c0 := HS.out.ba.c0; have c1 := HS.out.ba.c1; have d0 := HS.out.bb.c0; have d1 := HS.out.bb.c1; (try clear q0 q1); replace HT := hideL (HT.out.next hB); have q0 := HT.out.c0; have q1 := HT.out.c1; clear hB))
    | (go_at_call 21; first
      | (with_reducible refine (LX.out _).mono ?_; rintro e wp ⟨rfl, hB⟩; replace HS := hideL ((HS.out.next hB).next ((Below.refl _ _).alloc (Nat.le_refl _) (.cells #[.int .i64 ka, .string ta] 23))); have HA := hideL (TBox.new wp (ka) ta); (try clear c0 c1 d0 d1); have c0 := HS.out.ba.c0; have c1 := HS.out.ba.c1; have d0 := HS.out.bb.c0; have d1 := HS.out.bb.c1; clear hB)
      | (with_reducible refine (LS.out _).mono ?_; rintro e wt ⟨rfl, hB⟩; replace HS := hideL ((HS.out.next hB).next ((Below.refl _ _).alloc (Nat.le_refl _) (.cells #[.int .i64 kq, .string tq] 23))); have HT := hideL (TBox.new wt (kq) tq); (try clear c0 c1 d0 d1); have c0 := HS.out.ba.c0; have c1 := HS.out.ba.c1; have d0 := HS.out.bb.c0; have d1 := HS.out.bb.c1; clear hB; have q0 := HT.out.c0; have q1 := HT.out.c1)))
  go_ret
  exact ⟨rfl, HS.out.be⟩
set_option maxRecDepth 100000 in
set_option maxHeartbeats 2000000 in
theorem back_tvn (a b : Tm) (s : ByteArray) (w : World) (ha : a.t.size ≤ maxLen) (hb : b.t.size ≤ maxLen) (hs : s.size ≤ maxLen) (hL : longM s [a, b] = false) (hPA : mayM a = true) (hPB : mayM b = true) (hne : a ≠ b) (hkk : (a.k == b.k) = true) (hq : parM s.data.toList = none) : Calls Try.prog 7 #[.agg #[.int .i64 a.k, .string a.t], .agg #[.int .i64 b.k, .string b.t], .string s] w (LawPost w) := by
  unfold maxLen at *
  have LW := hideL awake_any
  have HS := hideL (S2.new w a b)
  have LL0 := long_row s [a, b] ((w.alloc (.cells #[.int .i64 a.k, .string a.t] 23)).alloc (.cells #[.int .i64 b.k, .string b.t] 23)) (show 2 ≤ maxLen by decide)
  have LL : HidL (Calls Try.prog 8 #[.string s, .slice (some ⟨w.heap.size + 1 + 1, 0, none⟩) 2 2] (((w.alloc (.cells #[.int .i64 a.k, .string a.t] 23)).alloc (.cells #[.int .i64 b.k, .string b.t] 23)).alloc (.cells #[.int .i64 a.k, .string a.t, .int .i64 b.k, .string b.t] 23)) (fun e w' => e = .returned (.bool (longM s [a, b])) ∧ Below ((w.alloc (.cells #[.int .i64 a.k, .string a.t] 23)).alloc (.cells #[.int .i64 b.k, .string b.t] 23)).heap.size ((w.alloc (.cells #[.int .i64 a.k, .string a.t] 23)).alloc (.cells #[.int .i64 b.k, .string b.t] 23)) w')) := hideL (by rw [World.size_alloc, World.size_alloc] at LL0; rw [World.size_alloc, World.size_alloc]; exact LL0)
  clear LL0
  rw [hL] at LL
  have PA := hideL (print_any a (by omega))
  unfold prV at PA
  rw [hPA] at PA
  simp only [if_true] at PA
  have PB := hideL (print_any b (by omega))
  unfold prV at PB
  rw [hPB] at PB
  simp only [if_true] at PB
  have hpl := prK_len hPA
  have LX := hideL (parse_any (prM a) (by omega))
  unfold paV at LX
  rw [parM_of (s := (prM a).data.toList) hPA (bo_of _).symm] at LX
  simp only [Option.getD_some, Option.isSome_some, if_true] at LX
  have hpe : ((prM a).toList == (prM b).toList) = false := eqs_false fun h => hne (pr_one hPA hPB h)
  have htt : (a.t.toList == b.t.toList) = false := eqs_false fun h2 => hne (Tm.same (beq_iff_eq.1 hkk) (by rw [h2]))
  obtain ⟨X, hX⟩ : ∃ X, prM a = X := ⟨_, rfl⟩
  obtain ⟨Y, hY⟩ : ∃ Y, prM b = Y := ⟨_, rfl⟩
  rw [hX] at PA LX hpe
  rw [hY] at PB hpe
  clear hX hY hpl
  have LS := hideL (parse_any s (by omega))
  unfold paV at LS
  rw [hq] at LS
  simp only [Option.getD_none, Option.isSome_none, Bool.false_eq_true, if_false] at LS
  rw [show (default : Tm).k = 0 from rfl, show (default : Tm).t = ⟨#[]⟩ from rfl] at LS
  clear hL
  clear hPA
  clear hPB
  clear hne
  clear hq
  obtain ⟨ka, ta⟩ := a
  obtain ⟨kb, tb⟩ := b
  dsimp only at *
  go_enter Try.func7, Try.ntmps7
  go_wp2_with (first
    | (go_at_call 8; first
      | (with_reducible refine LL.out.mono ?_; rintro e wx ⟨rfl, hB⟩; replace HS := hideL (HS.out.next hB); (try clear c0 c1 d0 d1); have c0 := HS.out.ba.c0; have c1 := HS.out.ba.c1; have d0 := HS.out.bb.c0; have d1 := HS.out.bb.c1; clear hB))
    | (go_at_call 9; first
      | (with_reducible refine (LW.out _).mono ?_; rintro e wx ⟨rfl, hB⟩; replace HS := hideL (HS.out.next hB); (try clear c0 c1 d0 d1); have c0 := HS.out.ba.c0; have c1 := HS.out.ba.c1; have d0 := HS.out.bb.c0; have d1 := HS.out.bb.c1; clear hB))
    | (go_at_call 19; first
      | (with_reducible refine (PA.out _).mono ?_; rintro e wx ⟨rfl, hB⟩; replace HS := hideL (HS.out.next hB); (try clear c0 c1 d0 d1); have c0 := HS.out.ba.c0; have c1 := HS.out.ba.c1; have d0 := HS.out.bb.c0; have d1 := HS.out.bb.c1; clear hB)
      | (with_reducible refine (PB.out _).mono ?_; rintro e wx ⟨rfl, hB⟩; replace HS := hideL (HS.out.next hB); (try clear c0 c1 d0 d1); have c0 := HS.out.ba.c0; have c1 := HS.out.ba.c1; have d0 := HS.out.bb.c0; have d1 := HS.out.bb.c1; clear hB))
    | (go_at_call 21; first
      | (with_reducible refine (LX.out _).mono ?_; rintro e wp ⟨rfl, hB⟩; replace HS := hideL ((HS.out.next hB).next ((Below.refl _ _).alloc (Nat.le_refl _) (.cells #[.int .i64 ka, .string ta] 23))); have HA := hideL (TBox.new wp (ka) ta); (try clear c0 c1 d0 d1); have c0 := HS.out.ba.c0; have c1 := HS.out.ba.c1; have d0 := HS.out.bb.c0; have d1 := HS.out.bb.c1; clear hB)
      | (with_reducible refine (LS.out _).mono ?_; rintro e wt ⟨rfl, hB⟩; replace HS := hideL ((HS.out.next hB).next ((Below.refl _ _).alloc (Nat.le_refl _) (.cells #[.int .i64 0, .string ⟨#[]⟩] 23))); have HT := hideL (TBox.new wt (0) ⟨#[]⟩); (try clear c0 c1 d0 d1); have c0 := HS.out.ba.c0; have c1 := HS.out.ba.c1; have d0 := HS.out.bb.c0; have d1 := HS.out.bb.c1; clear hB)))
  go_ret
  exact ⟨rfl, HS.out.be⟩
set_option maxRecDepth 100000 in
set_option maxHeartbeats 2000000 in
theorem back_tvs (a b : Tm) (s : ByteArray) (w : World) (ha : a.t.size ≤ maxLen) (hb : b.t.size ≤ maxLen) (hs : s.size ≤ maxLen) (hL : longM s [a, b] = false) (hPA : mayM a = true) (hPB : mayM b = true) (hne : a ≠ b) (hkk : (a.k == b.k) = true) (q : Tm) (hq : parM s.data.toList = some q) : Calls Try.prog 7 #[.agg #[.int .i64 a.k, .string a.t], .agg #[.int .i64 b.k, .string b.t], .string s] w (LawPost w) := by
  unfold maxLen at *
  have LW := hideL awake_any
  have HS := hideL (S2.new w a b)
  have LL0 := long_row s [a, b] ((w.alloc (.cells #[.int .i64 a.k, .string a.t] 23)).alloc (.cells #[.int .i64 b.k, .string b.t] 23)) (show 2 ≤ maxLen by decide)
  have LL : HidL (Calls Try.prog 8 #[.string s, .slice (some ⟨w.heap.size + 1 + 1, 0, none⟩) 2 2] (((w.alloc (.cells #[.int .i64 a.k, .string a.t] 23)).alloc (.cells #[.int .i64 b.k, .string b.t] 23)).alloc (.cells #[.int .i64 a.k, .string a.t, .int .i64 b.k, .string b.t] 23)) (fun e w' => e = .returned (.bool (longM s [a, b])) ∧ Below ((w.alloc (.cells #[.int .i64 a.k, .string a.t] 23)).alloc (.cells #[.int .i64 b.k, .string b.t] 23)).heap.size ((w.alloc (.cells #[.int .i64 a.k, .string a.t] 23)).alloc (.cells #[.int .i64 b.k, .string b.t] 23)) w')) := hideL (by rw [World.size_alloc, World.size_alloc] at LL0; rw [World.size_alloc, World.size_alloc]; exact LL0)
  clear LL0
  rw [hL] at LL
  have PA := hideL (print_any a (by omega))
  unfold prV at PA
  rw [hPA] at PA
  simp only [if_true] at PA
  have PB := hideL (print_any b (by omega))
  unfold prV at PB
  rw [hPB] at PB
  simp only [if_true] at PB
  have hpl := prK_len hPA
  have LX := hideL (parse_any (prM a) (by omega))
  unfold paV at LX
  rw [parM_of (s := (prM a).data.toList) hPA (bo_of _).symm] at LX
  simp only [Option.getD_some, Option.isSome_some, if_true] at LX
  have hpe : ((prM a).toList == (prM b).toList) = false := eqs_false fun h => hne (pr_one hPA hPB h)
  have htt : (a.t.toList == b.t.toList) = false := eqs_false fun h2 => hne (Tm.same (beq_iff_eq.1 hkk) (by rw [h2]))
  obtain ⟨X, hX⟩ : ∃ X, prM a = X := ⟨_, rfl⟩
  obtain ⟨Y, hY⟩ : ∃ Y, prM b = Y := ⟨_, rfl⟩
  rw [hX] at PA LX hpe
  rw [hY] at PB hpe
  clear hX hY hpl
  have LS := hideL (parse_any s (by omega))
  unfold paV at LS
  rw [hq] at LS
  simp only [Option.getD_some, Option.isSome_some, if_true] at LS
  obtain ⟨hqm, hqp⟩ := parM_some hq
  rw [bo_of] at hqp
  have hql := (mayM_bytes hqm).1
  rw [size_list] at hql
  have QP := hideL (print_any q (by omega))
  unfold prV at QP
  rw [hqm, hqp] at QP
  simp only [if_true] at QP
  have QM := hideL (may_any q (by omega))
  rw [hqm] at QM
  have hss : (s.toList == s.toList) = true := beq_self_eq_true _
  clear hqm hqp hql
  clear hq
  obtain ⟨kq, tq⟩ := q
  clear hL
  clear hPA
  clear hPB
  clear hne
  obtain ⟨ka, ta⟩ := a
  obtain ⟨kb, tb⟩ := b
  dsimp only at *
  go_enter Try.func7, Try.ntmps7
  go_wp2_with (first
    | (go_at_call 8; first
      | (with_reducible refine LL.out.mono ?_; rintro e wx ⟨rfl, hB⟩; replace HS := hideL (HS.out.next hB); (try clear c0 c1 d0 d1); have c0 := HS.out.ba.c0; have c1 := HS.out.ba.c1; have d0 := HS.out.bb.c0; have d1 := HS.out.bb.c1; clear hB))
    | (go_at_call 9; first
      | (with_reducible refine (LW.out _).mono ?_; rintro e wx ⟨rfl, hB⟩; replace HS := hideL (HS.out.next hB); (try clear c0 c1 d0 d1); have c0 := HS.out.ba.c0; have c1 := HS.out.ba.c1; have d0 := HS.out.bb.c0; have d1 := HS.out.bb.c1; clear hB))
    | (go_at_call 10; first
      | (with_reducible refine (QM.out _).mono ?_; rintro e wx ⟨rfl, hB⟩; replace HS := hideL (HS.out.next hB); (try clear c0 c1 d0 d1); have c0 := HS.out.ba.c0; have c1 := HS.out.ba.c1; have d0 := HS.out.bb.c0; have d1 := HS.out.bb.c1; (try clear q0 q1); replace HT := hideL (HT.out.next hB); have q0 := HT.out.c0; have q1 := HT.out.c1; clear hB))
    | (go_at_call 19; first
      | (with_reducible refine (PA.out _).mono ?_; rintro e wx ⟨rfl, hB⟩; replace HS := hideL (HS.out.next hB); (try clear c0 c1 d0 d1); have c0 := HS.out.ba.c0; have c1 := HS.out.ba.c1; have d0 := HS.out.bb.c0; have d1 := HS.out.bb.c1; clear hB)
      | (with_reducible refine (PB.out _).mono ?_; rintro e wx ⟨rfl, hB⟩; replace HS := hideL (HS.out.next hB); (try clear c0 c1 d0 d1); have c0 := HS.out.ba.c0; have c1 := HS.out.ba.c1; have d0 := HS.out.bb.c0; have d1 := HS.out.bb.c1; clear hB)
      | (with_reducible refine (QP.out _).mono ?_; rintro e wx ⟨rfl, hB⟩; replace HS := hideL (HS.out.next hB); (try clear c0 c1 d0 d1); have c0 := HS.out.ba.c0; have c1 := HS.out.ba.c1; have d0 := HS.out.bb.c0; have d1 := HS.out.bb.c1; (try clear q0 q1); replace HT := hideL (HT.out.next hB); have q0 := HT.out.c0; have q1 := HT.out.c1; clear hB))
    | (go_at_call 21; first
      | (with_reducible refine (LX.out _).mono ?_; rintro e wp ⟨rfl, hB⟩; replace HS := hideL ((HS.out.next hB).next ((Below.refl _ _).alloc (Nat.le_refl _) (.cells #[.int .i64 ka, .string ta] 23))); have HA := hideL (TBox.new wp (ka) ta); (try clear c0 c1 d0 d1); have c0 := HS.out.ba.c0; have c1 := HS.out.ba.c1; have d0 := HS.out.bb.c0; have d1 := HS.out.bb.c1; clear hB)
      | (with_reducible refine (LS.out _).mono ?_; rintro e wt ⟨rfl, hB⟩; replace HS := hideL ((HS.out.next hB).next ((Below.refl _ _).alloc (Nat.le_refl _) (.cells #[.int .i64 kq, .string tq] 23))); have HT := hideL (TBox.new wt (kq) tq); (try clear c0 c1 d0 d1); have c0 := HS.out.ba.c0; have c1 := HS.out.ba.c1; have d0 := HS.out.bb.c0; have d1 := HS.out.bb.c1; clear hB; have q0 := HT.out.c0; have q1 := HT.out.c1)))
  go_ret
  exact ⟨rfl, HS.out.be⟩
set_option maxRecDepth 100000 in
set_option maxHeartbeats 2000000 in
theorem back_tsn (a : Tm) (s : ByteArray) (w : World) (ha : a.t.size ≤ maxLen) (hs : s.size ≤ maxLen) (hL : longM s [a, a] = false) (hPA : mayM a = true) (hq : parM s.data.toList = none) : Calls Try.prog 7 #[.agg #[.int .i64 a.k, .string a.t], .agg #[.int .i64 a.k, .string a.t], .string s] w (LawPost w) := by
  unfold maxLen at *
  have LW := hideL awake_any
  have HS := hideL (S2.new w a a)
  have LL0 := long_row s [a, a] ((w.alloc (.cells #[.int .i64 a.k, .string a.t] 23)).alloc (.cells #[.int .i64 a.k, .string a.t] 23)) (show 2 ≤ maxLen by decide)
  have LL : HidL (Calls Try.prog 8 #[.string s, .slice (some ⟨w.heap.size + 1 + 1, 0, none⟩) 2 2] (((w.alloc (.cells #[.int .i64 a.k, .string a.t] 23)).alloc (.cells #[.int .i64 a.k, .string a.t] 23)).alloc (.cells #[.int .i64 a.k, .string a.t, .int .i64 a.k, .string a.t] 23)) (fun e w' => e = .returned (.bool (longM s [a, a])) ∧ Below ((w.alloc (.cells #[.int .i64 a.k, .string a.t] 23)).alloc (.cells #[.int .i64 a.k, .string a.t] 23)).heap.size ((w.alloc (.cells #[.int .i64 a.k, .string a.t] 23)).alloc (.cells #[.int .i64 a.k, .string a.t] 23)) w')) := hideL (by rw [World.size_alloc, World.size_alloc] at LL0; rw [World.size_alloc, World.size_alloc]; exact LL0)
  clear LL0
  rw [hL] at LL
  have PA := hideL (print_any a (by omega))
  unfold prV at PA
  rw [hPA] at PA
  simp only [if_true] at PA
  have hpl := prK_len hPA
  have LX := hideL (parse_any (prM a) (by omega))
  unfold paV at LX
  rw [parM_of (s := (prM a).data.toList) hPA (bo_of _).symm] at LX
  simp only [Option.getD_some, Option.isSome_some, if_true] at LX
  obtain ⟨X, hX⟩ : ∃ X, prM a = X := ⟨_, rfl⟩
  rw [hX] at PA LX
  clear hX hpl
  have LS := hideL (parse_any s (by omega))
  unfold paV at LS
  rw [hq] at LS
  simp only [Option.getD_none, Option.isSome_none, Bool.false_eq_true, if_false] at LS
  rw [show (default : Tm).k = 0 from rfl, show (default : Tm).t = ⟨#[]⟩ from rfl] at LS
  clear hL
  clear hPA
  clear hq
  obtain ⟨ka, ta⟩ := a
  dsimp only at *
  go_enter Try.func7, Try.ntmps7
  go_wp2_with (first
    | (go_at_call 8; first
      | (with_reducible refine LL.out.mono ?_; rintro e wx ⟨rfl, hB⟩; replace HS := hideL (HS.out.next hB); (try clear c0 c1 d0 d1); have c0 := HS.out.ba.c0; have c1 := HS.out.ba.c1; have d0 := HS.out.bb.c0; have d1 := HS.out.bb.c1; clear hB))
    | (go_at_call 9; first
      | (with_reducible refine (LW.out _).mono ?_; rintro e wx ⟨rfl, hB⟩; replace HS := hideL (HS.out.next hB); (try clear c0 c1 d0 d1); have c0 := HS.out.ba.c0; have c1 := HS.out.ba.c1; have d0 := HS.out.bb.c0; have d1 := HS.out.bb.c1; clear hB))
    | (go_at_call 19; first
      | (with_reducible refine (PA.out _).mono ?_; rintro e wx ⟨rfl, hB⟩; replace HS := hideL (HS.out.next hB); (try clear c0 c1 d0 d1); have c0 := HS.out.ba.c0; have c1 := HS.out.ba.c1; have d0 := HS.out.bb.c0; have d1 := HS.out.bb.c1; clear hB))
    | (go_at_call 21; first
      | (with_reducible refine (LX.out _).mono ?_; rintro e wp ⟨rfl, hB⟩; replace HS := hideL ((HS.out.next hB).next ((Below.refl _ _).alloc (Nat.le_refl _) (.cells #[.int .i64 ka, .string ta] 23))); have HA := hideL (TBox.new wp (ka) ta); (try clear c0 c1 d0 d1); have c0 := HS.out.ba.c0; have c1 := HS.out.ba.c1; have d0 := HS.out.bb.c0; have d1 := HS.out.bb.c1; clear hB)
      | (with_reducible refine (LS.out _).mono ?_; rintro e wt ⟨rfl, hB⟩; replace HS := hideL ((HS.out.next hB).next ((Below.refl _ _).alloc (Nat.le_refl _) (.cells #[.int .i64 0, .string ⟨#[]⟩] 23))); have HT := hideL (TBox.new wt (0) ⟨#[]⟩); (try clear c0 c1 d0 d1); have c0 := HS.out.ba.c0; have c1 := HS.out.ba.c1; have d0 := HS.out.bb.c0; have d1 := HS.out.bb.c1; clear hB)))
  go_ret
  exact ⟨rfl, HS.out.be⟩
set_option maxRecDepth 100000 in
set_option maxHeartbeats 2000000 in
theorem back_tss (a : Tm) (s : ByteArray) (w : World) (ha : a.t.size ≤ maxLen) (hs : s.size ≤ maxLen) (hL : longM s [a, a] = false) (hPA : mayM a = true) (q : Tm) (hq : parM s.data.toList = some q) : Calls Try.prog 7 #[.agg #[.int .i64 a.k, .string a.t], .agg #[.int .i64 a.k, .string a.t], .string s] w (LawPost w) := by
  unfold maxLen at *
  have LW := hideL awake_any
  have HS := hideL (S2.new w a a)
  have LL0 := long_row s [a, a] ((w.alloc (.cells #[.int .i64 a.k, .string a.t] 23)).alloc (.cells #[.int .i64 a.k, .string a.t] 23)) (show 2 ≤ maxLen by decide)
  have LL : HidL (Calls Try.prog 8 #[.string s, .slice (some ⟨w.heap.size + 1 + 1, 0, none⟩) 2 2] (((w.alloc (.cells #[.int .i64 a.k, .string a.t] 23)).alloc (.cells #[.int .i64 a.k, .string a.t] 23)).alloc (.cells #[.int .i64 a.k, .string a.t, .int .i64 a.k, .string a.t] 23)) (fun e w' => e = .returned (.bool (longM s [a, a])) ∧ Below ((w.alloc (.cells #[.int .i64 a.k, .string a.t] 23)).alloc (.cells #[.int .i64 a.k, .string a.t] 23)).heap.size ((w.alloc (.cells #[.int .i64 a.k, .string a.t] 23)).alloc (.cells #[.int .i64 a.k, .string a.t] 23)) w')) := hideL (by rw [World.size_alloc, World.size_alloc] at LL0; rw [World.size_alloc, World.size_alloc]; exact LL0)
  clear LL0
  rw [hL] at LL
  have PA := hideL (print_any a (by omega))
  unfold prV at PA
  rw [hPA] at PA
  simp only [if_true] at PA
  have hpl := prK_len hPA
  have LX := hideL (parse_any (prM a) (by omega))
  unfold paV at LX
  rw [parM_of (s := (prM a).data.toList) hPA (bo_of _).symm] at LX
  simp only [Option.getD_some, Option.isSome_some, if_true] at LX
  obtain ⟨X, hX⟩ : ∃ X, prM a = X := ⟨_, rfl⟩
  rw [hX] at PA LX
  clear hX hpl
  have LS := hideL (parse_any s (by omega))
  unfold paV at LS
  rw [hq] at LS
  simp only [Option.getD_some, Option.isSome_some, if_true] at LS
  obtain ⟨hqm, hqp⟩ := parM_some hq
  rw [bo_of] at hqp
  have hql := (mayM_bytes hqm).1
  rw [size_list] at hql
  have QP := hideL (print_any q (by omega))
  unfold prV at QP
  rw [hqm, hqp] at QP
  simp only [if_true] at QP
  have QM := hideL (may_any q (by omega))
  rw [hqm] at QM
  have hss : (s.toList == s.toList) = true := beq_self_eq_true _
  clear hqm hqp hql
  clear hq
  obtain ⟨kq, tq⟩ := q
  clear hL
  clear hPA
  obtain ⟨ka, ta⟩ := a
  dsimp only at *
  go_enter Try.func7, Try.ntmps7
  go_wp2_with (first
    | (go_at_call 8; first
      | (with_reducible refine LL.out.mono ?_; rintro e wx ⟨rfl, hB⟩; replace HS := hideL (HS.out.next hB); (try clear c0 c1 d0 d1); have c0 := HS.out.ba.c0; have c1 := HS.out.ba.c1; have d0 := HS.out.bb.c0; have d1 := HS.out.bb.c1; clear hB))
    | (go_at_call 9; first
      | (with_reducible refine (LW.out _).mono ?_; rintro e wx ⟨rfl, hB⟩; replace HS := hideL (HS.out.next hB); (try clear c0 c1 d0 d1); have c0 := HS.out.ba.c0; have c1 := HS.out.ba.c1; have d0 := HS.out.bb.c0; have d1 := HS.out.bb.c1; clear hB))
    | (go_at_call 10; first
      | (with_reducible refine (QM.out _).mono ?_; rintro e wx ⟨rfl, hB⟩; replace HS := hideL (HS.out.next hB); (try clear c0 c1 d0 d1); have c0 := HS.out.ba.c0; have c1 := HS.out.ba.c1; have d0 := HS.out.bb.c0; have d1 := HS.out.bb.c1; (try clear q0 q1); replace HT := hideL (HT.out.next hB); have q0 := HT.out.c0; have q1 := HT.out.c1; clear hB))
    | (go_at_call 19; first
      | (with_reducible refine (PA.out _).mono ?_; rintro e wx ⟨rfl, hB⟩; replace HS := hideL (HS.out.next hB); (try clear c0 c1 d0 d1); have c0 := HS.out.ba.c0; have c1 := HS.out.ba.c1; have d0 := HS.out.bb.c0; have d1 := HS.out.bb.c1; clear hB)
      | (with_reducible refine (QP.out _).mono ?_; rintro e wx ⟨rfl, hB⟩; replace HS := hideL (HS.out.next hB); (try clear c0 c1 d0 d1); have c0 := HS.out.ba.c0; have c1 := HS.out.ba.c1; have d0 := HS.out.bb.c0; have d1 := HS.out.bb.c1; (try clear q0 q1); replace HT := hideL (HT.out.next hB); have q0 := HT.out.c0; have q1 := HT.out.c1; clear hB))
    | (go_at_call 21; first
      | (with_reducible refine (LX.out _).mono ?_; rintro e wp ⟨rfl, hB⟩; replace HS := hideL ((HS.out.next hB).next ((Below.refl _ _).alloc (Nat.le_refl _) (.cells #[.int .i64 ka, .string ta] 23))); have HA := hideL (TBox.new wp (ka) ta); (try clear c0 c1 d0 d1); have c0 := HS.out.ba.c0; have c1 := HS.out.ba.c1; have d0 := HS.out.bb.c0; have d1 := HS.out.bb.c1; clear hB)
      | (with_reducible refine (LS.out _).mono ?_; rintro e wt ⟨rfl, hB⟩; replace HS := hideL ((HS.out.next hB).next ((Below.refl _ _).alloc (Nat.le_refl _) (.cells #[.int .i64 kq, .string tq] 23))); have HT := hideL (TBox.new wt (kq) tq); (try clear c0 c1 d0 d1); have c0 := HS.out.ba.c0; have c1 := HS.out.ba.c1; have d0 := HS.out.bb.c0; have d1 := HS.out.bb.c1; clear hB; have q0 := HT.out.c0; have q1 := HT.out.c1)))
  go_ret
  exact ⟨rfl, HS.out.be⟩
theorem matchBack_walk (a b : Tm) (s : ByteArray) (w : World) (ha : a.t.size ≤ maxLen) (hb : b.t.size ≤ maxLen) (hs : s.size ≤ maxLen) : Calls Try.prog 7 #[.agg #[.int .i64 a.k, .string a.t], .agg #[.int .i64 b.k, .string b.t], .string s] w (LawPost w) := by
  cases hL : longM s [a, b] with
  | true => exact back_long a b s w ha hb hs hL
  | false =>
    cases hPA : mayM a with
    | false =>
      cases hPB : mayM b with
      | false =>
        cases hq : parM s.data.toList with
        | none => exact back_ffn a b s w ha hb hs hL hPA hPB hq
        | some q => exact back_ffs a b s w ha hb hs hL hPA hPB q hq
      | true =>
        cases hq : parM s.data.toList with
        | none => exact back_ftn a b s w ha hb hs hL hPA hPB hq
        | some q => exact back_fts a b s w ha hb hs hL hPA hPB q hq
    | true =>
      cases hPB : mayM b with
      | false =>
        cases hq : parM s.data.toList with
        | none => exact back_tfn a b s w ha hb hs hL hPA hPB hq
        | some q => exact back_tfs a b s w ha hb hs hL hPA hPB q hq
      | true =>
        by_cases hne : a = b
        · subst hne
          cases hq : parM s.data.toList with
          | none => exact back_tsn a s w ha hs hL hPA hq
          | some q => exact back_tss a s w ha hs hL hPA q hq
        · cases hkk : (a.k == b.k) with
          | false =>
            cases hq : parM s.data.toList with
            | none => exact back_ttn a b s w ha hb hs hL hPA hPB hne hkk hq
            | some q => exact back_tts a b s w ha hb hs hL hPA hPB hne hkk q hq
          | true =>
            cases hq : parM s.data.toList with
            | none => exact back_tvn a b s w ha hb hs hL hPA hPB hne hkk hq
            | some q => exact back_tvs a b s w ha hb hs hL hPA hPB hne hkk q hq
end Go.Proofs.Ytffbmkocmjpmeaa
