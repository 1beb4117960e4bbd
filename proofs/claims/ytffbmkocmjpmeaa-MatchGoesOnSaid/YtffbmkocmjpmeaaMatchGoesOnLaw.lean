/- The law MatchGoesOn (P7.6). -/
import Derived.Test.YtffbmkocmjpmeaaMtLaw
namespace Go.Proofs.Ytffbmkocmjpmeaa
open Go.RowKit

set_option maxRecDepth 100000 in
set_option maxHeartbeats 2000000 in
theorem goesOn_long (a b c : Tm) (s : ByteArray) (w : World) (ha : a.t.size ≤ maxLen) (hb : b.t.size ≤ maxLen) (hc : c.t.size ≤ maxLen) (_ : s.size ≤ maxLen) (hL : longM s [a, b, c] = true) : Calls Try.prog 5 #[.agg #[.int .i64 a.k, .string a.t], .agg #[.int .i64 b.k, .string b.t], .agg #[.int .i64 c.k, .string c.t], .string s] w (LawPost w) := by
  unfold maxLen at *
  have LW := hideL awake_any
  have HS := hideL (S3.new w a b c)
  have LL0 := long_row s [a, b, c] (((w.alloc (.cells #[.int .i64 a.k, .string a.t] 23)).alloc (.cells #[.int .i64 b.k, .string b.t] 23)).alloc (.cells #[.int .i64 c.k, .string c.t] 23)) (show 3 ≤ maxLen by decide)
  have LL : HidL (Calls Try.prog 8 #[.string s, .slice (some ⟨w.heap.size + 1 + 1 + 1, 0, none⟩) 3 3] ((((w.alloc (.cells #[.int .i64 a.k, .string a.t] 23)).alloc (.cells #[.int .i64 b.k, .string b.t] 23)).alloc (.cells #[.int .i64 c.k, .string c.t] 23)).alloc (.cells #[.int .i64 a.k, .string a.t, .int .i64 b.k, .string b.t, .int .i64 c.k, .string c.t] 23)) (fun e w' => e = .returned (.bool (longM s [a, b, c])) ∧ Below (((w.alloc (.cells #[.int .i64 a.k, .string a.t] 23)).alloc (.cells #[.int .i64 b.k, .string b.t] 23)).alloc (.cells #[.int .i64 c.k, .string c.t] 23)).heap.size (((w.alloc (.cells #[.int .i64 a.k, .string a.t] 23)).alloc (.cells #[.int .i64 b.k, .string b.t] 23)).alloc (.cells #[.int .i64 c.k, .string c.t] 23)) w')) := hideL (by rw [World.size_alloc, World.size_alloc, World.size_alloc] at LL0; rw [World.size_alloc, World.size_alloc, World.size_alloc]; exact LL0)
  clear LL0
  rw [hL] at LL
  clear hL
  obtain ⟨ka, ta⟩ := a
  obtain ⟨kb, tb⟩ := b
  obtain ⟨kc, tc⟩ := c
  dsimp only at *
  go_enter Try.func5, Try.ntmps5
  go_wp2_with (first
    | (go_at_call 8; first
      | (with_reducible refine LL.out.mono ?_; rintro e wx ⟨rfl, hB⟩; replace HS := hideL (HS.out.next hB); (try clear c0 c1 d0 d1 e0 e1); have c0 := HS.out.ba.c0; have c1 := HS.out.ba.c1; have d0 := HS.out.bb.c0; have d1 := HS.out.bb.c1; have e0 := HS.out.bc.c0; have e1 := HS.out.bc.c1; clear hB))
    | (go_at_call 9; first
      | (with_reducible refine (LW.out _).mono ?_; rintro e wx ⟨rfl, hB⟩; replace HS := hideL (HS.out.next hB); (try clear c0 c1 d0 d1 e0 e1); have c0 := HS.out.ba.c0; have c1 := HS.out.ba.c1; have d0 := HS.out.bb.c0; have d1 := HS.out.bb.c1; have e0 := HS.out.bc.c0; have e1 := HS.out.bc.c1; clear hB)))
  go_ret
  exact ⟨rfl, HS.out.be⟩
set_option maxRecDepth 100000 in
set_option maxHeartbeats 2000000 in
theorem goesOn_Ff (a b c : Tm) (s : ByteArray) (w : World) (ha : a.t.size ≤ maxLen) (hb : b.t.size ≤ maxLen) (hc : c.t.size ≤ maxLen) (_ : s.size ≤ maxLen) (hL : longM s [a, b, c] = false) (hab : impM a b = false) (hma : mayM a = true) (hmb : mayM b = false) : Calls Try.prog 5 #[.agg #[.int .i64 a.k, .string a.t], .agg #[.int .i64 b.k, .string b.t], .agg #[.int .i64 c.k, .string c.t], .string s] w (LawPost w) := by
  unfold maxLen at *
  have LW := hideL awake_any
  have HS := hideL (S3.new w a b c)
  have LL0 := long_row s [a, b, c] (((w.alloc (.cells #[.int .i64 a.k, .string a.t] 23)).alloc (.cells #[.int .i64 b.k, .string b.t] 23)).alloc (.cells #[.int .i64 c.k, .string c.t] 23)) (show 3 ≤ maxLen by decide)
  have LL : HidL (Calls Try.prog 8 #[.string s, .slice (some ⟨w.heap.size + 1 + 1 + 1, 0, none⟩) 3 3] ((((w.alloc (.cells #[.int .i64 a.k, .string a.t] 23)).alloc (.cells #[.int .i64 b.k, .string b.t] 23)).alloc (.cells #[.int .i64 c.k, .string c.t] 23)).alloc (.cells #[.int .i64 a.k, .string a.t, .int .i64 b.k, .string b.t, .int .i64 c.k, .string c.t] 23)) (fun e w' => e = .returned (.bool (longM s [a, b, c])) ∧ Below (((w.alloc (.cells #[.int .i64 a.k, .string a.t] 23)).alloc (.cells #[.int .i64 b.k, .string b.t] 23)).alloc (.cells #[.int .i64 c.k, .string c.t] 23)).heap.size (((w.alloc (.cells #[.int .i64 a.k, .string a.t] 23)).alloc (.cells #[.int .i64 b.k, .string b.t] 23)).alloc (.cells #[.int .i64 c.k, .string c.t] 23)) w')) := hideL (by rw [World.size_alloc, World.size_alloc, World.size_alloc] at LL0; rw [World.size_alloc, World.size_alloc, World.size_alloc]; exact LL0)
  clear LL0
  rw [hL] at LL
  have IAB := hideL (implies_any a b (by omega) (by omega))
  rw [hab] at IAB
  have IAA := hideL (implies_any a a (by omega) (by omega))
  rw [imp_self] at IAA
  have YA := hideL (may_any a (by omega))
  rw [hma] at YA
  have YB := hideL (may_any b (by omega))
  rw [hmb] at YB
  have LB := hideL (beside_any a b (by omega) (by omega))
  unfold beV at LB
  obtain ⟨S, hS⟩ : ∃ S, besM a b = some S := by
    have h := imp_bes a b
    rw [hab] at h
    cases hb : besM a b with
    | none => rw [hb] at h; cases h
    | some S => exact ⟨S, rfl⟩
  rw [hS] at LB
  obtain ⟨hs1, hs2, hs3, hs4⟩ := besM_some hS
  simp only [Option.getD_some, Option.isSome_some] at LB
  obtain ⟨T, hT⟩ : ∃ T, bo S = T := ⟨_, rfl⟩
  have hTl : T.data.toList = S := by rw [← hT]; rfl
  have hTs : T.size ≤ 66 := by rw [← hT, bo_size]; exact hs3
  rw [hT] at LB
  have MAT := hideL (matches_any a T (by omega) (by omega))
  have MBT := hideL (matches_any b T (by omega) (by omega))
  rw [hTl, hs1] at MAT
  rw [hTl, hs2] at MBT
  clear hS hs1 hs2 hs3 hs4 hT hTl hTs S
  clear hL
  clear hab
  clear hma
  clear hmb
  obtain ⟨ka, ta⟩ := a
  obtain ⟨kb, tb⟩ := b
  obtain ⟨kc, tc⟩ := c
  dsimp only at *
  go_enter Try.func5, Try.ntmps5
  go_wp2_with (first
    | (go_at_call 8; first
      | (with_reducible refine LL.out.mono ?_; rintro e wx ⟨rfl, hB⟩; replace HS := hideL (HS.out.next hB); (try clear c0 c1 d0 d1 e0 e1); have c0 := HS.out.ba.c0; have c1 := HS.out.ba.c1; have d0 := HS.out.bb.c0; have d1 := HS.out.bb.c1; have e0 := HS.out.bc.c0; have e1 := HS.out.bc.c1; clear hB))
    | (go_at_call 25; first
      | (with_reducible refine (IAB.out _).mono ?_; rintro e wx ⟨rfl, hB⟩; replace HS := hideL (HS.out.next hB); (try clear c0 c1 d0 d1 e0 e1); have c0 := HS.out.ba.c0; have c1 := HS.out.ba.c1; have d0 := HS.out.bb.c0; have d1 := HS.out.bb.c1; have e0 := HS.out.bc.c0; have e1 := HS.out.bc.c1; clear hB)
      | (with_reducible refine (IAA.out _).mono ?_; rintro e wx ⟨rfl, hB⟩; replace HS := hideL (HS.out.next hB); (try clear c0 c1 d0 d1 e0 e1); have c0 := HS.out.ba.c0; have c1 := HS.out.ba.c1; have d0 := HS.out.bb.c0; have d1 := HS.out.bb.c1; have e0 := HS.out.bc.c0; have e1 := HS.out.bc.c1; clear hB))
    | (go_at_call 10; first
      | (with_reducible refine (YA.out _).mono ?_; rintro e wx ⟨rfl, hB⟩; replace HS := hideL (HS.out.next hB); (try clear c0 c1 d0 d1 e0 e1); have c0 := HS.out.ba.c0; have c1 := HS.out.ba.c1; have d0 := HS.out.bb.c0; have d1 := HS.out.bb.c1; have e0 := HS.out.bc.c0; have e1 := HS.out.bc.c1; clear hB)
      | (with_reducible refine (YB.out _).mono ?_; rintro e wx ⟨rfl, hB⟩; replace HS := hideL (HS.out.next hB); (try clear c0 c1 d0 d1 e0 e1); have c0 := HS.out.ba.c0; have c1 := HS.out.ba.c1; have d0 := HS.out.bb.c0; have d1 := HS.out.bb.c1; have e0 := HS.out.bc.c0; have e1 := HS.out.bc.c1; clear hB))
    | (go_at_call 24; first
      | (with_reducible refine (LB.out _).mono ?_; rintro e wx ⟨rfl, hB⟩; replace HS := hideL (HS.out.next hB); (try clear c0 c1 d0 d1 e0 e1); have c0 := HS.out.ba.c0; have c1 := HS.out.ba.c1; have d0 := HS.out.bb.c0; have d1 := HS.out.bb.c1; have e0 := HS.out.bc.c0; have e1 := HS.out.bc.c1; clear hB))
    | (go_at_call 14; first
      | (with_reducible refine (MAT.out _).mono ?_; rintro e wx ⟨rfl, hB⟩; replace HS := hideL (HS.out.next hB); (try clear c0 c1 d0 d1 e0 e1); have c0 := HS.out.ba.c0; have c1 := HS.out.ba.c1; have d0 := HS.out.bb.c0; have d1 := HS.out.bb.c1; have e0 := HS.out.bc.c0; have e1 := HS.out.bc.c1; clear hB)
      | (with_reducible refine (MBT.out _).mono ?_; rintro e wx ⟨rfl, hB⟩; replace HS := hideL (HS.out.next hB); (try clear c0 c1 d0 d1 e0 e1); have c0 := HS.out.ba.c0; have c1 := HS.out.ba.c1; have d0 := HS.out.bb.c0; have d1 := HS.out.bb.c1; have e0 := HS.out.bc.c0; have e1 := HS.out.bc.c1; clear hB))
    | (go_at_call 9; first
      | (with_reducible refine (LW.out _).mono ?_; rintro e wx ⟨rfl, hB⟩; replace HS := hideL (HS.out.next hB); (try clear c0 c1 d0 d1 e0 e1); have c0 := HS.out.ba.c0; have c1 := HS.out.ba.c1; have d0 := HS.out.bb.c0; have d1 := HS.out.bb.c1; have e0 := HS.out.bc.c0; have e1 := HS.out.bc.c1; clear hB)))
  go_ret
  exact ⟨rfl, HS.out.be⟩
set_option maxRecDepth 100000 in
set_option maxHeartbeats 2000000 in
theorem goesOn_Ft (a b c : Tm) (s : ByteArray) (w : World) (ha : a.t.size ≤ maxLen) (hb : b.t.size ≤ maxLen) (hc : c.t.size ≤ maxLen) (_ : s.size ≤ maxLen) (hL : longM s [a, b, c] = false) (hab : impM a b = false) (hma : mayM a = true) (hmb : mayM b = true) : Calls Try.prog 5 #[.agg #[.int .i64 a.k, .string a.t], .agg #[.int .i64 b.k, .string b.t], .agg #[.int .i64 c.k, .string c.t], .string s] w (LawPost w) := by
  unfold maxLen at *
  have LW := hideL awake_any
  have HS := hideL (S3.new w a b c)
  have LL0 := long_row s [a, b, c] (((w.alloc (.cells #[.int .i64 a.k, .string a.t] 23)).alloc (.cells #[.int .i64 b.k, .string b.t] 23)).alloc (.cells #[.int .i64 c.k, .string c.t] 23)) (show 3 ≤ maxLen by decide)
  have LL : HidL (Calls Try.prog 8 #[.string s, .slice (some ⟨w.heap.size + 1 + 1 + 1, 0, none⟩) 3 3] ((((w.alloc (.cells #[.int .i64 a.k, .string a.t] 23)).alloc (.cells #[.int .i64 b.k, .string b.t] 23)).alloc (.cells #[.int .i64 c.k, .string c.t] 23)).alloc (.cells #[.int .i64 a.k, .string a.t, .int .i64 b.k, .string b.t, .int .i64 c.k, .string c.t] 23)) (fun e w' => e = .returned (.bool (longM s [a, b, c])) ∧ Below (((w.alloc (.cells #[.int .i64 a.k, .string a.t] 23)).alloc (.cells #[.int .i64 b.k, .string b.t] 23)).alloc (.cells #[.int .i64 c.k, .string c.t] 23)).heap.size (((w.alloc (.cells #[.int .i64 a.k, .string a.t] 23)).alloc (.cells #[.int .i64 b.k, .string b.t] 23)).alloc (.cells #[.int .i64 c.k, .string c.t] 23)) w')) := hideL (by rw [World.size_alloc, World.size_alloc, World.size_alloc] at LL0; rw [World.size_alloc, World.size_alloc, World.size_alloc]; exact LL0)
  clear LL0
  rw [hL] at LL
  have IAB := hideL (implies_any a b (by omega) (by omega))
  rw [hab] at IAB
  have IAA := hideL (implies_any a a (by omega) (by omega))
  rw [imp_self] at IAA
  have YA := hideL (may_any a (by omega))
  rw [hma] at YA
  have YB := hideL (may_any b (by omega))
  rw [hmb] at YB
  have LB := hideL (beside_any a b (by omega) (by omega))
  unfold beV at LB
  obtain ⟨S, hS⟩ : ∃ S, besM a b = some S := by
    have h := imp_bes a b
    rw [hab] at h
    cases hb : besM a b with
    | none => rw [hb] at h; cases h
    | some S => exact ⟨S, rfl⟩
  rw [hS] at LB
  obtain ⟨hs1, hs2, hs3, hs4⟩ := besM_some hS
  simp only [Option.getD_some, Option.isSome_some] at LB
  obtain ⟨T, hT⟩ : ∃ T, bo S = T := ⟨_, rfl⟩
  have hTl : T.data.toList = S := by rw [← hT]; rfl
  have hTs : T.size ≤ 66 := by rw [← hT, bo_size]; exact hs3
  rw [hT] at LB
  have MAT := hideL (matches_any a T (by omega) (by omega))
  have MBT := hideL (matches_any b T (by omega) (by omega))
  rw [hTl, hs1] at MAT
  rw [hTl, hs2] at MBT
  clear hS hs1 hs2 hs3 hs4 hT hTl hTs S
  clear hL
  clear hab
  clear hma
  clear hmb
  obtain ⟨ka, ta⟩ := a
  obtain ⟨kb, tb⟩ := b
  obtain ⟨kc, tc⟩ := c
  dsimp only at *
  go_enter Try.func5, Try.ntmps5
  go_wp2_with (first
    | (go_at_call 8; first
      | (with_reducible refine LL.out.mono ?_; rintro e wx ⟨rfl, hB⟩; replace HS := hideL (HS.out.next hB); (try clear c0 c1 d0 d1 e0 e1); have c0 := HS.out.ba.c0; have c1 := HS.out.ba.c1; have d0 := HS.out.bb.c0; have d1 := HS.out.bb.c1; have e0 := HS.out.bc.c0; have e1 := HS.out.bc.c1; clear hB))
    | (go_at_call 25; first
      | (with_reducible refine (IAB.out _).mono ?_; rintro e wx ⟨rfl, hB⟩; replace HS := hideL (HS.out.next hB); (try clear c0 c1 d0 d1 e0 e1); have c0 := HS.out.ba.c0; have c1 := HS.out.ba.c1; have d0 := HS.out.bb.c0; have d1 := HS.out.bb.c1; have e0 := HS.out.bc.c0; have e1 := HS.out.bc.c1; clear hB)
      | (with_reducible refine (IAA.out _).mono ?_; rintro e wx ⟨rfl, hB⟩; replace HS := hideL (HS.out.next hB); (try clear c0 c1 d0 d1 e0 e1); have c0 := HS.out.ba.c0; have c1 := HS.out.ba.c1; have d0 := HS.out.bb.c0; have d1 := HS.out.bb.c1; have e0 := HS.out.bc.c0; have e1 := HS.out.bc.c1; clear hB))
    | (go_at_call 10; first
      | (with_reducible refine (YA.out _).mono ?_; rintro e wx ⟨rfl, hB⟩; replace HS := hideL (HS.out.next hB); (try clear c0 c1 d0 d1 e0 e1); have c0 := HS.out.ba.c0; have c1 := HS.out.ba.c1; have d0 := HS.out.bb.c0; have d1 := HS.out.bb.c1; have e0 := HS.out.bc.c0; have e1 := HS.out.bc.c1; clear hB)
      | (with_reducible refine (YB.out _).mono ?_; rintro e wx ⟨rfl, hB⟩; replace HS := hideL (HS.out.next hB); (try clear c0 c1 d0 d1 e0 e1); have c0 := HS.out.ba.c0; have c1 := HS.out.ba.c1; have d0 := HS.out.bb.c0; have d1 := HS.out.bb.c1; have e0 := HS.out.bc.c0; have e1 := HS.out.bc.c1; clear hB))
    | (go_at_call 24; first
      | (with_reducible refine (LB.out _).mono ?_; rintro e wx ⟨rfl, hB⟩; replace HS := hideL (HS.out.next hB); (try clear c0 c1 d0 d1 e0 e1); have c0 := HS.out.ba.c0; have c1 := HS.out.ba.c1; have d0 := HS.out.bb.c0; have d1 := HS.out.bb.c1; have e0 := HS.out.bc.c0; have e1 := HS.out.bc.c1; clear hB))
    | (go_at_call 14; first
      | (with_reducible refine (MAT.out _).mono ?_; rintro e wx ⟨rfl, hB⟩; replace HS := hideL (HS.out.next hB); (try clear c0 c1 d0 d1 e0 e1); have c0 := HS.out.ba.c0; have c1 := HS.out.ba.c1; have d0 := HS.out.bb.c0; have d1 := HS.out.bb.c1; have e0 := HS.out.bc.c0; have e1 := HS.out.bc.c1; clear hB)
      | (with_reducible refine (MBT.out _).mono ?_; rintro e wx ⟨rfl, hB⟩; replace HS := hideL (HS.out.next hB); (try clear c0 c1 d0 d1 e0 e1); have c0 := HS.out.ba.c0; have c1 := HS.out.ba.c1; have d0 := HS.out.bb.c0; have d1 := HS.out.bb.c1; have e0 := HS.out.bc.c0; have e1 := HS.out.bc.c1; clear hB))
    | (go_at_call 9; first
      | (with_reducible refine (LW.out _).mono ?_; rintro e wx ⟨rfl, hB⟩; replace HS := hideL (HS.out.next hB); (try clear c0 c1 d0 d1 e0 e1); have c0 := HS.out.ba.c0; have c1 := HS.out.ba.c1; have d0 := HS.out.bb.c0; have d1 := HS.out.bb.c1; have e0 := HS.out.bc.c0; have e1 := HS.out.bc.c1; clear hB)))
  go_ret
  exact ⟨rfl, HS.out.be⟩
set_option maxRecDepth 100000 in
set_option maxHeartbeats 2000000 in
theorem goesOn_Tff1 (a b c : Tm) (s : ByteArray) (w : World) (ha : a.t.size ≤ maxLen) (hb : b.t.size ≤ maxLen) (hc : c.t.size ≤ maxLen) (hs : s.size ≤ maxLen) (hL : longM s [a, b, c] = false) (hab : impM a b = true) (hmas : matM a s.data.toList = false) (hbc : impM b c = false) (hma : mayM a = false) : Calls Try.prog 5 #[.agg #[.int .i64 a.k, .string a.t], .agg #[.int .i64 b.k, .string b.t], .agg #[.int .i64 c.k, .string c.t], .string s] w (LawPost w) := by
  unfold maxLen at *
  have LW := hideL awake_any
  have HS := hideL (S3.new w a b c)
  have LL0 := long_row s [a, b, c] (((w.alloc (.cells #[.int .i64 a.k, .string a.t] 23)).alloc (.cells #[.int .i64 b.k, .string b.t] 23)).alloc (.cells #[.int .i64 c.k, .string c.t] 23)) (show 3 ≤ maxLen by decide)
  have LL : HidL (Calls Try.prog 8 #[.string s, .slice (some ⟨w.heap.size + 1 + 1 + 1, 0, none⟩) 3 3] ((((w.alloc (.cells #[.int .i64 a.k, .string a.t] 23)).alloc (.cells #[.int .i64 b.k, .string b.t] 23)).alloc (.cells #[.int .i64 c.k, .string c.t] 23)).alloc (.cells #[.int .i64 a.k, .string a.t, .int .i64 b.k, .string b.t, .int .i64 c.k, .string c.t] 23)) (fun e w' => e = .returned (.bool (longM s [a, b, c])) ∧ Below (((w.alloc (.cells #[.int .i64 a.k, .string a.t] 23)).alloc (.cells #[.int .i64 b.k, .string b.t] 23)).alloc (.cells #[.int .i64 c.k, .string c.t] 23)).heap.size (((w.alloc (.cells #[.int .i64 a.k, .string a.t] 23)).alloc (.cells #[.int .i64 b.k, .string b.t] 23)).alloc (.cells #[.int .i64 c.k, .string c.t] 23)) w')) := hideL (by rw [World.size_alloc, World.size_alloc, World.size_alloc] at LL0; rw [World.size_alloc, World.size_alloc, World.size_alloc]; exact LL0)
  clear LL0
  rw [hL] at LL
  have IAB := hideL (implies_any a b (by omega) (by omega))
  rw [hab] at IAB
  have IAA := hideL (implies_any a a (by omega) (by omega))
  rw [imp_self] at IAA
  have MAS := hideL (matches_any a s (by omega) (by omega))
  rw [hmas] at MAS
  have IBC := hideL (implies_any b c (by omega) (by omega))
  rw [hbc] at IBC
  have YA := hideL (may_any a (by omega))
  rw [hma] at YA
  have LB := hideL (beside_any a b (by omega) (by omega))
  unfold beV at LB
  have hS : besM a b = none := by
    have h := imp_bes a b
    rw [hab] at h
    cases hb : besM a b with
    | none => rfl
    | some S => rw [hb] at h; cases h
  rw [hS] at LB
  simp only [Option.getD_none, Option.isSome_none] at LB
  clear hS
  clear hL
  clear hab
  clear hmas
  clear hbc
  clear hma
  obtain ⟨ka, ta⟩ := a
  obtain ⟨kb, tb⟩ := b
  obtain ⟨kc, tc⟩ := c
  dsimp only at *
  go_enter Try.func5, Try.ntmps5
  go_wp2_with (first
    | (go_at_call 8; first
      | (with_reducible refine LL.out.mono ?_; rintro e wx ⟨rfl, hB⟩; replace HS := hideL (HS.out.next hB); (try clear c0 c1 d0 d1 e0 e1); have c0 := HS.out.ba.c0; have c1 := HS.out.ba.c1; have d0 := HS.out.bb.c0; have d1 := HS.out.bb.c1; have e0 := HS.out.bc.c0; have e1 := HS.out.bc.c1; clear hB))
    | (go_at_call 25; first
      | (with_reducible refine (IAB.out _).mono ?_; rintro e wx ⟨rfl, hB⟩; replace HS := hideL (HS.out.next hB); (try clear c0 c1 d0 d1 e0 e1); have c0 := HS.out.ba.c0; have c1 := HS.out.ba.c1; have d0 := HS.out.bb.c0; have d1 := HS.out.bb.c1; have e0 := HS.out.bc.c0; have e1 := HS.out.bc.c1; clear hB)
      | (with_reducible refine (IAA.out _).mono ?_; rintro e wx ⟨rfl, hB⟩; replace HS := hideL (HS.out.next hB); (try clear c0 c1 d0 d1 e0 e1); have c0 := HS.out.ba.c0; have c1 := HS.out.ba.c1; have d0 := HS.out.bb.c0; have d1 := HS.out.bb.c1; have e0 := HS.out.bc.c0; have e1 := HS.out.bc.c1; clear hB)
      | (with_reducible refine (IBC.out _).mono ?_; rintro e wx ⟨rfl, hB⟩; replace HS := hideL (HS.out.next hB); (try clear c0 c1 d0 d1 e0 e1); have c0 := HS.out.ba.c0; have c1 := HS.out.ba.c1; have d0 := HS.out.bb.c0; have d1 := HS.out.bb.c1; have e0 := HS.out.bc.c0; have e1 := HS.out.bc.c1; clear hB))
    | (go_at_call 14; first
      | (with_reducible refine (MAS.out _).mono ?_; rintro e wx ⟨rfl, hB⟩; replace HS := hideL (HS.out.next hB); (try clear c0 c1 d0 d1 e0 e1); have c0 := HS.out.ba.c0; have c1 := HS.out.ba.c1; have d0 := HS.out.bb.c0; have d1 := HS.out.bb.c1; have e0 := HS.out.bc.c0; have e1 := HS.out.bc.c1; clear hB))
    | (go_at_call 10; first
      | (with_reducible refine (YA.out _).mono ?_; rintro e wx ⟨rfl, hB⟩; replace HS := hideL (HS.out.next hB); (try clear c0 c1 d0 d1 e0 e1); have c0 := HS.out.ba.c0; have c1 := HS.out.ba.c1; have d0 := HS.out.bb.c0; have d1 := HS.out.bb.c1; have e0 := HS.out.bc.c0; have e1 := HS.out.bc.c1; clear hB))
    | (go_at_call 24; first
      | (with_reducible refine (LB.out _).mono ?_; rintro e wx ⟨rfl, hB⟩; replace HS := hideL (HS.out.next hB); (try clear c0 c1 d0 d1 e0 e1); have c0 := HS.out.ba.c0; have c1 := HS.out.ba.c1; have d0 := HS.out.bb.c0; have d1 := HS.out.bb.c1; have e0 := HS.out.bc.c0; have e1 := HS.out.bc.c1; clear hB))
    | (go_at_call 9; first
      | (with_reducible refine (LW.out _).mono ?_; rintro e wx ⟨rfl, hB⟩; replace HS := hideL (HS.out.next hB); (try clear c0 c1 d0 d1 e0 e1); have c0 := HS.out.ba.c0; have c1 := HS.out.ba.c1; have d0 := HS.out.bb.c0; have d1 := HS.out.bb.c1; have e0 := HS.out.bc.c0; have e1 := HS.out.bc.c1; clear hB)))
  go_ret
  exact ⟨rfl, HS.out.be⟩
set_option maxRecDepth 100000 in
set_option maxHeartbeats 2000000 in
theorem goesOn_Tff2 (a b c : Tm) (s : ByteArray) (w : World) (ha : a.t.size ≤ maxLen) (hb : b.t.size ≤ maxLen) (hc : c.t.size ≤ maxLen) (hs : s.size ≤ maxLen) (hL : longM s [a, b, c] = false) (hab : impM a b = true) (hmas : matM a s.data.toList = false) (hbc : impM b c = false) (hma : mayM a = true) (hmb : mayM b = true) (hba : impM b a = false) : Calls Try.prog 5 #[.agg #[.int .i64 a.k, .string a.t], .agg #[.int .i64 b.k, .string b.t], .agg #[.int .i64 c.k, .string c.t], .string s] w (LawPost w) := by
  unfold maxLen at *
  have LW := hideL awake_any
  have HS := hideL (S3.new w a b c)
  have LL0 := long_row s [a, b, c] (((w.alloc (.cells #[.int .i64 a.k, .string a.t] 23)).alloc (.cells #[.int .i64 b.k, .string b.t] 23)).alloc (.cells #[.int .i64 c.k, .string c.t] 23)) (show 3 ≤ maxLen by decide)
  have LL : HidL (Calls Try.prog 8 #[.string s, .slice (some ⟨w.heap.size + 1 + 1 + 1, 0, none⟩) 3 3] ((((w.alloc (.cells #[.int .i64 a.k, .string a.t] 23)).alloc (.cells #[.int .i64 b.k, .string b.t] 23)).alloc (.cells #[.int .i64 c.k, .string c.t] 23)).alloc (.cells #[.int .i64 a.k, .string a.t, .int .i64 b.k, .string b.t, .int .i64 c.k, .string c.t] 23)) (fun e w' => e = .returned (.bool (longM s [a, b, c])) ∧ Below (((w.alloc (.cells #[.int .i64 a.k, .string a.t] 23)).alloc (.cells #[.int .i64 b.k, .string b.t] 23)).alloc (.cells #[.int .i64 c.k, .string c.t] 23)).heap.size (((w.alloc (.cells #[.int .i64 a.k, .string a.t] 23)).alloc (.cells #[.int .i64 b.k, .string b.t] 23)).alloc (.cells #[.int .i64 c.k, .string c.t] 23)) w')) := hideL (by rw [World.size_alloc, World.size_alloc, World.size_alloc] at LL0; rw [World.size_alloc, World.size_alloc, World.size_alloc]; exact LL0)
  clear LL0
  rw [hL] at LL
  have IAB := hideL (implies_any a b (by omega) (by omega))
  rw [hab] at IAB
  have IAA := hideL (implies_any a a (by omega) (by omega))
  rw [imp_self] at IAA
  have MAS := hideL (matches_any a s (by omega) (by omega))
  rw [hmas] at MAS
  have IBC := hideL (implies_any b c (by omega) (by omega))
  rw [hbc] at IBC
  have YA := hideL (may_any a (by omega))
  rw [hma] at YA
  have YB := hideL (may_any b (by omega))
  rw [hmb] at YB
  have IBA := hideL (implies_any b a (by omega) (by omega))
  rw [hba] at IBA
  have LB := hideL (beside_any a b (by omega) (by omega))
  unfold beV at LB
  have hS : besM a b = none := by
    have h := imp_bes a b
    rw [hab] at h
    cases hb : besM a b with
    | none => rfl
    | some S => rw [hb] at h; cases h
  rw [hS] at LB
  simp only [Option.getD_none, Option.isSome_none] at LB
  clear hS
  clear hL
  clear hab
  clear hmas
  clear hbc
  clear hma
  clear hmb
  clear hba
  obtain ⟨ka, ta⟩ := a
  obtain ⟨kb, tb⟩ := b
  obtain ⟨kc, tc⟩ := c
  dsimp only at *
  go_enter Try.func5, Try.ntmps5
  go_wp2_with (first
    | (go_at_call 8; first
      | (with_reducible refine LL.out.mono ?_; rintro e wx ⟨rfl, hB⟩; replace HS := hideL (HS.out.next hB); (try clear c0 c1 d0 d1 e0 e1); have c0 := HS.out.ba.c0; have c1 := HS.out.ba.c1; have d0 := HS.out.bb.c0; have d1 := HS.out.bb.c1; have e0 := HS.out.bc.c0; have e1 := HS.out.bc.c1; clear hB))
    | (go_at_call 25; first
      | (with_reducible refine (IAB.out _).mono ?_; rintro e wx ⟨rfl, hB⟩; replace HS := hideL (HS.out.next hB); (try clear c0 c1 d0 d1 e0 e1); have c0 := HS.out.ba.c0; have c1 := HS.out.ba.c1; have d0 := HS.out.bb.c0; have d1 := HS.out.bb.c1; have e0 := HS.out.bc.c0; have e1 := HS.out.bc.c1; clear hB)
      | (with_reducible refine (IAA.out _).mono ?_; rintro e wx ⟨rfl, hB⟩; replace HS := hideL (HS.out.next hB); (try clear c0 c1 d0 d1 e0 e1); have c0 := HS.out.ba.c0; have c1 := HS.out.ba.c1; have d0 := HS.out.bb.c0; have d1 := HS.out.bb.c1; have e0 := HS.out.bc.c0; have e1 := HS.out.bc.c1; clear hB)
      | (with_reducible refine (IBC.out _).mono ?_; rintro e wx ⟨rfl, hB⟩; replace HS := hideL (HS.out.next hB); (try clear c0 c1 d0 d1 e0 e1); have c0 := HS.out.ba.c0; have c1 := HS.out.ba.c1; have d0 := HS.out.bb.c0; have d1 := HS.out.bb.c1; have e0 := HS.out.bc.c0; have e1 := HS.out.bc.c1; clear hB)
      | (with_reducible refine (IBA.out _).mono ?_; rintro e wx ⟨rfl, hB⟩; replace HS := hideL (HS.out.next hB); (try clear c0 c1 d0 d1 e0 e1); have c0 := HS.out.ba.c0; have c1 := HS.out.ba.c1; have d0 := HS.out.bb.c0; have d1 := HS.out.bb.c1; have e0 := HS.out.bc.c0; have e1 := HS.out.bc.c1; clear hB))
    | (go_at_call 14; first
      | (with_reducible refine (MAS.out _).mono ?_; rintro e wx ⟨rfl, hB⟩; replace HS := hideL (HS.out.next hB); (try clear c0 c1 d0 d1 e0 e1); have c0 := HS.out.ba.c0; have c1 := HS.out.ba.c1; have d0 := HS.out.bb.c0; have d1 := HS.out.bb.c1; have e0 := HS.out.bc.c0; have e1 := HS.out.bc.c1; clear hB))
    | (go_at_call 10; first
      | (with_reducible refine (YA.out _).mono ?_; rintro e wx ⟨rfl, hB⟩; replace HS := hideL (HS.out.next hB); (try clear c0 c1 d0 d1 e0 e1); have c0 := HS.out.ba.c0; have c1 := HS.out.ba.c1; have d0 := HS.out.bb.c0; have d1 := HS.out.bb.c1; have e0 := HS.out.bc.c0; have e1 := HS.out.bc.c1; clear hB)
      | (with_reducible refine (YB.out _).mono ?_; rintro e wx ⟨rfl, hB⟩; replace HS := hideL (HS.out.next hB); (try clear c0 c1 d0 d1 e0 e1); have c0 := HS.out.ba.c0; have c1 := HS.out.ba.c1; have d0 := HS.out.bb.c0; have d1 := HS.out.bb.c1; have e0 := HS.out.bc.c0; have e1 := HS.out.bc.c1; clear hB))
    | (go_at_call 24; first
      | (with_reducible refine (LB.out _).mono ?_; rintro e wx ⟨rfl, hB⟩; replace HS := hideL (HS.out.next hB); (try clear c0 c1 d0 d1 e0 e1); have c0 := HS.out.ba.c0; have c1 := HS.out.ba.c1; have d0 := HS.out.bb.c0; have d1 := HS.out.bb.c1; have e0 := HS.out.bc.c0; have e1 := HS.out.bc.c1; clear hB))
    | (go_at_call 9; first
      | (with_reducible refine (LW.out _).mono ?_; rintro e wx ⟨rfl, hB⟩; replace HS := hideL (HS.out.next hB); (try clear c0 c1 d0 d1 e0 e1); have c0 := HS.out.ba.c0; have c1 := HS.out.ba.c1; have d0 := HS.out.bb.c0; have d1 := HS.out.bb.c1; have e0 := HS.out.bc.c0; have e1 := HS.out.bc.c1; clear hB)))
  go_ret
  exact ⟨rfl, HS.out.be⟩
set_option maxRecDepth 100000 in
set_option maxHeartbeats 2000000 in
theorem goesOn_Tff3 (a c : Tm) (s : ByteArray) (w : World) (ha : a.t.size ≤ maxLen) (hc : c.t.size ≤ maxLen) (hs : s.size ≤ maxLen) (hL : longM s [a, a, c] = false) (hab : impM a a = true) (hmas : matM a s.data.toList = false) (hac : impM a c = false) (hma : mayM a = true) : Calls Try.prog 5 #[.agg #[.int .i64 a.k, .string a.t], .agg #[.int .i64 a.k, .string a.t], .agg #[.int .i64 c.k, .string c.t], .string s] w (LawPost w) := by
  unfold maxLen at *
  have LW := hideL awake_any
  have HS := hideL (S3.new w a a c)
  have LL0 := long_row s [a, a, c] (((w.alloc (.cells #[.int .i64 a.k, .string a.t] 23)).alloc (.cells #[.int .i64 a.k, .string a.t] 23)).alloc (.cells #[.int .i64 c.k, .string c.t] 23)) (show 3 ≤ maxLen by decide)
  have LL : HidL (Calls Try.prog 8 #[.string s, .slice (some ⟨w.heap.size + 1 + 1 + 1, 0, none⟩) 3 3] ((((w.alloc (.cells #[.int .i64 a.k, .string a.t] 23)).alloc (.cells #[.int .i64 a.k, .string a.t] 23)).alloc (.cells #[.int .i64 c.k, .string c.t] 23)).alloc (.cells #[.int .i64 a.k, .string a.t, .int .i64 a.k, .string a.t, .int .i64 c.k, .string c.t] 23)) (fun e w' => e = .returned (.bool (longM s [a, a, c])) ∧ Below (((w.alloc (.cells #[.int .i64 a.k, .string a.t] 23)).alloc (.cells #[.int .i64 a.k, .string a.t] 23)).alloc (.cells #[.int .i64 c.k, .string c.t] 23)).heap.size (((w.alloc (.cells #[.int .i64 a.k, .string a.t] 23)).alloc (.cells #[.int .i64 a.k, .string a.t] 23)).alloc (.cells #[.int .i64 c.k, .string c.t] 23)) w')) := hideL (by rw [World.size_alloc, World.size_alloc, World.size_alloc] at LL0; rw [World.size_alloc, World.size_alloc, World.size_alloc]; exact LL0)
  clear LL0
  rw [hL] at LL
  have IAA := hideL (implies_any a a (by omega) (by omega))
  rw [hab] at IAA
  have MAS := hideL (matches_any a s (by omega) (by omega))
  rw [hmas] at MAS
  have IAC := hideL (implies_any a c (by omega) (by omega))
  rw [hac] at IAC
  have YA := hideL (may_any a (by omega))
  rw [hma] at YA
  have LB := hideL (beside_any a a (by omega) (by omega))
  unfold beV at LB
  have hS : besM a a = none := by
    have h := imp_bes a a
    rw [hab] at h
    cases hb : besM a a with
    | none => rfl
    | some S => rw [hb] at h; cases h
  rw [hS] at LB
  simp only [Option.getD_none, Option.isSome_none] at LB
  clear hS
  clear hL
  clear hab
  clear hmas
  clear hac
  clear hma
  obtain ⟨ka, ta⟩ := a
  obtain ⟨kc, tc⟩ := c
  dsimp only at *
  go_enter Try.func5, Try.ntmps5
  go_wp2_with (first
    | (go_at_call 8; first
      | (with_reducible refine LL.out.mono ?_; rintro e wx ⟨rfl, hB⟩; replace HS := hideL (HS.out.next hB); (try clear c0 c1 d0 d1 e0 e1); have c0 := HS.out.ba.c0; have c1 := HS.out.ba.c1; have d0 := HS.out.bb.c0; have d1 := HS.out.bb.c1; have e0 := HS.out.bc.c0; have e1 := HS.out.bc.c1; clear hB))
    | (go_at_call 25; first
      | (with_reducible refine (IAA.out _).mono ?_; rintro e wx ⟨rfl, hB⟩; replace HS := hideL (HS.out.next hB); (try clear c0 c1 d0 d1 e0 e1); have c0 := HS.out.ba.c0; have c1 := HS.out.ba.c1; have d0 := HS.out.bb.c0; have d1 := HS.out.bb.c1; have e0 := HS.out.bc.c0; have e1 := HS.out.bc.c1; clear hB)
      | (with_reducible refine (IAC.out _).mono ?_; rintro e wx ⟨rfl, hB⟩; replace HS := hideL (HS.out.next hB); (try clear c0 c1 d0 d1 e0 e1); have c0 := HS.out.ba.c0; have c1 := HS.out.ba.c1; have d0 := HS.out.bb.c0; have d1 := HS.out.bb.c1; have e0 := HS.out.bc.c0; have e1 := HS.out.bc.c1; clear hB))
    | (go_at_call 14; first
      | (with_reducible refine (MAS.out _).mono ?_; rintro e wx ⟨rfl, hB⟩; replace HS := hideL (HS.out.next hB); (try clear c0 c1 d0 d1 e0 e1); have c0 := HS.out.ba.c0; have c1 := HS.out.ba.c1; have d0 := HS.out.bb.c0; have d1 := HS.out.bb.c1; have e0 := HS.out.bc.c0; have e1 := HS.out.bc.c1; clear hB))
    | (go_at_call 10; first
      | (with_reducible refine (YA.out _).mono ?_; rintro e wx ⟨rfl, hB⟩; replace HS := hideL (HS.out.next hB); (try clear c0 c1 d0 d1 e0 e1); have c0 := HS.out.ba.c0; have c1 := HS.out.ba.c1; have d0 := HS.out.bb.c0; have d1 := HS.out.bb.c1; have e0 := HS.out.bc.c0; have e1 := HS.out.bc.c1; clear hB))
    | (go_at_call 24; first
      | (with_reducible refine (LB.out _).mono ?_; rintro e wx ⟨rfl, hB⟩; replace HS := hideL (HS.out.next hB); (try clear c0 c1 d0 d1 e0 e1); have c0 := HS.out.ba.c0; have c1 := HS.out.ba.c1; have d0 := HS.out.bb.c0; have d1 := HS.out.bb.c1; have e0 := HS.out.bc.c0; have e1 := HS.out.bc.c1; clear hB))
    | (go_at_call 9; first
      | (with_reducible refine (LW.out _).mono ?_; rintro e wx ⟨rfl, hB⟩; replace HS := hideL (HS.out.next hB); (try clear c0 c1 d0 d1 e0 e1); have c0 := HS.out.ba.c0; have c1 := HS.out.ba.c1; have d0 := HS.out.bb.c0; have d1 := HS.out.bb.c1; have e0 := HS.out.bc.c0; have e1 := HS.out.bc.c1; clear hB)))
  go_ret
  exact ⟨rfl, HS.out.be⟩
set_option maxRecDepth 100000 in
set_option maxHeartbeats 2000000 in
theorem goesOn_Tft1 (a b c : Tm) (s : ByteArray) (w : World) (ha : a.t.size ≤ maxLen) (hb : b.t.size ≤ maxLen) (hc : c.t.size ≤ maxLen) (hs : s.size ≤ maxLen) (hL : longM s [a, b, c] = false) (hab : impM a b = true) (hmas : matM a s.data.toList = false) (hbc : impM b c = true) (hac : impM a c = true) (hma : mayM a = false) : Calls Try.prog 5 #[.agg #[.int .i64 a.k, .string a.t], .agg #[.int .i64 b.k, .string b.t], .agg #[.int .i64 c.k, .string c.t], .string s] w (LawPost w) := by
  unfold maxLen at *
  have LW := hideL awake_any
  have HS := hideL (S3.new w a b c)
  have LL0 := long_row s [a, b, c] (((w.alloc (.cells #[.int .i64 a.k, .string a.t] 23)).alloc (.cells #[.int .i64 b.k, .string b.t] 23)).alloc (.cells #[.int .i64 c.k, .string c.t] 23)) (show 3 ≤ maxLen by decide)
  have LL : HidL (Calls Try.prog 8 #[.string s, .slice (some ⟨w.heap.size + 1 + 1 + 1, 0, none⟩) 3 3] ((((w.alloc (.cells #[.int .i64 a.k, .string a.t] 23)).alloc (.cells #[.int .i64 b.k, .string b.t] 23)).alloc (.cells #[.int .i64 c.k, .string c.t] 23)).alloc (.cells #[.int .i64 a.k, .string a.t, .int .i64 b.k, .string b.t, .int .i64 c.k, .string c.t] 23)) (fun e w' => e = .returned (.bool (longM s [a, b, c])) ∧ Below (((w.alloc (.cells #[.int .i64 a.k, .string a.t] 23)).alloc (.cells #[.int .i64 b.k, .string b.t] 23)).alloc (.cells #[.int .i64 c.k, .string c.t] 23)).heap.size (((w.alloc (.cells #[.int .i64 a.k, .string a.t] 23)).alloc (.cells #[.int .i64 b.k, .string b.t] 23)).alloc (.cells #[.int .i64 c.k, .string c.t] 23)) w')) := hideL (by rw [World.size_alloc, World.size_alloc, World.size_alloc] at LL0; rw [World.size_alloc, World.size_alloc, World.size_alloc]; exact LL0)
  clear LL0
  rw [hL] at LL
  have IAB := hideL (implies_any a b (by omega) (by omega))
  rw [hab] at IAB
  have IAA := hideL (implies_any a a (by omega) (by omega))
  rw [imp_self] at IAA
  have MAS := hideL (matches_any a s (by omega) (by omega))
  rw [hmas] at MAS
  have IBC := hideL (implies_any b c (by omega) (by omega))
  rw [hbc] at IBC
  have IAC := hideL (implies_any a c (by omega) (by omega))
  rw [hac] at IAC
  have YA := hideL (may_any a (by omega))
  rw [hma] at YA
  have LB := hideL (beside_any a b (by omega) (by omega))
  unfold beV at LB
  have hS : besM a b = none := by
    have h := imp_bes a b
    rw [hab] at h
    cases hb : besM a b with
    | none => rfl
    | some S => rw [hb] at h; cases h
  rw [hS] at LB
  simp only [Option.getD_none, Option.isSome_none] at LB
  clear hS
  clear hL
  clear hab
  clear hmas
  clear hbc
  clear hac
  clear hma
  obtain ⟨ka, ta⟩ := a
  obtain ⟨kb, tb⟩ := b
  obtain ⟨kc, tc⟩ := c
  dsimp only at *
  go_enter Try.func5, Try.ntmps5
  go_wp2_with (first
    | (go_at_call 8; first
      | (with_reducible refine LL.out.mono ?_; rintro e wx ⟨rfl, hB⟩; replace HS := hideL (HS.out.next hB); (try clear c0 c1 d0 d1 e0 e1); have c0 := HS.out.ba.c0; have c1 := HS.out.ba.c1; have d0 := HS.out.bb.c0; have d1 := HS.out.bb.c1; have e0 := HS.out.bc.c0; have e1 := HS.out.bc.c1; clear hB))
    | (go_at_call 25; first
      | (with_reducible refine (IAB.out _).mono ?_; rintro e wx ⟨rfl, hB⟩; replace HS := hideL (HS.out.next hB); (try clear c0 c1 d0 d1 e0 e1); have c0 := HS.out.ba.c0; have c1 := HS.out.ba.c1; have d0 := HS.out.bb.c0; have d1 := HS.out.bb.c1; have e0 := HS.out.bc.c0; have e1 := HS.out.bc.c1; clear hB)
      | (with_reducible refine (IAA.out _).mono ?_; rintro e wx ⟨rfl, hB⟩; replace HS := hideL (HS.out.next hB); (try clear c0 c1 d0 d1 e0 e1); have c0 := HS.out.ba.c0; have c1 := HS.out.ba.c1; have d0 := HS.out.bb.c0; have d1 := HS.out.bb.c1; have e0 := HS.out.bc.c0; have e1 := HS.out.bc.c1; clear hB)
      | (with_reducible refine (IBC.out _).mono ?_; rintro e wx ⟨rfl, hB⟩; replace HS := hideL (HS.out.next hB); (try clear c0 c1 d0 d1 e0 e1); have c0 := HS.out.ba.c0; have c1 := HS.out.ba.c1; have d0 := HS.out.bb.c0; have d1 := HS.out.bb.c1; have e0 := HS.out.bc.c0; have e1 := HS.out.bc.c1; clear hB)
      | (with_reducible refine (IAC.out _).mono ?_; rintro e wx ⟨rfl, hB⟩; replace HS := hideL (HS.out.next hB); (try clear c0 c1 d0 d1 e0 e1); have c0 := HS.out.ba.c0; have c1 := HS.out.ba.c1; have d0 := HS.out.bb.c0; have d1 := HS.out.bb.c1; have e0 := HS.out.bc.c0; have e1 := HS.out.bc.c1; clear hB))
    | (go_at_call 14; first
      | (with_reducible refine (MAS.out _).mono ?_; rintro e wx ⟨rfl, hB⟩; replace HS := hideL (HS.out.next hB); (try clear c0 c1 d0 d1 e0 e1); have c0 := HS.out.ba.c0; have c1 := HS.out.ba.c1; have d0 := HS.out.bb.c0; have d1 := HS.out.bb.c1; have e0 := HS.out.bc.c0; have e1 := HS.out.bc.c1; clear hB))
    | (go_at_call 10; first
      | (with_reducible refine (YA.out _).mono ?_; rintro e wx ⟨rfl, hB⟩; replace HS := hideL (HS.out.next hB); (try clear c0 c1 d0 d1 e0 e1); have c0 := HS.out.ba.c0; have c1 := HS.out.ba.c1; have d0 := HS.out.bb.c0; have d1 := HS.out.bb.c1; have e0 := HS.out.bc.c0; have e1 := HS.out.bc.c1; clear hB))
    | (go_at_call 24; first
      | (with_reducible refine (LB.out _).mono ?_; rintro e wx ⟨rfl, hB⟩; replace HS := hideL (HS.out.next hB); (try clear c0 c1 d0 d1 e0 e1); have c0 := HS.out.ba.c0; have c1 := HS.out.ba.c1; have d0 := HS.out.bb.c0; have d1 := HS.out.bb.c1; have e0 := HS.out.bc.c0; have e1 := HS.out.bc.c1; clear hB))
    | (go_at_call 9; first
      | (with_reducible refine (LW.out _).mono ?_; rintro e wx ⟨rfl, hB⟩; replace HS := hideL (HS.out.next hB); (try clear c0 c1 d0 d1 e0 e1); have c0 := HS.out.ba.c0; have c1 := HS.out.ba.c1; have d0 := HS.out.bb.c0; have d1 := HS.out.bb.c1; have e0 := HS.out.bc.c0; have e1 := HS.out.bc.c1; clear hB)))
  go_ret
  exact ⟨rfl, HS.out.be⟩
set_option maxRecDepth 100000 in
set_option maxHeartbeats 2000000 in
theorem goesOn_Tft2 (a b c : Tm) (s : ByteArray) (w : World) (ha : a.t.size ≤ maxLen) (hb : b.t.size ≤ maxLen) (hc : c.t.size ≤ maxLen) (hs : s.size ≤ maxLen) (hL : longM s [a, b, c] = false) (hab : impM a b = true) (hmas : matM a s.data.toList = false) (hbc : impM b c = true) (hac : impM a c = true) (hma : mayM a = true) (hmb : mayM b = true) (hba : impM b a = false) : Calls Try.prog 5 #[.agg #[.int .i64 a.k, .string a.t], .agg #[.int .i64 b.k, .string b.t], .agg #[.int .i64 c.k, .string c.t], .string s] w (LawPost w) := by
  unfold maxLen at *
  have LW := hideL awake_any
  have HS := hideL (S3.new w a b c)
  have LL0 := long_row s [a, b, c] (((w.alloc (.cells #[.int .i64 a.k, .string a.t] 23)).alloc (.cells #[.int .i64 b.k, .string b.t] 23)).alloc (.cells #[.int .i64 c.k, .string c.t] 23)) (show 3 ≤ maxLen by decide)
  have LL : HidL (Calls Try.prog 8 #[.string s, .slice (some ⟨w.heap.size + 1 + 1 + 1, 0, none⟩) 3 3] ((((w.alloc (.cells #[.int .i64 a.k, .string a.t] 23)).alloc (.cells #[.int .i64 b.k, .string b.t] 23)).alloc (.cells #[.int .i64 c.k, .string c.t] 23)).alloc (.cells #[.int .i64 a.k, .string a.t, .int .i64 b.k, .string b.t, .int .i64 c.k, .string c.t] 23)) (fun e w' => e = .returned (.bool (longM s [a, b, c])) ∧ Below (((w.alloc (.cells #[.int .i64 a.k, .string a.t] 23)).alloc (.cells #[.int .i64 b.k, .string b.t] 23)).alloc (.cells #[.int .i64 c.k, .string c.t] 23)).heap.size (((w.alloc (.cells #[.int .i64 a.k, .string a.t] 23)).alloc (.cells #[.int .i64 b.k, .string b.t] 23)).alloc (.cells #[.int .i64 c.k, .string c.t] 23)) w')) := hideL (by rw [World.size_alloc, World.size_alloc, World.size_alloc] at LL0; rw [World.size_alloc, World.size_alloc, World.size_alloc]; exact LL0)
  clear LL0
  rw [hL] at LL
  have IAB := hideL (implies_any a b (by omega) (by omega))
  rw [hab] at IAB
  have IAA := hideL (implies_any a a (by omega) (by omega))
  rw [imp_self] at IAA
  have MAS := hideL (matches_any a s (by omega) (by omega))
  rw [hmas] at MAS
  have IBC := hideL (implies_any b c (by omega) (by omega))
  rw [hbc] at IBC
  have IAC := hideL (implies_any a c (by omega) (by omega))
  rw [hac] at IAC
  have YA := hideL (may_any a (by omega))
  rw [hma] at YA
  have YB := hideL (may_any b (by omega))
  rw [hmb] at YB
  have IBA := hideL (implies_any b a (by omega) (by omega))
  rw [hba] at IBA
  have LB := hideL (beside_any a b (by omega) (by omega))
  unfold beV at LB
  have hS : besM a b = none := by
    have h := imp_bes a b
    rw [hab] at h
    cases hb : besM a b with
    | none => rfl
    | some S => rw [hb] at h; cases h
  rw [hS] at LB
  simp only [Option.getD_none, Option.isSome_none] at LB
  clear hS
  clear hL
  clear hab
  clear hmas
  clear hbc
  clear hac
  clear hma
  clear hmb
  clear hba
  obtain ⟨ka, ta⟩ := a
  obtain ⟨kb, tb⟩ := b
  obtain ⟨kc, tc⟩ := c
  dsimp only at *
  go_enter Try.func5, Try.ntmps5
  go_wp2_with (first
    | (go_at_call 8; first
      | (with_reducible refine LL.out.mono ?_; rintro e wx ⟨rfl, hB⟩; replace HS := hideL (HS.out.next hB); (try clear c0 c1 d0 d1 e0 e1); have c0 := HS.out.ba.c0; have c1 := HS.out.ba.c1; have d0 := HS.out.bb.c0; have d1 := HS.out.bb.c1; have e0 := HS.out.bc.c0; have e1 := HS.out.bc.c1; clear hB))
    | (go_at_call 25; first
      | (with_reducible refine (IAB.out _).mono ?_; rintro e wx ⟨rfl, hB⟩; replace HS := hideL (HS.out.next hB); (try clear c0 c1 d0 d1 e0 e1); have c0 := HS.out.ba.c0; have c1 := HS.out.ba.c1; have d0 := HS.out.bb.c0; have d1 := HS.out.bb.c1; have e0 := HS.out.bc.c0; have e1 := HS.out.bc.c1; clear hB)
      | (with_reducible refine (IAA.out _).mono ?_; rintro e wx ⟨rfl, hB⟩; replace HS := hideL (HS.out.next hB); (try clear c0 c1 d0 d1 e0 e1); have c0 := HS.out.ba.c0; have c1 := HS.out.ba.c1; have d0 := HS.out.bb.c0; have d1 := HS.out.bb.c1; have e0 := HS.out.bc.c0; have e1 := HS.out.bc.c1; clear hB)
      | (with_reducible refine (IBC.out _).mono ?_; rintro e wx ⟨rfl, hB⟩; replace HS := hideL (HS.out.next hB); (try clear c0 c1 d0 d1 e0 e1); have c0 := HS.out.ba.c0; have c1 := HS.out.ba.c1; have d0 := HS.out.bb.c0; have d1 := HS.out.bb.c1; have e0 := HS.out.bc.c0; have e1 := HS.out.bc.c1; clear hB)
      | (with_reducible refine (IAC.out _).mono ?_; rintro e wx ⟨rfl, hB⟩; replace HS := hideL (HS.out.next hB); (try clear c0 c1 d0 d1 e0 e1); have c0 := HS.out.ba.c0; have c1 := HS.out.ba.c1; have d0 := HS.out.bb.c0; have d1 := HS.out.bb.c1; have e0 := HS.out.bc.c0; have e1 := HS.out.bc.c1; clear hB)
      | (with_reducible refine (IBA.out _).mono ?_; rintro e wx ⟨rfl, hB⟩; replace HS := hideL (HS.out.next hB); (try clear c0 c1 d0 d1 e0 e1); have c0 := HS.out.ba.c0; have c1 := HS.out.ba.c1; have d0 := HS.out.bb.c0; have d1 := HS.out.bb.c1; have e0 := HS.out.bc.c0; have e1 := HS.out.bc.c1; clear hB))
    | (go_at_call 14; first
      | (with_reducible refine (MAS.out _).mono ?_; rintro e wx ⟨rfl, hB⟩; replace HS := hideL (HS.out.next hB); (try clear c0 c1 d0 d1 e0 e1); have c0 := HS.out.ba.c0; have c1 := HS.out.ba.c1; have d0 := HS.out.bb.c0; have d1 := HS.out.bb.c1; have e0 := HS.out.bc.c0; have e1 := HS.out.bc.c1; clear hB))
    | (go_at_call 10; first
      | (with_reducible refine (YA.out _).mono ?_; rintro e wx ⟨rfl, hB⟩; replace HS := hideL (HS.out.next hB); (try clear c0 c1 d0 d1 e0 e1); have c0 := HS.out.ba.c0; have c1 := HS.out.ba.c1; have d0 := HS.out.bb.c0; have d1 := HS.out.bb.c1; have e0 := HS.out.bc.c0; have e1 := HS.out.bc.c1; clear hB)
      | (with_reducible refine (YB.out _).mono ?_; rintro e wx ⟨rfl, hB⟩; replace HS := hideL (HS.out.next hB); (try clear c0 c1 d0 d1 e0 e1); have c0 := HS.out.ba.c0; have c1 := HS.out.ba.c1; have d0 := HS.out.bb.c0; have d1 := HS.out.bb.c1; have e0 := HS.out.bc.c0; have e1 := HS.out.bc.c1; clear hB))
    | (go_at_call 24; first
      | (with_reducible refine (LB.out _).mono ?_; rintro e wx ⟨rfl, hB⟩; replace HS := hideL (HS.out.next hB); (try clear c0 c1 d0 d1 e0 e1); have c0 := HS.out.ba.c0; have c1 := HS.out.ba.c1; have d0 := HS.out.bb.c0; have d1 := HS.out.bb.c1; have e0 := HS.out.bc.c0; have e1 := HS.out.bc.c1; clear hB))
    | (go_at_call 9; first
      | (with_reducible refine (LW.out _).mono ?_; rintro e wx ⟨rfl, hB⟩; replace HS := hideL (HS.out.next hB); (try clear c0 c1 d0 d1 e0 e1); have c0 := HS.out.ba.c0; have c1 := HS.out.ba.c1; have d0 := HS.out.bb.c0; have d1 := HS.out.bb.c1; have e0 := HS.out.bc.c0; have e1 := HS.out.bc.c1; clear hB)))
  go_ret
  exact ⟨rfl, HS.out.be⟩
set_option maxRecDepth 100000 in
set_option maxHeartbeats 2000000 in
theorem goesOn_Tft3 (a c : Tm) (s : ByteArray) (w : World) (ha : a.t.size ≤ maxLen) (hc : c.t.size ≤ maxLen) (hs : s.size ≤ maxLen) (hL : longM s [a, a, c] = false) (hab : impM a a = true) (hmas : matM a s.data.toList = false) (hac : impM a c = true) (hma : mayM a = true) : Calls Try.prog 5 #[.agg #[.int .i64 a.k, .string a.t], .agg #[.int .i64 a.k, .string a.t], .agg #[.int .i64 c.k, .string c.t], .string s] w (LawPost w) := by
  unfold maxLen at *
  have LW := hideL awake_any
  have HS := hideL (S3.new w a a c)
  have LL0 := long_row s [a, a, c] (((w.alloc (.cells #[.int .i64 a.k, .string a.t] 23)).alloc (.cells #[.int .i64 a.k, .string a.t] 23)).alloc (.cells #[.int .i64 c.k, .string c.t] 23)) (show 3 ≤ maxLen by decide)
  have LL : HidL (Calls Try.prog 8 #[.string s, .slice (some ⟨w.heap.size + 1 + 1 + 1, 0, none⟩) 3 3] ((((w.alloc (.cells #[.int .i64 a.k, .string a.t] 23)).alloc (.cells #[.int .i64 a.k, .string a.t] 23)).alloc (.cells #[.int .i64 c.k, .string c.t] 23)).alloc (.cells #[.int .i64 a.k, .string a.t, .int .i64 a.k, .string a.t, .int .i64 c.k, .string c.t] 23)) (fun e w' => e = .returned (.bool (longM s [a, a, c])) ∧ Below (((w.alloc (.cells #[.int .i64 a.k, .string a.t] 23)).alloc (.cells #[.int .i64 a.k, .string a.t] 23)).alloc (.cells #[.int .i64 c.k, .string c.t] 23)).heap.size (((w.alloc (.cells #[.int .i64 a.k, .string a.t] 23)).alloc (.cells #[.int .i64 a.k, .string a.t] 23)).alloc (.cells #[.int .i64 c.k, .string c.t] 23)) w')) := hideL (by rw [World.size_alloc, World.size_alloc, World.size_alloc] at LL0; rw [World.size_alloc, World.size_alloc, World.size_alloc]; exact LL0)
  clear LL0
  rw [hL] at LL
  have IAA := hideL (implies_any a a (by omega) (by omega))
  rw [hab] at IAA
  have MAS := hideL (matches_any a s (by omega) (by omega))
  rw [hmas] at MAS
  have IAC := hideL (implies_any a c (by omega) (by omega))
  rw [hac] at IAC
  have YA := hideL (may_any a (by omega))
  rw [hma] at YA
  have LB := hideL (beside_any a a (by omega) (by omega))
  unfold beV at LB
  have hS : besM a a = none := by
    have h := imp_bes a a
    rw [hab] at h
    cases hb : besM a a with
    | none => rfl
    | some S => rw [hb] at h; cases h
  rw [hS] at LB
  simp only [Option.getD_none, Option.isSome_none] at LB
  clear hS
  clear hL
  clear hab
  clear hmas
  clear hac
  clear hma
  obtain ⟨ka, ta⟩ := a
  obtain ⟨kc, tc⟩ := c
  dsimp only at *
  go_enter Try.func5, Try.ntmps5
  go_wp2_with (first
    | (go_at_call 8; first
      | (with_reducible refine LL.out.mono ?_; rintro e wx ⟨rfl, hB⟩; replace HS := hideL (HS.out.next hB); (try clear c0 c1 d0 d1 e0 e1); have c0 := HS.out.ba.c0; have c1 := HS.out.ba.c1; have d0 := HS.out.bb.c0; have d1 := HS.out.bb.c1; have e0 := HS.out.bc.c0; have e1 := HS.out.bc.c1; clear hB))
    | (go_at_call 25; first
      | (with_reducible refine (IAA.out _).mono ?_; rintro e wx ⟨rfl, hB⟩; replace HS := hideL (HS.out.next hB); (try clear c0 c1 d0 d1 e0 e1); have c0 := HS.out.ba.c0; have c1 := HS.out.ba.c1; have d0 := HS.out.bb.c0; have d1 := HS.out.bb.c1; have e0 := HS.out.bc.c0; have e1 := HS.out.bc.c1; clear hB)
      | (with_reducible refine (IAC.out _).mono ?_; rintro e wx ⟨rfl, hB⟩; replace HS := hideL (HS.out.next hB); (try clear c0 c1 d0 d1 e0 e1); have c0 := HS.out.ba.c0; have c1 := HS.out.ba.c1; have d0 := HS.out.bb.c0; have d1 := HS.out.bb.c1; have e0 := HS.out.bc.c0; have e1 := HS.out.bc.c1; clear hB))
    | (go_at_call 14; first
      | (with_reducible refine (MAS.out _).mono ?_; rintro e wx ⟨rfl, hB⟩; replace HS := hideL (HS.out.next hB); (try clear c0 c1 d0 d1 e0 e1); have c0 := HS.out.ba.c0; have c1 := HS.out.ba.c1; have d0 := HS.out.bb.c0; have d1 := HS.out.bb.c1; have e0 := HS.out.bc.c0; have e1 := HS.out.bc.c1; clear hB))
    | (go_at_call 10; first
      | (with_reducible refine (YA.out _).mono ?_; rintro e wx ⟨rfl, hB⟩; replace HS := hideL (HS.out.next hB); (try clear c0 c1 d0 d1 e0 e1); have c0 := HS.out.ba.c0; have c1 := HS.out.ba.c1; have d0 := HS.out.bb.c0; have d1 := HS.out.bb.c1; have e0 := HS.out.bc.c0; have e1 := HS.out.bc.c1; clear hB))
    | (go_at_call 24; first
      | (with_reducible refine (LB.out _).mono ?_; rintro e wx ⟨rfl, hB⟩; replace HS := hideL (HS.out.next hB); (try clear c0 c1 d0 d1 e0 e1); have c0 := HS.out.ba.c0; have c1 := HS.out.ba.c1; have d0 := HS.out.bb.c0; have d1 := HS.out.bb.c1; have e0 := HS.out.bc.c0; have e1 := HS.out.bc.c1; clear hB))
    | (go_at_call 9; first
      | (with_reducible refine (LW.out _).mono ?_; rintro e wx ⟨rfl, hB⟩; replace HS := hideL (HS.out.next hB); (try clear c0 c1 d0 d1 e0 e1); have c0 := HS.out.ba.c0; have c1 := HS.out.ba.c1; have d0 := HS.out.bb.c0; have d1 := HS.out.bb.c1; have e0 := HS.out.bc.c0; have e1 := HS.out.bc.c1; clear hB)))
  go_ret
  exact ⟨rfl, HS.out.be⟩
set_option maxRecDepth 100000 in
set_option maxHeartbeats 2000000 in
theorem goesOn_Ttf1 (a b c : Tm) (s : ByteArray) (w : World) (ha : a.t.size ≤ maxLen) (hb : b.t.size ≤ maxLen) (hc : c.t.size ≤ maxLen) (hs : s.size ≤ maxLen) (hL : longM s [a, b, c] = false) (hab : impM a b = true) (hmas : matM a s.data.toList = true) (hmbs : matM b s.data.toList = true) (hbc : impM b c = false) (hma : mayM a = false) : Calls Try.prog 5 #[.agg #[.int .i64 a.k, .string a.t], .agg #[.int .i64 b.k, .string b.t], .agg #[.int .i64 c.k, .string c.t], .string s] w (LawPost w) := by
  unfold maxLen at *
  have LW := hideL awake_any
  have HS := hideL (S3.new w a b c)
  have LL0 := long_row s [a, b, c] (((w.alloc (.cells #[.int .i64 a.k, .string a.t] 23)).alloc (.cells #[.int .i64 b.k, .string b.t] 23)).alloc (.cells #[.int .i64 c.k, .string c.t] 23)) (show 3 ≤ maxLen by decide)
  have LL : HidL (Calls Try.prog 8 #[.string s, .slice (some ⟨w.heap.size + 1 + 1 + 1, 0, none⟩) 3 3] ((((w.alloc (.cells #[.int .i64 a.k, .string a.t] 23)).alloc (.cells #[.int .i64 b.k, .string b.t] 23)).alloc (.cells #[.int .i64 c.k, .string c.t] 23)).alloc (.cells #[.int .i64 a.k, .string a.t, .int .i64 b.k, .string b.t, .int .i64 c.k, .string c.t] 23)) (fun e w' => e = .returned (.bool (longM s [a, b, c])) ∧ Below (((w.alloc (.cells #[.int .i64 a.k, .string a.t] 23)).alloc (.cells #[.int .i64 b.k, .string b.t] 23)).alloc (.cells #[.int .i64 c.k, .string c.t] 23)).heap.size (((w.alloc (.cells #[.int .i64 a.k, .string a.t] 23)).alloc (.cells #[.int .i64 b.k, .string b.t] 23)).alloc (.cells #[.int .i64 c.k, .string c.t] 23)) w')) := hideL (by rw [World.size_alloc, World.size_alloc, World.size_alloc] at LL0; rw [World.size_alloc, World.size_alloc, World.size_alloc]; exact LL0)
  clear LL0
  rw [hL] at LL
  have IAB := hideL (implies_any a b (by omega) (by omega))
  rw [hab] at IAB
  have IAA := hideL (implies_any a a (by omega) (by omega))
  rw [imp_self] at IAA
  have MAS := hideL (matches_any a s (by omega) (by omega))
  rw [hmas] at MAS
  have MBS := hideL (matches_any b s (by omega) (by omega))
  rw [hmbs] at MBS
  have IBC := hideL (implies_any b c (by omega) (by omega))
  rw [hbc] at IBC
  have YA := hideL (may_any a (by omega))
  rw [hma] at YA
  have LB := hideL (beside_any a b (by omega) (by omega))
  unfold beV at LB
  have hS : besM a b = none := by
    have h := imp_bes a b
    rw [hab] at h
    cases hb : besM a b with
    | none => rfl
    | some S => rw [hb] at h; cases h
  rw [hS] at LB
  simp only [Option.getD_none, Option.isSome_none] at LB
  clear hS
  clear hL
  clear hab
  clear hmas
  clear hmbs
  clear hbc
  clear hma
  obtain ⟨ka, ta⟩ := a
  obtain ⟨kb, tb⟩ := b
  obtain ⟨kc, tc⟩ := c
  dsimp only at *
  go_enter Try.func5, Try.ntmps5
  go_wp2_with (first
    | (go_at_call 8; first
      | (with_reducible refine LL.out.mono ?_; rintro e wx ⟨rfl, hB⟩; replace HS := hideL (HS.out.next hB); (try clear c0 c1 d0 d1 e0 e1); have c0 := HS.out.ba.c0; have c1 := HS.out.ba.c1; have d0 := HS.out.bb.c0; have d1 := HS.out.bb.c1; have e0 := HS.out.bc.c0; have e1 := HS.out.bc.c1; clear hB))
    | (go_at_call 25; first
      | (with_reducible refine (IAB.out _).mono ?_; rintro e wx ⟨rfl, hB⟩; replace HS := hideL (HS.out.next hB); (try clear c0 c1 d0 d1 e0 e1); have c0 := HS.out.ba.c0; have c1 := HS.out.ba.c1; have d0 := HS.out.bb.c0; have d1 := HS.out.bb.c1; have e0 := HS.out.bc.c0; have e1 := HS.out.bc.c1; clear hB)
      | (with_reducible refine (IAA.out _).mono ?_; rintro e wx ⟨rfl, hB⟩; replace HS := hideL (HS.out.next hB); (try clear c0 c1 d0 d1 e0 e1); have c0 := HS.out.ba.c0; have c1 := HS.out.ba.c1; have d0 := HS.out.bb.c0; have d1 := HS.out.bb.c1; have e0 := HS.out.bc.c0; have e1 := HS.out.bc.c1; clear hB)
      | (with_reducible refine (IBC.out _).mono ?_; rintro e wx ⟨rfl, hB⟩; replace HS := hideL (HS.out.next hB); (try clear c0 c1 d0 d1 e0 e1); have c0 := HS.out.ba.c0; have c1 := HS.out.ba.c1; have d0 := HS.out.bb.c0; have d1 := HS.out.bb.c1; have e0 := HS.out.bc.c0; have e1 := HS.out.bc.c1; clear hB))
    | (go_at_call 14; first
      | (with_reducible refine (MAS.out _).mono ?_; rintro e wx ⟨rfl, hB⟩; replace HS := hideL (HS.out.next hB); (try clear c0 c1 d0 d1 e0 e1); have c0 := HS.out.ba.c0; have c1 := HS.out.ba.c1; have d0 := HS.out.bb.c0; have d1 := HS.out.bb.c1; have e0 := HS.out.bc.c0; have e1 := HS.out.bc.c1; clear hB)
      | (with_reducible refine (MBS.out _).mono ?_; rintro e wx ⟨rfl, hB⟩; replace HS := hideL (HS.out.next hB); (try clear c0 c1 d0 d1 e0 e1); have c0 := HS.out.ba.c0; have c1 := HS.out.ba.c1; have d0 := HS.out.bb.c0; have d1 := HS.out.bb.c1; have e0 := HS.out.bc.c0; have e1 := HS.out.bc.c1; clear hB))
    | (go_at_call 10; first
      | (with_reducible refine (YA.out _).mono ?_; rintro e wx ⟨rfl, hB⟩; replace HS := hideL (HS.out.next hB); (try clear c0 c1 d0 d1 e0 e1); have c0 := HS.out.ba.c0; have c1 := HS.out.ba.c1; have d0 := HS.out.bb.c0; have d1 := HS.out.bb.c1; have e0 := HS.out.bc.c0; have e1 := HS.out.bc.c1; clear hB))
    | (go_at_call 24; first
      | (with_reducible refine (LB.out _).mono ?_; rintro e wx ⟨rfl, hB⟩; replace HS := hideL (HS.out.next hB); (try clear c0 c1 d0 d1 e0 e1); have c0 := HS.out.ba.c0; have c1 := HS.out.ba.c1; have d0 := HS.out.bb.c0; have d1 := HS.out.bb.c1; have e0 := HS.out.bc.c0; have e1 := HS.out.bc.c1; clear hB))
    | (go_at_call 9; first
      | (with_reducible refine (LW.out _).mono ?_; rintro e wx ⟨rfl, hB⟩; replace HS := hideL (HS.out.next hB); (try clear c0 c1 d0 d1 e0 e1); have c0 := HS.out.ba.c0; have c1 := HS.out.ba.c1; have d0 := HS.out.bb.c0; have d1 := HS.out.bb.c1; have e0 := HS.out.bc.c0; have e1 := HS.out.bc.c1; clear hB)))
  go_ret
  exact ⟨rfl, HS.out.be⟩
set_option maxRecDepth 100000 in
set_option maxHeartbeats 2000000 in
theorem goesOn_Ttf2 (a b c : Tm) (s : ByteArray) (w : World) (ha : a.t.size ≤ maxLen) (hb : b.t.size ≤ maxLen) (hc : c.t.size ≤ maxLen) (hs : s.size ≤ maxLen) (hL : longM s [a, b, c] = false) (hab : impM a b = true) (hmas : matM a s.data.toList = true) (hmbs : matM b s.data.toList = true) (hbc : impM b c = false) (hma : mayM a = true) (hmb : mayM b = true) (hba : impM b a = false) : Calls Try.prog 5 #[.agg #[.int .i64 a.k, .string a.t], .agg #[.int .i64 b.k, .string b.t], .agg #[.int .i64 c.k, .string c.t], .string s] w (LawPost w) := by
  unfold maxLen at *
  have LW := hideL awake_any
  have HS := hideL (S3.new w a b c)
  have LL0 := long_row s [a, b, c] (((w.alloc (.cells #[.int .i64 a.k, .string a.t] 23)).alloc (.cells #[.int .i64 b.k, .string b.t] 23)).alloc (.cells #[.int .i64 c.k, .string c.t] 23)) (show 3 ≤ maxLen by decide)
  have LL : HidL (Calls Try.prog 8 #[.string s, .slice (some ⟨w.heap.size + 1 + 1 + 1, 0, none⟩) 3 3] ((((w.alloc (.cells #[.int .i64 a.k, .string a.t] 23)).alloc (.cells #[.int .i64 b.k, .string b.t] 23)).alloc (.cells #[.int .i64 c.k, .string c.t] 23)).alloc (.cells #[.int .i64 a.k, .string a.t, .int .i64 b.k, .string b.t, .int .i64 c.k, .string c.t] 23)) (fun e w' => e = .returned (.bool (longM s [a, b, c])) ∧ Below (((w.alloc (.cells #[.int .i64 a.k, .string a.t] 23)).alloc (.cells #[.int .i64 b.k, .string b.t] 23)).alloc (.cells #[.int .i64 c.k, .string c.t] 23)).heap.size (((w.alloc (.cells #[.int .i64 a.k, .string a.t] 23)).alloc (.cells #[.int .i64 b.k, .string b.t] 23)).alloc (.cells #[.int .i64 c.k, .string c.t] 23)) w')) := hideL (by rw [World.size_alloc, World.size_alloc, World.size_alloc] at LL0; rw [World.size_alloc, World.size_alloc, World.size_alloc]; exact LL0)
  clear LL0
  rw [hL] at LL
  have IAB := hideL (implies_any a b (by omega) (by omega))
  rw [hab] at IAB
  have IAA := hideL (implies_any a a (by omega) (by omega))
  rw [imp_self] at IAA
  have MAS := hideL (matches_any a s (by omega) (by omega))
  rw [hmas] at MAS
  have MBS := hideL (matches_any b s (by omega) (by omega))
  rw [hmbs] at MBS
  have IBC := hideL (implies_any b c (by omega) (by omega))
  rw [hbc] at IBC
  have YA := hideL (may_any a (by omega))
  rw [hma] at YA
  have YB := hideL (may_any b (by omega))
  rw [hmb] at YB
  have IBA := hideL (implies_any b a (by omega) (by omega))
  rw [hba] at IBA
  have LB := hideL (beside_any a b (by omega) (by omega))
  unfold beV at LB
  have hS : besM a b = none := by
    have h := imp_bes a b
    rw [hab] at h
    cases hb : besM a b with
    | none => rfl
    | some S => rw [hb] at h; cases h
  rw [hS] at LB
  simp only [Option.getD_none, Option.isSome_none] at LB
  clear hS
  clear hL
  clear hab
  clear hmas
  clear hmbs
  clear hbc
  clear hma
  clear hmb
  clear hba
  obtain ⟨ka, ta⟩ := a
  obtain ⟨kb, tb⟩ := b
  obtain ⟨kc, tc⟩ := c
  dsimp only at *
  go_enter Try.func5, Try.ntmps5
  go_wp2_with (first
    | (go_at_call 8; first
      | (with_reducible refine LL.out.mono ?_; rintro e wx ⟨rfl, hB⟩; replace HS := hideL (HS.out.next hB); (try clear c0 c1 d0 d1 e0 e1); have c0 := HS.out.ba.c0; have c1 := HS.out.ba.c1; have d0 := HS.out.bb.c0; have d1 := HS.out.bb.c1; have e0 := HS.out.bc.c0; have e1 := HS.out.bc.c1; clear hB))
    | (go_at_call 25; first
      | (with_reducible refine (IAB.out _).mono ?_; rintro e wx ⟨rfl, hB⟩; replace HS := hideL (HS.out.next hB); (try clear c0 c1 d0 d1 e0 e1); have c0 := HS.out.ba.c0; have c1 := HS.out.ba.c1; have d0 := HS.out.bb.c0; have d1 := HS.out.bb.c1; have e0 := HS.out.bc.c0; have e1 := HS.out.bc.c1; clear hB)
      | (with_reducible refine (IAA.out _).mono ?_; rintro e wx ⟨rfl, hB⟩; replace HS := hideL (HS.out.next hB); (try clear c0 c1 d0 d1 e0 e1); have c0 := HS.out.ba.c0; have c1 := HS.out.ba.c1; have d0 := HS.out.bb.c0; have d1 := HS.out.bb.c1; have e0 := HS.out.bc.c0; have e1 := HS.out.bc.c1; clear hB)
      | (with_reducible refine (IBC.out _).mono ?_; rintro e wx ⟨rfl, hB⟩; replace HS := hideL (HS.out.next hB); (try clear c0 c1 d0 d1 e0 e1); have c0 := HS.out.ba.c0; have c1 := HS.out.ba.c1; have d0 := HS.out.bb.c0; have d1 := HS.out.bb.c1; have e0 := HS.out.bc.c0; have e1 := HS.out.bc.c1; clear hB)
      | (with_reducible refine (IBA.out _).mono ?_; rintro e wx ⟨rfl, hB⟩; replace HS := hideL (HS.out.next hB); (try clear c0 c1 d0 d1 e0 e1); have c0 := HS.out.ba.c0; have c1 := HS.out.ba.c1; have d0 := HS.out.bb.c0; have d1 := HS.out.bb.c1; have e0 := HS.out.bc.c0; have e1 := HS.out.bc.c1; clear hB))
    | (go_at_call 14; first
      | (with_reducible refine (MAS.out _).mono ?_; rintro e wx ⟨rfl, hB⟩; replace HS := hideL (HS.out.next hB); (try clear c0 c1 d0 d1 e0 e1); have c0 := HS.out.ba.c0; have c1 := HS.out.ba.c1; have d0 := HS.out.bb.c0; have d1 := HS.out.bb.c1; have e0 := HS.out.bc.c0; have e1 := HS.out.bc.c1; clear hB)
      | (with_reducible refine (MBS.out _).mono ?_; rintro e wx ⟨rfl, hB⟩; replace HS := hideL (HS.out.next hB); (try clear c0 c1 d0 d1 e0 e1); have c0 := HS.out.ba.c0; have c1 := HS.out.ba.c1; have d0 := HS.out.bb.c0; have d1 := HS.out.bb.c1; have e0 := HS.out.bc.c0; have e1 := HS.out.bc.c1; clear hB))
    | (go_at_call 10; first
      | (with_reducible refine (YA.out _).mono ?_; rintro e wx ⟨rfl, hB⟩; replace HS := hideL (HS.out.next hB); (try clear c0 c1 d0 d1 e0 e1); have c0 := HS.out.ba.c0; have c1 := HS.out.ba.c1; have d0 := HS.out.bb.c0; have d1 := HS.out.bb.c1; have e0 := HS.out.bc.c0; have e1 := HS.out.bc.c1; clear hB)
      | (with_reducible refine (YB.out _).mono ?_; rintro e wx ⟨rfl, hB⟩; replace HS := hideL (HS.out.next hB); (try clear c0 c1 d0 d1 e0 e1); have c0 := HS.out.ba.c0; have c1 := HS.out.ba.c1; have d0 := HS.out.bb.c0; have d1 := HS.out.bb.c1; have e0 := HS.out.bc.c0; have e1 := HS.out.bc.c1; clear hB))
    | (go_at_call 24; first
      | (with_reducible refine (LB.out _).mono ?_; rintro e wx ⟨rfl, hB⟩; replace HS := hideL (HS.out.next hB); (try clear c0 c1 d0 d1 e0 e1); have c0 := HS.out.ba.c0; have c1 := HS.out.ba.c1; have d0 := HS.out.bb.c0; have d1 := HS.out.bb.c1; have e0 := HS.out.bc.c0; have e1 := HS.out.bc.c1; clear hB))
    | (go_at_call 9; first
      | (with_reducible refine (LW.out _).mono ?_; rintro e wx ⟨rfl, hB⟩; replace HS := hideL (HS.out.next hB); (try clear c0 c1 d0 d1 e0 e1); have c0 := HS.out.ba.c0; have c1 := HS.out.ba.c1; have d0 := HS.out.bb.c0; have d1 := HS.out.bb.c1; have e0 := HS.out.bc.c0; have e1 := HS.out.bc.c1; clear hB)))
  go_ret
  exact ⟨rfl, HS.out.be⟩
set_option maxRecDepth 100000 in
set_option maxHeartbeats 2000000 in
theorem goesOn_Ttf3 (a c : Tm) (s : ByteArray) (w : World) (ha : a.t.size ≤ maxLen) (hc : c.t.size ≤ maxLen) (hs : s.size ≤ maxLen) (hL : longM s [a, a, c] = false) (hab : impM a a = true) (hmas : matM a s.data.toList = true) (hac : impM a c = false) (hma : mayM a = true) : Calls Try.prog 5 #[.agg #[.int .i64 a.k, .string a.t], .agg #[.int .i64 a.k, .string a.t], .agg #[.int .i64 c.k, .string c.t], .string s] w (LawPost w) := by
  unfold maxLen at *
  have LW := hideL awake_any
  have HS := hideL (S3.new w a a c)
  have LL0 := long_row s [a, a, c] (((w.alloc (.cells #[.int .i64 a.k, .string a.t] 23)).alloc (.cells #[.int .i64 a.k, .string a.t] 23)).alloc (.cells #[.int .i64 c.k, .string c.t] 23)) (show 3 ≤ maxLen by decide)
  have LL : HidL (Calls Try.prog 8 #[.string s, .slice (some ⟨w.heap.size + 1 + 1 + 1, 0, none⟩) 3 3] ((((w.alloc (.cells #[.int .i64 a.k, .string a.t] 23)).alloc (.cells #[.int .i64 a.k, .string a.t] 23)).alloc (.cells #[.int .i64 c.k, .string c.t] 23)).alloc (.cells #[.int .i64 a.k, .string a.t, .int .i64 a.k, .string a.t, .int .i64 c.k, .string c.t] 23)) (fun e w' => e = .returned (.bool (longM s [a, a, c])) ∧ Below (((w.alloc (.cells #[.int .i64 a.k, .string a.t] 23)).alloc (.cells #[.int .i64 a.k, .string a.t] 23)).alloc (.cells #[.int .i64 c.k, .string c.t] 23)).heap.size (((w.alloc (.cells #[.int .i64 a.k, .string a.t] 23)).alloc (.cells #[.int .i64 a.k, .string a.t] 23)).alloc (.cells #[.int .i64 c.k, .string c.t] 23)) w')) := hideL (by rw [World.size_alloc, World.size_alloc, World.size_alloc] at LL0; rw [World.size_alloc, World.size_alloc, World.size_alloc]; exact LL0)
  clear LL0
  rw [hL] at LL
  have IAA := hideL (implies_any a a (by omega) (by omega))
  rw [hab] at IAA
  have MAS := hideL (matches_any a s (by omega) (by omega))
  rw [hmas] at MAS
  have IAC := hideL (implies_any a c (by omega) (by omega))
  rw [hac] at IAC
  have YA := hideL (may_any a (by omega))
  rw [hma] at YA
  have LB := hideL (beside_any a a (by omega) (by omega))
  unfold beV at LB
  have hS : besM a a = none := by
    have h := imp_bes a a
    rw [hab] at h
    cases hb : besM a a with
    | none => rfl
    | some S => rw [hb] at h; cases h
  rw [hS] at LB
  simp only [Option.getD_none, Option.isSome_none] at LB
  clear hS
  clear hL
  clear hab
  clear hmas
  clear hac
  clear hma
  obtain ⟨ka, ta⟩ := a
  obtain ⟨kc, tc⟩ := c
  dsimp only at *
  go_enter Try.func5, Try.ntmps5
  go_wp2_with (first
    | (go_at_call 8; first
      | (with_reducible refine LL.out.mono ?_; rintro e wx ⟨rfl, hB⟩; replace HS := hideL (HS.out.next hB); (try clear c0 c1 d0 d1 e0 e1); have c0 := HS.out.ba.c0; have c1 := HS.out.ba.c1; have d0 := HS.out.bb.c0; have d1 := HS.out.bb.c1; have e0 := HS.out.bc.c0; have e1 := HS.out.bc.c1; clear hB))
    | (go_at_call 25; first
      | (with_reducible refine (IAA.out _).mono ?_; rintro e wx ⟨rfl, hB⟩; replace HS := hideL (HS.out.next hB); (try clear c0 c1 d0 d1 e0 e1); have c0 := HS.out.ba.c0; have c1 := HS.out.ba.c1; have d0 := HS.out.bb.c0; have d1 := HS.out.bb.c1; have e0 := HS.out.bc.c0; have e1 := HS.out.bc.c1; clear hB)
      | (with_reducible refine (IAC.out _).mono ?_; rintro e wx ⟨rfl, hB⟩; replace HS := hideL (HS.out.next hB); (try clear c0 c1 d0 d1 e0 e1); have c0 := HS.out.ba.c0; have c1 := HS.out.ba.c1; have d0 := HS.out.bb.c0; have d1 := HS.out.bb.c1; have e0 := HS.out.bc.c0; have e1 := HS.out.bc.c1; clear hB))
    | (go_at_call 14; first
      | (with_reducible refine (MAS.out _).mono ?_; rintro e wx ⟨rfl, hB⟩; replace HS := hideL (HS.out.next hB); (try clear c0 c1 d0 d1 e0 e1); have c0 := HS.out.ba.c0; have c1 := HS.out.ba.c1; have d0 := HS.out.bb.c0; have d1 := HS.out.bb.c1; have e0 := HS.out.bc.c0; have e1 := HS.out.bc.c1; clear hB))
    | (go_at_call 10; first
      | (with_reducible refine (YA.out _).mono ?_; rintro e wx ⟨rfl, hB⟩; replace HS := hideL (HS.out.next hB); (try clear c0 c1 d0 d1 e0 e1); have c0 := HS.out.ba.c0; have c1 := HS.out.ba.c1; have d0 := HS.out.bb.c0; have d1 := HS.out.bb.c1; have e0 := HS.out.bc.c0; have e1 := HS.out.bc.c1; clear hB))
    | (go_at_call 24; first
      | (with_reducible refine (LB.out _).mono ?_; rintro e wx ⟨rfl, hB⟩; replace HS := hideL (HS.out.next hB); (try clear c0 c1 d0 d1 e0 e1); have c0 := HS.out.ba.c0; have c1 := HS.out.ba.c1; have d0 := HS.out.bb.c0; have d1 := HS.out.bb.c1; have e0 := HS.out.bc.c0; have e1 := HS.out.bc.c1; clear hB))
    | (go_at_call 9; first
      | (with_reducible refine (LW.out _).mono ?_; rintro e wx ⟨rfl, hB⟩; replace HS := hideL (HS.out.next hB); (try clear c0 c1 d0 d1 e0 e1); have c0 := HS.out.ba.c0; have c1 := HS.out.ba.c1; have d0 := HS.out.bb.c0; have d1 := HS.out.bb.c1; have e0 := HS.out.bc.c0; have e1 := HS.out.bc.c1; clear hB)))
  go_ret
  exact ⟨rfl, HS.out.be⟩
set_option maxRecDepth 100000 in
set_option maxHeartbeats 2000000 in
theorem goesOn_Ttt1 (a b c : Tm) (s : ByteArray) (w : World) (ha : a.t.size ≤ maxLen) (hb : b.t.size ≤ maxLen) (hc : c.t.size ≤ maxLen) (hs : s.size ≤ maxLen) (hL : longM s [a, b, c] = false) (hab : impM a b = true) (hmas : matM a s.data.toList = true) (hmbs : matM b s.data.toList = true) (hbc : impM b c = true) (hac : impM a c = true) (hma : mayM a = false) : Calls Try.prog 5 #[.agg #[.int .i64 a.k, .string a.t], .agg #[.int .i64 b.k, .string b.t], .agg #[.int .i64 c.k, .string c.t], .string s] w (LawPost w) := by
  unfold maxLen at *
  have LW := hideL awake_any
  have HS := hideL (S3.new w a b c)
  have LL0 := long_row s [a, b, c] (((w.alloc (.cells #[.int .i64 a.k, .string a.t] 23)).alloc (.cells #[.int .i64 b.k, .string b.t] 23)).alloc (.cells #[.int .i64 c.k, .string c.t] 23)) (show 3 ≤ maxLen by decide)
  have LL : HidL (Calls Try.prog 8 #[.string s, .slice (some ⟨w.heap.size + 1 + 1 + 1, 0, none⟩) 3 3] ((((w.alloc (.cells #[.int .i64 a.k, .string a.t] 23)).alloc (.cells #[.int .i64 b.k, .string b.t] 23)).alloc (.cells #[.int .i64 c.k, .string c.t] 23)).alloc (.cells #[.int .i64 a.k, .string a.t, .int .i64 b.k, .string b.t, .int .i64 c.k, .string c.t] 23)) (fun e w' => e = .returned (.bool (longM s [a, b, c])) ∧ Below (((w.alloc (.cells #[.int .i64 a.k, .string a.t] 23)).alloc (.cells #[.int .i64 b.k, .string b.t] 23)).alloc (.cells #[.int .i64 c.k, .string c.t] 23)).heap.size (((w.alloc (.cells #[.int .i64 a.k, .string a.t] 23)).alloc (.cells #[.int .i64 b.k, .string b.t] 23)).alloc (.cells #[.int .i64 c.k, .string c.t] 23)) w')) := hideL (by rw [World.size_alloc, World.size_alloc, World.size_alloc] at LL0; rw [World.size_alloc, World.size_alloc, World.size_alloc]; exact LL0)
  clear LL0
  rw [hL] at LL
  have IAB := hideL (implies_any a b (by omega) (by omega))
  rw [hab] at IAB
  have IAA := hideL (implies_any a a (by omega) (by omega))
  rw [imp_self] at IAA
  have MAS := hideL (matches_any a s (by omega) (by omega))
  rw [hmas] at MAS
  have MBS := hideL (matches_any b s (by omega) (by omega))
  rw [hmbs] at MBS
  have IBC := hideL (implies_any b c (by omega) (by omega))
  rw [hbc] at IBC
  have IAC := hideL (implies_any a c (by omega) (by omega))
  rw [hac] at IAC
  have YA := hideL (may_any a (by omega))
  rw [hma] at YA
  have LB := hideL (beside_any a b (by omega) (by omega))
  unfold beV at LB
  have hS : besM a b = none := by
    have h := imp_bes a b
    rw [hab] at h
    cases hb : besM a b with
    | none => rfl
    | some S => rw [hb] at h; cases h
  rw [hS] at LB
  simp only [Option.getD_none, Option.isSome_none] at LB
  clear hS
  clear hL
  clear hab
  clear hmas
  clear hmbs
  clear hbc
  clear hac
  clear hma
  obtain ⟨ka, ta⟩ := a
  obtain ⟨kb, tb⟩ := b
  obtain ⟨kc, tc⟩ := c
  dsimp only at *
  go_enter Try.func5, Try.ntmps5
  go_wp2_with (first
    | (go_at_call 8; first
      | (with_reducible refine LL.out.mono ?_; rintro e wx ⟨rfl, hB⟩; replace HS := hideL (HS.out.next hB); (try clear c0 c1 d0 d1 e0 e1); have c0 := HS.out.ba.c0; have c1 := HS.out.ba.c1; have d0 := HS.out.bb.c0; have d1 := HS.out.bb.c1; have e0 := HS.out.bc.c0; have e1 := HS.out.bc.c1; clear hB))
    | (go_at_call 25; first
      | (with_reducible refine (IAB.out _).mono ?_; rintro e wx ⟨rfl, hB⟩; replace HS := hideL (HS.out.next hB); (try clear c0 c1 d0 d1 e0 e1); have c0 := HS.out.ba.c0; have c1 := HS.out.ba.c1; have d0 := HS.out.bb.c0; have d1 := HS.out.bb.c1; have e0 := HS.out.bc.c0; have e1 := HS.out.bc.c1; clear hB)
      | (with_reducible refine (IAA.out _).mono ?_; rintro e wx ⟨rfl, hB⟩; replace HS := hideL (HS.out.next hB); (try clear c0 c1 d0 d1 e0 e1); have c0 := HS.out.ba.c0; have c1 := HS.out.ba.c1; have d0 := HS.out.bb.c0; have d1 := HS.out.bb.c1; have e0 := HS.out.bc.c0; have e1 := HS.out.bc.c1; clear hB)
      | (with_reducible refine (IBC.out _).mono ?_; rintro e wx ⟨rfl, hB⟩; replace HS := hideL (HS.out.next hB); (try clear c0 c1 d0 d1 e0 e1); have c0 := HS.out.ba.c0; have c1 := HS.out.ba.c1; have d0 := HS.out.bb.c0; have d1 := HS.out.bb.c1; have e0 := HS.out.bc.c0; have e1 := HS.out.bc.c1; clear hB)
      | (with_reducible refine (IAC.out _).mono ?_; rintro e wx ⟨rfl, hB⟩; replace HS := hideL (HS.out.next hB); (try clear c0 c1 d0 d1 e0 e1); have c0 := HS.out.ba.c0; have c1 := HS.out.ba.c1; have d0 := HS.out.bb.c0; have d1 := HS.out.bb.c1; have e0 := HS.out.bc.c0; have e1 := HS.out.bc.c1; clear hB))
    | (go_at_call 14; first
      | (with_reducible refine (MAS.out _).mono ?_; rintro e wx ⟨rfl, hB⟩; replace HS := hideL (HS.out.next hB); (try clear c0 c1 d0 d1 e0 e1); have c0 := HS.out.ba.c0; have c1 := HS.out.ba.c1; have d0 := HS.out.bb.c0; have d1 := HS.out.bb.c1; have e0 := HS.out.bc.c0; have e1 := HS.out.bc.c1; clear hB)
      | (with_reducible refine (MBS.out _).mono ?_; rintro e wx ⟨rfl, hB⟩; replace HS := hideL (HS.out.next hB); (try clear c0 c1 d0 d1 e0 e1); have c0 := HS.out.ba.c0; have c1 := HS.out.ba.c1; have d0 := HS.out.bb.c0; have d1 := HS.out.bb.c1; have e0 := HS.out.bc.c0; have e1 := HS.out.bc.c1; clear hB))
    | (go_at_call 10; first
      | (with_reducible refine (YA.out _).mono ?_; rintro e wx ⟨rfl, hB⟩; replace HS := hideL (HS.out.next hB); (try clear c0 c1 d0 d1 e0 e1); have c0 := HS.out.ba.c0; have c1 := HS.out.ba.c1; have d0 := HS.out.bb.c0; have d1 := HS.out.bb.c1; have e0 := HS.out.bc.c0; have e1 := HS.out.bc.c1; clear hB))
    | (go_at_call 24; first
      | (with_reducible refine (LB.out _).mono ?_; rintro e wx ⟨rfl, hB⟩; replace HS := hideL (HS.out.next hB); (try clear c0 c1 d0 d1 e0 e1); have c0 := HS.out.ba.c0; have c1 := HS.out.ba.c1; have d0 := HS.out.bb.c0; have d1 := HS.out.bb.c1; have e0 := HS.out.bc.c0; have e1 := HS.out.bc.c1; clear hB))
    | (go_at_call 9; first
      | (with_reducible refine (LW.out _).mono ?_; rintro e wx ⟨rfl, hB⟩; replace HS := hideL (HS.out.next hB); (try clear c0 c1 d0 d1 e0 e1); have c0 := HS.out.ba.c0; have c1 := HS.out.ba.c1; have d0 := HS.out.bb.c0; have d1 := HS.out.bb.c1; have e0 := HS.out.bc.c0; have e1 := HS.out.bc.c1; clear hB)))
  go_ret
  exact ⟨rfl, HS.out.be⟩
set_option maxRecDepth 100000 in
set_option maxHeartbeats 2000000 in
theorem goesOn_Ttt2 (a b c : Tm) (s : ByteArray) (w : World) (ha : a.t.size ≤ maxLen) (hb : b.t.size ≤ maxLen) (hc : c.t.size ≤ maxLen) (hs : s.size ≤ maxLen) (hL : longM s [a, b, c] = false) (hab : impM a b = true) (hmas : matM a s.data.toList = true) (hmbs : matM b s.data.toList = true) (hbc : impM b c = true) (hac : impM a c = true) (hma : mayM a = true) (hmb : mayM b = true) (hba : impM b a = false) : Calls Try.prog 5 #[.agg #[.int .i64 a.k, .string a.t], .agg #[.int .i64 b.k, .string b.t], .agg #[.int .i64 c.k, .string c.t], .string s] w (LawPost w) := by
  unfold maxLen at *
  have LW := hideL awake_any
  have HS := hideL (S3.new w a b c)
  have LL0 := long_row s [a, b, c] (((w.alloc (.cells #[.int .i64 a.k, .string a.t] 23)).alloc (.cells #[.int .i64 b.k, .string b.t] 23)).alloc (.cells #[.int .i64 c.k, .string c.t] 23)) (show 3 ≤ maxLen by decide)
  have LL : HidL (Calls Try.prog 8 #[.string s, .slice (some ⟨w.heap.size + 1 + 1 + 1, 0, none⟩) 3 3] ((((w.alloc (.cells #[.int .i64 a.k, .string a.t] 23)).alloc (.cells #[.int .i64 b.k, .string b.t] 23)).alloc (.cells #[.int .i64 c.k, .string c.t] 23)).alloc (.cells #[.int .i64 a.k, .string a.t, .int .i64 b.k, .string b.t, .int .i64 c.k, .string c.t] 23)) (fun e w' => e = .returned (.bool (longM s [a, b, c])) ∧ Below (((w.alloc (.cells #[.int .i64 a.k, .string a.t] 23)).alloc (.cells #[.int .i64 b.k, .string b.t] 23)).alloc (.cells #[.int .i64 c.k, .string c.t] 23)).heap.size (((w.alloc (.cells #[.int .i64 a.k, .string a.t] 23)).alloc (.cells #[.int .i64 b.k, .string b.t] 23)).alloc (.cells #[.int .i64 c.k, .string c.t] 23)) w')) := hideL (by rw [World.size_alloc, World.size_alloc, World.size_alloc] at LL0; rw [World.size_alloc, World.size_alloc, World.size_alloc]; exact LL0)
  clear LL0
  rw [hL] at LL
  have IAB := hideL (implies_any a b (by omega) (by omega))
  rw [hab] at IAB
  have IAA := hideL (implies_any a a (by omega) (by omega))
  rw [imp_self] at IAA
  have MAS := hideL (matches_any a s (by omega) (by omega))
  rw [hmas] at MAS
  have MBS := hideL (matches_any b s (by omega) (by omega))
  rw [hmbs] at MBS
  have IBC := hideL (implies_any b c (by omega) (by omega))
  rw [hbc] at IBC
  have IAC := hideL (implies_any a c (by omega) (by omega))
  rw [hac] at IAC
  have YA := hideL (may_any a (by omega))
  rw [hma] at YA
  have YB := hideL (may_any b (by omega))
  rw [hmb] at YB
  have IBA := hideL (implies_any b a (by omega) (by omega))
  rw [hba] at IBA
  have LB := hideL (beside_any a b (by omega) (by omega))
  unfold beV at LB
  have hS : besM a b = none := by
    have h := imp_bes a b
    rw [hab] at h
    cases hb : besM a b with
    | none => rfl
    | some S => rw [hb] at h; cases h
  rw [hS] at LB
  simp only [Option.getD_none, Option.isSome_none] at LB
  clear hS
  clear hL
  clear hab
  clear hmas
  clear hmbs
  clear hbc
  clear hac
  clear hma
  clear hmb
  clear hba
  obtain ⟨ka, ta⟩ := a
  obtain ⟨kb, tb⟩ := b
  obtain ⟨kc, tc⟩ := c
  dsimp only at *
  go_enter Try.func5, Try.ntmps5
  go_wp2_with (first
    | (go_at_call 8; first
      | (with_reducible refine LL.out.mono ?_; rintro e wx ⟨rfl, hB⟩; replace HS := hideL (HS.out.next hB); (try clear c0 c1 d0 d1 e0 e1); have c0 := HS.out.ba.c0; have c1 := HS.out.ba.c1; have d0 := HS.out.bb.c0; have d1 := HS.out.bb.c1; have e0 := HS.out.bc.c0; have e1 := HS.out.bc.c1; clear hB))
    | (go_at_call 25; first
      | (with_reducible refine (IAB.out _).mono ?_; rintro e wx ⟨rfl, hB⟩; replace HS := hideL (HS.out.next hB); (try clear c0 c1 d0 d1 e0 e1); have c0 := HS.out.ba.c0; have c1 := HS.out.ba.c1; have d0 := HS.out.bb.c0; have d1 := HS.out.bb.c1; have e0 := HS.out.bc.c0; have e1 := HS.out.bc.c1; clear hB)
      | (with_reducible refine (IAA.out _).mono ?_; rintro e wx ⟨rfl, hB⟩; replace HS := hideL (HS.out.next hB); (try clear c0 c1 d0 d1 e0 e1); have c0 := HS.out.ba.c0; have c1 := HS.out.ba.c1; have d0 := HS.out.bb.c0; have d1 := HS.out.bb.c1; have e0 := HS.out.bc.c0; have e1 := HS.out.bc.c1; clear hB)
      | (with_reducible refine (IBC.out _).mono ?_; rintro e wx ⟨rfl, hB⟩; replace HS := hideL (HS.out.next hB); (try clear c0 c1 d0 d1 e0 e1); have c0 := HS.out.ba.c0; have c1 := HS.out.ba.c1; have d0 := HS.out.bb.c0; have d1 := HS.out.bb.c1; have e0 := HS.out.bc.c0; have e1 := HS.out.bc.c1; clear hB)
      | (with_reducible refine (IAC.out _).mono ?_; rintro e wx ⟨rfl, hB⟩; replace HS := hideL (HS.out.next hB); (try clear c0 c1 d0 d1 e0 e1); have c0 := HS.out.ba.c0; have c1 := HS.out.ba.c1; have d0 := HS.out.bb.c0; have d1 := HS.out.bb.c1; have e0 := HS.out.bc.c0; have e1 := HS.out.bc.c1; clear hB)
      | (with_reducible refine (IBA.out _).mono ?_; rintro e wx ⟨rfl, hB⟩; replace HS := hideL (HS.out.next hB); (try clear c0 c1 d0 d1 e0 e1); have c0 := HS.out.ba.c0; have c1 := HS.out.ba.c1; have d0 := HS.out.bb.c0; have d1 := HS.out.bb.c1; have e0 := HS.out.bc.c0; have e1 := HS.out.bc.c1; clear hB))
    | (go_at_call 14; first
      | (with_reducible refine (MAS.out _).mono ?_; rintro e wx ⟨rfl, hB⟩; replace HS := hideL (HS.out.next hB); (try clear c0 c1 d0 d1 e0 e1); have c0 := HS.out.ba.c0; have c1 := HS.out.ba.c1; have d0 := HS.out.bb.c0; have d1 := HS.out.bb.c1; have e0 := HS.out.bc.c0; have e1 := HS.out.bc.c1; clear hB)
      | (with_reducible refine (MBS.out _).mono ?_; rintro e wx ⟨rfl, hB⟩; replace HS := hideL (HS.out.next hB); (try clear c0 c1 d0 d1 e0 e1); have c0 := HS.out.ba.c0; have c1 := HS.out.ba.c1; have d0 := HS.out.bb.c0; have d1 := HS.out.bb.c1; have e0 := HS.out.bc.c0; have e1 := HS.out.bc.c1; clear hB))
    | (go_at_call 10; first
      | (with_reducible refine (YA.out _).mono ?_; rintro e wx ⟨rfl, hB⟩; replace HS := hideL (HS.out.next hB); (try clear c0 c1 d0 d1 e0 e1); have c0 := HS.out.ba.c0; have c1 := HS.out.ba.c1; have d0 := HS.out.bb.c0; have d1 := HS.out.bb.c1; have e0 := HS.out.bc.c0; have e1 := HS.out.bc.c1; clear hB)
      | (with_reducible refine (YB.out _).mono ?_; rintro e wx ⟨rfl, hB⟩; replace HS := hideL (HS.out.next hB); (try clear c0 c1 d0 d1 e0 e1); have c0 := HS.out.ba.c0; have c1 := HS.out.ba.c1; have d0 := HS.out.bb.c0; have d1 := HS.out.bb.c1; have e0 := HS.out.bc.c0; have e1 := HS.out.bc.c1; clear hB))
    | (go_at_call 24; first
      | (with_reducible refine (LB.out _).mono ?_; rintro e wx ⟨rfl, hB⟩; replace HS := hideL (HS.out.next hB); (try clear c0 c1 d0 d1 e0 e1); have c0 := HS.out.ba.c0; have c1 := HS.out.ba.c1; have d0 := HS.out.bb.c0; have d1 := HS.out.bb.c1; have e0 := HS.out.bc.c0; have e1 := HS.out.bc.c1; clear hB))
    | (go_at_call 9; first
      | (with_reducible refine (LW.out _).mono ?_; rintro e wx ⟨rfl, hB⟩; replace HS := hideL (HS.out.next hB); (try clear c0 c1 d0 d1 e0 e1); have c0 := HS.out.ba.c0; have c1 := HS.out.ba.c1; have d0 := HS.out.bb.c0; have d1 := HS.out.bb.c1; have e0 := HS.out.bc.c0; have e1 := HS.out.bc.c1; clear hB)))
  go_ret
  exact ⟨rfl, HS.out.be⟩
set_option maxRecDepth 100000 in
set_option maxHeartbeats 2000000 in
theorem goesOn_Ttt3 (a c : Tm) (s : ByteArray) (w : World) (ha : a.t.size ≤ maxLen) (hc : c.t.size ≤ maxLen) (hs : s.size ≤ maxLen) (hL : longM s [a, a, c] = false) (hab : impM a a = true) (hmas : matM a s.data.toList = true) (hac : impM a c = true) (hma : mayM a = true) : Calls Try.prog 5 #[.agg #[.int .i64 a.k, .string a.t], .agg #[.int .i64 a.k, .string a.t], .agg #[.int .i64 c.k, .string c.t], .string s] w (LawPost w) := by
  unfold maxLen at *
  have LW := hideL awake_any
  have HS := hideL (S3.new w a a c)
  have LL0 := long_row s [a, a, c] (((w.alloc (.cells #[.int .i64 a.k, .string a.t] 23)).alloc (.cells #[.int .i64 a.k, .string a.t] 23)).alloc (.cells #[.int .i64 c.k, .string c.t] 23)) (show 3 ≤ maxLen by decide)
  have LL : HidL (Calls Try.prog 8 #[.string s, .slice (some ⟨w.heap.size + 1 + 1 + 1, 0, none⟩) 3 3] ((((w.alloc (.cells #[.int .i64 a.k, .string a.t] 23)).alloc (.cells #[.int .i64 a.k, .string a.t] 23)).alloc (.cells #[.int .i64 c.k, .string c.t] 23)).alloc (.cells #[.int .i64 a.k, .string a.t, .int .i64 a.k, .string a.t, .int .i64 c.k, .string c.t] 23)) (fun e w' => e = .returned (.bool (longM s [a, a, c])) ∧ Below (((w.alloc (.cells #[.int .i64 a.k, .string a.t] 23)).alloc (.cells #[.int .i64 a.k, .string a.t] 23)).alloc (.cells #[.int .i64 c.k, .string c.t] 23)).heap.size (((w.alloc (.cells #[.int .i64 a.k, .string a.t] 23)).alloc (.cells #[.int .i64 a.k, .string a.t] 23)).alloc (.cells #[.int .i64 c.k, .string c.t] 23)) w')) := hideL (by rw [World.size_alloc, World.size_alloc, World.size_alloc] at LL0; rw [World.size_alloc, World.size_alloc, World.size_alloc]; exact LL0)
  clear LL0
  rw [hL] at LL
  have IAA := hideL (implies_any a a (by omega) (by omega))
  rw [hab] at IAA
  have MAS := hideL (matches_any a s (by omega) (by omega))
  rw [hmas] at MAS
  have IAC := hideL (implies_any a c (by omega) (by omega))
  rw [hac] at IAC
  have YA := hideL (may_any a (by omega))
  rw [hma] at YA
  have LB := hideL (beside_any a a (by omega) (by omega))
  unfold beV at LB
  have hS : besM a a = none := by
    have h := imp_bes a a
    rw [hab] at h
    cases hb : besM a a with
    | none => rfl
    | some S => rw [hb] at h; cases h
  rw [hS] at LB
  simp only [Option.getD_none, Option.isSome_none] at LB
  clear hS
  clear hL
  clear hab
  clear hmas
  clear hac
  clear hma
  obtain ⟨ka, ta⟩ := a
  obtain ⟨kc, tc⟩ := c
  dsimp only at *
  go_enter Try.func5, Try.ntmps5
  go_wp2_with (first
    | (go_at_call 8; first
      | (with_reducible refine LL.out.mono ?_; rintro e wx ⟨rfl, hB⟩; replace HS := hideL (HS.out.next hB); (try clear c0 c1 d0 d1 e0 e1); have c0 := HS.out.ba.c0; have c1 := HS.out.ba.c1; have d0 := HS.out.bb.c0; have d1 := HS.out.bb.c1; have e0 := HS.out.bc.c0; have e1 := HS.out.bc.c1; clear hB))
    | (go_at_call 25; first
      | (with_reducible refine (IAA.out _).mono ?_; rintro e wx ⟨rfl, hB⟩; replace HS := hideL (HS.out.next hB); (try clear c0 c1 d0 d1 e0 e1); have c0 := HS.out.ba.c0; have c1 := HS.out.ba.c1; have d0 := HS.out.bb.c0; have d1 := HS.out.bb.c1; have e0 := HS.out.bc.c0; have e1 := HS.out.bc.c1; clear hB)
      | (with_reducible refine (IAC.out _).mono ?_; rintro e wx ⟨rfl, hB⟩; replace HS := hideL (HS.out.next hB); (try clear c0 c1 d0 d1 e0 e1); have c0 := HS.out.ba.c0; have c1 := HS.out.ba.c1; have d0 := HS.out.bb.c0; have d1 := HS.out.bb.c1; have e0 := HS.out.bc.c0; have e1 := HS.out.bc.c1; clear hB))
    | (go_at_call 14; first
      | (with_reducible refine (MAS.out _).mono ?_; rintro e wx ⟨rfl, hB⟩; replace HS := hideL (HS.out.next hB); (try clear c0 c1 d0 d1 e0 e1); have c0 := HS.out.ba.c0; have c1 := HS.out.ba.c1; have d0 := HS.out.bb.c0; have d1 := HS.out.bb.c1; have e0 := HS.out.bc.c0; have e1 := HS.out.bc.c1; clear hB))
    | (go_at_call 10; first
      | (with_reducible refine (YA.out _).mono ?_; rintro e wx ⟨rfl, hB⟩; replace HS := hideL (HS.out.next hB); (try clear c0 c1 d0 d1 e0 e1); have c0 := HS.out.ba.c0; have c1 := HS.out.ba.c1; have d0 := HS.out.bb.c0; have d1 := HS.out.bb.c1; have e0 := HS.out.bc.c0; have e1 := HS.out.bc.c1; clear hB))
    | (go_at_call 24; first
      | (with_reducible refine (LB.out _).mono ?_; rintro e wx ⟨rfl, hB⟩; replace HS := hideL (HS.out.next hB); (try clear c0 c1 d0 d1 e0 e1); have c0 := HS.out.ba.c0; have c1 := HS.out.ba.c1; have d0 := HS.out.bb.c0; have d1 := HS.out.bb.c1; have e0 := HS.out.bc.c0; have e1 := HS.out.bc.c1; clear hB))
    | (go_at_call 9; first
      | (with_reducible refine (LW.out _).mono ?_; rintro e wx ⟨rfl, hB⟩; replace HS := hideL (HS.out.next hB); (try clear c0 c1 d0 d1 e0 e1); have c0 := HS.out.ba.c0; have c1 := HS.out.ba.c1; have d0 := HS.out.bb.c0; have d1 := HS.out.bb.c1; have e0 := HS.out.bc.c0; have e1 := HS.out.bc.c1; clear hB)))
  go_ret
  exact ⟨rfl, HS.out.be⟩
theorem matchGoesOn_walk (a b c : Tm) (s : ByteArray) (w : World) (ha : a.t.size ≤ maxLen) (hb : b.t.size ≤ maxLen) (hc : c.t.size ≤ maxLen) (hs : s.size ≤ maxLen) : Calls Try.prog 5 #[.agg #[.int .i64 a.k, .string a.t], .agg #[.int .i64 b.k, .string b.t], .agg #[.int .i64 c.k, .string c.t], .string s] w (LawPost w) := by
  cases hL : longM s [a, b, c] with
  | true => exact goesOn_long a b c s w ha hb hc hs hL
  | false =>
    cases hab : impM a b with
    | false =>
      have hma : mayM a = true := by
        cases h : mayM a with
        | true => rfl
        | false =>
          unfold impM at hab
          rw [h] at hab
          cases hab
      cases hmb : mayM b with
      | false => exact goesOn_Ff a b c s w ha hb hc hs hL hab hma hmb
      | true => exact goesOn_Ft a b c s w ha hb hc hs hL hab hma hmb
    | true =>
      have hgo : mayM a = true → mayM b = true := by
        intro h
        cases hmb : mayM b with
        | true => rfl
        | false =>
          unfold impM at hab
          rw [h, hmb] at hab
          cases hab
      cases hmas : matM a s.data.toList with
      | false =>
        cases hbc : impM b c with
        | false =>
          cases hma : mayM a with
          | false => exact goesOn_Tff1 a b c s w ha hb hc hs hL hab hmas hbc hma
          | true =>
            cases hba : impM b a with
            | false => exact goesOn_Tff2 a b c s w ha hb hc hs hL hab hmas hbc hma (hgo hma) hba
            | true =>
              have e := imp_anti hma (hgo hma) hab hba
              subst e
              exact goesOn_Tff3 a c s w ha hc hs hL hab hmas hbc hma
        | true =>
          cases hma : mayM a with
          | false => exact goesOn_Tft1 a b c s w ha hb hc hs hL hab hmas hbc (imp_trans hab hbc) hma
          | true =>
            cases hba : impM b a with
            | false => exact goesOn_Tft2 a b c s w ha hb hc hs hL hab hmas hbc (imp_trans hab hbc) hma (hgo hma) hba
            | true =>
              have e := imp_anti hma (hgo hma) hab hba
              subst e
              exact goesOn_Tft3 a c s w ha hc hs hL hab hmas hbc hma
      | true =>
        cases hbc : impM b c with
        | false =>
          cases hma : mayM a with
          | false => exact goesOn_Ttf1 a b c s w ha hb hc hs hL hab hmas (impM_sound hab hmas) hbc hma
          | true =>
            cases hba : impM b a with
            | false => exact goesOn_Ttf2 a b c s w ha hb hc hs hL hab hmas (impM_sound hab hmas) hbc hma (hgo hma) hba
            | true =>
              have e := imp_anti hma (hgo hma) hab hba
              subst e
              exact goesOn_Ttf3 a c s w ha hc hs hL hab hmas hbc hma
        | true =>
          cases hma : mayM a with
          | false => exact goesOn_Ttt1 a b c s w ha hb hc hs hL hab hmas (impM_sound hab hmas) hbc (imp_trans hab hbc) hma
          | true =>
            cases hba : impM b a with
            | false => exact goesOn_Ttt2 a b c s w ha hb hc hs hL hab hmas (impM_sound hab hmas) hbc (imp_trans hab hbc) hma (hgo hma) hba
            | true =>
              have e := imp_anti hma (hgo hma) hab hba
              subst e
              exact goesOn_Ttt3 a c s w ha hc hs hL hab hmas hbc hma
end Go.Proofs.Ytffbmkocmjpmeaa
