/- The law MatchImplies (P7.3). -/
import Derived.Test.YtffbmkocmjpmeaaMtLaw
namespace Go.Proofs.Ytffbmkocmjpmeaa
open Go.RowKit

set_option maxRecDepth 100000 in
set_option maxHeartbeats 2000000 in
theorem matchImplies_walk (a b : Tm) (w : World) (ha : a.t.size ≤ maxLen) (hb : b.t.size ≤ maxLen) : Calls Try.prog 4 #[.agg #[.int .i64 a.k, .string a.t], .agg #[.int .i64 b.k, .string b.t]] w (LawPost w) := by
  unfold maxLen at ha hb
  have LW := hideL awake_any
  have HS := hideL (S2.new w a b)
  have LL0 := long_row ⟨#[]⟩ [a, b] ((w.alloc (.cells #[.int .i64 a.k, .string a.t] 23)).alloc (.cells #[.int .i64 b.k, .string b.t] 23)) (show 2 ≤ maxLen by decide)
  have LL : HidL (Calls Try.prog 8 #[.string ⟨#[]⟩, .slice (some ⟨w.heap.size + 1 + 1, 0, none⟩) 2 2] (((w.alloc (.cells #[.int .i64 a.k, .string a.t] 23)).alloc (.cells #[.int .i64 b.k, .string b.t] 23)).alloc (.cells #[.int .i64 a.k, .string a.t, .int .i64 b.k, .string b.t] 23)) (fun e w' => e = .returned (.bool (longM ⟨#[]⟩ [a, b])) ∧ Below ((w.alloc (.cells #[.int .i64 a.k, .string a.t] 23)).alloc (.cells #[.int .i64 b.k, .string b.t] 23)).heap.size ((w.alloc (.cells #[.int .i64 a.k, .string a.t] 23)).alloc (.cells #[.int .i64 b.k, .string b.t] 23)) w')) := hideL (by rw [World.size_alloc, World.size_alloc] at LL0; rw [World.size_alloc, World.size_alloc]; exact LL0)
  clear LL0
  have LR := hideL (impliesR_any a b (by omega) (by omega))
  have LB := hideL (beside_any a b (by omega) (by omega))
  have LI := hideL (implies_any a b (by omega) (by omega))
  have LMA := hideL (fun s hs => matchesR_any a s (by omega) hs)
  have LMB := hideL (fun s hs => matchesR_any b s (by omega) hs)
  have himp := imp_bes a b
  have hsome := fun s => @besM_some a b s
  unfold beV at LB
  obtain ⟨L, hL⟩ : ∃ x, longM ⟨#[]⟩ [a, b] = x := ⟨_, rfl⟩
  rw [hL] at LL
  obtain ⟨i, hi⟩ : ∃ x, impM a b = x := ⟨_, rfl⟩
  rw [hi] at LR LI himp
  obtain ⟨o, ho⟩ : ∃ x, besM a b = x := ⟨_, rfl⟩
  rw [ho] at LB himp hsome
  obtain ⟨fa, hfa⟩ : ∃ f, f = fun s => matM a s := ⟨_, rfl⟩
  obtain ⟨fb, hfb⟩ : ∃ f, f = fun s => matM b s := ⟨_, rfl⟩
  have hfa2 : ∀ s, matM a s = fa s := fun s => by rw [hfa]
  have hfb2 : ∀ s, matM b s = fb s := fun s => by rw [hfb]
  simp only [hfa2] at LMA hsome
  simp only [hfb2] at LMB hsome
  clear hL hi ho hfa hfb hfa2 hfb2
  obtain ⟨ka, ta⟩ := a
  obtain ⟨kb, tb⟩ := b
  dsimp only at *
  cases L with
  | true =>
    go_enter Try.func4, Try.ntmps4
    go_wp2_with (first
      | (go_at_call 8; with_reducible refine LL.out.mono ?_; rintro e w1 ⟨rfl, hB⟩; replace HS := hideL (HS.out.next hB))
      | (go_at_call 9; with_reducible refine (LW.out _).mono ?_; rintro e w9 ⟨rfl, hB9⟩))
    go_ret
    exact ⟨rfl, (HS.out.next hB9).be⟩
  | false =>
    cases o with
    | none =>
      have hi : i = true := himp
      subst hi
      have hz : (bo ([] : List UInt8)).toList = [] := by rw [ByteArray.toList_eq]; rfl
      simp only [Option.getD_none, Option.isSome_none] at LB
      obtain ⟨z, hz0⟩ : ∃ z, bo ([] : List UInt8) = z := ⟨_, rfl⟩
      rw [hz0] at hz LB
      clear hz0 hsome LMA LMB himp
      go_enter Try.func4, Try.ntmps4
      go_wp2_with (first
        | (go_at_call 8; with_reducible refine LL.out.mono ?_; rintro e wx ⟨rfl, hB⟩; replace HS := hideL (HS.out.next hB); (try clear c0 c1 d0 d1); have c0 := HS.out.ba.c0; have c1 := HS.out.ba.c1; have d0 := HS.out.bb.c0; have d1 := HS.out.bb.c1; clear hB)
        | (go_at_call 23; with_reducible refine (LR.out _).mono ?_; rintro e wx ⟨rfl, hB⟩; replace HS := hideL (HS.out.next hB); (try clear c0 c1 d0 d1); have c0 := HS.out.ba.c0; have c1 := HS.out.ba.c1; have d0 := HS.out.bb.c0; have d1 := HS.out.bb.c1; clear hB)
        | (go_at_call 24; with_reducible refine (LB.out _).mono ?_; rintro e wx ⟨rfl, hB⟩; replace HS := hideL (HS.out.next hB); (try clear c0 c1 d0 d1); have c0 := HS.out.ba.c0; have c1 := HS.out.ba.c1; have d0 := HS.out.bb.c0; have d1 := HS.out.bb.c1; clear hB)
        | (go_at_call 25; with_reducible refine (LI.out _).mono ?_; rintro e wx ⟨rfl, hB⟩; replace HS := hideL (HS.out.next hB); (try clear c0 c1 d0 d1); have c0 := HS.out.ba.c0; have c1 := HS.out.ba.c1; have d0 := HS.out.bb.c0; have d1 := HS.out.bb.c1; clear hB)
        | (go_at_call 9; with_reducible refine (LW.out _).mono ?_; rintro e wx ⟨rfl, hB⟩; replace HS := hideL (HS.out.next hB); (try clear c0 c1 d0 d1); have c0 := HS.out.ba.c0; have c1 := HS.out.ba.c1; have d0 := HS.out.bb.c0; have d1 := HS.out.bb.c1; clear hB))
      go_ret
      exact ⟨rfl, HS.out.be⟩
    | some S =>
      have hi : i = false := himp
      subst hi
      obtain ⟨hs1, hs2, hs3, hs4⟩ := hsome S rfl
      simp only [Option.getD_some, Option.isSome_some] at LB
      obtain ⟨T, hT⟩ : ∃ T, bo S = T := ⟨_, rfl⟩
      have hTl : T.data.toList = S := by rw [← hT]; rfl
      have hTs : T.size ≤ 66 := by rw [← hT, bo_size]; exact hs3
      rw [hT] at LB
      have LA2 := hideL (LMA.out T (by omega))
      have LB2 := hideL (LMB.out T (by omega))
      rw [hTl, hs1] at LA2
      rw [hTl, hs2] at LB2
      have hin : HidL (∀ k (h : k < T.size), 33 ≤ T[k].toNat ∧ T[k].toNat ≤ 126) := hideL fun k h => by
        have h2 := byte_at T k h
        exact hs4 _ (by rw [← hTl]; exact List.mem_of_mem_drop (h2 ▸ List.mem_cons_self ..))
      clear hsome himp LMA LMB hs1 hs2 hs3 hs4 hT hTl S
      go_enter Try.func4, Try.ntmps4
      go_wp2_with (first
        | (go_at_call 8; with_reducible refine LL.out.mono ?_; rintro e wx ⟨rfl, hB⟩; replace HS := hideL (HS.out.next hB); (try clear c0 c1 d0 d1); have c0 := HS.out.ba.c0; have c1 := HS.out.ba.c1; have d0 := HS.out.bb.c0; have d1 := HS.out.bb.c1; clear hB)
        | (go_at_call 23; with_reducible refine (LR.out _).mono ?_; rintro e wx ⟨rfl, hB⟩; replace HS := hideL (HS.out.next hB); (try clear c0 c1 d0 d1); have c0 := HS.out.ba.c0; have c1 := HS.out.ba.c1; have d0 := HS.out.bb.c0; have d1 := HS.out.bb.c1; clear hB)
        | (go_at_call 24; with_reducible refine (LB.out _).mono ?_; rintro e wx ⟨rfl, hB⟩; replace HS := hideL (HS.out.next hB); (try clear c0 c1 d0 d1); have c0 := HS.out.ba.c0; have c1 := HS.out.ba.c1; have d0 := HS.out.bb.c0; have d1 := HS.out.bb.c1; clear hB)
        | (go_at_call 25; with_reducible refine (LI.out _).mono ?_; rintro e wx ⟨rfl, hB⟩; replace HS := hideL (HS.out.next hB); (try clear c0 c1 d0 d1); have c0 := HS.out.ba.c0; have c1 := HS.out.ba.c1; have d0 := HS.out.bb.c0; have d1 := HS.out.bb.c1; clear hB)
        | (go_at_call 9; with_reducible refine (LW.out _).mono ?_; rintro e wx ⟨rfl, hB⟩; replace HS := hideL (HS.out.next hB); (try clear c0 c1 d0 d1); have c0 := HS.out.ba.c0; have c1 := HS.out.ba.c1; have d0 := HS.out.bb.c0; have d1 := HS.out.bb.c1; clear hB))
      go_loopw [8] (fun i wr => ∃ k : Nat, k ≤ T.size ∧ i = .int .i64 k ∧ wr = wx) (fun i _ => T.size - (intOf i).toNat)
      case atStart => exact ⟨0, Nat.zero_le _, rfl, rfl⟩
      case round =>
        obtain ⟨k, hk, rfl, rfl⟩ := hrel
        by_cases hlt : k < T.size
        · have hlt' : (k : Int) < T.size := by omega
          obtain ⟨hr1, hr2⟩ := hin.out k hlt
          obtain ⟨c, hc⟩ : ∃ c, T[k] = c := ⟨_, rfl⟩
          rw [hc] at hr1 hr2
          have b1 : ¬ ((c.toNat : Nat) : Int) < 33 := by omega
          have b2 : ¬ (126 : Int) < ((c.toNat : Nat) : Int) := by omega
          clear hr1 hr2
          go_wp2_with fail
          go_roundw
          case rel => exact ⟨k + 1, by omega, by go_num, by simp⟩
          case measure => simp [intOf]; omega
        · obtain rfl : k = T.size := by omega
          have hlt' : ¬ ((T.size : Nat) : Int) < T.size := by omega
          have hle' : ((T.size : Nat) : Int) ≤ 128 := by omega
          go_wp2_with (first
            | (go_at_call 15; first
              | (with_reducible refine (LA2.out _).mono ?_; rintro e wx ⟨rfl, hB⟩; replace HS := hideL (HS.out.next hB); (try clear c0 c1 d0 d1); have c0 := HS.out.ba.c0; have c1 := HS.out.ba.c1; have d0 := HS.out.bb.c0; have d1 := HS.out.bb.c1; clear hB)
              | (with_reducible refine (LB2.out _).mono ?_; rintro e wx ⟨rfl, hB⟩; replace HS := hideL (HS.out.next hB); (try clear c0 c1 d0 d1); have c0 := HS.out.ba.c0; have c1 := HS.out.ba.c1; have d0 := HS.out.bb.c0; have d1 := HS.out.bb.c1; clear hB))
            | (go_at_call 9; with_reducible refine (LW.out _).mono ?_; rintro e wx ⟨rfl, hB⟩; replace HS := hideL (HS.out.next hB); (try clear c0 c1 d0 d1); have c0 := HS.out.ba.c0; have c1 := HS.out.ba.c1; have d0 := HS.out.bb.c0; have d1 := HS.out.bb.c1; clear hB))
          go_ret
          exact ⟨rfl, HS.out.be⟩
end Go.Proofs.Ytffbmkocmjpmeaa
