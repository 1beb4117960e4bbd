/- The chapter's examples; Long, term. -/
import Derived.Test.YtffbmkocmjpmeaaMtBeside
import Derived.Test.YtffbmkocmjpmeaaMtRefR
namespace Go.Proofs.Ytffbmkocmjpmeaa
open Go.RowKit

set_option maxRecDepth 100000 in
theorem term_any (k : Int) (t : ByteArray) (w : World) : Calls Try.prog 26 #[.int .i64 k, .string t] w (fun e w' => e = .returned (.agg #[.int .i64 k, .string t]) ∧ Below w.heap.size w w') := by
  go_enter Try.func26, Try.ntmps26
  go_wp2_with fail
  exact bodyPost_ret (v := .agg #[.int .i64 k, .string t]) (by simp [results, Try.results26, go_sem]) rfl ⟨rfl, (Below.refl _ _).alloc (Nat.le_refl _) _⟩
/-- Whether a row, a text are more than is gone through. -/
def longM (s : ByteArray) (l : List Tm) : Bool := decide (3000 < s.size) || (decide (60 < l.length) || l.any fun a => decide (1000 < a.t.size))
theorem longM_no {s : ByteArray} {l : List Tm} (h : longM s l = false) : s.size ≤ 3000 ∧ l.length ≤ 60 ∧ ∀ a ∈ l, a.t.size ≤ 1000 := by
  unfold longM at h
  simp only [Bool.or_eq_false_iff, decide_eq_false_iff_not, List.any_eq_false] at h
  refine ⟨by omega, by omega, fun a ha => ?_⟩
  have := h.2.2 a ha
  simp only [decide_eq_true_eq] at this
  omega
set_option maxRecDepth 100000 in
set_option maxHeartbeats 400000 in
theorem long_any (s : ByteArray) (v : Value) (l : List Tm) (w : World) (hv : GAt KT w v l) (hm : l.length ≤ 9223372036854775807) : Calls Try.prog 8 #[.string s, v] w (fun e w' => e = .returned (.bool (longM s l)) ∧ Below w.heap.size w w') := by
  obtain ⟨ao, cap, rfl⟩ := hv.len
  obtain ⟨n, hn⟩ : ∃ n, l.length = n := ⟨_, rfl⟩
  unfold longM
  rw [hn] at hv hm ⊢
  have HN := hideL hn
  have HV := hideL hv
  by_cases h1 : 3000 < s.size
  · rw [decide_eq_true h1, Bool.true_or]
    have h1' : (3000 : Int) < s.size := by omega
    clear hn hv
    go_enter Try.func8, Try.ntmps8
    go_wp2_with fail
    go_ret
    exact ⟨rfl, Below.refl _ _⟩
  rw [decide_eq_false h1, Bool.false_or]
  have h1' : ¬ (3000 : Int) < s.size := by omega
  by_cases h2 : 60 < n
  · rw [decide_eq_true h2, Bool.true_or]
    have h2' : (60 : Int) < n := by omega
    clear hn hv
    go_enter Try.func8, Try.ntmps8
    go_wp2_with fail
    go_ret
    exact ⟨rfl, Below.refl _ _⟩
  rw [decide_eq_false h2, Bool.false_or]
  have h2' : ¬ (60 : Int) < n := by omega
  obtain ⟨B, hB⟩ : ∃ b, (l.any fun a => decide (1000 < a.t.size)) = b := ⟨_, rfl⟩
  rw [hB]
  have HBB := hideL hB
  clear hB hv hn
  go_enter Try.func8, Try.ntmps8
  go_wp2_with fail
  go_loopw [5] (fun i wr => ∃ k : Nat, k ≤ n ∧ i = .int .i64 k ∧ wr = w ∧ HidL (((l.drop k).any fun a => decide (1000 < a.t.size)) = B)) (fun i _ => n - (intOf i).toNat)
  case atStart => exact ⟨0, Nat.zero_le _, rfl, rfl, HBB⟩
  case round =>
    obtain ⟨k, hk, rfl, rfl, hd⟩ := hrel
    by_cases hlt : k < n
    · have hlt' : (k : Int) < (n : Int) := by omega
      obtain ⟨b, o, hao, hbl, hcell⟩ := HV.out.at (k := k) hlt
      subst hao
      have hkl : k < l.length := by rw [HN.out]; exact hlt
      replace hd := hd.out
      rw [drop_at l k hkl, List.any_cons] at hd
      generalize l.getD k KT.dft = x at *
      obtain ⟨p, q⟩ := x
      dsimp only at hd
      have d1 : wr.cell? ⟨b, o + k * 2 + 1, none⟩ = some (.string q) := hcell 1 (by decide)
      by_cases hq : 1000 < q.size
      · rw [decide_eq_true hq, Bool.true_or] at hd
        subst hd
        have hq' : (1000 : Int) < q.size := by omega
        clear hcell hbl
        go_wp2_with fail
        go_ret
        exact ⟨rfl, Below.refl _ _⟩
      · rw [decide_eq_false hq, Bool.false_or] at hd
        have HNX := hideL hd
        have hq' : ¬ (1000 : Int) < q.size := by omega
        clear hcell hbl hd
        go_wp2_with fail
        go_roundw
        case rel => exact ⟨k + 1, by omega, by go_num, by simp, HNX⟩
        case measure => simp [intOf]; omega
    · obtain rfl : k = n := by omega
      have hlt' : ¬ (k : Int) < (k : Int) := by omega
      replace hd := hd.out
      rw [List.drop_of_length_le (by rw [HN.out]; omega)] at hd
      have hBf : B = false := by rw [← hd]; rfl
      subst hBf
      go_wp2_with fail
      go_ret
      exact ⟨rfl, Below.refl _ _⟩

set_option maxRecDepth 100000 in
set_option maxHeartbeats 1000000 in
theorem awake_any (w : World) : Calls Try.prog 9 #[] w (fun e w' => e = .returned (.bool true) ∧ Below w.heap.size w w') := by
  have T1 := hideL (term_any 2 ⟨#[47, 97]⟩)
  have LT := hideL (fun k t W => term_any k t W)
  have LP : HidL (∀ W : World, Calls Try.prog 19 #[.agg #[.int .i64 3, .string ⟨#[46, 106, 115]⟩]] W (fun e w' => e = .returned (.tuple #[.string ⟨#[42, 46, 106, 115]⟩, .int .i64 0]) ∧ Below W.heap.size W w')) := hideL fun W => by
    have h := print_any ⟨3, ⟨#[46, 106, 115]⟩⟩ (by decide) W
    rw [show prV ⟨3, ⟨#[46, 106, 115]⟩⟩ = .tuple #[.string ⟨#[42, 46, 106, 115]⟩, .int .i64 0] from by unfold prV; rw [show mayM ⟨3, ⟨#[46, 106, 115]⟩⟩ = true from by decide]; rfl] at h
    exact h
  have P1 : HidL (∀ W : World, Calls Try.prog 21 #[.string ⟨#[42]⟩] W (fun e w' => e = .returned (.tuple #[.agg #[.int .i64 4, .string ⟨#[]⟩], .int .i64 0]) ∧ Below W.heap.size W w')) := hideL fun W => by
    have h := parse_any ⟨#[42]⟩ (by decide) W
    rw [show paV (⟨#[42]⟩ : ByteArray).data.toList = .tuple #[.agg #[.int .i64 4, .string ⟨#[]⟩], .int .i64 0] from by unfold paV parM; rw [show hitM 1 (⟨#[42]⟩ : ByteArray).data.toList = false from by decide, show hitM 2 (⟨#[42]⟩ : ByteArray).data.toList = false from by decide, show hitM 3 (⟨#[42]⟩ : ByteArray).data.toList = false from by decide, show hitM 4 (⟨#[42]⟩ : ByteArray).data.toList = true from by decide]; rfl] at h
    exact h
  have P2 : HidL (∀ W : World, Calls Try.prog 21 #[.string ⟨#[97, 42, 98]⟩] W (fun e w' => e = .returned (.tuple #[.agg #[.int .i64 0, .string ⟨#[]⟩], .int .i64 2]) ∧ Below W.heap.size W w')) := hideL fun W => by
    have h := parse_any ⟨#[97, 42, 98]⟩ (by decide) W
    rw [show paV (⟨#[97, 42, 98]⟩ : ByteArray).data.toList = .tuple #[.agg #[.int .i64 0, .string ⟨#[]⟩], .int .i64 2] from by unfold paV parM; rw [show hitM 1 (⟨#[97, 42, 98]⟩ : ByteArray).data.toList = false from by decide, show hitM 2 (⟨#[97, 42, 98]⟩ : ByteArray).data.toList = false from by decide, show hitM 3 (⟨#[97, 42, 98]⟩ : ByteArray).data.toList = false from by decide, show hitM 4 (⟨#[97, 42, 98]⟩ : ByteArray).data.toList = false from by decide]; rfl] at h
    exact h
  have LM : ∀ (k : Int) (t s : ByteArray) (b : Bool), t.size ≤ 100 → s.size ≤ 100 → matM ⟨k, t⟩ s.data.toList = b → HidL (∀ W : World, Calls Try.prog 14 #[.agg #[.int .i64 k, .string t], .string s] W (fun e w' => e = .returned (.bool b) ∧ Below W.heap.size W w')) := fun k t s b h1 h2 h3 => hideL fun W => by
    have h := matches_any ⟨k, t⟩ s (by show t.size ≤ _; omega) (by omega) W
    rw [h3] at h
    exact h
  have LI : ∀ (k : Int) (t : ByteArray) (l : Int) (s : ByteArray) (b : Bool), t.size ≤ 100 → s.size ≤ 100 → impM ⟨k, t⟩ ⟨l, s⟩ = b → HidL (∀ W : World, Calls Try.prog 25 #[.agg #[.int .i64 k, .string t], .agg #[.int .i64 l, .string s]] W (fun e w' => e = .returned (.bool b) ∧ Below W.heap.size W w')) := fun k t l s b h1 h2 h3 => hideL fun W => by
    have h := implies_any ⟨k, t⟩ ⟨l, s⟩ (by show t.size ≤ _; omega) (by show s.size ≤ _; omega) W
    rw [h3] at h
    exact h
  have M1 := LM 2 ⟨#[47, 97]⟩ ⟨#[47, 97]⟩ true (by decide) (by decide) (by decide)
  have M2 := LM 2 ⟨#[47, 97]⟩ ⟨#[47, 97, 98]⟩ true (by decide) (by decide) (by decide)
  have M3 := LM 2 ⟨#[47, 97]⟩ ⟨#[47]⟩ false (by decide) (by decide) (by decide)
  have I1 := LI 1 ⟨#[97, 98]⟩ 2 ⟨#[97]⟩ true (by decide) (by decide) (by decide)
  have I2 := LI 2 ⟨#[97]⟩ 1 ⟨#[97]⟩ false (by decide) (by decide) (by decide)
  have I3 := LI 3 ⟨#[97]⟩ 4 ⟨#[]⟩ true (by decide) (by decide) (by decide)
  clear LM LI
  have hq : (((⟨#[42, 46, 106, 115]⟩ : ByteArray)).toList == ((⟨#[42, 46, 106, 115]⟩ : ByteArray)).toList) = true := beq_self_eq_true _
  go_enter Try.func9, Try.ntmps9
  go_wp2_with (first
    | (go_at_call 26; first
      | (with_reducible refine (T1.out _).mono ?_; rintro e w1 ⟨rfl, hB⟩; have HP := hideL (TBox.new w1 2 ⟨#[47, 97]⟩); have HB := hideL (hB.alloc hB.size (.cells #[.int .i64 2, .string ⟨#[47, 97]⟩] 23)); clear hB)
      | (with_reducible refine (LT.out _ _ _).mono ?_; rintro e wx ⟨rfl, hB⟩; replace HP := hideL (HP.out.next hB); replace HB := hideL (HB.out.trans (hB.mono HB.out.size)); have p0 := HP.out.c0; have p1 := HP.out.c1; (try replace HT := hideL (HT.out.next hB)); (try have q0 := HT.out.c0); clear hB))
    | (go_at_call 19; with_reducible refine (LP.out _).mono ?_; rintro e wx ⟨rfl, hB⟩; replace HP := hideL (HP.out.next hB); replace HB := hideL (HB.out.trans (hB.mono HB.out.size)); clear hB)
    | (go_at_call 21; first
      | (with_reducible refine (P1.out _).mono ?_; rintro e wp ⟨rfl, hB⟩; replace HP := hideL ((HP.out.next hB).next ((Below.refl _ _).alloc (Nat.le_refl _) (.cells #[.int .i64 4, .string ⟨#[]⟩] 23))); have HT := hideL (TBox.new wp 4 ⟨#[]⟩); replace HB := hideL ((HB.out.trans (hB.mono HB.out.size)).alloc (Nat.le_trans HB.out.size hB.size) (.cells #[.int .i64 4, .string ⟨#[]⟩] 23)); clear hB)
      | (with_reducible refine (P2.out _).mono ?_; rintro e wq ⟨rfl, hB⟩; replace HP := hideL ((HP.out.next hB).next ((Below.refl _ _).alloc (Nat.le_refl _) (.cells #[.int .i64 0, .string ⟨#[]⟩] 23))); replace HT := hideL ((HT.out.next hB).next ((Below.refl _ _).alloc (Nat.le_refl _) (.cells #[.int .i64 0, .string ⟨#[]⟩] 23))); replace HB := hideL ((HB.out.trans (hB.mono HB.out.size)).alloc (Nat.le_trans HB.out.size hB.size) (.cells #[.int .i64 0, .string ⟨#[]⟩] 23)); have p0 := HP.out.c0; have p1 := HP.out.c1; clear hB))
    | (go_at_call 14; first
      | (with_reducible refine (M1.out _).mono ?_; rintro e wx ⟨rfl, hB⟩; replace HP := hideL (HP.out.next hB); replace HB := hideL (HB.out.trans (hB.mono HB.out.size)); replace HT := hideL (HT.out.next hB); have p0 := HP.out.c0; have p1 := HP.out.c1; clear hB)
      | (with_reducible refine (M2.out _).mono ?_; rintro e wx ⟨rfl, hB⟩; replace HP := hideL (HP.out.next hB); replace HB := hideL (HB.out.trans (hB.mono HB.out.size)); replace HT := hideL (HT.out.next hB); have p0 := HP.out.c0; have p1 := HP.out.c1; clear hB)
      | (with_reducible refine (M3.out _).mono ?_; rintro e wx ⟨rfl, hB⟩; replace HP := hideL (HP.out.next hB); replace HB := hideL (HB.out.trans (hB.mono HB.out.size)); replace HT := hideL (HT.out.next hB); have p0 := HP.out.c0; have p1 := HP.out.c1; clear hB))
    | (go_at_call 25; first
      | (with_reducible refine (I1.out _).mono ?_; rintro e wx ⟨rfl, hB⟩; replace HP := hideL (HP.out.next hB); replace HB := hideL (HB.out.trans (hB.mono HB.out.size)); replace HT := hideL (HT.out.next hB); clear hB)
      | (with_reducible refine (I2.out _).mono ?_; rintro e wx ⟨rfl, hB⟩; replace HP := hideL (HP.out.next hB); replace HB := hideL (HB.out.trans (hB.mono HB.out.size)); replace HT := hideL (HT.out.next hB); clear hB)
      | (with_reducible refine (I3.out _).mono ?_; rintro e wx ⟨rfl, hB⟩; replace HP := hideL (HP.out.next hB); replace HB := hideL (HB.out.trans (hB.mono HB.out.size)); replace HT := hideL (HT.out.next hB); have q0 := HT.out.c0; clear hB)))
  go_ret
  exact ⟨rfl, HB.out⟩
end Go.Proofs.Ytffbmkocmjpmeaa
