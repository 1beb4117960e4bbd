/- The one form of a row of nets: the fewest that have, together, just its addresses. -/
import Derived.Test.YtgikkjjnoakhdaaDoorAdPl
namespace Go.Proofs.YtgikkjjnoakhdaaDoor

def full (S : Nat → Bool) : Nat → Nat → Bool
  | 0, x => S x
  | n + 1, x => full S n x && full S n (x + 2 ^ n)
def some2 (S : Nat → Bool) : Nat → Nat → Bool
  | 0, x => S x
  | n + 1, x => some2 S n x || some2 S n (x + 2 ^ n)
def canon (S : Nat → Bool) : Nat → Nat → List Net
  | 0, x => if S x = true then [⟨x, 32⟩] else []
  | n + 1, x => if full S (n + 1) x = true then [⟨x, 32 - ((n + 1 : Nat) : Int)⟩] else canon S n x ++ canon S n (x + 2 ^ n)

theorem full_iff (S : Nat → Bool) : ∀ n x, full S n x = true ↔ ∀ y, x ≤ y → y < x + 2 ^ n → S y = true
  | 0, x => ⟨fun h y h1 h2 => by rw [show y = x by omega]; exact h, fun h => h x (Nat.le_refl _) (by omega)⟩
  | n + 1, x => by
    have h2 : 2 ^ (n + 1) = 2 * 2 ^ n := by rw [Nat.pow_succ, Nat.mul_comm]
    rw [full, Bool.and_eq_true, full_iff S n x, full_iff S n (x + 2 ^ n), h2]
    constructor
    · rintro ⟨h, k⟩ y h1 h2
      rcases Nat.lt_or_ge y (x + 2 ^ n) with h3 | h3
      · exact h y h1 h3
      · exact k y h3 (by omega)
    · intro h
      exact ⟨fun y h1 h2 => h y h1 (by omega), fun y h1 h2 => h y (by omega) (by omega)⟩
theorem some2_iff (S : Nat → Bool) : ∀ n x, some2 S n x = true ↔ ∃ y, x ≤ y ∧ y < x + 2 ^ n ∧ S y = true
  | 0, x => ⟨fun h => ⟨x, Nat.le_refl _, by omega, h⟩, fun ⟨y, h1, h2, h3⟩ => by rw [show y = x by omega] at h3; exact h3⟩
  | n + 1, x => by
    have h2 : 2 ^ (n + 1) = 2 * 2 ^ n := by rw [Nat.pow_succ, Nat.mul_comm]
    rw [some2, Bool.or_eq_true, some2_iff S n x, some2_iff S n (x + 2 ^ n), h2]
    constructor
    · rintro (⟨y, h1, h2, h3⟩ | ⟨y, h1, h2, h3⟩)
      · exact ⟨y, h1, by omega, h3⟩
      · exact ⟨y, by omega, by omega, h3⟩
    · rintro ⟨y, h1, h2, h3⟩
      rcases Nat.lt_or_ge y (x + 2 ^ n) with h4 | h4
      · exact .inl ⟨y, h1, h4, h3⟩
      · exact .inr ⟨y, h4, by omega, h3⟩
theorem canon_full (S : Nat → Bool) (n x : Nat) (h : full S n x = true) : canon S n x = [⟨x, 32 - (n : Int)⟩] := by
  cases n with
  | zero => rw [canon, if_pos (show S x = true from h)]; rfl
  | succ n => rw [canon, if_pos h]
theorem canon_none (S : Nat → Bool) : ∀ n x, some2 S n x = false → canon S n x = []
  | 0, x, h => by rw [canon, if_neg (by rw [show S x = false from h]; simp)]
  | n + 1, x, h => by
    rw [some2, Bool.or_eq_false_iff] at h
    have hf : ¬ full S (n + 1) x = true := by
      intro hf
      have h1 := (full_iff S (n + 1) x).1 hf x (Nat.le_refl _) (by have := Nat.pow_pos (a := 2) (n := n + 1) (by omega); omega)
      have h2 : some2 S n x = true := (some2_iff S n x).2 ⟨x, Nat.le_refl _, by have := Nat.pow_pos (a := 2) (n := n) (by omega); omega, h1⟩
      rw [h2] at h
      simp at h
    rw [canon, if_neg hf, canon_none S n x h.1, canon_none S n _ h.2]
    rfl

theorem list_split {m : List Net} (t : Nat) (h : m.Pairwise fun c d => c.a ≤ d.a) : m = m.filter (fun c => decide (c.a < t)) ++ m.filter (fun c => decide (t ≤ c.a)) := by
  induction m with
  | nil => rfl
  | cons c m ih =>
    obtain ⟨h1, h2⟩ := List.pairwise_cons.1 h
    by_cases hc : c.a < t
    · rw [List.filter_cons_of_pos (by simpa using hc), List.filter_cons_of_neg (by simp; omega), List.cons_append, ← ih h2]
    · rw [List.filter_cons_of_neg (by simpa using hc), List.filter_cons_of_pos (by simp; omega)]
      have e : m.filter (fun c => decide (c.a < t)) = [] := by
        rw [List.filter_eq_nil_iff]
        intro d hd
        have := h1 d hd
        simp
        omega
      have e2 := ih h2
      rw [e, List.nil_append] at e2
      rw [e, List.nil_append, ← e2]

/-- A row of nets apart, by their addresses, of which none are two halves, is the one form of what it has. -/
theorem canon_of (S : Nat → Bool) : ∀ (n x : Nat) (m : List Net), n ≤ 32 → 2 ^ n ∣ x → (∀ c ∈ m, Ok c ∧ x ≤ c.a ∧ c.a + sz c.b ≤ x + 2 ^ n) → (m.Pairwise Below2) → (m.Pairwise fun c d => ¬ sib c d) →
    (∀ y, x ≤ y → y < x + 2 ^ n → S y = allB m y) → m = canon S n x
  | n, x, m, hn, hx, hm, hp, hs, hS => by
    by_cases hw : ∃ c ∈ m, sz c.b = 2 ^ n
    · obtain ⟨c, hc, hcz⟩ := hw
      have hca : c.a = x := by have := hm c hc; omega
      have hcb : c.b = 32 - (n : Int) := by
        have h1 : ex c.b = n := Nat.pow_right_inj (by omega) |>.1 hcz
        have := (hm c hc).1.lo; have := (hm c hc).1.hi
        unfold ex at h1
        omega
      have hall : full S n x = true := (full_iff S n x).2 fun y h1 h2 => by
        rw [hS y h1 h2, allB, List.any_eq_true]
        exact ⟨c, hc, (inB_iff c y).2 ⟨(hm c hc).1, by omega, by omega⟩⟩
      rw [canon_full S n x hall]
      have hone : m = [c] := by
        cases m with
        | nil => cases hc
        | cons d r =>
          have hpd := List.pairwise_cons.1 hp
          rcases List.mem_cons.1 hc with rfl | hcr
          · cases r with
            | nil => rfl
            | cons e r =>
              have h1 := hpd.1 e (by simp)
              have h2 := hm e (by simp)
              have := sz_pos e.b
              unfold Below2 at h1
              omega
          · have h1 := hpd.1 c hcr
            have h2 := hm d (by simp)
            have := sz_pos d.b
            unfold Below2 at h1
            omega
      rw [hone]
      exact congrArg (fun d => [d]) (Net.same hca hcb)
    · cases n with
      | zero =>
        have hnil : m = [] := by
          cases m with
          | nil => rfl
          | cons d r =>
            exfalso
            have h1 := hm d (by simp)
            have := sz_pos d.b
            exact hw ⟨d, by simp, by omega⟩
        rw [canon, if_neg (by rw [hS x (Nat.le_refl _) (by omega), hnil]; simp [allB]), hnil]
      | succ n =>
        have h2 : 2 ^ (n + 1) = 2 * 2 ^ n := by rw [Nat.pow_succ, Nat.mul_comm]
        have hpn := Nat.pow_pos (a := 2) (n := n) (by omega)
        have hdn : 2 ^ n ∣ x := Nat.dvd_trans ⟨2, by rw [h2, Nat.mul_comm]⟩ hx
        have hhalf : ∀ c ∈ m, (c.a < x + 2 ^ n → c.a + sz c.b ≤ x + 2 ^ n) := by
          intro c hc hlt
          obtain ⟨ho, h3, h4⟩ := hm c hc
          have hle : ex c.b ≤ n := by
            apply Nat.le_of_not_lt
            intro hgt
            have h5 : ex c.b = n + 1 ∨ n + 1 < ex c.b := by omega
            rcases h5 with h5 | h5
            · exact hw ⟨c, hc, by unfold sz; rw [h5]⟩
            · have h6 : 2 ^ (n + 1) < sz c.b := Nat.pow_lt_pow_right (by omega) h5
              omega
          have hd : sz c.b ∣ 2 ^ n := Nat.pow_dvd_pow 2 hle
          exact mul_step ho.dvd (Nat.dvd_add (Nat.dvd_trans hd hdn) hd) hlt
        have hsplit := list_split (x + 2 ^ n) (hp.imp (fun {c d} h => by unfold Below2 at h; have := sz_pos c.b; omega))
        have hany : ∀ y, allB m y = (allB (m.filter fun c => decide (c.a < x + 2 ^ n)) y || allB (m.filter fun c => decide (x + 2 ^ n ≤ c.a)) y) := by
          intro y
          conv => lhs; rw [hsplit]
          simp only [allB, List.any_append]
        have g1 := canon_of S n x (m.filter fun c => decide (c.a < x + 2 ^ n)) (by omega) hdn (fun c hc => by
            obtain ⟨h3, h4⟩ := List.mem_filter.1 hc
            simp at h4
            exact ⟨(hm c h3).1, (hm c h3).2.1, hhalf c h3 h4⟩) (hp.filter _) (hs.filter _) (fun y h3 h4 => by
            rw [hS y h3 (by omega), hany y]
            have e : allB (m.filter fun c => decide (x + 2 ^ n ≤ c.a)) y = false := by
              rw [allB, List.any_eq_false]
              intro c hc h5
              obtain ⟨h6, h7⟩ := List.mem_filter.1 hc
              simp at h7
              have := ((inB_iff c y).1 h5).2.1
              omega
            rw [e, Bool.or_false])
        have g2 := canon_of S n (x + 2 ^ n) (m.filter fun c => decide (x + 2 ^ n ≤ c.a)) (by omega) (Nat.dvd_add hdn (Nat.dvd_refl _)) (fun c hc => by
            obtain ⟨h3, h4⟩ := List.mem_filter.1 hc
            simp at h4
            have := (hm c h3).2.2
            exact ⟨(hm c h3).1, h4, by omega⟩) (hp.filter _) (hs.filter _) (fun y h3 h4 => by
            rw [hS y (by omega) (by omega), hany y]
            have e : allB (m.filter fun c => decide (c.a < x + 2 ^ n)) y = false := by
              rw [allB, List.any_eq_false]
              intro c hc h5
              obtain ⟨h6, h7⟩ := List.mem_filter.1 hc
              simp at h7
              have := hhalf c h6 h7
              have := ((inB_iff c y).1 h5).2.2
              omega
            rw [e, Bool.false_or])
        have hf : ¬ full S (n + 1) x = true := by
          intro hf
          rw [full, Bool.and_eq_true] at hf
          rw [canon_full S n x hf.1] at g1
          rw [canon_full S n _ hf.2] at g2
          rw [g1, g2] at hsplit
          rw [hsplit] at hs
          have h3 := (List.pairwise_cons.1 hs).1 ⟨x + 2 ^ n, 32 - (n : Int)⟩ (by simp)
          refine h3 ⟨rfl, by show (0 : Int) < 32 - (n : Int); omega, ?_⟩
          show flo x (32 - (n : Int) - 1) = flo (x + 2 ^ n) (32 - (n : Int) - 1)
          have hz : sz (32 - (n : Int) - 1) = 2 ^ (n + 1) := by
            rw [show (32 - (n : Int) - 1) = 32 - ((n + 1 : Nat) : Int) by omega]
            exact sz_of (n + 1) hn
          have hd : sz (32 - (n : Int) - 1) ∣ x := by rw [hz]; exact hx
          rw [flo_self hd]
          exact (flo_eq hd (by omega) (by rw [hz]; omega)).symm
        rw [canon, if_neg hf, ← g1, ← g2]
        exact hsplit
  termination_by n => n

/-- What nets are merged to. -/
def mergeS (l : List Net) : List Net := canon (allB l) 32 0

theorem merge_row (l : List Net) (ho : ∀ c ∈ l, Ok c) (ha : ∀ c ∈ l, c.a < 4294967296) (hp : l.Pairwise lexle) (S : Nat → Bool) (hS : ∀ y, S y = allB l y) : (l.foldl push []).reverse = canon S 32 0 := by
  obtain ⟨h1, h2⟩ := push_all l [] ⟨fun _ h => (by cases h), List.Pairwise.nil, List.Pairwise.nil⟩ ho hp (fun _ h => (by cases h))
  have hin : ∀ c ∈ l.foldl push [], c.a + sz c.b ≤ 4294967296 := by
    intro c hc
    have hok := h1.ok c hc
    have hp := sz_pos c.b
    have h3 : allB (l.foldl push []) (c.a + sz c.b - 1) = true := List.any_eq_true.2 ⟨c, hc, (inB_iff c _).2 ⟨hok, by omega, by omega⟩⟩
    rw [h2] at h3
    simp only [allB, List.any_nil, Bool.false_or, List.any_eq_true] at h3
    obtain ⟨d, hd, h4⟩ := h3
    obtain ⟨h5, h6, h7⟩ := (inB_iff d _).1 h4
    have := h5.top (ha d hd)
    omega
  refine canon_of S 32 0 _ (by omega) ⟨0, rfl⟩ (fun c hc => ?_) (List.pairwise_reverse.2 h1.apart) (List.pairwise_reverse.2 h1.alone) (fun y _ _ => ?_)
  · have hc' := List.mem_reverse.1 hc
    exact ⟨h1.ok c hc', by omega, by have := hin c hc'; omega⟩
  · rw [hS y]
    have h3 := h2 y
    simp only [allB, List.any_nil, Bool.false_or] at h3
    simp only [allB, List.any_reverse, h3]
end Go.Proofs.YtgikkjjnoakhdaaDoor
