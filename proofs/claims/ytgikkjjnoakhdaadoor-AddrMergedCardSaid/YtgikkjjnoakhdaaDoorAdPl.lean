/- Plain words for nets: no program is named here. -/
import Derived.Test.YtgikkjjnoakhdaaDoorPl
namespace Go.Proofs.YtgikkjjnoakhdaaDoor

structure Net where
  a : Nat
  b : Int
theorem Net.eta (c : Net) : (⟨c.a, c.b⟩ : Net) = c := rfl
theorem Net.same {c d : Net} (h : c.a = d.a) (k : c.b = d.b) : c = d := by cases c; cases d; simp_all
instance : DecidableEq Net := fun c d => decidable_of_iff (c.a = d.a ∧ c.b = d.b) ⟨fun h => Net.same h.1 h.2, fun h => by subst h; exact ⟨rfl, rfl⟩⟩
instance : Inhabited Net := ⟨⟨0, 0⟩⟩

/-- How many bits stand behind the first b. -/
def ex (b : Int) : Nat := (32 - min (max b 0) 32).toNat
def sz (b : Int) : Nat := 2 ^ ex b
/-- The number with its first b bits alone. -/
def flo (x : Nat) (b : Int) : Nat := x / sz b * sz b
def mayB (c : Net) : Bool := decide (0 ≤ c.b) && decide (c.b ≤ 32) && decide (c.a = flo c.a c.b)
def inB (c : Net) (x : Nat) : Bool := mayB c && decide (c.a = flo x c.b)
def coversB (c d : Net) : Bool := mayB d && decide (c.b ≤ d.b) && inB c d.a
def wholeOf (t : Net) : Net := ⟨flo t.a (t.b - 1), t.b - 1⟩
def lowOf (w : Net) : Net := ⟨flo w.a (w.b + 1), w.b + 1⟩
def highOf (w : Net) : Net := ⟨flo (w.a + (sz w.b - 1)) (w.b + 1), w.b + 1⟩
def joinB (t c : Net) : Bool := decide (t = lowOf (wholeOf t)) && decide (c = highOf (wholeOf t))
/-- The stack (its top first) behind one more net. -/
def push : List Net → Net → List Net
  | [], c => [c]
  | t :: r, c => if coversB t c = true then t :: r else if joinB t c = true then push r (wholeOf t) else c :: t :: r
def allB (l : List Net) (x : Nat) : Bool := l.any fun c => inB c x

theorem ex_le (b : Int) : ex b ≤ 32 := by unfold ex; omega
theorem sz_pos (b : Int) : 0 < sz b := Nat.pow_pos (by omega)
theorem ex_of (n : Nat) (h : n ≤ 32) : ex (32 - n) = n := by unfold ex; omega
theorem sz_of (n : Nat) (h : n ≤ 32) : sz (32 - n) = 2 ^ n := by rw [sz, ex_of n h]
theorem sz_mono {b c : Int} (h : b ≤ c) : sz c ≤ sz b := Nat.pow_le_pow_right (by omega) (by unfold ex; omega)
theorem sz_dvd {b c : Int} (h : b ≤ c) : sz c ∣ sz b := Nat.pow_dvd_pow 2 (by unfold ex; omega)
theorem sz_two {b : Int} (h : 0 < b) (h2 : b ≤ 32) : sz (b - 1) = 2 * sz b := by
  unfold sz
  rw [show ex (b - 1) = ex b + 1 by unfold ex; omega, Nat.pow_succ, Nat.mul_comm]
theorem sz_dvd32 (b : Int) : sz b ∣ 4294967296 := by
  have : sz b ∣ 2 ^ 32 := Nat.pow_dvd_pow 2 (ex_le b)
  exact this
theorem sz_le32 (b : Int) : sz b ≤ 4294967296 := Nat.le_of_dvd (by omega) (sz_dvd32 b)
theorem flo_dvd (x : Nat) (b : Int) : sz b ∣ flo x b := Nat.dvd_mul_left _ _
theorem flo_le (x : Nat) (b : Int) : flo x b ≤ x := Nat.div_mul_le_self _ _
theorem flo_lt (x : Nat) (b : Int) : x < flo x b + sz b := by
  have h := Nat.div_add_mod x (sz b)
  have h2 := Nat.mod_lt x (sz_pos b)
  unfold flo
  rw [Nat.mul_comm]
  omega
/-- Two multiples. -/
theorem mul_step {n x y : Nat} (hx : n ∣ x) (hy : n ∣ y) (h : x < y) : x + n ≤ y := by
  obtain ⟨i, rfl⟩ := hx
  obtain ⟨j, rfl⟩ := hy
  have hij : i < j := Nat.lt_of_mul_lt_mul_left h
  calc n * i + n = n * (i + 1) := by rw [Nat.mul_succ]
    _ ≤ n * j := Nat.mul_le_mul_left _ hij
theorem flo_eq {x y : Nat} {b : Int} (hy : sz b ∣ y) (h1 : y ≤ x) (h2 : x < y + sz b) : flo x b = y := by
  have d := flo_dvd x b
  have l := flo_le x b
  have t := flo_lt x b
  rcases Nat.lt_trichotomy (flo x b) y with h | h | h
  · have := mul_step d hy h; omega
  · exact h
  · have := mul_step hy d h; omega
theorem flo_self {x : Nat} {b : Int} (h : sz b ∣ x) : flo x b = x := flo_eq h (Nat.le_refl _) (by have := sz_pos b; omega)

structure Ok (c : Net) : Prop where
  lo : 0 ≤ c.b
  hi : c.b ≤ 32
  dvd : sz c.b ∣ c.a
theorem mayB_iff (c : Net) : mayB c = true ↔ Ok c := by
  unfold mayB
  simp only [Bool.and_eq_true, decide_eq_true_eq]
  constructor
  · rintro ⟨⟨h1, h2⟩, h3⟩
    exact ⟨h1, h2, by rw [h3]; exact flo_dvd _ _⟩
  · rintro ⟨h1, h2, h3⟩
    exact ⟨⟨h1, h2⟩, (flo_self h3).symm⟩
theorem inB_iff (c : Net) (x : Nat) : inB c x = true ↔ Ok c ∧ c.a ≤ x ∧ x < c.a + sz c.b := by
  unfold inB
  rw [Bool.and_eq_true, mayB_iff, decide_eq_true_eq]
  constructor
  · rintro ⟨h1, h2⟩
    have := flo_le x c.b
    have := flo_lt x c.b
    exact ⟨h1, by omega, by omega⟩
  · rintro ⟨h1, h2, h3⟩
    exact ⟨h1, (flo_eq h1.dvd h2 h3).symm⟩
/-- One net is in another one, or they have nothing together. -/
theorem nested {c d : Net} (hc : Ok c) (hd : Ok d) (h : c.b ≤ d.b) : (c.a ≤ d.a ∧ d.a + sz d.b ≤ c.a + sz c.b) ∨ d.a + sz d.b ≤ c.a ∨ c.a + sz c.b ≤ d.a := by
  have dv : sz d.b ∣ c.a := Nat.dvd_trans (sz_dvd h) hc.dvd
  rcases Nat.lt_or_ge d.a c.a with h1 | h1
  · exact .inr (.inl (mul_step hd.dvd dv h1))
  · rcases Nat.lt_or_ge d.a (c.a + sz c.b) with h2 | h2
    · exact .inl ⟨h1, mul_step hd.dvd (Nat.dvd_add dv (sz_dvd h)) h2⟩
    · exact .inr (.inr h2)
theorem coversB_iff (c d : Net) : coversB c d = true ↔ Ok c ∧ Ok d ∧ c.a ≤ d.a ∧ d.a + sz d.b ≤ c.a + sz c.b := by
  unfold coversB
  rw [Bool.and_eq_true, Bool.and_eq_true, mayB_iff, inB_iff, decide_eq_true_eq]
  constructor
  · rintro ⟨⟨h1, h2⟩, h3, h4, h5⟩
    have := sz_pos d.b
    rcases nested h3 h1 h2 with h | h | h
    · exact ⟨h3, h1, h.1, h.2⟩
    · omega
    · omega
  · rintro ⟨h1, h2, h3, h4⟩
    have := sz_pos d.b
    refine ⟨⟨h2, ?_⟩, h1, h3, by omega⟩
    apply Int.not_lt.1
    intro hlt
    have hs : sz d.b < sz c.b ∨ sz c.b ≤ sz d.b := Nat.lt_or_ge _ _
    have h5 : sz c.b < sz d.b := Nat.pow_lt_pow_right (by omega) (by have := h1.lo; have := h1.hi; have := h2.lo; have := h2.hi; unfold ex; omega)
    omega
theorem Ok.top {c : Net} (h : Ok c) (ha : c.a < 4294967296) : c.a + sz c.b ≤ 4294967296 := mul_step h.dvd (sz_dvd32 _) ha

/-- The two halves of one net. -/
def sib (c d : Net) : Prop := c.b = d.b ∧ 0 < d.b ∧ flo c.a (c.b - 1) = flo d.a (d.b - 1)
theorem whole_of_low {t : Net} (ht : Ok t) (h0 : 0 < t.b) : Ok (wholeOf t) ∧ (wholeOf t).a ≤ t.a ∧ t.a + sz t.b ≤ (wholeOf t).a + sz (wholeOf t).b ∧ sz (wholeOf t).b = 2 * sz t.b := by
  have hb := ht.hi
  have h2 := sz_two h0 hb
  have hd := flo_dvd t.a (t.b - 1)
  have hl := flo_le t.a (t.b - 1)
  have hg := flo_lt t.a (t.b - 1)
  refine ⟨⟨by show 0 ≤ t.b - 1; omega, by show t.b - 1 ≤ 32; omega, hd⟩, hl, ?_, h2⟩
  show t.a + sz t.b ≤ flo t.a (t.b - 1) + sz (t.b - 1)
  exact mul_step ht.dvd (Nat.dvd_add (Nat.dvd_trans (sz_dvd (by omega)) hd) (sz_dvd (by omega))) hg
/-- Whether two nets, the one below the other, are put together: just the halves of one. -/
theorem joinB_iff {t c : Net} (ht : Ok t) (_hc : Ok c) (h : t.a + sz t.b ≤ c.a) : joinB t c = true ↔ t.b = c.b ∧ 0 < t.b ∧ sz (t.b - 1) ∣ t.a ∧ c.a = t.a + sz t.b := by
  have hp := sz_pos t.b
  unfold joinB
  rw [Bool.and_eq_true, decide_eq_true_eq, decide_eq_true_eq]
  rcases Int.lt_or_le 0 t.b with h0 | h0
  · have h2 := sz_two h0 ht.hi
    have hl := flo_le t.a (t.b - 1)
    have e1 : lowOf (wholeOf t) = ⟨flo t.a (t.b - 1), t.b⟩ := by
      refine Net.same ?_ (by show t.b - 1 + 1 = t.b; omega)
      show flo (flo t.a (t.b - 1)) (t.b - 1 + 1) = flo t.a (t.b - 1)
      exact flo_self (Nat.dvd_trans (sz_dvd (by omega)) (flo_dvd _ _))
    have e2 : highOf (wholeOf t) = ⟨flo t.a (t.b - 1) + sz t.b, t.b⟩ := by
      refine Net.same ?_ (by show t.b - 1 + 1 = t.b; omega)
      show flo (flo t.a (t.b - 1) + (sz (t.b - 1) - 1)) (t.b - 1 + 1) = _
      rw [show t.b - 1 + 1 = t.b by omega]
      show flo (flo t.a (t.b - 1) + (sz (t.b - 1) - 1)) t.b = flo t.a (t.b - 1) + sz t.b
      refine flo_eq (Nat.dvd_add (Nat.dvd_trans (sz_dvd (by omega)) (flo_dvd _ _)) (Nat.dvd_refl _)) (by rw [h2]; omega) (by rw [h2]; omega)
    rw [e1, e2]
    constructor
    · rintro ⟨h3, h4⟩
      have h5 : t.a = flo t.a (t.b - 1) := congrArg Net.a h3
      refine ⟨(congrArg Net.b h4).symm, h0, by rw [h5]; exact flo_dvd _ _, ?_⟩
      have h6 : c.a = flo t.a (t.b - 1) + sz t.b := congrArg Net.a h4
      omega
    · rintro ⟨h3, _, h4, h5⟩
      have h6 := flo_self h4
      refine ⟨Net.same h6.symm rfl, Net.same ?_ h3.symm⟩
      show c.a = flo t.a (t.b - 1) + sz t.b
      omega
  · have hb : t.b = 0 := by have := ht.lo; omega
    constructor
    · rintro ⟨h3, h4⟩
      exfalso
      have h6 : c.a = flo (flo t.a (t.b - 1) + (sz (t.b - 1) - 1)) (t.b - 1 + 1) := congrArg Net.a h4
      rw [hb] at h6
      have e0 : sz 0 = 4294967296 := by decide
      have e1 : sz (0 - 1) = 4294967296 := by decide
      have h7 : t.a = flo (flo t.a (t.b - 1)) (t.b - 1 + 1) := congrArg Net.a h3
      rw [hb] at h7 h
      have d0 := flo_dvd t.a (0 - 1)
      rw [e1] at d0
      have h8 : flo (flo t.a (0 - 1)) (0 - 1 + 1) = flo t.a (0 - 1) := flo_self (by rw [show (0 : Int) - 1 + 1 = 0 from rfl, e0]; exact d0)
      have h9 : flo (flo t.a (0 - 1) + (sz (0 - 1) - 1)) (0 - 1 + 1) = flo t.a (0 - 1) := flo_eq (by rw [show (0 : Int) - 1 + 1 = 0 from rfl, e0]; exact d0) (by omega) (by rw [show (0 : Int) - 1 + 1 = 0 from rfl, e0, e1]; omega)
      rw [e0] at h
      omega
    · rintro ⟨_, h3, _⟩
      omega

def Below2 (d c : Net) : Prop := d.a + sz d.b ≤ c.a
/-- What a stack of nets is (its top first). -/
structure Stk (st : List Net) : Prop where
  ok : ∀ t ∈ st, Ok t
  apart : st.Pairwise fun c d => Below2 d c
  alone : st.Pairwise fun c d => ¬ sib d c

theorem sib_iff {t c : Net} (ht : Ok t) (hc : Ok c) (h : Below2 t c) (hs : sib t c) : t.b = c.b ∧ 0 < t.b ∧ sz (t.b - 1) ∣ t.a ∧ c.a = t.a + sz t.b := by
  obtain ⟨h1, h2, h3⟩ := hs
  rw [← h1] at h2 h3
  have e2 := sz_two h2 ht.hi
  have d := flo_dvd t.a (t.b - 1)
  have l1 := flo_le t.a (t.b - 1)
  have g1 := flo_lt t.a (t.b - 1)
  have l2 := flo_le c.a (t.b - 1)
  have g2 := flo_lt c.a (t.b - 1)
  have hp := sz_pos t.b
  have hd : sz t.b ∣ flo t.a (t.b - 1) := Nat.dvd_trans (sz_dvd (by omega)) d
  unfold Below2 at h
  have ht0 : flo t.a (t.b - 1) = t.a := by
    rcases Nat.lt_or_ge (flo t.a (t.b - 1)) t.a with h5 | h5
    · have := mul_step hd ht.dvd h5
      omega
    · omega
  refine ⟨h1, h2, by rw [← ht0]; exact d, ?_⟩
  have hdc : sz t.b ∣ c.a := by rw [h1]; exact hc.dvd
  rcases Nat.lt_or_ge (t.a + sz t.b) c.a with h6 | h6
  · have := mul_step (Nat.dvd_add ht.dvd (Nat.dvd_refl _)) hdc h6
    omega
  · omega

theorem push_above : ∀ (st : List Net) (c c0 : Net), Stk st → Ok c → (∀ t ∈ st, Below2 t c) → (∀ t ∈ st, t.a < c0.a ∨ (t.a = c0.a ∧ t.b ≤ c0.b)) → (c.a < c0.a ∨ (c.a = c0.a ∧ c.b ≤ c0.b)) →
    Stk (push st c) ∧ (∀ x, allB (push st c) x = (allB st x || inB c x)) ∧ ∀ t ∈ push st c, t.a < c0.a ∨ (t.a = c0.a ∧ t.b ≤ c0.b)
  | [], c, c0, _, hc, _, _, hle => ⟨⟨fun t h => by simp [push] at h; rw [h]; exact hc, by simp [push], by simp [push]⟩, fun x => by simp [push, allB], fun t h => by simp [push] at h; rw [h]; exact hle⟩
  | t :: r, c, c0, hs, hc, hab, hl, hle => by
    have ht := hs.ok t (by simp)
    have htc := hab t (by simp)
    have hr : Stk r := ⟨fun u hu => hs.ok u (by simp [hu]), (List.pairwise_cons.1 hs.apart).2, (List.pairwise_cons.1 hs.alone).2⟩
    have hcov : ¬ coversB t c = true := by
      intro h
      obtain ⟨_, _, _, h2⟩ := (coversB_iff t c).1 h
      have := sz_pos c.b
      unfold Below2 at htc
      omega
    rw [push, if_neg hcov]
    by_cases hj : joinB t c = true
    · rw [if_pos hj]
      obtain ⟨j1, j2, j3, j4⟩ := (joinB_iff ht hc htc).1 hj
      have hw := whole_of_low ht j2
      have hwa : (wholeOf t).a = t.a := flo_self j3
      have hwb : (wholeOf t).b = t.b - 1 := rfl
      have hlt := hl t (by simp)
      obtain ⟨g1, g2, g3⟩ := push_above r (wholeOf t) c0 hr hw.1 (fun u hu => by
        have := (List.pairwise_cons.1 hs.apart).1 u hu
        unfold Below2 at this ⊢
        rw [hwa]; exact this) (fun u hu => hl u (by simp [hu])) (by rw [hwa, hwb]; omega)
      refine ⟨g1, fun x => ?_, g3⟩
      rw [g2 x]
      have e : inB (wholeOf t) x = (inB t x || inB c x) := by
        rw [Bool.eq_iff_iff, Bool.or_eq_true, inB_iff, inB_iff, inB_iff, hwa, hw.2.2.2, j4, ← j1]
        constructor
        · rintro ⟨_, h1, h2⟩
          rcases Nat.lt_or_ge x (t.a + sz t.b) with h3 | h3
          · exact .inl ⟨ht, h1, h3⟩
          · exact .inr ⟨hc, h3, by omega⟩
        · rintro (⟨_, h1, h2⟩ | ⟨_, h1, h2⟩)
          · exact ⟨hw.1, h1, by omega⟩
          · exact ⟨hw.1, by omega, by omega⟩
      rw [e]
      simp only [allB, List.any_cons]
      cases inB t x <;> cases inB c x <;> simp
    · rw [if_neg hj]
      refine ⟨⟨fun u hu => ?_, ?_, ?_⟩, fun x => ?_, fun u hu => ?_⟩
      · rcases List.mem_cons.1 hu with rfl | hu
        · exact hc
        · exact hs.ok u hu
      · exact List.pairwise_cons.2 ⟨fun u hu => hab u hu, hs.apart⟩
      · refine List.pairwise_cons.2 ⟨fun u hu hsib => ?_, hs.alone⟩
        obtain ⟨k1, k2, k3, k4⟩ := sib_iff (hs.ok u hu) hc (hab u hu) hsib
        rcases List.mem_cons.1 hu with rfl | hu
        · exact hj ((joinB_iff ht hc htc).2 ⟨k1, k2, k3, k4⟩)
        · have h5 := (List.pairwise_cons.1 hs.apart).1 u hu
          have := sz_pos t.b
          unfold Below2 at h5 htc
          omega
      · simp only [allB, List.any_cons]
        cases inB c x <;> simp
      · rcases List.mem_cons.1 hu with rfl | hu
        · exact hle
        · exact hl u hu

theorem push_next (st : List Net) (c : Net) (hs : Stk st) (hc : Ok c) (hl : ∀ t ∈ st, t.a < c.a ∨ (t.a = c.a ∧ t.b ≤ c.b)) :
    Stk (push st c) ∧ (∀ x, allB (push st c) x = (allB st x || inB c x)) ∧ ∀ t ∈ push st c, t.a < c.a ∨ (t.a = c.a ∧ t.b ≤ c.b) := by
  cases st with
  | nil => exact push_above [] c c hs hc (fun t h => by cases h) hl (.inr ⟨rfl, Int.le_refl _⟩)
  | cons t r =>
    have ht := hs.ok t (by simp)
    have h1 := hl t (by simp)
    have hpt := sz_pos t.b
    have hpc := sz_pos c.b
    have hcase : (t.a ≤ c.a ∧ c.a + sz c.b ≤ t.a + sz t.b) ∨ Below2 t c := by
      unfold Below2
      rcases Int.lt_or_le c.b t.b with h | h
      · have h2 : t.a < c.a := by omega
        rcases nested hc ht (by omega) with h3 | h3 | h3
        · omega
        · exact .inr h3
        · omega
      · rcases nested ht hc h with h3 | h3 | h3
        · exact .inl h3
        · omega
        · exact .inr h3
    rcases hcase with h | h
    · have hcov : coversB t c = true := (coversB_iff t c).2 ⟨ht, hc, h.1, h.2⟩
      rw [push, if_pos hcov]
      refine ⟨hs, fun x => ?_, hl⟩
      cases hx : inB c x with
      | false => simp
      | true =>
        obtain ⟨_, h2, h3⟩ := (inB_iff c x).1 hx
        have : inB t x = true := (inB_iff t x).2 ⟨ht, by omega, by omega⟩
        simp [allB, this]
    · refine push_above (t :: r) c c hs hc (fun u hu => ?_) hl (.inr ⟨rfl, Int.le_refl _⟩)
      rcases List.mem_cons.1 hu with rfl | hu
      · exact h
      · have := (List.pairwise_cons.1 hs.apart).1 u hu
        unfold Below2 at this h ⊢
        omega

def lexle (c d : Net) : Prop := c.a < d.a ∨ (c.a = d.a ∧ c.b ≤ d.b)
theorem push_all : ∀ (l st : List Net), Stk st → (∀ c ∈ l, Ok c) → l.Pairwise lexle → (∀ t ∈ st, ∀ c ∈ l, lexle t c) →
    Stk (l.foldl push st) ∧ ∀ x, allB (l.foldl push st) x = (allB st x || allB l x)
  | [], st, hs, _, _, _ => ⟨hs, fun x => by simp [allB]⟩
  | c :: l, st, hs, ho, hp, hl => by
    obtain ⟨g1, g2, g3⟩ := push_next st c hs (ho c (by simp)) (fun t ht => hl t ht c (by simp))
    have hp' := List.pairwise_cons.1 hp
    obtain ⟨k1, k2⟩ := push_all l (push st c) g1 (fun d hd => ho d (by simp [hd])) hp'.2 (fun t ht d hd => by
      have h1 := g3 t ht
      have h2 := hp'.1 d hd
      unfold lexle at h2 ⊢
      omega)
    refine ⟨k1, fun x => ?_⟩
    rw [List.foldl_cons, k2 x, g2 x]
    simp only [allB, List.any_cons]
    cases inB c x <;> simp
end Go.Proofs.YtgikkjjnoakhdaaDoor
