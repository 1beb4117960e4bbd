/- The document's roots are the table's: prime by prime, by the kernel's own reckoning. -/
import Derived.Test.YteocienbfhgmjaaRtP
namespace Go.Proofs.Yteocienbfhgmjaa
open Go.RowKit

/-- The roots of the primes out of a table. -/
def rootsT (T : Nat → Option Nat) : Nat → Option (List Nat)
  | 0 => some []
  | j + 1 => (rootsT T j).bind fun l => bif primeN (2 + j) j then (T (2 + j)).bind fun r => some (l ++ [r % 4294967296]) else some l

theorem rootsN_T (power : Nat) (T : Nat → Option Nat) (m : Nat) (h : ∀ j, j < m → primeN (2 + j) j = true → rootN (2 + j) power 40 = T (2 + j)) : ∀ j, j ≤ m → rootsN power j = rootsT T j
  | 0, _ => rfl
  | j + 1, hj => by
    rw [rootsN, rootsT, rootsN_T power T m h j (by omega)]
    cases hp : primeN (2 + j) j with
    | false => rfl
    | true => rw [h j (by omega) hp]

def look : List (Nat × Nat) → Nat → Option Nat
  | [], _ => none
  | (p, r) :: l, q => bif Nat.beq p q then some r else look l q

/-- Does the table have just the primes, with their roots? -/
theorem table_roots (power m : Nat) (tbl : List (Nat × Nat)) (h : ∀ p r, (p, r) ∈ tbl → rootN p power 40 = some r) (hall : ∀ j, j < m → primeN (2 + j) j = true → ∃ r, look tbl (2 + j) = some r) : ∀ j, j ≤ m → rootsN power j = rootsT (look tbl) j :=
  rootsN_T power (look tbl) m fun j hj hp => by
    obtain ⟨r, hr⟩ := hall j hj hp
    have hin : ∀ l : List (Nat × Nat), look l (2 + j) = some r → (2 + j, r) ∈ l := by
      intro l
      induction l with
      | nil => intro h; cases h
      | cons x l ih =>
        intro h
        obtain ⟨p, q⟩ := x
        rw [look] at h
        cases hb : Nat.beq p (2 + j) with
        | false => rw [hb] at h; exact List.mem_cons_of_mem _ (ih h)
        | true =>
          rw [hb] at h
          injection h with h
          have := Nat.eq_of_beq_eq_true hb
          subst this
          rw [h]
          exact List.mem_cons_self ..
    rw [hr]
    exact h (2 + j) r (hin tbl hr)

def look? (m : Nat) (tbl : List (Nat × Nat)) : Bool := (List.range m).all fun j => !primeN (2 + j) j || (look tbl (2 + j)).isSome
theorem look_all {m : Nat} {tbl : List (Nat × Nat)} (h : look? m tbl = true) : ∀ j, j < m → primeN (2 + j) j = true → ∃ r, look tbl (2 + j) = some r := fun j hj hp => by
  have h2 := List.all_eq_true.1 h j (by simpa using hj)
  rw [hp] at h2
  simpa [Option.isSome_iff_exists] using h2

set_option maxRecDepth 100000 in
theorem tab2_2 : rootN 2 2 40 = some 6074000999 := by decide +kernel
set_option maxRecDepth 100000 in
theorem tab2_3 : rootN 3 2 40 = some 7439101573 := by decide +kernel
set_option maxRecDepth 100000 in
theorem tab2_5 : rootN 5 2 40 = some 9603838834 := by decide +kernel
set_option maxRecDepth 100000 in
theorem tab2_7 : rootN 7 2 40 = some 11363415354 := by decide +kernel
set_option maxRecDepth 100000 in
theorem tab2_11 : rootN 11 2 40 = some 14244795007 := by decide +kernel
set_option maxRecDepth 100000 in
theorem tab2_13 : rootN 13 2 40 = some 15485724812 := by decide +kernel
set_option maxRecDepth 100000 in
theorem tab2_17 : rootN 17 2 40 = some 17708603819 := by decide +kernel
set_option maxRecDepth 100000 in
theorem tab2_19 : rootN 19 2 40 = some 18721328409 := by decide +kernel
def tab2 : List (Nat × Nat) := [(2, 6074000999), (3, 7439101573), (5, 9603838834), (7, 11363415354), (11, 14244795007), (13, 15485724812), (17, 17708603819), (19, 18721328409)]
theorem tab2_all : ∀ p r, (p, r) ∈ tab2 → rootN p 2 40 = some r := by
  intro p r hx
  simp only [tab2, List.mem_cons, List.not_mem_nil, or_false, Prod.mk.injEq] at hx
  rcases hx with ⟨rfl, rfl⟩ | ⟨rfl, rfl⟩ | ⟨rfl, rfl⟩ | ⟨rfl, rfl⟩ | ⟨rfl, rfl⟩ | ⟨rfl, rfl⟩ | ⟨rfl, rfl⟩ | ⟨rfl, rfl⟩
  · exact tab2_2
  · exact tab2_3
  · exact tab2_5
  · exact tab2_7
  · exact tab2_11
  · exact tab2_13
  · exact tab2_17
  · exact tab2_19

theorem rootsK2 : rootsN 2 18 = some firstN := by
  rw [table_roots 2 18 tab2 tab2_all (look_all (by decide +kernel)) 18 (Nat.le_refl _)]
  decide +kernel
theorem rootsS2 : ∀ j, j < 18 → ∃ o, rootsN 2 j = some o ∧ o.length < 8 := fun j hj => by
  rw [table_roots 2 18 tab2 tab2_all (look_all (by decide +kernel)) j (by omega)]
  have h : (List.range 18).all (fun j => match rootsT (look tab2) j with | some o => Nat.blt o.length 8 | none => false) = true := by decide +kernel
  have h2 := List.all_eq_true.1 h j (by simpa using hj)
  cases ho : rootsT (look tab2) j with
  | none => rw [ho] at h2; cases h2
  | some o => rw [ho] at h2; exact ⟨o, rfl, by simpa using h2⟩
end Go.Proofs.Yteocienbfhgmjaa
