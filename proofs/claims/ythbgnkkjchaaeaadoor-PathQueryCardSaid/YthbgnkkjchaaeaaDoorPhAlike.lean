/- Plain: which targets have one path. -/
import Derived.Test.YthbgnkkjchaaeaaDoorPhRefN
namespace Go.Proofs.YthbgnkkjchaaeaaDoor

theorem nor_same {L L' : List UInt8} {r : List UInt8 × List UInt8} (h : norP L = some r) (h1 : L'.length ≤ 512) (h2 : L'.head? = some 47) (h3 : (askP L').2 = (askP L).2)
    (h4 : (spP badR (askP L).1).2 = true → (spP badR (askP L').1).2 = true ∧ lefP [] (splP (spP badR (askP L').1).1) = lefP [] (splP (spP badR (askP L).1).1) ∧ dirP (splP (spP badR (askP L').1).1) = dirP (splP (spP badR (askP L).1).1)) : norP L' = some r := by
  unfold norP at h ⊢
  split at h
  · rename_i hh
    obtain ⟨a1, a2, a3, a4⟩ := hh
    obtain ⟨b1, b2, b3⟩ := h4 a3
    rw [if_pos ⟨h1, h2, b1, by rw [h3]; exact a4⟩, b2, b3, h3]
    exact h
  · cases h
theorem askP_mid {A : List UInt8} (h : (63 : UInt8) ∉ A) (B : List UInt8) : askP (A ++ B) = (A ++ (askP B).1, (askP B).2) := askP_app B A h
/-- Put in behind a slash. -/
theorem alike_ins {A B ins ins' : List UInt8} {extra : List (List UInt8)} {r : List UInt8 × List UInt8} (h : norP (A ++ 47 :: B) = some r) (hA : (63 : UInt8) ∉ A) (hi : (63 : UInt8) ∉ ins) (hl : (A ++ 47 :: (ins ++ B)).length ≤ 512)
    (hsp : ∀ b, spP badR (ins ++ b) = (ins' ++ (spP badR b).1, (spP badR b).2)) (hsl : ∀ b, splP (ins' ++ b) = extra ++ splP b) (hlf : ∀ x S, lefP x (extra ++ S) = lefP x S) : norP (A ++ 47 :: (ins ++ B)) = some r := by
  have e1 : askP (A ++ 47 :: B) = (A ++ 47 :: (askP B).1, (askP B).2) := by rw [askP_mid hA, askP, if_neg (by decide)]
  have e2 : askP (A ++ 47 :: (ins ++ B)) = (A ++ 47 :: (ins ++ (askP B).1), (askP B).2) := by rw [askP_mid hA, askP, if_neg (by decide), askP_mid hi]
  have s47 : ∀ b, spP badR (47 :: b) = (47 :: (spP badR b).1, (spP badR b).2) := fun b => spP_one (by decide) (by decide) b
  refine nor_same h hl ?_ (by rw [e1, e2]) ?_
  · have hh : (A ++ 47 :: B).head? = some 47 := by
      unfold norP at h
      split at h
      · rename_i hh; exact hh.2.1
      · cases h
    cases A with
    | nil => rfl
    | cons c A => exact hh
  · rw [e1, e2]
    dsimp only
    rw [spP_sep (by decide), spP_sep (by decide), s47, s47, hsp]
    intro hx
    obtain ⟨a1, a2, a3⟩ := comb_two hx
    rw [comb_ok a1, comb_ok a1]
    refine ⟨a2, ?_, ?_⟩
    · dsimp only
      rw [splP_app, splP_app, hsl, lefP_app, lefP_app]
      congr 1
      funext x
      exact hlf x _
    · dsimp only
      rw [splP_app, splP_app, hsl, dirP_app (by intro e; exact splP_ne _ (List.append_eq_nil_iff.1 e).2), dirP_app (splP_ne _), dirP_app (splP_ne _)]
theorem alike_slash {A B : List UInt8} {r : List UInt8 × List UInt8} (h : norP (A ++ 47 :: B) = some r) (hA : (63 : UInt8) ∉ A) (hl : (A ++ 47 :: ([47] ++ B)).length ≤ 512) : norP (A ++ 47 :: ([47] ++ B)) = some r :=
  alike_ins (ins := [47]) (ins' := [47]) (extra := [[]]) h hA (by decide) hl (fun b => spP_one (by decide) (by decide) b) (fun b => splP_slash b) (fun x S => lefP_skip (.inl rfl) x S)
theorem alike_dot {A B : List UInt8} {r : List UInt8 × List UInt8} (h : norP (A ++ 47 :: B) = some r) (hA : (63 : UInt8) ∉ A) (hl : (A ++ 47 :: ([46, 47] ++ B)).length ≤ 512) : norP (A ++ 47 :: ([46, 47] ++ B)) = some r :=
  alike_ins (ins := [46, 47]) (ins' := [46, 47]) (extra := [[46]]) h hA (by decide) hl
    (fun b => by
      show spP badR (46 :: 47 :: b) = _
      rw [spP_one (by decide) (by decide), spP_one (by decide) (by decide)]; rfl)
    (fun b => splP_hit (a := [46]) (by decide) b) (fun x S => lefP_skip (.inr rfl) x S)
theorem alike_up {A B : List UInt8} {r : List UInt8 × List UInt8} (h : norP (A ++ 47 :: B) = some r) (hA : (63 : UInt8) ∉ A) (hl : (A ++ 47 :: ([120, 37, 50, 69, 47, 46, 46, 47] ++ B)).length ≤ 512) : norP (A ++ 47 :: ([120, 37, 50, 69, 47, 46, 46, 47] ++ B)) = some r :=
  alike_ins (ins := [120, 37, 50, 69, 47, 46, 46, 47]) (ins' := [120, 46, 47, 46, 46, 47]) (extra := [[120, 46], [46, 46]]) h hA (by decide) hl
    (fun b => by
      show spP badR (120 :: 37 :: 50 :: 69 :: 47 :: 46 :: 46 :: 47 :: b) = _
      rw [spP_one (by decide) (by decide), spP_two (v := 46) (by decide) (by decide), spP_one (by decide) (by decide), spP_one (by decide) (by decide), spP_one (by decide) (by decide), spP_one (by decide) (by decide)]
      rfl)
    (fun b => by
      show splP ([120, 46] ++ 47 :: ([46, 46] ++ 47 :: b)) = _
      rw [splP_hit (by decide), splP_hit (by decide)]; rfl)
    (fun x S => by
      show lefP x ([120, 46] :: [46, 46] :: S) = _
      rw [lefP_put (by decide) (by decide) (by decide), lefP_up _ _ (by simp), List.dropLast_concat])
/-- A letter said by its number. -/
theorem alike_let {A B : List UInt8} {c x y : UInt8} {r : List UInt8 × List UInt8} (h : norP (A ++ c :: B) = some r) (hA : (63 : UInt8) ∉ A) (hc : c.toNat = 63 → False) (h1 : ∀ u, A ≠ u ++ [37]) (h2 : ∀ u z, A ≠ u ++ [37, z])
    (hst : stB c = true) (h37 : c ≠ 37) (hpl : plB c = true) (hbd : badR c = false) (hv : twoV x y = some c) (hx : x ≠ 63) (hy : y ≠ 63) (h47 : c ≠ 47) (hl : (A ++ 37 :: x :: y :: B).length ≤ 512) : norP (A ++ 37 :: x :: y :: B) = some r := by
  have c63 : c ≠ 63 := fun e => hc (by rw [e]; rfl)
  have e1 : askP (A ++ c :: B) = (A ++ c :: (askP B).1, (askP B).2) := by rw [askP_mid hA, askP, if_neg c63]
  have e2 : askP (A ++ 37 :: x :: y :: B) = (A ++ 37 :: x :: y :: (askP B).1, (askP B).2) := by rw [askP_mid hA, askP, if_neg (by decide), askP, if_neg hx, askP, if_neg hy]
  refine nor_same h hl ?_ (by rw [e1, e2]) ?_
  · have hh : (A ++ c :: B).head? = some 47 := by
      unfold norP at h
      split at h
      · rename_i hh; exact hh.2.1
      · cases h
    cases A with
    | nil => exact absurd (Option.some.inj hh) h47
    | cons d A => exact hh
  · rw [e1, e2]
    dsimp only
    rw [spP_cut _ A h1 h2, spP_cut _ A h1 h2, spP_one h37 hst, spP_two hv hbd]
    have hp : putB c x y = [c] := by unfold putB; rw [hpl]; rfl
    rw [hp]
    intro hx
    exact ⟨hx, rfl, rfl⟩
/-- The paths and queries of three targets. -/
theorem nor_query {A p q : List UInt8} (hA : (63 : UInt8) ∉ A) (h : norP A = some (p, q)) : q = [] := by
  unfold norP at h
  split at h
  · rw [askP_none A hA] at h
    dsimp only at h
    rw [spP_nil] at h
    cases hk : lefP [] (splP (spP badR A).1) with
    | none => rw [hk] at h; cases h
    | some k => rw [hk] at h; cases h; rfl
  · cases h
theorem nor_ask {A Q x y : List UInt8} (hA : (63 : UInt8) ∉ A) (h : norP (A ++ 63 :: Q) = some (x, y)) : norP A = some (x, []) ∧ y = (spP nobad Q).1 := by
  unfold norP at h
  rw [askP_hit Q A hA] at h
  split at h
  · rename_i hh
    obtain ⟨h1, h2, h3, h4⟩ := hh
    dsimp only at h3 h4 h
    cases hk : lefP [] (splP (spP badR A).1) with
    | none => rw [hk] at h; cases h
    | some k =>
      rw [hk] at h
      cases h
      refine ⟨?_, rfl⟩
      unfold norP
      rw [askP_none A hA]
      dsimp only
      have hh : A.head? = some 47 := by
        cases A with
        | nil => cases h2
        | cons c A => exact h2
      rw [List.length_append] at h1
      rw [if_pos ⟨by omega, hh, h3, by rw [spP_nil]⟩, hk, spP_nil]
      rfl
  · cases h
theorem nor_ne {L p q : List UInt8} (h : norP L = some (p, q)) : p ≠ [] := by
  unfold norP at h
  split at h
  · cases hk : lefP [] (splP (spP badR (askP L).1).1) with
    | none => rw [hk] at h; cases h
    | some k =>
      rw [hk] at h
      cases h
      obtain ⟨r, hr⟩ : ∃ r, joiP (dirP (splP (spP badR (askP L).1).1)) k = 47 :: r := by
        cases k with
        | nil => exact ⟨[], joi_nil _⟩
        | cons x t => exact ⟨_, by rw [joi_some _ (by simp)]; rfl⟩
      rw [hr]; simp
  · cases h
end Go.Proofs.YthbgnkkjchaaeaaDoor
