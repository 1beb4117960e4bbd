/- Slices of a slice of bytes, whatever the bounds: the model's operation under one name, and what is read there. -/
import Derived.Test.YteocienbfhgmjaaParts
import Derived.WalkKit
namespace Go.Proofs.Yteocienbfhgmjaa
open Go.RowKit

/-- What 's[l:l+m]' answers. -/
def sl (a : Option Addr) (l m cap : Nat) : Value := .slice (if cap = l then a else a.map (·.add l)) m (cap - l)

theorem SlAt.le {w : World} {ao : Option Addr} {n c : Nat} {xs : List Int} (h : SlAt w (.slice ao n c) xs) : n ≤ c ∧ n = xs.length := by
  obtain ⟨ao', cap, hv, _, hc, _⟩ := h
  simp at hv
  obtain ⟨_, rfl, rfl⟩ := hv
  exact ⟨hc, rfl⟩

theorem sl_len (a : Option Addr) (l m cap : Nat) : ∃ b, sl a l m cap = .slice b m (cap - l) := ⟨_, rfl⟩

theorem addr_plain' (b o i : Nat) : (⟨b, o, none⟩ : Addr).add i = ⟨b, o + i, none⟩ := by simp [Addr.add]

theorem add_add' (a : Addr) (h : a.spot = none) (i j : Nat) : (a.add i).add j = a.add (i + j) := by
  obtain ⟨b, o, s⟩ := a
  cases h
  rw [addr_plain', addr_plain', addr_plain', Nat.add_assoc]

theorem SlAt.cut {w : World} {ao : Option Addr} {n c : Nat} {xs : List Int} (h : SlAt w (.slice ao n c) xs) {lo m : Nat} (hm : lo + m ≤ n) : SlAt w (sl ao lo m c) ((xs.drop lo).take m) := by
  obtain ⟨ao', cap, hv, hn, hc, ha⟩ := h
  simp at hv
  obtain ⟨rfl, rfl, rfl⟩ := hv
  have hl : ((xs.drop lo).take m).length = m := by simp; omega
  by_cases e : c = lo
  · have hm0 : m = 0 := by omega
    subst hm0
    refine ⟨ao, c - lo, by simp [sl, e], fun h => by simp [(hn h).2], by simp, fun ad had i hi => by simp at hi⟩
  · refine ⟨ao.map (·.add lo), c - lo, by rw [hl, sl, if_neg e], fun h => ?_, by rw [hl]; omega, fun ad had i hi => ?_⟩
    · have hz := hn (by cases ao <;> simp_all)
      simp [hz.1, hz.2]
    · cases hao : ao with
      | none => rw [hao] at had; cases had
      | some x =>
        rw [hao] at had
        simp at had
        subst had
        rw [hl] at hi
        obtain ⟨h1, h2, h3⟩ := ha x hao (lo + i) (by omega)
        refine ⟨by unfold Addr.add; split <;> simp_all, ?_, ?_⟩
        · have hb : (x.add lo).block = x.block := by unfold Addr.add; split <;> rfl
          rw [hb]; exact h2
        · rw [add_add' x h1, h3]
          have hi2 : lo + i < xs.length := by omega
          simp [nth, List.getD, List.getElem?_drop, hi]

theorem SlAt.front' {w : World} {ao : Option Addr} {n c : Nat} {xs : List Int} (h : SlAt w (.slice ao n c) xs) {m : Nat} (hm : m ≤ n) : SlAt w (.slice ao m c) (xs.take m) := by
  obtain ⟨ao', cap, hv, hn, hc, ha⟩ := h
  simp at hv
  obtain ⟨rfl, rfl, rfl⟩ := hv
  refine ⟨ao, c, by simp [Nat.min_eq_left hm], fun h => by simp [(hn h).1, (hn h).2], by simp; omega, fun ad had i hi => ?_⟩
  have hi2 : i < m := by simp at hi; omega
  obtain ⟨h1, h2, h3⟩ := ha ad had i (by omega)
  refine ⟨h1, h2, h3.trans ?_⟩
  have hl : i < xs.length := by omega
  simp [nth, List.getD, hi2, hl]

section
variable {P : Program}
theorem run_sizeOf {e : TypeId} {s : Nat} (hs : (P.info? e).map (·.size) = some s) (w : World) : (sizeOf e).run P w = .ok s w := by
  obtain ⟨i, hi, rfl⟩ := Option.map_eq_some_iff.1 hs
  simp [sizeOf, typeInfo, hi]

theorem run_cut_lh {t e : TypeId} (hu : P.underlying t = some (.slice e)) (hs : (P.info? e).map (·.size) = some 1) (ao : Option Addr) (n cap l m : Nat) (h : l + m ≤ cap) (w : World) :
    (Instr.sliceAt t (.slice ao n cap) (some (.int .i64 (l : Int))) (some (.int .i64 ((l : Int) + (m : Int)))) none).run P w = .ok (sl ao l m cap) w := by
  have h1 : (0 : Int) ≤ (l : Int) + (m : Int) ∧ (l : Int) + (m : Int) ≤ (cap : Int) := by omega
  have h2 : ((l : Int) + (m : Int)).toNat = l + m := by omega
  have h3 : (0 : Int) ≤ (l : Int) ∧ (l : Int) ≤ ((l + m : Nat) : Int) := by omega
  have h6 : l + m - l = m := by omega
  simp [Instr.sliceAt, Instr.slice, run_underlying hu, Instr.sliceBounds, run_sliceBound_if, run_sizeOf hs, sl, h1, h2, h3, h6]

theorem run_cut_lh2 {t e : TypeId} (hu : P.underlying t = some (.slice e)) (hs : (P.info? e).map (·.size) = some 1) (ao : Option Addr) (n cap l h : Nat) (h0 : l ≤ h) (h1 : h ≤ cap) (w : World) :
    (Instr.sliceAt t (.slice ao n cap) (some (.int .i64 (l : Int))) (some (.int .i64 (h : Int))) none).run P w = .ok (sl ao l (h - l) cap) w := by
  have e : (h : Int) = (l : Int) + ((h - l : Nat) : Int) := by omega
  rw [e]
  exact run_cut_lh hu hs ao n cap l (h - l) (by omega) w

theorem run_cut_l {t e : TypeId} (hu : P.underlying t = some (.slice e)) (hs : (P.info? e).map (·.size) = some 1) (ao : Option Addr) (n cap l : Nat) (h : l ≤ n) (w : World) :
    (Instr.sliceAt t (.slice ao n cap) (some (.int .i64 (l : Int))) none none).run P w = .ok (sl ao l (n - l) cap) w := by
  have h3 : (0 : Int) ≤ (l : Int) ∧ (l : Int) ≤ (n : Int) := by omega
  simp [Instr.sliceAt, Instr.slice, run_underlying hu, Instr.sliceBounds, run_sliceBound_if, run_sizeOf hs, sl, h3]

theorem run_cut_h {t e : TypeId} (hu : P.underlying t = some (.slice e)) (hs : (P.info? e).map (·.size) = some 1) (ao : Option Addr) (n cap m : Nat) (h0 : m ≤ cap) (w : World) :
    (Instr.sliceAt t (.slice ao n cap) none (some (.int .i64 (m : Int))) none).run P w = .ok (.slice ao m cap) w := by
  have h1 : (0 : Int) ≤ (m : Int) ∧ (m : Int) ≤ (cap : Int) := by omega
  simp [Instr.sliceAt, Instr.slice, run_underlying hu, Instr.sliceBounds, run_sliceBound_if, run_sizeOf hs, h1]
  intro he
  cases ao with
  | none => rfl
  | some a => simp [Addr.add]
end
end Go.Proofs.Yteocienbfhgmjaa
