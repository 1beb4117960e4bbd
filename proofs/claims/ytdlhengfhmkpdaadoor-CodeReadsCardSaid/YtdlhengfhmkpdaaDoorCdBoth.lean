/- Both readers, asked a field: one contract for each, whatever the bytes and whether stopped. -/
import Derived.Test.YtdlhengfhmkpdaaDoorCdRefX
import Derived.Test.YtdlhengfhmkpdaaDoorCdMeth
namespace Go.Proofs.YtdlhengfhmkpdaaDoor
open Go.RowKit

/-- What is left behind a field of which r is cut, and whether the reader is stopped. -/
def stp (st : Bool) (r : Option (List Int)) (bs : List Int) : List Int × Bool := if st then (bs, true) else match r with
  | none => (bs, true)
  | some x => (x, false)
/-- Behind a field asked of the program's reader. -/
def AllR (W : World) (B : Nat) (F : Nat → Prop) (g : Nat) (q : List Int × Bool) (P : Value → World → Prop) (e : Ending) (w' : World) : Prop :=
  ∃ f, e = .returned f ∧ P f w' ∧ Keep F W w' ∧ Rd w' B F g q.1 q.2
/-- Behind a field asked of the document's reader. -/
def AllM (W : World) (B : Nat) (F : Nat → Prop) (g : Nat) (q : List Int × Bool) (P : Value → World → Prop) (e : Ending) (w' : World) : Prop :=
  ∃ f, e = .returned f ∧ P f w' ∧ MPost W B F g q.1 q.2 w'

theorem allR_post {W : World} {B : Nat} {F : Nat → Prop} {g : Nat} {bs : List Int} {z : Value} {P Q : Value → World → Prop} {r : Option (List Int)} {e : Ending} {w' : World} (h : RdPost W B F g bs z P r e w') (hz : r = none → Q z w') (hq : ∀ f, r ≠ none → P f w' → Q f w') : AllR W B F g (stp false r bs) Q e w' := by
  obtain ⟨hk, h⟩ := h
  cases r with
  | none => exact ⟨z, h.1, hz rfl, hk, h.2⟩
  | some x =>
    obtain ⟨f, h1, h2, h3⟩ := h
    exact ⟨f, h1, hq f (by simp) h2, hk, h3⟩
theorem allR_stop {W : World} {B : Nat} {F : Nat → Prop} {g : Nat} {bs : List Int} {z : Value} {Q : Value → World → Prop} {r : Option (List Int)} {e : Ending} {w' : World} (h : Rd W B F g bs true) (he : e = .returned z) (hB : Below W.heap.size W w') (hq : Q z w') : AllR W B F g (stp true r bs) Q e w' :=
  ⟨z, he, hq, Keep.of_below hB, h.keep (Keep.of_below hB : Keep (fun _ => False) W w') (fun _ _ => id)⟩
theorem mpost_same {W w' : World} {B : Nat} {F : Nat → Prop} {g : Nat} {bs : List Int} {bad : Bool} (hob : B ≤ W.heap.size) (hk : Keep F W w') (h : RdM w' B F g bs bad) : MPost W B F g bs bad w' := ⟨hk, h.up hob⟩

/-- The byte that is read. -/
def v8 (st : Bool) (bs : List Int) : Int := if st = true ∨ cut8 bs = none then 0 else nth bs 0
def v32 (st : Bool) (bs : List Int) : Nat := if st = true ∨ cut32 bs = none then 0 else u32V bs 4
def vU (st : Bool) (bs : List Int) : Nat := if st then 0 else ((cutUS bs).map (·.1)).getD 0
def vT (st : Bool) (most : Int) (bs : List Int) : ByteArray := strOfNums (if st then [] else ((cutTS most bs).map (·.1)).getD [])
def vR (st : Bool) (n : Int) (bs : List Int) : List Int := if st = true ∨ cutRS n bs = none then [] else bs.take n.toNat

theorem r8_all (W : World) (B : Nat) (F : Nat → Prop) (g : Nat) (bs : List Int) (st : Bool) (h : Rd W B F g bs st) :
    Calls Tryd.prog 15 #[.pointer (some ⟨g, 0, none⟩)] W (AllR W B F g (stp st (cut8 bs) bs) (fun f _ => f = .int .u8 (v8 st bs))) := by
  cases st with
  | true => exact (r8_stop W B F g bs h).mono (fun e w' hh => allR_stop h hh.1 hh.2 (by simp [v8]))
  | false => exact (r8_go W B F g bs h).mono (fun e w' hh => allR_post hh (fun hn => by simp [v8, hn]) (fun f hn hf => by rw [hf]; simp [v8, hn]))
theorem r32_all (W : World) (B : Nat) (F : Nat → Prop) (g : Nat) (bs : List Int) (st : Bool) (h : Rd W B F g bs st) (ht : Tab W) (hr : ∀ x ∈ bs, 0 ≤ x ∧ x < 256) :
    Calls Tryd.prog 17 #[.pointer (some ⟨g, 0, none⟩)] W (AllR W B F g (stp st (cut32 bs) bs) (fun f _ => f = .int .u32 (v32 st bs : Nat))) := by
  cases st with
  | true => exact (r32_stop W B F g bs h).mono (fun e w' hh => allR_stop h hh.1 hh.2 (by simp [v32]))
  | false => exact (r32_go W B F g bs h ht hr).mono (fun e w' hh => allR_post hh (fun hn => by simp [v32, hn]) (fun f hn hf => by rw [hf]; simp [v32, hn]))
theorem ru_all (W : World) (B : Nat) (F : Nat → Prop) (g : Nat) (bs : List Int) (st : Bool) (h : Rd W B F g bs st) (ht : Tab W) (hr : ∀ x ∈ bs, 0 ≤ x ∧ x < 256) :
    Calls Tryd.prog 18 #[.pointer (some ⟨g, 0, none⟩)] W (AllR W B F g (stp st ((cutUS bs).map (·.2)) bs) (fun f _ => f = .int .u64 (vU st bs : Nat))) := by
  cases st with
  | true => exact (ru_stop W B F g bs h).mono (fun e w' hh => allR_stop h hh.1 hh.2 (by simp [vU]))
  | false => exact (ru_go W B F g bs h ht hr).mono (fun e w' hh => allR_post hh (fun hn => by rw [vU, Option.map_eq_none_iff.1 hn]; rfl) (fun f hn hf => by rw [hf]; simp [vU]))
theorem rt_all (n : Int) (hn : n < 18446744073709551616) (W : World) (B : Nat) (F : Nat → Prop) (g : Nat) (bs : List Int) (st : Bool) (h : Rd W B F g bs st) (ht : Tab W) (hr : ∀ x ∈ bs, 0 ≤ x ∧ x < 256) (hb : bs.length ≤ 140737488355328) :
    Calls Tryd.prog 20 #[.pointer (some ⟨g, 0, none⟩), .int .i64 n] W (AllR W B F g (stp st ((cutTS n bs).map (·.2)) bs) (fun f _ => f = .string (vT st n bs))) := by
  have hnil : strOfNums [] = ⟨#[]⟩ := rfl
  cases st with
  | true => exact (rt_stop n W B F g bs h).mono (fun e w' hh => allR_stop h hh.1 hh.2 (by simp [vT, hnil]))
  | false => exact (rt_go n W B F g bs h hn ht hr hb).mono (fun e w' hh => allR_post hh (fun hn => by rw [vT, Option.map_eq_none_iff.1 hn]; rfl) (fun f hn hf => by rw [hf]; simp [vT]))
theorem rr_all (n : Int) (W : World) (B : Nat) (F : Nat → Prop) (g : Nat) (bs : List Int) (st : Bool) (h : Rd W B F g bs st) (hb : bs.length ≤ 140737488355328) :
    Calls Tryd.prog 22 #[.pointer (some ⟨g, 0, none⟩), .int .i64 n] W (AllR W B F g (stp st (cutRS n bs) bs) (fun f w => Row w (W.heap.size + 1) f (vR st n bs))) := by
  cases st with
  | true => exact (rr_stop n W B F g bs h).mono (fun e w' hh => allR_stop h hh.1 hh.2 (by simp [vR]; exact Row.nil _ _))
  | false => exact (rr_go n W B F g bs h hb).mono (fun e w' hh => allR_post hh (fun hn => by simp [vR, hn]; exact Row.nil _ _) (fun f hn hf => by simpa [vR, hn] using hf))

theorem mu_all (W : World) (B : Nat) (F : Nat → Prop) (g : Nat) (bs : List Int) (st : Bool) (h : RdM W B F g bs st) (hr : ∀ x ∈ bs, 0 ≤ x ∧ x < 256) (hb : bs.length ≤ 140737488355328) :
    Calls Tryd.prog 19 #[.pointer (some ⟨g, 0, none⟩)] W (AllM W B F g (stp st ((cutUS bs).map (·.2)) bs) (fun f _ => f = .int .u64 (vU st bs : Nat))) := by
  cases st with
  | true => exact (uintM_no W B F g bs true h hr hb (.inl rfl)).mono (fun e w' hh => ⟨_, hh.1, by simp [vU], mpost_same h.hB hh.2.1 hh.2.2⟩)
  | false =>
    cases hc : cutUS bs with
    | none => exact (uintM_no W B F g bs false h hr hb (.inr hc)).mono (fun e w' hh => ⟨_, hh.1, by simp [vU, hc], mpost_same h.hB hh.2.1 hh.2.2⟩)
    | some y => exact (uintM_go y W B F g bs h hr hb hc).mono (fun e w' hh => ⟨_, hh.1, by simp [vU, hc], hh.2⟩)
theorem mt_all (n : Int) (hn : n < 9223372036854775808) (W : World) (B : Nat) (F : Nat → Prop) (g : Nat) (bs : List Int) (st : Bool) (h : RdM W B F g bs st) (hr : ∀ x ∈ bs, 0 ≤ x ∧ x < 256) (hb : bs.length ≤ 140737488355328) :
    Calls Tryd.prog 21 #[.pointer (some ⟨g, 0, none⟩), .int .i64 n] W (AllM W B F g (stp st ((cutTS n bs).map (·.2)) bs) (fun f _ => f = .string (vT st n bs))) := by
  have hnil : strOfNums [] = ⟨#[]⟩ := rfl
  cases st with
  | true => exact (textM_no n hn W B F g bs true h hr hb (.inl rfl)).mono (fun e w' hh => ⟨_, hh.1, by simp [vT, hnil], mpost_same h.hB hh.2.1 hh.2.2⟩)
  | false =>
    cases hc : cutTS n bs with
    | none => exact (textM_no n hn W B F g bs false h hr hb (.inr hc)).mono (fun e w' hh => ⟨_, hh.1, by simp [vT, hc, hnil], mpost_same h.hB hh.2.1 hh.2.2⟩)
    | some y => exact (textM_go n hn y W B F g bs h hr hb hc).mono (fun e w' hh => ⟨_, hh.1, by simp [vT, hc], hh.2⟩)
theorem mr_all (n : Int) (W : World) (B : Nat) (F : Nat → Prop) (g : Nat) (bs : List Int) (st : Bool) (h : RdM W B F g bs st) (hb : bs.length ≤ 140737488355328) :
    Calls Tryd.prog 23 #[.pointer (some ⟨g, 0, none⟩), .int .i64 n] W (AllM W B F g (stp st (cutRS n bs) bs) (fun f w => SlAt w f (vR st n bs))) := by
  by_cases hc : st = true ∨ n < 0 ∨ (bs.length : Int) < n
  · refine (rawM_no n W B F g bs st h hc).mono (fun e w' hh => ⟨_, hh.1, ?_, ?_⟩)
    · rw [vR, if_pos (hc.imp id (fun h => by rw [cutRS, if_pos h]))]
      exact (Row.nil w' 0).slAt
    · have hs : stp st (cutRS n bs) bs = (bs, true) := by
        cases st with
        | true => rfl
        | false => rw [cutRS, if_pos (hc.resolve_left (by simp))]; rfl
      rw [hs]
      exact mpost_same h.hB hh.2.1 hh.2.2
  · obtain ⟨m, rfl⟩ : ∃ m : Nat, n = m := ⟨n.toNat, by omega⟩
    obtain rfl : st = false := by cases st <;> simp_all
    have hcr : cutRS (m : Int) bs = some (bs.drop m) := by rw [cutRS, if_neg (fun h => hc (.inr h))]; rfl
    refine (rawM_go m W B F g bs h (by omega) hb).mono (fun e w' hh => ?_)
    obtain ⟨v, h1, h2, h3⟩ := hh
    refine ⟨v, h1, ?_, ?_⟩
    · rw [vR, hcr]; simpa using h2
    · rw [hcr]; exact h3
theorem m8_all (W : World) (B : Nat) (F : Nat → Prop) (g : Nat) (bs : List Int) (st : Bool) (h : RdM W B F g bs st) (hr : ∀ x ∈ bs, 0 ≤ x ∧ x < 256) (hb : bs.length ≤ 140737488355328) :
    Calls Tryd.prog 16 #[.pointer (some ⟨g, 0, none⟩), .int .i64 1] W (AllM W B F g (stp st (cut8 bs) bs) (fun f _ => f = .int .u64 (v8 st bs))) := by
  by_cases hc : st = true ∨ bs.length = 0
  · refine (wideM_no 1 W B F g bs st h (hc.imp id (fun h => .inr (by omega)))).mono (fun e w' hh => ⟨_, hh.1, ?_, ?_⟩)
    · rw [v8, if_pos (hc.imp id (fun h => by rw [cut8, if_pos h]))]
    · have hs : stp st (cut8 bs) bs = (bs, true) := by
        cases st with
        | true => rfl
        | false => rw [cut8, if_pos (hc.resolve_left (by simp))]; rfl
      rw [hs]
      exact mpost_same h.hB hh.2.1 hh.2.2
  · obtain rfl : st = false := by cases st <;> simp_all
    have h0 : ¬ bs.length = 0 := fun h => hc (.inr h)
    have hcr : cut8 bs = some (bs.drop 1) := by rw [cut8, if_neg h0]
    refine (wideM_go 1 (by omega) W B F g bs h (by omega) hb hr).mono (fun e w' hh => ⟨_, hh.1, ?_, ?_⟩)
    · have hb0 := nth_range hr 0
      rw [v8, hcr]
      simp [u32V]
      omega
    · rw [hcr]; exact hh.2
theorem m32_all (W : World) (B : Nat) (F : Nat → Prop) (g : Nat) (bs : List Int) (st : Bool) (h : RdM W B F g bs st) (hr : ∀ x ∈ bs, 0 ≤ x ∧ x < 256) (hb : bs.length ≤ 140737488355328) :
    Calls Tryd.prog 16 #[.pointer (some ⟨g, 0, none⟩), .int .i64 4] W (AllM W B F g (stp st (cut32 bs) bs) (fun f _ => f = .int .u64 (v32 st bs : Nat))) := by
  by_cases hc : st = true ∨ bs.length < 4
  · refine (wideM_no 4 W B F g bs st h (hc.imp id (fun h => .inr (by omega)))).mono (fun e w' hh => ⟨_, hh.1, ?_, ?_⟩)
    · rw [v32, if_pos (hc.imp id (fun h => by rw [cut32, if_pos h]))]; rfl
    · have hs : stp st (cut32 bs) bs = (bs, true) := by
        cases st with
        | true => rfl
        | false => rw [cut32, if_pos (hc.resolve_left (by simp))]; rfl
      rw [hs]
      exact mpost_same h.hB hh.2.1 hh.2.2
  · obtain rfl : st = false := by cases st <;> simp_all
    have h0 : ¬ bs.length < 4 := fun h => hc (.inr h)
    have hcr : cut32 bs = some (bs.drop 4) := by rw [cut32, if_neg h0]
    refine (wideM_go 4 (by omega) W B F g bs h (by omega) hb hr).mono (fun e w' hh => ⟨_, hh.1, ?_, ?_⟩)
    · rw [v32, hcr]; simp
    · rw [hcr]; exact hh.2
end Go.Proofs.YtdlhengfhmkpdaaDoor
