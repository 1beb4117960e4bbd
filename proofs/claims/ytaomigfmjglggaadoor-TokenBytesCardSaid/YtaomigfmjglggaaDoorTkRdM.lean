/- Numbers' bytes: how many, and that none is a beginning of another one's. What is written is cut: a number's bytes, a text's. What is read, written, is what was taken. Readers of package code: each method in one statement, whether the reader goes on or is stopped. A token's reader: mark and host; what Read answers, in plain words. A token's reader: token. Read of token. A token's bytes, and what is read of them, in plain words: there and back. -/
import Derived.Test.YtaomigfmjglggaaDoorCdRdr
import Derived.Test.YtaomigfmjglggaaDoorTkIss
import Derived.Test.YtaomigfmjglggaaDoorTuck
import Derived.Deep.CutBlock
namespace Go.Proofs.YtaomigfmjglggaaDoor
open Go.RowKit

theorem pow128 (n : Nat) : 128 ^ (n + 2) = 128 ^ (n + 1) * 128 := Nat.pow_succ ..

theorem uintF_prefix : ∀ (n m x y : Nat) (r s : List Int), x < 128 ^ (n + 1) → y < 128 ^ (m + 1) → uintF n x ++ r = uintF m y ++ s → x = y ∧ r = s
  | 0, m, x, y, r, s, hx, hy, h => by
    have hx' : x < 128 := by simpa using hx
    rw [uintF_end _ _ hx'] at h
    by_cases hy' : y < 128
    · rw [uintF_end _ _ hy'] at h
      simp at h
      exact ⟨by omega, h.2⟩
    · cases m with
      | zero => simp at hy; omega
      | succ m =>
        rw [uintF, if_neg hy'] at h
        simp at h
        omega
  | n + 1, m, x, y, r, s, hx, hy, h => by
    by_cases hx' : x < 128
    · rw [uintF_end _ _ hx'] at h
      by_cases hy' : y < 128
      · rw [uintF_end _ _ hy'] at h
        simp at h
        exact ⟨by omega, h.2⟩
      · cases m with
        | zero => simp at hy; omega
        | succ m =>
          rw [uintF, if_neg hy'] at h
          simp at h
          omega
    · rw [uintF, if_neg hx'] at h
      by_cases hy' : y < 128
      · rw [uintF_end _ _ hy'] at h
        simp at h
        omega
      · cases m with
        | zero => simp at hy; omega
        | succ m =>
          rw [uintF, if_neg hy', List.cons_append, List.cons_append] at h
          injection h with h1 h2
          rw [pow128] at hx hy
          obtain ⟨e1, e2⟩ := uintF_prefix n m (x / 128) (y / 128) r s (by omega) (by omega) h2
          exact ⟨by omega, e2⟩

theorem p10 : 18446744073709551616 ≤ 128 ^ (9 + 1) := by decide
theorem uintS_prefix (x y : Nat) (hx : x < 18446744073709551616) (hy : y < 18446744073709551616) (r s : List Int) (h : uintS x ++ r = uintS y ++ s) : x = y ∧ r = s :=
  uintF_prefix 9 9 x y r s (Nat.lt_of_lt_of_le hx p10) (Nat.lt_of_lt_of_le hy p10) h

theorem uintF_mono : ∀ (n x y : Nat), x ≤ y → (uintF n x).length ≤ (uintF n y).length
  | 0, x, y, _ => by simp [uintF]
  | n + 1, x, y, h => by
    by_cases hx : x < 128
    · rw [uintF_end _ _ hx]
      rw [uintF]
      split <;> simp
    · rw [uintF, if_neg hx, uintF, if_neg (by omega)]
      have := uintF_mono n (x / 128) (y / 128) (by omega)
      simpa using this
theorem uintS_mono (x y : Nat) (h : x ≤ y) : (uintS x).length ≤ (uintS y).length := uintF_mono 9 x y h
theorem uintF_pos (n x : Nat) : 0 < (uintF n x).length := by
  cases n with
  | zero => simp [uintF]
  | succ n => rw [uintF]; split <;> simp
theorem uintS_one (x : Nat) : (uintS x).length = 1 ↔ x < 128 := by
  unfold uintS
  rw [uintF]
  split
  · simp_all
  · have := uintF_pos 8 (x / 128)
    simp only [List.length_cons]
    omega

theorem uintF_range : ∀ (n x : Nat), x < 128 ^ (n + 1) → ∀ b ∈ uintF n x, 0 ≤ b ∧ b < 256
  | 0, x, hx, b, hb => by
    simp [uintF] at hb
    simp at hx
    omega
  | n + 1, x, hx, b, hb => by
    rw [uintF] at hb
    split at hb
    · simp at hb; omega
    · rw [pow128] at hx
      rcases List.mem_cons.1 hb with rfl | hb
      · omega
      · exact uintF_range n (x / 128) (by omega) b hb
theorem uintS_range (x : Nat) (hx : x < 18446744073709551616) : ∀ b ∈ uintS x, 0 ≤ b ∧ b < 256 := uintF_range 9 x (Nat.lt_of_lt_of_le hx p10)

theorem strOfNums_inj (a b : List Int) (ha : ∀ x ∈ a, 0 ≤ x ∧ x < 256) (hb : ∀ x ∈ b, 0 ≤ x ∧ x < 256) (h : strOfNums a = strOfNums b) : a = b := by
  rw [← bytesOf_str a ha, ← bytesOf_str b hb, h]

theorem uintS_take (x y : Nat) (hx : x < 18446744073709551616) (hy : y < 18446744073709551616) (h : (uintS y).take (uintS x).length = uintS x) : x = y := by
  have : uintS x ++ (uintS y).drop (uintS x).length = uintS y ++ [] := by
    conv => lhs; lhs; rw [← h]
    rw [List.take_append_drop, List.append_nil]
  exact (uintS_prefix x y hx hy _ _ this).1
end Go.Proofs.YtaomigfmjglggaaDoor
namespace Go.Proofs.YtaomigfmjglggaaDoor
open Go.RowKit

theorem cutL_uintF : ∀ (n f i x : Nat) (r : List Int), n < f → x < 128 ^ (n + 1) → (0 < i → 0 < x) → x * 2 ^ (7 * i) < 18446744073709551616 → cutL f i (uintF n x ++ r) = some (x * 2 ^ (7 * i), r)
  | n, 0, i, x, r, hf, _, _, _ => absurd hf (Nat.not_lt_zero _)
  | n, f + 1, i, x, r, hf, hx, hi, hw => by
    by_cases hx' : x < 128
    · rw [uintF_end _ _ hx', List.singleton_append, cutL, if_neg, if_pos (by omega)]
      · have : (x : Int).toNat % 128 = x := by omega
        rw [this]
      · have : (x : Int).toNat % 128 = x := by omega
        rw [this]
        omega
    · cases n with
      | zero => simp at hx; omega
      | succ n =>
        rw [pow128] at hx
        have hp : 2 ^ (7 * (i + 1)) = 128 * 2 ^ (7 * i) := by rw [Nat.mul_add, Nat.pow_add, Nat.mul_comm]
        have hxd : x = x / 128 * 128 + x % 128 := by omega
        have hmul : x * 2 ^ (7 * i) = x / 128 * (128 * 2 ^ (7 * i)) + x % 128 * 2 ^ (7 * i) := by
          conv => lhs; rw [hxd]
          rw [Nat.add_mul, Nat.mul_assoc]
        have ih := cutL_uintF n f (i + 1) (x / 128) r (by omega) (by omega) (by omega) (by rw [hp]; omega)
        have hb : (((x % 128 + 128 : Nat) : Int)).toNat % 128 = x % 128 := by omega
        rw [uintF, if_neg hx', List.cons_append, cutL, hb, if_neg (by omega), if_neg (by omega), ih, hp]
        simp only [Option.map_some]
        congr 2
        omega

theorem cutUS_uintS (x : Nat) (r : List Int) (hx : x < 18446744073709551616) : cutUS (uintS x ++ r) = some (x, r) := by
  have := cutL_uintF 9 10 0 x r (by omega) (Nat.lt_of_lt_of_le hx p10) (by omega) (by simpa using hx)
  rw [Nat.mul_zero, Nat.pow_zero, Nat.mul_one] at this
  exact this

theorem cutTS_textS (most : Int) (s : ByteArray) (r : List Int) (hs : s.size ≤ maxLen) : cutTS most (textS s ++ r) = if most < (s.size : Int) then none else some (bytesOf s, r) := by
  have hl := length_bytesOf s
  rw [cutTS, textS, List.append_assoc, cutUS_uintS _ _ (by unfold maxLen at hs; omega)]
  dsimp only
  by_cases h : most < (s.size : Int)
  · rw [if_pos h, if_pos (by omega)]
  · rw [if_neg h, if_neg (by rw [List.length_append, hl]; omega)]
    rw [← hl, List.take_left', List.drop_left'] <;> rfl

theorem str_bytesOf (s : ByteArray) : strOfNums (bytesOf s) = s := by
  have h := bytesOf_str (bytesOf s) (bytesOf_range s)
  have e : ∀ a b : ByteArray, bytesOf a = bytesOf b → a = b := fun a b h => by
    have h1 : a.data.toList = b.data.toList := by
      have h2 := congrArg (List.map fun x : Int => UInt8.ofNat x.toNat) h
      simpa [bytesOf, List.map_map, Function.comp_def] using h2
    have h2 := Array.toList_inj.1 h1
    cases a; cases b; simp_all
  exact e _ _ h

theorem textS_range (s : ByteArray) (h : s.size ≤ maxLen) : ∀ x ∈ textS s, 0 ≤ x ∧ x < 256 := by
  intro x hx
  rw [textS] at hx
  rcases List.mem_append.1 hx with h1 | h1
  · exact uintS_range _ (by unfold maxLen at h; omega) x h1
  · exact bytesOf_range _ x h1
end Go.Proofs.YtaomigfmjglggaaDoor
namespace Go.Proofs.YtaomigfmjglggaaDoor
open Go.RowKit

theorem form_sum (i x c : Nat) (hi : i ≤ 8) (hc : c < 128) (h : x * 2 ^ (7 * (i + 1)) < 18446744073709551616) : c * 2 ^ (7 * i) + x * 2 ^ (7 * (i + 1)) = (c + 128 * x) * 2 ^ (7 * i) ∧ (c + 128 * x) * 2 ^ (7 * i) < 18446744073709551616 := by
  have : i = 0 ∨ i = 1 ∨ i = 2 ∨ i = 3 ∨ i = 4 ∨ i = 5 ∨ i = 6 ∨ i = 7 ∨ i = 8 := by omega
  rcases this with rfl | rfl | rfl | rfl | rfl | rfl | rfl | rfl | rfl <;> simp at * <;> omega

theorem cutL_form : ∀ (f i : Nat) (ys : List Int) (v : Nat) (rest : List Int), f + i = 10 → (∀ x ∈ ys, 0 ≤ x ∧ x < 256) → cutL f i ys = some (v, rest) →
    ∃ x, v = x * 2 ^ (7 * i) ∧ v < 18446744073709551616 ∧ (0 < i → 0 < x) ∧ uintF (f - 1) x ++ rest = ys
  | 0, _, _, _, _, _, _, h => by simp [cutL] at h
  | _ + 1, _, [], _, _, _, _, h => by simp [cutL] at h
  | f + 1, i, b :: r, v, rest, hf, hr, h => by
    have hb := hr b (List.mem_cons_self ..)
    rw [cutL] at h
    split at h
    · cases h
    · rename_i hno
      split at h
      · rename_i hlt
        injection h with h
        injection h with h1 h2
        subst h1 h2
        have e : b.toNat % 128 = b.toNat := by omega
        refine ⟨b.toNat, by rw [e], by omega, by omega, ?_⟩
        rw [uintF_end _ _ (by omega), show ((b.toNat : Nat) : Int) = b by omega]
        rfl
      · rename_i hge
        cases hc : cutL f (i + 1) r with
        | none => rw [hc] at h; cases h
        | some z =>
          rw [hc] at h
          injection h with h
          injection h with h1 h2
          obtain ⟨x, e1, e2, e3, e4⟩ := cutL_form f (i + 1) r z.1 z.2 (by omega) (fun y hy => hr y (List.mem_cons_of_mem _ hy)) (by rw [hc])
          have hf0 : f ≠ 0 := fun e => by subst e; simp [cutL] at hc
          rw [e1] at h1 e2
          obtain ⟨s1, s2⟩ := form_sum i x (b.toNat % 128) (by omega) (by omega) e2
          rw [s1] at h1
          have hx := e3 (by omega)
          refine ⟨b.toNat % 128 + 128 * x, h1.symm, by omega, by omega, ?_⟩
          rw [← h2, show f + 1 - 1 = (f - 1) + 1 by omega, uintF, if_neg (by omega), show (b.toNat % 128 + 128 * x) / 128 = x by omega, List.cons_append, e4]
          congr 1
          omega

theorem cutUS_form (ys : List Int) (v : Nat) (rest : List Int) (hr : ∀ x ∈ ys, 0 ≤ x ∧ x < 256) (h : cutUS ys = some (v, rest)) : v < 18446744073709551616 ∧ uintS v ++ rest = ys := by
  obtain ⟨x, e1, e2, _, e4⟩ := cutL_form 10 0 ys v rest rfl hr h
  have : v = x := by simpa using e1
  subst this
  exact ⟨e2, e4⟩

theorem size_str (xs : List Int) (h : ∀ x ∈ xs, 0 ≤ x ∧ x < 256) : (strOfNums xs).size = xs.length := by
  rw [← length_bytesOf, bytesOf_str xs h]

theorem cutTS_form (most : Int) (ys : List Int) (t rest : List Int) (hr : ∀ x ∈ ys, 0 ≤ x ∧ x < 256) (h : cutTS most ys = some (t, rest)) : textS (strOfNums t) ++ rest = ys ∧ t.length < ys.length := by
  rw [cutTS] at h
  cases hc : cutUS ys with
  | none => rw [hc] at h; cases h
  | some y =>
    rw [hc] at h
    dsimp only at h
    split at h
    · cases h
    · rename_i hno
      injection h with h
      injection h with h1 h2
      obtain ⟨e1, e2⟩ := cutUS_form ys y.1 y.2 hr hc
      have hl := cutL_len 10 0 ys y hc
      have hy : ∀ x ∈ y.2, 0 ≤ x ∧ x < 256 := fun x hx => hr x (by rw [← e2]; exact List.mem_append_right _ hx)
      have ht : ∀ x ∈ t, 0 ≤ x ∧ x < 256 := fun x hx => hy x (by rw [← h1] at hx; exact List.mem_of_mem_take hx)
      have htl : t.length = y.1 := by rw [← h1]; simp; omega
      refine ⟨?_, by omega⟩
      rw [textS, size_str t ht, htl, bytesOf_str t ht, List.append_assoc, ← h1, ← h2, List.take_append_drop, e2]

theorem u32S_form (ys : List Int) (hr : ∀ x ∈ ys, 0 ≤ x ∧ x < 256) (h : 4 ≤ ys.length) : u32V ys 4 < 4294967296 ∧ u32S (u32V ys 4) ++ ys.drop 4 = ys := by
  match ys, h with
  | a :: b :: c :: d :: r, _ =>
    have ha := hr a (by simp)
    have hb := hr b (by simp)
    have hc := hr c (by simp)
    have hd := hr d (by simp)
    have e : u32V (a :: b :: c :: d :: r) 4 = a.toNat + b.toNat * 256 + c.toNat * 65536 + d.toNat * 16777216 := by
      simp [u32V, nth]
    refine ⟨by rw [e]; omega, ?_⟩
    rw [e]
    simp [u32S, u32T, List.range_succ]
    omega
end Go.Proofs.YtaomigfmjglggaaDoor
namespace Go.Proofs.YtaomigfmjglggaaDoor
open Go.RowKit

theorem Rd.mono {F G : Nat → Prop} {W : World} {B g : Nat} {bs : List Int} {st : Bool} (h : Rd W B F g bs st) (hs : ∀ k, F k → G k) (hg : ∀ k, G k → B ≤ k ∧ k < W.heap.size) : Rd W B G g bs st := by
  obtain ⟨v, h1, h2, h3⟩ := h.shape
  exact ⟨hs g h.own, hg, v, h1, h2, fun k e => ⟨hs k (h3 k e).1, (h3 k e).2⟩⟩

/-- What a reader may hold. -/
def Fine (l : List Int) : Prop := (∀ x ∈ l, 0 ≤ x ∧ x < 256) ∧ l.length ≤ 140737488355328
theorem Fine.drop {l : List Int} (h : Fine l) (n : Nat) : Fine (l.drop n) := ⟨fun x hx => h.1 x (List.mem_of_mem_drop hx), by have := h.2; simp; omega⟩
theorem Fine.tail {l p r : List Int} (h : Fine l) (e : p ++ r = l) : Fine r := by
  subst e
  exact ⟨fun x hx => h.1 x (List.mem_append_right _ hx), by have := h.2; simp at this; omega⟩
theorem fine_cutUS {l r : List Int} {n : Nat} (h : Fine l) (hc : cutUS l = some (n, r)) : Fine r := h.tail (cutUS_form l n r h.1 hc).2
theorem fine_cutTS {m : Int} {l t r : List Int} (h : Fine l) (hc : cutTS m l = some (t, r)) : Fine r := h.tail (cutTS_form m l t r h.1 hc).1

/-- A reader: s is what it still has, or none, if it is stopped. -/
structure RdS (W : World) (B : Nat) (F : Nat → Prop) (g : Nat) (s : Option (List Int)) : Prop where
  ex : ∃ bs, Rd W B F g bs s.isNone ∧ ∀ l, s = some l → bs = l
  rng : ∀ l, s = some l → Fine l
theorem RdS.keep {G F : Nat → Prop} {W W' : World} {B g : Nat} {s : Option (List Int)} (h : RdS W B F g s) (hk : Keep G W W') (hf : ∀ k, F k → ¬ G k) : RdS W' B F g s := by
  obtain ⟨bs, h1, h2⟩ := h.ex
  exact ⟨⟨bs, h1.keep hk hf, h2⟩, h.rng⟩
theorem RdS.next {F : Nat → Prop} {W W' : World} {B g : Nat} {s : Option (List Int)} (h : RdS W B F g s) (hk : Below W.heap.size W W') : RdS W' B F g s := h.keep (Keep.of_below hk : Keep (fun _ => False) W W') (fun _ _ => id)
theorem RdS.ge {F : Nat → Prop} {W : World} {B g : Nat} {s : Option (List Int)} (h : RdS W B F g s) : ∀ k, F k → B ≤ k ∧ k < W.heap.size := by
  obtain ⟨bs, h1, h2⟩ := h.ex
  exact h1.ge
theorem RdS.own {F : Nat → Prop} {W : World} {B g : Nat} {s : Option (List Int)} (h : RdS W B F g s) : F g := by
  obtain ⟨bs, h1, h2⟩ := h.ex
  exact h1.own

/-- Behind a method of a reader. -/
def RdQ (W : World) (B : Nat) (F : Nat → Prop) (g : Nat) (P : Value → World → Prop) (s : Option (List Int)) (e : Ending) (w' : World) : Prop :=
  Keep F W w' ∧ RdS w' B F g s ∧ ∃ v, e = .returned v ∧ P v w'
theorem rdq_stop {W w' : World} {B g : Nat} {F : Nat → Prop} {bs : List Int} {e : Ending} {v : Value} {P : Value → World → Prop} (h : Rd W B F g bs true) (he : e = .returned v) (hb : Below W.heap.size W w') (hv : P v w') : RdQ W B F g P none e w' :=
  ⟨Keep.of_below hb, ⟨⟨bs, h.keep (Keep.of_below hb : Keep (fun _ => False) _ _) (fun _ _ => id), fun l h => by cases h⟩, fun l h => by cases h⟩, v, he, hv⟩
theorem rdq_post {W w' : World} {B g : Nat} {F : Nat → Prop} {bs : List Int} {e : Ending} {z : Value} {P P0 : Value → World → Prop} {r : Option (List Int)} (h : RdPost W B F g bs z P0 r e w') (hr : ∀ l, r = some l → Fine l) (hz : r = none → P z w') (hs : ∀ f, r.isSome = true → P0 f w' → P f w') : RdQ W B F g P r e w' := by
  obtain ⟨hk, h2⟩ := h
  cases r with
  | none => exact ⟨hk, ⟨⟨bs, h2.2, fun l h => by cases h⟩, fun l h => by cases h⟩, z, h2.1, hz rfl⟩
  | some l =>
    obtain ⟨f, he, hp, hrd⟩ := h2
    exact ⟨hk, ⟨⟨l, hrd, fun l' h => by injection h⟩, hr⟩, f, he, hs f rfl hp⟩

/-- What a reader's methods answer, and what it has then. -/
def u8V (s : Option (List Int)) : Int := nth (s.getD []) 0
def u8N (s : Option (List Int)) : Option (List Int) := s.bind cut8
def w4V (s : Option (List Int)) : Nat := match s.bind cut32 with | none => 0 | some _ => u32V (s.getD []) 4
def w4N (s : Option (List Int)) : Option (List Int) := s.bind cut32
def unV (s : Option (List Int)) : Nat := ((s.bind cutUS).map (·.1)).getD 0
def unN (s : Option (List Int)) : Option (List Int) := (s.bind cutUS).map (·.2)
def txV (n : Int) (s : Option (List Int)) : ByteArray := strOfNums (((s.bind (cutTS n)).map (·.1)).getD [])
def txN (n : Int) (s : Option (List Int)) : Option (List Int) := (s.bind (cutTS n)).map (·.2)
def rwV (n : Int) (s : Option (List Int)) : List Int := if (s.bind (cutRS n)).isSome then (s.getD []).take n.toNat else []
def rwN (n : Int) (s : Option (List Int)) : Option (List Int) := s.bind (cutRS n)

theorem r8_u (W : World) (B : Nat) (F : Nat → Prop) (g : Nat) (s : Option (List Int)) (h : RdS W B F g s) :
    Calls Tryd.prog 76 #[.pointer (some ⟨g, 0, none⟩)] W (RdQ W B F g (fun v _ => v = .int .u8 (u8V s)) (u8N s)) := by
  obtain ⟨bs, hR, hb⟩ := h.ex
  cases s with
  | none => exact (r8_stop W B F g bs hR).mono (fun e w' hp => rdq_stop hR hp.1 hp.2 rfl)
  | some l =>
    obtain rfl := hb l rfl
    refine (r8_go W B F g bs hR).mono (fun e w' hp => rdq_post hp ?_ ?_ ?_)
    · intro l hl
      replace hl : cut8 bs = some l := hl
      unfold cut8 at hl
      split at hl
      · cases hl
      · injection hl with hl; subst hl; exact (h.rng _ rfl).drop 1
    · intro hn
      replace hn : cut8 bs = none := hn
      unfold cut8 at hn
      split at hn
      · rename_i h0
        obtain rfl := List.length_eq_zero_iff.1 h0
        rfl
      · cases hn
    · intro f _ hf; exact hf
theorem r32_u (W : World) (B : Nat) (F : Nat → Prop) (g : Nat) (s : Option (List Int)) (h : RdS W B F g s) (ht : Tab W) :
    Calls Tryd.prog 64 #[.pointer (some ⟨g, 0, none⟩)] W (RdQ W B F g (fun v _ => v = .int .u32 (w4V s : Nat)) (w4N s)) := by
  obtain ⟨bs, hR, hb⟩ := h.ex
  cases s with
  | none => exact (r32_stop W B F g bs hR).mono (fun e w' hp => rdq_stop hR hp.1 hp.2 rfl)
  | some l =>
    obtain rfl := hb l rfl
    refine (r32_go W B F g bs hR ht (h.rng _ rfl).1).mono (fun e w' hp => rdq_post hp ?_ ?_ ?_)
    · intro l hl
      replace hl : cut32 bs = some l := hl
      unfold cut32 at hl
      split at hl
      · cases hl
      · injection hl with hl; subst hl; exact (h.rng _ rfl).drop 4
    · intro hn
      replace hn : cut32 bs = none := hn
      simp [w4V, hn]
    · intro f hs hf
      rw [hf]
      obtain ⟨y, hy⟩ := Option.isSome_iff_exists.1 hs
      replace hy : cut32 bs = some y := hy
      simp [w4V, hy]
theorem ru_u (W : World) (B : Nat) (F : Nat → Prop) (g : Nat) (s : Option (List Int)) (h : RdS W B F g s) (ht : Tab W) :
    Calls Tryd.prog 62 #[.pointer (some ⟨g, 0, none⟩)] W (RdQ W B F g (fun v _ => v = .int .u64 (unV s : Nat)) (unN s)) := by
  obtain ⟨bs, hR, hb⟩ := h.ex
  cases s with
  | none => exact (ru_stop W B F g bs hR).mono (fun e w' hp => rdq_stop hR hp.1 hp.2 rfl)
  | some l =>
    obtain rfl := hb l rfl
    refine (ru_go W B F g bs hR ht (h.rng _ rfl).1).mono (fun e w' hp => rdq_post hp ?_ ?_ ?_)
    · intro l hl
      replace hl : (cutUS bs).map (·.2) = some l := hl
      cases hc : cutUS bs with
      | none => rw [hc] at hl; cases hl
      | some y => rw [hc] at hl; injection hl with hl; subst hl; exact fine_cutUS (h.rng _ rfl) hc
    · intro hn
      have : cutUS bs = none := by
        cases hc : cutUS bs with
        | none => rfl
        | some y => simp [unN, hc] at hn
      simp [unV, this]
    · intro f hs hf
      rw [hf]
      rfl
theorem rt_u (n : Int) (W : World) (B : Nat) (F : Nat → Prop) (g : Nat) (s : Option (List Int)) (h : RdS W B F g s) (hn : n < 18446744073709551616) (ht : Tab W) :
    Calls Tryd.prog 61 #[.pointer (some ⟨g, 0, none⟩), .int .i64 n] W (RdQ W B F g (fun v _ => v = .string (txV n s)) (txN n s)) := by
  obtain ⟨bs, hR, hb⟩ := h.ex
  cases s with
  | none => exact (rt_stop n W B F g bs hR).mono (fun e w' hp => rdq_stop hR hp.1 hp.2 rfl)
  | some l =>
    obtain rfl := hb l rfl
    refine (rt_go n W B F g bs hR hn ht (h.rng _ rfl).1 (h.rng _ rfl).2).mono (fun e w' hp => rdq_post hp ?_ ?_ ?_)
    · intro l hl
      replace hl : (cutTS n bs).map (·.2) = some l := hl
      cases hc : cutTS n bs with
      | none => rw [hc] at hl; cases hl
      | some y => rw [hc] at hl; injection hl with hl; subst hl; exact fine_cutTS (h.rng _ rfl) hc
    · intro hn
      have : cutTS n bs = none := by
        cases hc : cutTS n bs with
        | none => rfl
        | some y => simp [txN, hc] at hn
      simp only [txV, Option.bind_some, this]
      rfl
    · intro f hs hf
      rw [hf]
      rfl
theorem rr_u (n : Int) (W : World) (B : Nat) (F : Nat → Prop) (g : Nat) (s : Option (List Int)) (h : RdS W B F g s) :
    Calls Tryd.prog 65 #[.pointer (some ⟨g, 0, none⟩), .int .i64 n] W (RdQ W B F g (fun v w => SlAt w v (rwV n s)) (rwN n s)) := by
  obtain ⟨bs, hR, hb⟩ := h.ex
  cases s with
  | none => exact (rr_stop n W B F g bs hR).mono (fun e w' hp => rdq_stop hR hp.1 hp.2 (Row.nil w' 0).slAt)
  | some l =>
    obtain rfl := hb l rfl
    refine (rr_go n W B F g bs hR (h.rng _ rfl).2).mono (fun e w' hp => rdq_post hp ?_ ?_ ?_)
    · intro l hl
      replace hl : cutRS n bs = some l := hl
      unfold cutRS at hl
      split at hl
      · cases hl
      · injection hl with hl; subst hl; exact (h.rng _ rfl).drop _
    · intro hn
      replace hn : cutRS n bs = none := hn
      have : rwV n (some bs) = [] := by simp [rwV, hn]
      rw [this]
      exact (Row.nil w' 0).slAt
    · intro f hs hf
      replace hs : (cutRS n bs).isSome = true := hs
      have : rwV n (some bs) = bs.take n.toNat := by simp [rwV, hs]
      rw [this]
      exact hf.slAt
theorem rf_u (W : World) (B : Nat) (F : Nat → Prop) (g : Nat) (s : Option (List Int)) (h : RdS W B F g s) :
    Calls Tryd.prog 67 #[.pointer (some ⟨g, 0, none⟩)] W (RdQ W B F g (fun v _ => v = .tuple #[]) none) := by
  obtain ⟨bs, hR, hb⟩ := h.ex
  refine (fail_any W B F g bs _ hR).mono (fun e w' hp => ⟨hp.2.1, ⟨⟨bs, hp.2.2, fun l h => by cases h⟩, fun l h => by cases h⟩, _, hp.1, rfl⟩)
/-- What End answers. -/
def enV (s : Option (List Int)) : Int := if s = some [] then 0 else 2
theorem re_u (W : World) (B : Nat) (F : Nat → Prop) (g : Nat) (s : Option (List Int)) (h : RdS W B F g s) :
    Calls Tryd.prog 42 #[.pointer (some ⟨g, 0, none⟩)] W (fun e w' => e = .returned (.int .i64 (enV s)) ∧ Keep F W w') := by
  obtain ⟨bs, hR, hb⟩ := h.ex
  refine (endr_any W B F g bs _ hR).mono (fun e w' hp => ⟨?_, hp.2.1⟩)
  rw [hp.1]
  congr 2
  cases s with
  | none => simp [enV, errOf]
  | some l =>
    obtain rfl := hb l rfl
    cases bs <;> simp [enV, errOf]
theorem newReader_u (sv : Value) (bs : List Int) (W : World) (hs : SlAt W sv bs) (hf : Fine bs) :
    Calls Tryd.prog 40 #[sv] W (fun e w' => ∃ g, e = .returned (.pointer (some ⟨g, 0, none⟩)) ∧ Below W.heap.size W w' ∧ RdS w' W.heap.size (iv W.heap.size w'.heap.size) g (some bs)) := by
  refine (newReader_any sv bs W hs hf.2).mono ?_
  rintro e w' ⟨g, he, hb, hr⟩
  exact ⟨g, he, hb, ⟨bs, hr, fun l h => by injection h⟩, fun l h => by injection h with h; exact h ▸ hf⟩
end Go.Proofs.YtaomigfmjglggaaDoor
namespace Go.Proofs.YtaomigfmjglggaaDoor
open Go.RowKit

def markN (s : Option (List Int)) : Option (List Int) := if u8V s = 1 then u8N s else none
def hostV (s : Option (List Int)) : Nat := if 9 < unV s then 0 else unV s
def hostN (s : Option (List Int)) : Option (List Int) := if 9 < unV s then none else unN s
def macV (xs : List Int) : List Int := if xs.length = 32 then xs else List.replicate 32 0
theorem length_macV (xs : List Int) : (macV xs).length = 32 := by
  unfold macV
  split
  · assumption
  · simp
/-- The fields of a token that a reader takes, and what it has then. -/
def tokR (s : Option (List Int)) : Tk × Option (List Int) :=
  (⟨txV 20 (markN s), txV 20 (txN 20 (markN s)), unV (txN 20 (txN 20 (markN s))), hostV (unN (txN 20 (txN 20 (markN s)))), w4V (hostN (unN (txN 20 (txN 20 (markN s))))),
    unV (w4N (hostN (unN (txN 20 (txN 20 (markN s)))))), unV (unN (w4N (hostN (unN (txN 20 (txN 20 (markN s))))))), unV (unN (unN (w4N (hostN (unN (txN 20 (txN 20 (markN s)))))))),
    macV (rwV 32 (unN (unN (unN (w4N (hostN (unN (txN 20 (txN 20 (markN s))))))))))⟩, rwN 32 (unN (unN (unN (w4N (hostN (unN (txN 20 (txN 20 (markN s))))))))))

/-- The box of a token's reader. -/
def PBox (W : World) (b g : Nat) : Prop := W.heap[b]? = some (.cells #[.pointer (some ⟨g, 0, none⟩)] 67 (0, 0))
theorem PBox.new (w : World) (g : Nat) : PBox (w.alloc (.cells #[.pointer (some ⟨g, 0, none⟩)] 67)) w.heap.size g := heap_alloc_new w _
theorem PBox.lt {W : World} {b g : Nat} (h : PBox W b g) : b < W.heap.size := (Array.getElem?_eq_some_iff.1 h).1
theorem PBox.keep {F : Nat → Prop} {W W' : World} {b g : Nat} (h : PBox W b g) (hk : Keep F W W') (hf : ¬ F b) : PBox W' b g := (hk.block b h.lt hf).trans h
theorem PBox.next {W W' : World} {b g : Nat} (h : PBox W b g) (hb : Below W.heap.size W W') : PBox W' b g := (hb.block b h.lt).trans h
theorem PBox.other {W : World} {b g : Nat} (h : PBox W b g) (k : Nat) (cs : Array Value) (hk : b ≠ k) : PBox (W.setRow k cs) b g := (_root_.Go.setRow_other _ _ _ _ hk).trans h
theorem PBox.c0 {W : World} {b g : Nat} (h : PBox W b g) : W.cell? ⟨b, 0, none⟩ = some (.pointer (some ⟨g, 0, none⟩)) := (cell_of_row W b 0 _ _ _ h).trans rfl

set_option maxRecDepth 100000 in
theorem mark_any (W : World) (B : Nat) (F : Nat → Prop) (g : Nat) (s : Option (List Int)) (h : RdS W B F g s) :
    Calls Tryd.prog 60 #[.agg #[.pointer (some ⟨g, 0, none⟩)]] W (RdQ W B F g (fun v _ => v = .tuple #[]) (markN s)) := by
  have HB := hide ((Below.refl W.heap.size W).alloc (Nat.le_refl _) (.cells #[.pointer (some ⟨g, 0, none⟩)] 67))
  have HP := hide (PBox.new W g)
  have HN := hide (fun e => by have := (h.ge _ e).2; omega : ¬ F W.heap.size)
  have HR := hide (h.next HB.out)
  have c0 := HP.out.c0
  clear h
  by_cases h1 : u8V s = 1
  · have hs : markN s = u8N s := by rw [markN, if_pos h1]
    have HC := hide (r8_u _ B F g s HR.out)
    rw [h1] at HC
    rw [hs]
    clear h1 hs
    go_enter Tryd.func60, Tryd.ntmps60
    go_wp2_with fail
    refine HC.out.mono ?_
    rintro e w2 ⟨hk, hr, v, rfl, rfl⟩
    have HK := hide ((Keep.of_below HB.out : Keep F W _).trans hk (fun _ h => .inl h))
    have HR2 := hide hr
    clear hk hr HC HR c0
    go_wp2_with fail
    first | go_end0 | refine bodyPost_ret (results_none rfl _ _ _) rfl ?_
    exact ⟨HK.out, HR2.out, _, rfl, rfl⟩
  · have hs : markN s = none := by rw [markN, if_neg h1]
    have HC := hide (r8_u _ B F g s HR.out)
    obtain ⟨x, hx⟩ : ∃ x, u8V s = x := ⟨_, rfl⟩
    rw [hx] at HC h1
    rw [hs]
    have hd : decide (x = 1) = false := by simpa using h1
    have hd2 : (x == 1) = false := by simpa using h1
    clear hs hx
    go_enter Tryd.func60, Tryd.ntmps60
    go_wp2_with fail
    refine HC.out.mono ?_
    rintro e w2 ⟨hk, hr, v, rfl, rfl⟩
    have HK := hide ((Keep.of_below HB.out : Keep F W _).trans hk (fun _ h => .inl h))
    have HF := hide (rf_u _ B F g _ hr)
    have HP2 := hide (HP.out.keep hk HN.out)
    clear hk hr HC HR c0
    have d0 := HP2.out.c0
    go_wp2_with fail
    refine HF.out.mono ?_
    rintro e w3 ⟨hk, hr, v, rfl, rfl⟩
    have HK3 := hide (HK.out.trans hk (fun _ h => .inl h))
    have HR3 := hide hr
    clear hk hr HF d0 HK
    go_wp2_with fail
    first | go_end0 | refine bodyPost_ret (results_none rfl _ _ _) rfl ?_
    exact ⟨HK3.out, HR3.out, _, rfl, rfl⟩

set_option maxRecDepth 100000 in
theorem host_any (W : World) (B : Nat) (F : Nat → Prop) (g : Nat) (s : Option (List Int)) (h : RdS W B F g s) (ht : Tab W) :
    Calls Tryd.prog 63 #[.agg #[.pointer (some ⟨g, 0, none⟩)]] W (RdQ W B F g (fun v _ => v = .int .i64 (hostV s : Nat)) (hostN s)) := by
  have HB := hide ((Below.refl W.heap.size W).alloc (Nat.le_refl _) (.cells #[.pointer (some ⟨g, 0, none⟩)] 67))
  have HP := hide (PBox.new W g)
  have HN := hide (fun e => by have := (h.ge _ e).2; omega : ¬ F W.heap.size)
  have HR := hide (h.next HB.out)
  have HC := hide (ru_u _ B F g s HR.out (ht.below HB.out ht.two))
  have c0 := HP.out.c0
  clear h ht
  by_cases h1 : 9 < unV s
  · have hs : hostN s = none := by rw [hostN, if_pos h1]
    have hv : hostV s = 0 := by rw [hostV, if_pos h1]
    obtain ⟨x, hx⟩ : ∃ x, unV s = x := ⟨_, rfl⟩
    rw [hx] at HC h1
    rw [hs, hv]
    have hd0 : (9 : Int) < (x : Int) := by omega
    have hd : decide ((9 : Int) < (x : Int)) = true := by simpa using hd0
    clear hs hx hv h1
    go_enter Tryd.func63, Tryd.ntmps63
    go_wp2_with fail
    refine HC.out.mono ?_
    rintro e w2 ⟨hk, hr, v, rfl, rfl⟩
    have HK := hide ((Keep.of_below HB.out : Keep F W _).trans hk (fun _ h => .inl h))
    have HF := hide (rf_u _ B F g _ hr)
    have HP2 := hide (HP.out.keep hk HN.out)
    clear hk hr HC HR c0
    have d0 := HP2.out.c0
    go_wp2_with fail
    refine HF.out.mono ?_
    rintro e w3 ⟨hk, hr, v, rfl, rfl⟩
    have HK3 := hide (HK.out.trans hk (fun _ h => .inl h))
    have HR3 := hide hr
    clear hk hr HF d0 HK
    go_wp2_with fail
    go_ret
    exact ⟨HK3.out, HR3.out, _, rfl, rfl⟩
  · have hs : hostN s = unN s := by rw [hostN, if_neg h1]
    have hv : hostV s = unV s := by rw [hostV, if_neg h1]
    obtain ⟨x, hx⟩ : ∃ x, unV s = x := ⟨_, rfl⟩
    rw [hs, hv]
    rw [hx] at HC h1 ⊢
    have hd0 : ¬ (9 : Int) < (x : Int) := by omega
    have hd : decide ((9 : Int) < (x : Int)) = false := by simpa using hd0
    have hw : IntKind.i64.wrap (x : Int) = (x : Int) := IntWalk.i64_in _ (by omega)
    clear hs hx hv h1
    go_enter Tryd.func63, Tryd.ntmps63
    go_wp2_with fail
    refine HC.out.mono ?_
    rintro e w2 ⟨hk, hr, v, rfl, rfl⟩
    have HK := hide ((Keep.of_below HB.out : Keep F W _).trans hk (fun _ h => .inl h))
    have HR2 := hide hr
    clear hk hr HC HR c0
    go_wp2_with fail
    go_ret
    exact ⟨HK.out, HR2.out, _, rfl, rfl⟩

theorem wp_alloc_tk {op : Oper} {a : Act} {w : World} {K : Act → World → Prop} {Q : Exit → Act → World → Prop} (ho : op.op = .alloc 31)
    (h : K (a.put op.dst (.pointer (some ⟨w.heap.size, 0, none⟩))) (w.alloc (.cells (tkA tk0) 31))) : Oper.wp Tryd.prog op a w K Q := by
  unfold Oper.wp execOp
  simp [ho, Instr.alloc, newVar, Value.cells]
  exact h
theorem wp_copy_run {P : Program} {o : Oper} {a : Act} {w : World} {K : Act → World → Prop} {Q : Exit → Act → World → Prop} (s x : Operand) (t tn ty : TypeId) (hop : o.op = Op.call { callee := Callee.builtin Builtin.copy, args := #[s, x], argTypes := #[t, tn] })
    (hty : o.type = ty) (vs vx v : Value) (w' : World) (hs : a.eval s = vs) (hx : a.eval x = vx) (hrun : (Builtin.copy_ #[t, tn] ty #[vs, vx]).run P w = .ok v w')
    (h : K (a.put o.dst v) w') : o.wp P a w K Q := by
  subst hty
  unfold Oper.wp
  simp [execOp, hop, resolve, invoke, builtin, hs, hx, hrun, Result.andThen]
  exact h
/-- A token's mac is copied: of 32 bytes, or of none. -/
theorem copy_mac (W : World) (g : Nat) (t : Tk) (hm : t.mac = List.replicate 32 0) (h : TBox W g t) (v : Value) (xs : List Int) (hs : SlAt W v xs) (hx : xs.length = 32 ∨ xs = []) :
    ∃ u w', (Builtin.copy_ #[22, 22] 3 #[.slice (some ⟨g, 8, none⟩) 32 32, v]).run Tryd.prog W = .ok u w' ∧ TBox w' g { t with mac := macV xs } ∧ Keep (fun k => k = g) W w' := by
  have hl : t.mac.length = 32 := by rw [hm]; simp
  have keep : ∀ vs : List Value, Keep (fun k => k = g) W (W.setCells g 8 vs) := fun vs => by
    have hb := below_setCells (B := 0) (Below.refl 0 W) (g := g) (o := 8) (Nat.zero_le _) vs
    exact ⟨hb.os, hb.tape, hb.output, hb.size, fun k _ hf => setCells_other k hf⟩
  obtain ⟨ao, cap, rfl⟩ := hs.len
  rcases hx with h1 | rfl
  · have ha : ∃ ad, ao = some ad := by
      cases ao with
      | some ad => exact ⟨ad, rfl⟩
      | none =>
        obtain ⟨ao', cap', hv, hn, _⟩ := hs
        injection hv with z1 z2 z3
        exact absurd (hn z1.symm).1 (by intro e; rw [e] at h1; simp at h1)
    obtain ⟨ad, rfl⟩ := ha
    have hrun := run_copy_cells (P := Tryd.prog) W 22 22 3 5 g 8 32 32 ad xs.length cap (xs.map (.int .u8)) Tryd.underlying22 size5 (by rw [List.length_map, h1]; rfl)
      (slAt_news (by obtain ⟨ao', cap', hv, _, _, ha⟩ := hs; injection hv with z1 z2 z3; exact fun ad' e i hi => ha ad' (z1.symm.trans e) i hi) ad rfl)
      (fun j hj => by rw [h.cell (8 + j), List.getElem?_eq_getElem (by rw [tkC_len hl]; simp [h1] at hj; omega)]; rfl) (fun j _ => h.free (8 + j)) (ints_oneCell _ _)
    refine ⟨_, _, hrun, ?_, keep _⟩
    have := h.setMac hl xs h1
    rw [show macV xs = xs by rw [macV, if_pos h1]]
    exact this
  · have hrun := run_copy_none (P := Tryd.prog) W 22 22 3 5 (some ⟨g, 8, none⟩) ao 32 32 0 cap Tryd.underlying22 size5 rfl
    refine ⟨_, _, hrun, ?_, Keep.refl _ _⟩
    rw [show macV [] = t.mac by rw [hm]; rfl]
    exact h
theorem yields_build_tk {ops : Array Oper} {S : World → Prop} {op : Oper} {a : Act} (hw : Region.wanted op (yielded ops a.tmps) = true) (x0 x1 x2 x3 x4 x5 x6 : Operand) (ho : op.op = .build 31 #[(0, x0), (1, x1), (2, x2), (3, x3), (4, x4), (5, x5), (6, x6)])
    (ns sa : ByteArray) (uid : Nat) (host : Int) (addr born til key : Nat) (h0 : a.eval x0 = .agg #[.string ns, .string sa]) (h1 : a.eval x1 = .int .u64 uid) (h2 : a.eval x2 = .int .i64 host) (h3 : a.eval x3 = .int .u32 addr) (h4 : a.eval x4 = .int .u64 born) (h5 : a.eval x5 = .int .u64 til) (h6 : a.eval x6 = .int .u64 key) :
    YieldsIf Tryd.prog ops S op (.agg (tkA ⟨ns, sa, uid, host, addr, born, til, key, List.replicate 32 0⟩)) a :=
  .inl ⟨hw, fun w _ => by
    unfold execOp
    simp [ho, h0, h1, h2, h3, h4, h5, h6, run_build_tk]⟩
end Go.Proofs.YtaomigfmjglggaaDoor
namespace Go.Proofs.YtaomigfmjglggaaDoor
open Go.RowKit

theorem keep_row (W : World) (g : Nat) (cs : Array Value) : Keep (fun k => k = g) W (W.setRow g cs) := by
  have hb := below_setRow (Below.refl 0 W) (g := g) (Nat.zero_le _) cs
  exact ⟨hb.os, hb.tape, hb.output, hb.size, fun k _ hf => _root_.Go.setRow_other _ _ k cs hf⟩

set_option maxRecDepth 100000 in
set_option maxHeartbeats 4000000 in
theorem token_any (W : World) (B : Nat) (F : Nat → Prop) (g : Nat) (s : Option (List Int)) (h : RdS W B F g s) (ht : Tab W) (hB2 : 2 ≤ B) (hB : B ≤ W.heap.size) :
    Calls Tryd.prog 41 #[.agg #[.pointer (some ⟨g, 0, none⟩)]] W (fun e w' => e = .returned (.agg (tkA (tokR s).1)) ∧ Keep F W w' ∧ RdS w' B F g (tokR s).2) := by
  obtain ⟨s1, h1⟩ : ∃ x, markN s = x := ⟨_, rfl⟩
  obtain ⟨s2, h2⟩ : ∃ x, txN 20 s1 = x := ⟨_, rfl⟩
  obtain ⟨s3, h3⟩ : ∃ x, txN 20 s2 = x := ⟨_, rfl⟩
  obtain ⟨s4, h4⟩ : ∃ x, unN s3 = x := ⟨_, rfl⟩
  obtain ⟨s5, h5⟩ : ∃ x, hostN s4 = x := ⟨_, rfl⟩
  obtain ⟨s6, h6⟩ : ∃ x, w4N s5 = x := ⟨_, rfl⟩
  obtain ⟨s7, h7⟩ : ∃ x, unN s6 = x := ⟨_, rfl⟩
  obtain ⟨s8, h8⟩ : ∃ x, unN s7 = x := ⟨_, rfl⟩
  obtain ⟨s9, h9⟩ : ∃ x, unN s8 = x := ⟨_, rfl⟩
  obtain ⟨s10, h10⟩ : ∃ x, rwN 32 s9 = x := ⟨_, rfl⟩
  obtain ⟨ns, k1⟩ : ∃ x, txV 20 s1 = x := ⟨_, rfl⟩
  obtain ⟨sa, k2⟩ : ∃ x, txV 20 s2 = x := ⟨_, rfl⟩
  obtain ⟨uid, k3⟩ : ∃ x, unV s3 = x := ⟨_, rfl⟩
  obtain ⟨host, k4⟩ : ∃ x, hostV s4 = x := ⟨_, rfl⟩
  obtain ⟨addr, k5⟩ : ∃ x, w4V s5 = x := ⟨_, rfl⟩
  obtain ⟨born, k6⟩ : ∃ x, unV s6 = x := ⟨_, rfl⟩
  obtain ⟨til, k7⟩ : ∃ x, unV s7 = x := ⟨_, rfl⟩
  obtain ⟨key, k8⟩ : ∃ x, unV s8 = x := ⟨_, rfl⟩
  obtain ⟨xs, k9⟩ : ∃ x, rwV 32 s9 = x := ⟨_, rfl⟩
  have HXS : Hid (xs.length = 32 ∨ xs = []) := hide (by
    rw [← k9, rwV]
    cases s9 with
    | none => exact .inr rfl
    | some l =>
      by_cases hl : (32 : Nat) ≤ l.length
      · left
        rw [show ((some l).bind (cutRS 32)).isSome = true by simp [cutRS]; omega]
        simp
        omega
      · right
        rw [show ((some l).bind (cutRS 32)).isSome = false by simp [cutRS]; omega]
        rfl)
  have HEQ : Hid (tokR s = (⟨ns, sa, uid, (host : Nat), addr, born, til, key, macV xs⟩, s10)) := hide (by
    unfold tokR
    rw [h1, h2, h3, h4, h5, h6, h7, h8, h9, h10, k1, k2, k3, k4, k5, k6, k7, k8, k9])
  rw [HEQ.out]
  have HML := hide (length_macV xs)
  obtain ⟨T, hT⟩ : ∃ T : Tk, T = ⟨ns, sa, uid, (host : Nat), addr, born, til, key, macV xs⟩ := ⟨_, rfl⟩
  have HTD := tuck hT
  have HTM : Hid (T.mac.length = 32) := hide (by rw [hT]; exact HML.out)
  rw [← hT]
  clear hT
  have HT := hide ht
  have HTB := hide (fun (W' : World) (hk : Keep F W W') => ht.below (hk.below (fun k hF => (h.ge k hF).1) hB) hB2)
  have HM := hide (fun (W' : World) (hr : RdS W' B F g s) => (show _ from by have q := mark_any W' B F g s hr; rw [h1] at q; exact q))
  have HC1 := hide (fun (W' : World) (hr : RdS W' B F g s1) (ht : Tab W') => (show _ from by have q := rt_u 20 W' B F g s1 hr (by decide) ht; rw [h2, k1] at q; exact q))
  have HC2 := hide (fun (W' : World) (hr : RdS W' B F g s2) (ht : Tab W') => (show _ from by have q := rt_u 20 W' B F g s2 hr (by decide) ht; rw [h3, k2] at q; exact q))
  have HC3 := hide (fun (W' : World) (hr : RdS W' B F g s3) (ht : Tab W') => (show _ from by have q := ru_u W' B F g s3 hr ht; rw [h4, k3] at q; exact q))
  have HC4 := hide (fun (W' : World) (hr : RdS W' B F g s4) (ht : Tab W') => (show _ from by have q := host_any W' B F g s4 hr ht; rw [h5, k4] at q; exact q))
  have HC5 := hide (fun (W' : World) (hr : RdS W' B F g s5) (ht : Tab W') => (show _ from by have q := r32_u W' B F g s5 hr ht; rw [h6, k5] at q; exact q))
  have HC6 := hide (fun (W' : World) (hr : RdS W' B F g s6) (ht : Tab W') => (show _ from by have q := ru_u W' B F g s6 hr ht; rw [h7, k6] at q; exact q))
  have HC7 := hide (fun (W' : World) (hr : RdS W' B F g s7) (ht : Tab W') => (show _ from by have q := ru_u W' B F g s7 hr ht; rw [h8, k7] at q; exact q))
  have HC8 := hide (fun (W' : World) (hr : RdS W' B F g s8) (ht : Tab W') => (show _ from by have q := ru_u W' B F g s8 hr ht; rw [h9, k8] at q; exact q))
  have HC9 := hide (fun (W' : World) (hr : RdS W' B F g s9) => (show _ from by have q := rr_u 32 W' B F g s9 hr; rw [h10, k9] at q; exact q))
  have HNF := hide (fun (k : Nat) (hk : W.heap.size ≤ k) => (show ¬ F k from fun e => by have := (h.ge _ e).2; omega))
  clear h1 h2 h3 h4 h5 h6 h7 h8 h9 h10 k1 k2 k3 k4 k5 k6 k7 k8 k9 HEQ
  obtain ⟨W0, hW0⟩ : ∃ W0, W0 = (W.alloc (.cells #[.pointer (some ⟨g, 0, none⟩)] 67)).alloc (.cells (tkA tk0) 31) := ⟨_, rfl⟩
  have HK0 : Hid (Keep F W W0) := hide (by rw [hW0]; exact (Keep.alloc F _ _).trans (Keep.alloc F _ _) (fun _ h => .inl h))
  have HP0 : Hid (PBox W0 W.heap.size g) := hide (by rw [hW0]; exact (PBox.new W g).next ((Below.refl _ _).alloc (Nat.le_refl _) _))
  have HZ0 : Hid (TBox W0 (W.heap.size + 1) tk0) := hide (by
    have q := TBox.new (W.alloc (.cells #[.pointer (some ⟨g, 0, none⟩)] 67)) tk0
    rw [show (W.alloc (.cells #[.pointer (some ⟨g, 0, none⟩)] 67)).heap.size = W.heap.size + 1 from by simp] at q
    rw [hW0]; exact q)
  have HR0 : Hid (RdS W0 B F g s) := hide (by rw [hW0]; exact (h.next ((Below.refl _ _).alloc (Nat.le_refl _) _)).next ((Below.refl _ _).alloc (Nat.le_refl _) _))
  clear h ht
  go_enter Tryd.func41, Tryd.ntmps41
  go_upto_region 1 with (with_reducible refine wpList_alloc_row rfl 31 rfl (tkA tk0) zeroTk ?_)
  rw [← hW0]
  clear hW0
  have c0 := HP0.out.c0
  go_upto_region 2 with (go_at_call 60; refine (HM.out _ HR0.out).mono ?_; rintro e W1 ⟨hk, hr, v, rfl, rfl⟩; have HK1 := hide (HK0.out.trans hk (fun _ h => .inl h)); have HR1 := hide hr; have HP1 := hide (HP0.out.keep hk (HNF.out _ (Nat.le_refl _))); have HZ1 := hide (HZ0.out.keep hk (HNF.out _ (Nat.le_succ _))); clear hk hr HK0 HR0 HP0 HZ0 HM c0)
  go_cut [3] (fun s3_ W' => ∃ gt, s3_ = .pointer (some ⟨gt, 0, none⟩) ∧ W.heap.size + 2 ≤ gt ∧ TBox W' gt ⟨ns, sa, uid, (host : Nat), addr, born, til, key, List.replicate 32 0⟩ ∧ PBox W' W.heap.size g ∧ TBox W' (W.heap.size + 1) tk0 ∧ Keep F W W' ∧ RdS W' B F g s9)
  case first =>
    replace HP1 := hide (HP1.out.next ((Below.refl _ _).drew))
    replace HR1 := hide (HR1.out.next ((Below.refl _ _).drew))
    replace HK1 := hide (HK1.out.drewR)
    replace HZ1 := hide HZ1.out.drew
    refine wp_region_held_drew (S := fun w' => PBox w' W.heap.size g) (by kernel_rfl) HP1.out (fun hHeld => ?_)
    generalize W1.drew = W1 at hHeld HP1 HR1 HK1 HZ1 ⊢
    refine wpAnyH_take (i := 0) (oi := { dst := some 6, op := Op.fieldAddr 67 (Operand.tmp 1) 0, type := 0, pos := "bytes.go:47", after := #[], guard := none }) (v := ?_) rfl (by kernel_rfl) (by kernel_rfl) (by kernel_rfl) (fun _ _ _ h => h) (Or.inl ⟨by rfl, ?_⟩) hHeld ?_
    rotate_left
    · intro w hSw; (try dsimp only at hSw); go_simp; first | done | with_reducible rfl
    try simp only [Act.put, List.setIfInBounds_toArray, List.set_cons_zero, List.set_cons_succ]
    refine wpAnyH_take (i := 1) (oi := { dst := some 7, op := Op.load 64 (Operand.tmp 6), type := 64, pos := "bytes.go:47", after := #[{ on := 0, ground := Ground.data }], guard := none }) (v := ?_) rfl (by kernel_rfl) (by kernel_rfl) (by kernel_rfl) (fun _ _ _ h => h) (Or.inl ⟨by rfl, ?_⟩) hHeld ?_
    rotate_left
    · intro w hSw; (try dsimp only at hSw); have e0 := hSw.c0; go_simp; first | done | with_reducible rfl
    try simp only [Act.put, List.setIfInBounds_toArray, List.set_cons_zero, List.set_cons_succ]
    refine wpAnyH_take (i := 3) (oi := { dst := some 9, op := Op.fieldAddr 67 (Operand.tmp 1) 0, type := 0, pos := "bytes.go:47", after := #[], guard := none }) (v := ?_) rfl (by kernel_rfl) (by kernel_rfl) (by kernel_rfl) (fun _ _ _ h => h) (Or.inl ⟨by rfl, ?_⟩) hHeld ?_
    rotate_left
    · intro w hSw; (try dsimp only at hSw); go_simp; first | done | with_reducible rfl
    try simp only [Act.put, List.setIfInBounds_toArray, List.set_cons_zero, List.set_cons_succ]
    refine wpAnyH_take (i := 4) (oi := { dst := some 10, op := Op.load 64 (Operand.tmp 9), type := 64, pos := "bytes.go:47", after := #[{ on := 3, ground := Ground.data }], guard := none }) (v := ?_) rfl (by kernel_rfl) (by kernel_rfl) (by kernel_rfl) (fun _ _ _ h => h) (Or.inl ⟨by rfl, ?_⟩) hHeld ?_
    rotate_left
    · intro w hSw; (try dsimp only at hSw); have e0 := hSw.c0; go_simp; first | done | with_reducible rfl
    try simp only [Act.put, List.setIfInBounds_toArray, List.set_cons_zero, List.set_cons_succ]
    refine wpAnyH_take (i := 7) (oi := { dst := some 13, op := Op.fieldAddr 67 (Operand.tmp 1) 0, type := 0, pos := "bytes.go:47", after := #[], guard := none }) (v := ?_) rfl (by kernel_rfl) (by kernel_rfl) (by kernel_rfl) (fun _ _ _ h => h) (Or.inl ⟨by rfl, ?_⟩) hHeld ?_
    rotate_left
    · intro w hSw; (try dsimp only at hSw); go_simp; first | done | with_reducible rfl
    try simp only [Act.put, List.setIfInBounds_toArray, List.set_cons_zero, List.set_cons_succ]
    refine wpAnyH_take (i := 8) (oi := { dst := some 14, op := Op.load 64 (Operand.tmp 13), type := 64, pos := "bytes.go:47", after := #[{ on := 7, ground := Ground.data }], guard := none }) (v := ?_) rfl (by kernel_rfl) (by kernel_rfl) (by kernel_rfl) (fun _ _ _ h => h) (Or.inl ⟨by rfl, ?_⟩) hHeld ?_
    rotate_left
    · intro w hSw; (try dsimp only at hSw); have e0 := hSw.c0; go_simp; first | done | with_reducible rfl
    try simp only [Act.put, List.setIfInBounds_toArray, List.set_cons_zero, List.set_cons_succ]
    refine wpAnyH_take (i := 10) (oi := { dst := some 16, op := Op.load 67 (Operand.tmp 1), type := 67, pos := "bytes.go:47", after := #[], guard := none }) (v := ?_) rfl (by kernel_rfl) (by kernel_rfl) (by kernel_rfl) (fun _ _ _ h => h) (Or.inl ⟨by rfl, ?_⟩) hHeld ?_
    rotate_left
    · intro w hSw; (try dsimp only at hSw); have e0 := hSw.c0; go_simp; first | done | with_reducible rfl
    try simp only [Act.put, List.setIfInBounds_toArray, List.set_cons_zero, List.set_cons_succ]
    refine wpAnyH_take (i := 12) (oi := { dst := some 18, op := Op.fieldAddr 67 (Operand.tmp 1) 0, type := 0, pos := "bytes.go:47", after := #[], guard := none }) (v := ?_) rfl (by kernel_rfl) (by kernel_rfl) (by kernel_rfl) (fun _ _ _ h => h) (Or.inl ⟨by rfl, ?_⟩) hHeld ?_
    rotate_left
    · intro w hSw; (try dsimp only at hSw); go_simp; first | done | with_reducible rfl
    try simp only [Act.put, List.setIfInBounds_toArray, List.set_cons_zero, List.set_cons_succ]
    refine wpAnyH_take (i := 13) (oi := { dst := some 19, op := Op.load 64 (Operand.tmp 18), type := 64, pos := "bytes.go:47", after := #[{ on := 12, ground := Ground.data }], guard := none }) (v := ?_) rfl (by kernel_rfl) (by kernel_rfl) (by kernel_rfl) (fun _ _ _ h => h) (Or.inl ⟨by rfl, ?_⟩) hHeld ?_
    rotate_left
    · intro w hSw; (try dsimp only at hSw); have e0 := hSw.c0; go_simp; first | done | with_reducible rfl
    try simp only [Act.put, List.setIfInBounds_toArray, List.set_cons_zero, List.set_cons_succ]
    refine wpAnyH_take (i := 15) (oi := { dst := some 21, op := Op.fieldAddr 67 (Operand.tmp 1) 0, type := 0, pos := "bytes.go:47", after := #[], guard := none }) (v := ?_) rfl (by kernel_rfl) (by kernel_rfl) (by kernel_rfl) (fun _ _ _ h => h) (Or.inl ⟨by rfl, ?_⟩) hHeld ?_
    rotate_left
    · intro w hSw; (try dsimp only at hSw); go_simp; first | done | with_reducible rfl
    try simp only [Act.put, List.setIfInBounds_toArray, List.set_cons_zero, List.set_cons_succ]
    refine wpAnyH_take (i := 16) (oi := { dst := some 22, op := Op.load 64 (Operand.tmp 21), type := 64, pos := "bytes.go:47", after := #[{ on := 15, ground := Ground.data }], guard := none }) (v := ?_) rfl (by kernel_rfl) (by kernel_rfl) (by kernel_rfl) (fun _ _ _ h => h) (Or.inl ⟨by rfl, ?_⟩) hHeld ?_
    rotate_left
    · intro w hSw; (try dsimp only at hSw); have e0 := hSw.c0; go_simp; first | done | with_reducible rfl
    try simp only [Act.put, List.setIfInBounds_toArray, List.set_cons_zero, List.set_cons_succ]
    refine wpAnyH_take (i := 18) (oi := { dst := some 24, op := Op.fieldAddr 67 (Operand.tmp 1) 0, type := 0, pos := "bytes.go:47", after := #[], guard := none }) (v := ?_) rfl (by kernel_rfl) (by kernel_rfl) (by kernel_rfl) (fun _ _ _ h => h) (Or.inl ⟨by rfl, ?_⟩) hHeld ?_
    rotate_left
    · intro w hSw; (try dsimp only at hSw); go_simp; first | done | with_reducible rfl
    try simp only [Act.put, List.setIfInBounds_toArray, List.set_cons_zero, List.set_cons_succ]
    refine wpAnyH_take (i := 19) (oi := { dst := some 25, op := Op.load 64 (Operand.tmp 24), type := 64, pos := "bytes.go:47", after := #[{ on := 18, ground := Ground.data }], guard := none }) (v := ?_) rfl (by kernel_rfl) (by kernel_rfl) (by kernel_rfl) (fun _ _ _ h => h) (Or.inl ⟨by rfl, ?_⟩) hHeld ?_
    rotate_left
    · intro w hSw; (try dsimp only at hSw); have e0 := hSw.c0; go_simp; first | done | with_reducible rfl
    try simp only [Act.put, List.setIfInBounds_toArray, List.set_cons_zero, List.set_cons_succ]
    refine wpAnyH_take (i := 21) (oi := { dst := some 27, op := Op.fieldAddr 67 (Operand.tmp 1) 0, type := 0, pos := "bytes.go:47", after := #[], guard := none }) (v := ?_) rfl (by kernel_rfl) (by kernel_rfl) (by kernel_rfl) (fun _ _ _ h => h) (Or.inl ⟨by rfl, ?_⟩) hHeld ?_
    rotate_left
    · intro w hSw; (try dsimp only at hSw); go_simp; first | done | with_reducible rfl
    try simp only [Act.put, List.setIfInBounds_toArray, List.set_cons_zero, List.set_cons_succ]
    refine wpAnyH_take (i := 22) (oi := { dst := some 28, op := Op.load 64 (Operand.tmp 27), type := 64, pos := "bytes.go:47", after := #[{ on := 21, ground := Ground.data }], guard := none }) (v := ?_) rfl (by kernel_rfl) (by kernel_rfl) (by kernel_rfl) (fun _ _ _ h => h) (Or.inl ⟨by rfl, ?_⟩) hHeld ?_
    rotate_left
    · intro w hSw; (try dsimp only at hSw); have e0 := hSw.c0; go_simp; first | done | with_reducible rfl
    try simp only [Act.put, List.setIfInBounds_toArray, List.set_cons_zero, List.set_cons_succ]
    refine wpAnyH_ready (rs := [2, 25]) (by kernel_rfl) (by simp) ?_
    refine AllReadyH.cons (o := { dst := some 8, op := Op.call { callee := Callee.value (Operand.func 61), args := #[Operand.tmp 7, Operand.const (Value.int IntKind.i64 20)], argTypes := #[64, 3] }, type := 9, pos := "bytes.go:48", after := #[{ on := 1, ground := Ground.data }], guard := none }) rfl (fun K hK => ?_) (AllReadyH.cons (o := { dst := some 3, op := Op.alloc 31, type := 0, pos := "bytes.go:47", after := #[], guard := none }) rfl (fun K hK => ?_) AllReadyH.nil)
    · clear hHeld
      go_simp
      refine (HC1.out _ HR1.out (HTB.out _ HK1.out)).mono ?_
      rintro e W2 ⟨hk, hr, v, rfl, rfl⟩
      have HK2 := hide (HK1.out.trans hk (fun _ h => .inl h))
      have HR2 := hide hr
      have HP2 := hide (HP1.out.keep hk (HNF.out _ (Nat.le_refl _)))
      have HZ2 := hide (HZ1.out.keep hk (HNF.out _ (Nat.le_succ _)))
      clear hk hr HK1 HR1 HP1 HZ1 
      clear HC1
      refine hK.out _ _ (HP2.out) (fun hHeld => ?_)
      clear hK K
      try simp only [Act.put, List.setIfInBounds_toArray, List.set_cons_zero, List.set_cons_succ]
      refine wpAnyH_ready (rs := [5, 25]) (by kernel_rfl) (by simp) ?_
      refine AllReadyH.cons (o := { dst := some 11, op := Op.call { callee := Callee.value (Operand.func 61), args := #[Operand.tmp 10, Operand.const (Value.int IntKind.i64 20)], argTypes := #[64, 3] }, type := 9, pos := "bytes.go:48", after := #[{ on := 4, ground := Ground.data }, { on := 2, ground := Ground.chain }], guard := none }) rfl (fun K hK => ?_) (AllReadyH.cons (o := { dst := some 3, op := Op.alloc 31, type := 0, pos := "bytes.go:47", after := #[], guard := none }) rfl (fun K hK => ?_) AllReadyH.nil)
      · clear hHeld
        go_simp
        refine (HC2.out _ HR2.out (HTB.out _ HK2.out)).mono ?_
        rintro e W3 ⟨hk, hr, v, rfl, rfl⟩
        have HK3 := hide (HK2.out.trans hk (fun _ h => .inl h))
        have HR3 := hide hr
        have HP3 := hide (HP2.out.keep hk (HNF.out _ (Nat.le_refl _)))
        have HZ3 := hide (HZ2.out.keep hk (HNF.out _ (Nat.le_succ _)))
        clear hk hr HK2 HR2 HP2 HZ2 
        clear HC2
        refine hK.out _ _ (HP3.out) (fun hHeld => ?_)
        clear hK K
        try simp only [Act.put, List.setIfInBounds_toArray, List.set_cons_zero, List.set_cons_succ]
        refine wpAnyH_take (i := 6) (oi := { dst := some 12, op := Op.build 27 #[(0, Operand.tmp 8), (1, Operand.tmp 11)], type := 27, pos := "bytes.go:47", after := #[{ on := 2, ground := Ground.data }, { on := 5, ground := Ground.data }], guard := none }) (v := ?_) rfl (by kernel_rfl) (by kernel_rfl) (by kernel_rfl) (fun _ _ _ h => h) (Or.inl ⟨by rfl, ?_⟩) hHeld ?_
        rotate_left
        · intro w hSw; (try dsimp only at hSw); go_simp; first | done | with_reducible rfl
        try simp only [Act.put, List.setIfInBounds_toArray, List.set_cons_zero, List.set_cons_succ]
        refine wpAnyH_ready (rs := [9, 25]) (by kernel_rfl) (by simp) ?_
        refine AllReadyH.cons (o := { dst := some 15, op := Op.call { callee := Callee.value (Operand.func 62), args := #[Operand.tmp 14], argTypes := #[64] }, type := 23, pos := "bytes.go:49", after := #[{ on := 8, ground := Ground.data }, { on := 5, ground := Ground.chain }], guard := none }) rfl (fun K hK => ?_) (AllReadyH.cons (o := { dst := some 3, op := Op.alloc 31, type := 0, pos := "bytes.go:47", after := #[], guard := none }) rfl (fun K hK => ?_) AllReadyH.nil)
        · clear hHeld
          go_simp
          refine (HC3.out _ HR3.out (HTB.out _ HK3.out)).mono ?_
          rintro e W4 ⟨hk, hr, v, rfl, rfl⟩
          have HK4 := hide (HK3.out.trans hk (fun _ h => .inl h))
          have HR4 := hide hr
          have HP4 := hide (HP3.out.keep hk (HNF.out _ (Nat.le_refl _)))
          have HZ4 := hide (HZ3.out.keep hk (HNF.out _ (Nat.le_succ _)))
          clear hk hr HK3 HR3 HP3 HZ3 
          clear HC3
          refine hK.out _ _ (HP4.out) (fun hHeld => ?_)
          clear hK K
          try simp only [Act.put, List.setIfInBounds_toArray, List.set_cons_zero, List.set_cons_succ]
          refine wpAnyH_ready (rs := [11, 25]) (by kernel_rfl) (by simp) ?_
          refine AllReadyH.cons (o := { dst := some 17, op := Op.call { callee := Callee.value (Operand.func 63), args := #[Operand.tmp 16], argTypes := #[67] }, type := 3, pos := "bytes.go:50", after := #[{ on := 10, ground := Ground.data }, { on := 9, ground := Ground.chain }], guard := none }) rfl (fun K hK => ?_) (AllReadyH.cons (o := { dst := some 3, op := Op.alloc 31, type := 0, pos := "bytes.go:47", after := #[], guard := none }) rfl (fun K hK => ?_) AllReadyH.nil)
          · clear hHeld
            go_simp
            refine (HC4.out _ HR4.out (HTB.out _ HK4.out)).mono ?_
            rintro e W5 ⟨hk, hr, v, rfl, rfl⟩
            have HK5 := hide (HK4.out.trans hk (fun _ h => .inl h))
            have HR5 := hide hr
            have HP5 := hide (HP4.out.keep hk (HNF.out _ (Nat.le_refl _)))
            have HZ5 := hide (HZ4.out.keep hk (HNF.out _ (Nat.le_succ _)))
            clear hk hr HK4 HR4 HP4 HZ4 
            clear HC4
            refine hK.out _ _ (HP5.out) (fun hHeld => ?_)
            clear hK K
            try simp only [Act.put, List.setIfInBounds_toArray, List.set_cons_zero, List.set_cons_succ]
            refine wpAnyH_ready (rs := [14, 25]) (by kernel_rfl) (by simp) ?_
            refine AllReadyH.cons (o := { dst := some 20, op := Op.call { callee := Callee.value (Operand.func 64), args := #[Operand.tmp 19], argTypes := #[64] }, type := 28, pos := "bytes.go:51", after := #[{ on := 13, ground := Ground.data }, { on := 11, ground := Ground.chain }], guard := none }) rfl (fun K hK => ?_) (AllReadyH.cons (o := { dst := some 3, op := Op.alloc 31, type := 0, pos := "bytes.go:47", after := #[], guard := none }) rfl (fun K hK => ?_) AllReadyH.nil)
            · clear hHeld
              go_simp
              refine (HC5.out _ HR5.out (HTB.out _ HK5.out)).mono ?_
              rintro e W6 ⟨hk, hr, v, rfl, rfl⟩
              have HK6 := hide (HK5.out.trans hk (fun _ h => .inl h))
              have HR6 := hide hr
              have HP6 := hide (HP5.out.keep hk (HNF.out _ (Nat.le_refl _)))
              have HZ6 := hide (HZ5.out.keep hk (HNF.out _ (Nat.le_succ _)))
              clear hk hr HK5 HR5 HP5 HZ5 
              clear HC5
              refine hK.out _ _ (HP6.out) (fun hHeld => ?_)
              clear hK K
              try simp only [Act.put, List.setIfInBounds_toArray, List.set_cons_zero, List.set_cons_succ]
              refine wpAnyH_ready (rs := [17, 25]) (by kernel_rfl) (by simp) ?_
              refine AllReadyH.cons (o := { dst := some 23, op := Op.call { callee := Callee.value (Operand.func 62), args := #[Operand.tmp 22], argTypes := #[64] }, type := 23, pos := "bytes.go:52", after := #[{ on := 16, ground := Ground.data }, { on := 14, ground := Ground.chain }], guard := none }) rfl (fun K hK => ?_) (AllReadyH.cons (o := { dst := some 3, op := Op.alloc 31, type := 0, pos := "bytes.go:47", after := #[], guard := none }) rfl (fun K hK => ?_) AllReadyH.nil)
              · clear hHeld
                go_simp
                refine (HC6.out _ HR6.out (HTB.out _ HK6.out)).mono ?_
                rintro e W7 ⟨hk, hr, v, rfl, rfl⟩
                have HK7 := hide (HK6.out.trans hk (fun _ h => .inl h))
                have HR7 := hide hr
                have HP7 := hide (HP6.out.keep hk (HNF.out _ (Nat.le_refl _)))
                have HZ7 := hide (HZ6.out.keep hk (HNF.out _ (Nat.le_succ _)))
                clear hk hr HK6 HR6 HP6 HZ6 
                clear HC6
                refine hK.out _ _ (HP7.out) (fun hHeld => ?_)
                clear hK K
                try simp only [Act.put, List.setIfInBounds_toArray, List.set_cons_zero, List.set_cons_succ]
                refine wpAnyH_ready (rs := [20, 25]) (by kernel_rfl) (by simp) ?_
                refine AllReadyH.cons (o := { dst := some 26, op := Op.call { callee := Callee.value (Operand.func 62), args := #[Operand.tmp 25], argTypes := #[64] }, type := 23, pos := "bytes.go:53", after := #[{ on := 19, ground := Ground.data }, { on := 17, ground := Ground.chain }], guard := none }) rfl (fun K hK => ?_) (AllReadyH.cons (o := { dst := some 3, op := Op.alloc 31, type := 0, pos := "bytes.go:47", after := #[], guard := none }) rfl (fun K hK => ?_) AllReadyH.nil)
                · clear hHeld
                  go_simp
                  refine (HC7.out _ HR7.out (HTB.out _ HK7.out)).mono ?_
                  rintro e W8 ⟨hk, hr, v, rfl, rfl⟩
                  have HK8 := hide (HK7.out.trans hk (fun _ h => .inl h))
                  have HR8 := hide hr
                  have HP8 := hide (HP7.out.keep hk (HNF.out _ (Nat.le_refl _)))
                  have HZ8 := hide (HZ7.out.keep hk (HNF.out _ (Nat.le_succ _)))
                  clear hk hr HK7 HR7 HP7 HZ7 
                  clear HC7
                  refine hK.out _ _ (HP8.out) (fun hHeld => ?_)
                  clear hK K
                  try simp only [Act.put, List.setIfInBounds_toArray, List.set_cons_zero, List.set_cons_succ]
                  refine wpAnyH_ready (rs := [23, 25]) (by kernel_rfl) (by simp) ?_
                  refine AllReadyH.cons (o := { dst := some 29, op := Op.call { callee := Callee.value (Operand.func 62), args := #[Operand.tmp 28], argTypes := #[64] }, type := 23, pos := "bytes.go:54", after := #[{ on := 22, ground := Ground.data }, { on := 20, ground := Ground.chain }], guard := none }) rfl (fun K hK => ?_) (AllReadyH.cons (o := { dst := some 3, op := Op.alloc 31, type := 0, pos := "bytes.go:47", after := #[], guard := none }) rfl (fun K hK => ?_) AllReadyH.nil)
                  · clear hHeld
                    go_simp
                    refine (HC8.out _ HR8.out (HTB.out _ HK8.out)).mono ?_
                    rintro e W9 ⟨hk, hr, v, rfl, rfl⟩
                    have HK9 := hide (HK8.out.trans hk (fun _ h => .inl h))
                    have HR9 := hide hr
                    have HP9 := hide (HP8.out.keep hk (HNF.out _ (Nat.le_refl _)))
                    have HZ9 := hide (HZ8.out.keep hk (HNF.out _ (Nat.le_succ _)))
                    clear hk hr HK8 HR8 HP8 HZ8 
                    clear HC8
                    refine hK.out _ _ (HP9.out) (fun hHeld => ?_)
                    clear hK K
                    try simp only [Act.put, List.setIfInBounds_toArray, List.set_cons_zero, List.set_cons_succ]
                    refine wpAnyH_take (i := 24) (oi := { dst := some 30, op := Op.build 31 #[(0, Operand.tmp 12), (1, Operand.tmp 15), (2, Operand.tmp 17), (3, Operand.tmp 20), (4, Operand.tmp 23), (5, Operand.tmp 26), (6, Operand.tmp 29)], type := 31, pos := "bytes.go:47", after := #[{ on := 6, ground := Ground.data }, { on := 9, ground := Ground.data }, { on := 11, ground := Ground.data }, { on := 14, ground := Ground.data }, { on := 17, ground := Ground.data }, { on := 20, ground := Ground.data }, { on := 23, ground := Ground.data }], guard := none }) (v := .agg (tkA ⟨ns, sa, uid, (host : Nat), addr, born, til, key, List.replicate 32 0⟩)) rfl (by kernel_rfl) (by kernel_rfl) (by kernel_rfl) (fun _ _ _ h => h) (yields_build_tk (by rfl) _ _ _ _ _ _ _ rfl ns sa uid host addr born til key rfl rfl rfl rfl rfl rfl rfl) hHeld ?_
                    try simp only [Act.put, List.setIfInBounds_toArray, List.set_cons_zero, List.set_cons_succ]
                    refine wpAnyH_ready (rs := [25]) (by kernel_rfl) (by simp) ?_
                    refine AllReadyH.cons (o := { dst := some 3, op := Op.alloc 31, type := 0, pos := "bytes.go:47", after := #[], guard := none }) rfl (fun K hK => ?_) AllReadyH.nil
                    clear hHeld
                    rw [if_pos (by rfl)]
                    refine wp_alloc_tk rfl ?_
                    have hb := (Below.refl W9.heap.size W9).alloc (Nat.le_refl _) (.cells (tkA tk0) 31)
                    have HX10 := hide (TBox.new W9 tk0)
                    have HG : Hid (W.heap.size + 2 ≤ W9.heap.size) := hide HZ9.out.lt
                    have HK10 := hide (HK9.out.trans (Keep.of_below hb : Keep F _ _) (fun _ h => .inl h))
                    have HR10 := hide (HR9.out.next hb)
                    have HP10 := hide (HP9.out.next hb)
                    have HZ10 := hide (HZ9.out.next hb)
                    clear hb HK9 HR9 HP9 HZ9
                    obtain ⟨gt, hgt⟩ : ∃ gt, gt = W9.heap.size := ⟨_, rfl⟩
                    rw [← hgt] at HX10 HG ⊢
                    clear hgt
                    obtain ⟨W10, hWn⟩ : ∃ x, x = W9.alloc (.cells (tkA tk0) 31) := ⟨_, rfl⟩
                    rw [← hWn] at HX10 HK10 HR10 HP10 HZ10 ⊢
                    clear hWn
                    refine hK.out _ _ (HP10.out) (fun hHeld => ?_)
                    clear hK K
                    try simp only [Act.put, List.setIfInBounds_toArray, List.set_cons_zero, List.set_cons_succ]
                    refine wpAnyH_ready (rs := [26]) (by kernel_rfl) (by simp) ?_
                    refine AllReadyH.cons (o := { dst := none, op := Op.store 31 (Operand.tmp 3) (Operand.tmp 30), type := 0, pos := "bytes.go:47", after := #[{ on := 25, ground := Ground.data }, { on := 24, ground := Ground.data }, { on := 23, ground := Ground.chain }, { on := 0, ground := Ground.phase }, { on := 1, ground := Ground.phase }, { on := 2, ground := Ground.phase }, { on := 3, ground := Ground.phase }, { on := 4, ground := Ground.phase }, { on := 5, ground := Ground.phase }, { on := 6, ground := Ground.phase }, { on := 7, ground := Ground.phase }, { on := 8, ground := Ground.phase }, { on := 9, ground := Ground.phase }, { on := 10, ground := Ground.phase }, { on := 11, ground := Ground.phase }, { on := 12, ground := Ground.phase }, { on := 13, ground := Ground.phase }, { on := 14, ground := Ground.phase }, { on := 15, ground := Ground.phase }, { on := 16, ground := Ground.phase }, { on := 17, ground := Ground.phase }, { on := 18, ground := Ground.phase }, { on := 19, ground := Ground.phase }, { on := 20, ground := Ground.phase }, { on := 21, ground := Ground.phase }, { on := 22, ground := Ground.phase }, { on := 23, ground := Ground.phase }, { on := 24, ground := Ground.phase }, { on := 25, ground := Ground.phase }], guard := none }) rfl (fun K hK => ?_) AllReadyH.nil
                    clear hHeld
                    rw [if_pos (by rfl)]
                    refine wp_store_row _ _ _ rfl gt (tkA ⟨ns, sa, uid, (host : Nat), addr, born, til, key, List.replicate 32 0⟩) rfl rfl _ _ HX10.out.heap (szTk _ (by simp)) (tkA_same tk0_len (by simp)) (tkA_one _) ?_
                    have hb : Keep (fun k => k = gt) W10 (W10.setRow gt (tkA ⟨ns, sa, uid, (host : Nat), addr, born, til, key, List.replicate 32 0⟩)) := keep_row W10 gt _
                    have HX11 : Hid (TBox (W10.setRow gt (tkA ⟨ns, sa, uid, (host : Nat), addr, born, til, key, List.replicate 32 0⟩)) gt ⟨ns, sa, uid, (host : Nat), addr, born, til, key, List.replicate 32 0⟩) := hide HX10.out.row
                    have HNG := hide (fun e => HNF.out gt (by have := HG.out; omega) e : ¬ F gt)
                    have HK11 : Hid (Keep F W (W10.setRow gt (tkA ⟨ns, sa, uid, (host : Nat), addr, born, til, key, List.replicate 32 0⟩))) := hide (HK10.out.trans hb (fun k e => .inr (by have := HG.out; omega)))
                    have HR11 := hide (HR10.out.keep hb (fun k hF e => HNG.out (e ▸ hF)))
                    have HP11 := hide (HP10.out.keep hb (by have := HG.out; omega))
                    have HZ11 := hide (HZ10.out.keep hb (by have := HG.out; omega))
                    clear hb HNG HK10 HR10 HP10 HZ10 HX10
                    refine hK.out _ _ (HP11.out) (fun hHeld => ?_)
                    clear hK K
                    try simp only [Act.put]
                    refine wpAnyH_done (by kernel_rfl) ?_ _
                    clear hHeld
                    go_wp2_with fail
                    go_meet
                    case rel => exact ⟨gt, rfl, HG.out, HX11.out, HP11.out, HZ11.out, HK11.out, HR11.out⟩
                  · clear hHeld
                    rw [if_pos (by rfl)]
                    refine wp_alloc_tk rfl ?_
                    have hb := (Below.refl W8.heap.size W8).alloc (Nat.le_refl _) (.cells (tkA tk0) 31)
                    have HX9 := hide (TBox.new W8 tk0)
                    have HG : Hid (W.heap.size + 2 ≤ W8.heap.size) := hide HZ8.out.lt
                    have HK9 := hide (HK8.out.trans (Keep.of_below hb : Keep F _ _) (fun _ h => .inl h))
                    have HR9 := hide (HR8.out.next hb)
                    have HP9 := hide (HP8.out.next hb)
                    have HZ9 := hide (HZ8.out.next hb)
                    clear hb HK8 HR8 HP8 HZ8
                    obtain ⟨gt, hgt⟩ : ∃ gt, gt = W8.heap.size := ⟨_, rfl⟩
                    rw [← hgt] at HX9 HG ⊢
                    clear hgt
                    obtain ⟨W9, hWn⟩ : ∃ x, x = W8.alloc (.cells (tkA tk0) 31) := ⟨_, rfl⟩
                    rw [← hWn] at HX9 HK9 HR9 HP9 HZ9 ⊢
                    clear hWn
                    refine hK.out _ _ (HP9.out) (fun hHeld => ?_)
                    clear hK K
                    try simp only [Act.put, List.setIfInBounds_toArray, List.set_cons_zero, List.set_cons_succ]
                    refine wpAnyH_ready (rs := [23]) (by kernel_rfl) (by simp) ?_
                    refine AllReadyH.cons (o := { dst := some 29, op := Op.call { callee := Callee.value (Operand.func 62), args := #[Operand.tmp 28], argTypes := #[64] }, type := 23, pos := "bytes.go:54", after := #[{ on := 22, ground := Ground.data }, { on := 20, ground := Ground.chain }], guard := none }) rfl (fun K hK => ?_) AllReadyH.nil
                    clear hHeld
                    go_simp
                    refine (HC8.out _ HR9.out (HTB.out _ HK9.out)).mono ?_
                    rintro e W10 ⟨hk, hr, v, rfl, rfl⟩
                    have HK10 := hide (HK9.out.trans hk (fun _ h => .inl h))
                    have HR10 := hide hr
                    have HP10 := hide (HP9.out.keep hk (HNF.out _ (Nat.le_refl _)))
                    have HZ10 := hide (HZ9.out.keep hk (HNF.out _ (Nat.le_succ _)))
                    have HX10 := hide (HX9.out.keep hk (HNF.out _ (by have := HG.out; omega)))
                    clear hk hr HK9 HR9 HP9 HZ9 HX9
                    clear HC8
                    refine hK.out _ _ (HP10.out) (fun hHeld => ?_)
                    clear hK K
                    try simp only [Act.put, List.setIfInBounds_toArray, List.set_cons_zero, List.set_cons_succ]
                    refine wpAnyH_take (i := 24) (oi := { dst := some 30, op := Op.build 31 #[(0, Operand.tmp 12), (1, Operand.tmp 15), (2, Operand.tmp 17), (3, Operand.tmp 20), (4, Operand.tmp 23), (5, Operand.tmp 26), (6, Operand.tmp 29)], type := 31, pos := "bytes.go:47", after := #[{ on := 6, ground := Ground.data }, { on := 9, ground := Ground.data }, { on := 11, ground := Ground.data }, { on := 14, ground := Ground.data }, { on := 17, ground := Ground.data }, { on := 20, ground := Ground.data }, { on := 23, ground := Ground.data }], guard := none }) (v := .agg (tkA ⟨ns, sa, uid, (host : Nat), addr, born, til, key, List.replicate 32 0⟩)) rfl (by kernel_rfl) (by kernel_rfl) (by kernel_rfl) (fun _ _ _ h => h) (yields_build_tk (by rfl) _ _ _ _ _ _ _ rfl ns sa uid host addr born til key rfl rfl rfl rfl rfl rfl rfl) hHeld ?_
                    try simp only [Act.put, List.setIfInBounds_toArray, List.set_cons_zero, List.set_cons_succ]
                    refine wpAnyH_ready (rs := [26]) (by kernel_rfl) (by simp) ?_
                    refine AllReadyH.cons (o := { dst := none, op := Op.store 31 (Operand.tmp 3) (Operand.tmp 30), type := 0, pos := "bytes.go:47", after := #[{ on := 25, ground := Ground.data }, { on := 24, ground := Ground.data }, { on := 23, ground := Ground.chain }, { on := 0, ground := Ground.phase }, { on := 1, ground := Ground.phase }, { on := 2, ground := Ground.phase }, { on := 3, ground := Ground.phase }, { on := 4, ground := Ground.phase }, { on := 5, ground := Ground.phase }, { on := 6, ground := Ground.phase }, { on := 7, ground := Ground.phase }, { on := 8, ground := Ground.phase }, { on := 9, ground := Ground.phase }, { on := 10, ground := Ground.phase }, { on := 11, ground := Ground.phase }, { on := 12, ground := Ground.phase }, { on := 13, ground := Ground.phase }, { on := 14, ground := Ground.phase }, { on := 15, ground := Ground.phase }, { on := 16, ground := Ground.phase }, { on := 17, ground := Ground.phase }, { on := 18, ground := Ground.phase }, { on := 19, ground := Ground.phase }, { on := 20, ground := Ground.phase }, { on := 21, ground := Ground.phase }, { on := 22, ground := Ground.phase }, { on := 23, ground := Ground.phase }, { on := 24, ground := Ground.phase }, { on := 25, ground := Ground.phase }], guard := none }) rfl (fun K hK => ?_) AllReadyH.nil
                    clear hHeld
                    rw [if_pos (by rfl)]
                    refine wp_store_row _ _ _ rfl gt (tkA ⟨ns, sa, uid, (host : Nat), addr, born, til, key, List.replicate 32 0⟩) rfl rfl _ _ HX10.out.heap (szTk _ (by simp)) (tkA_same tk0_len (by simp)) (tkA_one _) ?_
                    have hb : Keep (fun k => k = gt) W10 (W10.setRow gt (tkA ⟨ns, sa, uid, (host : Nat), addr, born, til, key, List.replicate 32 0⟩)) := keep_row W10 gt _
                    have HX11 : Hid (TBox (W10.setRow gt (tkA ⟨ns, sa, uid, (host : Nat), addr, born, til, key, List.replicate 32 0⟩)) gt ⟨ns, sa, uid, (host : Nat), addr, born, til, key, List.replicate 32 0⟩) := hide HX10.out.row
                    have HNG := hide (fun e => HNF.out gt (by have := HG.out; omega) e : ¬ F gt)
                    have HK11 : Hid (Keep F W (W10.setRow gt (tkA ⟨ns, sa, uid, (host : Nat), addr, born, til, key, List.replicate 32 0⟩))) := hide (HK10.out.trans hb (fun k e => .inr (by have := HG.out; omega)))
                    have HR11 := hide (HR10.out.keep hb (fun k hF e => HNG.out (e ▸ hF)))
                    have HP11 := hide (HP10.out.keep hb (by have := HG.out; omega))
                    have HZ11 := hide (HZ10.out.keep hb (by have := HG.out; omega))
                    clear hb HNG HK10 HR10 HP10 HZ10 HX10
                    refine hK.out _ _ (HP11.out) (fun hHeld => ?_)
                    clear hK K
                    try simp only [Act.put]
                    refine wpAnyH_done (by kernel_rfl) ?_ _
                    clear hHeld
                    go_wp2_with fail
                    go_meet
                    case rel => exact ⟨gt, rfl, HG.out, HX11.out, HP11.out, HZ11.out, HK11.out, HR11.out⟩
                · clear hHeld
                  rw [if_pos (by rfl)]
                  refine wp_alloc_tk rfl ?_
                  have hb := (Below.refl W7.heap.size W7).alloc (Nat.le_refl _) (.cells (tkA tk0) 31)
                  have HX8 := hide (TBox.new W7 tk0)
                  have HG : Hid (W.heap.size + 2 ≤ W7.heap.size) := hide HZ7.out.lt
                  have HK8 := hide (HK7.out.trans (Keep.of_below hb : Keep F _ _) (fun _ h => .inl h))
                  have HR8 := hide (HR7.out.next hb)
                  have HP8 := hide (HP7.out.next hb)
                  have HZ8 := hide (HZ7.out.next hb)
                  clear hb HK7 HR7 HP7 HZ7
                  obtain ⟨gt, hgt⟩ : ∃ gt, gt = W7.heap.size := ⟨_, rfl⟩
                  rw [← hgt] at HX8 HG ⊢
                  clear hgt
                  obtain ⟨W8, hWn⟩ : ∃ x, x = W7.alloc (.cells (tkA tk0) 31) := ⟨_, rfl⟩
                  rw [← hWn] at HX8 HK8 HR8 HP8 HZ8 ⊢
                  clear hWn
                  refine hK.out _ _ (HP8.out) (fun hHeld => ?_)
                  clear hK K
                  try simp only [Act.put, List.setIfInBounds_toArray, List.set_cons_zero, List.set_cons_succ]
                  refine wpAnyH_ready (rs := [20]) (by kernel_rfl) (by simp) ?_
                  refine AllReadyH.cons (o := { dst := some 26, op := Op.call { callee := Callee.value (Operand.func 62), args := #[Operand.tmp 25], argTypes := #[64] }, type := 23, pos := "bytes.go:53", after := #[{ on := 19, ground := Ground.data }, { on := 17, ground := Ground.chain }], guard := none }) rfl (fun K hK => ?_) AllReadyH.nil
                  clear hHeld
                  go_simp
                  refine (HC7.out _ HR8.out (HTB.out _ HK8.out)).mono ?_
                  rintro e W9 ⟨hk, hr, v, rfl, rfl⟩
                  have HK9 := hide (HK8.out.trans hk (fun _ h => .inl h))
                  have HR9 := hide hr
                  have HP9 := hide (HP8.out.keep hk (HNF.out _ (Nat.le_refl _)))
                  have HZ9 := hide (HZ8.out.keep hk (HNF.out _ (Nat.le_succ _)))
                  have HX9 := hide (HX8.out.keep hk (HNF.out _ (by have := HG.out; omega)))
                  clear hk hr HK8 HR8 HP8 HZ8 HX8
                  clear HC7
                  refine hK.out _ _ (HP9.out) (fun hHeld => ?_)
                  clear hK K
                  try simp only [Act.put, List.setIfInBounds_toArray, List.set_cons_zero, List.set_cons_succ]
                  refine wpAnyH_ready (rs := [23]) (by kernel_rfl) (by simp) ?_
                  refine AllReadyH.cons (o := { dst := some 29, op := Op.call { callee := Callee.value (Operand.func 62), args := #[Operand.tmp 28], argTypes := #[64] }, type := 23, pos := "bytes.go:54", after := #[{ on := 22, ground := Ground.data }, { on := 20, ground := Ground.chain }], guard := none }) rfl (fun K hK => ?_) AllReadyH.nil
                  clear hHeld
                  go_simp
                  refine (HC8.out _ HR9.out (HTB.out _ HK9.out)).mono ?_
                  rintro e W10 ⟨hk, hr, v, rfl, rfl⟩
                  have HK10 := hide (HK9.out.trans hk (fun _ h => .inl h))
                  have HR10 := hide hr
                  have HP10 := hide (HP9.out.keep hk (HNF.out _ (Nat.le_refl _)))
                  have HZ10 := hide (HZ9.out.keep hk (HNF.out _ (Nat.le_succ _)))
                  have HX10 := hide (HX9.out.keep hk (HNF.out _ (by have := HG.out; omega)))
                  clear hk hr HK9 HR9 HP9 HZ9 HX9
                  clear HC8
                  refine hK.out _ _ (HP10.out) (fun hHeld => ?_)
                  clear hK K
                  try simp only [Act.put, List.setIfInBounds_toArray, List.set_cons_zero, List.set_cons_succ]
                  refine wpAnyH_take (i := 24) (oi := { dst := some 30, op := Op.build 31 #[(0, Operand.tmp 12), (1, Operand.tmp 15), (2, Operand.tmp 17), (3, Operand.tmp 20), (4, Operand.tmp 23), (5, Operand.tmp 26), (6, Operand.tmp 29)], type := 31, pos := "bytes.go:47", after := #[{ on := 6, ground := Ground.data }, { on := 9, ground := Ground.data }, { on := 11, ground := Ground.data }, { on := 14, ground := Ground.data }, { on := 17, ground := Ground.data }, { on := 20, ground := Ground.data }, { on := 23, ground := Ground.data }], guard := none }) (v := .agg (tkA ⟨ns, sa, uid, (host : Nat), addr, born, til, key, List.replicate 32 0⟩)) rfl (by kernel_rfl) (by kernel_rfl) (by kernel_rfl) (fun _ _ _ h => h) (yields_build_tk (by rfl) _ _ _ _ _ _ _ rfl ns sa uid host addr born til key rfl rfl rfl rfl rfl rfl rfl) hHeld ?_
                  try simp only [Act.put, List.setIfInBounds_toArray, List.set_cons_zero, List.set_cons_succ]
                  refine wpAnyH_ready (rs := [26]) (by kernel_rfl) (by simp) ?_
                  refine AllReadyH.cons (o := { dst := none, op := Op.store 31 (Operand.tmp 3) (Operand.tmp 30), type := 0, pos := "bytes.go:47", after := #[{ on := 25, ground := Ground.data }, { on := 24, ground := Ground.data }, { on := 23, ground := Ground.chain }, { on := 0, ground := Ground.phase }, { on := 1, ground := Ground.phase }, { on := 2, ground := Ground.phase }, { on := 3, ground := Ground.phase }, { on := 4, ground := Ground.phase }, { on := 5, ground := Ground.phase }, { on := 6, ground := Ground.phase }, { on := 7, ground := Ground.phase }, { on := 8, ground := Ground.phase }, { on := 9, ground := Ground.phase }, { on := 10, ground := Ground.phase }, { on := 11, ground := Ground.phase }, { on := 12, ground := Ground.phase }, { on := 13, ground := Ground.phase }, { on := 14, ground := Ground.phase }, { on := 15, ground := Ground.phase }, { on := 16, ground := Ground.phase }, { on := 17, ground := Ground.phase }, { on := 18, ground := Ground.phase }, { on := 19, ground := Ground.phase }, { on := 20, ground := Ground.phase }, { on := 21, ground := Ground.phase }, { on := 22, ground := Ground.phase }, { on := 23, ground := Ground.phase }, { on := 24, ground := Ground.phase }, { on := 25, ground := Ground.phase }], guard := none }) rfl (fun K hK => ?_) AllReadyH.nil
                  clear hHeld
                  rw [if_pos (by rfl)]
                  refine wp_store_row _ _ _ rfl gt (tkA ⟨ns, sa, uid, (host : Nat), addr, born, til, key, List.replicate 32 0⟩) rfl rfl _ _ HX10.out.heap (szTk _ (by simp)) (tkA_same tk0_len (by simp)) (tkA_one _) ?_
                  have hb : Keep (fun k => k = gt) W10 (W10.setRow gt (tkA ⟨ns, sa, uid, (host : Nat), addr, born, til, key, List.replicate 32 0⟩)) := keep_row W10 gt _
                  have HX11 : Hid (TBox (W10.setRow gt (tkA ⟨ns, sa, uid, (host : Nat), addr, born, til, key, List.replicate 32 0⟩)) gt ⟨ns, sa, uid, (host : Nat), addr, born, til, key, List.replicate 32 0⟩) := hide HX10.out.row
                  have HNG := hide (fun e => HNF.out gt (by have := HG.out; omega) e : ¬ F gt)
                  have HK11 : Hid (Keep F W (W10.setRow gt (tkA ⟨ns, sa, uid, (host : Nat), addr, born, til, key, List.replicate 32 0⟩))) := hide (HK10.out.trans hb (fun k e => .inr (by have := HG.out; omega)))
                  have HR11 := hide (HR10.out.keep hb (fun k hF e => HNG.out (e ▸ hF)))
                  have HP11 := hide (HP10.out.keep hb (by have := HG.out; omega))
                  have HZ11 := hide (HZ10.out.keep hb (by have := HG.out; omega))
                  clear hb HNG HK10 HR10 HP10 HZ10 HX10
                  refine hK.out _ _ (HP11.out) (fun hHeld => ?_)
                  clear hK K
                  try simp only [Act.put]
                  refine wpAnyH_done (by kernel_rfl) ?_ _
                  clear hHeld
                  go_wp2_with fail
                  go_meet
                  case rel => exact ⟨gt, rfl, HG.out, HX11.out, HP11.out, HZ11.out, HK11.out, HR11.out⟩
              · clear hHeld
                rw [if_pos (by rfl)]
                refine wp_alloc_tk rfl ?_
                have hb := (Below.refl W6.heap.size W6).alloc (Nat.le_refl _) (.cells (tkA tk0) 31)
                have HX7 := hide (TBox.new W6 tk0)
                have HG : Hid (W.heap.size + 2 ≤ W6.heap.size) := hide HZ6.out.lt
                have HK7 := hide (HK6.out.trans (Keep.of_below hb : Keep F _ _) (fun _ h => .inl h))
                have HR7 := hide (HR6.out.next hb)
                have HP7 := hide (HP6.out.next hb)
                have HZ7 := hide (HZ6.out.next hb)
                clear hb HK6 HR6 HP6 HZ6
                obtain ⟨gt, hgt⟩ : ∃ gt, gt = W6.heap.size := ⟨_, rfl⟩
                rw [← hgt] at HX7 HG ⊢
                clear hgt
                obtain ⟨W7, hWn⟩ : ∃ x, x = W6.alloc (.cells (tkA tk0) 31) := ⟨_, rfl⟩
                rw [← hWn] at HX7 HK7 HR7 HP7 HZ7 ⊢
                clear hWn
                refine hK.out _ _ (HP7.out) (fun hHeld => ?_)
                clear hK K
                try simp only [Act.put, List.setIfInBounds_toArray, List.set_cons_zero, List.set_cons_succ]
                refine wpAnyH_ready (rs := [17]) (by kernel_rfl) (by simp) ?_
                refine AllReadyH.cons (o := { dst := some 23, op := Op.call { callee := Callee.value (Operand.func 62), args := #[Operand.tmp 22], argTypes := #[64] }, type := 23, pos := "bytes.go:52", after := #[{ on := 16, ground := Ground.data }, { on := 14, ground := Ground.chain }], guard := none }) rfl (fun K hK => ?_) AllReadyH.nil
                clear hHeld
                go_simp
                refine (HC6.out _ HR7.out (HTB.out _ HK7.out)).mono ?_
                rintro e W8 ⟨hk, hr, v, rfl, rfl⟩
                have HK8 := hide (HK7.out.trans hk (fun _ h => .inl h))
                have HR8 := hide hr
                have HP8 := hide (HP7.out.keep hk (HNF.out _ (Nat.le_refl _)))
                have HZ8 := hide (HZ7.out.keep hk (HNF.out _ (Nat.le_succ _)))
                have HX8 := hide (HX7.out.keep hk (HNF.out _ (by have := HG.out; omega)))
                clear hk hr HK7 HR7 HP7 HZ7 HX7
                clear HC6
                refine hK.out _ _ (HP8.out) (fun hHeld => ?_)
                clear hK K
                try simp only [Act.put, List.setIfInBounds_toArray, List.set_cons_zero, List.set_cons_succ]
                refine wpAnyH_ready (rs := [20]) (by kernel_rfl) (by simp) ?_
                refine AllReadyH.cons (o := { dst := some 26, op := Op.call { callee := Callee.value (Operand.func 62), args := #[Operand.tmp 25], argTypes := #[64] }, type := 23, pos := "bytes.go:53", after := #[{ on := 19, ground := Ground.data }, { on := 17, ground := Ground.chain }], guard := none }) rfl (fun K hK => ?_) AllReadyH.nil
                clear hHeld
                go_simp
                refine (HC7.out _ HR8.out (HTB.out _ HK8.out)).mono ?_
                rintro e W9 ⟨hk, hr, v, rfl, rfl⟩
                have HK9 := hide (HK8.out.trans hk (fun _ h => .inl h))
                have HR9 := hide hr
                have HP9 := hide (HP8.out.keep hk (HNF.out _ (Nat.le_refl _)))
                have HZ9 := hide (HZ8.out.keep hk (HNF.out _ (Nat.le_succ _)))
                have HX9 := hide (HX8.out.keep hk (HNF.out _ (by have := HG.out; omega)))
                clear hk hr HK8 HR8 HP8 HZ8 HX8
                clear HC7
                refine hK.out _ _ (HP9.out) (fun hHeld => ?_)
                clear hK K
                try simp only [Act.put, List.setIfInBounds_toArray, List.set_cons_zero, List.set_cons_succ]
                refine wpAnyH_ready (rs := [23]) (by kernel_rfl) (by simp) ?_
                refine AllReadyH.cons (o := { dst := some 29, op := Op.call { callee := Callee.value (Operand.func 62), args := #[Operand.tmp 28], argTypes := #[64] }, type := 23, pos := "bytes.go:54", after := #[{ on := 22, ground := Ground.data }, { on := 20, ground := Ground.chain }], guard := none }) rfl (fun K hK => ?_) AllReadyH.nil
                clear hHeld
                go_simp
                refine (HC8.out _ HR9.out (HTB.out _ HK9.out)).mono ?_
                rintro e W10 ⟨hk, hr, v, rfl, rfl⟩
                have HK10 := hide (HK9.out.trans hk (fun _ h => .inl h))
                have HR10 := hide hr
                have HP10 := hide (HP9.out.keep hk (HNF.out _ (Nat.le_refl _)))
                have HZ10 := hide (HZ9.out.keep hk (HNF.out _ (Nat.le_succ _)))
                have HX10 := hide (HX9.out.keep hk (HNF.out _ (by have := HG.out; omega)))
                clear hk hr HK9 HR9 HP9 HZ9 HX9
                clear HC8
                refine hK.out _ _ (HP10.out) (fun hHeld => ?_)
                clear hK K
                try simp only [Act.put, List.setIfInBounds_toArray, List.set_cons_zero, List.set_cons_succ]
                refine wpAnyH_take (i := 24) (oi := { dst := some 30, op := Op.build 31 #[(0, Operand.tmp 12), (1, Operand.tmp 15), (2, Operand.tmp 17), (3, Operand.tmp 20), (4, Operand.tmp 23), (5, Operand.tmp 26), (6, Operand.tmp 29)], type := 31, pos := "bytes.go:47", after := #[{ on := 6, ground := Ground.data }, { on := 9, ground := Ground.data }, { on := 11, ground := Ground.data }, { on := 14, ground := Ground.data }, { on := 17, ground := Ground.data }, { on := 20, ground := Ground.data }, { on := 23, ground := Ground.data }], guard := none }) (v := .agg (tkA ⟨ns, sa, uid, (host : Nat), addr, born, til, key, List.replicate 32 0⟩)) rfl (by kernel_rfl) (by kernel_rfl) (by kernel_rfl) (fun _ _ _ h => h) (yields_build_tk (by rfl) _ _ _ _ _ _ _ rfl ns sa uid host addr born til key rfl rfl rfl rfl rfl rfl rfl) hHeld ?_
                try simp only [Act.put, List.setIfInBounds_toArray, List.set_cons_zero, List.set_cons_succ]
                refine wpAnyH_ready (rs := [26]) (by kernel_rfl) (by simp) ?_
                refine AllReadyH.cons (o := { dst := none, op := Op.store 31 (Operand.tmp 3) (Operand.tmp 30), type := 0, pos := "bytes.go:47", after := #[{ on := 25, ground := Ground.data }, { on := 24, ground := Ground.data }, { on := 23, ground := Ground.chain }, { on := 0, ground := Ground.phase }, { on := 1, ground := Ground.phase }, { on := 2, ground := Ground.phase }, { on := 3, ground := Ground.phase }, { on := 4, ground := Ground.phase }, { on := 5, ground := Ground.phase }, { on := 6, ground := Ground.phase }, { on := 7, ground := Ground.phase }, { on := 8, ground := Ground.phase }, { on := 9, ground := Ground.phase }, { on := 10, ground := Ground.phase }, { on := 11, ground := Ground.phase }, { on := 12, ground := Ground.phase }, { on := 13, ground := Ground.phase }, { on := 14, ground := Ground.phase }, { on := 15, ground := Ground.phase }, { on := 16, ground := Ground.phase }, { on := 17, ground := Ground.phase }, { on := 18, ground := Ground.phase }, { on := 19, ground := Ground.phase }, { on := 20, ground := Ground.phase }, { on := 21, ground := Ground.phase }, { on := 22, ground := Ground.phase }, { on := 23, ground := Ground.phase }, { on := 24, ground := Ground.phase }, { on := 25, ground := Ground.phase }], guard := none }) rfl (fun K hK => ?_) AllReadyH.nil
                clear hHeld
                rw [if_pos (by rfl)]
                refine wp_store_row _ _ _ rfl gt (tkA ⟨ns, sa, uid, (host : Nat), addr, born, til, key, List.replicate 32 0⟩) rfl rfl _ _ HX10.out.heap (szTk _ (by simp)) (tkA_same tk0_len (by simp)) (tkA_one _) ?_
                have hb : Keep (fun k => k = gt) W10 (W10.setRow gt (tkA ⟨ns, sa, uid, (host : Nat), addr, born, til, key, List.replicate 32 0⟩)) := keep_row W10 gt _
                have HX11 : Hid (TBox (W10.setRow gt (tkA ⟨ns, sa, uid, (host : Nat), addr, born, til, key, List.replicate 32 0⟩)) gt ⟨ns, sa, uid, (host : Nat), addr, born, til, key, List.replicate 32 0⟩) := hide HX10.out.row
                have HNG := hide (fun e => HNF.out gt (by have := HG.out; omega) e : ¬ F gt)
                have HK11 : Hid (Keep F W (W10.setRow gt (tkA ⟨ns, sa, uid, (host : Nat), addr, born, til, key, List.replicate 32 0⟩))) := hide (HK10.out.trans hb (fun k e => .inr (by have := HG.out; omega)))
                have HR11 := hide (HR10.out.keep hb (fun k hF e => HNG.out (e ▸ hF)))
                have HP11 := hide (HP10.out.keep hb (by have := HG.out; omega))
                have HZ11 := hide (HZ10.out.keep hb (by have := HG.out; omega))
                clear hb HNG HK10 HR10 HP10 HZ10 HX10
                refine hK.out _ _ (HP11.out) (fun hHeld => ?_)
                clear hK K
                try simp only [Act.put]
                refine wpAnyH_done (by kernel_rfl) ?_ _
                clear hHeld
                go_wp2_with fail
                go_meet
                case rel => exact ⟨gt, rfl, HG.out, HX11.out, HP11.out, HZ11.out, HK11.out, HR11.out⟩
            · clear hHeld
              rw [if_pos (by rfl)]
              refine wp_alloc_tk rfl ?_
              have hb := (Below.refl W5.heap.size W5).alloc (Nat.le_refl _) (.cells (tkA tk0) 31)
              have HX6 := hide (TBox.new W5 tk0)
              have HG : Hid (W.heap.size + 2 ≤ W5.heap.size) := hide HZ5.out.lt
              have HK6 := hide (HK5.out.trans (Keep.of_below hb : Keep F _ _) (fun _ h => .inl h))
              have HR6 := hide (HR5.out.next hb)
              have HP6 := hide (HP5.out.next hb)
              have HZ6 := hide (HZ5.out.next hb)
              clear hb HK5 HR5 HP5 HZ5
              obtain ⟨gt, hgt⟩ : ∃ gt, gt = W5.heap.size := ⟨_, rfl⟩
              rw [← hgt] at HX6 HG ⊢
              clear hgt
              obtain ⟨W6, hWn⟩ : ∃ x, x = W5.alloc (.cells (tkA tk0) 31) := ⟨_, rfl⟩
              rw [← hWn] at HX6 HK6 HR6 HP6 HZ6 ⊢
              clear hWn
              refine hK.out _ _ (HP6.out) (fun hHeld => ?_)
              clear hK K
              try simp only [Act.put, List.setIfInBounds_toArray, List.set_cons_zero, List.set_cons_succ]
              refine wpAnyH_ready (rs := [14]) (by kernel_rfl) (by simp) ?_
              refine AllReadyH.cons (o := { dst := some 20, op := Op.call { callee := Callee.value (Operand.func 64), args := #[Operand.tmp 19], argTypes := #[64] }, type := 28, pos := "bytes.go:51", after := #[{ on := 13, ground := Ground.data }, { on := 11, ground := Ground.chain }], guard := none }) rfl (fun K hK => ?_) AllReadyH.nil
              clear hHeld
              go_simp
              refine (HC5.out _ HR6.out (HTB.out _ HK6.out)).mono ?_
              rintro e W7 ⟨hk, hr, v, rfl, rfl⟩
              have HK7 := hide (HK6.out.trans hk (fun _ h => .inl h))
              have HR7 := hide hr
              have HP7 := hide (HP6.out.keep hk (HNF.out _ (Nat.le_refl _)))
              have HZ7 := hide (HZ6.out.keep hk (HNF.out _ (Nat.le_succ _)))
              have HX7 := hide (HX6.out.keep hk (HNF.out _ (by have := HG.out; omega)))
              clear hk hr HK6 HR6 HP6 HZ6 HX6
              clear HC5
              refine hK.out _ _ (HP7.out) (fun hHeld => ?_)
              clear hK K
              try simp only [Act.put, List.setIfInBounds_toArray, List.set_cons_zero, List.set_cons_succ]
              refine wpAnyH_ready (rs := [17]) (by kernel_rfl) (by simp) ?_
              refine AllReadyH.cons (o := { dst := some 23, op := Op.call { callee := Callee.value (Operand.func 62), args := #[Operand.tmp 22], argTypes := #[64] }, type := 23, pos := "bytes.go:52", after := #[{ on := 16, ground := Ground.data }, { on := 14, ground := Ground.chain }], guard := none }) rfl (fun K hK => ?_) AllReadyH.nil
              clear hHeld
              go_simp
              refine (HC6.out _ HR7.out (HTB.out _ HK7.out)).mono ?_
              rintro e W8 ⟨hk, hr, v, rfl, rfl⟩
              have HK8 := hide (HK7.out.trans hk (fun _ h => .inl h))
              have HR8 := hide hr
              have HP8 := hide (HP7.out.keep hk (HNF.out _ (Nat.le_refl _)))
              have HZ8 := hide (HZ7.out.keep hk (HNF.out _ (Nat.le_succ _)))
              have HX8 := hide (HX7.out.keep hk (HNF.out _ (by have := HG.out; omega)))
              clear hk hr HK7 HR7 HP7 HZ7 HX7
              clear HC6
              refine hK.out _ _ (HP8.out) (fun hHeld => ?_)
              clear hK K
              try simp only [Act.put, List.setIfInBounds_toArray, List.set_cons_zero, List.set_cons_succ]
              refine wpAnyH_ready (rs := [20]) (by kernel_rfl) (by simp) ?_
              refine AllReadyH.cons (o := { dst := some 26, op := Op.call { callee := Callee.value (Operand.func 62), args := #[Operand.tmp 25], argTypes := #[64] }, type := 23, pos := "bytes.go:53", after := #[{ on := 19, ground := Ground.data }, { on := 17, ground := Ground.chain }], guard := none }) rfl (fun K hK => ?_) AllReadyH.nil
              clear hHeld
              go_simp
              refine (HC7.out _ HR8.out (HTB.out _ HK8.out)).mono ?_
              rintro e W9 ⟨hk, hr, v, rfl, rfl⟩
              have HK9 := hide (HK8.out.trans hk (fun _ h => .inl h))
              have HR9 := hide hr
              have HP9 := hide (HP8.out.keep hk (HNF.out _ (Nat.le_refl _)))
              have HZ9 := hide (HZ8.out.keep hk (HNF.out _ (Nat.le_succ _)))
              have HX9 := hide (HX8.out.keep hk (HNF.out _ (by have := HG.out; omega)))
              clear hk hr HK8 HR8 HP8 HZ8 HX8
              clear HC7
              refine hK.out _ _ (HP9.out) (fun hHeld => ?_)
              clear hK K
              try simp only [Act.put, List.setIfInBounds_toArray, List.set_cons_zero, List.set_cons_succ]
              refine wpAnyH_ready (rs := [23]) (by kernel_rfl) (by simp) ?_
              refine AllReadyH.cons (o := { dst := some 29, op := Op.call { callee := Callee.value (Operand.func 62), args := #[Operand.tmp 28], argTypes := #[64] }, type := 23, pos := "bytes.go:54", after := #[{ on := 22, ground := Ground.data }, { on := 20, ground := Ground.chain }], guard := none }) rfl (fun K hK => ?_) AllReadyH.nil
              clear hHeld
              go_simp
              refine (HC8.out _ HR9.out (HTB.out _ HK9.out)).mono ?_
              rintro e W10 ⟨hk, hr, v, rfl, rfl⟩
              have HK10 := hide (HK9.out.trans hk (fun _ h => .inl h))
              have HR10 := hide hr
              have HP10 := hide (HP9.out.keep hk (HNF.out _ (Nat.le_refl _)))
              have HZ10 := hide (HZ9.out.keep hk (HNF.out _ (Nat.le_succ _)))
              have HX10 := hide (HX9.out.keep hk (HNF.out _ (by have := HG.out; omega)))
              clear hk hr HK9 HR9 HP9 HZ9 HX9
              clear HC8
              refine hK.out _ _ (HP10.out) (fun hHeld => ?_)
              clear hK K
              try simp only [Act.put, List.setIfInBounds_toArray, List.set_cons_zero, List.set_cons_succ]
              refine wpAnyH_take (i := 24) (oi := { dst := some 30, op := Op.build 31 #[(0, Operand.tmp 12), (1, Operand.tmp 15), (2, Operand.tmp 17), (3, Operand.tmp 20), (4, Operand.tmp 23), (5, Operand.tmp 26), (6, Operand.tmp 29)], type := 31, pos := "bytes.go:47", after := #[{ on := 6, ground := Ground.data }, { on := 9, ground := Ground.data }, { on := 11, ground := Ground.data }, { on := 14, ground := Ground.data }, { on := 17, ground := Ground.data }, { on := 20, ground := Ground.data }, { on := 23, ground := Ground.data }], guard := none }) (v := .agg (tkA ⟨ns, sa, uid, (host : Nat), addr, born, til, key, List.replicate 32 0⟩)) rfl (by kernel_rfl) (by kernel_rfl) (by kernel_rfl) (fun _ _ _ h => h) (yields_build_tk (by rfl) _ _ _ _ _ _ _ rfl ns sa uid host addr born til key rfl rfl rfl rfl rfl rfl rfl) hHeld ?_
              try simp only [Act.put, List.setIfInBounds_toArray, List.set_cons_zero, List.set_cons_succ]
              refine wpAnyH_ready (rs := [26]) (by kernel_rfl) (by simp) ?_
              refine AllReadyH.cons (o := { dst := none, op := Op.store 31 (Operand.tmp 3) (Operand.tmp 30), type := 0, pos := "bytes.go:47", after := #[{ on := 25, ground := Ground.data }, { on := 24, ground := Ground.data }, { on := 23, ground := Ground.chain }, { on := 0, ground := Ground.phase }, { on := 1, ground := Ground.phase }, { on := 2, ground := Ground.phase }, { on := 3, ground := Ground.phase }, { on := 4, ground := Ground.phase }, { on := 5, ground := Ground.phase }, { on := 6, ground := Ground.phase }, { on := 7, ground := Ground.phase }, { on := 8, ground := Ground.phase }, { on := 9, ground := Ground.phase }, { on := 10, ground := Ground.phase }, { on := 11, ground := Ground.phase }, { on := 12, ground := Ground.phase }, { on := 13, ground := Ground.phase }, { on := 14, ground := Ground.phase }, { on := 15, ground := Ground.phase }, { on := 16, ground := Ground.phase }, { on := 17, ground := Ground.phase }, { on := 18, ground := Ground.phase }, { on := 19, ground := Ground.phase }, { on := 20, ground := Ground.phase }, { on := 21, ground := Ground.phase }, { on := 22, ground := Ground.phase }, { on := 23, ground := Ground.phase }, { on := 24, ground := Ground.phase }, { on := 25, ground := Ground.phase }], guard := none }) rfl (fun K hK => ?_) AllReadyH.nil
              clear hHeld
              rw [if_pos (by rfl)]
              refine wp_store_row _ _ _ rfl gt (tkA ⟨ns, sa, uid, (host : Nat), addr, born, til, key, List.replicate 32 0⟩) rfl rfl _ _ HX10.out.heap (szTk _ (by simp)) (tkA_same tk0_len (by simp)) (tkA_one _) ?_
              have hb : Keep (fun k => k = gt) W10 (W10.setRow gt (tkA ⟨ns, sa, uid, (host : Nat), addr, born, til, key, List.replicate 32 0⟩)) := keep_row W10 gt _
              have HX11 : Hid (TBox (W10.setRow gt (tkA ⟨ns, sa, uid, (host : Nat), addr, born, til, key, List.replicate 32 0⟩)) gt ⟨ns, sa, uid, (host : Nat), addr, born, til, key, List.replicate 32 0⟩) := hide HX10.out.row
              have HNG := hide (fun e => HNF.out gt (by have := HG.out; omega) e : ¬ F gt)
              have HK11 : Hid (Keep F W (W10.setRow gt (tkA ⟨ns, sa, uid, (host : Nat), addr, born, til, key, List.replicate 32 0⟩))) := hide (HK10.out.trans hb (fun k e => .inr (by have := HG.out; omega)))
              have HR11 := hide (HR10.out.keep hb (fun k hF e => HNG.out (e ▸ hF)))
              have HP11 := hide (HP10.out.keep hb (by have := HG.out; omega))
              have HZ11 := hide (HZ10.out.keep hb (by have := HG.out; omega))
              clear hb HNG HK10 HR10 HP10 HZ10 HX10
              refine hK.out _ _ (HP11.out) (fun hHeld => ?_)
              clear hK K
              try simp only [Act.put]
              refine wpAnyH_done (by kernel_rfl) ?_ _
              clear hHeld
              go_wp2_with fail
              go_meet
              case rel => exact ⟨gt, rfl, HG.out, HX11.out, HP11.out, HZ11.out, HK11.out, HR11.out⟩
          · clear hHeld
            rw [if_pos (by rfl)]
            refine wp_alloc_tk rfl ?_
            have hb := (Below.refl W4.heap.size W4).alloc (Nat.le_refl _) (.cells (tkA tk0) 31)
            have HX5 := hide (TBox.new W4 tk0)
            have HG : Hid (W.heap.size + 2 ≤ W4.heap.size) := hide HZ4.out.lt
            have HK5 := hide (HK4.out.trans (Keep.of_below hb : Keep F _ _) (fun _ h => .inl h))
            have HR5 := hide (HR4.out.next hb)
            have HP5 := hide (HP4.out.next hb)
            have HZ5 := hide (HZ4.out.next hb)
            clear hb HK4 HR4 HP4 HZ4
            obtain ⟨gt, hgt⟩ : ∃ gt, gt = W4.heap.size := ⟨_, rfl⟩
            rw [← hgt] at HX5 HG ⊢
            clear hgt
            obtain ⟨W5, hWn⟩ : ∃ x, x = W4.alloc (.cells (tkA tk0) 31) := ⟨_, rfl⟩
            rw [← hWn] at HX5 HK5 HR5 HP5 HZ5 ⊢
            clear hWn
            refine hK.out _ _ (HP5.out) (fun hHeld => ?_)
            clear hK K
            try simp only [Act.put, List.setIfInBounds_toArray, List.set_cons_zero, List.set_cons_succ]
            refine wpAnyH_ready (rs := [11]) (by kernel_rfl) (by simp) ?_
            refine AllReadyH.cons (o := { dst := some 17, op := Op.call { callee := Callee.value (Operand.func 63), args := #[Operand.tmp 16], argTypes := #[67] }, type := 3, pos := "bytes.go:50", after := #[{ on := 10, ground := Ground.data }, { on := 9, ground := Ground.chain }], guard := none }) rfl (fun K hK => ?_) AllReadyH.nil
            clear hHeld
            go_simp
            refine (HC4.out _ HR5.out (HTB.out _ HK5.out)).mono ?_
            rintro e W6 ⟨hk, hr, v, rfl, rfl⟩
            have HK6 := hide (HK5.out.trans hk (fun _ h => .inl h))
            have HR6 := hide hr
            have HP6 := hide (HP5.out.keep hk (HNF.out _ (Nat.le_refl _)))
            have HZ6 := hide (HZ5.out.keep hk (HNF.out _ (Nat.le_succ _)))
            have HX6 := hide (HX5.out.keep hk (HNF.out _ (by have := HG.out; omega)))
            clear hk hr HK5 HR5 HP5 HZ5 HX5
            clear HC4
            refine hK.out _ _ (HP6.out) (fun hHeld => ?_)
            clear hK K
            try simp only [Act.put, List.setIfInBounds_toArray, List.set_cons_zero, List.set_cons_succ]
            refine wpAnyH_ready (rs := [14]) (by kernel_rfl) (by simp) ?_
            refine AllReadyH.cons (o := { dst := some 20, op := Op.call { callee := Callee.value (Operand.func 64), args := #[Operand.tmp 19], argTypes := #[64] }, type := 28, pos := "bytes.go:51", after := #[{ on := 13, ground := Ground.data }, { on := 11, ground := Ground.chain }], guard := none }) rfl (fun K hK => ?_) AllReadyH.nil
            clear hHeld
            go_simp
            refine (HC5.out _ HR6.out (HTB.out _ HK6.out)).mono ?_
            rintro e W7 ⟨hk, hr, v, rfl, rfl⟩
            have HK7 := hide (HK6.out.trans hk (fun _ h => .inl h))
            have HR7 := hide hr
            have HP7 := hide (HP6.out.keep hk (HNF.out _ (Nat.le_refl _)))
            have HZ7 := hide (HZ6.out.keep hk (HNF.out _ (Nat.le_succ _)))
            have HX7 := hide (HX6.out.keep hk (HNF.out _ (by have := HG.out; omega)))
            clear hk hr HK6 HR6 HP6 HZ6 HX6
            clear HC5
            refine hK.out _ _ (HP7.out) (fun hHeld => ?_)
            clear hK K
            try simp only [Act.put, List.setIfInBounds_toArray, List.set_cons_zero, List.set_cons_succ]
            refine wpAnyH_ready (rs := [17]) (by kernel_rfl) (by simp) ?_
            refine AllReadyH.cons (o := { dst := some 23, op := Op.call { callee := Callee.value (Operand.func 62), args := #[Operand.tmp 22], argTypes := #[64] }, type := 23, pos := "bytes.go:52", after := #[{ on := 16, ground := Ground.data }, { on := 14, ground := Ground.chain }], guard := none }) rfl (fun K hK => ?_) AllReadyH.nil
            clear hHeld
            go_simp
            refine (HC6.out _ HR7.out (HTB.out _ HK7.out)).mono ?_
            rintro e W8 ⟨hk, hr, v, rfl, rfl⟩
            have HK8 := hide (HK7.out.trans hk (fun _ h => .inl h))
            have HR8 := hide hr
            have HP8 := hide (HP7.out.keep hk (HNF.out _ (Nat.le_refl _)))
            have HZ8 := hide (HZ7.out.keep hk (HNF.out _ (Nat.le_succ _)))
            have HX8 := hide (HX7.out.keep hk (HNF.out _ (by have := HG.out; omega)))
            clear hk hr HK7 HR7 HP7 HZ7 HX7
            clear HC6
            refine hK.out _ _ (HP8.out) (fun hHeld => ?_)
            clear hK K
            try simp only [Act.put, List.setIfInBounds_toArray, List.set_cons_zero, List.set_cons_succ]
            refine wpAnyH_ready (rs := [20]) (by kernel_rfl) (by simp) ?_
            refine AllReadyH.cons (o := { dst := some 26, op := Op.call { callee := Callee.value (Operand.func 62), args := #[Operand.tmp 25], argTypes := #[64] }, type := 23, pos := "bytes.go:53", after := #[{ on := 19, ground := Ground.data }, { on := 17, ground := Ground.chain }], guard := none }) rfl (fun K hK => ?_) AllReadyH.nil
            clear hHeld
            go_simp
            refine (HC7.out _ HR8.out (HTB.out _ HK8.out)).mono ?_
            rintro e W9 ⟨hk, hr, v, rfl, rfl⟩
            have HK9 := hide (HK8.out.trans hk (fun _ h => .inl h))
            have HR9 := hide hr
            have HP9 := hide (HP8.out.keep hk (HNF.out _ (Nat.le_refl _)))
            have HZ9 := hide (HZ8.out.keep hk (HNF.out _ (Nat.le_succ _)))
            have HX9 := hide (HX8.out.keep hk (HNF.out _ (by have := HG.out; omega)))
            clear hk hr HK8 HR8 HP8 HZ8 HX8
            clear HC7
            refine hK.out _ _ (HP9.out) (fun hHeld => ?_)
            clear hK K
            try simp only [Act.put, List.setIfInBounds_toArray, List.set_cons_zero, List.set_cons_succ]
            refine wpAnyH_ready (rs := [23]) (by kernel_rfl) (by simp) ?_
            refine AllReadyH.cons (o := { dst := some 29, op := Op.call { callee := Callee.value (Operand.func 62), args := #[Operand.tmp 28], argTypes := #[64] }, type := 23, pos := "bytes.go:54", after := #[{ on := 22, ground := Ground.data }, { on := 20, ground := Ground.chain }], guard := none }) rfl (fun K hK => ?_) AllReadyH.nil
            clear hHeld
            go_simp
            refine (HC8.out _ HR9.out (HTB.out _ HK9.out)).mono ?_
            rintro e W10 ⟨hk, hr, v, rfl, rfl⟩
            have HK10 := hide (HK9.out.trans hk (fun _ h => .inl h))
            have HR10 := hide hr
            have HP10 := hide (HP9.out.keep hk (HNF.out _ (Nat.le_refl _)))
            have HZ10 := hide (HZ9.out.keep hk (HNF.out _ (Nat.le_succ _)))
            have HX10 := hide (HX9.out.keep hk (HNF.out _ (by have := HG.out; omega)))
            clear hk hr HK9 HR9 HP9 HZ9 HX9
            clear HC8
            refine hK.out _ _ (HP10.out) (fun hHeld => ?_)
            clear hK K
            try simp only [Act.put, List.setIfInBounds_toArray, List.set_cons_zero, List.set_cons_succ]
            refine wpAnyH_take (i := 24) (oi := { dst := some 30, op := Op.build 31 #[(0, Operand.tmp 12), (1, Operand.tmp 15), (2, Operand.tmp 17), (3, Operand.tmp 20), (4, Operand.tmp 23), (5, Operand.tmp 26), (6, Operand.tmp 29)], type := 31, pos := "bytes.go:47", after := #[{ on := 6, ground := Ground.data }, { on := 9, ground := Ground.data }, { on := 11, ground := Ground.data }, { on := 14, ground := Ground.data }, { on := 17, ground := Ground.data }, { on := 20, ground := Ground.data }, { on := 23, ground := Ground.data }], guard := none }) (v := .agg (tkA ⟨ns, sa, uid, (host : Nat), addr, born, til, key, List.replicate 32 0⟩)) rfl (by kernel_rfl) (by kernel_rfl) (by kernel_rfl) (fun _ _ _ h => h) (yields_build_tk (by rfl) _ _ _ _ _ _ _ rfl ns sa uid host addr born til key rfl rfl rfl rfl rfl rfl rfl) hHeld ?_
            try simp only [Act.put, List.setIfInBounds_toArray, List.set_cons_zero, List.set_cons_succ]
            refine wpAnyH_ready (rs := [26]) (by kernel_rfl) (by simp) ?_
            refine AllReadyH.cons (o := { dst := none, op := Op.store 31 (Operand.tmp 3) (Operand.tmp 30), type := 0, pos := "bytes.go:47", after := #[{ on := 25, ground := Ground.data }, { on := 24, ground := Ground.data }, { on := 23, ground := Ground.chain }, { on := 0, ground := Ground.phase }, { on := 1, ground := Ground.phase }, { on := 2, ground := Ground.phase }, { on := 3, ground := Ground.phase }, { on := 4, ground := Ground.phase }, { on := 5, ground := Ground.phase }, { on := 6, ground := Ground.phase }, { on := 7, ground := Ground.phase }, { on := 8, ground := Ground.phase }, { on := 9, ground := Ground.phase }, { on := 10, ground := Ground.phase }, { on := 11, ground := Ground.phase }, { on := 12, ground := Ground.phase }, { on := 13, ground := Ground.phase }, { on := 14, ground := Ground.phase }, { on := 15, ground := Ground.phase }, { on := 16, ground := Ground.phase }, { on := 17, ground := Ground.phase }, { on := 18, ground := Ground.phase }, { on := 19, ground := Ground.phase }, { on := 20, ground := Ground.phase }, { on := 21, ground := Ground.phase }, { on := 22, ground := Ground.phase }, { on := 23, ground := Ground.phase }, { on := 24, ground := Ground.phase }, { on := 25, ground := Ground.phase }], guard := none }) rfl (fun K hK => ?_) AllReadyH.nil
            clear hHeld
            rw [if_pos (by rfl)]
            refine wp_store_row _ _ _ rfl gt (tkA ⟨ns, sa, uid, (host : Nat), addr, born, til, key, List.replicate 32 0⟩) rfl rfl _ _ HX10.out.heap (szTk _ (by simp)) (tkA_same tk0_len (by simp)) (tkA_one _) ?_
            have hb : Keep (fun k => k = gt) W10 (W10.setRow gt (tkA ⟨ns, sa, uid, (host : Nat), addr, born, til, key, List.replicate 32 0⟩)) := keep_row W10 gt _
            have HX11 : Hid (TBox (W10.setRow gt (tkA ⟨ns, sa, uid, (host : Nat), addr, born, til, key, List.replicate 32 0⟩)) gt ⟨ns, sa, uid, (host : Nat), addr, born, til, key, List.replicate 32 0⟩) := hide HX10.out.row
            have HNG := hide (fun e => HNF.out gt (by have := HG.out; omega) e : ¬ F gt)
            have HK11 : Hid (Keep F W (W10.setRow gt (tkA ⟨ns, sa, uid, (host : Nat), addr, born, til, key, List.replicate 32 0⟩))) := hide (HK10.out.trans hb (fun k e => .inr (by have := HG.out; omega)))
            have HR11 := hide (HR10.out.keep hb (fun k hF e => HNG.out (e ▸ hF)))
            have HP11 := hide (HP10.out.keep hb (by have := HG.out; omega))
            have HZ11 := hide (HZ10.out.keep hb (by have := HG.out; omega))
            clear hb HNG HK10 HR10 HP10 HZ10 HX10
            refine hK.out _ _ (HP11.out) (fun hHeld => ?_)
            clear hK K
            try simp only [Act.put]
            refine wpAnyH_done (by kernel_rfl) ?_ _
            clear hHeld
            go_wp2_with fail
            go_meet
            case rel => exact ⟨gt, rfl, HG.out, HX11.out, HP11.out, HZ11.out, HK11.out, HR11.out⟩
        · clear hHeld
          rw [if_pos (by rfl)]
          refine wp_alloc_tk rfl ?_
          have hb := (Below.refl W3.heap.size W3).alloc (Nat.le_refl _) (.cells (tkA tk0) 31)
          have HX4 := hide (TBox.new W3 tk0)
          have HG : Hid (W.heap.size + 2 ≤ W3.heap.size) := hide HZ3.out.lt
          have HK4 := hide (HK3.out.trans (Keep.of_below hb : Keep F _ _) (fun _ h => .inl h))
          have HR4 := hide (HR3.out.next hb)
          have HP4 := hide (HP3.out.next hb)
          have HZ4 := hide (HZ3.out.next hb)
          clear hb HK3 HR3 HP3 HZ3
          obtain ⟨gt, hgt⟩ : ∃ gt, gt = W3.heap.size := ⟨_, rfl⟩
          rw [← hgt] at HX4 HG ⊢
          clear hgt
          obtain ⟨W4, hWn⟩ : ∃ x, x = W3.alloc (.cells (tkA tk0) 31) := ⟨_, rfl⟩
          rw [← hWn] at HX4 HK4 HR4 HP4 HZ4 ⊢
          clear hWn
          refine hK.out _ _ (HP4.out) (fun hHeld => ?_)
          clear hK K
          try simp only [Act.put, List.setIfInBounds_toArray, List.set_cons_zero, List.set_cons_succ]
          refine wpAnyH_ready (rs := [9]) (by kernel_rfl) (by simp) ?_
          refine AllReadyH.cons (o := { dst := some 15, op := Op.call { callee := Callee.value (Operand.func 62), args := #[Operand.tmp 14], argTypes := #[64] }, type := 23, pos := "bytes.go:49", after := #[{ on := 8, ground := Ground.data }, { on := 5, ground := Ground.chain }], guard := none }) rfl (fun K hK => ?_) AllReadyH.nil
          clear hHeld
          go_simp
          refine (HC3.out _ HR4.out (HTB.out _ HK4.out)).mono ?_
          rintro e W5 ⟨hk, hr, v, rfl, rfl⟩
          have HK5 := hide (HK4.out.trans hk (fun _ h => .inl h))
          have HR5 := hide hr
          have HP5 := hide (HP4.out.keep hk (HNF.out _ (Nat.le_refl _)))
          have HZ5 := hide (HZ4.out.keep hk (HNF.out _ (Nat.le_succ _)))
          have HX5 := hide (HX4.out.keep hk (HNF.out _ (by have := HG.out; omega)))
          clear hk hr HK4 HR4 HP4 HZ4 HX4
          clear HC3
          refine hK.out _ _ (HP5.out) (fun hHeld => ?_)
          clear hK K
          try simp only [Act.put, List.setIfInBounds_toArray, List.set_cons_zero, List.set_cons_succ]
          refine wpAnyH_ready (rs := [11]) (by kernel_rfl) (by simp) ?_
          refine AllReadyH.cons (o := { dst := some 17, op := Op.call { callee := Callee.value (Operand.func 63), args := #[Operand.tmp 16], argTypes := #[67] }, type := 3, pos := "bytes.go:50", after := #[{ on := 10, ground := Ground.data }, { on := 9, ground := Ground.chain }], guard := none }) rfl (fun K hK => ?_) AllReadyH.nil
          clear hHeld
          go_simp
          refine (HC4.out _ HR5.out (HTB.out _ HK5.out)).mono ?_
          rintro e W6 ⟨hk, hr, v, rfl, rfl⟩
          have HK6 := hide (HK5.out.trans hk (fun _ h => .inl h))
          have HR6 := hide hr
          have HP6 := hide (HP5.out.keep hk (HNF.out _ (Nat.le_refl _)))
          have HZ6 := hide (HZ5.out.keep hk (HNF.out _ (Nat.le_succ _)))
          have HX6 := hide (HX5.out.keep hk (HNF.out _ (by have := HG.out; omega)))
          clear hk hr HK5 HR5 HP5 HZ5 HX5
          clear HC4
          refine hK.out _ _ (HP6.out) (fun hHeld => ?_)
          clear hK K
          try simp only [Act.put, List.setIfInBounds_toArray, List.set_cons_zero, List.set_cons_succ]
          refine wpAnyH_ready (rs := [14]) (by kernel_rfl) (by simp) ?_
          refine AllReadyH.cons (o := { dst := some 20, op := Op.call { callee := Callee.value (Operand.func 64), args := #[Operand.tmp 19], argTypes := #[64] }, type := 28, pos := "bytes.go:51", after := #[{ on := 13, ground := Ground.data }, { on := 11, ground := Ground.chain }], guard := none }) rfl (fun K hK => ?_) AllReadyH.nil
          clear hHeld
          go_simp
          refine (HC5.out _ HR6.out (HTB.out _ HK6.out)).mono ?_
          rintro e W7 ⟨hk, hr, v, rfl, rfl⟩
          have HK7 := hide (HK6.out.trans hk (fun _ h => .inl h))
          have HR7 := hide hr
          have HP7 := hide (HP6.out.keep hk (HNF.out _ (Nat.le_refl _)))
          have HZ7 := hide (HZ6.out.keep hk (HNF.out _ (Nat.le_succ _)))
          have HX7 := hide (HX6.out.keep hk (HNF.out _ (by have := HG.out; omega)))
          clear hk hr HK6 HR6 HP6 HZ6 HX6
          clear HC5
          refine hK.out _ _ (HP7.out) (fun hHeld => ?_)
          clear hK K
          try simp only [Act.put, List.setIfInBounds_toArray, List.set_cons_zero, List.set_cons_succ]
          refine wpAnyH_ready (rs := [17]) (by kernel_rfl) (by simp) ?_
          refine AllReadyH.cons (o := { dst := some 23, op := Op.call { callee := Callee.value (Operand.func 62), args := #[Operand.tmp 22], argTypes := #[64] }, type := 23, pos := "bytes.go:52", after := #[{ on := 16, ground := Ground.data }, { on := 14, ground := Ground.chain }], guard := none }) rfl (fun K hK => ?_) AllReadyH.nil
          clear hHeld
          go_simp
          refine (HC6.out _ HR7.out (HTB.out _ HK7.out)).mono ?_
          rintro e W8 ⟨hk, hr, v, rfl, rfl⟩
          have HK8 := hide (HK7.out.trans hk (fun _ h => .inl h))
          have HR8 := hide hr
          have HP8 := hide (HP7.out.keep hk (HNF.out _ (Nat.le_refl _)))
          have HZ8 := hide (HZ7.out.keep hk (HNF.out _ (Nat.le_succ _)))
          have HX8 := hide (HX7.out.keep hk (HNF.out _ (by have := HG.out; omega)))
          clear hk hr HK7 HR7 HP7 HZ7 HX7
          clear HC6
          refine hK.out _ _ (HP8.out) (fun hHeld => ?_)
          clear hK K
          try simp only [Act.put, List.setIfInBounds_toArray, List.set_cons_zero, List.set_cons_succ]
          refine wpAnyH_ready (rs := [20]) (by kernel_rfl) (by simp) ?_
          refine AllReadyH.cons (o := { dst := some 26, op := Op.call { callee := Callee.value (Operand.func 62), args := #[Operand.tmp 25], argTypes := #[64] }, type := 23, pos := "bytes.go:53", after := #[{ on := 19, ground := Ground.data }, { on := 17, ground := Ground.chain }], guard := none }) rfl (fun K hK => ?_) AllReadyH.nil
          clear hHeld
          go_simp
          refine (HC7.out _ HR8.out (HTB.out _ HK8.out)).mono ?_
          rintro e W9 ⟨hk, hr, v, rfl, rfl⟩
          have HK9 := hide (HK8.out.trans hk (fun _ h => .inl h))
          have HR9 := hide hr
          have HP9 := hide (HP8.out.keep hk (HNF.out _ (Nat.le_refl _)))
          have HZ9 := hide (HZ8.out.keep hk (HNF.out _ (Nat.le_succ _)))
          have HX9 := hide (HX8.out.keep hk (HNF.out _ (by have := HG.out; omega)))
          clear hk hr HK8 HR8 HP8 HZ8 HX8
          clear HC7
          refine hK.out _ _ (HP9.out) (fun hHeld => ?_)
          clear hK K
          try simp only [Act.put, List.setIfInBounds_toArray, List.set_cons_zero, List.set_cons_succ]
          refine wpAnyH_ready (rs := [23]) (by kernel_rfl) (by simp) ?_
          refine AllReadyH.cons (o := { dst := some 29, op := Op.call { callee := Callee.value (Operand.func 62), args := #[Operand.tmp 28], argTypes := #[64] }, type := 23, pos := "bytes.go:54", after := #[{ on := 22, ground := Ground.data }, { on := 20, ground := Ground.chain }], guard := none }) rfl (fun K hK => ?_) AllReadyH.nil
          clear hHeld
          go_simp
          refine (HC8.out _ HR9.out (HTB.out _ HK9.out)).mono ?_
          rintro e W10 ⟨hk, hr, v, rfl, rfl⟩
          have HK10 := hide (HK9.out.trans hk (fun _ h => .inl h))
          have HR10 := hide hr
          have HP10 := hide (HP9.out.keep hk (HNF.out _ (Nat.le_refl _)))
          have HZ10 := hide (HZ9.out.keep hk (HNF.out _ (Nat.le_succ _)))
          have HX10 := hide (HX9.out.keep hk (HNF.out _ (by have := HG.out; omega)))
          clear hk hr HK9 HR9 HP9 HZ9 HX9
          clear HC8
          refine hK.out _ _ (HP10.out) (fun hHeld => ?_)
          clear hK K
          try simp only [Act.put, List.setIfInBounds_toArray, List.set_cons_zero, List.set_cons_succ]
          refine wpAnyH_take (i := 24) (oi := { dst := some 30, op := Op.build 31 #[(0, Operand.tmp 12), (1, Operand.tmp 15), (2, Operand.tmp 17), (3, Operand.tmp 20), (4, Operand.tmp 23), (5, Operand.tmp 26), (6, Operand.tmp 29)], type := 31, pos := "bytes.go:47", after := #[{ on := 6, ground := Ground.data }, { on := 9, ground := Ground.data }, { on := 11, ground := Ground.data }, { on := 14, ground := Ground.data }, { on := 17, ground := Ground.data }, { on := 20, ground := Ground.data }, { on := 23, ground := Ground.data }], guard := none }) (v := .agg (tkA ⟨ns, sa, uid, (host : Nat), addr, born, til, key, List.replicate 32 0⟩)) rfl (by kernel_rfl) (by kernel_rfl) (by kernel_rfl) (fun _ _ _ h => h) (yields_build_tk (by rfl) _ _ _ _ _ _ _ rfl ns sa uid host addr born til key rfl rfl rfl rfl rfl rfl rfl) hHeld ?_
          try simp only [Act.put, List.setIfInBounds_toArray, List.set_cons_zero, List.set_cons_succ]
          refine wpAnyH_ready (rs := [26]) (by kernel_rfl) (by simp) ?_
          refine AllReadyH.cons (o := { dst := none, op := Op.store 31 (Operand.tmp 3) (Operand.tmp 30), type := 0, pos := "bytes.go:47", after := #[{ on := 25, ground := Ground.data }, { on := 24, ground := Ground.data }, { on := 23, ground := Ground.chain }, { on := 0, ground := Ground.phase }, { on := 1, ground := Ground.phase }, { on := 2, ground := Ground.phase }, { on := 3, ground := Ground.phase }, { on := 4, ground := Ground.phase }, { on := 5, ground := Ground.phase }, { on := 6, ground := Ground.phase }, { on := 7, ground := Ground.phase }, { on := 8, ground := Ground.phase }, { on := 9, ground := Ground.phase }, { on := 10, ground := Ground.phase }, { on := 11, ground := Ground.phase }, { on := 12, ground := Ground.phase }, { on := 13, ground := Ground.phase }, { on := 14, ground := Ground.phase }, { on := 15, ground := Ground.phase }, { on := 16, ground := Ground.phase }, { on := 17, ground := Ground.phase }, { on := 18, ground := Ground.phase }, { on := 19, ground := Ground.phase }, { on := 20, ground := Ground.phase }, { on := 21, ground := Ground.phase }, { on := 22, ground := Ground.phase }, { on := 23, ground := Ground.phase }, { on := 24, ground := Ground.phase }, { on := 25, ground := Ground.phase }], guard := none }) rfl (fun K hK => ?_) AllReadyH.nil
          clear hHeld
          rw [if_pos (by rfl)]
          refine wp_store_row _ _ _ rfl gt (tkA ⟨ns, sa, uid, (host : Nat), addr, born, til, key, List.replicate 32 0⟩) rfl rfl _ _ HX10.out.heap (szTk _ (by simp)) (tkA_same tk0_len (by simp)) (tkA_one _) ?_
          have hb : Keep (fun k => k = gt) W10 (W10.setRow gt (tkA ⟨ns, sa, uid, (host : Nat), addr, born, til, key, List.replicate 32 0⟩)) := keep_row W10 gt _
          have HX11 : Hid (TBox (W10.setRow gt (tkA ⟨ns, sa, uid, (host : Nat), addr, born, til, key, List.replicate 32 0⟩)) gt ⟨ns, sa, uid, (host : Nat), addr, born, til, key, List.replicate 32 0⟩) := hide HX10.out.row
          have HNG := hide (fun e => HNF.out gt (by have := HG.out; omega) e : ¬ F gt)
          have HK11 : Hid (Keep F W (W10.setRow gt (tkA ⟨ns, sa, uid, (host : Nat), addr, born, til, key, List.replicate 32 0⟩))) := hide (HK10.out.trans hb (fun k e => .inr (by have := HG.out; omega)))
          have HR11 := hide (HR10.out.keep hb (fun k hF e => HNG.out (e ▸ hF)))
          have HP11 := hide (HP10.out.keep hb (by have := HG.out; omega))
          have HZ11 := hide (HZ10.out.keep hb (by have := HG.out; omega))
          clear hb HNG HK10 HR10 HP10 HZ10 HX10
          refine hK.out _ _ (HP11.out) (fun hHeld => ?_)
          clear hK K
          try simp only [Act.put]
          refine wpAnyH_done (by kernel_rfl) ?_ _
          clear hHeld
          go_wp2_with fail
          go_meet
          case rel => exact ⟨gt, rfl, HG.out, HX11.out, HP11.out, HZ11.out, HK11.out, HR11.out⟩
      · clear hHeld
        rw [if_pos (by rfl)]
        refine wp_alloc_tk rfl ?_
        have hb := (Below.refl W2.heap.size W2).alloc (Nat.le_refl _) (.cells (tkA tk0) 31)
        have HX3 := hide (TBox.new W2 tk0)
        have HG : Hid (W.heap.size + 2 ≤ W2.heap.size) := hide HZ2.out.lt
        have HK3 := hide (HK2.out.trans (Keep.of_below hb : Keep F _ _) (fun _ h => .inl h))
        have HR3 := hide (HR2.out.next hb)
        have HP3 := hide (HP2.out.next hb)
        have HZ3 := hide (HZ2.out.next hb)
        clear hb HK2 HR2 HP2 HZ2
        obtain ⟨gt, hgt⟩ : ∃ gt, gt = W2.heap.size := ⟨_, rfl⟩
        rw [← hgt] at HX3 HG ⊢
        clear hgt
        obtain ⟨W3, hWn⟩ : ∃ x, x = W2.alloc (.cells (tkA tk0) 31) := ⟨_, rfl⟩
        rw [← hWn] at HX3 HK3 HR3 HP3 HZ3 ⊢
        clear hWn
        refine hK.out _ _ (HP3.out) (fun hHeld => ?_)
        clear hK K
        try simp only [Act.put, List.setIfInBounds_toArray, List.set_cons_zero, List.set_cons_succ]
        refine wpAnyH_ready (rs := [5]) (by kernel_rfl) (by simp) ?_
        refine AllReadyH.cons (o := { dst := some 11, op := Op.call { callee := Callee.value (Operand.func 61), args := #[Operand.tmp 10, Operand.const (Value.int IntKind.i64 20)], argTypes := #[64, 3] }, type := 9, pos := "bytes.go:48", after := #[{ on := 4, ground := Ground.data }, { on := 2, ground := Ground.chain }], guard := none }) rfl (fun K hK => ?_) AllReadyH.nil
        clear hHeld
        go_simp
        refine (HC2.out _ HR3.out (HTB.out _ HK3.out)).mono ?_
        rintro e W4 ⟨hk, hr, v, rfl, rfl⟩
        have HK4 := hide (HK3.out.trans hk (fun _ h => .inl h))
        have HR4 := hide hr
        have HP4 := hide (HP3.out.keep hk (HNF.out _ (Nat.le_refl _)))
        have HZ4 := hide (HZ3.out.keep hk (HNF.out _ (Nat.le_succ _)))
        have HX4 := hide (HX3.out.keep hk (HNF.out _ (by have := HG.out; omega)))
        clear hk hr HK3 HR3 HP3 HZ3 HX3
        clear HC2
        refine hK.out _ _ (HP4.out) (fun hHeld => ?_)
        clear hK K
        try simp only [Act.put, List.setIfInBounds_toArray, List.set_cons_zero, List.set_cons_succ]
        refine wpAnyH_take (i := 6) (oi := { dst := some 12, op := Op.build 27 #[(0, Operand.tmp 8), (1, Operand.tmp 11)], type := 27, pos := "bytes.go:47", after := #[{ on := 2, ground := Ground.data }, { on := 5, ground := Ground.data }], guard := none }) (v := ?_) rfl (by kernel_rfl) (by kernel_rfl) (by kernel_rfl) (fun _ _ _ h => h) (Or.inl ⟨by rfl, ?_⟩) hHeld ?_
        rotate_left
        · intro w hSw; (try dsimp only at hSw); go_simp; first | done | with_reducible rfl
        try simp only [Act.put, List.setIfInBounds_toArray, List.set_cons_zero, List.set_cons_succ]
        refine wpAnyH_ready (rs := [9]) (by kernel_rfl) (by simp) ?_
        refine AllReadyH.cons (o := { dst := some 15, op := Op.call { callee := Callee.value (Operand.func 62), args := #[Operand.tmp 14], argTypes := #[64] }, type := 23, pos := "bytes.go:49", after := #[{ on := 8, ground := Ground.data }, { on := 5, ground := Ground.chain }], guard := none }) rfl (fun K hK => ?_) AllReadyH.nil
        clear hHeld
        go_simp
        refine (HC3.out _ HR4.out (HTB.out _ HK4.out)).mono ?_
        rintro e W5 ⟨hk, hr, v, rfl, rfl⟩
        have HK5 := hide (HK4.out.trans hk (fun _ h => .inl h))
        have HR5 := hide hr
        have HP5 := hide (HP4.out.keep hk (HNF.out _ (Nat.le_refl _)))
        have HZ5 := hide (HZ4.out.keep hk (HNF.out _ (Nat.le_succ _)))
        have HX5 := hide (HX4.out.keep hk (HNF.out _ (by have := HG.out; omega)))
        clear hk hr HK4 HR4 HP4 HZ4 HX4
        clear HC3
        refine hK.out _ _ (HP5.out) (fun hHeld => ?_)
        clear hK K
        try simp only [Act.put, List.setIfInBounds_toArray, List.set_cons_zero, List.set_cons_succ]
        refine wpAnyH_ready (rs := [11]) (by kernel_rfl) (by simp) ?_
        refine AllReadyH.cons (o := { dst := some 17, op := Op.call { callee := Callee.value (Operand.func 63), args := #[Operand.tmp 16], argTypes := #[67] }, type := 3, pos := "bytes.go:50", after := #[{ on := 10, ground := Ground.data }, { on := 9, ground := Ground.chain }], guard := none }) rfl (fun K hK => ?_) AllReadyH.nil
        clear hHeld
        go_simp
        refine (HC4.out _ HR5.out (HTB.out _ HK5.out)).mono ?_
        rintro e W6 ⟨hk, hr, v, rfl, rfl⟩
        have HK6 := hide (HK5.out.trans hk (fun _ h => .inl h))
        have HR6 := hide hr
        have HP6 := hide (HP5.out.keep hk (HNF.out _ (Nat.le_refl _)))
        have HZ6 := hide (HZ5.out.keep hk (HNF.out _ (Nat.le_succ _)))
        have HX6 := hide (HX5.out.keep hk (HNF.out _ (by have := HG.out; omega)))
        clear hk hr HK5 HR5 HP5 HZ5 HX5
        clear HC4
        refine hK.out _ _ (HP6.out) (fun hHeld => ?_)
        clear hK K
        try simp only [Act.put, List.setIfInBounds_toArray, List.set_cons_zero, List.set_cons_succ]
        refine wpAnyH_ready (rs := [14]) (by kernel_rfl) (by simp) ?_
        refine AllReadyH.cons (o := { dst := some 20, op := Op.call { callee := Callee.value (Operand.func 64), args := #[Operand.tmp 19], argTypes := #[64] }, type := 28, pos := "bytes.go:51", after := #[{ on := 13, ground := Ground.data }, { on := 11, ground := Ground.chain }], guard := none }) rfl (fun K hK => ?_) AllReadyH.nil
        clear hHeld
        go_simp
        refine (HC5.out _ HR6.out (HTB.out _ HK6.out)).mono ?_
        rintro e W7 ⟨hk, hr, v, rfl, rfl⟩
        have HK7 := hide (HK6.out.trans hk (fun _ h => .inl h))
        have HR7 := hide hr
        have HP7 := hide (HP6.out.keep hk (HNF.out _ (Nat.le_refl _)))
        have HZ7 := hide (HZ6.out.keep hk (HNF.out _ (Nat.le_succ _)))
        have HX7 := hide (HX6.out.keep hk (HNF.out _ (by have := HG.out; omega)))
        clear hk hr HK6 HR6 HP6 HZ6 HX6
        clear HC5
        refine hK.out _ _ (HP7.out) (fun hHeld => ?_)
        clear hK K
        try simp only [Act.put, List.setIfInBounds_toArray, List.set_cons_zero, List.set_cons_succ]
        refine wpAnyH_ready (rs := [17]) (by kernel_rfl) (by simp) ?_
        refine AllReadyH.cons (o := { dst := some 23, op := Op.call { callee := Callee.value (Operand.func 62), args := #[Operand.tmp 22], argTypes := #[64] }, type := 23, pos := "bytes.go:52", after := #[{ on := 16, ground := Ground.data }, { on := 14, ground := Ground.chain }], guard := none }) rfl (fun K hK => ?_) AllReadyH.nil
        clear hHeld
        go_simp
        refine (HC6.out _ HR7.out (HTB.out _ HK7.out)).mono ?_
        rintro e W8 ⟨hk, hr, v, rfl, rfl⟩
        have HK8 := hide (HK7.out.trans hk (fun _ h => .inl h))
        have HR8 := hide hr
        have HP8 := hide (HP7.out.keep hk (HNF.out _ (Nat.le_refl _)))
        have HZ8 := hide (HZ7.out.keep hk (HNF.out _ (Nat.le_succ _)))
        have HX8 := hide (HX7.out.keep hk (HNF.out _ (by have := HG.out; omega)))
        clear hk hr HK7 HR7 HP7 HZ7 HX7
        clear HC6
        refine hK.out _ _ (HP8.out) (fun hHeld => ?_)
        clear hK K
        try simp only [Act.put, List.setIfInBounds_toArray, List.set_cons_zero, List.set_cons_succ]
        refine wpAnyH_ready (rs := [20]) (by kernel_rfl) (by simp) ?_
        refine AllReadyH.cons (o := { dst := some 26, op := Op.call { callee := Callee.value (Operand.func 62), args := #[Operand.tmp 25], argTypes := #[64] }, type := 23, pos := "bytes.go:53", after := #[{ on := 19, ground := Ground.data }, { on := 17, ground := Ground.chain }], guard := none }) rfl (fun K hK => ?_) AllReadyH.nil
        clear hHeld
        go_simp
        refine (HC7.out _ HR8.out (HTB.out _ HK8.out)).mono ?_
        rintro e W9 ⟨hk, hr, v, rfl, rfl⟩
        have HK9 := hide (HK8.out.trans hk (fun _ h => .inl h))
        have HR9 := hide hr
        have HP9 := hide (HP8.out.keep hk (HNF.out _ (Nat.le_refl _)))
        have HZ9 := hide (HZ8.out.keep hk (HNF.out _ (Nat.le_succ _)))
        have HX9 := hide (HX8.out.keep hk (HNF.out _ (by have := HG.out; omega)))
        clear hk hr HK8 HR8 HP8 HZ8 HX8
        clear HC7
        refine hK.out _ _ (HP9.out) (fun hHeld => ?_)
        clear hK K
        try simp only [Act.put, List.setIfInBounds_toArray, List.set_cons_zero, List.set_cons_succ]
        refine wpAnyH_ready (rs := [23]) (by kernel_rfl) (by simp) ?_
        refine AllReadyH.cons (o := { dst := some 29, op := Op.call { callee := Callee.value (Operand.func 62), args := #[Operand.tmp 28], argTypes := #[64] }, type := 23, pos := "bytes.go:54", after := #[{ on := 22, ground := Ground.data }, { on := 20, ground := Ground.chain }], guard := none }) rfl (fun K hK => ?_) AllReadyH.nil
        clear hHeld
        go_simp
        refine (HC8.out _ HR9.out (HTB.out _ HK9.out)).mono ?_
        rintro e W10 ⟨hk, hr, v, rfl, rfl⟩
        have HK10 := hide (HK9.out.trans hk (fun _ h => .inl h))
        have HR10 := hide hr
        have HP10 := hide (HP9.out.keep hk (HNF.out _ (Nat.le_refl _)))
        have HZ10 := hide (HZ9.out.keep hk (HNF.out _ (Nat.le_succ _)))
        have HX10 := hide (HX9.out.keep hk (HNF.out _ (by have := HG.out; omega)))
        clear hk hr HK9 HR9 HP9 HZ9 HX9
        clear HC8
        refine hK.out _ _ (HP10.out) (fun hHeld => ?_)
        clear hK K
        try simp only [Act.put, List.setIfInBounds_toArray, List.set_cons_zero, List.set_cons_succ]
        refine wpAnyH_take (i := 24) (oi := { dst := some 30, op := Op.build 31 #[(0, Operand.tmp 12), (1, Operand.tmp 15), (2, Operand.tmp 17), (3, Operand.tmp 20), (4, Operand.tmp 23), (5, Operand.tmp 26), (6, Operand.tmp 29)], type := 31, pos := "bytes.go:47", after := #[{ on := 6, ground := Ground.data }, { on := 9, ground := Ground.data }, { on := 11, ground := Ground.data }, { on := 14, ground := Ground.data }, { on := 17, ground := Ground.data }, { on := 20, ground := Ground.data }, { on := 23, ground := Ground.data }], guard := none }) (v := .agg (tkA ⟨ns, sa, uid, (host : Nat), addr, born, til, key, List.replicate 32 0⟩)) rfl (by kernel_rfl) (by kernel_rfl) (by kernel_rfl) (fun _ _ _ h => h) (yields_build_tk (by rfl) _ _ _ _ _ _ _ rfl ns sa uid host addr born til key rfl rfl rfl rfl rfl rfl rfl) hHeld ?_
        try simp only [Act.put, List.setIfInBounds_toArray, List.set_cons_zero, List.set_cons_succ]
        refine wpAnyH_ready (rs := [26]) (by kernel_rfl) (by simp) ?_
        refine AllReadyH.cons (o := { dst := none, op := Op.store 31 (Operand.tmp 3) (Operand.tmp 30), type := 0, pos := "bytes.go:47", after := #[{ on := 25, ground := Ground.data }, { on := 24, ground := Ground.data }, { on := 23, ground := Ground.chain }, { on := 0, ground := Ground.phase }, { on := 1, ground := Ground.phase }, { on := 2, ground := Ground.phase }, { on := 3, ground := Ground.phase }, { on := 4, ground := Ground.phase }, { on := 5, ground := Ground.phase }, { on := 6, ground := Ground.phase }, { on := 7, ground := Ground.phase }, { on := 8, ground := Ground.phase }, { on := 9, ground := Ground.phase }, { on := 10, ground := Ground.phase }, { on := 11, ground := Ground.phase }, { on := 12, ground := Ground.phase }, { on := 13, ground := Ground.phase }, { on := 14, ground := Ground.phase }, { on := 15, ground := Ground.phase }, { on := 16, ground := Ground.phase }, { on := 17, ground := Ground.phase }, { on := 18, ground := Ground.phase }, { on := 19, ground := Ground.phase }, { on := 20, ground := Ground.phase }, { on := 21, ground := Ground.phase }, { on := 22, ground := Ground.phase }, { on := 23, ground := Ground.phase }, { on := 24, ground := Ground.phase }, { on := 25, ground := Ground.phase }], guard := none }) rfl (fun K hK => ?_) AllReadyH.nil
        clear hHeld
        rw [if_pos (by rfl)]
        refine wp_store_row _ _ _ rfl gt (tkA ⟨ns, sa, uid, (host : Nat), addr, born, til, key, List.replicate 32 0⟩) rfl rfl _ _ HX10.out.heap (szTk _ (by simp)) (tkA_same tk0_len (by simp)) (tkA_one _) ?_
        have hb : Keep (fun k => k = gt) W10 (W10.setRow gt (tkA ⟨ns, sa, uid, (host : Nat), addr, born, til, key, List.replicate 32 0⟩)) := keep_row W10 gt _
        have HX11 : Hid (TBox (W10.setRow gt (tkA ⟨ns, sa, uid, (host : Nat), addr, born, til, key, List.replicate 32 0⟩)) gt ⟨ns, sa, uid, (host : Nat), addr, born, til, key, List.replicate 32 0⟩) := hide HX10.out.row
        have HNG := hide (fun e => HNF.out gt (by have := HG.out; omega) e : ¬ F gt)
        have HK11 : Hid (Keep F W (W10.setRow gt (tkA ⟨ns, sa, uid, (host : Nat), addr, born, til, key, List.replicate 32 0⟩))) := hide (HK10.out.trans hb (fun k e => .inr (by have := HG.out; omega)))
        have HR11 := hide (HR10.out.keep hb (fun k hF e => HNG.out (e ▸ hF)))
        have HP11 := hide (HP10.out.keep hb (by have := HG.out; omega))
        have HZ11 := hide (HZ10.out.keep hb (by have := HG.out; omega))
        clear hb HNG HK10 HR10 HP10 HZ10 HX10
        refine hK.out _ _ (HP11.out) (fun hHeld => ?_)
        clear hK K
        try simp only [Act.put]
        refine wpAnyH_done (by kernel_rfl) ?_ _
        clear hHeld
        go_wp2_with fail
        go_meet
        case rel => exact ⟨gt, rfl, HG.out, HX11.out, HP11.out, HZ11.out, HK11.out, HR11.out⟩
    · clear hHeld
      rw [if_pos (by rfl)]
      refine wp_alloc_tk rfl ?_
      have hb := (Below.refl W1.heap.size W1).alloc (Nat.le_refl _) (.cells (tkA tk0) 31)
      have HX2 := hide (TBox.new W1 tk0)
      have HG : Hid (W.heap.size + 2 ≤ W1.heap.size) := hide HZ1.out.lt
      have HK2 := hide (HK1.out.trans (Keep.of_below hb : Keep F _ _) (fun _ h => .inl h))
      have HR2 := hide (HR1.out.next hb)
      have HP2 := hide (HP1.out.next hb)
      have HZ2 := hide (HZ1.out.next hb)
      clear hb HK1 HR1 HP1 HZ1
      obtain ⟨gt, hgt⟩ : ∃ gt, gt = W1.heap.size := ⟨_, rfl⟩
      rw [← hgt] at HX2 HG ⊢
      clear hgt
      obtain ⟨W2, hWn⟩ : ∃ x, x = W1.alloc (.cells (tkA tk0) 31) := ⟨_, rfl⟩
      rw [← hWn] at HX2 HK2 HR2 HP2 HZ2 ⊢
      clear hWn
      refine hK.out _ _ (HP2.out) (fun hHeld => ?_)
      clear hK K
      try simp only [Act.put, List.setIfInBounds_toArray, List.set_cons_zero, List.set_cons_succ]
      refine wpAnyH_ready (rs := [2]) (by kernel_rfl) (by simp) ?_
      refine AllReadyH.cons (o := { dst := some 8, op := Op.call { callee := Callee.value (Operand.func 61), args := #[Operand.tmp 7, Operand.const (Value.int IntKind.i64 20)], argTypes := #[64, 3] }, type := 9, pos := "bytes.go:48", after := #[{ on := 1, ground := Ground.data }], guard := none }) rfl (fun K hK => ?_) AllReadyH.nil
      clear hHeld
      go_simp
      refine (HC1.out _ HR2.out (HTB.out _ HK2.out)).mono ?_
      rintro e W3 ⟨hk, hr, v, rfl, rfl⟩
      have HK3 := hide (HK2.out.trans hk (fun _ h => .inl h))
      have HR3 := hide hr
      have HP3 := hide (HP2.out.keep hk (HNF.out _ (Nat.le_refl _)))
      have HZ3 := hide (HZ2.out.keep hk (HNF.out _ (Nat.le_succ _)))
      have HX3 := hide (HX2.out.keep hk (HNF.out _ (by have := HG.out; omega)))
      clear hk hr HK2 HR2 HP2 HZ2 HX2
      clear HC1
      refine hK.out _ _ (HP3.out) (fun hHeld => ?_)
      clear hK K
      try simp only [Act.put, List.setIfInBounds_toArray, List.set_cons_zero, List.set_cons_succ]
      refine wpAnyH_ready (rs := [5]) (by kernel_rfl) (by simp) ?_
      refine AllReadyH.cons (o := { dst := some 11, op := Op.call { callee := Callee.value (Operand.func 61), args := #[Operand.tmp 10, Operand.const (Value.int IntKind.i64 20)], argTypes := #[64, 3] }, type := 9, pos := "bytes.go:48", after := #[{ on := 4, ground := Ground.data }, { on := 2, ground := Ground.chain }], guard := none }) rfl (fun K hK => ?_) AllReadyH.nil
      clear hHeld
      go_simp
      refine (HC2.out _ HR3.out (HTB.out _ HK3.out)).mono ?_
      rintro e W4 ⟨hk, hr, v, rfl, rfl⟩
      have HK4 := hide (HK3.out.trans hk (fun _ h => .inl h))
      have HR4 := hide hr
      have HP4 := hide (HP3.out.keep hk (HNF.out _ (Nat.le_refl _)))
      have HZ4 := hide (HZ3.out.keep hk (HNF.out _ (Nat.le_succ _)))
      have HX4 := hide (HX3.out.keep hk (HNF.out _ (by have := HG.out; omega)))
      clear hk hr HK3 HR3 HP3 HZ3 HX3
      clear HC2
      refine hK.out _ _ (HP4.out) (fun hHeld => ?_)
      clear hK K
      try simp only [Act.put, List.setIfInBounds_toArray, List.set_cons_zero, List.set_cons_succ]
      refine wpAnyH_take (i := 6) (oi := { dst := some 12, op := Op.build 27 #[(0, Operand.tmp 8), (1, Operand.tmp 11)], type := 27, pos := "bytes.go:47", after := #[{ on := 2, ground := Ground.data }, { on := 5, ground := Ground.data }], guard := none }) (v := ?_) rfl (by kernel_rfl) (by kernel_rfl) (by kernel_rfl) (fun _ _ _ h => h) (Or.inl ⟨by rfl, ?_⟩) hHeld ?_
      rotate_left
      · intro w hSw; (try dsimp only at hSw); go_simp; first | done | with_reducible rfl
      try simp only [Act.put, List.setIfInBounds_toArray, List.set_cons_zero, List.set_cons_succ]
      refine wpAnyH_ready (rs := [9]) (by kernel_rfl) (by simp) ?_
      refine AllReadyH.cons (o := { dst := some 15, op := Op.call { callee := Callee.value (Operand.func 62), args := #[Operand.tmp 14], argTypes := #[64] }, type := 23, pos := "bytes.go:49", after := #[{ on := 8, ground := Ground.data }, { on := 5, ground := Ground.chain }], guard := none }) rfl (fun K hK => ?_) AllReadyH.nil
      clear hHeld
      go_simp
      refine (HC3.out _ HR4.out (HTB.out _ HK4.out)).mono ?_
      rintro e W5 ⟨hk, hr, v, rfl, rfl⟩
      have HK5 := hide (HK4.out.trans hk (fun _ h => .inl h))
      have HR5 := hide hr
      have HP5 := hide (HP4.out.keep hk (HNF.out _ (Nat.le_refl _)))
      have HZ5 := hide (HZ4.out.keep hk (HNF.out _ (Nat.le_succ _)))
      have HX5 := hide (HX4.out.keep hk (HNF.out _ (by have := HG.out; omega)))
      clear hk hr HK4 HR4 HP4 HZ4 HX4
      clear HC3
      refine hK.out _ _ (HP5.out) (fun hHeld => ?_)
      clear hK K
      try simp only [Act.put, List.setIfInBounds_toArray, List.set_cons_zero, List.set_cons_succ]
      refine wpAnyH_ready (rs := [11]) (by kernel_rfl) (by simp) ?_
      refine AllReadyH.cons (o := { dst := some 17, op := Op.call { callee := Callee.value (Operand.func 63), args := #[Operand.tmp 16], argTypes := #[67] }, type := 3, pos := "bytes.go:50", after := #[{ on := 10, ground := Ground.data }, { on := 9, ground := Ground.chain }], guard := none }) rfl (fun K hK => ?_) AllReadyH.nil
      clear hHeld
      go_simp
      refine (HC4.out _ HR5.out (HTB.out _ HK5.out)).mono ?_
      rintro e W6 ⟨hk, hr, v, rfl, rfl⟩
      have HK6 := hide (HK5.out.trans hk (fun _ h => .inl h))
      have HR6 := hide hr
      have HP6 := hide (HP5.out.keep hk (HNF.out _ (Nat.le_refl _)))
      have HZ6 := hide (HZ5.out.keep hk (HNF.out _ (Nat.le_succ _)))
      have HX6 := hide (HX5.out.keep hk (HNF.out _ (by have := HG.out; omega)))
      clear hk hr HK5 HR5 HP5 HZ5 HX5
      clear HC4
      refine hK.out _ _ (HP6.out) (fun hHeld => ?_)
      clear hK K
      try simp only [Act.put, List.setIfInBounds_toArray, List.set_cons_zero, List.set_cons_succ]
      refine wpAnyH_ready (rs := [14]) (by kernel_rfl) (by simp) ?_
      refine AllReadyH.cons (o := { dst := some 20, op := Op.call { callee := Callee.value (Operand.func 64), args := #[Operand.tmp 19], argTypes := #[64] }, type := 28, pos := "bytes.go:51", after := #[{ on := 13, ground := Ground.data }, { on := 11, ground := Ground.chain }], guard := none }) rfl (fun K hK => ?_) AllReadyH.nil
      clear hHeld
      go_simp
      refine (HC5.out _ HR6.out (HTB.out _ HK6.out)).mono ?_
      rintro e W7 ⟨hk, hr, v, rfl, rfl⟩
      have HK7 := hide (HK6.out.trans hk (fun _ h => .inl h))
      have HR7 := hide hr
      have HP7 := hide (HP6.out.keep hk (HNF.out _ (Nat.le_refl _)))
      have HZ7 := hide (HZ6.out.keep hk (HNF.out _ (Nat.le_succ _)))
      have HX7 := hide (HX6.out.keep hk (HNF.out _ (by have := HG.out; omega)))
      clear hk hr HK6 HR6 HP6 HZ6 HX6
      clear HC5
      refine hK.out _ _ (HP7.out) (fun hHeld => ?_)
      clear hK K
      try simp only [Act.put, List.setIfInBounds_toArray, List.set_cons_zero, List.set_cons_succ]
      refine wpAnyH_ready (rs := [17]) (by kernel_rfl) (by simp) ?_
      refine AllReadyH.cons (o := { dst := some 23, op := Op.call { callee := Callee.value (Operand.func 62), args := #[Operand.tmp 22], argTypes := #[64] }, type := 23, pos := "bytes.go:52", after := #[{ on := 16, ground := Ground.data }, { on := 14, ground := Ground.chain }], guard := none }) rfl (fun K hK => ?_) AllReadyH.nil
      clear hHeld
      go_simp
      refine (HC6.out _ HR7.out (HTB.out _ HK7.out)).mono ?_
      rintro e W8 ⟨hk, hr, v, rfl, rfl⟩
      have HK8 := hide (HK7.out.trans hk (fun _ h => .inl h))
      have HR8 := hide hr
      have HP8 := hide (HP7.out.keep hk (HNF.out _ (Nat.le_refl _)))
      have HZ8 := hide (HZ7.out.keep hk (HNF.out _ (Nat.le_succ _)))
      have HX8 := hide (HX7.out.keep hk (HNF.out _ (by have := HG.out; omega)))
      clear hk hr HK7 HR7 HP7 HZ7 HX7
      clear HC6
      refine hK.out _ _ (HP8.out) (fun hHeld => ?_)
      clear hK K
      try simp only [Act.put, List.setIfInBounds_toArray, List.set_cons_zero, List.set_cons_succ]
      refine wpAnyH_ready (rs := [20]) (by kernel_rfl) (by simp) ?_
      refine AllReadyH.cons (o := { dst := some 26, op := Op.call { callee := Callee.value (Operand.func 62), args := #[Operand.tmp 25], argTypes := #[64] }, type := 23, pos := "bytes.go:53", after := #[{ on := 19, ground := Ground.data }, { on := 17, ground := Ground.chain }], guard := none }) rfl (fun K hK => ?_) AllReadyH.nil
      clear hHeld
      go_simp
      refine (HC7.out _ HR8.out (HTB.out _ HK8.out)).mono ?_
      rintro e W9 ⟨hk, hr, v, rfl, rfl⟩
      have HK9 := hide (HK8.out.trans hk (fun _ h => .inl h))
      have HR9 := hide hr
      have HP9 := hide (HP8.out.keep hk (HNF.out _ (Nat.le_refl _)))
      have HZ9 := hide (HZ8.out.keep hk (HNF.out _ (Nat.le_succ _)))
      have HX9 := hide (HX8.out.keep hk (HNF.out _ (by have := HG.out; omega)))
      clear hk hr HK8 HR8 HP8 HZ8 HX8
      clear HC7
      refine hK.out _ _ (HP9.out) (fun hHeld => ?_)
      clear hK K
      try simp only [Act.put, List.setIfInBounds_toArray, List.set_cons_zero, List.set_cons_succ]
      refine wpAnyH_ready (rs := [23]) (by kernel_rfl) (by simp) ?_
      refine AllReadyH.cons (o := { dst := some 29, op := Op.call { callee := Callee.value (Operand.func 62), args := #[Operand.tmp 28], argTypes := #[64] }, type := 23, pos := "bytes.go:54", after := #[{ on := 22, ground := Ground.data }, { on := 20, ground := Ground.chain }], guard := none }) rfl (fun K hK => ?_) AllReadyH.nil
      clear hHeld
      go_simp
      refine (HC8.out _ HR9.out (HTB.out _ HK9.out)).mono ?_
      rintro e W10 ⟨hk, hr, v, rfl, rfl⟩
      have HK10 := hide (HK9.out.trans hk (fun _ h => .inl h))
      have HR10 := hide hr
      have HP10 := hide (HP9.out.keep hk (HNF.out _ (Nat.le_refl _)))
      have HZ10 := hide (HZ9.out.keep hk (HNF.out _ (Nat.le_succ _)))
      have HX10 := hide (HX9.out.keep hk (HNF.out _ (by have := HG.out; omega)))
      clear hk hr HK9 HR9 HP9 HZ9 HX9
      clear HC8
      refine hK.out _ _ (HP10.out) (fun hHeld => ?_)
      clear hK K
      try simp only [Act.put, List.setIfInBounds_toArray, List.set_cons_zero, List.set_cons_succ]
      refine wpAnyH_take (i := 24) (oi := { dst := some 30, op := Op.build 31 #[(0, Operand.tmp 12), (1, Operand.tmp 15), (2, Operand.tmp 17), (3, Operand.tmp 20), (4, Operand.tmp 23), (5, Operand.tmp 26), (6, Operand.tmp 29)], type := 31, pos := "bytes.go:47", after := #[{ on := 6, ground := Ground.data }, { on := 9, ground := Ground.data }, { on := 11, ground := Ground.data }, { on := 14, ground := Ground.data }, { on := 17, ground := Ground.data }, { on := 20, ground := Ground.data }, { on := 23, ground := Ground.data }], guard := none }) (v := .agg (tkA ⟨ns, sa, uid, (host : Nat), addr, born, til, key, List.replicate 32 0⟩)) rfl (by kernel_rfl) (by kernel_rfl) (by kernel_rfl) (fun _ _ _ h => h) (yields_build_tk (by rfl) _ _ _ _ _ _ _ rfl ns sa uid host addr born til key rfl rfl rfl rfl rfl rfl rfl) hHeld ?_
      try simp only [Act.put, List.setIfInBounds_toArray, List.set_cons_zero, List.set_cons_succ]
      refine wpAnyH_ready (rs := [26]) (by kernel_rfl) (by simp) ?_
      refine AllReadyH.cons (o := { dst := none, op := Op.store 31 (Operand.tmp 3) (Operand.tmp 30), type := 0, pos := "bytes.go:47", after := #[{ on := 25, ground := Ground.data }, { on := 24, ground := Ground.data }, { on := 23, ground := Ground.chain }, { on := 0, ground := Ground.phase }, { on := 1, ground := Ground.phase }, { on := 2, ground := Ground.phase }, { on := 3, ground := Ground.phase }, { on := 4, ground := Ground.phase }, { on := 5, ground := Ground.phase }, { on := 6, ground := Ground.phase }, { on := 7, ground := Ground.phase }, { on := 8, ground := Ground.phase }, { on := 9, ground := Ground.phase }, { on := 10, ground := Ground.phase }, { on := 11, ground := Ground.phase }, { on := 12, ground := Ground.phase }, { on := 13, ground := Ground.phase }, { on := 14, ground := Ground.phase }, { on := 15, ground := Ground.phase }, { on := 16, ground := Ground.phase }, { on := 17, ground := Ground.phase }, { on := 18, ground := Ground.phase }, { on := 19, ground := Ground.phase }, { on := 20, ground := Ground.phase }, { on := 21, ground := Ground.phase }, { on := 22, ground := Ground.phase }, { on := 23, ground := Ground.phase }, { on := 24, ground := Ground.phase }, { on := 25, ground := Ground.phase }], guard := none }) rfl (fun K hK => ?_) AllReadyH.nil
      clear hHeld
      rw [if_pos (by rfl)]
      refine wp_store_row _ _ _ rfl gt (tkA ⟨ns, sa, uid, (host : Nat), addr, born, til, key, List.replicate 32 0⟩) rfl rfl _ _ HX10.out.heap (szTk _ (by simp)) (tkA_same tk0_len (by simp)) (tkA_one _) ?_
      have hb : Keep (fun k => k = gt) W10 (W10.setRow gt (tkA ⟨ns, sa, uid, (host : Nat), addr, born, til, key, List.replicate 32 0⟩)) := keep_row W10 gt _
      have HX11 : Hid (TBox (W10.setRow gt (tkA ⟨ns, sa, uid, (host : Nat), addr, born, til, key, List.replicate 32 0⟩)) gt ⟨ns, sa, uid, (host : Nat), addr, born, til, key, List.replicate 32 0⟩) := hide HX10.out.row
      have HNG := hide (fun e => HNF.out gt (by have := HG.out; omega) e : ¬ F gt)
      have HK11 : Hid (Keep F W (W10.setRow gt (tkA ⟨ns, sa, uid, (host : Nat), addr, born, til, key, List.replicate 32 0⟩))) := hide (HK10.out.trans hb (fun k e => .inr (by have := HG.out; omega)))
      have HR11 := hide (HR10.out.keep hb (fun k hF e => HNG.out (e ▸ hF)))
      have HP11 := hide (HP10.out.keep hb (by have := HG.out; omega))
      have HZ11 := hide (HZ10.out.keep hb (by have := HG.out; omega))
      clear hb HNG HK10 HR10 HP10 HZ10 HX10
      refine hK.out _ _ (HP11.out) (fun hHeld => ?_)
      clear hK K
      try simp only [Act.put]
      refine wpAnyH_done (by kernel_rfl) ?_ _
      clear hHeld
      go_wp2_with fail
      go_meet
      case rel => exact ⟨gt, rfl, HG.out, HX11.out, HP11.out, HZ11.out, HK11.out, HR11.out⟩
  case rest =>
    obtain ⟨gt, rfl, hg, hx, hp, hz, hk, hr⟩ := hcut
    have HG := hide hg
    have HX := hide hx
    have HP := hide (hp.next (Below.refl _ _).drew)
    have HZ := hide hz
    have HK := hide (hk.drewR)
    have HR := hide (hr.next (Below.refl _ _).drew)
    have HXd := hide hx.drew
    have HZd := hide hz.drew
    clear hg hx hp hz hk hr HX HZ
    go_upto_region 3 with fail
    refine wp_region_held_drew (S := fun w' => PBox w' W.heap.size g) (by kernel_rfl) HP.out (fun hHeld => ?_)
    refine wpAnyH_take (i := 0) (oi := { dst := some 31, op := Op.fieldAddr 31 (Operand.tmp 3) 7, type := 0, pos := "bytes.go:56", after := #[], guard := none }) (v := ?_) rfl (by kernel_rfl) (by kernel_rfl) (by kernel_rfl) (fun _ _ _ h => h) (Or.inl ⟨by rfl, ?_⟩) hHeld ?_
    rotate_left
    · intro w hSw; (try dsimp only at hSw); go_simp; first | done | with_reducible rfl
    try simp only [Act.put, List.setIfInBounds_toArray, List.set_cons_zero, List.set_cons_succ]
    refine wpAnyH_take (i := 1) (oi := { dst := some 32, op := Op.slice 29 (Operand.tmp 31) none none none, type := 22, pos := "bytes.go:56", after := #[{ on := 0, ground := Ground.data }], guard := none }) (v := ?_) rfl (by kernel_rfl) (by kernel_rfl) (by kernel_rfl) (fun _ _ _ h => h) (Or.inl ⟨by rfl, ?_⟩) hHeld ?_
    rotate_left
    · intro w hSw; (try dsimp only at hSw); go_simp; first | done | with_reducible rfl
    try simp only [Act.put, List.setIfInBounds_toArray, List.set_cons_zero, List.set_cons_succ]
    refine wpAnyH_take (i := 2) (oi := { dst := some 33, op := Op.fieldAddr 67 (Operand.tmp 1) 0, type := 0, pos := "bytes.go:56", after := #[], guard := none }) (v := ?_) rfl (by kernel_rfl) (by kernel_rfl) (by kernel_rfl) (fun _ _ _ h => h) (Or.inl ⟨by rfl, ?_⟩) hHeld ?_
    rotate_left
    · intro w hSw; (try dsimp only at hSw); go_simp; first | done | with_reducible rfl
    try simp only [Act.put, List.setIfInBounds_toArray, List.set_cons_zero, List.set_cons_succ]
    refine wpAnyH_take (i := 3) (oi := { dst := some 34, op := Op.load 64 (Operand.tmp 33), type := 64, pos := "bytes.go:56", after := #[{ on := 2, ground := Ground.data }], guard := none }) (v := ?_) rfl (by kernel_rfl) (by kernel_rfl) (by kernel_rfl) (fun _ _ _ h => h) (Or.inl ⟨by rfl, ?_⟩) hHeld ?_
    rotate_left
    · intro w hSw; (try dsimp only at hSw); have e0 := hSw.c0; go_simp; first | done | with_reducible rfl
    try simp only [Act.put, List.setIfInBounds_toArray, List.set_cons_zero, List.set_cons_succ]
    refine wpAnyH_ready (rs := [4]) (by kernel_rfl) (by simp) ?_
    refine AllReadyH.cons (o := { dst := some 35, op := Op.call { callee := Callee.value (Operand.func 65), args := #[Operand.tmp 34, Operand.const (Value.int IntKind.i64 32)], argTypes := #[64, 3] }, type := 22, pos := "bytes.go:56", after := #[{ on := 3, ground := Ground.data }], guard := none }) rfl (fun K hK => ?_) AllReadyH.nil
    clear hHeld
    go_simp
    refine (HC9.out _ HR.out).mono ?_
    rintro e V1 ⟨hk, hr, v, rfl, hv⟩
    have HK1 := hide (HK.out.trans hk (fun _ h => .inl h))
    have HR1 := hide hr
    have HP1 := hide (HP.out.keep hk (HNF.out _ (Nat.le_refl _)))
    have HZ1 := hide (HZd.out.keep hk (HNF.out _ (Nat.le_succ _)))
    have HX1 := hide (HXd.out.keep hk (HNF.out _ (by have := HG.out; omega)))
    obtain ⟨va, vc, rfl⟩ := hv.len
    have HV := hide hv
    clear hk hr hv HK HR HP HZd HXd HC9
    refine hK.out _ _ (HP1.out) (fun hHeld => ?_)
    clear hK K
    try simp only [Act.put, List.setIfInBounds_toArray, List.set_cons_zero, List.set_cons_succ]
    refine wpAnyH_ready (rs := [5]) (by kernel_rfl) (by simp) ?_
    refine AllReadyH.cons (o := { dst := some 36, op := Op.call { callee := Callee.builtin Builtin.copy, args := #[Operand.tmp 32, Operand.tmp 35], argTypes := #[22, 22] }, type := 3, pos := "bytes.go:56", after := #[{ on := 1, ground := Ground.data }, { on := 4, ground := Ground.data }, { on := 4, ground := Ground.chain }], guard := none }) rfl (fun K hK => ?_) AllReadyH.nil
    clear hHeld
    rw [if_pos (by rfl)]
    obtain ⟨u, V2, hrun, hx, hb⟩ := copy_mac V1 gt _ rfl HX1.out _ xs HV.out HXS.out
    refine wp_copy_run _ _ _ _ _ rfl rfl _ _ _ _ rfl rfl hrun ?_
    have HX2 := hide hx
    have HNG := hide (fun e => HNF.out gt (by have := HG.out; omega) e : ¬ F gt)
    have HK2 : Hid (Keep F W V2) := hide (HK1.out.trans hb (fun k e => .inr (by have := HG.out; omega)))
    have HR2 := hide (HR1.out.keep hb (fun k hF e => HNG.out (e ▸ hF)))
    have HP2 := hide (HP1.out.keep hb (by have := HG.out; omega))
    have HZ2 := hide (HZ1.out.keep hb (by have := HG.out; omega))
    dsimp only at HX2
    clear hx hb hrun HNG HK1 HR1 HP1 HZ1 HX1 HV
    refine hK.out _ _ (HP2.out) (fun hHeld => ?_)
    clear hK K
    try simp only [Act.put, List.setIfInBounds_toArray, List.set_cons_zero, List.set_cons_succ]
    refine wpAnyH_done (by kernel_rfl) ?_ _
    clear hHeld
    have HXT : Hid (TBox V2 gt T) := hide (by rw [HTD.out]; exact HX2.out)
    clear HX2
    go_wp2_with (first | (refine wpList_load_tk rfl (.tmp 3) rfl gt rfl T HTM.out HXT.out ?_) | (refine wpList_store_tk rfl (.tmp 2) (.tmp 37) rfl (W.heap.size + 1) T rfl rfl tk0 tk0_len HTM.out HZ2.out ?_))
    refine bodyPost_ret (results_tk rfl _ _ (W.heap.size + 1) rfl T HTM.out HZ2.out.row) rfl ?_
    have hb := keep_row V2 (W.heap.size + 1) (tkA T)
    exact ⟨rfl, HK2.out.trans hb (fun k e => .inr (by omega)), HR2.out.keep hb (fun k hF e => HNF.out k (by omega) hF)⟩
end Go.Proofs.YtaomigfmjglggaaDoor
namespace Go.Proofs.YtaomigfmjglggaaDoor
open Go.RowKit

def FineS (s : Option (List Int)) : Prop := ∀ l, s = some l → Fine l
theorem fineS_some {l : List Int} (h : Fine l) : FineS (some l) := fun _ e => by injection e with e; exact e ▸ h
theorem fineS_none : FineS none := fun _ e => by cases e
theorem fineS_u8 {s : Option (List Int)} (h : FineS s) : FineS (u8N s) := fun l e => by
  cases s with
  | none => cases e
  | some b =>
    replace e : cut8 b = some l := e
    unfold cut8 at e
    split at e
    · cases e
    · injection e with e; exact e ▸ (h _ rfl).drop 1
theorem fineS_w4 {s : Option (List Int)} (h : FineS s) : FineS (w4N s) := fun l e => by
  cases s with
  | none => cases e
  | some b =>
    replace e : cut32 b = some l := e
    unfold cut32 at e
    split at e
    · cases e
    · injection e with e; exact e ▸ (h _ rfl).drop 4
theorem fineS_un {s : Option (List Int)} (h : FineS s) : FineS (unN s) := fun l e => by
  cases s with
  | none => cases e
  | some b =>
    replace e : (cutUS b).map (·.2) = some l := e
    cases hc : cutUS b with
    | none => rw [hc] at e; cases e
    | some y => rw [hc] at e; injection e with e; exact e ▸ fine_cutUS (h _ rfl) hc
theorem fineS_tx {s : Option (List Int)} (n : Int) (h : FineS s) : FineS (txN n s) := fun l e => by
  cases s with
  | none => cases e
  | some b =>
    replace e : (cutTS n b).map (·.2) = some l := e
    cases hc : cutTS n b with
    | none => rw [hc] at e; cases e
    | some y => rw [hc] at e; injection e with e; exact e ▸ fine_cutTS (h _ rfl) hc
theorem fineS_mark {s : Option (List Int)} (h : FineS s) : FineS (markN s) := by
  unfold markN
  split
  · exact fineS_u8 h
  · exact fineS_none
theorem fineS_host {s : Option (List Int)} (h : FineS s) : FineS (hostN s) := by
  unfold hostN
  split
  · exact fineS_none
  · exact fineS_un h
theorem unV_lt {s : Option (List Int)} (h : FineS s) : unV s < 18446744073709551616 := by
  cases s with
  | none => exact (by decide)
  | some b =>
    cases hc : cutUS b with
    | none => simp [unV, hc]
    | some y =>
      have := (cutUS_form b y.1 y.2 (h _ rfl).1 hc).1
      simpa [unV, hc] using this
theorem w4V_lt {s : Option (List Int)} (h : FineS s) : w4V s < 4294967296 := by
  unfold w4V
  split
  · decide
  · rename_i l hl
    cases s with
    | none => cases hl
    | some b =>
      replace hl : cut32 b = some l := hl
      unfold cut32 at hl
      split at hl
      · cases hl
      · exact (u32S_form b (h _ rfl).1 (by omega)).1
theorem hostV_le (s : Option (List Int)) : hostV s ≤ 9 := by
  unfold hostV
  split <;> omega
theorem txV_size {s : Option (List Int)} (n : Int) (h : FineS s) : (txV n s).size ≤ 140737488355328 := by
  cases s with
  | none => exact Nat.zero_le _
  | some b =>
    cases hc : cutTS n b with
    | none =>
      have : txV n (some b) = ⟨#[]⟩ := by simp only [txV, Option.bind_some, hc]; rfl
      rw [this]; decide
    | some y =>
      have e : txV n (some b) = strOfNums y.1 := by simp only [txV, Option.bind_some, hc]; rfl
      obtain ⟨h1, h2⟩ := cutTS_form n b y.1 y.2 (h _ rfl).1 hc
      have h3 : (strOfNums y.1).size = y.1.length := by
        rw [← length_bytesOf]
        simp [bytesOf, strOfNums]
      rw [e, h3]
      have := (h _ rfl).2
      omega
theorem macV_byte {xs : List Int} (h : ∀ x ∈ xs, 0 ≤ x ∧ x < 256) : ∀ x ∈ macV xs, 0 ≤ x ∧ x < 256 := by
  unfold macV
  split
  · exact h
  · intro x hx
    rw [List.eq_of_mem_replicate hx]
    omega
theorem rwV_byte {s : Option (List Int)} (n : Int) (h : FineS s) : ∀ x ∈ rwV n s, 0 ≤ x ∧ x < 256 := by
  unfold rwV
  split
  · cases s with
    | none => intro x hx; simp at hx
    | some b => intro x hx; exact (h _ rfl).1 x (List.mem_of_mem_take hx)
  · intro x hx; cases hx
theorem tokR_ok {s : Option (List Int)} (h : FineS s) : (tokR s).1.ok := by
  have f1 := fineS_mark h
  have f2 := fineS_tx 20 f1
  have f3 := fineS_tx 20 f2
  have f4 := fineS_un f3
  have f5 := fineS_host f4
  have f6 := fineS_w4 f5
  have f7 := fineS_un f6
  have f8 := fineS_un f7
  have f9 := fineS_un f8
  have hh := hostV_le (unN (txN 20 (txN 20 (markN s))))
  exact ⟨txV_size 20 f1, txV_size 20 f2, unV_lt f3, by show (-9223372036854775808 : Int) ≤ ((hostV _ : Nat) : Int); omega, by show ((hostV (unN (txN 20 (txN 20 (markN s)))) : Nat) : Int) < 9223372036854775808; omega, w4V_lt f5, unV_lt f6, unV_lt f7, unV_lt f8, length_macV _, macV_byte (rwV_byte 32 f9)⟩

/-- The token whose bytes these are. -/
def readS (bs : List Int) : Option Tk := if (tokR (some bs)).2 = some [] ∧ mayT (tokR (some bs)).1 = true then some (tokR (some bs)).1 else none
theorem sizePb : (Tryd.prog.info? 67).map (·.size) = some 1 := by kernel_rfl
theorem wpList_store_pb_new {ops : Array Oper} {rest : List Oper} {op : Oper} {a : Act} {w : World} {Q : Exit → Act → World → Prop} (hgd : op.guard = none) (x y : Operand) (ho : op.op = .store 67 x y) (b g : Nat) (hx : a.eval x = .pointer (some ⟨b, 0, none⟩)) (hy : a.eval y = .agg #[.pointer (some ⟨g, 0, none⟩)])
    (hz : w.heap[b]? = some (.cells #[.pointer none] 67 (0, 0))) (Post : World → Prop) (hp : Post (w.setRow b #[.pointer (some ⟨g, 0, none⟩)])) (h : ∀ w', Post w' → wpList Tryd.prog ops Q rest (a.put op.dst undef) w') : wpList Tryd.prog ops Q (op :: rest) a w :=
  wpList_store_row hgd _ x y ho b _ hx hy _ _ hz sizePb rfl (by simp [Value.oneCell']) (h _ hp)
theorem pbox_pair (w3 : World) (g : Nat) : PBox ((w3.alloc (.cells #[.pointer none] 67)).setRow w3.heap.size #[.pointer (some ⟨g, 0, none⟩)]) w3.heap.size g ∧ Below w3.heap.size w3 ((w3.alloc (.cells #[.pointer none] 67)).setRow w3.heap.size #[.pointer (some ⟨g, 0, none⟩)]) :=
  ⟨setRow_heap _ _ _ _ _ (0, 0) (heap_alloc_new w3 _), below_setRow ((Below.refl _ _).alloc (Nat.le_refl _) _) (Nat.le_refl _) _⟩
theorem wpList_store_tk_newK {ops : Array Oper} {rest : List Oper} {op : Oper} {a : Act} {w : World} {Q : Exit → Act → World → Prop} (hgd : op.guard = none) (x y : Operand) (ho : op.op = .store 31 x y) (g : Nat) (u : Tk) (hx : a.eval x = .pointer (some ⟨g, 0, none⟩)) (hy : a.eval y = .agg (tkA u)) (t : Tk) (hm : t.mac.length = 32) (hu : u.mac.length = 32) (ht : TBox w g t)
    (Post : World → Prop) (hp : Post (w.setRow g (tkA u))) (h : ∀ w', Post w' → wpList Tryd.prog ops Q rest (a.put op.dst undef) w') : wpList Tryd.prog ops Q (op :: rest) a w :=
  wpList_store_tk hgd x y ho g u hx hy t hm hu ht (h _ hp)

set_option maxRecDepth 100000 in
set_option maxHeartbeats 2000000 in
theorem read_any (sv : Value) (bs : List Int) (W : World) (hs : SlAt W sv bs) (hf : Fine bs) (ht : Tab W) :
    Calls Tryd.prog 26 #[sv] W (fun e w' => e = .returned (.tuple #[.agg (tkA ((readS bs).getD tk0)), .int .i64 (if (readS bs).isSome then 0 else 2)]) ∧ Below W.heap.size W w') := by
  obtain ⟨ao, cap, rfl⟩ := hs.len
  have HO := hide (tokR_ok (fineS_some hf))
  have HRD : Hid (readS bs = if (tokR (some bs)).2 = some [] ∧ mayT (tokR (some bs)).1 = true then some (tokR (some bs)).1 else none) := hide rfl
  have HB1 := hide ((Below.refl W.heap.size W).alloc (Nat.le_refl _) (.cells (tkA tk0) 31))
  have HZ1 := hide (TBox.new W tk0)
  have HNR := hide (newReader_u _ bs _ (hs.below HB1.out) hf)
  have HTA := hide (fun (W' : World) (B : Nat) (F : Nat → Prop) (g : Nat) (h : RdS W' B F g (some bs)) (ht : Tab W') (hB2 : 2 ≤ B) (hB : B ≤ W'.heap.size) => token_any W' B F g (some bs) h ht hB2 hB)
  have HT := hide ht
  have HTM := hide HO.out.mac
  obtain ⟨T, hT⟩ : ∃ T, (tokR (some bs)).1 = T := ⟨_, rfl⟩
  obtain ⟨s10, h10⟩ : ∃ s10, (tokR (some bs)).2 = s10 := ⟨_, rfl⟩
  rw [hT, h10] at HRD
  rw [hT, h10] at HTA
  rw [hT] at HO HTM
  have HM := hide (fun W' => tmay_any T HO.out W')
  clear hs hT h10 ht
  generalize bs.length = q at *
  obtain ⟨W1, hW1⟩ : ∃ W1, W1 = W.alloc (.cells (tkA tk0) 31) := ⟨_, rfl⟩
  have hs1 : W1.heap.size = W.heap.size + 1 := by rw [hW1]; simp
  rw [← hW1] at HB1 HZ1 HNR
  have HS1 := tuck hs1
  have HW1 := hide hW1
  clear hs1 hW1

  by_cases h0 : s10 = some []
  rotate_left
  · have HRS : Hid (readS bs = none) := hide (by rw [HRD.out, if_neg (fun h => h0 h.1)])
    have HEN : Hid (enV s10 = 2) := hide (by rw [enV, if_neg h0])
    clear h0
    rw [HRS.out]
    clear HRS HRD
    go_enter Tryd.func26, Tryd.ntmps26
    go_wp2_with (first | (with_reducible refine wpList_alloc_row rfl 31 rfl (tkA tk0) zeroTk ?_) | (go_at_call 40; rw [← HW1.out]; refine HNR.out.mono ?_; rintro e W2 ⟨g, rfl, hB, hr⟩; have HB2 := hide (HB1.out.trans (hB.mono HB1.out.size)); have HZ2 := hide (HZ1.out.next hB); have HR2 := hide hr; have HS2 := hide hB.size; clear hB hr HNR HB1 HZ1) | (refine wpList_store_pb_new rfl (.tmp 4) (.tmp 8) rfl W2.heap.size g rfl rfl (heap_alloc_new W2 _) (fun W => Below W2.heap.size W2 W ∧ PBox W W2.heap.size g) ⟨(pbox_pair W2 g).2, (pbox_pair W2 g).1⟩ ?_; intro W3 hp; have HB3 := hide (HB2.out.trans (hp.1.mono HB2.out.size)); have HZ3 := hide (HZ2.out.next hp.1); have HR3 := hide (HR2.out.next hp.1); have HP3 := hide hp.2; have HS3 := hide (Nat.le_trans HS2.out hp.1.size); have c0 := HP3.out.c0; clear hp HB2 HZ2 HR2) | (go_at_call 41; refine (HTA.out W3 W1.heap.size (iv W1.heap.size W2.heap.size) g HR3.out (HT.out.below HB3.out HT.out.two) (by have := HS1.out; have := HT.out.two; omega) HS3.out).mono ?_; rintro e W4 ⟨rfl, hk, hr⟩; have HR4 := hide hr; have HK4 := hide hk; have HP4 := hide (HP3.out.keep hk (fun e => by have := e.2; omega)); have HZ4 := hide (HZ3.out.keep hk (fun e => by have := e.1; have := HS1.out; omega)); have HB4 := hide (hk.through HB3.out (fun k e => by have := e.1; have := HS1.out; omega) HB3.out.size); clear hk hr c0 HR3 HP3 HZ3 HB3 HTA) | (refine wpList_alloc_tk rfl rfl ?_) | (refine wpList_store_tk_newK rfl (.tmp 5) (.tmp 10) rfl W4.heap.size T rfl rfl tk0 tk0_len HTM.out (TBox.new _ _) (fun W => Below W4.heap.size W4 W ∧ TBox W W4.heap.size T) ⟨below_setRow ((Below.refl _ _).alloc (Nat.le_refl _) _) (Nat.le_refl _) _, (TBox.new _ _).row⟩ ?_; intro W5 hp; have HR5 := hide (HR4.out.next hp.1); have HP5 := hide (HP4.out.next hp.1); have HZ5 := hide (HZ4.out.next hp.1); have HB5 := hide (HB4.out.trans (hp.1.mono HB4.out.size)); have HX5 := hide hp.2; have HG5 := hide HP4.out.lt; have HL5 := hide (show iv W1.heap.size W2.heap.size W4.heap.size → False from fun e => by have := e.2; have := HG5.out; omega); have c0 := HP5.out.c0; have HE := hide (re_u _ _ _ _ _ HR5.out); rw [HEN.out] at HE; clear hp HR4 HP4 HZ4 HB4 HK4 HR5) | (go_at_call 42; refine HE.out.mono ?_; rintro e W6 ⟨rfl, hk⟩; have HZ6 := hide (HZ5.out.keep hk (fun e => by have := e.1; have := HS1.out; omega)); have HX6 := hide (HX5.out.keep hk HL5.out); have HB6 := hide (hk.through HB5.out (fun k e => by have := e.1; have := HS1.out; omega) HB5.out.size); clear hk c0 HP5 HZ5 HB5 HX5 HE) | (refine wpList_build_tk0 rfl rfl ?_) | (refine wpList_store_tk rfl (.tmp 2) (.tmp 20) rfl W.heap.size tk0 rfl rfl tk0 tk0_len tk0_len HZ6.out ?_))
    refine bodyPost_ret (results_tk2 rfl _ _ W.heap.size rfl _ rfl tk0 tk0_len HZ6.out.row) rfl ?_
    exact ⟨rfl, below_setRow HB6.out (Nat.le_refl _) _⟩
  have HEN : Hid (enV s10 = 0) := hide (by rw [enV, if_pos h0])
  by_cases h1 : mayT T = true
  rotate_left
  · have HRS : Hid (readS bs = none) := hide (by rw [HRD.out, if_neg (fun h => h1 h.2)])
    replace h1 : mayT T = false := by simpa using h1
    rw [h1] at HM
    clear h0 h1
    rw [HRS.out]
    clear HRS HRD
    go_enter Tryd.func26, Tryd.ntmps26
    go_wp2_with (first | (with_reducible refine wpList_alloc_row rfl 31 rfl (tkA tk0) zeroTk ?_) | (go_at_call 40; rw [← HW1.out]; refine HNR.out.mono ?_; rintro e W2 ⟨g, rfl, hB, hr⟩; have HB2 := hide (HB1.out.trans (hB.mono HB1.out.size)); have HZ2 := hide (HZ1.out.next hB); have HR2 := hide hr; have HS2 := hide hB.size; clear hB hr HNR HB1 HZ1) | (refine wpList_store_pb_new rfl (.tmp 4) (.tmp 8) rfl W2.heap.size g rfl rfl (heap_alloc_new W2 _) (fun W => Below W2.heap.size W2 W ∧ PBox W W2.heap.size g) ⟨(pbox_pair W2 g).2, (pbox_pair W2 g).1⟩ ?_; intro W3 hp; have HB3 := hide (HB2.out.trans (hp.1.mono HB2.out.size)); have HZ3 := hide (HZ2.out.next hp.1); have HR3 := hide (HR2.out.next hp.1); have HP3 := hide hp.2; have HS3 := hide (Nat.le_trans HS2.out hp.1.size); have c0 := HP3.out.c0; clear hp HB2 HZ2 HR2) | (go_at_call 41; refine (HTA.out W3 W1.heap.size (iv W1.heap.size W2.heap.size) g HR3.out (HT.out.below HB3.out HT.out.two) (by have := HS1.out; have := HT.out.two; omega) HS3.out).mono ?_; rintro e W4 ⟨rfl, hk, hr⟩; have HR4 := hide hr; have HK4 := hide hk; have HP4 := hide (HP3.out.keep hk (fun e => by have := e.2; omega)); have HZ4 := hide (HZ3.out.keep hk (fun e => by have := e.1; have := HS1.out; omega)); have HB4 := hide (hk.through HB3.out (fun k e => by have := e.1; have := HS1.out; omega) HB3.out.size); clear hk hr c0 HR3 HP3 HZ3 HB3 HTA) | (refine wpList_alloc_tk rfl rfl ?_) | (refine wpList_store_tk_newK rfl (.tmp 5) (.tmp 10) rfl W4.heap.size T rfl rfl tk0 tk0_len HTM.out (TBox.new _ _) (fun W => Below W4.heap.size W4 W ∧ TBox W W4.heap.size T) ⟨below_setRow ((Below.refl _ _).alloc (Nat.le_refl _) _) (Nat.le_refl _) _, (TBox.new _ _).row⟩ ?_; intro W5 hp; have HR5 := hide (HR4.out.next hp.1); have HP5 := hide (HP4.out.next hp.1); have HZ5 := hide (HZ4.out.next hp.1); have HB5 := hide (HB4.out.trans (hp.1.mono HB4.out.size)); have HX5 := hide hp.2; have HG5 := hide HP4.out.lt; have HL5 := hide (show iv W1.heap.size W2.heap.size W4.heap.size → False from fun e => by have := e.2; have := HG5.out; omega); have c0 := HP5.out.c0; have HE := hide (re_u _ _ _ _ _ HR5.out); rw [HEN.out] at HE; clear hp HR4 HP4 HZ4 HB4 HK4 HR5) | (go_at_call 42; refine HE.out.mono ?_; rintro e W6 ⟨rfl, hk⟩; have HZ6 := hide (HZ5.out.keep hk (fun e => by have := e.1; have := HS1.out; omega)); have HX6 := hide (HX5.out.keep hk HL5.out); have HB6 := hide (hk.through HB5.out (fun k e => by have := e.1; have := HS1.out; omega) HB5.out.size); clear hk c0 HP5 HZ5 HB5 HX5 HE) | (refine wpList_load_tk_w (by rfl) (.tmp 5) rfl W4.heap.size rfl T HTM.out HX6.out ?_) | (go_at_call 15; refine (HM.out _).mono ?_; rintro e W7 ⟨rfl, hB⟩; have HZ7 := hide (HZ6.out.next hB); have HX7 := hide (HX6.out.next hB); have HB7 := hide (HB6.out.trans (hB.mono HB6.out.size)); clear hB HZ6 HX6 HB6) | (refine wpList_build_tk0 rfl rfl ?_) | (refine wpList_store_tk rfl (.tmp 2) (.tmp 20) rfl W.heap.size tk0 rfl rfl tk0 tk0_len tk0_len HZ7.out ?_))
    refine bodyPost_ret (results_tk2 rfl _ _ W.heap.size rfl _ rfl tk0 tk0_len HZ7.out.row) rfl ?_
    exact ⟨rfl, below_setRow HB7.out (Nat.le_refl _) _⟩
  have HRS : Hid (readS bs = some T) := hide (by rw [HRD.out, if_pos ⟨h0, h1⟩])
  rw [h1] at HM
  clear h0 h1
  rw [HRS.out]
  clear HRS HRD
  go_enter Tryd.func26, Tryd.ntmps26
  go_wp2_with (first | (with_reducible refine wpList_alloc_row rfl 31 rfl (tkA tk0) zeroTk ?_) | (go_at_call 40; rw [← HW1.out]; refine HNR.out.mono ?_; rintro e W2 ⟨g, rfl, hB, hr⟩; have HB2 := hide (HB1.out.trans (hB.mono HB1.out.size)); have HZ2 := hide (HZ1.out.next hB); have HR2 := hide hr; have HS2 := hide hB.size; clear hB hr HNR HB1 HZ1) | (refine wpList_store_pb_new rfl (.tmp 4) (.tmp 8) rfl W2.heap.size g rfl rfl (heap_alloc_new W2 _) (fun W => Below W2.heap.size W2 W ∧ PBox W W2.heap.size g) ⟨(pbox_pair W2 g).2, (pbox_pair W2 g).1⟩ ?_; intro W3 hp; have HB3 := hide (HB2.out.trans (hp.1.mono HB2.out.size)); have HZ3 := hide (HZ2.out.next hp.1); have HR3 := hide (HR2.out.next hp.1); have HP3 := hide hp.2; have HS3 := hide (Nat.le_trans HS2.out hp.1.size); have c0 := HP3.out.c0; clear hp HB2 HZ2 HR2) | (go_at_call 41; refine (HTA.out W3 W1.heap.size (iv W1.heap.size W2.heap.size) g HR3.out (HT.out.below HB3.out HT.out.two) (by have := HS1.out; have := HT.out.two; omega) HS3.out).mono ?_; rintro e W4 ⟨rfl, hk, hr⟩; have HR4 := hide hr; have HK4 := hide hk; have HP4 := hide (HP3.out.keep hk (fun e => by have := e.2; omega)); have HZ4 := hide (HZ3.out.keep hk (fun e => by have := e.1; have := HS1.out; omega)); have HB4 := hide (hk.through HB3.out (fun k e => by have := e.1; have := HS1.out; omega) HB3.out.size); clear hk hr c0 HR3 HP3 HZ3 HB3 HTA) | (refine wpList_alloc_tk rfl rfl ?_) | (refine wpList_store_tk_newK rfl (.tmp 5) (.tmp 10) rfl W4.heap.size T rfl rfl tk0 tk0_len HTM.out (TBox.new _ _) (fun W => Below W4.heap.size W4 W ∧ TBox W W4.heap.size T) ⟨below_setRow ((Below.refl _ _).alloc (Nat.le_refl _) _) (Nat.le_refl _) _, (TBox.new _ _).row⟩ ?_; intro W5 hp; have HR5 := hide (HR4.out.next hp.1); have HP5 := hide (HP4.out.next hp.1); have HZ5 := hide (HZ4.out.next hp.1); have HB5 := hide (HB4.out.trans (hp.1.mono HB4.out.size)); have HX5 := hide hp.2; have HG5 := hide HP4.out.lt; have HL5 := hide (show iv W1.heap.size W2.heap.size W4.heap.size → False from fun e => by have := e.2; have := HG5.out; omega); have c0 := HP5.out.c0; have HE := hide (re_u _ _ _ _ _ HR5.out); rw [HEN.out] at HE; clear hp HR4 HP4 HZ4 HB4 HK4 HR5) | (go_at_call 42; refine HE.out.mono ?_; rintro e W6 ⟨rfl, hk⟩; have HZ6 := hide (HZ5.out.keep hk (fun e => by have := e.1; have := HS1.out; omega)); have HX6 := hide (HX5.out.keep hk HL5.out); have HB6 := hide (hk.through HB5.out (fun k e => by have := e.1; have := HS1.out; omega) HB5.out.size); clear hk c0 HP5 HZ5 HB5 HX5 HE) | (refine wpList_load_tk_w (by rfl) (.tmp 5) rfl W4.heap.size rfl T HTM.out HX6.out ?_) | (go_at_call 15; refine (HM.out _).mono ?_; rintro e W7 ⟨rfl, hB⟩; have HZ7 := hide (HZ6.out.next hB); have HX7 := hide (HX6.out.next hB); have HB7 := hide (HB6.out.trans (hB.mono HB6.out.size)); clear hB HZ6 HX6 HB6) | (refine wpList_load_tk rfl (.tmp 5) rfl W4.heap.size rfl T HTM.out HX7.out ?_) | (refine wpList_store_tk rfl (.tmp 2) (.tmp 21) rfl W.heap.size T rfl rfl tk0 tk0_len HTM.out HZ7.out ?_))
  refine bodyPost_ret (results_tk2 rfl _ _ W.heap.size rfl _ rfl T HTM.out HZ7.out.row) rfl ?_
  exact ⟨rfl, below_setRow HB7.out (Nat.le_refl _) _⟩
end Go.Proofs.YtaomigfmjglggaaDoor
namespace Go.Proofs.YtaomigfmjglggaaDoor
open Go.RowKit

theorem fine_append {a b : List Int} (h : Fine (a ++ b)) : Fine b := h.tail rfl
theorem u32V_u32S (x : Nat) (r : List Int) (h : x < 4294967296) : u32V (u32S x ++ r) 4 = x := by
  simp [u32S, u32T, List.range_succ, u32V, nth]
  omega
theorem mark_one (r : List Int) : markN (some (1 :: r)) = some r := by
  rw [markN, if_pos (show u8V (some (1 :: r)) = 1 from rfl)]
  simp [u8N, cut8]
theorem un_put (x : Nat) (r : List Int) (h : x < 18446744073709551616) : unV (some (uintS x ++ r)) = x ∧ unN (some (uintS x ++ r)) = some r := by
  have hc := cutUS_uintS x r h
  simp [unV, unN, hc]
theorem tx_put (s : ByteArray) (r : List Int) (h : s.size ≤ 20) : txV 20 (some (textS s ++ r)) = s ∧ txN 20 (some (textS s ++ r)) = some r := by
  have hc := cutTS_textS 20 s r (by unfold maxLen; omega)
  rw [if_neg (by omega)] at hc
  refine ⟨?_, by simp [txN, hc]⟩
  have : txV 20 (some (textS s ++ r)) = strOfNums (bytesOf s) := by simp only [txV, Option.bind_some, hc]; rfl
  rw [this, str_bytesOf]
theorem w4_put (x : Nat) (r : List Int) (h : x < 4294967296) : w4V (some (u32S x ++ r)) = x ∧ w4N (some (u32S x ++ r)) = some r := by
  have hl : (u32S x).length = 4 := length_u32T x 4
  have hc : cut32 (u32S x ++ r) = some r := by
    rw [cut32, if_neg (by rw [List.length_append, hl]; omega), List.drop_left' hl]
  refine ⟨?_, by simp [w4N, hc]⟩
  simp only [w4V, Option.bind_some, hc]
  exact u32V_u32S x r h
theorem host_put (x : Nat) (r : List Int) (h : x ≤ 9) : hostV (some (uintS x ++ r)) = x ∧ hostN (some (uintS x ++ r)) = some r := by
  obtain ⟨h1, h2⟩ := un_put x r (by omega)
  rw [hostV, hostN, h1, h2, if_neg (by omega), if_neg (by omega)]
  exact ⟨rfl, rfl⟩
theorem said_cons (t : Tk) (r : List Int) : saidS t ++ r = 1 :: (textS t.ns ++ (textS t.sa ++ (uintS t.uid ++ (uintS t.host.toNat ++ (u32S t.addr ++ (uintS t.born ++ (uintS t.til ++ (uintS t.key ++ r)))))))) := by
  simp [saidS, putS]

theorem readS_put (t : Tk) (ho : t.ok) (hm : mayT t = true) (r : List Int) : readS (saidS t ++ (t.mac ++ r)) = if r = [] then some t else none := by
  obtain ⟨m1, m2, _, _, ⟨m3, m4⟩, ⟨m5, m6⟩, m7, m8, m9, m10⟩ := mayT_parts hm
  unfold most at m4 m8 m10
  obtain ⟨hh, hhd⟩ : ∃ hh : Nat, t.host = (hh : Nat) := ⟨t.host.toNat, by omega⟩
  have ht : tokR (some (saidS t ++ (t.mac ++ r))) = (t, some r) := by
    rw [said_cons]
    unfold tokR
    rw [mark_one, (tx_put t.ns _ m1).1, (tx_put t.ns _ m1).2, (tx_put t.sa _ m2).1, (tx_put t.sa _ m2).2, (un_put t.uid _ (by omega)).1, (un_put t.uid _ (by omega)).2,
      (host_put t.host.toNat _ (by omega)).1, (host_put t.host.toNat _ (by omega)).2, (w4_put t.addr _ ho.addr).1, (w4_put t.addr _ ho.addr).2, (un_put t.born _ (by omega)).1, (un_put t.born _ (by omega)).2,
      (un_put t.til _ (by omega)).1, (un_put t.til _ (by omega)).2, (un_put t.key _ (by omega)).1, (un_put t.key _ (by omega)).2]
    have hc : cutRS 32 (t.mac ++ r) = some r := by
      rw [cutRS, if_neg (by rw [List.length_append, ho.mac]; omega)]
      rw [show (32 : Int).toNat = 32 from rfl, List.drop_left' ho.mac]
    have hv : rwV 32 (some (t.mac ++ r)) = t.mac := by
      simp only [rwV, Option.bind_some, hc, Option.isSome_some, if_true, Option.getD_some]
      rw [show (32 : Int).toNat = 32 from rfl, List.take_left' ho.mac]
    rw [hv, show rwN 32 (some (t.mac ++ r)) = some r from hc, macV, if_pos ho.mac]
    have : ((t.host.toNat : Nat) : Int) = t.host := by omega
    rw [this]
  rw [readS, ht]
  by_cases hr : r = []
  · subst hr
    simp [hm]
  · rw [if_neg hr, if_neg (fun h => hr (by injection h.1))]

theorem un_of {s : Option (List Int)} {l : List Int} (hf : FineS s) (h : unN s = some l) : s = some (uintS (unV s) ++ l) := by
  cases s with
  | none => cases h
  | some b =>
    replace h : (cutUS b).map (·.2) = some l := h
    cases hc : cutUS b with
    | none => rw [hc] at h; cases h
    | some y =>
      rw [hc] at h
      injection h with h
      have := (cutUS_form b y.1 y.2 (hf _ rfl).1 hc).2
      rw [show unV (some b) = y.1 by simp [unV, hc], ← h, this]
theorem tx_of {s : Option (List Int)} {l : List Int} (n : Int) (hf : FineS s) (h : txN n s = some l) : s = some (textS (txV n s) ++ l) := by
  cases s with
  | none => cases h
  | some b =>
    replace h : (cutTS n b).map (·.2) = some l := h
    cases hc : cutTS n b with
    | none => rw [hc] at h; cases h
    | some y =>
      rw [hc] at h
      injection h with h
      have := (cutTS_form n b y.1 y.2 (hf _ rfl).1 hc).1
      have e : txV n (some b) = strOfNums y.1 := by simp only [txV, Option.bind_some, hc]; rfl
      rw [e, ← h, this]
theorem w4_of {s : Option (List Int)} {l : List Int} (hf : FineS s) (h : w4N s = some l) : s = some (u32S (w4V s) ++ l) := by
  cases s with
  | none => cases h
  | some b =>
    replace h : cut32 b = some l := h
    have hv : w4V (some b) = u32V b 4 := by simp [w4V, h]
    rw [hv]
    unfold cut32 at h
    split at h
    · cases h
    · injection h with h
      rw [← h, (u32S_form b (hf _ rfl).1 (by omega)).2]
theorem host_of {s : Option (List Int)} {l : List Int} (hf : FineS s) (h : hostN s = some l) : s = some (uintS (hostV s) ++ l) := by
  unfold hostN at h
  split at h
  · cases h
  · rename_i hn
    rw [hostV, if_neg hn]
    exact un_of hf h
theorem mark_of {s : Option (List Int)} {l : List Int} (h : markN s = some l) : s = some (1 :: l) := by
  unfold markN at h
  split at h
  · rename_i h1
    cases s with
    | none => cases h
    | some b =>
      replace h : cut8 b = some l := h
      unfold cut8 at h
      split at h
      · cases h
      · injection h with h
        cases b with
        | nil => simp at *
        | cons x b =>
          have hx : x = 1 := h1
          subst hx
          rw [← h]
          rfl
  · cases h
theorem rw_of {s : Option (List Int)} (h : rwN 32 s = some []) : s = some (rwV 32 s) ∧ (rwV 32 s).length = 32 := by
  cases s with
  | none => cases h
  | some b =>
    replace h : cutRS 32 b = some [] := h
    have hv : rwV 32 (some b) = b.take 32 := by simp [rwV, h]
    rw [hv]
    unfold cutRS at h
    split at h
    · cases h
    · injection h with h
      have hd : b.drop 32 = [] := h
      have hl : b.length ≤ 32 := by simpa using hd
      have : b.length = 32 := by omega
      rw [List.take_of_length_le (by omega)]
      exact ⟨rfl, this⟩

theorem readS_form {bs : List Int} {t : Tk} (hf : Fine bs) (h : readS bs = some t) : t.ok ∧ mayT t = true ∧ bs = saidS t ++ t.mac := by
  unfold readS at h
  split at h
  · rename_i hh
    injection h with h
    have hok := tokR_ok (fineS_some hf)
    rw [h] at hok
    refine ⟨hok, by rw [← h]; exact hh.2, ?_⟩
    have f0 := fineS_some hf
    have f1 := fineS_mark f0
    have f2 := fineS_tx 20 f1
    have f3 := fineS_tx 20 f2
    have f4 := fineS_un f3
    have f5 := fineS_host f4
    have f6 := fineS_w4 f5
    have f7 := fineS_un f6
    have f8 := fineS_un f7
    have f9 := fineS_un f8
    obtain ⟨g9, hl9⟩ := rw_of hh.1
    have g8 := un_of f8 g9
    have g7 := un_of f7 g8
    have g6 := un_of f6 g7
    have g5 := w4_of f5 g6
    have g4 := host_of f4 g5
    have g3 := un_of f3 g4
    have g2 := tx_of 20 f2 g3
    have g1 := tx_of 20 f1 g2
    have g0 := mark_of g1
    injection g0 with g0
    rw [← h]
    conv => lhs; rw [g0]
    rw [said_cons]
    unfold tokR
    dsimp only
    rw [macV, if_pos hl9, Int.toNat_natCast]
  · cases h
end Go.Proofs.YtaomigfmjglggaaDoor
