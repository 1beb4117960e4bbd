/- The library's functions by the shelf's contracts: Clone, Trim of blanks, ContainsFunc, Atoi. -/
import Derived.Test.YtilefgmlnmpeoaaDoorHdStr
import Derived.Test.YtilefgmlnmpeoaaDoorShelf
import Derived.Shelf.GgClosure.StringsIndexFuncTop
import Derived.Shelf.Strings.SlTrimAscii
import Derived.Shelf.Strconv.AtoiAll
namespace Go.Proofs.YtilefgmlnmpeoaaDoor
open Go.RowKit Go.Lib

set_option maxRecDepth 100000 in
theorem clone_any (s : ByteArray) (hs : s.size ≤ 281474976710656) (w : World) : Calls Tryd.prog 42 #[.string s] w (fun e w' => e = .returned (.string s) ∧ Below w.heap.size w w') := by
  have HC := hideL (fun W : World => Any.stringslite_Clone Tryd.laysM316 s W hs)
  go_enter Tryd.func42, Tryd.ntmps42
  go_wp2_with (go_at_call 58; refine (HC.out _).mono ?_; rintro e w2 ⟨rfl, hB2⟩)
  go_ret
  exact ⟨rfl, hB2⟩
set_option maxRecDepth 100000 in
/-- strings.Trim(s, " \t"). -/
theorem trim_any (s : ByteArray) (hs : s.size ≤ 281474976710656) (w : World) : Calls Tryd.prog 33 #[.string s, .string ⟨#[32, 9]⟩] w (fun e w' => e = .returned (.string (bo (trimP s.data.toList))) ∧ Below w.heap.size w w') := by
  have h := Any.strings_Trim_laid Tryd.lays160 (by kernel_rfl) s ⟨#[32, 9]⟩ w (by omega) (by decide) (ascii_of_all (by decide))
  refine h.mono ?_
  rintro e w' ⟨rfl, hb⟩
  refine ⟨?_, hb⟩
  rw [show (⟨#[32, 9]⟩ : ByteArray).data.toList = [32, 9] from rfl, trimS_eq]
  rfl
/-- What stands between two digits: no rune else. -/
def noDig (r : Nat) : Bool := decide (r < 48) || decide (57 < r)
theorem noDig_any (w : World) : PredAt Tryd.prog 69 #[] encR noDig w := fun W r _ => by
  unfold FnGives
  by_cases h1 : r < 48
  · have e : noDig r = true := by simp [noDig, h1]
    have i1 : (r : Int) < 48 := by omega
    rw [e]
    go_enter Tryd.func69, Tryd.ntmps69
    go_wp2
    go_ret
    exact ⟨rfl, 0, rfl⟩
  · have i1 : ¬ (r : Int) < 48 := by omega
    by_cases h2 : 57 < r
    · have e : noDig r = true := by simp [noDig, h2]
      have i2 : (57 : Int) < (r : Int) := by omega
      rw [e]
      go_enter Tryd.func69, Tryd.ntmps69
      go_wp2
      go_ret
      exact ⟨rfl, 0, rfl⟩
    · have e : noDig r = false := by simp [noDig, h1, h2]
      have i2 : ¬ (57 : Int) < (r : Int) := by omega
      rw [e]
      go_enter Tryd.func69, Tryd.ntmps69
      go_wp2
      go_ret
      exact ⟨rfl, 0, rfl⟩
theorem idx_dig (s : ByteArray) : ∀ (f pos : Nat), s.size ≤ pos + f → pos ≤ s.size → decide (0 ≤ Lib.idxFuncFrom noDig true s f pos) = !((s.data.toList.drop pos).all digB)
  | 0, pos, h, hp => by
    rw [List.drop_of_length_le (by rw [size_list]; omega)]
    rfl
  | f + 1, pos, h, hp => by
    unfold Lib.idxFuncFrom
    by_cases hlt : pos < s.size
    · rw [if_pos hlt, byte_at s pos hlt, List.all_cons]
      by_cases hd : digB s[pos] = true
      · have hd' : 48 ≤ s[pos].toNat ∧ s[pos].toNat ≤ 57 := of_decide_eq_true hd
        rw [decode_ascii s pos hlt (by omega)]
        simp only
        rw [if_neg (by simp [noDig]; omega), hd, Bool.true_and]
        exact idx_dig s f (pos + 1) (by omega) (by omega)
      · have hd' : ¬ (48 ≤ s[pos].toNat ∧ s[pos].toNat ≤ 57) := fun h => hd (decide_eq_true h)
        have hp' : noDig (Utf8.decode s pos).1 = true := by
          by_cases ha : s[pos].toNat < 128
          · rw [decode_ascii s pos hlt ha]
            simp [noDig]; omega
          · have := (decode_high s pos hlt (by omega)).1
            simp [noDig]; omega
        rw [if_pos hp']
        have : digB s[pos] = false := by simpa using hd
        rw [this]
        simp
    · rw [if_neg hlt, List.drop_of_length_le (by rw [size_list]; omega)]
      rfl
set_option maxRecDepth 100000 in
/-- Whether a text has anything but digits. -/
theorem hasNoDig_any (s : ByteArray) (w : World) : Calls Tryd.prog 68 #[.string s, .func (.func 69) #[] #[]] w (fun e w' => e = .returned (.bool (!(s.data.toList.all digB))) ∧ Below w.heap.size w w') := by
  have h := Any.strings_ContainsFunc Tryd.laysGw17 69 #[] (enters_of Tryd.func69 (by kernel_rfl) rfl) noDig s w (noDig_any w)
  have e : decide (0 ≤ Lib.idxFunc noDig true s) = !(s.data.toList.all digB) := idx_dig s s.size 0 (by omega) (by omega)
  rw [← e]
  exact h
/-- The library's error variable, whatever it holds. -/
structure Env (W : World) : Prop where
  err : ∃ ev, W.cell? ⟨4, 0, none⟩ = some ev ∧ (ev = .nilIface ∨ ∃ te pe, ev = .iface te pe)
theorem Env.next {W W' : World} (h : Env W) (hb : Below W.heap.size W W') : Env W' := by
  obtain ⟨ev, h1, h2⟩ := h.err
  have hl : 4 < W.heap.size := Lib.lt_of_cell h1
  exact ⟨ev, (hb.cell (p := ⟨4, 0, none⟩) hl).trans h1, h2⟩
set_option maxRecDepth 100000 in
theorem atoi_ok (s : ByteArray) (hs : s.size ≤ 281474976710656) (n : Nat) (h0 : s.data.toList ≠ []) (hd : ∀ c ∈ s.data.toList, digB c = true) (hn : numN 0 s.data.toList = n) (hl : n < 9223372036854775808) (w : World) :
    Calls Tryd.prog 60 #[.string s] w (fun e w' => e = .returned (.tuple #[.int .i64 n, .nilIface]) ∧ Below w.heap.size w w') := by
  have ha := atoi_digits _ h0 hd
  rw [hn, if_pos hl] at ha
  refine (Any.strconv_Atoi_ok Tryd.laysC172 s (by omega) n ha w).mono ?_
  rintro e w' ⟨rfl, h⟩
  refine ⟨rfl, ?_⟩
  rcases h with rfl | ⟨t, rfl⟩
  · exact Below.refl _ _
  · exact Lib.bytesWorld_below w _ t
set_option maxRecDepth 100000 in
theorem atoi_far (s : ByteArray) (hs : s.size ≤ 281474976710656) (h0 : s.data.toList ≠ []) (hd : ∀ c ∈ s.data.toList, digB c = true) (hl : 9223372036854775808 ≤ numN 0 s.data.toList) (w : World) (hE : Env w) :
    Calls Tryd.prog 60 #[.string s] w (fun e w' => ∃ x te pe, e = .returned (.tuple #[.int .i64 x, .iface te pe]) ∧ Below w.heap.size w w') := by
  have ha := atoi_digits _ h0 hd
  rw [if_neg (by omega)] at ha
  obtain ⟨ev, h1, h2⟩ := hE.err
  refine (Any.strconv_Atoi_range Tryd.laysC172 s hs ha ev w h1 h2).mono ?_
  rintro e w' ⟨N, rfl, _, _, hb⟩
  exact ⟨_, _, _, rfl, hb⟩
end Go.Proofs.YtilefgmlnmpeoaaDoor
