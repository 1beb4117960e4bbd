/- Hosts, methods, small letters: the program's. -/
import Derived.Test.YtafmgoekgijfgaaGreatDoorYRqM5
import Derived.Test.YtafmgoekgijfgaaGreatDoorYRqM3
import Derived.Test.YtafmgoekgijfgaaGreatDoorYPhNormal
import Derived.Shelf.Strings.Search3
namespace Go.Proofs.YtafmgoekgijfgaaGreatDoor
open Go.RowKit Go.Lib

/-- What stands at a place, by runes: whether one that is looked for comes. -/
theorem idx_gen (noP : Nat → Bool) (okB : UInt8 → Bool) (ha : ∀ c : UInt8, c.toNat < 128 → noP c.toNat = !okB c) (hb : ∀ c : UInt8, 128 ≤ c.toNat → okB c = false) (hc : ∀ r, 128 ≤ r → noP r = true) (s : ByteArray) :
   ∀ (f pos : Nat), s.size ≤ pos + f → pos ≤ s.size → decide (0 ≤ Lib.idxFuncFrom noP true s f pos) = !((s.data.toList.drop pos).all okB)
 | 0, pos, h, hp => by
   rw [List.drop_of_length_le (by rw [size_list]; omega)]
   rfl
 | f + 1, pos, h, hp => by
   unfold Lib.idxFuncFrom
   by_cases hlt : pos < s.size
   · rw [if_pos hlt, byte_at s pos hlt, List.all_cons]
     by_cases hx : s[pos].toNat < 128
     · rw [decode_ascii s pos hlt hx]
       simp only
       rw [ha _ hx]
       by_cases hd : okB s[pos] = true
       · rw [hd, if_neg (by decide), Bool.true_and]
         exact idx_gen noP okB ha hb hc s f (pos + 1) (by omega) (by omega)
       · have hd' : okB s[pos] = false := by simpa using hd
         rw [hd', if_pos (show (!false) = true from rfl)]
         simp
     · have hp' : noP (Utf8.decode s pos).1 = true := hc _ (decode_high s pos hlt (by omega)).1
       rw [if_pos hp', hb _ (by omega)]
       simp
   · rw [if_neg hlt, List.drop_of_length_le (by rw [size_list]; omega)]
     rfl
def asB (c : UInt8) : Bool := decide (c.toNat < 128)
def noAs (r : Nat) : Bool := decide (128 ≤ r)
theorem noAs_any (w : World) : PredAt Tryz.prog 77 #[] encR noAs w := fun W r _ => by
 unfold FnGives
 by_cases h1 : 128 ≤ r
 · have e : noAs r = true := by simp [noAs, h1]
   have i1 : (128 : Int) ≤ (r : Int) := by omega
   rw [e]
   go_enter Tryz.func77, Tryz.ntmps77
   go_wp2
   go_ret
   exact ⟨rfl, 0, rfl⟩
 · have e : noAs r = false := by simp [noAs, h1]
   have i1 : ¬ (128 : Int) ≤ (r : Int) := by omega
   rw [e]
   go_enter Tryz.func77, Tryz.ntmps77
   go_wp2
   go_ret
   exact ⟨rfl, 0, rfl⟩
def noBig (r : Nat) : Bool := decide (r < 65) || decide (90 < r)
theorem noBig_any (w : World) : PredAt Tryz.prog 76 #[] encR noBig w := fun W r _ => by
 unfold FnGives
 by_cases h1 : r < 65
 · have e : noBig r = true := by simp [noBig, h1]
   have i1 : (r : Int) < 65 := by omega
   rw [e]
   go_enter Tryz.func76, Tryz.ntmps76
   go_wp2
   go_ret
   exact ⟨rfl, 0, rfl⟩
 · have i1 : ¬ (r : Int) < 65 := by omega
   by_cases h2 : 90 < r
   · have e : noBig r = true := by simp [noBig, h2]
     have i2 : (90 : Int) < (r : Int) := by omega
     rw [e]
     go_enter Tryz.func76, Tryz.ntmps76
     go_wp2
     go_ret
     exact ⟨rfl, 0, rfl⟩
   · have e : noBig r = false := by simp [noBig, h1, h2]
     have i2 : ¬ (90 : Int) < (r : Int) := by omega
     rw [e]
     go_enter Tryz.func76, Tryz.ntmps76
     go_wp2
     go_ret
     exact ⟨rfl, 0, rfl⟩
theorem hasNoAs_any (s : ByteArray) (w : World) : Calls Tryz.prog 75 #[.string s, .func (.func 77) #[] #[]] w (fun e w' => e = .returned (.bool (!(s.data.toList.all asB))) ∧ Below w.heap.size w w') := by
 have h := Any.strings_ContainsFunc Tryz.laysGw17 77 #[] (enters_of Tryz.func77 (by kernel_rfl) rfl) noAs s w (noAs_any w)
 have e : decide (0 ≤ Lib.idxFunc noAs true s) = !(s.data.toList.all asB) := idx_gen noAs asB (fun c hc => by unfold noAs asB; rw [decide_eq_true hc, decide_eq_false (show ¬ 128 ≤ c.toNat by omega)]; rfl) (fun c hc => by simp [asB]; omega) (fun r hr => by simp [noAs, hr]) s s.size 0 (by omega) (by omega)
 rw [← e]
 exact h
theorem hasNoBig_any (s : ByteArray) (w : World) : Calls Tryz.prog 75 #[.string s, .func (.func 76) #[] #[]] w (fun e w' => e = .returned (.bool (!(s.data.toList.all bigB))) ∧ Below w.heap.size w w') := by
 have h := Any.strings_ContainsFunc Tryz.laysGw17 76 #[] (enters_of Tryz.func76 (by kernel_rfl) rfl) noBig s w (noBig_any w)
 have e : decide (0 ≤ Lib.idxFunc noBig true s) = !(s.data.toList.all bigB) := idx_gen noBig bigB (fun c hc => by
   unfold noBig bigB
   by_cases h1 : c.toNat < 65
   · rw [decide_eq_true h1, decide_eq_false (show ¬ (65 ≤ c.toNat ∧ c.toNat ≤ 90) by omega)]; simp
   · rw [decide_eq_false h1]
     by_cases h2 : 90 < c.toNat
     · rw [decide_eq_true h2, decide_eq_false (show ¬ (65 ≤ c.toNat ∧ c.toNat ≤ 90) by omega)]; rfl
     · rw [decide_eq_false h2, decide_eq_true (show 65 ≤ c.toNat ∧ c.toNat ≤ 90 by omega)]; rfl) (fun c hc => by simp [bigB]; omega) (fun r hr => by simp [noBig]; omega) s s.size 0 (by omega) (by omega)
 rw [← e]
 exact h
/-- Small letters, where no byte is above 127. -/
def smaS (l : List UInt8) : List UInt8 := if l.all asB = true then l.map smB else l
theorem lower_eq (c : UInt8) : Lib.lowerB c = smB c := by
 unfold Lib.lowerB smB Lib.isUpperB
 simp only [Bool.and_eq_true, decide_eq_true_eq, UInt8.le_iff_toNat_le]
 rfl
set_option maxRecDepth 100000 in
theorem rsmall_any (s : ByteArray) (hs : s.size ≤ 1000000) (w : World) : Calls Tryz.prog 44 #[.string s] w (fun e w' => e = .returned (.string (bo (smaS s.data.toList))) ∧ Below w.heap.size w w') := by
 have LC := hideL (fun W => hasNoAs_any s W)
 unfold smaS
 cases ha : s.data.toList.all asB with
 | false =>
   rw [ha] at LC
   rw [if_neg Bool.false_ne_true, bo_of]
   clear ha
   go_enter Tryz.func44, Tryz.ntmps44
   go_wp2_with (go_at_call 75; refine (LC.out _).mono ?_; rintro e w2 ⟨rfl, hB2⟩)
   go_ret
   exact ⟨rfl, hB2⟩
 | true =>
   rw [ha] at LC
   rw [if_pos rfl]
   have hasc : ∀ (j : Nat) (b : UInt8), s.data.toList[j]? = some b → b.toNat < 128 := fun j b hj => by
     have := List.all_eq_true.1 ha b (List.mem_of_getElem? hj)
     exact of_decide_eq_true this
   have hlow : (⟨(Lib.toLowerA s.data.toList).toArray⟩ : ByteArray) = bo (s.data.toList.map smB) := by
     rw [show Lib.toLowerA s.data.toList = s.data.toList.map smB from List.map_congr_left (fun c _ => lower_eq c)]
     rfl
   have LT := hideL (fun W => Any.strings_ToLower_ascii Tryz.lays159 Tryz.Builder_Extra_159 s W (by omega) hasc)
   rw [hlow] at LT
   clear ha hasc hlow
   go_enter Tryz.func44, Tryz.ntmps44
   go_wp2_with (first
     | (go_at_call 75; refine (LC.out _).mono ?_; rintro e w2 ⟨rfl, hB2⟩)
     | (go_at_call 78; refine (LT.out _).mono ?_; rintro e w3 ⟨rfl, hB3⟩))
   go_ret
   exact ⟨rfl, hB2.trans (hB3.mono hB2.size)⟩
set_option maxRecDepth 100000 in
theorem mayMethod_any (s : ByteArray) (w : World) : Calls Tryz.prog 43 #[.string s] w (fun e w' => e = .returned (.bool (metP s.data.toList)) ∧ Below w.heap.size w w') := by
 have LC := hideL (fun W => hasNoBig_any s W)
 unfold metP
 have hz := size_list s
 by_cases h0 : s = ⟨#[]⟩
 · subst h0
   rw [decide_eq_false (by decide)]
   go_enter Tryz.func43, Tryz.ntmps43
   go_wp2_with fail
   go_ret
   exact ⟨rfl, Below.refl _ _⟩
 · have hn := eqs_false h0
   rw [ByteArray.toList_eq ⟨#[]⟩] at hn
   have h1 : 1 ≤ s.size := by
     rcases Nat.eq_zero_or_pos s.size with h | h
     · exact absurd (bytes_ext (List.eq_nil_of_length_eq_zero (by rw [hz, h]))) h0
     · exact h
   by_cases h16 : 16 < s.size
   · have i16 : (16 : Int) < (s.size : Int) := by omega
     rw [decide_eq_false (by omega)]
     clear h0 h1 hz h16
     go_enter Tryz.func43, Tryz.ntmps43
     go_wp2_with fail
     go_ret
     exact ⟨rfl, Below.refl _ _⟩
   · have i16 : ¬ (16 : Int) < (s.size : Int) := by omega
     rw [decide_eq_true (by omega), Bool.true_and]
     obtain ⟨y, hy⟩ : ∃ y, s.data.toList.all bigB = y := ⟨_, rfl⟩
     rw [hy] at LC ⊢
     clear h0 h1 hz h16 hy
     go_enter Tryz.func43, Tryz.ntmps43
     go_wp2_with (go_at_call 75; refine (LC.out _).mono ?_; rintro e w2 ⟨rfl, hB2⟩)
     go_ret
     exact ⟨by simp, hB2⟩
end Go.Proofs.YtafmgoekgijfgaaGreatDoor
