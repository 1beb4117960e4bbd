/- The library's functions that answers stand on: CutPrefix of the version, Atoi of any text, ContainsFunc of a reason. -/
import Derived.Test.YtafmgoekgijfgaaGreatDoorARqOfP
import Derived.Test.YtafmgoekgijfgaaGreatDoorAAnPl
import Derived.Test.YtafmgoekgijfgaaGreatDoorARqM2
namespace Go.Proofs.YtafmgoekgijfgaaGreatDoor
open Go.RowKit Go.Lib

set_option maxRecDepth 100000 in
/-- strings.CutPrefix(line, "HTTP/1.1 "). -/
theorem cutV_any (s : ByteArray) (w : World) : Calls Tryz.prog 103 #[.string s, .string ⟨#[72, 84, 84, 80, 47, 49, 46, 49, 32]⟩] w (fun e w' => e = .returned (.tuple #[.string (bo (resA s.data.toList)), .bool (decide (verL <+: s.data.toList))]) ∧ w' = w) := by
 refine (Any.strings_CutPrefix Tryz.lays103 s ⟨#[72, 84, 84, 80, 47, 49, 46, 49, 32]⟩ w).mono ?_
 rintro e w' ⟨rfl, hw⟩
 refine ⟨?_, hw⟩
 have e1 : (⟨#[72, 84, 84, 80, 47, 49, 46, 49, 32]⟩ : ByteArray).data.toList = verL := rfl
 rw [e1]
 have e2 : Lib.hasPrefix s.data.toList verL = decide (verL <+: s.data.toList) := by
   unfold Lib.hasPrefix
   rw [Bool.eq_iff_iff, decide_eq_true_eq]
   exact List.isPrefixOf_iff_prefix
 unfold Lib.trimPrefix resA
 rw [e2]
 by_cases h : verL <+: s.data.toList
 · simp only [decide_eq_true h, if_true, if_pos h]
   rfl
 · simp only [decide_eq_false h, Bool.false_eq_true, if_false, if_neg h]
   rfl
/-- strings.Cut at a blank; whether there is one. -/
theorem cutB_all (s : ByteArray) (hs : s.size ≤ 1000000) (y : Bool) (hy : y = true ↔ (32 : UInt8) ∈ s.data.toList) (w : World) : Calls Tryz.prog 41 #[.string s, .string ⟨#[32]⟩] w (fun e w' => e = .returned (.tuple #[.string (bo (hdB s.data.toList)), .string (bo (tlB s.data.toList)), .bool y]) ∧ Below w.heap.size w w') := by
 rcases bla_parts s.data.toList with ⟨h1, h2, h3⟩ | ⟨h1, h2⟩
 · refine (cut_none s 32 h1 w).mono ?_
   rintro e w' ⟨rfl, n, rfl⟩
   obtain rfl : y = false := Bool.eq_false_iff.2 (fun e => h1 (hy.1 e))
   rw [h2, h3, bo_of]
   exact ⟨rfl, below_drewN5 w n⟩
 · refine (cut_hit s 32 _ _ h1 h2 hs w).mono ?_
   rintro e w' ⟨rfl, n, rfl⟩
   have hm : (32 : UInt8) ∈ s.data.toList := by rw [h1]; simp
   obtain rfl : y = true := hy.2 hm
   exact ⟨rfl, below_drewN5 w n⟩
theorem resA_len (l : List UInt8) : (resA l).length ≤ l.length := by
 unfold resA
 split
 · rw [List.length_drop]; omega
 · exact Nat.le_refl _
/-- What a text is, as strconv.Atoi reads it. -/
def atoP (l : List UInt8) : Option Int := match Lib.atoiAll l with
 | .ok v => some v
 | _ => none
set_option maxRecDepth 100000 in
theorem atoi_full (s : ByteArray) (hs : s.size ≤ 281474976710656) (w : World) (hE : Env w) (hS : EnvS w) : Calls Tryz.prog 104 #[.string s] w (fun e w' => (∃ x ev, e = .returned (.tuple #[.int .i64 x, ev]) ∧ (∀ v, atoP s.data.toList = some v → x = v ∧ ev = .nilIface) ∧ (atoP s.data.toList = none → ∃ te pe, ev = .iface te pe)) ∧ Below w.heap.size w w') := by
 unfold atoP
 cases ha : Lib.atoiAll s.data.toList with
 | ok v =>
   refine (Any.strconv_Atoi_ok Tryz.laysC172 s (by omega) v ha w).mono ?_
   rintro e w' ⟨rfl, h⟩
   refine ⟨⟨v, .nilIface, rfl, (fun u hu => by injection hu with hu; exact ⟨hu, rfl⟩), (fun h => by cases h)⟩, ?_⟩
   rcases h with rfl | ⟨t, rfl⟩
   · exact Below.refl _ _
   · exact Lib.bytesWorld_below w _ t
 | range =>
   obtain ⟨ev, h1, h2⟩ := hE.err
   refine (Any.strconv_Atoi_range Tryz.laysC172 s hs ha ev w h1 h2).mono ?_
   rintro e w' ⟨N, rfl, _, _, hb⟩
   exact ⟨⟨_, _, rfl, (fun u hu => by cases hu), (fun _ => ⟨_, _, rfl⟩)⟩, hb⟩
 | «syntax» =>
   obtain ⟨ev, h1, h2⟩ := hS.err
   refine (Any.strconv_Atoi_syntax Tryz.laysC172 s hs ha ev w h1 h2).mono ?_
   rintro e w' ⟨N, rfl, _, _, hb⟩
   exact ⟨⟨_, _, rfl, (fun u hu => by cases hu), (fun _ => ⟨_, _, rfl⟩)⟩, hb⟩
/-- A rune that no reason has. -/
def noPri (r : Nat) : Bool := decide (r < 32) || decide (126 < r)
theorem noPri_any (w : World) : PredAt Tryz.prog 152 #[] encR noPri w := fun W r _ => by
 unfold FnGives
 by_cases h1 : r < 32
 · have e : noPri r = true := by simp [noPri, h1]
   have i1 : (r : Int) < 32 := by omega
   rw [e]
   go_enter Tryz.func152, Tryz.ntmps152
   go_wp2
   go_ret
   exact ⟨rfl, 0, rfl⟩
 · have i1 : ¬ (r : Int) < 32 := by omega
   by_cases h2 : 126 < r
   · have e : noPri r = true := by simp [noPri, h2]
     have i2 : (126 : Int) < (r : Int) := by omega
     rw [e]
     go_enter Tryz.func152, Tryz.ntmps152
     go_wp2
     go_ret
     exact ⟨rfl, 0, rfl⟩
   · have e : noPri r = false := by simp [noPri, h1, h2]
     have i2 : ¬ (126 : Int) < (r : Int) := by omega
     rw [e]
     go_enter Tryz.func152, Tryz.ntmps152
     go_wp2
     go_ret
     exact ⟨rfl, 0, rfl⟩
theorem idx_pri (s : ByteArray) : ∀ (f pos : Nat), s.size ≤ pos + f → pos ≤ s.size → decide (0 ≤ Lib.idxFuncFrom noPri true s f pos) = !((s.data.toList.drop pos).all priB)
 | 0, pos, h, hp => by
   rw [List.drop_of_length_le (by rw [size_list]; omega)]
   rfl
 | f + 1, pos, h, hp => by
   unfold Lib.idxFuncFrom
   by_cases hlt : pos < s.size
   · rw [if_pos hlt, byte_at s pos hlt, List.all_cons]
     by_cases hd : priB s[pos] = true
     · have hd' : 32 ≤ s[pos].toNat ∧ s[pos].toNat ≤ 126 := of_decide_eq_true hd
       rw [decode_ascii s pos hlt (by omega)]
       simp only
       rw [if_neg (by simp [noPri]; omega), hd, Bool.true_and]
       exact idx_pri s f (pos + 1) (by omega) (by omega)
     · have hd' : ¬ (32 ≤ s[pos].toNat ∧ s[pos].toNat ≤ 126) := fun h => hd (decide_eq_true h)
       have hp' : noPri (Utf8.decode s pos).1 = true := by
         by_cases ha : s[pos].toNat < 128
         · rw [decode_ascii s pos hlt ha]
           simp [noPri]; omega
         · have := (decode_high s pos hlt (by omega)).1
           simp [noPri]; omega
       rw [if_pos hp']
       have : priB s[pos] = false := by simpa using hd
       rw [this]
       simp
   · rw [if_neg hlt, List.drop_of_length_le (by rw [size_list]; omega)]
     rfl
set_option maxRecDepth 100000 in
/-- Whether a text has a byte that no reason has. -/
theorem hasNoPri_any (s : ByteArray) (w : World) : Calls Tryz.prog 75 #[.string s, .func (.func 152) #[] #[]] w (fun e w' => e = .returned (.bool (!(s.data.toList.all priB))) ∧ Below w.heap.size w w') := by
 have h := Any.strings_ContainsFunc Tryz.laysGw17 152 #[] (enters_of Tryz.func152 (by kernel_rfl) rfl) noPri s w (noPri_any w)
 have e : decide (0 ≤ Lib.idxFunc noPri true s) = !(s.data.toList.all priB) := idx_pri s s.size 0 (by omega) (by omega)
 rw [← e]
 exact h
set_option maxRecDepth 100000 in
theorem mayReason_any (s : ByteArray) (w : World) : Calls Tryz.prog 105 #[.string s] w (fun e w' => e = .returned (.bool (s.data.toList.all priB)) ∧ Below w.heap.size w w') := by
 have LC := hideL (fun W : World => hasNoPri_any s W)
 obtain ⟨Z, hZ⟩ : ∃ z, s.data.toList.all priB = z := ⟨_, rfl⟩
 rw [hZ] at LC ⊢
 clear hZ
 go_enter Tryz.func105, Tryz.ntmps105
 go_wp2_with (go_at_call 75; refine (LC.out _).mono ?_; rintro e w2 ⟨rfl, hB⟩; have HB := hideL hB; clear hB)
 go_ret
 exact ⟨by simp, HB.out⟩
end Go.Proofs.YtafmgoekgijfgaaGreatDoor
