/- The document's Line, fault, Size. -/
import Derived.Test.YtafmgoekgijfgaaGreatDoorBRqFeed
import Derived.Test.YtafmgoekgijfgaaGreatDoorBRqM1
import Derived.Test.YtafmgoekgijfgaaGreatDoorBRqPiece
import Derived.Test.YtafmgoekgijfgaaGreatDoorBPhRef
namespace Go.Proofs.YtafmgoekgijfgaaGreatDoor
open Go.RowKit Go.Lib

def linA (b : List UInt8) (k : Nat) : Value := match rdlP 0 (b.drop k) with
 | .more => .tuple #[.string ⟨#[]⟩, .int .i64 0, .int .i64 0]
 | .bad e => .tuple #[.string ⟨#[]⟩, .int .i64 0, .int .i64 ((if e = 6 then 3 else 2 : Nat) : Int)]
 | .line s _ => .tuple #[.string (bo s), .int .i64 ((k + s.length + 2 : Nat) : Int), .int .i64 1]
theorem linA_more {b : List UInt8} {k : Nat} (h : rdlP 0 (b.drop k) = .more) : linA b k = .tuple #[.string ⟨#[]⟩, .int .i64 0, .int .i64 0] := by unfold linA; rw [h]
theorem linA_two {b : List UInt8} {k : Nat} (h : rdlP 0 (b.drop k) = .bad 2) : linA b k = .tuple #[.string ⟨#[]⟩, .int .i64 0, .int .i64 2] := by unfold linA; rw [h]; rfl
theorem linA_six {b : List UInt8} {k : Nat} (h : rdlP 0 (b.drop k) = .bad 6) : linA b k = .tuple #[.string ⟨#[]⟩, .int .i64 0, .int .i64 3] := by unfold linA; rw [h]; rfl
theorem linA_line {b s r : List UInt8} {k : Nat} (h : rdlP 0 (b.drop k) = .line s r) : linA b k = .tuple #[.string (bo s), .int .i64 ((k + s.length + 2 : Nat) : Int), .int .i64 1] := by unfold linA; rw [h]
theorem drop2 {b : List UInt8} {i : Nat} (h : i < b.length) : b.drop i = b.getD i 0 :: b.drop (i + 1) := by
 rw [List.drop_eq_getElem_cons h]
 simp [List.getD, h]
set_option maxRecDepth 100000 in
set_option maxHeartbeats 2000000 in
theorem rline_any (vo : Option Addr) (vc : Nat) (b : List UInt8) (k : Nat) (w : World) (gv : GAt KB w (.slice vo b.length vc) b) (hk : k ≤ b.length) (hbl : b.length ≤ 1000000) : Calls Tryz.prog 113 #[.slice vo b.length vc, .int .i64 k] w (fun e w' => e = .returned (linA b k) ∧ Below w.heap.size w w') := by
 obtain ⟨R, hR⟩ : ∃ R, linA b k = R := ⟨_, rfl⟩
 rw [hR]
 have HR := hideL hR
 have hle := gv.le.2
 have HV := hideL gv
 obtain ⟨n, hn⟩ : ∃ n, b.length = n := ⟨_, rfl⟩
 rw [hn] at HV hle ⊢
 have HN := hideL hn
 have hkn : k ≤ n := by omega
 have hnl : n ≤ 1000000 := by omega
 have H0 : HidL (∀ c ∈ (b.drop k).take (k - k), inl c) := ⟨scan_none b k⟩
 clear gv hR hk hbl hn
 go_enter Tryz.func113, Tryz.ntmps113
 go_wp2_with fail
 go_loopw [7] (fun i wr => ∃ j : Nat, k ≤ j ∧ j ≤ n ∧ j - k ≤ 578 ∧ i = .int .i64 j ∧ HidL (Below w.heap.size w wr) ∧ HidL (∀ c ∈ (b.drop k).take (j - k), inl c)) (fun i _ => n - (RowKit.intOf i).toNat)
 case atStart => exact ⟨k, Nat.le_refl _, hkn, by omega, rfl, ⟨Below.refl _ _⟩, H0⟩
 case round =>
   obtain ⟨j, hkj, hjn, hj5, rfl, HB, HI⟩ := hrel
   clear H0
   obtain ⟨W, rfl⟩ : ∃ W, W = wr := ⟨_, rfl⟩
   have hsc := rdl_scan hkj (by rw [HN.out]; exact hjn) HI.out hj5
   by_cases hlt : j < n
   · have hlt' : (j : Int) < (n : Int) := by omega
     have hjb : j < b.length := by rw [HN.out]; exact hlt
     obtain ⟨b1, o1, e1, l1, c1⟩ := gat_byte HV.out (k := j) hlt
     subst e1
     have d1 := (HB.out.cell (p := ⟨b1, o1 + j, none⟩) l1).trans c1
     have hdr := drop2 hjb
     obtain ⟨c, hc⟩ : ∃ c, b.getD j 0 = c := ⟨_, rfl⟩
     rw [hc] at d1 hdr
     by_cases h10 : c = 10
     · have r := HR.out
       rw [linA_two (by rw [hsc, hdr, h10, rdlP_lf]; rfl)] at r
       subst r
       rw [h10] at d1
       clear hsc hdr hc h10 c1 l1 hjb HI
       go_wp2_with fail
       exact bodyPost_ret (v := .tuple #[.string ⟨#[]⟩, .int .i64 0, .int .i64 2]) (by simp [results, Tryz.results113, go_sem]) rfl ⟨rfl, HB.out⟩
     have n10 : ((c.toNat : Int) == 10) = false := by
       rw [beq_eq_false_iff_ne]
       intro e
       exact h10 (UInt8.toNat_inj.1 (by show c.toNat = 10; omega))
     by_cases h13 : c = 13
     · rw [h13] at d1 hdr
       by_cases hend : j + 1 = n
       · have r := HR.out
         have hnil : b.drop (j + 1) = [] := List.drop_of_length_le (by rw [HN.out]; omega)
         rw [linA_more (by rw [hsc, hdr, hnil, rdlP_cr]; rfl)] at r
         subst r
         have hw1 : IntKind.i64.wrap ((j : Int) + 1) = (j : Int) + 1 := by rw [IntWalk.i64_in _ (by omega)]
         have i1 : (((j : Int) + 1) == (n : Int)) = true := by rw [beq_iff_eq]; omega
         clear hsc hdr hc h10 h13 c1 l1 hjb HI hend n10 hnil
         go_wp2_with fail
         exact bodyPost_ret (v := .tuple #[.string ⟨#[]⟩, .int .i64 0, .int .i64 0]) (by simp [results, Tryz.results113, go_sem]) rfl ⟨rfl, HB.out⟩
       · have hw1 : IntKind.i64.wrap ((j : Int) + 1) = (j : Int) + 1 := by rw [IntWalk.i64_in _ (by omega)]
         have i1 : (((j : Int) + 1) == (n : Int)) = false := by rw [beq_eq_false_iff_ne]; omega
         have i2 : (0 : Int) ≤ (j : Int) + 1 := by omega
         have i3 : (j : Int) + 1 < (n : Int) := by omega
         have i4 : ((j : Int) + 1).toNat = j + 1 := by omega
         have hjb1 : j + 1 < b.length := by rw [HN.out]; omega
         have hdr1 := drop2 hjb1
         obtain ⟨b2, o2, e2, l2, c2⟩ := gat_byte HV.out (k := j + 1) (by omega)
         injection e2 with e2
         injection e2 with e3 e4
         subst e3 e4
         have d2 := (HB.out.cell (p := ⟨b1, o1 + (j + 1), none⟩) l2).trans c2
         obtain ⟨d, hd⟩ : ∃ d, b.getD (j + 1) 0 = d := ⟨_, rfl⟩
         rw [hd] at d2 hdr1
         rw [hdr1] at hdr
         by_cases hd10 : d = 10
         · rw [hd10] at d2 hdr
           rw [hdr, rdlP_end] at hsc
           have hsc2 : rdlP 0 (b.drop k) = .line ((b.drop k).take (j - k) ++ []) (b.drop (j + 1 + 1)) := hsc
           rw [List.append_nil] at hsc2
           have hcut := fun w => run_cut_lh2 (P := Tryz.prog) Tryz.underlying22 sizeB (some ⟨b1, o1, none⟩) n vc k j hkj (by omega) w
           have hpc := (HV.out.below HB.out).piece (lo := k) (m := j - k) (by omega)
           obtain ⟨ab, hab⟩ := sl_len (some ⟨b1, o1, none⟩) k (j - k) vc
           rw [hab] at hcut hpc
           have hcv := to_strA W _ _ _ _ hpc
           have hlen : ((b.drop k).take (j - k)).length = j - k := by rw [List.length_take, List.length_drop, HN.out]; omega
           have hw2 : IntKind.i64.wrap ((j : Int) + 2) = (j : Int) + 2 := by rw [IntWalk.i64_in _ (by omega)]
           have r := HR.out
           rw [linA_line hsc2, hlen, show k + (j - k) + 2 = j + 2 by omega] at r
           obtain ⟨S, hS⟩ : ∃ S, (b.drop k).take (j - k) = S := ⟨_, rfl⟩
           rw [hS] at hcv r
           subst r
           clear hsc hsc2 hS hdr hdr1 hc hd h10 h13 hd10 c1 c2 l1 l2 hjb hjb1 HI hend n10 hpc hab hlen
           go_wp2_with fail
           exact bodyPost_ret (v := .tuple #[.string (bo S), .int .i64 ((j + 2 : Nat) : Int), .int .i64 1]) (by simp [results, Tryz.results113, go_sem]) rfl ⟨rfl, HB.out⟩
         · have n11 : ((d.toNat : Int) == 10) = false := by
             rw [beq_eq_false_iff_ne]
             intro e
             exact hd10 (UInt8.toNat_inj.1 (by show d.toNat = 10; omega))
           have n12 : ((d.toNat : Int) != 10) = true := by rw [bne, n11]; rfl
           have r := HR.out
           rw [linA_two (by rw [hsc, hdr, rdlP_odd _ hd10]; rfl)] at r
           subst r
           clear hsc hdr hdr1 hc hd h10 h13 hd10 c1 c2 l1 l2 hjb hjb1 HI hend n10
           go_wp2_with fail
           exact bodyPost_ret (v := .tuple #[.string ⟨#[]⟩, .int .i64 0, .int .i64 2]) (by simp [results, Tryz.results113, go_sem]) rfl ⟨rfl, HB.out⟩
     · have n13 : ((c.toNat : Int) == 13) = false := by
         rw [beq_eq_false_iff_ne]
         intro e
         exact h13 (UInt8.toNat_inj.1 (by show c.toNat = 13; omega))
       have hw1 : IntKind.i64.wrap ((j : Int) - (k : Int)) = (j : Int) - (k : Int) := by rw [IntWalk.i64_in _ (by omega)]
       by_cases hlong : 578 ≤ j - k
       · have i1 : (578 : Int) ≤ (j : Int) - (k : Int) := by omega
         have r := HR.out
         rw [linA_six (by rw [hsc, hdr, rdlP_long ⟨h10, h13⟩ hlong]; rfl)] at r
         subst r
         clear hsc hdr hc h10 h13 c1 l1 hjb HI hlong
         go_wp2_with fail
         exact bodyPost_ret (v := .tuple #[.string ⟨#[]⟩, .int .i64 0, .int .i64 3]) (by simp [results, Tryz.results113, go_sem]) rfl ⟨rfl, HB.out⟩
       · have i1 : ¬ (578 : Int) ≤ (j : Int) - (k : Int) := by omega
         have HI2 := hideL (scan_next hkj hjb HI.out (show inl b[j] by
           have e : b.getD j 0 = b[j] := by simp [List.getD, hjb]
           rw [← e, hc]
           exact ⟨h10, h13⟩))
         clear hsc hdr hc h10 h13 c1 l1 hjb HI
         go_wp2_with fail
         go_roundw
         case rel => exact ⟨j + 1, by omega, by omega, by omega, by go_num, HB, HI2⟩
         case measure => simp [RowKit.intOf]; omega
   · obtain rfl : j = n := by omega
     have hlt' : ¬ (j : Int) < (j : Int) := by omega
     have r := HR.out
     have hnil : b.drop j = [] := List.drop_of_length_le (by rw [HN.out]; exact Nat.le_refl _)
     rw [linA_more (by rw [hsc, hnil, rdlP_nil]; rfl)] at r
     subst r
     clear hsc HI hnil
     go_wp2_with fail
     exact bodyPost_ret (v := .tuple #[.string ⟨#[]⟩, .int .i64 0, .int .i64 0]) (by simp [results, Tryz.results113, go_sem]) rfl ⟨rfl, HB.out⟩
set_option maxRecDepth 100000 in
theorem rfault_any (h : Nat) (w : World) : Calls Tryz.prog 114 #[.int .i64 h] w (fun e w' => e = .returned (.int .i64 ((if h = 2 then 2 else if h = 3 then 6 else 0 : Nat) : Int)) ∧ w' = w) := by
 by_cases h2 : h = 2
 · subst h2
   go_enter Tryz.func114, Tryz.ntmps114
   go_wp2
   go_ret
   exact ⟨rfl, rfl⟩
 rw [if_neg h2]
 have i2 : ((h : Int) == 2) = false := by rw [beq_eq_false_iff_ne]; omega
 by_cases h3 : h = 3
 · subst h3
   go_enter Tryz.func114, Tryz.ntmps114
   go_wp2
   go_ret
   exact ⟨rfl, rfl⟩
 rw [if_neg h3]
 have i3 : ((h : Int) == 3) = false := by rw [beq_eq_false_iff_ne]; omega
 clear h2 h3
 go_enter Tryz.func114, Tryz.ntmps114
 go_wp2
 go_ret
 exact ⟨rfl, rfl⟩
def sizA (s : List UInt8) : Int := match sizeP s with
 | some n => (n : Int)
 | none => -1
theorem sizA_none {s : List UInt8} (h : sizeP s = none) : sizA s = -1 := by unfold sizA; rw [h]
theorem sizeN_none {c : UInt8} (h : hexV c = none) (n : Nat) (r : List UInt8) : sizeN n (c :: r) = none := by
 rw [sizeN, h]
theorem sizeN_some {c : UInt8} {d : Nat} (h : hexV c = some d) (n : Nat) (r : List UInt8) : sizeN n (c :: r) = sizeN (n * 16 + d) r := by
 rw [sizeN, h]
set_option maxRecDepth 100000 in
set_option maxHeartbeats 1000000 in
theorem rsize_any (s : ByteArray) (hs : s.size ≤ 1000000) (w : World) : Calls Tryz.prog 161 #[.string s] w (fun e w' => e = .returned (.int .i64 (sizA s.data.toList)) ∧ Below w.heap.size w w') := by
 have hz := size_list s
 by_cases h0 : s.size = 0
 · have hE : s = ⟨#[]⟩ := bytes_ext (List.eq_nil_of_length_eq_zero (by omega))
   subst hE
   rw [sizA_none (by rfl)]
   clear hz h0
   go_enter Tryz.func161, Tryz.ntmps161
   go_wp2
   go_ret
   exact ⟨rfl, Below.refl _ _⟩
 have i0 : ((s.size : Int) == 0) = false := by rw [beq_eq_false_iff_ne]; omega
 by_cases h4 : 4 < s.size
 · have i4 : (4 : Int) < (s.size : Int) := by omega
   rw [sizA_none (by unfold sizeP; rw [if_pos (.inr (.inl (by omega)))])]
   clear hz h4 h0
   go_enter Tryz.func161, Tryz.ntmps161
   go_wp2
   go_ret
   exact ⟨rfl, Below.refl _ _⟩
 have i4 : ¬ (4 : Int) < (s.size : Int) := by omega
 have h0' : 0 < s.size := by omega
 have i5 : (0 : Int) < (s.size : Int) := by omega
 have hhd : s.data.toList.head? = some (s[0]'h0') := by
   have := byte_at s 0 h0'
   rw [List.drop_zero] at this
   rw [this]
   rfl
 obtain ⟨V, hV⟩ : ∃ V, sizA s.data.toList = V := ⟨_, rfl⟩
 rw [hV]
 by_cases h1 : 1 < s.size ∧ s[0]'h0' = 48
 · have i1 : (1 : Int) < (s.size : Int) := by omega
   have hc := h1.2
   have r := hV
   rw [sizA_none (by unfold sizeP; rw [if_pos (.inr (.inr ⟨by omega, by rw [hhd, hc]⟩))])] at r
   subst r
   clear hz h4 h0 hhd h1 hV
   go_enter Tryz.func161, Tryz.ntmps161
   go_wp2
   go_ret
   exact ⟨rfl, Below.refl _ _⟩
 have hsz : sizeP s.data.toList = sizeN 0 s.data.toList := by
   unfold sizeP
   rw [if_neg]
   rintro (h | h | ⟨h, h'⟩)
   · rw [h] at hz; simp at hz; omega
   · omega
   · rw [hhd] at h'
     injection h' with h'
     exact h1 ⟨by omega, h'⟩
 have HV : HidL ((match sizeN 0 (s.data.toList.drop 0) with | some n => (n : Int) | none => -1) = V) := ⟨by
   rw [List.drop_zero, ← hsz]
   exact hV⟩
 have hh : ¬ (1 : Int) < (s.size : Int) ∨ ((1 : Int) < (s.size : Int) ∧ (((s[0]'h0').toNat : Int) == 48) = false) := by
   by_cases h : 1 < s.size
   · refine .inr ⟨by omega, ?_⟩
     rw [beq_eq_false_iff_ne]
     intro e
     exact h1 ⟨h, UInt8.toNat_inj.1 (by show (s[0]'h0').toNat = 48; omega)⟩
   · exact .inl (by omega)
 have HZ := hideL hz
 have hn4 : s.size ≤ 4 := by omega
 clear hz h4 h0 hhd h1 hV hsz hs
 rcases hh with i1 | ⟨i1, i48⟩
 all_goals
   go_enter Tryz.func161, Tryz.ntmps161
   go_wp2_with fail
   go_loopw [3, 4] (fun nn i wr => ∃ j a : Nat, j ≤ s.size ∧ i = .int .i64 j ∧ nn = .int .i64 a ∧ a < 16 ^ j ∧ wr = w ∧ HidL ((match sizeN a (s.data.toList.drop j) with | some n => (n : Int) | none => -1) = V)) (fun _ i _ => s.size - (RowKit.intOf i).toNat)
   case atStart => exact ⟨0, 0, Nat.zero_le _, rfl, rfl, by decide, rfl, HV⟩
   case round =>
     obtain ⟨j, a, hj, rfl, rfl, ha, rfl, HD⟩ := hrel
     clear HV
     by_cases hlt : j < s.size
     · have hlt' : (j : Int) < (s.size : Int) := by omega
       have hD := HD.out
       rw [byte_at s j hlt] at hD
       have hp : 16 ^ j ≤ 16 ^ 3 := Nat.pow_le_pow_right (by decide) (by omega)
       have hp2 : 16 ^ (j + 1) = 16 ^ j * 16 := Nat.pow_succ ..
       have LH := fun W => hexR_any s[j] W
       obtain ⟨c, hc⟩ : ∃ c, s[j] = c := ⟨_, rfl⟩
       rw [hc] at LH hD
       unfold hexI at LH
       cases hx : hexV c with
       | none =>
         rw [sizeN_none hx] at hD
         simp only [hx] at LH
         have hV : V = -1 := hD.symm
         subst hV
         have LH := hideL LH
         clear HD hD hx hp hp2 ha
         go_wp2_with (go_at_call 132; refine (LH.out _).mono ?_; rintro e w2 ⟨rfl, rfl⟩)
         go_ret
         exact ⟨rfl, Below.refl _ _⟩
       | some d =>
         rw [sizeN_some hx] at hD
         simp only [hx] at LH
         have hd := (hexV_lt c d hx).1
         have LH := hideL LH
         have HD2 := hideL hD
         have hw1 : IntKind.i64.wrap ((a : Int) * 16) = (a : Int) * 16 := by rw [IntWalk.i64_in _ (by omega)]
         have hw2 : IntKind.i64.wrap ((a : Int) * 16 + (d : Int)) = (a : Int) * 16 + (d : Int) := by rw [IntWalk.i64_in _ (by omega)]
         have id0 : ¬ (d : Int) < 0 := by omega
         have ha2 : a * 16 + d < 16 ^ (j + 1) := by rw [hp2]; omega
         clear HD hD hx hp hp2 ha hd
         go_wp2_with (go_at_call 132; refine (LH.out _).mono ?_; rintro e w2 ⟨rfl, rfl⟩)
         go_roundw
         case rel => exact ⟨j + 1, a * 16 + d, by omega, by go_num, by go_num, ha2, trivial, HD2⟩
         case measure => simp [RowKit.intOf]; omega
     · obtain rfl : j = s.size := by omega
       have hlt' : ¬ (s.size : Int) < (s.size : Int) := by omega
       have hD := HD.out
       rw [List.drop_of_length_le (by rw [HZ.out]; exact Nat.le_refl _)] at hD
       have hV : V = (a : Int) := hD.symm
       subst hV
       clear HD hD ha
       go_wp2_with fail
       go_ret
       exact ⟨rfl, Below.refl _ _⟩
end Go.Proofs.YtafmgoekgijfgaaGreatDoor
