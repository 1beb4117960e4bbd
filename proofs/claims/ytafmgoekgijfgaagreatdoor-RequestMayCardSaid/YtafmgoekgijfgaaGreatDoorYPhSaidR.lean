/- The document's Said. -/
import Derived.Test.YtafmgoekgijfgaaGreatDoorYRqM2
import Derived.Test.YtafmgoekgijfgaaGreatDoorYPhRef
import Derived.Test.YtafmgoekgijfgaaGreatDoorYPhSpell
import Derived.Deep.DeepCutAuto
import Derived.Deep.RegionWith
import Derived.Deep.RegionHeld3
namespace Go.Proofs.YtafmgoekgijfgaaGreatDoor
open Go.RowKit

def badB (road : Bool) (c : UInt8) : Bool := road && badR c
theorem badB_t : badB true = badR := by funext c; unfold badB; rfl
theorem badB_f : badB false = nobad := by funext c; unfold badB nobad; rfl
def digL : List UInt8 := [48, 49, 50, 51, 52, 53, 54, 55, 56, 57, 65, 66, 67, 68, 69, 70]
def digHB : ByteArray := ⟨#[48, 49, 50, 51, 52, 53, 54, 55, 56, 57, 65, 66, 67, 68, 69, 70]⟩
theorem dig_up : ∀ n : Nat, n < 256 → ∀ x, hexV (UInt8.ofNat n) = some x → x < 16 ∧ digL.getD x 0 = upB (UInt8.ofNat n) := by
 have h : ∀ n : Nat, n < 256 → (match hexV (UInt8.ofNat n) with
   | some x => decide (x < 16 ∧ digL.getD x 0 = upB (UInt8.ofNat n))
   | none => true) = true := by decide +kernel
 intro n hn x hx
 have := h n hn
 rw [hx] at this
 exact of_decide_eq_true this
theorem dig_eq {c : UInt8} {x : Nat} (h : hexV c = some x) : x < 16 ∧ digL.getD x 0 = upB c := by
 have := dig_up c.toNat c.toNat_lt x
 rw [UInt8.ofNat_toNat] at this
 exact this h
theorem dig_cut (x : Nat) (h : x < 16) : digHB.extract x (x + 1) = bo [digL.getD x 0] := by
 have : x = 0 ∨ x = 1 ∨ x = 2 ∨ x = 3 ∨ x = 4 ∨ x = 5 ∨ x = 6 ∨ x = 7 ∨ x = 8 ∨ x = 9 ∨ x = 10 ∨ x = 11 ∨ x = 12 ∨ x = 13 ∨ x = 14 ∨ x = 15 := by omega
 apply bytes_ext
 rw [ex_list, bo_list]
 rcases this with rfl | rfl | rfl | rfl | rfl | rfl | rfl | rfl | rfl | rfl | rfl | rfl | rfl | rfl | rfl | rfl <;> rfl
theorem hexI_some {c : UInt8} {x : Nat} (h : hexV c = some x) : hexI c = (x : Int) := by unfold hexI; rw [h]
theorem two_parts {a b v : UInt8} (h : twoV a b = some v) : ∃ x y, hexV a = some x ∧ hexV b = some y ∧ x < 16 ∧ y < 16 ∧ v.toNat = x * 16 + y := by
 unfold twoV at h
 cases ha : hexV a with
 | none => rw [ha] at h; cases h
 | some x =>
   cases hb : hexV b with
   | none => rw [ha, hb] at h; cases h
   | some y =>
     rw [ha, hb] at h
     injection h with h
     have h1 := (dig_eq ha).1
     have h2 := (dig_eq hb).1
     refine ⟨x, y, rfl, rfl, h1, h2, ?_⟩
     rw [← h, UInt8.toNat_ofNat']
     omega
def letB (n : Nat) : Bool := decide (48 ≤ n ∧ n ≤ 57 ∨ 65 ≤ n ∧ n ≤ 90 ∨ 97 ≤ n ∧ n ≤ 122)
def badN (n : Nat) : Bool := decide (n < 32 ∨ n = 127 ∨ n = 47 ∨ n = 92)
def plN (n : Nat) : Bool := letB n || decide (n = 45 ∨ n = 46 ∨ n = 95 ∨ n = 126)
theorem plN_eq (c : UInt8) : plB c = plN c.toNat := by
 unfold plB plN letB
 rw [Bool.eq_iff_iff, Bool.or_eq_true, decide_eq_true_eq, decide_eq_true_eq, decide_eq_true_eq]
 omega
theorem bits_low4 : ∀ n : Nat, n < 256 → bits .and .u8 (n : Int) 15 = ((n % 16 : Nat) : Int) := by decide +kernel
theorem cat_one (acc : List UInt8) {s : ByteArray} {k : Nat} (h : k < s.size) : bo acc ++ s.extract k (k + 1) = bo (acc ++ [s[k]]) := by
 apply bytes_ext
 rw [ByteArray.data_append, Array.toList_append, bo_list, bo_list, ex_list, byte_at s k h, show k + 1 - k = 1 by omega]
 rfl
theorem cat_bo (a b : List UInt8) : bo a ++ bo b = bo (a ++ b) := by
 apply bytes_ext
 rw [ByteArray.data_append, Array.toList_append]
 rfl

set_option maxRecDepth 100000 in
set_option maxHeartbeats 2000000 in
theorem saidR_any (s : ByteArray) (road : Bool) (hs : s.size ≤ 1000000) (hm : mayT s.data.toList = true) (w : World) : Calls Tryz.prog 84 #[.string s, .bool road] w fun e w' => e = .returned (if (spP (badB road) s.data.toList).2 = true then .tuple #[.string (bo (spP (badB road) s.data.toList).1), .bool true] else .tuple #[.string ⟨#[]⟩, .bool false]) ∧ Below w.heap.size w w' := by
 have hsz := size_list s
 obtain ⟨R, hR⟩ : ∃ R, spP (badB road) s.data.toList = R := ⟨_, rfl⟩
 have HR0 : HidL (comb ([], true) (spP (badB road) (s.data.toList.drop 0)) = R) := ⟨by rw [comb_nil]; exact hR⟩
 have HM0 : HidL (mayT (s.data.toList.drop 0) = true) := ⟨hm⟩
 rw [hR]
 have HH := hideL (fun (c : UInt8) (W : World) => hexR_any c W)
 clear hR hm
 go_enter Tryz.func84, Tryz.ntmps84
 go_wp2_with fail
 go_loopg [6, 7] s.size (fun g o i wr => ∃ (k : Nat) (acc : List UInt8), i = .int .i64 k ∧ k + g = s.size ∧ acc.length ≤ k ∧ o = .string (bo acc) ∧ HidL (Below w.heap.size w wr) ∧ HidL (mayT (s.data.toList.drop k) = true) ∧ HidL (comb (acc, true) (spP (badB road) (s.data.toList.drop k)) = R))
 case atStart => exact ⟨0, [], rfl, Nat.zero_add _, Nat.le_refl _, rfl, ⟨Below.refl _ _⟩, HM0, HR0⟩
 case round =>
   obtain ⟨k, acc, rfl, hkg, hal, rfl, HB, HM, HR⟩ := hrel
   clear HM0 HR0
   obtain ⟨W, rfl⟩ : ∃ W, W = wr := ⟨_, rfl⟩
   have hba : (bo acc).size ≤ k := by rw [bo_size]; exact hal
   by_cases hlt : k < s.size
   · have hlt' : (k : Int) < (s.size : Int) := by omega
     have hd := byte_at s k hlt
     have hM := HM.out
     rw [hd] at hM
     rw [hd] at HR
     by_cases h37 : s[k] = 37
     · have i37 : ((((s[k]).toNat : Nat) : Int) == 37) = true := by rw [h37]; rfl
       rw [h37] at hM HR
       obtain ⟨a, b, r', hr, ⟨v, hv⟩, hMr⟩ := mayT_pct hM
       have hk3 : k + 3 ≤ s.size := by
         have := congrArg List.length hr
         rw [List.length_drop, size_list] at this
         simp only [List.length_cons] at this
         omega
       have hk1 : k + 1 < s.size := by omega
       have hk2 : k + 2 < s.size := by omega
       have hab : s[k + 1] = a ∧ s[k + 2] = b ∧ s.data.toList.drop (k + 3) = r' := by
         rw [byte_at s (k + 1) hk1, byte_at s (k + 2) hk2] at hr
         injection hr with h1 h2
         injection h2 with h2 h3
         exact ⟨h1, h2, h3⟩
       obtain ⟨ha, hb, hr3⟩ := hab
       obtain ⟨x, y, hx, hy, hx16, hy16, hxy⟩ := two_parts hv
       have H1 := hideL (HH.out s[k + 1])
       have H2 := hideL (HH.out s[k + 2])
       rw [ha, hexI_some hx, ← ha] at H1
       rw [hb, hexI_some hy, ← hb] at H2
       have hux := (dig_eq hx).2
       have huy := (dig_eq hy).2
       rw [hr] at HR
       have hbd : badB road v = (road && badN v.toNat) := rfl
       have hpl := plN_eq v
       have hpu : putB v a b = if plN v.toNat = true then [v] else [37, digL.getD x 0, digL.getD y 0] := by unfold putB; rw [hpl, hux, huy]
       have hv256 := v.toNat_lt
       have hvo : bo [v] = bo [UInt8.ofNat v.toNat] := by rw [UInt8.ofNat_toNat]
       have HTS := hideL (fun (W : World) => to_str (W.alloc (.cells #[.int .u8 v.toNat] 5)) W.heap.size (.slice (some ⟨W.heap.size, 0, none⟩) 1 1) [v] (GRow.lit (K := KB) W W.heap.size [v] (Nat.le_refl _) (by simp [maxLen])))
       have HSP : HidL (spP (badB road) (37 :: a :: b :: r') = if (road && badN v.toNat) = true then ([], false) else ((if plN v.toNat = true then [v] else [37, digL.getD x 0, digL.getD y 0]) ++ (spP (badB road) r').1, (spP (badB road) r').2)) := ⟨by
         cases hbb : badB road v
         · rw [spP_two hv hbb, hpu, ← hbd, hbb]; rfl
         · rw [spP_bad hv hbb, ← hbd, hbb]; rfl⟩
       have HMr : HidL (mayT (s.data.toList.drop (k + 3)) = true) := ⟨by rw [hr3]; exact hMr⟩
       have HR3 := hideL hr3
       have hk1' : ((k : Int) + 1) < (s.size : Int) := by omega
       have hk2' : ((k : Int) + 2) < (s.size : Int) := by omega
       have ik1 : ((k : Int) + 1).toNat = k + 1 := by omega
       have ik2 : ((k : Int) + 2).toNat = k + 2 := by omega
       have HXY := hideL hxy
       clear hM HM h37 hd hr hux huy hx hy hpu hbd hpl hvo hMr hr3 hv hxy ha hb
       generalize hn : v.toNat = n at *
       have wk1 : IntKind.i64.wrap ((k : Int) + 1) = ((k + 1 : Nat) : Int) := by rw [IntKind.wrap_i64]; omega
       have wk2 : IntKind.i64.wrap ((k : Int) + 2) = ((k + 2 : Nat) : Int) := by rw [IntKind.wrap_i64]; omega
       have nk1 : (0 : Int) ≤ (k : Int) + 1 := by omega
       have nk2 : (0 : Int) ≤ (k : Int) + 2 := by omega
       have bk1 : ((k + 1 : Nat) : Int) < (s.size : Int) := by omega
       have bk2 : ((k + 2 : Nat) : Int) < (s.size : Int) := by omega
       have wx : IntKind.i64.wrap ((x : Int) * 16) = ((x * 16 : Nat) : Int) := by rw [IntKind.wrap_i64]; omega
       have wxy : IntKind.i64.wrap ((x : Int) * 16 + (y : Int)) = (n : Int) := by have := HXY.out; rw [IntKind.wrap_i64]; omega
       have wu : IntKind.u8.wrap (n : Int) = (n : Int) := by rw [IntKind.wrap_u8]; omega
       go_upto_region 7 with fail
       go_cut [8] (fun s8 W' => s8 = .int .u8 n ∧ HidL (Below w.heap.size w W'))
       case first =>
         refine wp_region_held_drew (S := fun w' => Below w.heap.size w w') (by kernel_rfl) (HB.out.drew) (fun hHeld => ?_)
         refine tl 0 rfl hHeld ?_
         try simp only [pA, pB, pC, pD]
         refine tl 1 rfl hHeld ?_
         try simp only [pA, pB, pC, pD]
         refine tl 2 rfl hHeld ?_
         try simp only [pA, pB, pC, pD]
         refine tl 3 rfl hHeld ?_
         try simp only [pA, pB, pC, pD]
         refine tl 6 rfl hHeld ?_
         try simp only [pA, pB, pC, pD]
         refine tl 7 rfl hHeld ?_
         try simp only [pA, pB, pC, pD]
         refine tl 8 rfl hHeld ?_
         try simp only [pA, pB, pC, pD]
         refine tl 9 rfl hHeld ?_
         try simp only [pA, pB, pC, pD]
         refine wpAnyH_ready (rs := [4]) (by kernel_rfl) (by simp) ?_
         refine aC rfl (fun K hK => ?_)
         clear hHeld
         go_simp
         refine (H1.out _).mono ?_
         rintro e V1 ⟨rfl, hw1⟩
         have HB1 := hideL (show Below w.heap.size w V1 from hw1 ▸ HB.out.drew)
         refine hK.out _ _ (HB1.out) (fun hHeld => ?_)
         clear hK K
         try simp only [pA, pB, pC, pD]
         refine tl 5 rfl hHeld ?_
         try simp only [pA, pB, pC, pD]
         refine wpAnyH_ready (rs := [10]) (by kernel_rfl) (by simp) ?_
         refine aC rfl (fun K hK => ?_)
         clear hHeld
         go_simp
         refine (H2.out _).mono ?_
         rintro e V2 ⟨rfl, hw2⟩
         have HB2 := hideL (show Below w.heap.size w V2 by rw [hw2]; first | exact HB1.out | exact HB.out.drew)
         refine hK.out _ _ (HB2.out) (fun hHeld => ?_)
         clear hK K
         try simp only [pA, pB, pC, pD]
         refine tl 11 rfl hHeld ?_
         try simp only [pA, pB, pC, pD]
         refine tl 12 rfl hHeld ?_
         try simp only [pA, pB, pC, pD]
         refine tl 13 rfl hHeld ?_
         try simp only [pA, pB, pC, pD]
         refine wpAnyH_done (by kernel_rfl) ?_ _
         clear hHeld
         go_wp2_with fail
         go_meet
         case rel => exact ⟨rfl, HB2⟩
       case rest =>
         obtain ⟨rfl, HBc⟩ := hcut
         obtain ⟨WC, rfl⟩ : ∃ X, X = wc := ⟨_, rfl⟩
         clear wk1 wk2 nk1 nk2 bk1 bk2 wx wxy wu ik1 ik2 H1 H2 hk1' hk2' HB HH
         go_upto_region 8 with fail
         go_cut [9] (fun s9 W' => s9 = .bool (letB n) ∧ W' = WC)
         case first =>
           have L : (n ≤ 47) ∨ (48 ≤ n ∧ n ≤ 57) ∨ (58 ≤ n ∧ n ≤ 64) ∨ (65 ≤ n ∧ n ≤ 90) ∨ (91 ≤ n ∧ n ≤ 96) ∨ (97 ≤ n ∧ n ≤ 122) ∨ (123 ≤ n) := by omega
           rcases L with h | h | h | h | h | h | h
           · have hl : letB n = false := decide_eq_false (by omega)
             have a48 : ¬ (48 : Int) ≤ (n : Int) := by omega
             have a65 : ¬ (65 : Int) ≤ (n : Int) := by omega
             have a97 : ¬ (97 : Int) ≤ (n : Int) := by omega
             have b57 : (n : Int) ≤ 57 := by omega
             have b90 : (n : Int) ≤ 90 := by omega
             have b122 : (n : Int) ≤ 122 := by omega
             go_wp2_with fail
             go_meet
             case rel => exact ⟨by rw [hl], rfl⟩
           · have hl : letB n = true := decide_eq_true (by omega)
             have a48 : (48 : Int) ≤ (n : Int) := by omega
             have a65 : ¬ (65 : Int) ≤ (n : Int) := by omega
             have a97 : ¬ (97 : Int) ≤ (n : Int) := by omega
             have b57 : (n : Int) ≤ 57 := by omega
             have b90 : (n : Int) ≤ 90 := by omega
             have b122 : (n : Int) ≤ 122 := by omega
             go_wp2_with fail
             go_meet
             case rel => exact ⟨by rw [hl], rfl⟩
           · have hl : letB n = false := decide_eq_false (by omega)
             have a48 : (48 : Int) ≤ (n : Int) := by omega
             have a65 : ¬ (65 : Int) ≤ (n : Int) := by omega
             have a97 : ¬ (97 : Int) ≤ (n : Int) := by omega
             have b57 : ¬ (n : Int) ≤ 57 := by omega
             have b90 : (n : Int) ≤ 90 := by omega
             have b122 : (n : Int) ≤ 122 := by omega
             go_wp2_with fail
             go_meet
             case rel => exact ⟨by rw [hl], rfl⟩
           · have hl : letB n = true := decide_eq_true (by omega)
             have a48 : (48 : Int) ≤ (n : Int) := by omega
             have a65 : (65 : Int) ≤ (n : Int) := by omega
             have a97 : ¬ (97 : Int) ≤ (n : Int) := by omega
             have b57 : ¬ (n : Int) ≤ 57 := by omega
             have b90 : (n : Int) ≤ 90 := by omega
             have b122 : (n : Int) ≤ 122 := by omega
             go_wp2_with fail
             go_meet
             case rel => exact ⟨by rw [hl], rfl⟩
           · have hl : letB n = false := decide_eq_false (by omega)
             have a48 : (48 : Int) ≤ (n : Int) := by omega
             have a65 : (65 : Int) ≤ (n : Int) := by omega
             have a97 : ¬ (97 : Int) ≤ (n : Int) := by omega
             have b57 : ¬ (n : Int) ≤ 57 := by omega
             have b90 : ¬ (n : Int) ≤ 90 := by omega
             have b122 : (n : Int) ≤ 122 := by omega
             go_wp2_with fail
             go_meet
             case rel => exact ⟨by rw [hl], rfl⟩
           · have hl : letB n = true := decide_eq_true (by omega)
             have a48 : (48 : Int) ≤ (n : Int) := by omega
             have a65 : (65 : Int) ≤ (n : Int) := by omega
             have a97 : (97 : Int) ≤ (n : Int) := by omega
             have b57 : ¬ (n : Int) ≤ 57 := by omega
             have b90 : ¬ (n : Int) ≤ 90 := by omega
             have b122 : (n : Int) ≤ 122 := by omega
             go_wp2_with fail
             go_meet
             case rel => exact ⟨by rw [hl], rfl⟩
           · have hl : letB n = false := decide_eq_false (by omega)
             have a48 : (48 : Int) ≤ (n : Int) := by omega
             have a65 : (65 : Int) ≤ (n : Int) := by omega
             have a97 : (97 : Int) ≤ (n : Int) := by omega
             have b57 : ¬ (n : Int) ≤ 57 := by omega
             have b90 : ¬ (n : Int) ≤ 90 := by omega
             have b122 : ¬ (n : Int) ≤ 122 := by omega
             go_wp2_with fail
             go_meet
             case rel => exact ⟨by rw [hl], rfl⟩
         case rest =>
           obtain ⟨rfl, hwc⟩ := hcut
           rw [hwc]
           clear hwc
           obtain ⟨lb, hlb⟩ : ∃ lb, letB n = lb := ⟨_, rfl⟩
           rw [hlb]
           have HLB := hideL hlb
           clear hlb
           go_upto_region 9 with fail
           go_cut [78] (fun s78 W' => s78 = .bool (road && badN n) ∧ W' = WC)
           case first =>
             cases road
             · have hl : (false && badN n) = false := rfl
               go_wp2_with fail
               go_meet
               case rel => exact ⟨by rw [hl], rfl⟩
             · have L : n < 32 ∨ n = 127 ∨ n = 47 ∨ n = 92 ∨ (32 ≤ n ∧ n ≠ 127 ∧ n ≠ 47 ∧ n ≠ 92) := by omega
               rcases L with h | h | h | h | h
               · have hl : (true && badN n) = true := by rw [Bool.true_and]; exact decide_eq_true (by omega)
                 have i32 : (n : Int) < 32 := by omega
                 clear h
                 go_wp2_with fail
                 go_meet
                 case rel => exact ⟨by rw [hl], rfl⟩
               · subst h
                 have hl : (true && badN 127) = true := rfl
                 go_wp2_with fail
                 go_meet
                 case rel => exact ⟨by rw [hl], rfl⟩
               · subst h
                 have hl : (true && badN 47) = true := rfl
                 go_wp2_with fail
                 go_meet
                 case rel => exact ⟨by rw [hl], rfl⟩
               · subst h
                 have hl : (true && badN 92) = true := rfl
                 go_wp2_with fail
                 go_meet
                 case rel => exact ⟨by rw [hl], rfl⟩
               · have hl : (true && badN n) = false := by rw [Bool.true_and]; exact decide_eq_false (by omega)
                 have i32 : ¬ (n : Int) < 32 := by omega
                 have e127 : ((n : Int) == 127) = false := beq_eq_false_iff_ne.2 (by omega)
                 have e47 : ((n : Int) == 47) = false := beq_eq_false_iff_ne.2 (by omega)
                 have e92 : ((n : Int) == 92) = false := beq_eq_false_iff_ne.2 (by omega)
                 clear h
                 go_wp2_with fail
                 go_meet
                 case rel => exact ⟨by rw [hl], rfl⟩
           case rest =>
             obtain ⟨rfl, hwc⟩ := hcut
             rw [hwc]
             clear hwc
             obtain ⟨B, hB⟩ : ∃ B, (road && badN n) = B := ⟨_, rfl⟩
             have HSP2 := HSP.out
             rw [hB] at HSP2 ⊢
             clear hB HSP
             cases B
             · have hX := spell_step HR.out HSP2
               rw [← HR3.out] at hX
               have HX := hideL hX
               clear hX HSP2 HR HR3
               go_upto_region 11 with fail
               go_cut [95] (fun s95 W' => s95 = .bool (plN n) ∧ W' = WC)
               case first =>
                 cases lb
                 · have L : n = 45 ∨ n = 46 ∨ n = 95 ∨ n = 126 ∨ (n ≠ 45 ∧ n ≠ 46 ∧ n ≠ 95 ∧ n ≠ 126) := by omega
                   rcases L with h | h | h | h | h
                   · subst h
                     have hl : plN 45 = true := rfl
                     go_wp2_with fail
                     go_meet
                     case rel => exact ⟨by rw [hl], rfl⟩
                   · subst h
                     have hl : plN 46 = true := rfl
                     go_wp2_with fail
                     go_meet
                     case rel => exact ⟨by rw [hl], rfl⟩
                   · subst h
                     have hl : plN 95 = true := rfl
                     go_wp2_with fail
                     go_meet
                     case rel => exact ⟨by rw [hl], rfl⟩
                   · subst h
                     have hl : plN 126 = true := rfl
                     go_wp2_with fail
                     go_meet
                     case rel => exact ⟨by rw [hl], rfl⟩
                   · have hl : plN n = false := by unfold plN; rw [HLB.out, Bool.false_or]; exact decide_eq_false (by omega)
                     have e45 : ((n : Int) == 45) = false := beq_eq_false_iff_ne.2 (by omega)
                     have e46 : ((n : Int) == 46) = false := beq_eq_false_iff_ne.2 (by omega)
                     have e95 : ((n : Int) == 95) = false := beq_eq_false_iff_ne.2 (by omega)
                     have e126 : ((n : Int) == 126) = false := beq_eq_false_iff_ne.2 (by omega)
                     clear h
                     go_wp2_with fail
                     go_meet
                     case rel => exact ⟨by rw [hl], rfl⟩
                 · have hl : plN n = true := by unfold plN; rw [HLB.out]; rfl
                   go_wp2_with fail
                   go_meet
                   case rel => exact ⟨by rw [hl], rfl⟩
               case rest =>
                 obtain ⟨rfl, hwc⟩ := hcut
                 rw [hwc]
                 clear hwc
                 obtain ⟨P, hP⟩ : ∃ P, plN n = P := ⟨_, rfl⟩
                 rw [hP] at HX ⊢
                 clear hP
                 cases P
                 · have hxy := HXY.out
                   have HBd := hideL HBc.out.drew
                   have d1 : (n : Int) / 16 = (x : Int) := by omega
                   have d2 : (n : Int) % 16 = (y : Int) := by omega
                   have d3 : bits .and .u8 (n : Int) 15 = (y : Int) := by rw [bits_low4 n hv256]; omega
                   have w1 : IntKind.u8.wrap ((x : Int) + 1) = (x : Int) + 1 := by rw [IntKind.wrap_u8]; omega
                   have w2 : IntKind.u8.wrap ((y : Int) + 1) = (y : Int) + 1 := by rw [IntKind.wrap_u8]; omega
                   have w3 : (x : Int) + 1 ≤ 16 := by omega
                   have w4 : (y : Int) + 1 ≤ 16 := by omega
                   have w5 : ((x : Int) + 1).toNat = x + 1 := by omega
                   have w6 : ((y : Int) + 1).toNat = y + 1 := by omega
                   have w7 : (x : Int) ≤ (x : Int) + 1 := by omega
                   have w8 : (y : Int) ≤ (y : Int) + 1 := by omega
                   have x1 : (⟨#[48, 49, 50, 51, 52, 53, 54, 55, 56, 57, 65, 66, 67, 68, 69, 70]⟩ : ByteArray).extract x (x + 1) = bo [digL.getD x 0] := dig_cut x hx16
                   have y1 : (⟨#[48, 49, 50, 51, 52, 53, 54, 55, 56, 57, 65, 66, 67, 68, 69, 70]⟩ : ByteArray).extract y (y + 1) = bo [digL.getD y 0] := dig_cut y hy16
                   have x2 : (bo [digL.getD x 0]).size = 1 := rfl
                   have y2 : (bo [digL.getD y 0]).size = 1 := rfl
                   have z1 : ¬ 9223372036854775807 < (bo acc).size + 1 := by omega
                   have z2 : ¬ 9223372036854775807 < (bo acc).size + 1 + 1 := by omega
                   have z3 : ¬ 9223372036854775807 < (bo acc).size + 1 + 1 + 1 := by omega
                   have HX2 : HidL (comb (acc ++ [37, digL.getD x 0, digL.getD y 0], true) (spP (badB road) (s.data.toList.drop (k + 3))) = R) := ⟨HX.out⟩
                   have hcat : bo acc ++ ⟨#[37]⟩ ++ bo [digL.getD x 0] ++ bo [digL.getD y 0] = bo (acc ++ [37, digL.getD x 0, digL.getD y 0]) := by
                     rw [show (⟨#[37]⟩ : ByteArray) = bo [37] from rfl, cat_bo, cat_bo, cat_bo, List.append_assoc, List.append_assoc]; rfl
                   have HCAT := hideL hcat
                   clear hxy hcat HX
                   generalize digL.getD x 0 = dx at *
                   generalize digL.getD y 0 = dy at *
                   have hk3' : ((k : Int) + 3) ≤ (s.size : Int) := by omega
                   clear HTS
                   go_upto_region 13 with fail
                   refine wp_region_held_drew (S := fun w' => Below w.heap.size w w') (by kernel_rfl) (HBc.out.drew) (fun hHeld => ?_)
                   refine tl 0 rfl hHeld ?_
                   try simp only [pA, pB, pC, pD]
                   refine tl 1 rfl hHeld ?_
                   try simp only [pA, pB, pC, pD]
                   refine tl 2 rfl hHeld ?_
                   try simp only [pA, pB, pC, pD]
                   refine tl 3 rfl hHeld ?_
                   try simp only [pA, pB, pC, pD]
                   refine tl 4 rfl hHeld ?_
                   try simp only [pA, pB, pC, pD]
                   refine tl 5 rfl hHeld ?_
                   try simp only [pA, pB, pC, pD]
                   refine tl 6 rfl hHeld ?_
                   try simp only [pA, pB, pC, pD]
                   refine tl 7 rfl hHeld ?_
                   try simp only [pA, pB, pC, pD]
                   refine tl 8 rfl hHeld ?_
                   try simp only [pA, pB, pC, pD]
                   refine tl 9 rfl hHeld ?_
                   try simp only [pA, pB, pC, pD]
                   refine tl 10 rfl hHeld ?_
                   try simp only [pA, pB, pC, pD]
                   refine tl 11 rfl hHeld ?_
                   try simp only [pA, pB, pC, pD]
                   refine tl 12 rfl hHeld ?_
                   try simp only [pA, pB, pC, pD]
                   refine tl 13 rfl hHeld ?_
                   try simp only [pA, pB, pC, pD]
                   refine tl 14 rfl hHeld ?_
                   try simp only [pA, pB, pC, pD]
                   refine tl 15 rfl hHeld ?_
                   try simp only [pA, pB, pC, pD]
                   refine tl 16 rfl hHeld ?_
                   try simp only [pA, pB, pC, pD]
                   refine wpAnyH_done (by kernel_rfl) ?_ _
                   clear hHeld
                   rw [HCAT.out]
                   go_wp2_with fail
                   go_roundg (s.size - (k + 3))
                   case measure => omega
                   case rel => exact ⟨k + 3, _, by go_num, by omega, by rw [List.length_append]; simp; omega, rfl, HBd, HMr, HX2⟩
                 · have hts := HTS.out WC
                   have hv1 : (bo [v]).size = 1 := rfl
                   have HX2 : HidL (comb (acc ++ [v], true) (spP (badB road) (s.data.toList.drop (k + 3))) = R) := ⟨HX.out⟩
                   have HBn := hideL (HBc.out.alloc HBc.out.size (.cells #[.int .u8 n] 5))
                   have hk3' : ((k : Int) + 3) ≤ (s.size : Int) := by omega
                   clear HX HTS
                   go_wp2_with fail
                   go_roundg (s.size - (k + 3))
                   case measure => omega
                   case rel => exact ⟨k + 3, _, by go_num, by omega, by rw [List.length_append]; simp; omega, by rw [cat_bo], HBn, HMr, HX2⟩
             · have hX := spell_stop HR.out HSP2
               subst hX
               clear HSP2 HR HR3 HTS
               go_wp2_with fail
               go_ret2
               exact ⟨rfl, HBc.out⟩
     · have i37 : ((((s[k]).toNat : Nat) : Int) == 37) = false := beq_eq_false_iff_ne.2 (fun e => h37 (UInt8.toNat_inj.1 (by rw [show (37 : UInt8).toNat = 37 from rfl]; omega)))
       obtain ⟨hst, hMr⟩ := mayT_one hM
       have hX := spell_step (x := [s[k]]) HR.out (spP_one h37 hst _)
       have HX := hideL hX
       have HMr := hideL hMr
       have hex1 : (s.extract k (k + 1)).size = 1 := by
         have := congrArg ByteArray.size (cat_one acc hlt)
         rw [ByteArray.size_append, bo_size, bo_size, List.length_append] at this
         simp at this
         simp
         omega
       have HCT := hideL (cat_one acc hlt)
       have z1 : ¬ 9223372036854775807 < (bo acc).size + 1 := by omega
       have hk1' : ((k : Int) + 1) ≤ (s.size : Int) := by omega
       clear hM hMr hX hst h37 hd HM HR HH
       go_wp2_with fail
       go_roundg (s.size - (k + 1))
       case measure => omega
       case rel => exact ⟨k + 1, _, by go_num, by omega, by rw [List.length_append]; simp; omega, by rw [HCT.out], HB, HMr, HX⟩
   · obtain rfl : k = s.size := by omega
     have hlt' : ¬ (s.size : Int) < (s.size : Int) := by omega
     rw [List.drop_of_length_le (by omega)] at HR
     have hX := spell_end HR.out
     subst hX
     clear HR HM HH
     go_wp2_with fail
     go_ret2
     exact ⟨rfl, HB.out⟩
end Go.Proofs.YtafmgoekgijfgaaGreatDoor
