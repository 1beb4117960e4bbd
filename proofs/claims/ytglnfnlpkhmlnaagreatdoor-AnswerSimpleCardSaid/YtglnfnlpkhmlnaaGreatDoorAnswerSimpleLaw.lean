/- AnswerSimple: the answer of any code and body. -/
import Derived.Test.YtglnfnlpkhmlnaaGreatDoorAnCon
import Derived.Test.YtglnfnlpkhmlnaaGreatDoorAnRMay
import Derived.Test.YtglnfnlpkhmlnaaGreatDoorAnAwake
namespace Go.Proofs.YtglnfnlpkhmlnaaGreatDoor
open Go.RowKit Go.Lib

theorem asim_noC {c : Int} {s : ByteArray} (hs : s.size ≤ 9999) (hm : mayAB (simA c s.data.toList) = false) (w : World) (ht : (Env w ∧ EnvS w) ∧ EnvT w) : Calls Tryz.prog 46 #[.int .i64 c, .string s] w (AnOkC w an0 1) := by
  have k := asim_any c s hs w ht
  unfold ASiPost at k
  rw [hm, if_neg Bool.false_ne_true, if_neg Bool.false_ne_true] at k
  exact k
theorem asim_okC {c : Int} {s : ByteArray} (hs : s.size ≤ 9999) (hm : mayAB (simA c s.data.toList) = true) (w : World) (ht : (Env w ∧ EnvS w) ∧ EnvT w) : Calls Tryz.prog 46 #[.int .i64 c, .string s] w (AnOkC w (simA c s.data.toList) 0) := by
  have k := asim_any c s hs w ht
  unfold ASiPost at k
  rw [hm, if_pos rfl, if_pos rfl] at k
  exact k
set_option maxRecDepth 100000 in
set_option maxHeartbeats 4000000 in
theorem asmp_long (c : Int) (s : ByteArray) (w : World) (ht : (Env w ∧ EnvS w) ∧ EnvT w) (h3 : 3000 < s.size) :
    Calls Tryz.prog 9 #[.int .i64 c, .string s] w fun e w' => e = .returned (.bool true) ∧ Below w.heap.size w w' := by
  have LT := hideL (fun (W : World) (hb : Below w.heap.size w W) => (⟨⟨ht.1.1.next hb, ht.1.2.next hb⟩, ht.2.next hb⟩ : (Env W ∧ EnvS W) ∧ EnvT W))
  have LA := hideL (fun (W : World) (hb : Below w.heap.size w W) => awakeA_any W (LT.out W hb))
  have i1 : (3000 : Int) < (s.size : Int) := by omega
  have HB1 := hideL (Below.refl w.heap.size w)
  clear ht h3
  go_enter Tryz.func9, Tryz.ntmps9
  go_wp2_with (go_at_call 33; (with_reducible refine (LA.out _ HB1.out).mono ?_); rintro e w9 ⟨rfl, hB⟩; have HB9 := hideL (HB1.out.trans (hB.mono HB1.out.size)); clear hB)
  go_ret
  exact ⟨rfl, HB9.out⟩
set_option maxRecDepth 100000 in
set_option maxHeartbeats 4000000 in
theorem asmp_lo (c : Int) (s : ByteArray) (w : World) (ht : (Env w ∧ EnvS w) ∧ EnvT w) (h3 : ¬ 3000 < s.size) (hm : mayAB (simA c s.data.toList) = false) (h : c < 200) :
    Calls Tryz.prog 9 #[.int .i64 c, .string s] w fun e w' => e = .returned (.bool true) ∧ Below w.heap.size w w' := by
  have LT := hideL (fun (W : World) (hb : Below w.heap.size w W) => (⟨⟨ht.1.1.next hb, ht.1.2.next hb⟩, ht.2.next hb⟩ : (Env W ∧ EnvS W) ∧ EnvT W))
  have LA := hideL (fun (W : World) (hb : Below w.heap.size w W) => awakeA_any W (LT.out W hb))
  have i1 : ¬ (3000 : Int) < (s.size : Int) := by omega
  have LS := hideL (asim_noC (by omega) hm w ht)
  have HZ : HidL (∀ W, AnsAt W ⟨0, ⟨none, 0, 0⟩, ⟨none, 0, 0⟩⟩ an0) := ⟨fun W => AnsAt.zero W⟩
  clear ht h3 hm
  go_enter Tryz.func9, Tryz.ntmps9
  go_wp2_with (first
    | (go_at_call 46; (with_reducible refine LS.out.mono ?_); rintro e w2 ⟨⟨k, ha, hn, hc, ba, bn, bc, rfl, hx⟩, hB⟩
       have hz2 := (Below.refl w2.heap.size w2).alloc (Nat.le_refl _) (anC k (.slice ha hn hc) (.slice ba bn bc))
       have HB2 := hideL (hB.trans (hz2.mono hB.size))
       have LQ := hideL (rsameA k 0 ha hn hc ba bn bc none 0 0 none 0 0 an0 an0 _ (hx.below hz2) (HZ.out _) (by decide))
       clear hx hB hz2)
    | (go_at_call 39; (with_reducible refine LQ.out.mono ?_); rintro e w3 ⟨⟨zz, rfl, hzz⟩, hB⟩
       have HB3 := hideL (HB2.out.trans (hB.mono HB2.out.size))
       obtain rfl : zz = true := hzz.2 (by trivial)
       clear hzz hB)
    | (go_at_call 33; (with_reducible refine (LA.out _ HB3.out).mono ?_); rintro e w9 ⟨rfl, hB⟩; have HB9 := hideL (HB3.out.trans (hB.mono HB3.out.size)); clear hB))
  go_ret
  exact ⟨rfl, HB9.out⟩
set_option maxRecDepth 100000 in
set_option maxHeartbeats 4000000 in
theorem asmp_hi (c : Int) (s : ByteArray) (w : World) (ht : (Env w ∧ EnvS w) ∧ EnvT w) (h3 : ¬ 3000 < s.size) (hm : mayAB (simA c s.data.toList) = false) (h1 : ¬ c < 200) (h : 599 < c) :
    Calls Tryz.prog 9 #[.int .i64 c, .string s] w fun e w' => e = .returned (.bool true) ∧ Below w.heap.size w w' := by
  have LT := hideL (fun (W : World) (hb : Below w.heap.size w W) => (⟨⟨ht.1.1.next hb, ht.1.2.next hb⟩, ht.2.next hb⟩ : (Env W ∧ EnvS W) ∧ EnvT W))
  have LA := hideL (fun (W : World) (hb : Below w.heap.size w W) => awakeA_any W (LT.out W hb))
  have i1 : ¬ (3000 : Int) < (s.size : Int) := by omega
  have e1 : decide (c < 200) = false := decide_eq_false h1
  have LS := hideL (asim_noC (by omega) hm w ht)
  have HZ : HidL (∀ W, AnsAt W ⟨0, ⟨none, 0, 0⟩, ⟨none, 0, 0⟩⟩ an0) := ⟨fun W => AnsAt.zero W⟩
  clear ht h3 hm
  go_enter Tryz.func9, Tryz.ntmps9
  go_wp2_with (first
    | (go_at_call 46; (with_reducible refine LS.out.mono ?_); rintro e w2 ⟨⟨k, ha, hn, hc, ba, bn, bc, rfl, hx⟩, hB⟩
       have hz2 := (Below.refl w2.heap.size w2).alloc (Nat.le_refl _) (anC k (.slice ha hn hc) (.slice ba bn bc))
       have HB2 := hideL (hB.trans (hz2.mono hB.size))
       have LQ := hideL (rsameA k 0 ha hn hc ba bn bc none 0 0 none 0 0 an0 an0 _ (hx.below hz2) (HZ.out _) (by decide))
       clear hx hB hz2)
    | (go_at_call 39; (with_reducible refine LQ.out.mono ?_); rintro e w3 ⟨⟨zz, rfl, hzz⟩, hB⟩
       have HB3 := hideL (HB2.out.trans (hB.mono HB2.out.size))
       obtain rfl : zz = true := hzz.2 (by trivial)
       clear hzz hB)
    | (go_at_call 33; (with_reducible refine (LA.out _ HB3.out).mono ?_); rintro e w9 ⟨rfl, hB⟩; have HB9 := hideL (HB3.out.trans (hB.mono HB3.out.size)); clear hB))
  go_ret
  exact ⟨rfl, HB9.out⟩
set_option maxRecDepth 100000 in
set_option maxHeartbeats 4000000 in
theorem asmp_big (c : Int) (s : ByteArray) (w : World) (ht : (Env w ∧ EnvS w) ∧ EnvT w) (h3 : ¬ 3000 < s.size) (hm : mayAB (simA c s.data.toList) = false) (h1 : ¬ c < 200) (h2 : ¬ 599 < c) (h : 1024 < s.size) :
    Calls Tryz.prog 9 #[.int .i64 c, .string s] w fun e w' => e = .returned (.bool true) ∧ Below w.heap.size w w' := by
  have LT := hideL (fun (W : World) (hb : Below w.heap.size w W) => (⟨⟨ht.1.1.next hb, ht.1.2.next hb⟩, ht.2.next hb⟩ : (Env W ∧ EnvS W) ∧ EnvT W))
  have LA := hideL (fun (W : World) (hb : Below w.heap.size w W) => awakeA_any W (LT.out W hb))
  have i1 : ¬ (3000 : Int) < (s.size : Int) := by omega
  have e1 : decide (c < 200) = false := decide_eq_false h1
  have e2 : decide (599 < c) = false := decide_eq_false h2
  have i2 : (1024 : Int) < (s.size : Int) := by omega
  have LS := hideL (asim_noC (by omega) hm w ht)
  have HZ : HidL (∀ W, AnsAt W ⟨0, ⟨none, 0, 0⟩, ⟨none, 0, 0⟩⟩ an0) := ⟨fun W => AnsAt.zero W⟩
  clear ht h3 hm
  go_enter Tryz.func9, Tryz.ntmps9
  go_wp2_with (first
    | (go_at_call 46; (with_reducible refine LS.out.mono ?_); rintro e w2 ⟨⟨k, ha, hn, hc, ba, bn, bc, rfl, hx⟩, hB⟩
       have hz2 := (Below.refl w2.heap.size w2).alloc (Nat.le_refl _) (anC k (.slice ha hn hc) (.slice ba bn bc))
       have HB2 := hideL (hB.trans (hz2.mono hB.size))
       have LQ := hideL (rsameA k 0 ha hn hc ba bn bc none 0 0 none 0 0 an0 an0 _ (hx.below hz2) (HZ.out _) (by decide))
       clear hx hB hz2)
    | (go_at_call 39; (with_reducible refine LQ.out.mono ?_); rintro e w3 ⟨⟨zz, rfl, hzz⟩, hB⟩
       have HB3 := hideL (HB2.out.trans (hB.mono HB2.out.size))
       obtain rfl : zz = true := hzz.2 (by trivial)
       clear hzz hB)
    | (go_at_call 33; (with_reducible refine (LA.out _ HB3.out).mono ?_); rintro e w9 ⟨rfl, hB⟩; have HB9 := hideL (HB3.out.trans (hB.mono HB3.out.size)); clear hB))
  go_ret
  exact ⟨rfl, HB9.out⟩
set_option maxRecDepth 100000 in
set_option maxHeartbeats 4000000 in
theorem asmp_yes (c : Int) (s : ByteArray) (w : World) (ht : (Env w ∧ EnvS w) ∧ EnvT w) (h1 : ¬ c < 200) (h2 : ¬ 599 < c) (h : ¬ 1024 < s.size) (hm : mayAB (simA c s.data.toList) = true) :
    Calls Tryz.prog 9 #[.int .i64 c, .string s] w fun e w' => e = .returned (.bool true) ∧ Below w.heap.size w w' := by
  have LT := hideL (fun (W : World) (hb : Below w.heap.size w W) => (⟨⟨ht.1.1.next hb, ht.1.2.next hb⟩, ht.2.next hb⟩ : (Env W ∧ EnvS W) ∧ EnvT W))
  have LA := hideL (fun (W : World) (hb : Below w.heap.size w W) => awakeA_any W (LT.out W hb))
  have i1 : ¬ (3000 : Int) < (s.size : Int) := by omega
  have e1 : decide (c < 200) = false := decide_eq_false h1
  have e2 : decide (599 < c) = false := decide_eq_false h2
  have i2 : ¬ (1024 : Int) < (s.size : Int) := by omega
  have LS := hideL (asim_okC (by omega) hm w ht)
  have hf := good_fits (fit_may (mayA_fit hm)).1
  have hl := mayH_len (fit_may (mayA_fit hm)).1
  have LM := hideL (fun (ha : Option Addr) (hn hc : Nat) (ba : Option Addr) (bn bc : Nat) (W : World) (hx : AnsAt W ⟨c, ⟨ha, hn, hc⟩, ⟨ba, bn, bc⟩⟩ (simA c s.data.toList)) => rmayA_any c ha hn hc ba bn bc _ W hx hf (by omega))
  rw [hm] at LM
  clear ht hm hf hl h h1 h2
  go_enter Tryz.func9, Tryz.ntmps9
  go_wp2_with (first
    | (go_at_call 46; (with_reducible refine LS.out.mono ?_); rintro e w2 ⟨⟨k, ha, hn, hc, ba, bn, bc, rfl, hx⟩, hB⟩
       obtain rfl : k = c := hx.1
       have hz2 := (Below.refl w2.heap.size w2).alloc (Nat.le_refl _) (anC k (.slice ha hn hc) (.slice ba bn bc))
       have HB2 := hideL (hB.trans (hz2.mono hB.size))
       have hy := hx.below hz2
       have g1 : GAt KH (w2.alloc (anC k (.slice ha hn hc) (.slice ba bn bc))) (.slice ha hn hc) [⟨clA, bo (decS s.data.toList.length)⟩] := hy.2.1
       obtain rfl : hn = 1 := g1.le.1
       obtain ⟨b0, o0, e0, _, cc⟩ := g1.at (k := 0) (by decide)
       subst e0
       have d0 : (w2.alloc (anC k (.slice (some ⟨b0, o0, none⟩) 1 hc) (.slice ba bn bc))).cell? ⟨b0, o0, none⟩ = some (.string ⟨#[99, 111, 110, 116, 101, 110, 116, 45, 108, 101, 110, 103, 116, 104]⟩) := cc 0 (by decide)
       have k2 := to_strA _ _ _ _ _ hy.2.2
       have hbo : bo (simA k s.data.toList).body = s := bo_of s
       rw [hbo] at k2
       have X2 := hideL (ABox.new w2 k (.slice (some ⟨b0, o0, none⟩) 1 hc) (.slice ba bn bc))
       have x0 := X2.out.c0
       have x1 := X2.out.c1
       have x2 := X2.out.c2
       have LM2 := hideL (LM.out _ _ _ _ _ _ _ hy)
       clear hx hB hz2 hy g1 cc hbo)
    | (go_at_call 35; (with_reducible refine LM2.out.mono ?_); rintro e w3 ⟨rfl, hB⟩
       have HB3 := hideL (HB2.out.trans (hB.mono HB2.out.size))
       clear hB)
    | (go_at_call 33; (with_reducible refine (LA.out _ HB3.out).mono ?_); rintro e w9 ⟨rfl, hB⟩; have HB9 := hideL (HB3.out.trans (hB.mono HB3.out.size)); clear hB))
  go_ret
  exact ⟨rfl, HB9.out⟩
theorem asmp_walk (c : Int) (s : ByteArray) (w : World) (ht : (Env w ∧ EnvS w) ∧ EnvT w) :
    Calls Tryz.prog 9 #[.int .i64 c, .string s] w fun e w' => e = .returned (.bool true) ∧ Below w.heap.size w w' := by
  by_cases h3 : 3000 < s.size
  · exact asmp_long c s w ht h3
  have hv := sim_fit c s.data.toList
  rw [size_list] at hv
  by_cases h1 : c < 200
  · exact asmp_lo c s w ht h3 (by rw [hv]; unfold codB; rw [decide_eq_false (by omega), Bool.false_and]) h1
  by_cases h2 : 599 < c
  · exact asmp_hi c s w ht h3 (by rw [hv]; unfold codB; rw [decide_eq_false (by omega), Bool.false_and]) h1 h2
  by_cases h : 1024 < s.size
  · exact asmp_big c s w ht h3 (by rw [hv, decide_eq_false (show ¬ s.size ≤ 1024 by omega), Bool.and_false]) h1 h2 h
  exact asmp_yes c s w ht h1 h2 h (by rw [hv, decide_eq_true (show s.size ≤ 1024 by omega)]; unfold codB; rw [decide_eq_true (by omega)]; rfl)
end Go.Proofs.YtglnfnlpkhmlnaaGreatDoor
