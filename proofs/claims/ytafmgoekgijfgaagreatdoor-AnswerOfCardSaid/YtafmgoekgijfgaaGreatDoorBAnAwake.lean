/- awake of the answers' laws: the chapter's examples. -/
import Derived.Test.YtafmgoekgijfgaaGreatDoorBAnAwkT
import Derived.Test.YtafmgoekgijfgaaGreatDoorBAnOne
import Derived.Test.YtafmgoekgijfgaaGreatDoorBAnSim
import Derived.Test.YtafmgoekgijfgaaGreatDoorBAnBytes
import Derived.Test.YtafmgoekgijfgaaGreatDoorBRqMA
namespace Go.Proofs.YtafmgoekgijfgaaGreatDoor
open Go.RowKit Go.Lib

theorem aw_sim (W : World) (ht : (Env W ∧ EnvS W) ∧ EnvT W) : Calls Tryz.prog 62 #[.int .i64 403, .string ⟨#[110, 111]⟩] W fun e w' => (∃ (ha : Option Addr) (hn hc : Nat) (ba : Option Addr) (bn bc : Nat), e = .returned (.tuple #[.agg #[.int .i64 403, .slice ha hn hc, .slice ba bn bc], .int .i64 0]) ∧ AnsAt w' ⟨403, ⟨ha, hn, hc⟩, ⟨ba, bn, bc⟩⟩ (simA 403 [110, 111])) ∧ Below W.heap.size W w' := by
 have h := asim_any 403 ⟨#[110, 111]⟩ (by decide) W ht
 have e : (⟨#[110, 111]⟩ : ByteArray).data.toList = [110, 111] := rfl
 unfold ASiPost at h
 rw [e, anM0, if_pos rfl, if_pos rfl] at h
 refine h.mono ?_
 rintro e w' ⟨⟨k, ha, hn, hc, ba, bn, bc, rfl, hx⟩, hB⟩
 obtain rfl : k = 403 := hx.1
 exact ⟨⟨ha, hn, hc, ba, bn, bc, rfl, hx⟩, hB⟩
theorem aw_byt (ha : Option Addr) (hn hc : Nat) (ba : Option Addr) (bn bc : Nat) (W : World) (ht : (Env W ∧ EnvS W) ∧ EnvT W) (hx : AnsAt W ⟨403, ⟨ha, hn, hc⟩, ⟨ba, bn, bc⟩⟩ (simA 403 [110, 111])) : Calls Tryz.prog 31 #[.agg #[.int .i64 403, .slice ha hn hc, .slice ba bn bc]] W fun e w' => (∃ (a : Option Addr) (n c : Nat), e = .returned (.tuple #[.slice a n c, .int .i64 0]) ∧ GAt KB w' (.slice a n c) [72, 84, 84, 80, 47, 49, 46, 49, 32, 52, 48, 51, 32, 70, 111, 114, 98, 105, 100, 100, 101, 110, 13, 10, 99, 111, 110, 116, 101, 110, 116, 45, 108, 101, 110, 103, 116, 104, 58, 32, 50, 13, 10, 13, 10, 110, 111]) ∧ Below W.heap.size W w' := by
 have h := abytes_any 403 ha hn hc ba bn bc _ W hx (Fits.one ⟨by decide, by decide⟩) (by decide) ht.1.1 ht.2
 unfold AByPost at h
 rw [anM0, if_pos rfl, if_pos rfl, anW0] at h
 exact h
theorem lit_oneA (w : World) (b : List UInt8) (n : Nat) (hn : b.length = n) (hm : b.length ≤ 1000) (cs : Array Value) (hc : (KB.all b).toArray = cs) (fr : Nat × Nat) (ht : (Env w ∧ EnvS w) ∧ EnvT w) :
   Calls Tryz.prog 35 #[.slice (some ⟨w.heap.size, 0, none⟩) n n] (w.alloc (.cells cs 5 fr)) fun e w' => (∃ (c : Int) (ha : Option Addr) (hn hc : Nat) (ba : Option Addr) (bn bc : Nat), e = .returned (.tuple #[.agg #[.int .i64 c, .slice ha hn hc, .slice ba bn bc], .int .i64 ((oneAP b).1 : Nat)]) ∧ AnsAt w' ⟨c, ⟨ha, hn, hc⟩, ⟨ba, bn, bc⟩⟩ ((oneAP b).2.getD an0)) ∧ Below w.heap.size w w' := by
 have hb := (Below.refl w.heap.size w).alloc (Nat.le_refl _) (.cells cs 5 fr)
 refine (aone_any _ b _ (lit_b w b n hn hm cs hc fr) (by omega) ⟨⟨ht.1.1.next hb, ht.1.2.next hb⟩, ht.2.next hb⟩).mono ?_
 rintro e w' ⟨h1, h2⟩
 exact ⟨h1, hb.trans (h2.mono hb.size)⟩
theorem aw_oneA1 (w : World) (cs : Array Value) (hc : (KB.all anT1).toArray = cs) (fr : Nat × Nat) (ht : (Env w ∧ EnvS w) ∧ EnvT w) : Calls Tryz.prog 35 #[.slice (some ⟨w.heap.size, 0, none⟩) 17 17] (w.alloc (.cells cs 5 fr)) fun e w' => (∃ (ha : Option Addr) (hn hc : Nat) (ba : Option Addr) (bn bc : Nat), e = .returned (.tuple #[.agg #[.int .i64 503, .slice ha hn hc, .slice ba bn bc], .int .i64 0])) ∧ Below w.heap.size w w' := by
 have h := lit_oneA w anT1 17 rfl (by decide) cs hc fr ht
 obtain ⟨q, hq, he⟩ := anO1
 rw [hq] at h
 refine h.mono ?_
 rintro e w' ⟨⟨c, ha, hn, hc, ba, bn, bc, rfl, hx⟩, hB⟩
 obtain rfl : c = 503 := hx.1.trans he
 exact ⟨⟨ha, hn, hc, ba, bn, bc, rfl⟩, hB⟩
theorem aw_oneA2 (w : World) (g : Nat) (hg : g = w.heap.size) (cs : Array Value) (hc : (KB.all anT2).toArray = cs) (fr : Nat × Nat) (ht : (Env w ∧ EnvS w) ∧ EnvT w) : Calls Tryz.prog 35 #[.slice (some ⟨g, 0, none⟩) 16 16] (w.alloc (.cells cs 5 fr)) fun e w' => (∃ (c : Int) (ha : Option Addr) (hn hc : Nat) (ba : Option Addr) (bn bc : Nat), e = .returned (.tuple #[.agg #[.int .i64 c, .slice ha hn hc, .slice ba bn bc], .int .i64 2])) ∧ Below w.heap.size w w' := by
 subst hg
 have h := lit_oneA w anT2 16 rfl (by decide) cs hc fr ht
 rw [anO2] at h
 refine h.mono ?_
 rintro e w' ⟨⟨c, ha, hn, hc, ba, bn, bc, rfl, hx⟩, hB⟩
 exact ⟨⟨c, ha, hn, hc, ba, bn, bc, rfl⟩, hB⟩
set_option maxRecDepth 100000 in
set_option maxHeartbeats 4000000 in
theorem awakeA_any (w : World) (ht : (Env w ∧ EnvS w) ∧ EnvT w) : Calls Tryz.prog 24 #[] w fun e w' => e = .returned (.bool true) ∧ Below w.heap.size w w' := by
 have LT := hideL (fun (W : World) (hb : Below w.heap.size w W) => (⟨⟨ht.1.1.next hb, ht.1.2.next hb⟩, ht.2.next hb⟩ : (Env W ∧ EnvS W) ∧ EnvT W))
 have LA0 := hideL (aw_sim w ht)
 have LA2 := hideL (fun (W : World) (cs : Array Value) (hc : (KB.all anT1).toArray = cs) (fr : Nat × Nat) (hb : Below w.heap.size w W) => aw_oneA1 W cs hc fr (LT.out W hb))
 have LA3 := hideL (fun (W : World) (g : Nat) (hg : g = W.heap.size) (cs : Array Value) (hc : (KB.all anT2).toArray = cs) (fr : Nat × Nat) (hb : Below w.heap.size w W) => aw_oneA2 W g hg cs hc fr (LT.out W hb))
 clear ht
 go_enter Tryz.func24, Tryz.ntmps24
 have s0 : (bo [72, 84, 84, 80, 47, 49, 46, 49, 32, 52, 48, 51, 32, 70, 111, 114, 98, 105, 100, 100, 101, 110, 13, 10, 99, 111, 110, 116, 101, 110, 116, 45, 108, 101, 110, 103, 116, 104, 58, 32, 50, 13, 10, 13, 10, 110, 111]).toList = [72, 84, 84, 80, 47, 49, 46, 49, 32, 52, 48, 51, 32, 70, 111, 114, 98, 105, 100, 100, 101, 110, 13, 10, 99, 111, 110, 116, 101, 110, 116, 45, 108, 101, 110, 103, 116, 104, 58, 32, 50, 13, 10, 13, 10, 110, 111] := by rw [ByteArray.toList_eq]; rfl
 go_wp2_with (first
   | (go_at_call 62; with_reducible refine LA0.out.mono ?_; rintro e w1 ⟨⟨ha, hn, hc, ba, bn, bc, rfl, hx⟩, hB⟩
      have hz := hB.trans (((Below.refl w1.heap.size w1).alloc (Nat.le_refl _) (anC 403 (.slice ha hn hc) (.slice ba bn bc))).mono hB.size)
      have HC1 := hideL hz
      have LB := hideL (aw_byt ha hn hc ba bn bc _ (LT.out _ hz) (hx.below ((Below.refl w1.heap.size w1).alloc (Nat.le_refl _) (anC 403 (.slice ha hn hc) (.slice ba bn bc)))))
      clear hx hB hz)
   | (go_at_call 31; with_reducible refine LB.out.mono ?_; rintro e w2 ⟨⟨a, n, c, rfl, hg⟩, hB⟩
      have HC2 := hideL (HC1.out.trans (hB.mono HC1.out.size))
      have HG := hideL hg
      have k2 := fun (C : Array Value) (n c : Nat) => run_convert_bytes_const (P := Tryz.prog) w2 22 5 C n c Tryz.underlying22 Tryz.underlying5
      clear hg hB)
   | (go_at_call 35; with_reducible refine (LA2.out w2 _ (by kernel_rfl) _ HC2.out).mono ?_; rintro e w3 ⟨⟨ka, kn, kc, la, ln, lc, rfl⟩, hB⟩
      have hz3 := hB.trans (((Below.refl w3.heap.size w3).alloc (Nat.le_refl _) (anC 503 (.slice ka kn kc) (.slice la ln lc))).mono hB.size)
      have HC3 := hideL (HC2.out.trans (hz3.mono HC2.out.size))
      have HG3 := hideL (HG.out.below hz3)
      have X3 := hideL (ABox.new w3 503 (.slice ka kn kc) (.slice la ln lc))
      have k3 := fun (C : Array Value) (n c : Nat) => Go.Joins.run_convert_bytes_const_at (P := Tryz.prog) (w3.alloc (anC 503 (.slice ka kn kc) (.slice la ln lc))) 22 5 C n c (w3.heap.size + 1) (by rw [World.size_alloc]) Tryz.underlying22 Tryz.underlying5
      clear hB hz3 k2)
   | (go_at_call 35; with_reducible refine (LA3.out _ _ (by rw [World.size_alloc]) _ (by kernel_rfl) _ HC3.out).mono ?_; rintro e w4 ⟨⟨cc, ma, mn, mc, na, nn, nc, rfl⟩, hB⟩
      have hz4 := hB.trans (((Below.refl w4.heap.size w4).alloc (Nat.le_refl _) (anC cc (.slice ma mn mc) (.slice na nn nc))).mono hB.size)
      have HC4 := hideL (HC3.out.trans (hz4.mono HC3.out.size))
      have hcv := to_strA _ _ _ _ _ (HG3.out.below hz4)
      have x0 := (X3.out.next hz4).c0
      clear hB hz4 k3))
 go_ret
 exact ⟨rfl, HC4.out⟩
end Go.Proofs.YtafmgoekgijfgaaGreatDoor
