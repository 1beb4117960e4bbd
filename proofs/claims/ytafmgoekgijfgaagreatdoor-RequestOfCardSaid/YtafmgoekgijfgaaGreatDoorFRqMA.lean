/- The chapter's examples, as the plain words read them. awake: the chapter's examples. Are headers more than is gone through? (Long) The laws' long. -/
import Derived.Test.YtafmgoekgijfgaaGreatDoorFRqM1
import Derived.WalkKit
import Derived.Test.YtafmgoekgijfgaaGreatDoorFRqOne
import Derived.Lib.SmallJoins
import Derived.Test.YtafmgoekgijfgaaGreatDoorFRqFeed
import Derived.Test.YtafmgoekgijfgaaGreatDoorFRqM5
import Derived.Test.YtafmgoekgijfgaaGreatDoorFRqM3
import Derived.Deep.RegionWith
import Derived.Deep.RegionHeld3
import Derived.Deep.CutBlock
import Derived.Deep.DeepCutAuto
import Derived.StillTailTactics
import Derived.Test.YtafmgoekgijfgaaGreatDoorFRqOwn
namespace Go.Proofs.YtafmgoekgijfgaaGreatDoor

/-- oneP by what the reading byte by byte gives. -/
def oneQ (b : List UInt8) : Nat × Option Rq := match runP new0 b with
 | (s, l) => if s.err ≠ 0 then (s.err, none) else if idleP s = false then (2, none) else match l with
   | [x] => match ofRP x with
     | some r => (0, some r)
     | none => (2, none)
   | _ => (2, none)
theorem oneP_Q (b : List UInt8) : oneP b = oneQ b := by
 unfold oneP oneQ
 rw [run_row]
 obtain ⟨⟨s, l⟩, h⟩ : ∃ r, runP new0 b = r := ⟨_, rfl⟩
 rw [h]
 simp only
 split
 · rfl
 · cases hi : idleP s with
   | true =>
     rw [if_neg (fun e => by cases e)]
     cases l with
     | nil => rfl
     | cons x m =>
       cases m with
       | nil => rfl
       | cons y m => rfl
   | false => rw [if_pos rfl]
def awT0 : List UInt8 := [71, 69, 84, 32, 47, 97, 47, 47, 98, 63, 120, 32, 72, 84, 84, 80, 47, 49, 46, 49, 13, 10, 72, 111, 115, 116, 58, 32, 65, 46, 98, 13, 10, 13, 10]
def awT1 : List UInt8 := [80, 79, 83, 84, 32, 47, 32, 72, 84, 84, 80, 47, 49, 46, 49, 13, 10, 72, 111, 115, 116, 58, 32, 97, 13, 10, 84, 114, 97, 110, 115, 102, 101, 114, 45, 69, 110, 99, 111, 100, 105, 110, 103, 58, 32, 99, 104, 117, 110, 107, 101, 100, 13, 10, 13, 10, 51, 13, 10, 97, 98, 99, 13, 10, 48, 13, 10, 13, 10]
def awT2 : List UInt8 := [80, 79, 83, 84, 32, 47, 32, 72, 84, 84, 80, 47, 49, 46, 49, 13, 10, 72, 111, 115, 116, 58, 32, 97, 13, 10, 84, 114, 97, 110, 115, 102, 101, 114, 45, 69, 110, 99, 111, 100, 105, 110, 103, 58, 32, 99, 104, 117, 110, 107, 101, 100, 13, 10, 67, 111, 110, 116, 101, 110, 116, 45, 76, 101, 110, 103, 116, 104, 58, 32, 51, 13, 10, 13, 10, 51, 13, 10, 97, 98, 99, 13, 10, 48, 13, 10, 13, 10]
def awT3 : List UInt8 := [71, 69, 84, 32, 47, 32, 72, 84, 84, 80, 47, 49, 46, 49, 10, 72, 111, 115, 116, 58, 32, 97, 13, 10, 13, 10]
def awT4 : List UInt8 := [67, 79, 78, 78, 69, 67, 84, 32, 97, 46, 98, 58, 56, 48, 32, 72, 84, 84, 80, 47, 49, 46, 49, 13, 10, 72, 111, 115, 116, 58, 32, 97, 46, 98, 58, 56, 48, 13, 10, 13, 10]
theorem awO2 : oneP awT2 = (2, none) := (oneP_Q _).trans (by kernel_rfl)
theorem awO3 : oneP awT3 = (2, none) := (oneP_Q _).trans (by kernel_rfl)
theorem aw_some {α : Type} {b : List UInt8} {f : Rq → α} {y : α} (h : ((oneQ b).1, (oneQ b).2.map f) = (0, some y)) : ∃ q, oneP b = (0, some q) ∧ f q = y := by
 rw [oneP_Q]
 obtain ⟨n, x, hx⟩ : ∃ n x, oneQ b = (n, x) := ⟨_, _, rfl⟩
 rw [hx] at h ⊢
 cases x with
 | none => cases h
 | some q =>
   injection h with h1 h2
   injection h2 with h2
   exact ⟨q, by rw [show n = 0 from h1], h2⟩
theorem awO0 : ∃ q, oneP awT0 = (0, some q) ∧ (q.path, q.query, q.host) = ([47, 97, 47, 98], [120], [97, 46, 98]) := aw_some (f := fun q => (q.path, q.query, q.host)) (by kernel_rfl)
theorem awO1 : ∃ q, oneP awT1 = (0, some q) ∧ q.body = [97, 98, 99] := aw_some (f := fun q => q.body) (by kernel_rfl)
theorem awO4 : ∃ q, oneP awT4 = (0, some q) ∧ (q.path, q.method) = ([], [67, 79, 78, 78, 69, 67, 84]) := aw_some (f := fun q => (q.path, q.method)) (by kernel_rfl)
end Go.Proofs.YtafmgoekgijfgaaGreatDoor
namespace Go.Proofs.YtafmgoekgijfgaaGreatDoor
open Go.RowKit Go.Lib

theorem cell_mark (w : World) (cs : Array Value) (T : TypeId) (fr : Nat × Nat) (a : Addr) : (w.alloc (.cells cs T fr)).cell? a = (w.alloc (.cells cs T)).cell? a := by
 have e : ∀ o : Obj, (w.alloc o).heap[a.block]? = if a.block = w.heap.size then some o else w.heap[a.block]? := fun o => Array.getElem?_push
 unfold World.cell?
 rw [e, e]
 by_cases h : a.block = w.heap.size
 · rw [if_pos h, if_pos h]
 · rw [if_neg h, if_neg h]
theorem bys_bo {a : ByteArray} {l : List UInt8} (h : a.data.toList = l) : a = bo l := by
 subst h
 exact (bo_of a).symm
theorem lit_b (w : World) (b : List UInt8) (n : Nat) (hn : b.length = n) (hm : b.length ≤ 1000) (cs : Array Value) (hc : (KB.all b).toArray = cs) (fr : Nat × Nat) : GAt KB (w.alloc (.cells cs 5 fr)) (.slice (some ⟨w.heap.size, 0, none⟩) n n) b := by
 subst hn hc
 have hml : (1000 : Nat) ≤ maxLen := by decide
 obtain ⟨ao, cap, e, h1, h2, h3⟩ := (GRow.lit (K := KB) w w.heap.size b (Nat.le_refl _) (by omega)).gAt
 refine ⟨ao, cap, e, h1, h2, fun ad had i hi => ?_⟩
 obtain ⟨k1, k2, k3⟩ := h3 ad had i hi
 refine ⟨k1, ?_, fun j hj => by rw [cell_mark]; exact k3 j hj⟩
 rw [World.size_alloc] at k2 ⊢
 exact k2
theorem lit_one (w : World) (b : List UInt8) (n : Nat) (hn : b.length = n) (hm : b.length ≤ 1000) (cs : Array Value) (hc : (KB.all b).toArray = cs) (fr : Nat × Nat) (hE : Env w) (hS : EnvS w) :
   Calls Tryz.prog 9 #[.slice (some ⟨w.heap.size, 0, none⟩) n n] (w.alloc (.cells cs 5 fr)) fun e w' => (match oneP b with
     | (_, some q) => ∃ (m t p r o : ByteArray) (ha : Option Addr) (hn hc : Nat) (ba : Option Addr) (bn bc : Nat), e = .returned (.tuple #[.agg #[.string m, .string t, .string p, .string r, .string o, .slice ha hn hc, .slice ba bn bc], .int .i64 0]) ∧ ReqAt w' ⟨m, t, p, r, o, ⟨ha, hn, hc⟩, ⟨ba, bn, bc⟩⟩ q
     | (k, none) => e = .returned (.tuple #[.agg #[.string ⟨#[]⟩, .string ⟨#[]⟩, .string ⟨#[]⟩, .string ⟨#[]⟩, .string ⟨#[]⟩, .slice none 0 0, .slice none 0 0], .int .i64 k])) ∧ Below w.heap.size w w' := by
 have hb := (Below.refl w.heap.size w).alloc (Nat.le_refl _) (.cells cs 5 fr)
 refine (one_any _ b _ (lit_b w b n hn hm cs hc fr) (by omega) (hE.next hb) (hS.next hb)).mono ?_
 rintro e w' ⟨h1, h2⟩
 refine ⟨?_, hb.trans (h2.mono hb.size)⟩
 obtain ⟨⟨k, x⟩, hx⟩ : ∃ y, oneP b = y := ⟨_, rfl⟩
 rw [hx] at h1 ⊢
 cases x with
 | some q =>
   obtain ⟨⟨m, t, p, r, o, ⟨ha, hn, hc⟩, ⟨ba, bn, bc⟩⟩, rfl, hq, _⟩ := h1
   exact ⟨m, t, p, r, o, ha, hn, hc, ba, bn, bc, rfl, hq⟩
 | none => exact h1
set_option maxRecDepth 100000 in
theorem aw_one0 (w : World) (g : Nat) (hg : g = w.heap.size) (cs : Array Value) (hc : (KB.all awT0).toArray = cs) (fr : Nat × Nat) (hE : Env w) (hS : EnvS w) : Calls Tryz.prog 9 #[.slice (some ⟨g, 0, none⟩) 35 35] (w.alloc (.cells cs 5 fr)) fun e w' => (∃ (m t p r o : ByteArray) (ha : Option Addr) (hn hc : Nat) (ba : Option Addr) (bn bc : Nat), e = .returned (.tuple #[.agg #[.string m, .string t, .string p, .string r, .string o, .slice ha hn hc, .slice ba bn bc], .int .i64 0]) ∧ p = bo [47, 97, 47, 98] ∧ r = bo [120] ∧ o = bo [97, 46, 98]) ∧ Below w.heap.size w w' := by
 subst hg
 have h := lit_one w awT0 35 rfl (by decide) cs hc fr hE hS
 obtain ⟨q, hq, he⟩ := awO0
 rw [hq] at h
 refine h.mono ?_
 rintro e w' ⟨⟨m, t, p, r, o, ha, hn, hc, ba, bn, bc, rfl, hr⟩, hB⟩
 injection he with e1 e2
 injection e2 with e2 e3
 exact ⟨⟨m, t, p, r, o, ha, hn, hc, ba, bn, bc, rfl, bys_bo (hr.2.2.1.trans e1), bys_bo (hr.2.2.2.1.trans e2), bys_bo (hr.2.2.2.2.1.trans e3)⟩, hB⟩
set_option maxRecDepth 100000 in
theorem aw_one1 (w : World) (g : Nat) (hg : g = w.heap.size) (cs : Array Value) (hc : (KB.all awT1).toArray = cs) (fr : Nat × Nat) (hE : Env w) (hS : EnvS w) : Calls Tryz.prog 9 #[.slice (some ⟨g, 0, none⟩) 69 69] (w.alloc (.cells cs 5 fr)) fun e w' => (∃ (m t p r o : ByteArray) (ha : Option Addr) (hn hc : Nat) (ba : Option Addr) (bn bc : Nat), e = .returned (.tuple #[.agg #[.string m, .string t, .string p, .string r, .string o, .slice ha hn hc, .slice ba bn bc], .int .i64 0]) ∧ GAt KB w' (.slice ba bn bc) [97, 98, 99]) ∧ Below w.heap.size w w' := by
 subst hg
 have h := lit_one w awT1 69 rfl (by decide) cs hc fr hE hS
 obtain ⟨q, hq, he⟩ := awO1
 rw [hq] at h
 refine h.mono ?_
 rintro e w' ⟨⟨m, t, p, r, o, ha, hn, hc, ba, bn, bc, rfl, hr⟩, hB⟩
 exact ⟨⟨m, t, p, r, o, ha, hn, hc, ba, bn, bc, rfl, he ▸ hr.2.2.2.2.2.2⟩, hB⟩
set_option maxRecDepth 100000 in
theorem aw_one2 (w : World) (g : Nat) (hg : g = w.heap.size) (cs : Array Value) (hc : (KB.all awT2).toArray = cs) (fr : Nat × Nat) (hE : Env w) (hS : EnvS w) : Calls Tryz.prog 9 #[.slice (some ⟨g, 0, none⟩) 88 88] (w.alloc (.cells cs 5 fr)) fun e w' => (e = .returned (.tuple #[.agg #[.string ⟨#[]⟩, .string ⟨#[]⟩, .string ⟨#[]⟩, .string ⟨#[]⟩, .string ⟨#[]⟩, .slice none 0 0, .slice none 0 0], .int .i64 2])) ∧ Below w.heap.size w w' := by
 subst hg
 have h := lit_one w awT2 88 rfl (by decide) cs hc fr hE hS
 rw [awO2] at h
 exact h
set_option maxRecDepth 100000 in
theorem aw_one3 (w : World) (g : Nat) (hg : g = w.heap.size) (cs : Array Value) (hc : (KB.all awT3).toArray = cs) (fr : Nat × Nat) (hE : Env w) (hS : EnvS w) : Calls Tryz.prog 9 #[.slice (some ⟨g, 0, none⟩) 26 26] (w.alloc (.cells cs 5 fr)) fun e w' => (e = .returned (.tuple #[.agg #[.string ⟨#[]⟩, .string ⟨#[]⟩, .string ⟨#[]⟩, .string ⟨#[]⟩, .string ⟨#[]⟩, .slice none 0 0, .slice none 0 0], .int .i64 2])) ∧ Below w.heap.size w w' := by
 subst hg
 have h := lit_one w awT3 26 rfl (by decide) cs hc fr hE hS
 rw [awO3] at h
 exact h
set_option maxRecDepth 100000 in
theorem aw_one4 (w : World) (g : Nat) (hg : g = w.heap.size) (cs : Array Value) (hc : (KB.all awT4).toArray = cs) (fr : Nat × Nat) (hE : Env w) (hS : EnvS w) : Calls Tryz.prog 9 #[.slice (some ⟨g, 0, none⟩) 41 41] (w.alloc (.cells cs 5 fr)) fun e w' => (∃ (m t p r o : ByteArray) (ha : Option Addr) (hn hc : Nat) (ba : Option Addr) (bn bc : Nat), e = .returned (.tuple #[.agg #[.string m, .string t, .string p, .string r, .string o, .slice ha hn hc, .slice ba bn bc], .int .i64 0]) ∧ p = bo [] ∧ m = bo [67, 79, 78, 78, 69, 67, 84]) ∧ Below w.heap.size w w' := by
 subst hg
 have h := lit_one w awT4 41 rfl (by decide) cs hc fr hE hS
 obtain ⟨q, hq, he⟩ := awO4
 rw [hq] at h
 refine h.mono ?_
 rintro e w' ⟨⟨m, t, p, r, o, ha, hn, hc, ba, bn, bc, rfl, hr⟩, hB⟩
 injection he with e1 e2
 exact ⟨⟨m, t, p, r, o, ha, hn, hc, ba, bn, bc, rfl, bys_bo (hr.2.2.1.trans e1), bys_bo (hr.1.trans e2)⟩, hB⟩
set_option maxRecDepth 100000 in
set_option maxHeartbeats 4000000 in
theorem awake_any (w : World) (hE : Env w) (hS : EnvS w) : Calls Tryz.prog 8 #[] w fun e w' => e = .returned (.bool true) ∧ Below w.heap.size w w' := by
 have LA0 := hideL (fun (W : World) (g : Nat) (hg : g = W.heap.size) (cs : Array Value) (hc : (KB.all awT0).toArray = cs) (fr : Nat × Nat) (hb : Below w.heap.size w W) => aw_one0 W g hg cs hc fr (hE.next hb) (hS.next hb))
 have LA1 := hideL (fun (W : World) (g : Nat) (hg : g = W.heap.size) (cs : Array Value) (hc : (KB.all awT1).toArray = cs) (fr : Nat × Nat) (hb : Below w.heap.size w W) => aw_one1 W g hg cs hc fr (hE.next hb) (hS.next hb))
 have LA2 := hideL (fun (W : World) (g : Nat) (hg : g = W.heap.size) (cs : Array Value) (hc : (KB.all awT2).toArray = cs) (fr : Nat × Nat) (hb : Below w.heap.size w W) => aw_one2 W g hg cs hc fr (hE.next hb) (hS.next hb))
 have LA3 := hideL (fun (W : World) (g : Nat) (hg : g = W.heap.size) (cs : Array Value) (hc : (KB.all awT3).toArray = cs) (fr : Nat × Nat) (hb : Below w.heap.size w W) => aw_one3 W g hg cs hc fr (hE.next hb) (hS.next hb))
 have LA4 := hideL (fun (W : World) (g : Nat) (hg : g = W.heap.size) (cs : Array Value) (hc : (KB.all awT4).toArray = cs) (fr : Nat × Nat) (hb : Below w.heap.size w W) => aw_one4 W g hg cs hc fr (hE.next hb) (hS.next hb))
 have HC0 := hideL (Below.refl w.heap.size w)
 clear hE hS
 have k0 := fun (C : Array Value) (n c : Nat) => run_convert_bytes_const (P := Tryz.prog) w 22 5 C n c Tryz.underlying22 Tryz.underlying5
 go_enter Tryz.func8, Tryz.ntmps8
 have s0 : (bo [47, 97, 47, 98]).toList = [47, 97, 47, 98] := by rw [ByteArray.toList_eq]; rfl
 have s1 : (bo [120]).toList = [120] := by rw [ByteArray.toList_eq]; rfl
 have s2 : (bo [97, 46, 98]).toList = [97, 46, 98] := by rw [ByteArray.toList_eq]; rfl
 have s3 : (bo [97, 98, 99]).toList = [97, 98, 99] := by rw [ByteArray.toList_eq]; rfl
 have s4 : (bo []).toList = [] := by rw [ByteArray.toList_eq]; rfl
 have s5 : (bo [67, 79, 78, 78, 69, 67, 84]).toList = [67, 79, 78, 78, 69, 67, 84] := by rw [ByteArray.toList_eq]; rfl
 go_wp2_with (first
   | (go_at_call 9; with_reducible refine (LA0.out _ _ rfl _ (by kernel_rfl) _ HC0.out).mono ?_; rintro e w1 ⟨⟨m0, t0, p0, r0, o0, ha0, hn0, hc0, ba0, bn0, bc0, rfl, rfl, rfl, rfl⟩, hB⟩
      have hz0 := hB.trans (((Below.refl w1.heap.size w1).alloc (Nat.le_refl _) (.cells #[.string m0, .string t0, .string (bo [47, 97, 47, 98]), .string (bo [120]), .string (bo [97, 46, 98]), .slice ha0 hn0 hc0, .slice ba0 bn0 bc0] 26)).mono hB.size)
      have HC1 := hideL (HC0.out.trans (hz0.mono HC0.out.size))
      have k1 := fun (C : Array Value) (n c : Nat) => Go.Joins.run_convert_bytes_const_at (P := Tryz.prog) (w1.alloc (.cells #[.string m0, .string t0, .string (bo [47, 97, 47, 98]), .string (bo [120]), .string (bo [97, 46, 98]), .slice ha0 hn0 hc0, .slice ba0 bn0 bc0] 26)) 22 5 C n c (w1.heap.size + 1) (by rw [World.size_alloc]) Tryz.underlying22 Tryz.underlying5
      have X0 := hideL (show RBox7 26 (w1.alloc (.cells #[.string m0, .string t0, .string (bo [47, 97, 47, 98]), .string (bo [120]), .string (bo [97, 46, 98]), .slice ha0 hn0 hc0, .slice ba0 bn0 bc0] 26)) w1.heap.size _ _ _ _ _ _ _ from heap_alloc_new w1 _)
      clear hB hz0 k0)
   | (go_at_call 9; with_reducible refine (LA1.out _ _ (by rw [World.size_alloc]) _ (by kernel_rfl) _ HC1.out).mono ?_; rintro e w2 ⟨⟨m1, t1, p1, r1, o1, ha1, hn1, hc1, ba1, bn1, bc1, rfl, hq⟩, hB⟩
      have hz1 := hB.trans (((Below.refl w2.heap.size w2).alloc (Nat.le_refl _) (.cells #[.string m1, .string t1, .string p1, .string r1, .string o1, .slice ha1 hn1 hc1, .slice ba1 bn1 bc1] 26)).mono hB.size)
      have HC2 := hideL (HC1.out.trans (hz1.mono HC1.out.size))
      have k2 := fun (C : Array Value) (n c : Nat) => Go.Joins.run_convert_bytes_const_at (P := Tryz.prog) (w2.alloc (.cells #[.string m1, .string t1, .string p1, .string r1, .string o1, .slice ha1 hn1 hc1, .slice ba1 bn1 bc1] 26)) 22 5 C n c (w2.heap.size + 1) (by rw [World.size_alloc]) Tryz.underlying22 Tryz.underlying5
      have X0 := hideL (X0.out.next hz1)
      have X1 := hideL (show RBox7 26 (w2.alloc (.cells #[.string m1, .string t1, .string p1, .string r1, .string o1, .slice ha1 hn1 hc1, .slice ba1 bn1 bc1] 26)) w2.heap.size _ _ _ _ _ _ _ from heap_alloc_new w2 _)
      have HQ := hideL (hq.below ((Below.refl w2.heap.size w2).alloc (Nat.le_refl _) (.cells #[.string m1, .string t1, .string p1, .string r1, .string o1, .slice ha1 hn1 hc1, .slice ba1 bn1 bc1] 26)))
      clear hq
      clear hB hz1 k1)
   | (go_at_call 9; with_reducible refine (LA2.out _ _ (by rw [World.size_alloc]) _ (by kernel_rfl) _ HC2.out).mono ?_; rintro e w3 ⟨rfl, hB⟩
      have hz2 := hB.trans (((Below.refl w3.heap.size w3).alloc (Nat.le_refl _) (.cells #[.string ⟨#[]⟩, .string ⟨#[]⟩, .string ⟨#[]⟩, .string ⟨#[]⟩, .string ⟨#[]⟩, .slice none 0 0, .slice none 0 0] 26)).mono hB.size)
      have HC3 := hideL (HC2.out.trans (hz2.mono HC2.out.size))
      have k3 := fun (C : Array Value) (n c : Nat) => Go.Joins.run_convert_bytes_const_at (P := Tryz.prog) (w3.alloc (.cells #[.string ⟨#[]⟩, .string ⟨#[]⟩, .string ⟨#[]⟩, .string ⟨#[]⟩, .string ⟨#[]⟩, .slice none 0 0, .slice none 0 0] 26)) 22 5 C n c (w3.heap.size + 1) (by rw [World.size_alloc]) Tryz.underlying22 Tryz.underlying5
      have X0 := hideL (X0.out.next hz2)
      have X1 := hideL (X1.out.next hz2)
      have HQ := hideL (HQ.out.below hz2)
      clear hB hz2 k2)
   | (go_at_call 9; with_reducible refine (LA3.out _ _ (by rw [World.size_alloc]) _ (by kernel_rfl) _ HC3.out).mono ?_; rintro e w4 ⟨rfl, hB⟩
      have hz3 := hB.trans (((Below.refl w4.heap.size w4).alloc (Nat.le_refl _) (.cells #[.string ⟨#[]⟩, .string ⟨#[]⟩, .string ⟨#[]⟩, .string ⟨#[]⟩, .string ⟨#[]⟩, .slice none 0 0, .slice none 0 0] 26)).mono hB.size)
      have HC4 := hideL (HC3.out.trans (hz3.mono HC3.out.size))
      have k4 := fun (C : Array Value) (n c : Nat) => Go.Joins.run_convert_bytes_const_at (P := Tryz.prog) (w4.alloc (.cells #[.string ⟨#[]⟩, .string ⟨#[]⟩, .string ⟨#[]⟩, .string ⟨#[]⟩, .string ⟨#[]⟩, .slice none 0 0, .slice none 0 0] 26)) 22 5 C n c (w4.heap.size + 1) (by rw [World.size_alloc]) Tryz.underlying22 Tryz.underlying5
      have X0 := hideL (X0.out.next hz3)
      have X1 := hideL (X1.out.next hz3)
      have HQ := hideL (HQ.out.below hz3)
      clear hB hz3 k3)
   | (go_at_call 9; with_reducible refine (LA4.out _ _ (by rw [World.size_alloc]) _ (by kernel_rfl) _ HC4.out).mono ?_; rintro e w5 ⟨⟨m4, t4, p4, r4, o4, ha4, hn4, hc4, ba4, bn4, bc4, rfl, rfl, rfl⟩, hB⟩
      have hz4 := hB.trans (((Below.refl w5.heap.size w5).alloc (Nat.le_refl _) (.cells #[.string (bo [67, 79, 78, 78, 69, 67, 84]), .string t4, .string (bo []), .string r4, .string o4, .slice ha4 hn4 hc4, .slice ba4 bn4 bc4] 26)).mono hB.size)
      have HC5 := hideL (HC4.out.trans (hz4.mono HC4.out.size))
      have X0 := hideL (X0.out.next hz4)
      have X1 := hideL (X1.out.next hz4)
      have HQ := hideL (HQ.out.below hz4)
      have X4 := hideL (show RBox7 26 (w5.alloc (.cells #[.string (bo [67, 79, 78, 78, 69, 67, 84]), .string t4, .string (bo []), .string r4, .string o4, .slice ha4 hn4 hc4, .slice ba4 bn4 bc4] 26)) w5.heap.size _ _ _ _ _ _ _ from heap_alloc_new w5 _)
      have c2 := X0.out.c2
      have c3 := X0.out.c3
      have c4 := X0.out.c4
      have d6 := X1.out.c6
      have e0 := X4.out.c0
      have e2 := X4.out.c2
      have hcv := to_strA _ _ _ _ _ HQ.out
      clear hB hz4 k4))
 go_ret
 exact ⟨rfl, HC5.out⟩
end Go.Proofs.YtafmgoekgijfgaaGreatDoor
namespace Go.Proofs.YtafmgoekgijfgaaGreatDoor
open Go.RowKit Go.Lib

/-- A header, a row of headers as the laws go through them. -/
def longH (h : Hd) : Bool := decide (1000 < h.n.size) || decide (2000 < h.v.size)
def longP (l : List Hd) : Bool := decide (100 < l.length) || l.any longH
theorem longP_no {l : List Hd} (h : longP l = false) : l.length ≤ 100 ∧ ∀ a ∈ l, a.n.size ≤ 1000 ∧ a.v.size ≤ 2000 := by
 unfold longP at h
 rw [Bool.or_eq_false_iff, decide_eq_false_iff_not, List.any_eq_false] at h
 refine ⟨by omega, fun a ha => ?_⟩
 have := h.2 a ha
 unfold longH at this
 rw [Bool.or_eq_true, decide_eq_true_eq, decide_eq_true_eq] at this
 omega
theorem longP_fits {l : List Hd} (h : longP l = false) : Fits l := fun a ha => by have := (longP_no h).2 a ha; omega
set_option maxRecDepth 100000 in
set_option maxHeartbeats 400000 in
theorem long_any (v : Value) (l : List Hd) (w : World) (hv : GAt KH w v l) : Calls Tryz.prog 40 #[v] w (fun e w' => e = .returned (.bool (longP l)) ∧ Below w.heap.size w w') := by
 obtain ⟨ao, cap, rfl⟩ := hv.len
 obtain ⟨n, hnn⟩ : ∃ n, l.length = n := ⟨_, rfl⟩
 obtain ⟨B, hB⟩ : ∃ b, l.any longH = b := ⟨_, rfl⟩
 have hR : longP l = (decide (100 < n) || B) := by unfold longP; rw [hB, hnn]
 rw [hR]
 rw [hnn] at hv ⊢
 by_cases h60 : 100 < n
 · rw [decide_eq_true h60, Bool.true_or]
   have i60 : (100 : Int) < (n : Int) := by omega
   clear hR hB hnn hv h60
   go_enter Tryz.func40, Tryz.ntmps40
   go_wp2_with fail
   go_ret
   exact ⟨rfl, Below.refl _ _⟩
 · rw [decide_eq_false h60, Bool.false_or]
   have i60 : ¬ (100 : Int) < (n : Int) := by omega
   have H0 : HidL ((l.drop 0).any longH = B) := ⟨hB⟩
   have HN := hideL hnn
   have HV := hideL hv
   clear hR hB hnn hv
   go_enter Tryz.func40, Tryz.ntmps40
   go_wp2_with fail
   go_loopw [3] (fun i wr => ∃ k : Nat, k ≤ n ∧ i = .int .i64 k ∧ w = wr ∧ HidL ((l.drop k).any longH = B)) (fun i _ => n - (RowKit.intOf i).toNat)
   case atStart => exact ⟨0, Nat.zero_le _, rfl, rfl, H0⟩
   case round =>
     obtain ⟨k, hk, rfl, rfl, HD⟩ := hrel
     clear H0
     by_cases hlt : k < n
     · have hlt' : (k : Int) < (n : Int) := by omega
       obtain ⟨b, o, hao, hbl, hcell⟩ := HV.out.at (k := k) hlt
       subst hao
       have hkl : k < l.length := by rw [HN.out]; exact hlt
       have hD := HD.out
       rw [hdrop_at l k hkl, List.any_cons] at hD
       generalize l.getD k KH.dft = x at *
       obtain ⟨p, q⟩ := x
       have d0 : w.cell? ⟨b, o + k * 2, none⟩ = some (.string p) := hcell 0 (by decide)
       have d1 : w.cell? ⟨b, o + k * 2 + 1, none⟩ = some (.string q) := hcell 1 (by decide)
       have hlh : longH ⟨p, q⟩ = (decide (1000 < p.size) || decide (2000 < q.size)) := rfl
       rw [hlh] at hD
       clear hcell hbl HD hlh
       by_cases hp : 1000 < p.size
       · rw [decide_eq_true hp, Bool.true_or, Bool.true_or] at hD
         have hp' : (1000 : Int) < (p.size : Int) := by omega
         subst hD
         clear hp
         go_wp2_with fail
         go_ret
         exact ⟨rfl, Below.refl _ _⟩
       · have hp' : ¬ (1000 : Int) < (p.size : Int) := by omega
         rw [decide_eq_false hp, Bool.false_or] at hD
         by_cases hq : 2000 < q.size
         · rw [decide_eq_true hq, Bool.true_or] at hD
           have hq' : (2000 : Int) < (q.size : Int) := by omega
           subst hD
           clear hp hq
           go_wp2_with fail
           go_ret
           exact ⟨rfl, Below.refl _ _⟩
         · have hq' : ¬ (2000 : Int) < (q.size : Int) := by omega
           rw [decide_eq_false hq, Bool.false_or] at hD
           have HNX := hideL hD
           clear hp hq hD
           go_wp2_with fail
           go_roundw
           case rel => exact ⟨k + 1, by omega, by go_num, trivial, HNX⟩
           case measure => simp [RowKit.intOf]; omega
     · obtain rfl : k = n := by omega
       have hlt' : ¬ (k : Int) < (k : Int) := by omega
       have hD := HD.out
       rw [List.drop_of_length_le (by rw [HN.out]; omega)] at hD
       have hBf : B = false := hD.symm
       subst hBf
       clear hD HD
       go_wp2_with fail
       go_ret
       exact ⟨rfl, Below.refl _ _⟩
end Go.Proofs.YtafmgoekgijfgaaGreatDoor
namespace Go.Proofs.YtafmgoekgijfgaaGreatDoor
open Go.RowKit Go.Lib

/-- Is a message more than is gone through? -/
def lngP (s : Nat) (b : Nat) (h : List Hd) : Bool := decide (2000 < s) || decide (3000 < b) || longP h
theorem lngP_no {s b : Nat} {h : List Hd} (e : lngP s b h = false) : s ≤ 2000 ∧ b ≤ 3000 ∧ longP h = false := by
 unfold lngP at e
 simp only [Bool.or_eq_false_iff, decide_eq_false_iff_not] at e
 exact ⟨by omega, by omega, e.2⟩
set_option maxRecDepth 100000 in
set_option maxHeartbeats 1000000 in
theorem rlong_any (s : ByteArray) (ha : Option Addr) (hn hc : Nat) (ba : Option Addr) (bn bc : Nat) (h : List Hd) (w : World) (gh : GAt KH w (.slice ha hn hc) h) : Calls Tryz.prog 12 #[.agg #[.string s, .slice ha hn hc, .slice ba bn bc]] w (fun e w' => e = .returned (.bool (lngP s.size bn h)) ∧ Below w.heap.size w w') := by
 have hq : QBox (w.alloc (rawC s (.slice ha hn hc) (.slice ba bn bc))) w.heap.size s (.slice ha hn hc) (.slice ba bn bc) := heap_alloc_new w _
 have HB1 := hideL ((Below.refl w.heap.size w).alloc (Nat.le_refl _) (rawC s (.slice ha hn hc) (.slice ba bn bc)))
 have LL := hideL (long_any (.slice ha hn hc) h _ (gh.below HB1.out))
 have y0 := hq.c0
 have y1 := hq.c1
 have y2 := hq.c2
 unfold lngP
 clear hq gh
 by_cases h1 : 2000 < s.size
 · have i1 : (2000 : Int) < (s.size : Int) := by omega
   rw [decide_eq_true h1]
   clear h1
   go_enter Tryz.func12, Tryz.ntmps12
   go_wp2_with fail
   go_ret
   exact ⟨rfl, HB1.out⟩
 have i1 : ¬ (2000 : Int) < (s.size : Int) := by omega
 rw [decide_eq_false h1]
 by_cases h2 : 3000 < bn
 · have i2 : (3000 : Int) < (bn : Int) := by omega
   rw [decide_eq_true h2]
   clear h1 h2
   go_enter Tryz.func12, Tryz.ntmps12
   go_wp2_with fail
   go_ret
   exact ⟨rfl, HB1.out⟩
 have i2 : ¬ (3000 : Int) < (bn : Int) := by omega
 rw [decide_eq_false h2]
 clear h1 h2
 go_enter Tryz.func12, Tryz.ntmps12
 go_wp2_with (go_at_call 40; refine LL.out.mono ?_; rintro e w2 ⟨rfl, hB⟩; have HB2 := hideL (HB1.out.trans (hB.mono HB1.out.size)); clear hB)
 go_ret
 exact ⟨by simp, HB2.out⟩
end Go.Proofs.YtafmgoekgijfgaaGreatDoor
