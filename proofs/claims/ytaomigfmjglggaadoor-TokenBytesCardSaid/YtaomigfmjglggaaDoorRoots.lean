/- The roots of package sha: primes, and halving, their contracts. -/
import Derived.Test.YtaomigfmjglggaaDoorProg
import Derived.WalkKit
import Derived.Shelf.Bits.Mul64
import Derived.Test.YtaomigfmjglggaaDoorBase
import Derived.WalkSpells
import Derived.WalkLawsBesides
import Derived.RangeFuncNested
import Derived.RangeFuncBound
import Derived.RangeFuncCalls
import Derived.RangeFuncLeaves
import Derived.Shelf.Abstract
import Derived.Shelf.RegionOpen
import Derived.OwnWalkIn
import Derived.TacticsInMore
import Derived.LoopNIn
import Derived.LoopIn
import Derived.Deep.LoopGhost
namespace Go.Proofs.YtaomigfmjglggaaDoor
open Go.RowKit Go.Lib

set_option maxRecDepth 100000 in
set_option maxHeartbeats 1000000 in
theorem mul_any (x y : Nat) (hx : x < 18446744073709551616) (hy : y < 18446744073709551616) (w : World) :
    Calls Tryd.prog 116 #[.int .u64 x, .int .u64 y] w fun e w' => e = .returned (.tuple #[.int .u64 ((x * y / 18446744073709551616 : Nat) : Int), .int .u64 ((x * y % 18446744073709551616 : Nat) : Int)]) ∧ w = w' := by
  obtain ⟨bd, bt, bw, hhi⟩ := Lib.mul64_hi x y hx hy
  have ba := Lib.half_mul_le (a := x / 4294967296) (b := y / 4294967296) (by omega) (by omega)
  have bb := Lib.half_mul_le (a := x / 4294967296) (b := y % 4294967296) (by omega) (by omega)
  have bc := Lib.half_mul_le (a := x % 4294967296) (b := y / 4294967296) (by omega) (by omega)
  have ba' : x / 4294967296 * (y / 4294967296) < 18446744073709551616 := by omega
  have bb' : x / 4294967296 * (y % 4294967296) < 18446744073709551616 := by omega
  have bc' : x % 4294967296 * (y / 4294967296) < 18446744073709551616 := by omega
  have bh : x / 4294967296 * (y / 4294967296) + (x / 4294967296 * (y % 4294967296) + x % 4294967296 * (y % 4294967296) / 4294967296) / 4294967296 + ((x / 4294967296 * (y % 4294967296) + x % 4294967296 * (y % 4294967296) / 4294967296) % 4294967296 + x % 4294967296 * (y / 4294967296)) / 4294967296 < 18446744073709551616 := by omega
  have bg : x / 4294967296 * (y / 4294967296) + (x / 4294967296 * (y % 4294967296) + x % 4294967296 * (y % 4294967296) / 4294967296) / 4294967296 < 18446744073709551616 := by omega
  go_enter Tryd.func116, Tryd.ntmps116
  go_wp2
  simp only [Mul64.maskN x hx, Mul64.maskN y hy, Mul64.divN, Mul64.mulN, Mul64.addN, Mul64.wrapN _ bd, Mul64.wrapN _ bb', Mul64.wrapN _ bt, Mul64.maskN _ bt, Mul64.wrapN _ bc', Mul64.wrapN _ bw, Mul64.wrapN _ ba', Mul64.wrapN _ bg, Mul64.wrapN _ bh, Mul64.wrapM (x * y)]
  rw [hhi]
  go_ret2
  exact ⟨rfl, rfl⟩
end Go.Proofs.YtaomigfmjglggaaDoor
namespace Go.Proofs.YtaomigfmjglggaaDoor
open Go.RowKit

theorem noneBelow_done (p d : Nat) (h : noneBelow p d) (hd : p < d * d) : primeB p = true := by
  rw [primeB, List.all_eq_true]
  intro e he
  rw [List.mem_range] at he
  by_cases h2 : e < 2
  · simp [h2]
  · by_cases h3 : p < e * e
    · simp [h3]
    · have hlt : e < d := by
        rcases Nat.lt_or_ge e d with h | h
        · exact h
        · have := Nat.mul_le_mul h h; omega
      have := h e (by omega) hlt
      simp [this]

theorem noneBelow_hit (p d : Nat) (h2 : 2 ≤ d) (hd : d * d ≤ p) (h0 : p % d = 0) (hp : p < 400) : primeB p = false := by
  have hd20 : d < 21 := by
    rcases Nat.lt_or_ge d 21 with h | h
    · exact h
    · have := Nat.mul_le_mul h h; omega
  rw [primeB, List.all_eq_false]
  exact ⟨d, List.mem_range.2 hd20, by simp [h0]; omega⟩

set_option maxRecDepth 100000 in
set_option maxHeartbeats 400000 in
theorem prime_any (p : Nat) (w : World) (hp : p < 400) :
    Calls Tryd.prog 113 #[.int .u32 p] w fun e w' => e = .returned (.bool (primeB p)) ∧ w = w' := by
  go_enter Tryd.func113, Tryd.ntmps113
  go_wp2
  go_loop [3] (fun i => ∃ d : Nat, 2 ≤ d ∧ d ≤ 21 ∧ i = .int .u32 d ∧ noneBelow p d) (fun i => 21 - (intOf i).toNat)
  case atStart => exact ⟨2, by omega, by omega, rfl, fun e h1 h2 => by omega⟩
  case round =>
    obtain ⟨d, hd2, hd21, rfl, hn⟩ := hrel
    have hsq : d * d ≤ 441 := Nat.mul_le_mul hd21 hd21
    have hw : IntKind.u32.wrap ((d : Int) * (d : Int)) = ((d * d : Nat) : Int) := by
      rw [← Int.natCast_mul, IntKind.wrap_u32']; omega
    have Hn := hide hn
    clear hn
    by_cases hdd : d * d ≤ p
    · have hdi : (((d * d : Nat) : Int) ≤ (p : Int)) := by omega
      have hd20 : d ≤ 19 := by
        rcases Nat.lt_or_ge d 20 with h | h
        · omega
        · have := Nat.mul_le_mul h h; omega
      by_cases h0 : p % d = 0
      · have h0i : ((p : Int) % (d : Int) == 0) = true := by rw [beq_iff_eq]; omega
        have HF := hide (noneBelow_hit p d hd2 hdd h0 hp)
        clear h0 hsq hdd
        go_wp2
        go_ret
        exact ⟨by rw [HF.out]; rfl, rfl⟩
      · have h0i : ((p : Int) % (d : Int) == 0) = false := by rw [beq_eq_false_iff_ne]; omega
        have HN := hide h0
        clear h0 hsq hdd
        go_wp2
        go_round
        case rel =>
          refine ⟨d + 1, by omega, by omega, by go_num, fun e h1 h2 => ?_⟩
          by_cases he : e = d
          · subst he; exact HN.out
          · exact Hn.out e h1 (by omega)
        case measure => simp [intOf]; omega
    · have hdi : ¬ (((d * d : Nat) : Int) ≤ (p : Int)) := by omega
      have HF := hide (noneBelow_done p d Hn.out (by omega))
      clear hdd hsq
      go_wp2
      go_ret
      exact ⟨by rw [HF.out]; rfl, rfl⟩
end Go.Proofs.YtaomigfmjglggaaDoor
namespace Go.Proofs.YtaomigfmjglggaaDoor
open Go.RowKit Go.Shelf
attribute [local go_sem] Oper.semAt_some

/-- A prime below 400 with its place, which is below m. -/
abbrev PR (m : Nat) := { x : Nat × Nat // x.1 < m ∧ x.2 < 400 }
def encP {m : Nat} (x : PR m) : Array Value := #[.int .i64 (x.1.1 : Int), .int .u32 (x.1.2 : Int)]
/-- The primes below p, each with its place. -/
def placed (l : List Nat) : List (Nat × Nat) := (List.range l.length).zip l

/-- Block b stays as it was. -/
def KpB (b : Nat) (W W' : World) : Prop := W'.heap[b]? = W.heap[b]?
theorem kpB_t {b : Nat} {A B C : World} (h : KpB b A B) (k : KpB b B C) : KpB b A C := Eq.trans k h
theorem kpB_b {b : Nat} {w : World} (hb : b < w.heap.size) (W : World) (l : Nat) (o o' : Obj) (hl : w.heap.size ≤ l) (_ : W.heap[l]? = some o) (_ : o.isCells = false) (_ : o.isWalk = false) : KpB b W (W.putObj l o') := by
  have hg := (grownBy_putObj' W l o')
  by_cases h : b < W.heap.size
  · exact hg.block b h (by intro e; cases e; omega)
  · have h1 : W.heap[b]? = none := by simp; omega
    have h2 : (W.putObj l o').heap[b]? = none := by simp [World.putObj]; omega
    exact h2.trans h1.symm

theorem placed_snoc (l : List Nat) (p : Nat) : placed (l ++ [p]) = placed l ++ [(l.length, p)] := by
  simp [placed, List.range_succ, List.zip_append]
theorem length_placed (l : List Nat) : (placed l).length = l.length := by simp [placed]

set_option maxRecDepth 100000 in
set_option maxHeartbeats 1000000 in
theorem primes_stops (m : Nat) (hm : m ≤ 64) (B : Nat) (W0 : World) (hB : B < W0.heap.size) (hc : W0.cell? ⟨B, 0, none⟩ = some (.int .i64 (m : Int))) :
    SeqStopsK Fence.wide 2 Tryd.prog 112 #[.pointer (some ⟨B, 0, none⟩)] (encP (m := m)) (KpB B) (fun xs => xs.map Subtype.val = placed ((primesTo 312).take m)) (fun _ => True) m W0 := fun l J Jx W hW hJ hJx hY h0 => by
  refine callsIn_of_wp Tryd.func112 rfl trivial ?_ rfl
  simp only [Tryd.ntmps112, List.size_toArray, List.length_cons, List.length_nil, Nat.reduceAdd, Nat.reduceSub, Array.replicate_succ, Array.replicate_zero, List.push_toArray, List.append_toArray, List.nil_append, List.cons_append]
  have hcW : W.cell? ⟨B, 0, none⟩ = some (.int .i64 (m : Int)) := (hW.cell (p := ⟨B, 0, none⟩) (by show B < _; omega)).trans hc
  gi_wp2
  gi_loopw [3, 4] (fun i q wr => ∃ p : Nat, 2 ≤ p ∧ i = .int .i64 ((primesTo p).length : Int) ∧ q = .int .u32 (p : Int) ∧ (primesTo p).length ≤ m ∧ p ≤ 312 ∧ wr.cell? ⟨B, 0, none⟩ = some (.int .i64 (m : Int)) ∧ ∃ pre : List (PR m), pre.map Subtype.val = placed (primesTo p) ∧ J pre wr)
    (fun _ q _ => 400 - (intOf q).toNat)
  case atStart => exact ⟨2, by omega, rfl, rfl, Nat.zero_le _, by omega, hcW, [], rfl, h0⟩
  case round =>
    obtain ⟨p, hp2, rfl, rfl, hlen, hp312, hcr, pre, hpre, hJs⟩ := hrel
    have HP := hide hpre
    have hpl : pre.length = (primesTo p).length := by rw [← length_placed, ← hpre, List.length_map]
    have HPL := hide hpl
    clear hpre hpl
    obtain ⟨k, hk⟩ : ∃ k, k = (primesTo p).length := ⟨_, rfl⟩
    have HK := hide hk
    rw [← hk] at hlen ⊢
    by_cases hlt : k < m
    · have hp311 := primesTo_short p (by omega)
      have hti : (k : Int) < (m : Int) := by omega
      have HJ := hide hJs
      clear hk hJs
      cases hb : primeB p
      · have HB := hide hb
        have HC := hide (callsIn_wide (n := 1).2 (prime_any p wr (by omega)))
        rw [hb] at HC
        clear hb
        gi_wp2_with fail
        refine ⟨trivial, ?_⟩
        refine HC.out.mono ?_
        rintro e w' ⟨rfl, rfl⟩
        gi_wp2
        go_roundw
        case rel =>
          have e1 := primesTo_succ_no p HB.out
          exact ⟨p + 1, by omega, by rw [e1, ← HK.out], by go_num, by rw [e1, ← HK.out]; exact hlen, by omega, hcr, pre, by rw [e1]; exact HP.out, HJ.out⟩
        case measure => simp [intOf]; omega
      · have HB := hide hb
        have HC := hide (callsIn_wide (n := 1).2 (prime_any p wr (by omega)))
        rw [hb] at HC
        clear hb
        obtain ⟨fn, tmps, assign, body, hy, hR⟩ := hY pre ⟨(k, p), hlt, by omega⟩ wr HJ.out (by rw [HPL.out, ← HK.out]; exact hlt)
        dsimp only [encP] at hy
        gi_wp2_with fail
        refine ⟨trivial, ?_⟩
        refine HC.out.mono ?_
        rintro e w' ⟨rfl, rfl⟩
        gi_wp2
        refine hR.mono ?_
        rintro e W3 (⟨rfl, hJ3, hk3⟩ | ⟨rfl, hJx3⟩)
        · have hcr3 : W3.cell? ⟨B, 0, none⟩ = some (.int .i64 (m : Int)) := (World.cell?_of_block (a := ⟨B, 0, none⟩) hk3).trans hcr
          gi_wp2
          go_roundw
          case rel =>
            have e1 := primesTo_succ_yes p hp2 HB.out
            exact ⟨p + 1, by omega, by rw [e1, List.length_append, ← HK.out]; go_num, by go_num, by rw [e1, List.length_append, ← HK.out]; simp; omega, by omega, hcr3, pre ++ [⟨(k, p), hlt, by omega⟩], by rw [e1, placed_snoc, ← HK.out, List.map_append, HP.out]; rfl, hJ3⟩
          case measure => simp [intOf]; omega
        · gi_wp2
          refine bodyPost_ret (results_none rfl _ _ _) rfl ?_
          exact ⟨⟨_, rfl⟩, .inr ⟨_, trivial, hJx3⟩⟩
    · have hkm : k = m := by omega
      have HE : Hid (primesTo p = (primesTo 312).take m) := hide (by
        have := List.prefix_iff_eq_take.1 (primesTo_prefix p 312 hp312)
        rw [← hk, hkm] at this; exact this)
      have HJ := hide hJs
      clear hk hJs hkm
      gi_wp2
      go_end0
      exact ⟨⟨_, rfl⟩, .inl ⟨pre, by rw [HP.out, HE.out], HJ.out⟩⟩
end Go.Proofs.YtaomigfmjglggaaDoor
namespace Go.Proofs.YtaomigfmjglggaaDoor
open Go.RowKit

set_option maxRecDepth 100000 in
set_option maxHeartbeats 400000 in
theorem sqBel_any (x : Nat) (p : Nat) (pa : Addr) (w : World) (hx : Hid (x < 18446744073709551616)) (hc : w.cell? pa = some (.int .u32 (p : Int))) (hp : p < 400) :
    Calls Tryd.prog 115 #[.int .u64 x, .pointer (some pa)] w fun e w' => e = .returned (.bool (sqB p x)) ∧ w = w' := by
  have hb : ∀ z : Nat, decide (((z : Nat) : Int) < (p : Int)) = decide (z < p) := fun z => by simp
  go_enter Tryd.func115, Tryd.ntmps115
  go_wp2_with fail
  refine (mul_any x x hx.out hx.out w).mono ?_
  generalize hq : x * x / 18446744073709551616 = q
  generalize x * x % 18446744073709551616 = r
  have HQ := hide hq
  clear hq
  rintro e w' ⟨rfl, rfl⟩
  go_wp2_with fail
  go_ret
  exact ⟨by show Ending.returned (Value.bool (decide (q < p))) = _; rw [sqB, HQ.out], rfl⟩

set_option maxRecDepth 100000 in
set_option maxHeartbeats 400000 in
theorem cbBel_any (x : Nat) (p : Nat) (pa : Addr) (w : World) (hx : Hid (x ≤ 34359738368)) (hc : w.cell? pa = some (.int .u32 (p : Int))) (hp : p < 400) :
    Calls Tryd.prog 118 #[.int .u64 x, .pointer (some pa)] w fun e w' => e = .returned (.bool (cbB p x)) ∧ w = w' := by
  have hb : ∀ z y : Nat, decide (((z : Nat) : Int) < (y : Int)) = decide (z < y) := fun z y => by simp
  have hxx : x * x ≤ 34359738368 * 34359738368 := Nat.mul_le_mul hx.out hx.out
  have hs : x * x / 18446744073709551616 ≤ 64 := by omega
  have hsx : x * x / 18446744073709551616 * x ≤ 64 * 34359738368 := Nat.mul_le_mul hs hx.out
  have hl : x * x % 18446744073709551616 < 18446744073709551616 := by omega
  have hlx : (x * x % 18446744073709551616) * x ≤ 18446744073709551616 * 34359738368 := Nat.mul_le_mul (by omega) hx.out
  have hl2 : (x * x % 18446744073709551616) * x / 18446744073709551616 ≤ 34359738368 := by omega
  have hx64 : x < 18446744073709551616 := by have := hx.out; omega
  obtain ⟨q, hq⟩ : ∃ q, q = x * x / 18446744073709551616 := ⟨_, rfl⟩
  obtain ⟨r, hr⟩ : ∃ r, r = x * x % 18446744073709551616 := ⟨_, rfl⟩
  obtain ⟨s, hs'⟩ : ∃ s, s = r * x / 18446744073709551616 := ⟨_, rfl⟩
  have hm1 : Calls Tryd.prog 116 #[.int .u64 x, .int .u64 x] w fun e w' => e = .returned (.tuple #[.int .u64 (q : Int), .int .u64 (r : Int)]) ∧ w = w' := by
    rw [hq, hr]; exact mul_any x x hx64 hx64 w
  have hm2 : ∃ t : Nat, Calls Tryd.prog 116 #[.int .u64 r, .int .u64 x] w fun e w' => e = .returned (.tuple #[.int .u64 (s : Int), .int .u64 (t : Int)]) ∧ w = w' :=
    ⟨_, by rw [hs']; exact mul_any r x (by omega) hx64 w⟩
  obtain ⟨t, hm2⟩ := hm2
  have hqx : Hid (IntKind.u64.wrap ((q : Int) * (x : Int)) = ((q * x : Nat) : Int)) := hide (by rw [← Int.natCast_mul, IntKind.wrap_u64]; rw [← hq] at hsx; omega)
  have hsq : Hid (IntKind.u64.wrap ((s : Int) + ((q * x : Nat) : Int)) = ((s + q * x : Nat) : Int)) := hide (by
    rw [← Int.natCast_add, IntKind.wrap_u64]; rw [← hq] at hsx; rw [← hr, ← hs'] at hl2; omega)
  have hps : Hid (IntKind.u64.wrap ((p : Int) * 4294967296) = ((p * 4294967296 : Nat) : Int)) := hide (by rw [IntKind.wrap_u64]; omega)
  have HR := hide (show cbB p x = decide (s + q * x < p * 4294967296) from by rw [cbB, ← hr, ← hs', ← hq])
  have HM1 := hide hm1
  have HM2 := hide hm2
  clear hq hr hs' hxx hs hsx hl hlx hl2 hx64 hm1 hm2 hx
  go_enter Tryd.func118, Tryd.ntmps118
  go_wp2_with fail
  refine HM1.out.mono ?_
  rintro e w' ⟨rfl, rfl⟩
  go_wp2_with fail
  refine HM2.out.mono ?_
  rintro e w' ⟨rfl, rfl⟩
  go_wp2_with fail
  go_ret
  refine ⟨?_, rfl⟩
  show Ending.returned (Value.bool (decide (IntKind.u64.wrap ((s : Int) + IntKind.u64.wrap ((q : Int) * (x : Int))) < (p : Int) * 4294967296))) = _
  rw [hqx.out, hsq.out, HR.out]
  generalize s + q * x = m
  congr 2
  exact decide_eq_decide.2 (by omega)

set_option maxRecDepth 100000 in
set_option maxHeartbeats 400000 in
theorem sqHalve (p lo hi : Nat) (pa : Addr) (B : Nat) (w : World) (hp : p < 400) (h1 : lo < hi) (h2 : Hid (hi ≤ 34359738368)) (hlo : w.cell? ⟨B + 1, 0, none⟩ = some (.int .u64 (lo : Int))) (hhi : w.cell? ⟨B + 1 + 1, 0, none⟩ = some (.int .u64 (hi : Int)))
    (hfl : w.frozen? ⟨B + 1, 0, none⟩ = false) (hfh : w.frozen? ⟨B + 1 + 1, 0, none⟩ = false) (hbx : w.cell? ⟨B, 0, none⟩ = some (.func (.func 115) #[] #[.pointer (some pa)])) (hc : w.cell? pa = some (.int .u32 (p : Int))) :
    Calls Tryd.prog 120 #[.pointer (some ⟨B + 1, 0, none⟩), .pointer (some ⟨B + 1 + 1, 0, none⟩), .pointer (some ⟨B, 0, none⟩)] w
      fun e w' => e = .returned (.tuple #[]) ∧ w' = (match sqB p (lo + (hi - lo) / 2) with
        | true => w.setCell ⟨B + 1, 0, none⟩ (.int .u64 ((lo + (hi - lo) / 2 : Nat) : Int))
        | false => w.setCell ⟨B + 1 + 1, 0, none⟩ (.int .u64 ((lo + (hi - lo) / 2 : Nat) : Int))) := by
  have hmid : (lo : Int) + ((hi : Int) - (lo : Int)) / 2 = ((lo + (hi - lo) / 2 : Nat) : Int) := by omega
  have hm2 : lo + (hi - lo) / 2 ≤ 34359738368 := by have := h2.out; omega
  have HC := hide (sqBel_any (lo + (hi - lo) / 2) p pa w (hide (by omega)) hc hp)
  obtain ⟨m, hm⟩ : ∃ m, m = lo + (hi - lo) / 2 := ⟨_, rfl⟩
  rw [← hm] at hmid hm2 HC ⊢
  have hA : (lo : Int) + ((hi : Int) - (lo : Int)) / 2 ≤ 34359738368 := by omega
  have HM := hide hmid
  clear hm hm2 hmid
  cases hb : sqB p m
  all_goals
    rw [hb] at HC
    clear hb
    go_enter Tryd.func120, Tryd.ntmps120
    go_wp2_with fail
    rw [HM.out]
    refine HC.out.mono ?_
    rintro e w' ⟨rfl, rfl⟩
    go_wp2_with fail
    go_end0
    exact ⟨rfl, rfl⟩

set_option maxRecDepth 100000 in
set_option maxHeartbeats 400000 in
theorem cbHalve (p lo hi : Nat) (pa : Addr) (B : Nat) (w : World) (hp : p < 400) (h1 : lo < hi) (h2 : Hid (hi ≤ 34359738368)) (hlo : w.cell? ⟨B + 1, 0, none⟩ = some (.int .u64 (lo : Int))) (hhi : w.cell? ⟨B + 1 + 1, 0, none⟩ = some (.int .u64 (hi : Int)))
    (hfl : w.frozen? ⟨B + 1, 0, none⟩ = false) (hfh : w.frozen? ⟨B + 1 + 1, 0, none⟩ = false) (hbx : w.cell? ⟨B, 0, none⟩ = some (.func (.func 118) #[] #[.pointer (some pa)])) (hc : w.cell? pa = some (.int .u32 (p : Int))) :
    Calls Tryd.prog 120 #[.pointer (some ⟨B + 1, 0, none⟩), .pointer (some ⟨B + 1 + 1, 0, none⟩), .pointer (some ⟨B, 0, none⟩)] w
      fun e w' => e = .returned (.tuple #[]) ∧ w' = (match cbB p (lo + (hi - lo) / 2) with
        | true => w.setCell ⟨B + 1, 0, none⟩ (.int .u64 ((lo + (hi - lo) / 2 : Nat) : Int))
        | false => w.setCell ⟨B + 1 + 1, 0, none⟩ (.int .u64 ((lo + (hi - lo) / 2 : Nat) : Int))) := by
  have hmid : (lo : Int) + ((hi : Int) - (lo : Int)) / 2 = ((lo + (hi - lo) / 2 : Nat) : Int) := by omega
  have hm2 : lo + (hi - lo) / 2 ≤ 34359738368 := by have := h2.out; omega
  have HC := hide (cbBel_any (lo + (hi - lo) / 2) p pa w (hide hm2) hc hp)
  obtain ⟨m, hm⟩ : ∃ m, m = lo + (hi - lo) / 2 := ⟨_, rfl⟩
  rw [← hm] at hmid hm2 HC ⊢
  have hA : (lo : Int) + ((hi : Int) - (lo : Int)) / 2 ≤ 34359738368 := by omega
  have HM := hide hmid
  clear hm hm2 hmid
  cases hb : cbB p m
  all_goals
    rw [hb] at HC
    clear hb
    go_enter Tryd.func120, Tryd.ntmps120
    go_wp2_with fail
    rw [HM.out]
    refine HC.out.mono ?_
    rintro e w' ⟨rfl, rfl⟩
    go_wp2_with fail
    go_end0
    exact ⟨rfl, rfl⟩
end Go.Proofs.YtaomigfmjglggaaDoor
