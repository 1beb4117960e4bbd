/- The document's limbs, times, above and root of layer 1: their contracts. -/
import Derived.Test.YteocienbfhgmjaaProg
import Derived.Test.YteocienbfhgmjaaRtP
import Derived.Test.YteocienbfhgmjaaPl
import Derived.Test.YteocienbfhgmjaaSum
import Derived.IntWalk
import Derived.Deep.QuietTactic
import Derived.BigQuiet
namespace Go.Proofs.Yteocienbfhgmjaa
open Go.RowKit

def ints (l : List Nat) : List Int := l.map fun n : Nat => (n : Int)
theorem ln_eq : ∀ l : List Nat, ln l = l.length
  | [] => rfl
  | _ :: l => by rw [ln, ln_eq l, List.length_cons]
theorem length_ints (l : List Nat) : (ints l).length = l.length := by simp [ints]
theorem gt_eq : ∀ (l : List Nat) (i : Nat), nth (ints l) i = (gt l i : Int)
  | [], i => by simp [ints, nth, gt]
  | a :: l, 0 => by simp [ints, nth, gt]
  | a :: l, i + 1 => by
    have h := gt_eq l i
    simp [ints, nth, gt] at h ⊢
    exact h
theorem st_eq : ∀ (l : List Nat) (i v : Nat), ints (st l i v) = (ints l).set i (v : Int)
  | [], i, v => by simp [ints, st]
  | a :: l, 0, v => by simp [ints, st]
  | a :: l, i + 1, v => by
    have h := st_eq l i v
    simp [ints, st] at h ⊢
    exact h
theorem length_st : ∀ (l : List Nat) (i v : Nat), (st l i v).length = l.length
  | [], _, _ => rfl
  | _ :: _, 0, _ => rfl
  | _ :: l, i + 1, v => by rw [st, List.length_cons, length_st l i v, List.length_cons]

/-- The slice value v is a whole block of the numbers l. -/
def UB (w : World) (v : Value) (l : List Nat) : Prop := ∃ g, v = .slice (some ⟨g, 0, none⟩) l.length l.length ∧ Blk w g 23 .u32 (ints l)
theorem UB.below {w w' : World} {v : Value} {l : List Nat} (h : UB w v l) (hb : Below w.heap.size w w') : UB w' v l := by
  obtain ⟨g, hv, h⟩ := h
  exact ⟨g, hv, blk_through hb h⟩

theorem and16 (n : Nat) (h : n < 18446744073709551616) : bits BinOp.and IntKind.u64 (n : Int) 65535 = ((n % 65536 : Nat) : Int) := by
  have := u64_and_nat n 65535 h (by omega)
  rw [show (65535 : Nat) = 2 ^ 16 - 1 from rfl, Nat.and_two_pow_sub_one_eq_mod] at this
  exact this

/-- Behind limbs. -/
def UPost (l : List Nat) (w : World) (e : Ending) (w' : World) : Prop := ∃ g, e = .returned (.slice (some ⟨g, 0, none⟩) l.length l.length) ∧ w.heap.size ≤ g ∧ Blk w' g 23 .u32 (ints l) ∧ Below w.heap.size w w'

set_option maxRecDepth 100000 in
theorem limbs_ref (n : Nat) (w : World) (hn : n < 18446744073709551616) : Calls Try.prog 52 #[.int .u64 n] w (UPost (limbsN n) w) := by
  have h0 := and16 n hn
  have h1 := and16 (n / 65536) (by omega)
  have h2 := and16 (n / 4294967296) (by omega)
  rw [show (((n / 65536 : Nat)) : Int) = (n : Int) / 65536 by omega] at h1
  rw [show (((n / 4294967296 : Nat)) : Int) = (n : Int) / 4294967296 by omega] at h2
  go_enter Try.func52, Try.ntmps52
  go_wp2_with fail
  have hl : cellsOf .u32 (ints (limbsN n)) = #[.int .u32 ((n : Int) % 65536), .int .u32 ((n : Int) / 65536 % 65536), .int .u32 ((n : Int) / 4294967296 % 65536), .int .u32 ((n : Int) / 281474976710656)] := by
    have h3 : (((n / 281474976710656 % 4294967296 : Nat)) : Int) = (n : Int) / 281474976710656 := by omega
    simp [cellsOf, ints, limbsN, h3]
  have HL := hide hl
  clear hl h0 h1 h2
  go_ret
  exact ⟨w.heap.size, rfl, Nat.le_refl _, by unfold Blk; rw [HL.out]; exact heap_alloc_new _ _, (Below.refl _ _).alloc (Nat.le_refl _) _⟩
end Go.Proofs.Yteocienbfhgmjaa
namespace Go.Proofs.Yteocienbfhgmjaa
open Go.RowKit

theorem rowN_length (x : Nat) (b : List Nat) (i : Nat) : ∀ (f k c : Nat) (out r : List Nat), rowN x b i f k c out = some r → r.length = out.length
  | 0, _, _, _, _, h => by simp [rowN] at h
  | f + 1, k, c, out, r, h => by
    rw [rowN] at h
    cases h1 : (Nat.blt k (ln b) || Nat.blt 0 c) with
    | false => rw [h1] at h; simp at h; rw [h]
    | true =>
      rw [h1] at h
      cases h2 : (Nat.blt (i + k) (ln out) && Nat.blt (gt out (i + k) + c + x * gt b k) 18446744073709551616) with
      | false => rw [h2] at h; simp at h
      | true =>
        rw [h2] at h
        simp only [cond_true] at h
        rw [rowN_length x b i f _ _ _ r h, length_st]

theorem rowN_go {x i f k c : Nat} {b out r : List Nat} (h : rowN x b i f k c out = some r) (ht : k < b.length ∨ 0 < c) :
    ∃ f', f = f' + 1 ∧ i + k < out.length ∧ gt out (i + k) + c + x * gt b k < 18446744073709551616 ∧ rowN x b i f' (k + 1) ((gt out (i + k) + c + x * gt b k) / 65536) (st out (i + k) ((gt out (i + k) + c + x * gt b k) % 65536)) = some r := by
  cases f with
  | zero => simp [rowN] at h
  | succ f =>
    refine ⟨f, rfl, ?_⟩
    rw [rowN] at h
    have h1 : (Nat.blt k (ln b) || Nat.blt 0 c) = true := by
      rw [Bool.or_eq_true, ln_eq]
      rcases ht with h | h
      · exact .inl (by simpa using h)
      · exact .inr (by simpa using h)
    rw [h1] at h
    cases h2 : (Nat.blt (i + k) (ln out) && Nat.blt (gt out (i + k) + c + x * gt b k) 18446744073709551616) with
    | false => rw [h2] at h; simp at h
    | true =>
      rw [h2] at h
      rw [Bool.and_eq_true, ln_eq] at h2
      exact ⟨by simpa using h2.1, by simpa using h2.2, h⟩

theorem rowN_end {x i f k c : Nat} {b out r : List Nat} (h : rowN x b i f k c out = some r) (h1 : ¬ k < b.length) (h2 : ¬ 0 < c) : out = r := by
  cases f with
  | zero => simp [rowN] at h
  | succ f =>
    rw [rowN] at h
    have h3 : (Nat.blt k (ln b) || Nat.blt 0 c) = false := by
      rw [Bool.or_eq_false_iff, ln_eq]
      exact ⟨Bool.eq_false_iff.2 fun h => h1 (by simpa using h), Bool.eq_false_iff.2 fun h => h2 (by simpa using h)⟩
    rw [h3] at h
    simpa using h

theorem rowsN_some (a b : List Nat) : ∀ (n : Nat) (r : List Nat), rowsN a b n = some r → ∀ i, i ≤ n → ∃ o, rowsN a b i = some o
  | 0, r, h, i, hi => by obtain rfl : i = 0 := by omega
                         exact ⟨r, h⟩
  | n + 1, r, h, i, hi => by
    rcases Nat.eq_or_lt_of_le hi with rfl | hlt
    · exact ⟨r, h⟩
    · rw [rowsN] at h
      cases h1 : rowsN a b n with
      | none => rw [h1] at h; cases h
      | some o => exact rowsN_some a b n o h1 i (by omega)

theorem rowsN_step {a b o r : List Nat} {i : Nat} (h : rowsN a b i = some o) (h1 : rowsN a b (i + 1) = some r) : rowN (gt a i) b i (b.length + 3) 0 0 o = some r := by
  rw [rowsN, h, ln_eq] at h1
  exact h1

theorem rowsN_length (a b : List Nat) : ∀ (i : Nat) (o : List Nat), rowsN a b i = some o → o.length = a.length + b.length + 1
  | 0, o, h => by
    rw [rowsN, ln_eq, ln_eq] at h
    injection h with h
    rw [← h, List.length_replicate]
  | i + 1, o, h => by
    rw [rowsN] at h
    cases h1 : rowsN a b i with
    | none => rw [h1] at h; cases h
    | some p =>
      rw [h1] at h
      rw [rowN_length _ _ _ _ _ _ _ _ h, rowsN_length a b i p h1]

theorem Try.info23 : (Try.prog.info? 23).map (fun i => (i.zero, i.size, i.bytes)) = some (some (.int .u32 0), 1, 4) := by kernel_rfl

theorem madeZeros (n : Nat) : madeCells #[.int .u32 0] n = cellsOf .u32 (ints (List.replicate n 0)) := by
  apply Array.ext'
  rw [toList_madeCells_one, toArray_cellsOf, ints]
  simp

set_option maxRecDepth 100000 in
set_option maxHeartbeats 1000000 in
theorem times_ref (a b r : List Nat) (va vb : Value) (w : World) (ha : UB w va a) (hb : UB w vb b) (hr : timesN a b = some r) (hal : a.length ≤ 100) (hbl : b.length ≤ 100) (hA : ∀ i, gt a i < 4294967296) (hB : ∀ i, gt b i < 4294967296) :
    Calls Try.prog 53 #[va, vb] w (UPost r w) := by
  obtain ⟨ga, rfl, hba⟩ := ha
  obtain ⟨gb, rfl, hbb⟩ := hb
  obtain ⟨i0, hi, hz0, hz1, hz2⟩ := info_parts Try.info23
  have HAB := hide hA
  have HBB' := hide hB
  clear hA hB
  have hga := hba.lt
  have hgb := hbb.lt
  have hra : rowsN a b a.length = some r := by rw [← ln_eq]; exact hr
  have hmk : ∀ w : World, (Instr.makeSlice 57 (.int .i64 ((a.length : Int) + (b.length : Int) + 1)) (.int .i64 ((a.length : Int) + (b.length : Int) + 1))).run Try.prog w = .ok (.slice (some ⟨w.heap.size, 0, none⟩) (a.length + b.length + 1) (a.length + b.length + 1)) (w.alloc (.cells (madeCells #[.int .u32 0] (a.length + b.length + 1)) 23)) := by
    intro w
    have h := run_make (P := Try.prog) w 57 23 i0 (.int .u32 0) Try.underlying57 hi hz0 .i64 .i64 ((a.length : Int) + (b.length : Int) + 1) ((a.length : Int) + (b.length : Int) + 1) (by omega) (by omega) (by rw [hz2]; omega) (by omega)
    rw [hz1] at h
    have e2 : ((a.length : Int) + (b.length : Int) + 1).toNat = a.length + b.length + 1 := by omega
    rw [e2] at h
    simpa [Value.cells] using h
  clear hz0 hz1 hz2 hi
  have HR := hide hra
  have HA := hide hba
  have HBB := hide hbb
  clear hr hra hba hbb
  obtain ⟨la, hla⟩ : ∃ n, n = a.length := ⟨_, rfl⟩
  obtain ⟨lb, hlb⟩ : ∃ n, n = b.length := ⟨_, rfl⟩
  have HLA := hide hla
  have HLB := hide hlb
  rw [← hla] at hal hmk ⊢
  rw [← hlb] at hbl hmk ⊢
  clear hla hlb
  go_enter Try.func53, Try.ntmps53
  go_wp2_with fail
  clear hmk
  rw [madeZeros]
  have hB0 : Below w.heap.size w (w.alloc (.cells (cellsOf .u32 (ints (List.replicate (la + lb + 1) 0))) 23)) := (Below.refl _ _).alloc (Nat.le_refl _) _
  have hb0 : Blk (w.alloc (.cells (cellsOf .u32 (ints (List.replicate (la + lb + 1) 0))) 23)) w.heap.size 23 .u32 (ints (List.replicate (la + lb + 1) 0)) := Blk.new _ _ _ _
  have HS0 : Hid (rowsN a b 0 = some (List.replicate (la + lb + 1) 0)) := hide (by rw [rowsN, ln_eq, ln_eq, HLA.out, HLB.out])
  have HB0 := hide hB0
  have Hb0 := hide hb0
  clear hB0 hb0
  generalize w.alloc (.cells (cellsOf .u32 (ints (List.replicate (la + lb + 1) 0))) 23) = w0 at HB0 Hb0 ⊢
  go_loopw [6] (fun i wr => ∃ (i' : Nat) (out : List Nat), i' ≤ la ∧ i = .int .i64 (i' : Int) ∧ rowsN a b i' = some out ∧ Blk wr w.heap.size 23 .u32 (ints out) ∧ Below w.heap.size w wr) (fun i _ => la - (intOf i).toNat)
  case atStart => exact ⟨0, _, Nat.zero_le _, rfl, HS0.out, Hb0.out, HB0.out⟩
  case round =>
    obtain ⟨i, out, hi, rfl, hs, hbo, hB⟩ := hrel
    clear HB0 Hb0 HS0 w0
    have HS := hide hs
    have Hbo := hide hbo
    have HB := hide hB
    clear hs hbo hB
    by_cases hlt : i < la
    · obtain ⟨out', ho'⟩ := rowsN_some a b _ r HR.out (i + 1) (by rw [← HLA.out]; omega)
      have HO' := hide ho'
      have HST := hide (rowsN_step HS.out ho')
      clear ho'
      have HLO := hide (rowsN_length a b i out HS.out)
      go_wp2_with fail
      go_loopw [7, 8] (fun c k wr => ∃ (k' c' f : Nat) (o : List Nat), k' + f = lb + 3 ∧ k = .int .i64 (k' : Int) ∧ c = .int .u64 (c' : Int) ∧ rowN (gt a i) b i f k' c' o = some out' ∧ o.length = la + lb + 1 ∧ Blk wr w.heap.size 23 .u32 (ints o) ∧ Below w.heap.size w wr)
        (fun _ k _ => lb + 3 - (intOf k).toNat)
      case atStart => exact ⟨0, 0, lb + 3, out, by omega, rfl, rfl, by rw [HLB.out]; exact HST.out, by rw [HLO.out, HLA.out, HLB.out], Hbo.out, HB.out⟩
      case round =>
        obtain ⟨k, c, f, o, hkf, rfl, rfl, hrow, hol, hbk, hBk⟩ := hrel
        clear HST HLO HS Hbo HB
        by_cases ht : k < lb ∨ 0 < c
        · obtain ⟨f', rfl, hin, hbd, hrow'⟩ := rowN_go hrow (by rw [← HLB.out]; exact ht)
          have hwl := length_ints o
          have hco := hbk.cell (i + k) (by omega)
          have hfo := hbk.free (i + k)
          rw [gt_eq] at hco
          obtain ⟨x, hx⟩ : ∃ x, x = gt o (i + k) := ⟨_, rfl⟩
          rw [← hx] at hco hbd hrow'
          have hca := ((HA.out.below hBk hga).cell i (by rw [length_ints, ← HLA.out]; exact hlt))
          rw [gt_eq] at hca
          have hin2 : i + k < la + lb + 1 := by omega
          have HX := hide hx
          have HROW := hide hrow'
          have HBK := hide hbk
          have HBW := hide hBk
          have HOL := hide hol
          clear hx hrow' hbk hBk hol hrow hwl
          by_cases hkl : k < lb
          · have hcb := ((HBB.out.below HBW.out hgb).cell k (by rw [length_ints, ← HLB.out]; exact hkl))
            rw [gt_eq] at hcb
            obtain ⟨y, hy⟩ : ∃ y, y = gt a i := ⟨_, rfl⟩
            obtain ⟨z, hz⟩ : ∃ z, z = gt b k := ⟨_, rfl⟩
            obtain ⟨m, hm⟩ : ∃ m, m = gt a i * gt b k := ⟨_, rfl⟩
            rw [← hm] at hbd
            rw [← hy] at hca
            rw [← hz] at hcb
            have hyz : m = y * z := by rw [hm, hy, hz]
            have hyb : y < 4294967296 := by rw [hy]; exact HAB.out i
            have hzb : z < 4294967296 := by rw [hz]; exact HBB'.out k
            have HMUL : Hid (IntKind.u64.wrap ((x : Int) + (c : Int) + IntKind.u64.wrap ((y : Int) * (z : Int))) = (x : Int) + (c : Int) + (m : Int)) := hide (by
              have e3 : IntKind.u64.wrap ((y : Int) * (z : Int)) = (m : Int) := by rw [← Int.natCast_mul, ← hyz, IntKind.wrap_u64]; omega
              rw [e3, IntKind.wrap_u64]; omega)
            have hs1 : IntKind.u64.wrap ((x : Int) + (c : Int)) = (x : Int) + (c : Int) := by rw [IntKind.wrap_u64]; omega
            have hcx : IntKind.u64.wrap (x : Int) = (x : Int) := by rw [IntKind.wrap_u64]; omega
            have HM := hide hm
            clear ht hm hy hz hyz
            go_wp2_with fail
            go_quiet (fail)
            rw [HMUL.out]
            obtain ⟨X, hX⟩ : ∃ X, X = x + c + m := ⟨_, rfl⟩
            have hXi : (x : Int) + (c : Int) + (m : Int) = (X : Int) := by omega
            rw [hXi]
            have HXX := hide hX
            have hXb : X < 18446744073709551616 := by omega
            clear hX hXi hbd hs1 hcx hca hcb hco hfo HMUL
            generalize hW' : World.drewN wr _ = W
            have hW := hW'.symm
            clear hW'
            have hbW : Blk W w.heap.size 23 .u32 (ints o) := by rw [hW]; exact HBK.out
            have hBW : Below w.heap.size w W := by rw [hW]; exact below_drewN HBW.out _
            have hco : W.cell? ⟨w.heap.size, i + k, none⟩ = some (.int .u32 (nth (ints o) (i + k))) := hbW.cell (i + k) (by rw [length_ints]; have := HOL.out; omega)
            have hfo := hbW.free (i + k)
            have HbW := hide (hbW.set (i + k) ((X % 65536 : Nat) : Int))
            have HBW2 := hide (hBW.setCell (p := ⟨w.heap.size, i + k, none⟩) (Nat.le_refl _) (.int .u32 ((X % 65536 : Nat) : Int)))
            have HR2 : Hid (rowN (gt a i) b i f' (k + 1) (X / 65536) (st o (i + k) (X % 65536)) = some out') := hide (by have h := HROW.out; rw [← HM.out, ← HXX.out] at h; exact h)
            clear hW hbW hBW HBK HBW HROW
            have HAND : Hid (bits BinOp.and IntKind.u64 (X : Int) 65535 % 4294967296 = ((X % 65536 : Nat) : Int)) := hide (by rw [and16 X hXb]; omega)
            go_wp2_with fail
            rw [HAND.out]
            go_roundw
            case rel => exact ⟨k + 1, X / 65536, f', st o (i + k) (X % 65536), by omega, by go_num, by go_num, HR2.out, by rw [length_st]; exact HOL.out, by rw [st_eq]; exact HbW.out, HBW2.out⟩
            case measure => simp [intOf]; omega
          · have hc0 : 0 < c := ht.resolve_left hkl
            have HG : Hid (gt b k = 0) := hide (by
              have h := gt_eq b k
              have h2 : nth (ints b) k = 0 := by
                unfold nth
                rw [List.getD, List.getElem?_eq_none (by rw [length_ints, ← HLB.out]; omega)]
                rfl
              omega)
            rw [HG.out, Nat.mul_zero, Nat.add_zero] at hbd
            have hs1 : IntKind.u64.wrap ((x : Int) + (c : Int)) = (x : Int) + (c : Int) := by rw [IntKind.wrap_u64]; omega
            have hcx : IntKind.u64.wrap (x : Int) = (x : Int) := by rw [IntKind.wrap_u64]; omega
            clear ht
            go_upto_region 12 with (fail)
            obtain ⟨X, hX⟩ : ∃ X, X = x + c := ⟨_, rfl⟩
            have hXi : (x : Int) + (c : Int) = (X : Int) := by omega
            rw [hXi]
            have HXX := hide hX
            have hXb : X < 18446744073709551616 := by omega
            clear hX hXi hbd hs1 hcx hca hco hfo
            obtain ⟨W, hW⟩ : ∃ W, W = wr := ⟨_, rfl⟩
            rw [← hW]
            have hbW : Blk W w.heap.size 23 .u32 (ints o) := by rw [hW]; exact HBK.out
            have hBW : Below w.heap.size w W := by rw [hW]; exact HBW.out
            have hco : W.cell? ⟨w.heap.size, i + k, none⟩ = some (.int .u32 (nth (ints o) (i + k))) := hbW.cell (i + k) (by rw [length_ints]; have := HOL.out; omega)
            have hfo := hbW.free (i + k)
            have HbW := hide (hbW.set (i + k) ((X % 65536 : Nat) : Int))
            have HBW2 := hide (hBW.setCell (p := ⟨w.heap.size, i + k, none⟩) (Nat.le_refl _) (.int .u32 ((X % 65536 : Nat) : Int)))
            have HR2 : Hid (rowN (gt a i) b i f' (k + 1) (X / 65536) (st o (i + k) (X % 65536)) = some out') := hide (by have h := HROW.out; rw [HG.out, Nat.mul_zero, Nat.add_zero, ← HXX.out] at h; exact h)
            clear hW hbW hBW HBK HBW HROW
            have HAND : Hid (bits BinOp.and IntKind.u64 (X : Int) 65535 % 4294967296 = ((X % 65536 : Nat) : Int)) := hide (by rw [and16 X hXb]; omega)
            go_wp2_with fail
            rw [HAND.out]
            go_roundw
            case rel => exact ⟨k + 1, X / 65536, f', st o (i + k) (X % 65536), by omega, by go_num, by go_num, HR2.out, by rw [length_st]; exact HOL.out, by rw [st_eq]; exact HbW.out, HBW2.out⟩
            case measure => simp [intOf]; omega
        · have hk1 : ¬ k < lb := fun h => ht (.inl h)
          have hc1 : ¬ 0 < c := fun h => ht (.inr h)
          have ho := rowN_end hrow (by rw [← HLB.out]; exact hk1) hc1
          subst ho
          have HBK := hide hbk
          have HBW := hide hBk
          clear ht hrow hbk hBk hol
          go_wp2_with fail
          go_roundw
          case rel => exact ⟨i + 1, o, by omega, by go_num, HO'.out, HBK.out, HBW.out⟩
          case measure => simp [intOf]; omega
    · obtain rfl : la = i := by omega
      have hrr : out = r := by
        have h1 := HR.out
        rw [← HLA.out, HS.out] at h1
        injection h1
      subst hrr
      have hlo := rowsN_length a b la out HS.out
      rw [← HLA.out, ← HLB.out] at hlo
      have HLO := hide hlo
      clear hlo
      go_wp2_with fail
      go_ret
      exact ⟨w.heap.size, by rw [HLO.out]; rfl, Nat.le_refl _, Hbo.out, HB.out⟩
end Go.Proofs.Yteocienbfhgmjaa
namespace Go.Proofs.Yteocienbfhgmjaa
open Go.RowKit

theorem length_wantN (n p up : Nat) : ∀ i, (wantN n p up i).length = n + up + 4
  | 0 => by rw [wantN, List.length_replicate]
  | i + 1 => by rw [wantN, length_st, length_wantN n p up i]

theorem aboveN_eq {l want : List Nat} {j : Nat} (h : gt l j = gt want j) : aboveN l want (j + 1) = aboveN l want j := by
  rw [aboveN, show Nat.beq (gt l j) (gt want j) = true by rw [h]; exact Nat.beq_refl _]
  rfl
theorem aboveN_ne {l want : List Nat} {j : Nat} (h : gt l j ≠ gt want j) : aboveN l want (j + 1) = decide (gt want j < gt l j) := by
  rw [aboveN, show Nat.beq (gt l j) (gt want j) = false from Bool.eq_false_iff.2 fun e => h (Nat.eq_of_beq_eq_true e), cond_false, Bool.eq_iff_iff, decide_eq_true_iff]
  simp

set_option maxRecDepth 100000 in
set_option maxHeartbeats 1000000 in
theorem above_ref (l : List Nat) (v : Value) (p up : Nat) (w : World) (hl : UB w v l) (hp : p < 18446744073709551616) (hup : up ≤ 10) (hll : l.length ≤ 100) :
    Calls Try.prog 54 #[v, .int .u64 p, .int .i64 up] w (fun e w' => e = .returned (.bool (aboveN l (wantN (ln l) p up 4) (ln l + up + 4))) ∧ Below w.heap.size w w') := by
  obtain ⟨gl, rfl, hbl⟩ := hl
  obtain ⟨i0, hi, hz0, hz1, hz2⟩ := info_parts Try.info23
  have hgl := hbl.lt
  rw [ln_eq]
  have hmk : ∀ w : World, (Instr.makeSlice 57 (.int .i64 ((l.length : Int) + (up : Int) + 4)) (.int .i64 ((l.length : Int) + (up : Int) + 4))).run Try.prog w = .ok (.slice (some ⟨w.heap.size, 0, none⟩) (l.length + up + 4) (l.length + up + 4)) (w.alloc (.cells (madeCells #[.int .u32 0] (l.length + up + 4)) 23)) := by
    intro w
    have h := run_make (P := Try.prog) w 57 23 i0 (.int .u32 0) Try.underlying57 hi hz0 .i64 .i64 ((l.length : Int) + (up : Int) + 4) ((l.length : Int) + (up : Int) + 4) (by omega) (by omega) (by rw [hz2]; omega) (by omega)
    rw [hz1] at h
    have e2 : ((l.length : Int) + (up : Int) + 4).toNat = l.length + up + 4 := by omega
    rw [e2] at h
    simpa [Value.cells] using h
  clear hz0 hz1 hz2 hi
  have HBL := hide hbl
  clear hbl
  obtain ⟨n, hn⟩ : ∃ n, n = l.length := ⟨_, rfl⟩
  have HN := hide hn
  rw [← hn] at hll hmk ⊢
  clear hn
  obtain ⟨want, hwant⟩ : ∃ want, want = wantN n p up 4 := ⟨_, rfl⟩
  rw [← hwant]
  have HWANT := hide hwant
  have HWL : Hid (want.length = n + up + 4) := hide (by rw [hwant, length_wantN])
  clear hwant
  go_enter Try.func54, Try.ntmps54
  go_wp2_with fail
  clear hmk
  rw [madeZeros]
  have hB0 : Below w.heap.size w (w.alloc (.cells (cellsOf .u32 (ints (List.replicate (n + up + 4) 0))) 23)) := (Below.refl _ _).alloc (Nat.le_refl _) _
  have hb0 : Blk (w.alloc (.cells (cellsOf .u32 (ints (List.replicate (n + up + 4) 0))) 23)) w.heap.size 23 .u32 (ints (wantN n p up 0)) := Blk.new _ _ _ _
  refine (limbs_ref p _ hp).mono ?_
  rintro e w1 ⟨gx, rfl, hgx0, hbx, hBX⟩
  have hne : gx ≠ w.heap.size := by simp at hgx0; omega
  have HB1 := hide (below_through hBX hB0)
  have Hb1 := hide (blk_through hBX hb0)
  have Hbx := hide hbx
  clear hbx hBX hb0 hB0 hgx0
  go_wp2_with fail
  rw [show (limbsN p).length = 4 from rfl]
  go_loopw [9] (fun i wr => ∃ k : Nat, k ≤ 4 ∧ i = .int .i64 (k : Int) ∧ Blk wr w.heap.size 23 .u32 (ints (wantN n p up k)) ∧ Blk wr gx 23 .u32 (ints (limbsN p)) ∧ Below w.heap.size w wr) (fun i _ => 4 - (intOf i).toNat)
  case atStart => exact ⟨0, by omega, rfl, Hb1.out, Hbx.out, HB1.out⟩
  case round =>
    obtain ⟨k, hk, rfl, hw, hx, hB⟩ := hrel
    clear HB1 Hb1 Hbx w1
    by_cases hlt : k < 4
    · have hcx := hx.cell k (by rw [length_ints]; exact hlt)
      rw [gt_eq] at hcx
      have hcw := hw.cell (up + k) (by rw [length_ints, length_wantN]; omega)
      have hfw := hw.free (up + k)
      obtain ⟨x, hxe⟩ : ∃ x, x = gt (limbsN p) k := ⟨_, rfl⟩
      rw [← hxe] at hcx
      have HXE := hide hxe
      have Hw := hide (hw.set (up + k) (x : Int))
      have Hx := hide (hx.other ⟨w.heap.size, up + k, none⟩ (.int .u32 (x : Int)) (by simpa using hne))
      have HB := hide (hB.setCell (p := ⟨w.heap.size, up + k, none⟩) (Nat.le_refl _) (.int .u32 (x : Int)))
      have hin : up + k < n + up + 4 := by omega
      clear hw hx hB hxe
      go_wp2_with fail
      go_roundw
      case rel => exact ⟨k + 1, by omega, by go_num, by rw [wantN, st_eq, ← HXE.out]; exact Hw.out, Hx.out, HB.out⟩
      case measure => simp [intOf]; omega
    · obtain rfl : k = 4 := by omega
      have Hw := hide hw
      have HB := hide hB
      clear hw hx hB hlt hk
      go_wp2_with fail
      generalize ((4 : Nat) : Int) = k4
      rw [← HWANT.out] at Hw
      obtain ⟨wo, hwo⟩ : ∃ wo, wo = wr := ⟨wr, rfl⟩
      subst hwo
      go_loopw [10] (fun i wr => ∃ j : Nat, j ≤ n + up + 4 ∧ i = .int .i64 ((j : Int) - 1) ∧ aboveN l want j = aboveN l want (n + up + 4) ∧ Blk wr w.heap.size 23 .u32 (ints want) ∧ Below w.heap.size w wr) (fun i _ => (intOf i + 1).toNat)
      case atStart => exact ⟨n + up + 4, Nat.le_refl _, by go_num, rfl, Hw.out, HB.out⟩
      case round =>
        obtain ⟨j, hj, rfl, hab, hw, hB⟩ := hrel
        clear Hw HB wo
        have HAB := hide hab
        clear hab
        cases j with
        | zero =>
          have HB := hide hB
          clear hw hB
          have h0 : (((0 : Nat)) : Int) - 1 = -1 := rfl
          rw [h0]
          clear h0
          go_wp2_with fail
          go_ret
          exact ⟨by rw [← HAB.out]; rfl, HB.out⟩
        | succ j =>
          rw [show (((j + 1 : Nat)) : Int) - 1 = (j : Int) by omega]
          have hcw := hw.cell j (by rw [length_ints, HWL.out]; omega)
          rw [gt_eq] at hcw
          obtain ⟨z, hz⟩ : ∃ z, z = gt want j := ⟨_, rfl⟩
          rw [← hz] at hcw
          obtain ⟨x, hx⟩ : ∃ x, x = gt l j := ⟨_, rfl⟩
          have hx0 : ¬ j < n → x = 0 := fun h => by
            have h1 := gt_eq l j
            have h2 : nth (ints l) j = 0 := by
              unfold nth
              rw [List.getD, List.getElem?_eq_none (by rw [length_ints, ← HN.out]; omega)]
              rfl
            omega
          have HEQ : Hid (x = z → aboveN l want (j + 1) = aboveN l want j) := hide fun h => aboveN_eq (by rw [← hx, ← hz, h])
          have HNE : Hid (x ≠ z → aboveN l want (j + 1) = decide (z < x)) := hide fun h => by rw [hx, hz]; exact aboveN_ne (by rw [← hx, ← hz]; exact h)
          have hcl : j < n → wr.cell? ⟨gl, j, none⟩ = some (.int .u32 (x : Int)) := fun h => by
            have := (HBL.out.below hB hgl).cell j (by rw [length_ints, ← HN.out]; exact h)
            rw [gt_eq, ← hx] at this
            exact this
          have HCL := hide hcl
          have HX0 := hide hx0
          have Hw := hide hw
          have HB := hide hB
          clear hcl hx0 hw hB hx hz
          have hjn : j < n + up + 4 := by omega
          by_cases hxz : x = z
          · have HE := hide (HEQ.out hxz)
            subst hxz
            by_cases hlt : j < n
            · have hcl := HCL.out hlt
              go_wp2_with fail
              go_roundw
              case rel => exact ⟨j, by omega, by go_num, by rw [← HE.out, HAB.out], Hw.out, HB.out⟩
              case measure => simp [intOf] <;> omega
            · have hz0 := HX0.out hlt
              subst hz0
              go_wp2_with fail
              go_roundw
              case rel => exact ⟨j, by omega, by go_num, by rw [← HE.out, HAB.out], Hw.out, HB.out⟩
              case measure => simp [intOf] <;> omega
          · have HE := hide (HNE.out hxz)
            have hxi : ¬ ((x : Int) = (z : Int)) := by omega
            by_cases hlt : j < n
            · have hcl := HCL.out hlt
              go_wp2_with fail
              go_ret
              exact ⟨by rw [← HAB.out, HE.out]; rfl, HB.out⟩
            · have hz0 := HX0.out hlt
              subst hz0
              go_wp2_with fail
              go_ret
              exact ⟨by rw [← HAB.out, HE.out]; simp, HB.out⟩
end Go.Proofs.Yteocienbfhgmjaa
namespace Go.Proofs.Yteocienbfhgmjaa
open Go.RowKit

theorem rootN_some (p power : Nat) : ∀ (n : Nat) (r : Nat), rootN p power n = some r → ∀ i, i ≤ n → ∃ o, rootN p power i = some o
  | 0, r, h, i, hi => by obtain rfl : i = 0 := by omega
                         exact ⟨r, h⟩
  | n + 1, r, h, i, hi => by
    rcases Nat.eq_or_lt_of_le hi with rfl | hlt
    · exact ⟨r, h⟩
    · rw [rootN] at h
      cases h1 : rootN p power n with
      | none => rw [h1] at h; cases h
      | some o => exact rootN_some p power n o h1 i (by omega)

theorem rootN_step {p power s x r : Nat} (h : rootN p power s = some x) (h1 : rootN p power (s + 1) = some r) : ∃ l, powN (x ||| 2 ^ (39 - s)) (power - 1) = some l ∧
    r = bif aboveN l (wantN (ln l) p (2 * power) 4) (ln l + 2 * power + 4) then x else (x ||| 2 ^ (39 - s)) := by
  rw [rootN, h] at h1
  simp only [Option.bind_some] at h1
  cases h2 : powN (x ||| 2 ^ (39 - s)) (power - 1) with
  | none => rw [h2] at h1; cases h1
  | some l =>
    rw [h2] at h1
    simp only [Option.bind_some] at h1
    refine ⟨l, rfl, ?_⟩
    cases h3 : aboveN l (wantN (ln l) p (2 * power) 4) (ln l + 2 * power + 4) with
    | true => rw [h3] at h1; simpa using h1.symm
    | false => rw [h3] at h1; simpa using h1.symm

theorem rootN_lt {p power : Nat} : ∀ {s x : Nat}, s ≤ 40 → rootN p power s = some x → x < 1099511627776
  | 0, x, _, h => by rw [rootN] at h; injection h with h; omega
  | s + 1, r, hs, h => by
    obtain ⟨x, hx⟩ := rootN_some p power (s + 1) r h s (by omega)
    have hlt := rootN_lt (by omega) hx
    obtain ⟨l, _, hr⟩ := rootN_step hx h
    have hor : x ||| 2 ^ (39 - s) < 2 ^ 40 := Nat.or_lt_two_pow hlt (Nat.pow_lt_pow_right (by omega) (by omega))
    rw [hr]
    cases aboveN l (wantN (ln l) p (2 * power) 4) (ln l + 2 * power + 4) with
    | true => exact hlt
    | false => exact hor

theorem powN_some (y : Nat) : ∀ (n : Nat) (r : List Nat), powN y n = some r → ∀ i, i ≤ n → ∃ o, powN y i = some o
  | 0, r, h, i, hi => by obtain rfl : i = 0 := by omega
                         exact ⟨r, h⟩
  | n + 1, r, h, i, hi => by
    rcases Nat.eq_or_lt_of_le hi with rfl | hlt
    · exact ⟨r, h⟩
    · rw [powN] at h
      cases h1 : powN y n with
      | none => rw [h1] at h; cases h
      | some o => exact powN_some y n o h1 i (by omega)
theorem powN_step {y i : Nat} {l r : List Nat} (h : powN y i = some l) (h1 : powN y (i + 1) = some r) : timesN l (limbsN y) = some r := by
  rw [powN, h] at h1
  exact h1

theorem gt_limbs (n i : Nat) : gt (limbsN n) i < 4294967296 := by
  unfold limbsN
  match i with
  | 0 => simp only [gt]; omega
  | 1 => simp only [gt]; omega
  | 2 => simp only [gt]; omega
  | 3 => simp only [gt]; omega
  | k + 4 => simp only [gt]; omega

theorem gt_st (l : List Nat) (i v : Nat) (hv : v < 65536) (h : ∀ j, gt l j < 65536) : ∀ j, gt (st l i v) j < 65536 := by
  induction l generalizing i with
  | nil => intro j; simp [st, gt]
  | cons a l ih =>
    cases i with
    | zero =>
      intro j
      cases j with
      | zero => exact hv
      | succ j => exact h (j + 1)
    | succ i =>
      intro j
      cases j with
      | zero => exact h 0
      | succ j => exact ih i (fun j => h (j + 1)) j

theorem rowN_small (x : Nat) (b : List Nat) (i : Nat) : ∀ (f k c : Nat) (out r : List Nat), rowN x b i f k c out = some r → (∀ j, gt out j < 65536) → ∀ j, gt r j < 65536
  | 0, _, _, _, _, h, _ => by simp [rowN] at h
  | f + 1, k, c, out, r, h, ho => by
    by_cases ht : k < b.length ∨ 0 < c
    · obtain ⟨f', hf, _, _, h'⟩ := rowN_go h ht
      obtain rfl : f = f' := by omega
      exact rowN_small x b i f _ _ _ r h' (gt_st _ _ _ (by omega) ho)
    · rw [← rowN_end h (fun h => ht (.inl h)) (fun h => ht (.inr h))]
      exact ho

theorem gt_zeros (n : Nat) : ∀ j, gt (List.replicate n 0) j < 65536 := by
  induction n with
  | zero => intro j; simp [gt]
  | succ n ih =>
    intro j
    rw [List.replicate_succ]
    cases j with
    | zero => simp [gt]
    | succ j => exact ih j

theorem rowsN_small (a b : List Nat) : ∀ (i : Nat) (o : List Nat), rowsN a b i = some o → ∀ j, gt o j < 65536
  | 0, o, h => by
    rw [rowsN] at h
    injection h with h
    rw [← h]
    exact gt_zeros _
  | i + 1, o, h => by
    rw [rowsN] at h
    cases h1 : rowsN a b i with
    | none => rw [h1] at h; cases h
    | some p =>
      rw [h1] at h
      exact rowN_small _ _ _ _ _ _ _ _ h (rowsN_small a b i p h1)

theorem powN_fit (y : Nat) : ∀ (i : Nat) (l : List Nat), powN y i = some l → l.length = 4 + 5 * i ∧ ∀ j, gt l j < 4294967296
  | 0, l, h => by
    rw [powN] at h
    injection h with h
    rw [← h]
    exact ⟨rfl, gt_limbs y⟩
  | i + 1, l, h => by
    obtain ⟨o, ho⟩ := powN_some y (i + 1) l h i (by omega)
    have ht := powN_step ho h
    obtain ⟨h1, _⟩ := powN_fit y i o ho
    have h2 := rowsN_length _ _ _ _ ht
    have h3 := rowsN_small _ _ _ _ ht
    refine ⟨by rw [h2, h1]; simp [limbsN]; omega, fun j => by have := h3 j; omega⟩

theorem or_bit (x k : Nat) (hx : x < 1099511627776) (hk : k ≤ 39) : bits BinOp.or IntKind.u64 (x : Int) (IntKind.u64.wrap (2 ^ k)) = ((x ||| 2 ^ k : Nat) : Int) := by
  have h : 2 ^ k < 2 ^ 40 := Nat.pow_lt_pow_right (by omega) (by omega)
  have e : ((2 : Int) ^ k) = ((2 ^ k : Nat) : Int) := by simp
  rw [e]
  generalize 2 ^ k = q at h ⊢
  rw [show IntKind.u64.wrap ((q : Nat) : Int) = ((q : Nat) : Int) by rw [IntKind.wrap_u64]; omega]
  exact u64_or_nat x q (by omega) (by omega)

set_option maxRecDepth 100000 in
set_option maxHeartbeats 1000000 in
theorem root_ref (p power r : Nat) (w : World) (hp : p ≤ 1000) (h1 : 1 ≤ power) (h3 : power ≤ 3) (hr : rootN p power 40 = some r) :
    Calls Try.prog 45 #[.int .u64 p, .int .i64 power] w (fun e w' => e = .returned (.int .u64 r) ∧ Below w.heap.size w w') := by
  have HR := hide hr
  clear hr
  go_enter Try.func45, Try.ntmps45
  go_wp2_with fail
  go_loopw [5, 6] (fun x b wr => ∃ (s k x' : Nat), k + s = 40 ∧ b = .int .i64 ((k : Int) - 1) ∧ x = .int .u64 (x' : Int) ∧ rootN p power s = some x' ∧ Below w.heap.size w wr) (fun _ b _ => (intOf b + 1).toNat)
  case atStart => exact ⟨0, 40, 0, rfl, rfl, rfl, rfl, Below.refl _ _⟩
  case round =>
    obtain ⟨s, k, x, hks, rfl, rfl, hs, hB⟩ := hrel
    have HS := hide hs
    have HB := hide hB
    have hxl := rootN_lt (by omega) hs
    clear hs hB
    cases k with
    | zero =>
      obtain rfl : s = 40 := by omega
      have hrx : x = r := by
        have h := HR.out
        rw [HS.out] at h
        injection h
      subst hrx
      have h0 : (((0 : Nat)) : Int) - 1 = -1 := rfl
      rw [h0]
      clear h0
      go_wp2_with fail
      go_ret
      exact ⟨rfl, HB.out⟩
    | succ k =>
      rw [show (((k + 1 : Nat)) : Int) - 1 = (k : Int) by omega]
      obtain ⟨x2, hx2⟩ := rootN_some p power 40 r HR.out (s + 1) (by omega)
      obtain ⟨l, hl, hxe⟩ := rootN_step HS.out hx2
      have hk39 : 39 - s = k := by omega
      rw [hk39] at hl hxe
      have hor := or_bit x k hxl (by omega)
      obtain ⟨y, hy⟩ : ∃ y, y = x ||| 2 ^ k := ⟨_, rfl⟩
      rw [← hy] at hl hxe hor
      have hyl : y < 1099511627776 := by
        have : x ||| 2 ^ k < 2 ^ 40 := Nat.or_lt_two_pow hxl (Nat.pow_lt_pow_right (by omega) (by omega))
        omega
      have HL := hide hl
      have HXE := hide hxe
      have HOR := hide hor
      have HX2 := hide hx2
      clear hl hxe hor hx2 hy
      go_upto_region 6 with (fail)
      rw [HOR.out]
      clear HOR
      generalize IntKind.u64.wrap ((2 : Int) ^ k) = pk
      go_wp2_with fail
      refine (limbs_ref y _ (by omega)).mono ?_
      rintro e w1 ⟨g1, rfl, hg1, hb1, hBX⟩
      have Hb1 := hide hb1
      have HB1 := hide (below_through hBX HB.out)
      clear hb1 hBX hg1 HB
      go_wp2_with fail
      go_loopw [8, 9] (fun v i wr => ∃ (j g : Nat) (li : List Nat), 1 ≤ j ∧ j ≤ power ∧ i = .int .i64 (j : Int) ∧ powN y (j - 1) = some li ∧ v = .slice (some ⟨g, 0, none⟩) li.length li.length ∧ Blk wr g 23 .u32 (ints li) ∧ Below w.heap.size w wr) (fun _ i _ => power - (intOf i).toNat)
      case atStart => exact ⟨1, g1, limbsN y, by omega, h1, rfl, rfl, rfl, Hb1.out, HB1.out⟩
      case round =>
        obtain ⟨j, g, li, hj1, hj2, rfl, hli, rfl, hbg, hB⟩ := hrel
        clear Hb1 HB1
        have HLI := hide hli
        have Hbg := hide hbg
        have HB := hide hB
        clear hli hbg hB
        by_cases hlt : j < power
        · obtain ⟨ln', hn'⟩ := powN_some y (power - 1) l HL.out j (by omega)
          have HN' := hide hn'
          have HT : Hid (timesN li (limbsN y) = some ln') := hide (powN_step HLI.out (by rw [show j - 1 + 1 = j by omega]; exact hn'))
          have HF := hide (powN_fit y (j - 1) li HLI.out)
          clear hn'
          go_wp2_with fail
          refine (limbs_ref y _ (by omega)).mono ?_
          rintro e w2 ⟨g2, rfl, hg2, hb2, hBX⟩
          have Hb2 := hide hb2
          have HB2 := hide (below_through hBX HB.out)
          have Hbg2 := hide (blk_through hBX Hbg.out)
          clear hb2 hBX hg2
          go_wp2_with fail
          refine (times_ref li (limbsN y) ln' _ _ w2 ⟨g, rfl, Hbg2.out⟩ ⟨g2, rfl, Hb2.out⟩ HT.out (by rw [HF.out.1]; omega) (by simp [limbsN]) HF.out.2 (gt_limbs y)).mono ?_
          rintro e w3 ⟨g3, rfl, hg3, hb3, hBX⟩
          have Hb3 := hide hb3
          have HB3 := hide (below_through hBX HB2.out)
          clear hb3 hBX hg3
          go_wp2_with fail
          go_roundw
          case rel => exact ⟨j + 1, g3, ln', by omega, by omega, by go_num, by rw [Nat.add_sub_cancel]; exact HN'.out, rfl, Hb3.out, HB3.out⟩
          case measure => simp [intOf] <;> omega
        · obtain rfl : j = power := by omega
          have hll : li = l := by
            have h := HLI.out
            rw [HL.out] at h
            injection h with h
            exact h.symm
          subst hll
          have hlen := (powN_fit y (j - 1) li HLI.out).1
          have HAB := hide (above_ref li (.slice (some ⟨g, 0, none⟩) li.length li.length) p (2 * j) wr ⟨g, rfl, Hbg.out⟩ (by omega) (by omega) (by rw [hlen]; omega))
          clear hlen
          rw [show (((2 * j : Nat)) : Int) = 2 * (j : Int) by omega] at HAB
          go_wp2_with fail
          refine HAB.out.mono ?_
          rintro e w2 ⟨rfl, hBX⟩
          have HB2 := hide (below_through hBX HB.out)
          clear hBX HAB HB
          obtain ⟨c, hc⟩ : ∃ c, c = aboveN li (wantN (ln li) p (2 * j) 4) (ln li + 2 * j + 4) := ⟨_, rfl⟩
          rw [← hc] at HXE ⊢
          clear hc
          cases c with
          | true =>
            have hxx : x2 = x := HXE.out
            subst hxx
            go_wp2_with fail
            go_roundw
            case rel => exact ⟨s + 1, k, x2, by omega, by go_num, rfl, HX2.out, HB2.out⟩
            case measure => simp [intOf] <;> omega
          | false =>
            have hxx : x2 = y := HXE.out
            subst hxx
            go_wp2_with fail
            go_roundw
            case rel => exact ⟨s + 1, k, x2, by omega, by go_num, rfl, HX2.out, HB2.out⟩
            case measure => simp [intOf] <;> omega
end Go.Proofs.Yteocienbfhgmjaa
