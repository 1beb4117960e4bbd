/- The document's times of layer 1: its contract. -/
import Derived.Test.YteocienbfhgmjaaRt1
import Derived.Deep.QuietTactic
import Derived.BigQuiet
namespace Go.Proofs.Yteocienbfhgmjaa
open Go.RowKit

theorem rowN_length (x : Nat) (b : List Nat) (i : Nat) : ∀ (f k c : Nat) (out r : List Nat), rowN x b i f k c out = some r → r.length = out.length
  | 0, _, _, _, _, h => by simp [rowN] at h
  | f + 1, k, c, out, r, h => by
    rw [rowN] at h
    cases h1 : (Nat.blt k (ln b) || Nat.blt 0 c) with
    | false => rw [h1] at h; simp at h; rw [h]
    | true =>
      rw [h1] at h
      cases h2 : (Nat.blt (i + k) (ln out) && Nat.blt (gt out (i + k) + c + x * gt b k) 18446744073709551616) with
      | false => rw [h2] at h; simp at h
      | true =>
        rw [h2] at h
        simp only [cond_true] at h
        rw [rowN_length x b i f _ _ _ r h, length_st]

theorem rowN_go {x i f k c : Nat} {b out r : List Nat} (h : rowN x b i f k c out = some r) (ht : k < b.length ∨ 0 < c) :
    ∃ f', f = f' + 1 ∧ i + k < out.length ∧ gt out (i + k) + c + x * gt b k < 18446744073709551616 ∧ rowN x b i f' (k + 1) ((gt out (i + k) + c + x * gt b k) / 65536) (st out (i + k) ((gt out (i + k) + c + x * gt b k) % 65536)) = some r := by
  cases f with
  | zero => simp [rowN] at h
  | succ f =>
    refine ⟨f, rfl, ?_⟩
    rw [rowN] at h
    have h1 : (Nat.blt k (ln b) || Nat.blt 0 c) = true := by
      rw [Bool.or_eq_true, ln_eq]
      rcases ht with h | h
      · exact .inl (by simpa using h)
      · exact .inr (by simpa using h)
    rw [h1] at h
    cases h2 : (Nat.blt (i + k) (ln out) && Nat.blt (gt out (i + k) + c + x * gt b k) 18446744073709551616) with
    | false => rw [h2] at h; simp at h
    | true =>
      rw [h2] at h
      rw [Bool.and_eq_true, ln_eq] at h2
      exact ⟨by simpa using h2.1, by simpa using h2.2, h⟩

theorem rowN_end {x i f k c : Nat} {b out r : List Nat} (h : rowN x b i f k c out = some r) (h1 : ¬ k < b.length) (h2 : ¬ 0 < c) : out = r := by
  cases f with
  | zero => simp [rowN] at h
  | succ f =>
    rw [rowN] at h
    have h3 : (Nat.blt k (ln b) || Nat.blt 0 c) = false := by
      rw [Bool.or_eq_false_iff, ln_eq]
      exact ⟨Bool.eq_false_iff.2 fun h => h1 (by simpa using h), Bool.eq_false_iff.2 fun h => h2 (by simpa using h)⟩
    rw [h3] at h
    simpa using h

theorem rowsN_some (a b : List Nat) : ∀ (n : Nat) (r : List Nat), rowsN a b n = some r → ∀ i, i ≤ n → ∃ o, rowsN a b i = some o
  | 0, r, h, i, hi => by obtain rfl : i = 0 := by omega
                         exact ⟨r, h⟩
  | n + 1, r, h, i, hi => by
    rcases Nat.eq_or_lt_of_le hi with rfl | hlt
    · exact ⟨r, h⟩
    · rw [rowsN] at h
      cases h1 : rowsN a b n with
      | none => rw [h1] at h; cases h
      | some o => exact rowsN_some a b n o h1 i (by omega)

theorem rowsN_step {a b o r : List Nat} {i : Nat} (h : rowsN a b i = some o) (h1 : rowsN a b (i + 1) = some r) : rowN (gt a i) b i (b.length + 3) 0 0 o = some r := by
  rw [rowsN, h, ln_eq] at h1
  exact h1

theorem rowsN_length (a b : List Nat) : ∀ (i : Nat) (o : List Nat), rowsN a b i = some o → o.length = a.length + b.length + 1
  | 0, o, h => by
    rw [rowsN, ln_eq, ln_eq] at h
    injection h with h
    rw [← h, List.length_replicate]
  | i + 1, o, h => by
    rw [rowsN] at h
    cases h1 : rowsN a b i with
    | none => rw [h1] at h; cases h
    | some p =>
      rw [h1] at h
      rw [rowN_length _ _ _ _ _ _ _ _ h, rowsN_length a b i p h1]

theorem Try.info23 : (Try.prog.info? 23).map (fun i => (i.zero, i.size, i.bytes)) = some (some (.int .u32 0), 1, 4) := by kernel_rfl

theorem madeZeros (n : Nat) : madeCells #[.int .u32 0] n = cellsOf .u32 (ints (List.replicate n 0)) := by
  apply Array.ext'
  rw [toList_madeCells_one, toArray_cellsOf, ints]
  simp

set_option maxRecDepth 100000 in
set_option maxHeartbeats 1000000 in
theorem times_ref (a b r : List Nat) (va vb : Value) (w : World) (ha : UB w va a) (hb : UB w vb b) (hr : timesN a b = some r) (hal : a.length ≤ 100) (hbl : b.length ≤ 100) (hA : ∀ i, gt a i < 4294967296) (hB : ∀ i, gt b i < 4294967296) :
    Calls Try.prog 53 #[va, vb] w (UPost r w) := by
  obtain ⟨ga, rfl, hba⟩ := ha
  obtain ⟨gb, rfl, hbb⟩ := hb
  obtain ⟨i0, hi, hz0, hz1, hz2⟩ := info_parts Try.info23
  have HAB := hide hA
  have HBB' := hide hB
  clear hA hB
  have hga := hba.lt
  have hgb := hbb.lt
  have hra : rowsN a b a.length = some r := by rw [← ln_eq]; exact hr
  have hmk : ∀ w : World, (Instr.makeSlice 57 (.int .i64 ((a.length : Int) + (b.length : Int) + 1)) (.int .i64 ((a.length : Int) + (b.length : Int) + 1))).run Try.prog w = .ok (.slice (some ⟨w.heap.size, 0, none⟩) (a.length + b.length + 1) (a.length + b.length + 1)) (w.alloc (.cells (madeCells #[.int .u32 0] (a.length + b.length + 1)) 23)) := by
    intro w
    have h := run_make (P := Try.prog) w 57 23 i0 (.int .u32 0) Try.underlying57 hi hz0 .i64 .i64 ((a.length : Int) + (b.length : Int) + 1) ((a.length : Int) + (b.length : Int) + 1) (by omega) (by omega) (by rw [hz2]; omega) (by omega)
    rw [hz1] at h
    have e2 : ((a.length : Int) + (b.length : Int) + 1).toNat = a.length + b.length + 1 := by omega
    rw [e2] at h
    simpa [Value.cells] using h
  clear hz0 hz1 hz2 hi
  have HR := hide hra
  have HA := hide hba
  have HBB := hide hbb
  clear hr hra hba hbb
  obtain ⟨la, hla⟩ : ∃ n, n = a.length := ⟨_, rfl⟩
  obtain ⟨lb, hlb⟩ : ∃ n, n = b.length := ⟨_, rfl⟩
  have HLA := hide hla
  have HLB := hide hlb
  rw [← hla] at hal hmk ⊢
  rw [← hlb] at hbl hmk ⊢
  clear hla hlb
  go_enter Try.func53, Try.ntmps53
  go_wp2_with fail
  clear hmk
  rw [madeZeros]
  have hB0 : Below w.heap.size w (w.alloc (.cells (cellsOf .u32 (ints (List.replicate (la + lb + 1) 0))) 23)) := (Below.refl _ _).alloc (Nat.le_refl _) _
  have hb0 : Blk (w.alloc (.cells (cellsOf .u32 (ints (List.replicate (la + lb + 1) 0))) 23)) w.heap.size 23 .u32 (ints (List.replicate (la + lb + 1) 0)) := Blk.new _ _ _ _
  have HS0 : Hid (rowsN a b 0 = some (List.replicate (la + lb + 1) 0)) := hide (by rw [rowsN, ln_eq, ln_eq, HLA.out, HLB.out])
  have HB0 := hide hB0
  have Hb0 := hide hb0
  clear hB0 hb0
  generalize w.alloc (.cells (cellsOf .u32 (ints (List.replicate (la + lb + 1) 0))) 23) = w0 at HB0 Hb0 ⊢
  go_loopw [6] (fun i wr => ∃ (i' : Nat) (out : List Nat), i' ≤ la ∧ i = .int .i64 (i' : Int) ∧ rowsN a b i' = some out ∧ Blk wr w.heap.size 23 .u32 (ints out) ∧ Below w.heap.size w wr) (fun i _ => la - (intOf i).toNat)
  case atStart => exact ⟨0, _, Nat.zero_le _, rfl, HS0.out, Hb0.out, HB0.out⟩
  case round =>
    obtain ⟨i, out, hi, rfl, hs, hbo, hB⟩ := hrel
    clear HB0 Hb0 HS0 w0
    have HS := hide hs
    have Hbo := hide hbo
    have HB := hide hB
    clear hs hbo hB
    by_cases hlt : i < la
    · obtain ⟨out', ho'⟩ := rowsN_some a b _ r HR.out (i + 1) (by rw [← HLA.out]; omega)
      have HO' := hide ho'
      have HST := hide (rowsN_step HS.out ho')
      clear ho'
      have HLO := hide (rowsN_length a b i out HS.out)
      go_wp2_with fail
      go_loopw [7, 8] (fun c k wr => ∃ (k' c' f : Nat) (o : List Nat), k' + f = lb + 3 ∧ k = .int .i64 (k' : Int) ∧ c = .int .u64 (c' : Int) ∧ rowN (gt a i) b i f k' c' o = some out' ∧ o.length = la + lb + 1 ∧ Blk wr w.heap.size 23 .u32 (ints o) ∧ Below w.heap.size w wr)
        (fun _ k _ => lb + 3 - (intOf k).toNat)
      case atStart => exact ⟨0, 0, lb + 3, out, by omega, rfl, rfl, by rw [HLB.out]; exact HST.out, by rw [HLO.out, HLA.out, HLB.out], Hbo.out, HB.out⟩
      case round =>
        obtain ⟨k, c, f, o, hkf, rfl, rfl, hrow, hol, hbk, hBk⟩ := hrel
        clear HST HLO HS Hbo HB
        by_cases ht : k < lb ∨ 0 < c
        · obtain ⟨f', rfl, hin, hbd, hrow'⟩ := rowN_go hrow (by rw [← HLB.out]; exact ht)
          have hwl := length_ints o
          have hco := hbk.cell (i + k) (by omega)
          have hfo := hbk.free (i + k)
          rw [gt_eq] at hco
          obtain ⟨x, hx⟩ : ∃ x, x = gt o (i + k) := ⟨_, rfl⟩
          rw [← hx] at hco hbd hrow'
          have hca := ((HA.out.below hBk hga).cell i (by rw [length_ints, ← HLA.out]; exact hlt))
          rw [gt_eq] at hca
          have hin2 : i + k < la + lb + 1 := by omega
          have HX := hide hx
          have HROW := hide hrow'
          have HBK := hide hbk
          have HBW := hide hBk
          have HOL := hide hol
          clear hx hrow' hbk hBk hol hrow hwl
          by_cases hkl : k < lb
          · have hcb := ((HBB.out.below HBW.out hgb).cell k (by rw [length_ints, ← HLB.out]; exact hkl))
            rw [gt_eq] at hcb
            obtain ⟨y, hy⟩ : ∃ y, y = gt a i := ⟨_, rfl⟩
            obtain ⟨z, hz⟩ : ∃ z, z = gt b k := ⟨_, rfl⟩
            obtain ⟨m, hm⟩ : ∃ m, m = gt a i * gt b k := ⟨_, rfl⟩
            rw [← hm] at hbd
            rw [← hy] at hca
            rw [← hz] at hcb
            have hyz : m = y * z := by rw [hm, hy, hz]
            have hyb : y < 4294967296 := by rw [hy]; exact HAB.out i
            have hzb : z < 4294967296 := by rw [hz]; exact HBB'.out k
            have HMUL : Hid (IntKind.u64.wrap ((x : Int) + (c : Int) + IntKind.u64.wrap ((y : Int) * (z : Int))) = (x : Int) + (c : Int) + (m : Int)) := hide (by
              have e3 : IntKind.u64.wrap ((y : Int) * (z : Int)) = (m : Int) := by rw [← Int.natCast_mul, ← hyz, IntKind.wrap_u64]; omega
              rw [e3, IntKind.wrap_u64]; omega)
            have hs1 : IntKind.u64.wrap ((x : Int) + (c : Int)) = (x : Int) + (c : Int) := by rw [IntKind.wrap_u64]; omega
            have hcx : IntKind.u64.wrap (x : Int) = (x : Int) := by rw [IntKind.wrap_u64]; omega
            have HM := hide hm
            clear ht hm hy hz hyz
            go_wp2_with fail
            go_quiet (fail)
            rw [HMUL.out]
            obtain ⟨X, hX⟩ : ∃ X, X = x + c + m := ⟨_, rfl⟩
            have hXi : (x : Int) + (c : Int) + (m : Int) = (X : Int) := by omega
            rw [hXi]
            have HXX := hide hX
            have hXb : X < 18446744073709551616 := by omega
            clear hX hXi hbd hs1 hcx hca hcb hco hfo HMUL
            generalize hW' : World.drewN wr _ = W
            have hW := hW'.symm
            clear hW'
            have hbW : Blk W w.heap.size 23 .u32 (ints o) := by rw [hW]; exact HBK.out
            have hBW : Below w.heap.size w W := by rw [hW]; exact below_drewN HBW.out _
            have hco : W.cell? ⟨w.heap.size, i + k, none⟩ = some (.int .u32 (nth (ints o) (i + k))) := hbW.cell (i + k) (by rw [length_ints]; have := HOL.out; omega)
            have hfo := hbW.free (i + k)
            have HbW := hide (hbW.set (i + k) ((X % 65536 : Nat) : Int))
            have HBW2 := hide (hBW.setCell (p := ⟨w.heap.size, i + k, none⟩) (Nat.le_refl _) (.int .u32 ((X % 65536 : Nat) : Int)))
            have HR2 : Hid (rowN (gt a i) b i f' (k + 1) (X / 65536) (st o (i + k) (X % 65536)) = some out') := hide (by have h := HROW.out; rw [← HM.out, ← HXX.out] at h; exact h)
            clear hW hbW hBW HBK HBW HROW
            have HAND : Hid (bits BinOp.and IntKind.u64 (X : Int) 65535 % 4294967296 = ((X % 65536 : Nat) : Int)) := hide (by rw [and16 X hXb]; omega)
            go_wp2_with fail
            rw [HAND.out]
            go_roundw
            case rel => exact ⟨k + 1, X / 65536, f', st o (i + k) (X % 65536), by omega, by go_num, by go_num, HR2.out, by rw [length_st]; exact HOL.out, by rw [st_eq]; exact HbW.out, HBW2.out⟩
            case measure => simp [intOf]; omega
          · have hc0 : 0 < c := ht.resolve_left hkl
            have HG : Hid (gt b k = 0) := hide (by
              have h := gt_eq b k
              have h2 : nth (ints b) k = 0 := by
                unfold nth
                rw [List.getD, List.getElem?_eq_none (by rw [length_ints, ← HLB.out]; omega)]
                rfl
              omega)
            rw [HG.out, Nat.mul_zero, Nat.add_zero] at hbd
            have hs1 : IntKind.u64.wrap ((x : Int) + (c : Int)) = (x : Int) + (c : Int) := by rw [IntKind.wrap_u64]; omega
            have hcx : IntKind.u64.wrap (x : Int) = (x : Int) := by rw [IntKind.wrap_u64]; omega
            clear ht
            go_upto_region 12 with (fail)
            obtain ⟨X, hX⟩ : ∃ X, X = x + c := ⟨_, rfl⟩
            have hXi : (x : Int) + (c : Int) = (X : Int) := by omega
            rw [hXi]
            have HXX := hide hX
            have hXb : X < 18446744073709551616 := by omega
            clear hX hXi hbd hs1 hcx hca hco hfo
            obtain ⟨W, hW⟩ : ∃ W, W = wr := ⟨_, rfl⟩
            rw [← hW]
            have hbW : Blk W w.heap.size 23 .u32 (ints o) := by rw [hW]; exact HBK.out
            have hBW : Below w.heap.size w W := by rw [hW]; exact HBW.out
            have hco : W.cell? ⟨w.heap.size, i + k, none⟩ = some (.int .u32 (nth (ints o) (i + k))) := hbW.cell (i + k) (by rw [length_ints]; have := HOL.out; omega)
            have hfo := hbW.free (i + k)
            have HbW := hide (hbW.set (i + k) ((X % 65536 : Nat) : Int))
            have HBW2 := hide (hBW.setCell (p := ⟨w.heap.size, i + k, none⟩) (Nat.le_refl _) (.int .u32 ((X % 65536 : Nat) : Int)))
            have HR2 : Hid (rowN (gt a i) b i f' (k + 1) (X / 65536) (st o (i + k) (X % 65536)) = some out') := hide (by have h := HROW.out; rw [HG.out, Nat.mul_zero, Nat.add_zero, ← HXX.out] at h; exact h)
            clear hW hbW hBW HBK HBW HROW
            have HAND : Hid (bits BinOp.and IntKind.u64 (X : Int) 65535 % 4294967296 = ((X % 65536 : Nat) : Int)) := hide (by rw [and16 X hXb]; omega)
            go_wp2_with fail
            rw [HAND.out]
            go_roundw
            case rel => exact ⟨k + 1, X / 65536, f', st o (i + k) (X % 65536), by omega, by go_num, by go_num, HR2.out, by rw [length_st]; exact HOL.out, by rw [st_eq]; exact HbW.out, HBW2.out⟩
            case measure => simp [intOf]; omega
        · have hk1 : ¬ k < lb := fun h => ht (.inl h)
          have hc1 : ¬ 0 < c := fun h => ht (.inr h)
          have ho := rowN_end hrow (by rw [← HLB.out]; exact hk1) hc1
          subst ho
          have HBK := hide hbk
          have HBW := hide hBk
          clear ht hrow hbk hBk hol
          go_wp2_with fail
          go_roundw
          case rel => exact ⟨i + 1, o, by omega, by go_num, HO'.out, HBK.out, HBW.out⟩
          case measure => simp [intOf]; omega
    · obtain rfl : la = i := by omega
      have hrr : out = r := by
        have h1 := HR.out
        rw [← HLA.out, HS.out] at h1
        injection h1
      subst hrr
      have hlo := rowsN_length a b la out HS.out
      rw [← HLA.out, ← HLB.out] at hlo
      have HLO := hide hlo
      clear hlo
      go_wp2_with fail
      go_ret
      exact ⟨w.heap.size, by rw [HLO.out]; rfl, Nat.le_refl _, Hbo.out, HB.out⟩
end Go.Proofs.Yteocienbfhgmjaa
