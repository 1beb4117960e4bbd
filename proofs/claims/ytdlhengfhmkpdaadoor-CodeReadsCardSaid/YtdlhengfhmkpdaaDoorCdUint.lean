/- Package code: Uint of a writer. -/
import Derived.Test.YtdlhengfhmkpdaaDoorCdW
namespace Go.Proofs.YtdlhengfhmkpdaaDoor
open Go.RowKit

/-- The first i bytes of a number that has more than i. -/
def lowB (x : Nat) (i : Nat) : List Int := (List.range i).map fun j => ((x / 2 ^ (7 * j) % 128 + 128 : Nat) : Int)
/-- The fewest bytes of a number, of n + 1 at most. -/
def uintF : Nat → Nat → List Int
  | 0, x => [(x : Int)]
  | n + 1, x => if x < 128 then [(x : Int)] else ((x % 128 + 128 : Nat) : Int) :: uintF n (x / 128)
/-- A number's bytes. -/
def uintS (x : Nat) : List Int := uintF 9 x
def bufS (x i : Nat) : List Int := lowB x i ++ List.replicate (10 - i) 0
theorem length_lowB (x i : Nat) : (lowB x i).length = i := by simp [lowB]
theorem length_bufS (x i : Nat) (h : i ≤ 10) : (bufS x i).length = 10 := by simp [bufS, length_lowB]; omega
theorem lowB_succ (x i : Nat) : lowB x (i + 1) = lowB x i ++ [((x / 2 ^ (7 * i) % 128 + 128 : Nat) : Int)] := by simp [lowB, List.range_succ]
theorem bufS_set (x i : Nat) (h : i < 10) (v : Int) : (bufS x i).set i v = lowB x i ++ v :: List.replicate (9 - i) 0 := by
  rw [bufS, show 10 - i = (9 - i) + 1 by omega, List.replicate_succ, List.set_append_right _ _ (by rw [length_lowB]; omega), length_lowB, Nat.sub_self]
  rfl
theorem bufS_succ (x i : Nat) (h : i < 10) : (bufS x i).set i ((x / 2 ^ (7 * i) % 128 + 128 : Nat) : Int) = bufS x (i + 1) := by
  rw [bufS_set x i h, bufS, lowB_succ, List.append_assoc, show 10 - (i + 1) = 9 - i by omega]
  rfl
theorem uintF_step (n x i : Nat) (h : 128 ≤ x / 2 ^ (7 * i)) : uintF (n + 1) (x / 2 ^ (7 * i)) = ((x / 2 ^ (7 * i) % 128 + 128 : Nat) : Int) :: uintF n (x / 2 ^ (7 * (i + 1))) := by
  rw [uintF, if_neg (by omega), Nat.div_div_eq_div_mul]
  rw [show 2 ^ (7 * (i + 1)) = 2 ^ (7 * i) * 128 by rw [Nat.mul_add, Nat.pow_add]]
theorem uintF_end (n x : Nat) (h : x < 128) : uintF n x = [(x : Int)] := by
  cases n <;> simp [uintF, h]

def zeros10 : List Int := List.replicate 10 0
theorem zero10 (w : World) : (zeroValue 123).run Tryd.prog w = .ok (.agg (cellsOf .u8 zeros10)) w := by kernel_rfl

theorem eval_global (a : Act) (n : Nat) : a.eval (.global n) = .pointer (some ⟨n, 0, none⟩) := rfl

theorem arr10 : cellsOf .i64 places10 = #[.int .i64 0, .int .i64 7, .int .i64 14, .int .i64 21, .int .i64 28, .int .i64 35, .int .i64 42, .int .i64 49, .int .i64 56, .int .i64 63] := rfl

theorem or128 : ∀ a : Fin 256, bits BinOp.or IntKind.u8 (a.val : Int) 128 = ((a.val % 128 + 128 : Nat) : Int) := by decide +kernel

theorem mod256_small (y : Nat) (h : y < 128) : (y : Int) % 256 = y := by omega
theorem mod256_cast (y : Nat) : (y : Int) % 256 = ((y % 256 : Nat) : Int) := by omega

theorem run_cut_arr {P : Program} {t e : TypeId} {n : Nat} (hu : P.underlying t = some (.array n e)) (hs : (P.info? e).map (·.size) = some 1) (g m : Nat) (h : m ≤ n) (w : World) :
    (Instr.sliceAt t (.pointer (some ⟨g, 0, none⟩)) none (some (.int .i64 (m : Int))) none).run P w = .ok (.slice (some ⟨g, 0, none⟩) m n) w := by
  have h1 : (0 : Int) ≤ (m : Int) ∧ (m : Int) ≤ (n : Int) := by omega
  simp [Instr.sliceAt, Instr.slice, run_underlying hu, Instr.sliceBounds, run_sliceBound_if, run_sizeOf hs, h1, Instr.sureAddr]
  intro _
  simp [Addr.add]

set_option maxRecDepth 100000 in
set_option maxHeartbeats 1000000 in
theorem uint_any (x : Nat) (hx : x < 18446744073709551616) (W : World) (B : Nat) (F : Nat → Prop) (g : Nat) (xs : List Int) (ht : Tab W) (h : Wr W B F g xs) (hb : xs.length + 10 ≤ 140737488355328) :
    Calls Tryd.prog 57 #[.pointer (some ⟨g, 0, none⟩), .int .u64 x] W (WrPost W B F g (xs ++ uintS x)) := by
  have hal : Tryd.prog.arrayLen 123 = 10 := by kernel_rfl
  have hal2 : Tryd.prog.arrayLen 124 = 10 := by kernel_rfl
  have HH := hide h
  have h2 := ht.two
  have hB0 : Below W.heap.size W (W.alloc (.cells (cellsOf .u8 zeros10) 123)) := (Below.refl _ _).alloc (Nat.le_refl _) _
  obtain ⟨_, ⟨t, fr, htab⟩⟩ := ht.below hB0 h2
  have c0 := (cell_of_row _ 1 0 _ t fr htab).trans (show _ = some (Value.int .i64 0) from rfl)
  have c1 := (cell_of_row _ 1 1 _ t fr htab).trans (show _ = some (Value.int .i64 7) from rfl)
  have c2 := (cell_of_row _ 1 2 _ t fr htab).trans (show _ = some (Value.int .i64 14) from rfl)
  have c3 := (cell_of_row _ 1 3 _ t fr htab).trans (show _ = some (Value.int .i64 21) from rfl)
  have c4 := (cell_of_row _ 1 4 _ t fr htab).trans (show _ = some (Value.int .i64 28) from rfl)
  have c5 := (cell_of_row _ 1 5 _ t fr htab).trans (show _ = some (Value.int .i64 35) from rfl)
  have c6 := (cell_of_row _ 1 6 _ t fr htab).trans (show _ = some (Value.int .i64 42) from rfl)
  have c7 := (cell_of_row _ 1 7 _ t fr htab).trans (show _ = some (Value.int .i64 49) from rfl)
  have c8 := (cell_of_row _ 1 8 _ t fr htab).trans (show _ = some (Value.int .i64 56) from rfl)
  have c9 := (cell_of_row _ 1 9 _ t fr htab).trans (show _ = some (Value.int .i64 63) from rfl)
  clear h ht
  go_enter Tryd.func57, Tryd.ntmps57
  go_wp2_with (first
    | (with_reducible refine wpList_alloc_row rfl 123 rfl (cellsOf .u8 zeros10) zero10 ?_))
  go_loopw [9] (fun i wr => ∃ k : Nat, k ≤ 9 ∧ i = .int .i64 k ∧ Blk wr W.heap.size 123 .u8 (bufS x k) ∧ Below W.heap.size W wr ∧ Hid (uintS x = lowB x k ++ uintF (9 - k) (x / 2 ^ (7 * k))))
    (fun i _ => 10 - (intOf i).toNat)
  case atStart => exact ⟨0, by omega, rfl, Blk.new W 123 .u8 zeros10, hB0, hide (by simp [uintS, lowB])⟩
  case round =>
    obtain ⟨k, hk, rfl, hw, hB, hu⟩ := hrel
    have hix := run_index_cells (P := Tryd.prog) 124 3 10 .i64 .i64 Tryd.underlying124 Tryd.underlying3 (by kernel_rfl) places10 rfl k (by omega)
    rw [nth_places10 ⟨k, by omega⟩, arr10] at hix
    clear c0 c1 c2 c3 c4 c5 c6 c7 c8 c9 htab
    have hc := hw.cell k (by rw [length_bufS x k (by omega)]; omega)
    have hf := hw.free k
    have hyc : (x : Int) / 2 ^ (7 * k) = ((x / 2 ^ (7 * k) : Nat) : Int) := by push_cast; rfl
    by_cases hlt : (x : Int) / 2 ^ (7 * k) < 128
    · have hy : x / 2 ^ (7 * k) < 128 := by omega
      have hw' := hw.set k ((x : Int) / 2 ^ (7 * k) % 256)
      rw [show (x : Int) / 2 ^ (7 * k) % 256 = ((x / 2 ^ (7 * k) : Nat) : Int) by rw [hyc, mod256_small _ hy], bufS_set x k (by omega)] at hw'
      have hB' := hB.setCell (p := ⟨W.heap.size, k, none⟩) (Nat.le_refl _) (.int .u8 ((x / 2 ^ (7 * k) : Nat) : Int))
      have hsl := (slAt_lit hw'.row (Nat.le_refl _)).front' (m := k + 1) (by simp [length_lowB])
      rw [show (lowB x k ++ ((x / 2 ^ (7 * k) : Nat) : Int) :: List.replicate (9 - k) 0).take (k + 1) = uintS x by
        rw [hu.out, uintF_end _ _ hy, List.take_append, length_lowB, List.take_of_length_le (by rw [length_lowB]; omega), show k + 1 - k = 1 by omega, List.take_succ_cons, List.take_zero]] at hsl
      rw [show (lowB x k ++ ((x / 2 ^ (7 * k) : Nat) : Int) :: List.replicate (9 - k) 0).length = 10 by simp [length_lowB] <;> omega] at hsl
      have hul : (uintS x).length = k + 1 := by rw [hu.out, uintF_end _ _ hy]; simp [length_lowB]
      have HA := hide (add_any _ B F g xs (HH.out.keep (Keep.of_below (F := fun _ => False) hB') (fun _ _ => id)) (.slice (some ⟨W.heap.size, 0, none⟩) (k + 1) 10) (uintS x) hsl (off_new HH.out.ge (Nat.le_refl _)) (by omega))
      have HB := hide hB'
      have hcut := run_cut_arr (P := Tryd.prog) Tryd.underlying123 size5 W.heap.size (k + 1) (by omega)
      rw [show ((k + 1 : Nat) : Int) = (k : Int) + 1 by omega] at hcut
      have HE : Hid (((x / 2 ^ (7 * k) : Nat) : Int) = (x : Int) / 2 ^ (7 * k) % 256) := hide (by rw [hyc, mod256_small _ hy])
      rw [HE.out] at HA HB
      clear hw' hB' hsl hul hw hB hyc hy hu
      go_wp2_with fail
      refine HA.out.mono ?_
      intro e w' hp
      have hq := hp.pre HB.out HH.out.ge HH.out.hB
      obtain ⟨rfl, _⟩ := hp
      have HQ := hide hq
      clear hq
      go_wp2_with fail
      first | go_end0 | refine bodyPost_ret (results_none rfl _ _ _) rfl ?_
      exact HQ.out
    · have hy : 128 ≤ x / 2 ^ (7 * k) := by omega
      have hk9 : k < 9 := by
        rcases Nat.lt_or_ge k 9 with h | h
        · exact h
        · obtain rfl : k = 9 := by omega
          omega
      have hbv : bits BinOp.or IntKind.u8 ((x : Int) / 2 ^ (7 * k) % 256) 128 = ((x / 2 ^ (7 * k) % 128 + 128 : Nat) : Int) := by
        have := or128 ⟨x / 2 ^ (7 * k) % 256, by omega⟩
        rw [hyc, mod256_cast, this]
        simp only [Nat.mod_mod_of_dvd _ (show 128 ∣ 256 by decide)]
      have hw' := hw.set k (bits BinOp.or IntKind.u8 ((x : Int) / 2 ^ (7 * k) % 256) 128)
      rw [hbv, bufS_succ x k (by omega), ← hbv] at hw'
      have HB := hide (hB.setCell (p := ⟨W.heap.size, k, none⟩) (Nat.le_refl _) (.int .u8 (bits BinOp.or IntKind.u8 ((x : Int) / 2 ^ (7 * k) % 256) 128)))
      have HW := hide hw'
      have HU : Hid (uintS x = lowB x (k + 1) ++ uintF (9 - (k + 1)) (x / 2 ^ (7 * (k + 1)))) := hide (by
        rw [hu.out, show 9 - k = (9 - (k + 1)) + 1 by omega, uintF_step _ x k hy, lowB_succ, List.append_assoc]
        rfl)
      clear hw' hw hB hyc hy hu hbv
      go_wp2_with fail
      go_roundw
      case rel => exact ⟨k + 1, by omega, by go_num, HW.out, HB.out, HU⟩
      case measure => simp [intOf]; omega
end Go.Proofs.YtdlhengfhmkpdaaDoor
