/- The document's Block of layer 1: the state behind a block. -/
import Derived.Test.YtaomigfmjglggaaDoorProg
import Derived.Test.YtaomigfmjglggaaDoorRefS
import Derived.Test.YtaomigfmjglggaaDoorBase
import Derived.Test.YtaomigfmjglggaaDoorBlocks
import Derived.IntWalk
namespace Go.Proofs.YtaomigfmjglggaaDoor
open Go.RowKit

theorem ror_refI (x v : Int) (w : World) (h0 : 1 ≤ v) (h1 : v ≤ 31) :
    Calls Tryd.prog 117 #[.int .u32 x, .int .u64 v] w fun e w' => e = .returned (.int .u32 (rorS x v.toNat)) ∧ w = w' := by
  obtain ⟨n, rfl⟩ := Int.eq_ofNat_of_zero_le (show 0 ≤ v by omega)
  exact ror_ref x n w (by omega) (by omega)

theorem SlAt.cellAt {w : World} {ao : Option Addr} {n c : Nat} {xs : List Int} (h : SlAt w (.slice ao n c) xs) (h0 : 0 < n) : ∃ ad, ao = some ad ∧ ad.spot = none ∧ ad.block < w.heap.size ∧ ∀ i, i < n → w.cell? (ad.add i) = some (.int .u8 (nth xs i)) := by
  obtain ⟨ao', cap, hv, hn, hc, ha⟩ := h
  simp at hv
  obtain ⟨rfl, rfl, rfl⟩ := hv
  cases hao : ao with
  | none => rw [(hn hao).1] at h0; simp at h0
  | some ad =>
    obtain ⟨h1, h2, _⟩ := ha ad hao 0 h0
    exact ⟨ad, rfl, h1, h2, fun i hi => (ha ad hao i hi).2.2⟩

theorem step_ref (s0 s1 s2 s3 s4 s5 s6 s7 k w : Int) : stepS [s0, s1, s2, s3, s4, s5, s6, s7] k w =
    [((s7 + bits BinOp.xor IntKind.u32 (bits BinOp.xor IntKind.u32 (rorS s4 6) (rorS s4 11)) (rorS s4 25) + bits BinOp.xor IntKind.u32 (bits BinOp.and IntKind.u32 s4 s5) (bits BinOp.and IntKind.u32 (bits BinOp.xor IntKind.u32 IntKind.u32.max s4) s6) + k + w) % 4294967296 +
      (bits BinOp.xor IntKind.u32 (bits BinOp.xor IntKind.u32 (rorS s0 2) (rorS s0 13)) (rorS s0 22) + bits BinOp.xor IntKind.u32 (bits BinOp.xor IntKind.u32 (bits BinOp.and IntKind.u32 s0 s1) (bits BinOp.and IntKind.u32 s0 s2)) (bits BinOp.and IntKind.u32 s1 s2)) % 4294967296) % 4294967296, s0, s1, s2,
     (s3 + (s7 + bits BinOp.xor IntKind.u32 (bits BinOp.xor IntKind.u32 (rorS s4 6) (rorS s4 11)) (rorS s4 25) + bits BinOp.xor IntKind.u32 (bits BinOp.and IntKind.u32 s4 s5) (bits BinOp.and IntKind.u32 (bits BinOp.xor IntKind.u32 IntKind.u32.max s4) s6) + k + w) % 4294967296) % 4294967296, s4, s5, s6] := by
  rw [← Int.add_emod, Int.add_emod_emod]
  rfl

set_option maxRecDepth 100000 in
set_option maxHeartbeats 2000000 in
theorem block_ref (sv ks bs : List Int) (v : Value) (w : World) (hh : Hid (sv.length = 8)) (hk : Hid (ks.length = 64)) (hl : Hid (bs.length = 64)) (hb : Hid (∀ x ∈ bs, 0 ≤ x ∧ x < 256)) (hs : SlAt w v bs) :
    Calls Tryd.prog 107 #[.agg (cellsOf .u32 sv), v, .agg (cellsOf .u32 ks)] w (fun e w' => e = .returned (.agg (cellsOf .u32 (takeS sv ks bs))) ∧ Below w.heap.size w w') := by
  obtain ⟨ao, cap, rfl⟩ := hs.len
  rw [hl.out] at hs ⊢
  obtain ⟨ad, rfl, had, hlt0, hcell⟩ := hs.cellAt (by omega)
  clear hs
  obtain ⟨ab, off, sp⟩ := ad
  have hsp : sp = none := had
  subst hsp
  replace hlt0 : ab < w.heap.size := hlt0
  have hcell2 : ∀ i, i < 64 → w.cell? ⟨ab, off + i, none⟩ = some (.int .u8 (nth bs i)) := fun i hi => by have := hcell i hi; rw [addr_plain] at this; exact this
  have HC := hide hcell2
  clear hcell hcell2 had
  go_enter Tryd.func107, Tryd.ntmps107
  go_wp2_with (first | (with_reducible refine wpList_alloc_row rfl 124 rfl (cellsOf .u32 zeros8) zero24 ?_) | (with_reducible refine wpList_alloc_row rfl 141 rfl (cellsOf .u32 zeros64) zero26 ?_))
  obtain ⟨h0, h1, h2, h3⟩ := heap4 w (.cells (cellsOf .u32 sv) 124) (.cells (cellsOf .u32 ks) 141) (.cells (cellsOf .u32 zeros8) 124) (.cells (cellsOf .u32 zeros64) 141)
  have hB0 : Below w.heap.size w ((((w.alloc (.cells (cellsOf .u32 sv) 124)).alloc (.cells (cellsOf .u32 ks) 141)).alloc (.cells (cellsOf .u32 zeros8) 124)).alloc (.cells (cellsOf .u32 zeros64) 141)) :=
    ((((Below.refl _ _).alloc (Nat.le_refl _) _).alloc (by simp) _).alloc (by simp; omega) _).alloc (by simp; omega) _
  generalize ((((w.alloc (.cells (cellsOf .u32 sv) 124)).alloc (.cells (cellsOf .u32 ks) 141)).alloc (.cells (cellsOf .u32 zeros8) 124)).alloc (.cells (cellsOf .u32 zeros64) 141)) = w0 at h0 h1 h2 h3 hB0 ⊢
  have hh0 : Blk w0 w.heap.size 124 .u32 sv := h0
  have hh1 : Blk w0 (w.heap.size + 1) 141 .u32 ks := h1
  have hh2 : Blk w0 (w.heap.size + 1 + 1) 124 .u32 zeros8 := h2
  have hh3 : Blk w0 (w.heap.size + 1 + 1 + 1) 141 .u32 (refW bs 0) := h3
  clear h0 h1 h2 h3
  go_loopw [8] (fun i wr => ∃ k : Nat, k ≤ 16 ∧ i = .int .i64 k ∧ Blk wr (w.heap.size + 1 + 1 + 1) 141 .u32 (refW bs k) ∧ Blk wr w.heap.size 124 .u32 sv ∧ Blk wr (w.heap.size + 1) 141 .u32 ks ∧ Blk wr (w.heap.size + 1 + 1) 124 .u32 zeros8 ∧ Below w.heap.size w wr)
    (fun i _ => 16 - (intOf i).toNat)
  case atStart => exact ⟨0, by omega, rfl, hh3, hh0, hh1, hh2, hB0⟩
  case round =>
    clear hh0 hh1 hh2 hh3 hB0 w0
    obtain ⟨k, hk0, rfl, hw3, hw0, hw1, hw2, hB⟩ := hrel
    by_cases hlt : k < 16
    · have hc0 := (hB.cell (p := ⟨ab, off + (4 * k), none⟩) hlt0).trans (HC.out (4 * k) (by omega))
      have hc1 := (hB.cell (p := ⟨ab, off + (4 * k + 1), none⟩) hlt0).trans (HC.out (4 * k + 1) (by omega))
      have hc2 := (hB.cell (p := ⟨ab, off + (4 * k + 2), none⟩) hlt0).trans (HC.out (4 * k + 2) (by omega))
      have hc3 := (hB.cell (p := ⟨ab, off + (4 * k + 3), none⟩) hlt0).trans (HC.out (4 * k + 3) (by omega))
      obtain ⟨b0, hb0⟩ : ∃ b, b = nth bs (4 * k) := ⟨_, rfl⟩
      obtain ⟨b1, hb1⟩ : ∃ b, b = nth bs (4 * k + 1) := ⟨_, rfl⟩
      obtain ⟨b2, hb2⟩ : ∃ b, b = nth bs (4 * k + 2) := ⟨_, rfl⟩
      obtain ⟨b3, hb3⟩ : ∃ b, b = nth bs (4 * k + 3) := ⟨_, rfl⟩
      rw [← hb0] at hc0
      rw [← hb1] at hc1
      rw [← hb2] at hc2
      rw [← hb3] at hc3
      have HBB := hide (show word4 b0 b1 b2 b3 = word4 (nth bs (4 * k)) (nth bs (4 * k + 1)) (nth bs (4 * k + 2)) (nth bs (4 * k + 3)) by rw [hb0, hb1, hb2, hb3])
      clear hb0 hb1 hb2 hb3
      have H3 := hide hw3
      have H0 := hide hw0
      have H1 := hide hw1
      have H2 := hide hw2
      have HB := hide hB
      clear hw3 hw0 hw1 hw2 hB
      have a0 : IntKind.i64.wrap (4 * (k : Int)) = 4 * (k : Int) := IntWalk.i64_in _ (by omega)
      have a1 : IntKind.i64.wrap (4 * (k : Int) + 1) = 4 * (k : Int) + 1 := IntWalk.i64_in _ (by omega)
      have a2 : IntKind.i64.wrap (4 * (k : Int) + 2) = 4 * (k : Int) + 2 := IntWalk.i64_in _ (by omega)
      have a3 : IntKind.i64.wrap (4 * (k : Int) + 3) = 4 * (k : Int) + 3 := IntWalk.i64_in _ (by omega)
      have p0 : 0 ≤ 4 * (k : Int) := by omega
      have p1 : 0 ≤ 4 * (k : Int) + 1 := by omega
      have p2 : 0 ≤ 4 * (k : Int) + 2 := by omega
      have p3 : 0 ≤ 4 * (k : Int) + 3 := by omega
      have q0 : 4 * (k : Int) < 64 := by omega
      have q1 : 4 * (k : Int) + 1 < 64 := by omega
      have q2 : 4 * (k : Int) + 2 < 64 := by omega
      have q3 : 4 * (k : Int) + 3 < 64 := by omega
      have r0 : (4 * (k : Int)).toNat = 4 * k := by omega
      have r1 : (4 * (k : Int) + 1).toNat = 4 * k + 1 := by omega
      have r2 : (4 * (k : Int) + 2).toNat = 4 * k + 2 := by omega
      have r3 : (4 * (k : Int) + 3).toNat = 4 * k + 3 := by omega
      have hk64 : (k : Int) < 64 := by omega
      go_wp2_with fail
      go_still_tail 35, (by kernel_rfl)
      clear hc0 hc1 hc2 hc3 a0 a1 a2 a3 p0 p1 p2 p3 q0 q1 q2 q3 r0 r1 r2 r3
      change wpList _ _ _ _ _ wr.drew
      have hw3 : Blk wr.drew (w.heap.size + 1 + 1 + 1) 141 .u32 (refW bs k) := H3.out
      have hw0 : Blk wr.drew w.heap.size 124 .u32 sv := H0.out
      have hw1 : Blk wr.drew (w.heap.size + 1) 141 .u32 ks := H1.out
      have hw2 : Blk wr.drew (w.heap.size + 1 + 1) 124 .u32 zeros8 := H2.out
      have hB : Below w.heap.size w wr.drew := HB.out.drew
      clear H3 H0 H1 H2 HB
      generalize wr.drew = we at hw3 hw0 hw1 hw2 hB ⊢
      clear wr
      simp only [IntKind.wrap_u32]
      rw [show bits BinOp.or .u32 (bits BinOp.or .u32 (bits BinOp.or .u32 (b0 % 4294967296 * 16777216 % 4294967296) (b1 % 4294967296 * 65536 % 4294967296)) (b2 % 4294967296 * 256 % 4294967296)) (b3 % 4294967296) = word4 b0 b1 b2 b3 from rfl, HBB.out]
      obtain ⟨x, hx⟩ : ∃ x, x = word4 (nth bs (4 * k)) (nth bs (4 * k + 1)) (nth bs (4 * k + 2)) (nth bs (4 * k + 3)) := ⟨_, rfl⟩
      rw [← hx]
      have HX := hide hx
      clear hx HBB
      have hck := hw3.cell k (by rw [length_refW]; omega)
      have hf := hw3.free k
      have Hs3 := hide (hw3.set k x)
      have Hs0 := hide (hw0.other ⟨w.heap.size + 1 + 1 + 1, k, none⟩ (.int .u32 x) (by simp <;> omega))
      have Hs1 := hide (hw1.other ⟨w.heap.size + 1 + 1 + 1, k, none⟩ (.int .u32 x) (by simp <;> omega))
      have Hs2 := hide (hw2.other ⟨w.heap.size + 1 + 1 + 1, k, none⟩ (.int .u32 x) (by simp <;> omega))
      have hB1 := hide (hB.setCell (p := ⟨w.heap.size + 1 + 1 + 1, k, none⟩) (by show w.heap.size ≤ w.heap.size + 1 + 1 + 1; omega) (.int .u32 x))
      clear hw3 hw0 hw1 hw2 hB
      go_wp2_with fail
      go_roundw
      case rel => exact ⟨k + 1, by omega, by go_num, by rw [refW, ← HX.out]; exact Hs3.out, Hs0.out, Hs1.out, Hs2.out, hB1.out⟩
      case measure => simp [intOf]; omega
    · have hw3' : Blk wr (w.heap.size + 1 + 1 + 1) 141 .u32 (sched (packW bs 64) 16) := by
        rw [sched_16, ← sched_ref bs (nth_bytes hb.out), show (16 : Nat) = k from by omega]; exact hw3
      clear hw3 HC hlt0 hb
      go_wp2_with fail
      clear hlt hk0
      generalize (k : Int) = kx
      obtain ⟨wo, hwo⟩ : ∃ wo, wo = wr := ⟨wr, rfl⟩
      subst hwo
      go_loopw [9] (fun i wr => ∃ k : Nat, 16 ≤ k ∧ k ≤ 64 ∧ i = .int .i64 k ∧ Blk wr (w.heap.size + 1 + 1 + 1) 141 .u32 (sched (packW bs 64) k) ∧ Blk wr w.heap.size 124 .u32 sv ∧ Blk wr (w.heap.size + 1) 141 .u32 ks ∧ Blk wr (w.heap.size + 1 + 1) 124 .u32 zeros8 ∧ Below w.heap.size w wr)
        (fun i _ => 64 - (intOf i).toNat)
      case atStart => exact ⟨16, by omega, by omega, rfl, hw3', hw0, hw1, hw2, hB⟩
      case round =>
        obtain ⟨k, hk0, hk9, rfl, hw3, hx0, hx1, hx2, hBx⟩ := hrel
        clear hw3' hw0 hw1 hw2 hB
        by_cases hlt : k < 64
        · have hl64 : (sched (packW bs 64) k).length = 64 := by rw [length_sched, length_packW]
          have hc15 := hw3.cell (k - 15) (by omega)
          have hc2 := hw3.cell (k - 2) (by omega)
          have Hl := hide hl64
          have HW := hide hw3
          have H0 := hide hx0
          have H1 := hide hx1
          have H2 := hide hx2
          have HB := hide hBx
          clear hl64 hw3 hx0 hx1 hx2 hBx
          have a15 : IntKind.i64.wrap ((k : Int) - 15) = (k : Int) - 15 := IntWalk.i64_in _ (by omega)
          have b15 : 0 ≤ (k : Int) - 15 := by omega
          have b15' : (15 : Int) ≤ (k : Int) := by omega
          have d15 : (k : Int) - 15 < 64 := by omega
          have e15 : ((k : Int) - 15).toNat = k - 15 := by omega
          have a2 : IntKind.i64.wrap ((k : Int) - 2) = (k : Int) - 2 := IntWalk.i64_in _ (by omega)
          have b2 : 0 ≤ (k : Int) - 2 := by omega
          have b2' : (2 : Int) ≤ (k : Int) := by omega
          have d2 : (k : Int) - 2 < 64 := by omega
          have e2 : ((k : Int) - 2).toNat = k - 2 := by omega
          go_wp2_with fail
          go_quiet ((go_at_call 117; exact quiet_left (ror_refI _ _ _ (by decide) (by decide))))
          go_wp2_with fail
          go_quiet ((go_at_call 117; exact quiet_add_left (ror_refI _ _ _ (by decide) (by decide))))
          have a7 : IntKind.i64.wrap ((k : Int) - 7) = (k : Int) - 7 := IntWalk.i64_in _ (by omega)
          have b7 : 0 ≤ (k : Int) - 7 := by omega
          have b7' : (7 : Int) ≤ (k : Int) := by omega
          have d7 : (k : Int) - 7 < 64 := by omega
          have e7 : ((k : Int) - 7).toNat = k - 7 := by omega
          have a16 : IntKind.i64.wrap ((k : Int) - 16) = (k : Int) - 16 := IntWalk.i64_in _ (by omega)
          have b16 : 0 ≤ (k : Int) - 16 := by omega
          have b16' : (16 : Int) ≤ (k : Int) := by omega
          have d16 : (k : Int) - 16 < 64 := by omega
          have e16 : ((k : Int) - 16).toNat = k - 16 := by omega
          have hk64 : (k : Int) < 64 := by omega
          go_wp2_with fail
          generalize hwd : World.drewN (World.drewN wr _) _ = wd
          have hw3 : Blk wd (w.heap.size + 1 + 1 + 1) 141 .u32 (sched (packW bs 64) k) := by rw [← hwd]; exact HW.out
          have hw0 : Blk wd w.heap.size 124 .u32 sv := by rw [← hwd]; exact H0.out
          have hw1 : Blk wd (w.heap.size + 1) 141 .u32 ks := by rw [← hwd]; exact H1.out
          have hw2 : Blk wd (w.heap.size + 1 + 1) 124 .u32 zeros8 := by rw [← hwd]; exact H2.out
          have hBd : Below w.heap.size w wd := by rw [← hwd]; exact below_drewN (below_drewN HB.out _) _
          have hl64 := Hl.out
          have hc7 := hw3.cell (k - 7) (by omega)
          have hc16 := hw3.cell (k - 16) (by omega)
          have hck := hw3.cell k (by omega)
          have hf := hw3.free k
          clear hl64 hwd HW H0 H1 H2 HB hc15 hc2
          have HW3 := hide hw3
          have HW0 := hide hw0
          have HW1 := hide hw1
          have HW2 := hide hw2
          have HBd := hide hBd
          clear hw3 hw0 hw1 hw2 hBd
          go_still_tail 15, (by kernel_rfl)
          clear hc7 hc16 hck hf
          change wpList _ _ _ _ _ wd.drew
          have hw3 : Blk wd.drew (w.heap.size + 1 + 1 + 1) 141 .u32 (sched (packW bs 64) k) := HW3.out
          have hw0 : Blk wd.drew w.heap.size 124 .u32 sv := HW0.out
          have hw1 : Blk wd.drew (w.heap.size + 1) 141 .u32 ks := HW1.out
          have hw2 : Blk wd.drew (w.heap.size + 1 + 1) 124 .u32 zeros8 := HW2.out
          have hBd : Below w.heap.size w wd.drew := HBd.out.drew
          clear HW3 HW0 HW1 HW2 HBd
          generalize wd.drew = we at hw3 hw0 hw1 hw2 hBd ⊢
          clear wd
          have hck := hw3.cell k (by have := Hl.out; omega)
          have hf := hw3.free k
          have Hs3 := hide (hw3.set k (schedVal (sched (packW bs 64) k) k))
          have Hs0 := hide (hw0.other ⟨w.heap.size + 1 + 1 + 1, k, none⟩ (.int .u32 (schedVal (sched (packW bs 64) k) k)) (by simp <;> omega))
          have Hs1 := hide (hw1.other ⟨w.heap.size + 1 + 1 + 1, k, none⟩ (.int .u32 (schedVal (sched (packW bs 64) k) k)) (by simp <;> omega))
          have Hs2 := hide (hw2.other ⟨w.heap.size + 1 + 1 + 1, k, none⟩ (.int .u32 (schedVal (sched (packW bs 64) k) k)) (by simp <;> omega))
          have hB1 := hide (hBd.setCell (p := ⟨w.heap.size + 1 + 1 + 1, k, none⟩) (by show w.heap.size ≤ w.heap.size + 1 + 1 + 1; omega) (.int .u32 (schedVal (sched (packW bs 64) k) k)))
          clear hw3 hw0 hw1 hw2 hBd
          go_wp2_with fail
          go_roundw
          case rel => exact ⟨k + 1, by omega, by omega, by go_num, by rw [sched_succ _ _ hk0]; exact Hs3.out, Hs0.out, Hs1.out, Hs2.out, hB1.out⟩
          case measure => simp [intOf]; omega
        · have hwS : Blk wr (w.heap.size + 1 + 1 + 1) 141 .u32 (wordsS bs) := by
            rw [wordsS, show sched (packW bs 64) 64 = sched (packW bs 64) k from by rw [show k = 64 from by omega]]; exact hw3
          clear hw3 hk0 hk9
          obtain ⟨x0, x1, x2, x3, x4, x5, x6, x7, rfl⟩ := list8 hh.out
          have hi0 := hx0.cell 0 (by simp)
          have hi1 := hx0.cell 1 (by simp)
          have hi2 := hx0.cell 2 (by simp)
          have hi3 := hx0.cell 3 (by simp)
          have hi4 := hx0.cell 4 (by simp)
          have hi5 := hx0.cell 5 (by simp)
          have hi6 := hx0.cell 6 (by simp)
          have hi7 := hx0.cell 7 (by simp)
          have H0 := hide hx0
          have H1 := hide hx1
          have H2 := hide hx2
          have H3 := hide hwS
          have HB := hide hBx
          clear hx0 hx1 hx2 hwS hBx
          go_wp2_with fail
          go_quiet (fail)
          clear hi0 hi1 hi2 hi3 hi4 hi5 hi6 hi7
          go_wp2_with fail
          generalize hwd : World.drewN wr _ = wd
          have hw3 : Blk wd (w.heap.size + 1 + 1 + 1) 141 .u32 (wordsS bs) := by rw [← hwd]; exact H3.out
          have hw0 : Blk wd w.heap.size 124 .u32 [x0, x1, x2, x3, x4, x5, x6, x7] := by rw [← hwd]; exact H0.out
          have hw1 : Blk wd (w.heap.size + 1) 141 .u32 ks := by rw [← hwd]; exact H1.out
          have hw2 : Blk wd (w.heap.size + 1 + 1) 124 .u32 zeros8 := by rw [← hwd]; exact H2.out
          have hBd : Below w.heap.size w wd := by rw [← hwd]; exact below_drewN HB.out _
          clear hwd H0 H1 H2 H3 HB wr
          generalize (k : Int) = ky
          obtain ⟨wo, hwo⟩ : ∃ wo, wo = wd := ⟨wd, rfl⟩
          subst hwo
          go_loopw [12, 13, 14, 15, 16, 17, 18, 19, 20] (fun a b c d e f g h t wr => ∃ (k : Nat) (s0 s1 s2 s3 s4 s5 s6 s7 : Int), k ≤ 64 ∧ t = .int .i64 (k : Int) ∧ roundsS [x0, x1, x2, x3, x4, x5, x6, x7] ks (wordsS bs) k = [s0, s1, s2, s3, s4, s5, s6, s7] ∧
              a = .int .u32 s0 ∧ b = .int .u32 s1 ∧ c = .int .u32 s2 ∧ d = .int .u32 s3 ∧ e = .int .u32 s4 ∧ f = .int .u32 s5 ∧ g = .int .u32 s6 ∧ h = .int .u32 s7 ∧
              Blk wr (w.heap.size + 1 + 1 + 1) 141 .u32 (wordsS bs) ∧ Blk wr w.heap.size 124 .u32 [x0, x1, x2, x3, x4, x5, x6, x7] ∧ Blk wr (w.heap.size + 1) 141 .u32 ks ∧ Blk wr (w.heap.size + 1 + 1) 124 .u32 zeros8 ∧ Below w.heap.size w wr)
            (fun _ _ _ _ _ _ _ _ t _ => 64 - (intOf t).toNat)
          case atStart => exact ⟨0, x0, x1, x2, x3, x4, x5, x6, x7, by omega, rfl, rfl, rfl, rfl, rfl, rfl, rfl, rfl, rfl, rfl, hw3, hw0, hw1, hw2, hBd⟩
          case round =>
            obtain ⟨k, s0, s1, s2, s3, s4, s5, s6, s7, hk9, rfl, hrs, rfl, rfl, rfl, rfl, rfl, rfl, rfl, rfl, hx3, hx0, hx1, hx2, hBx⟩ := hrel
            clear hw3 hw0 hw1 hw2 hBd
            have HR := hide hrs
            clear hrs
            by_cases hlt : k < 64
            · have hck := hx1.cell k (by rw [hk.out]; exact hlt)
              have hcw := hx3.cell k (by rw [length_wordsS]; exact hlt)
              have H0 := hide hx0
              have H1 := hide hx1
              have H2 := hide hx2
              have H3 := hide hx3
              have HB := hide hBx
              clear hx0 hx1 hx2 hx3 hBx
              have hk64 : (k : Int) < 64 := by omega
              go_wp2_with fail
              go_quiet ((go_at_call 117; exact quiet_left (ror_refI _ _ _ (by decide) (by decide))))
              clear hck hcw
              go_wp2_with fail
              refine (ror_refI _ _ _ (by decide) (by decide)).mono ?_
              rintro e w' ⟨rfl, hw'⟩
              subst hw'
              go_wp2_with fail
              refine (ror_refI _ _ _ (by decide) (by decide)).mono ?_
              rintro e w' ⟨rfl, hw'⟩
              subst hw'
              go_wp2_with fail
              refine (ror_refI _ _ _ (by decide) (by decide)).mono ?_
              rintro e w' ⟨rfl, hw'⟩
              subst hw'
              go_wp2_with fail
              generalize hwd : World.drewN wr _ = wd
              have hw3 : Blk wd (w.heap.size + 1 + 1 + 1) 141 .u32 (wordsS bs) := by rw [← hwd]; exact H3.out
              have hw0 : Blk wd w.heap.size 124 .u32 [x0, x1, x2, x3, x4, x5, x6, x7] := by rw [← hwd]; exact H0.out
              have hw1 : Blk wd (w.heap.size + 1) 141 .u32 ks := by rw [← hwd]; exact H1.out
              have hw2 : Blk wd (w.heap.size + 1 + 1) 124 .u32 zeros8 := by rw [← hwd]; exact H2.out
              have hBd : Below w.heap.size w wd := by rw [← hwd]; exact below_drewN HB.out _
              go_roundw
              case rel => exact ⟨k + 1, _, s0, s1, s2, _, s4, s5, s6, by omega, by go_num, by rw [roundsS, HR.out]; exact step_ref _ _ _ _ _ _ _ _ _ _, rfl, rfl, rfl, rfl, rfl, rfl, rfl, rfl, hw3, hw0, hw1, hw2, hBd⟩
              case measure => simp [intOf]; omega
            · have hi0 := hx0.cell 0 (by simp)
              have hi1 := hx0.cell 1 (by simp)
              have hi2 := hx0.cell 2 (by simp)
              have hi3 := hx0.cell 3 (by simp)
              have hi4 := hx0.cell 4 (by simp)
              have hi5 := hx0.cell 5 (by simp)
              have hi6 := hx0.cell 6 (by simp)
              have hi7 := hx0.cell 7 (by simp)
              have HT : Hid (takeS [x0, x1, x2, x3, x4, x5, x6, x7] ks bs = [(x0 + s0) % 4294967296, (x1 + s1) % 4294967296, (x2 + s2) % 4294967296, (x3 + s3) % 4294967296, (x4 + s4) % 4294967296, (x5 + s5) % 4294967296, (x6 + s6) % 4294967296, (x7 + s7) % 4294967296]) := hide (by
                have hr := HR.out
                rw [show k = 64 by omega] at hr
                rw [takeS, hr, addUp8])
              have H2 := hide hx2
              have HB := hide hBx
              clear hx0 hx1 hx2 hx3 hBx HR
              go_wp2_with (first | (refine wpList_store_row rfl 124 (.tmp 6) (.tmp 226) rfl (w.heap.size + 1 + 1) (cellsOf .u32 (takeS [x0, x1, x2, x3, x4, x5, x6, x7] ks bs)) rfl (by rw [HT.out]; rfl) _ _ H2.out.row (sz24 _ (by rw [HT.out]; rfl)) (szZ8 _ (by rw [HT.out]; rfl)) (oneCell_cellsOf _ _) ?_))
              refine bodyPost_ret (results_cell_row rfl _ _ (w.heap.size + 1 + 1) _ (cellsOf .u32 (takeS [x0, x1, x2, x3, x4, x5, x6, x7] ks bs)) (0, 0) _ rfl (H2.out.setRow (takeS [x0, x1, x2, x3, x4, x5, x6, x7] ks bs)).row Tryd.underlying124 rfl (sz24 _ (by rw [HT.out]; rfl))) rfl ?_
              exact ⟨rfl, below_setRow HB.out (by omega) _⟩
end Go.Proofs.YtaomigfmjglggaaDoor
