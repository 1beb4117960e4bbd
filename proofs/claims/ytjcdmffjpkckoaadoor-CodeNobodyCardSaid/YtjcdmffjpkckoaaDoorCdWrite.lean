/- The law's own functions kind, write, written, size. -/
import Derived.Test.YtjcdmffjpkckoaaDoorCdFld
namespace Go.Proofs.YtjcdmffjpkckoaaDoor
open Go.RowKit

/-- A field's kind. -/
def Fld.kd (f : Fld) : Int := Int.tmod (bits BinOp.and IntKind.i64 f.kind 65535) 5
def Fld.val (f : Fld) : Value := .agg #[.int .i64 f.kind, .int .i64 f.most, .int .i64 f.more, .int .u64 (f.n : Nat), .string f.s]

/-- A field's bytes. -/
def fieldS (f : Fld) : List Int :=
  if f.kd = 0 then [((f.n % 256 : Nat) : Int)] else if f.kd = 1 then u32S (f.n % 4294967296) else if f.kd = 2 then uintS f.n else if f.kd = 3 then textS f.s else bytesOf f.s

theorem fieldS_len (f : Fld) : (fieldS f).length ≤ 10 + f.s.size := by
  unfold fieldS
  have h1 := uintS_len f.n
  have h2 := uintS_len f.s.size
  have h3 := length_bytesOf f.s
  have h4 : (u32S (f.n % 4294967296)).length = 4 := length_u32T _ 4
  (repeat' split) <;> simp [textS] <;> omega

set_option maxRecDepth 100000 in
theorem kind_any (f : Fld) (w : World) : Calls Tryd.prog 20 #[f.val] w (fun e w' => e = .returned (.int .i64 f.kd) ∧ Below w.heap.size w w') := by
  obtain ⟨a, b, c, n, s⟩ := f
  unfold Fld.val Fld.kd
  dsimp only
  go_enter Tryd.func20, Tryd.ntmps20
  go_wp2_with fail
  go_ret
  exact ⟨rfl, (Below.refl _ _).alloc (Nat.le_refl _) _⟩

set_option maxRecDepth 100000 in
set_option maxHeartbeats 1000000 in
theorem write_any (f : Fld) (hf : f.ok) (W : World) (B : Nat) (F : Nat → Prop) (g : Nat) (xs : List Int) (ht : Tab W) (hB2 : 2 ≤ B) (h : Wr W B F g xs) (hb : xs.length + 10 + f.s.size ≤ 140737488355328) :
    Calls Tryd.prog 14 #[.pointer (some ⟨g, 0, none⟩), f.val] W (WrPost W B F g (xs ++ fieldS f)) := by
  have hB0 : Below W.heap.size W (W.alloc (.cells f.cells.toArray 32)) := (Below.refl _ _).alloc (Nat.le_refl _) _
  have HK := hide (kind_any f (W.alloc (.cells f.cells.toArray 32)))
  have hrow := heap_alloc_new W (.cells f.cells.toArray 32)
  have HB0 := hide hB0
  have HH := hide h
  have HT := hide ht
  clear hB0 ht h
  have HE : Hid (∀ z, fieldS f = z ↔ (if f.kd = 0 then [((f.n % 256 : Nat) : Int)] else if f.kd = 1 then u32S (f.n % 4294967296) else if f.kd = 2 then uintS f.n else if f.kd = 3 then textS f.s else bytesOf f.s) = z) := hide (fun z => by rw [fieldS])
  go_enter Tryd.func14, Tryd.ntmps14
  unfold Fld.val at *
  go_wp2_with fail
  refine HK.out.mono ?_
  rintro e w1 ⟨rfl, hBk⟩
  have hl1 : W.heap.size < (W.alloc (.cells f.cells.toArray 32)).heap.size := by simp
  have hrow1 : w1.heap[W.heap.size]? = some (.cells f.cells.toArray 32 (0, 0)) := (hBk.block _ hl1).trans hrow
  have c3 : w1.cell? ⟨W.heap.size, 3, none⟩ = some (.int .u64 (f.n : Nat)) := (cell_of_row w1 _ 3 _ _ _ hrow1).trans rfl
  have c4 : w1.cell? ⟨W.heap.size, 4, none⟩ = some (.string f.s) := (cell_of_row w1 _ 4 _ _ _ hrow1).trans rfl
  have hB1 : Below W.heap.size W w1 := HB0.out.trans (hBk.mono (by omega))
  have HB1 := hide hB1
  have HW := hide (HH.out.keep (Keep.of_below hB1 : Keep (fun _ => False) W w1) (fun _ _ => id))
  have ht1 := HT.out.below hB1 HT.out.two
  have HT1 := hide ht1
  obtain ⟨hn, hsz, _, _⟩ := hf
  generalize f.kd = kd at HE ⊢
  generalize f.n = n at c3 hn HE
  generalize f.s = s at c4 hsz HE hb
  clear hB1 ht1 hrow1 hl1 hBk HK hrow HB0
  by_cases h0 : kd = 0
  · have HA := hide (u8_any ((n : Int) % 256) w1 B F g xs HW.out (by omega))
    have hfs : Hid (fieldS f = [(n : Int) % 256]) := hide ((HE.out _).2 (by rw [if_pos h0]; congr 1))
    clear HE
    go_wp2_with fail
    refine HA.out.mono ?_
    intro e w' hp
    have hq := hp.pre HB1.out HH.out.ge HH.out.hB
    obtain ⟨rfl, _⟩ := hp
    have HQ := hide hq
    clear hq
    go_wp2_with fail
    first | go_end0 | refine bodyPost_ret (results_none rfl _ _ _) rfl ?_
    rw [hfs.out]
    exact HQ.out
  by_cases h1 : kd = 1
  · have HA := hide (u32_any (n % 4294967296) w1 B F g xs HT1.out HW.out (by omega))
    have hfs : Hid (fieldS f = u32S (n % 4294967296)) := hide ((HE.out _).2 (by rw [if_neg h0, if_pos h1]))
    rw [show ((n % 4294967296 : Nat) : Int) = (n : Int) % 4294967296 by omega] at HA
    generalize u32S (n % 4294967296) = bs at HA hfs
    clear HE
    go_wp2_with fail
    refine HA.out.mono ?_
    intro e w' hp
    have hq := hp.pre HB1.out HH.out.ge HH.out.hB
    obtain ⟨rfl, _⟩ := hp
    have HQ := hide hq
    clear hq
    go_wp2_with fail
    first | go_end0 | refine bodyPost_ret (results_none rfl _ _ _) rfl ?_
    rw [hfs.out]
    exact HQ.out
  by_cases h2 : kd = 2
  · have HA := hide (uint_any n hn w1 B F g xs HT1.out HW.out (by omega))
    have hfs : Hid (fieldS f = uintS n) := hide ((HE.out _).2 (by rw [if_neg h0, if_neg h1, if_pos h2]))
    clear HE
    go_wp2_with fail
    refine HA.out.mono ?_
    intro e w' hp
    have hq := hp.pre HB1.out HH.out.ge HH.out.hB
    obtain ⟨rfl, _⟩ := hp
    have HQ := hide hq
    clear hq
    go_wp2_with fail
    first | go_end0 | refine bodyPost_ret (results_none rfl _ _ _) rfl ?_
    rw [hfs.out]
    exact HQ.out
  by_cases h3 : kd = 3
  · have HA := hide (text_any s w1 B F g xs HT1.out hB2 HW.out (by omega) hsz)
    have hfs : Hid (fieldS f = textS s) := hide ((HE.out _).2 (by rw [if_neg h0, if_neg h1, if_neg h2, if_pos h3]))
    clear HE
    go_wp2_with fail
    refine HA.out.mono ?_
    intro e w' hp
    have hq := hp.pre HB1.out HH.out.ge HH.out.hB
    obtain ⟨rfl, _⟩ := hp
    have HQ := hide hq
    clear hq
    go_wp2_with fail
    first | go_end0 | refine bodyPost_ret (results_none rfl _ _ _) rfl ?_
    rw [hfs.out]
    exact HQ.out
  · have hfs : Hid (fieldS f = bytesOf s) := hide ((HE.out _).2 (by rw [if_neg h0, if_neg h1, if_neg h2, if_neg h3]))
    clear HE
    obtain ⟨c, w2, hrun, hrow, hB2', hs2⟩ := str_bytes w1 s hsz
    have HA := hide (raw_any (.slice (some ⟨w1.heap.size, 0, none⟩) s.size c) (bytesOf s) w2 B F g xs (HW.out.keep (Keep.of_below hB2' : Keep (fun _ => False) w1 w2) (fun _ _ => id)) (by have := hrow.slAt; rw [length_bytesOf] at this; exact this) (off_new HW.out.ge (Nat.le_refl _)) (by rw [length_bytesOf]; omega))
    have HBB := hide (HB1.out.trans (hB2'.mono HB1.out.size))
    clear hrow hB2' hs2
    go_wp2_with fail
    refine HA.out.mono ?_
    intro e w' hp
    have hq := hp.pre HBB.out HH.out.ge HH.out.hB
    obtain ⟨rfl, _⟩ := hp
    have HQ := hide hq
    clear hq
    go_wp2_with fail
    first | go_end0 | refine bodyPost_ret (results_none rfl _ _ _) rfl ?_
    rw [hfs.out]
    exact HQ.out
end Go.Proofs.YtjcdmffjpkckoaaDoor
