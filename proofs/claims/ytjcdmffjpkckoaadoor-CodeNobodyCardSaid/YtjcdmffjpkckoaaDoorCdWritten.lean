/- The law's own functions written and size. -/
import Derived.Test.YtjcdmffjpkckoaaDoorCdWrite
namespace Go.Proofs.YtjcdmffjpkckoaaDoor
open Go.RowKit

/-- Fields' bytes, one behind the other. -/
def fieldsS (l : List Fld) : List Int := (l.map fieldS).flatten
theorem fieldsS_succ (l : List Fld) (k : Nat) (h : k < l.length) : fieldsS (l.take (k + 1)) = fieldsS (l.take k) ++ fieldS (l.getD k default) := by
  rw [List.take_succ_eq_append_getElem h, fieldsS, List.map_append, List.flatten_append]
  simp [fieldsS, List.getD, h]
theorem fieldsS_take_le (l : List Fld) (k : Nat) : (fieldsS (l.take k)).length ≤ (fieldsS l).length := by
  conv => rhs; rw [← List.take_append_drop k l]
  rw [fieldsS, fieldsS, List.map_append, List.flatten_append, List.length_append]
  omega
theorem fieldsS_cnt (l : List Fld) : (fieldsS l).length + l.length ≤ 100 * cnt l := by
  induction l with
  | nil => simp [fieldsS, cnt]
  | cons f l ih =>
    have := fieldS_len f
    simp only [fieldsS, cnt, List.map_cons, List.flatten_cons, List.length_append, List.sum_cons, List.length_cons] at ih ⊢
    omega
theorem size_in (l : List Fld) (f : Fld) (h : f ∈ l) : f.s.size < 50 * cnt l := by
  induction l with
  | nil => cases h
  | cons x l ih =>
    simp only [cnt, List.map_cons, List.sum_cons] at ih ⊢
    rcases List.mem_cons.1 h with rfl | h
    · omega
    · have := ih h
      omega

set_option maxRecDepth 100000 in
set_option maxHeartbeats 1000000 in
theorem written_any (l : List Fld) (sv : Value) (w : World) (ht : Tab w) (h : FAt w sv l) (hl : ∀ f ∈ l, f.ok) (hb : (fieldsS l).length ≤ 100000000) (hs : ∀ f ∈ l, f.s.size ≤ 100000000) (hn : l.length ≤ 100000000) :
    Calls Tryd.prog 35 #[sv] w (fun e w' => ∃ v, e = .returned v ∧ Row w' w.heap.size v (fieldsS l) ∧ Below w.heap.size w w') := by
  obtain ⟨ao, cap, rfl⟩ := h.len
  have HF := hide h
  have HL := hide hl
  have HS := hide hs
  have HT := hide ht
  have h2 := ht.two
  obtain ⟨n, hnn⟩ : ∃ n, n = l.length := ⟨_, rfl⟩
  have HN := hide hnn
  rw [← hnn] at HF hn ⊢
  clear h hl hnn hs ht
  go_enter Tryd.func35, Tryd.ntmps35
  go_wp2_with fail
  refine (newWriter_iv w).mono ?_
  rintro e w1 ⟨g, rfl, hB, hW⟩
  have HW1 := hide hW
  have HB1 := hide hB
  clear hW hB
  go_wp2_with fail
  go_loopw [4] (fun i wr => ∃ k : Nat, k ≤ n ∧ i = .int .i64 k ∧ Hid (Below w.heap.size w wr) ∧ Hid (Wr wr w.heap.size (iv w.heap.size wr.heap.size) g (fieldsS (l.take k))))
      (fun i _ => n - (intOf i).toNat)
  case atStart => exact ⟨0, by omega, rfl, HB1, HW1⟩
  case round =>
    obtain ⟨k, hk, rfl, hB, hW⟩ := hrel
    by_cases hlt : k < n
    · obtain ⟨b, o, rfl, hbb, c0, c1, c2, c3, c4⟩ := (HF.out.below hB.out).at hlt
      have hkl : k < l.length := by rw [← HN.out]; exact hlt
      have hmem : l.getD k default ∈ l := by simp [List.getD, hkl]
      have hle := fieldsS_take_le l k
      have hsz := HS.out _ hmem
      have HA := hide (write_any (l.getD k default) (HL.out _ hmem) wr w.heap.size (iv w.heap.size wr.heap.size) g _ (HT.out.below hB.out h2) h2 hW.out (by omega))
      have HX := hide (fieldsS_succ l k hkl)
      clear hmem hle hsz hkl
      generalize l.getD k default = f at c0 c1 c2 c3 c4 HA HX
      unfold Fld.val at HA
      have hB' := hB.out.size
      clear HB1 HW1
      go_wp2_with fail
      refine HA.out.mono ?_
      intro e w2 hp
      obtain ⟨rfl, hs2, hK, hN2⟩ := hp.iv rfl hB'
      have HB2 := hide (hK.through hB.out (fun j hj => hj.1) hB')
      have HW2 := hide hN2
      rw [← HX.out] at HW2
      clear hK hN2 hp hs2
      go_wp2_with fail
      go_roundw
      case rel => exact ⟨k + 1, by omega, by go_num, HB2, HW2⟩
      case measure => simp [intOf]; omega
    · obtain rfl : k = n := by omega
      rw [HN.out, List.take_length] at hW
      have HBY := hide (bytes_any wr _ _ _ _ hW.out (by omega))
      have HB := hide hB.out.size
      go_wp2_with fail
      refine HBY.out.mono ?_
      rintro e w2 ⟨v, rfl, hr, hB2⟩
      have HR := hide (hr.base HB.out)
      have HB3 := hide (hB.out.trans (hB2.mono HB.out))
      obtain ⟨ao', cap', rfl⟩ := hr.slAt.len
      clear hr hB2
      go_wp2_with fail
      go_ret
      exact ⟨_, rfl, HR.out, HB3.out⟩

set_option maxRecDepth 100000 in
set_option maxHeartbeats 1000000 in
theorem size_any (f : Fld) (hf : f.ok) (hs : f.s.size ≤ 100000000) (w : World) (ht : Tab w) :
    Calls Tryd.prog 36 #[f.val] w (fun e w' => e = .returned (.int .i64 (fieldS f).length) ∧ Below w.heap.size w w') := by
  have HF := hide hf
  have HT := hide ht
  have h2 := ht.two
  have hrow := heap_alloc_new w (.cells f.cells.toArray 32)
  have hB0 : Below w.heap.size w (w.alloc (.cells f.cells.toArray 32)) := (Below.refl _ _).alloc (Nat.le_refl _) _
  have HNW := hide (newWriter_iv (w.alloc (.cells f.cells.toArray 32)))
  have HB0 := hide hB0
  have HV : Hid (∀ W g xs, Tab W → Wr W (w.heap.size + 1) (iv (w.heap.size + 1) W.heap.size) g xs → xs.length = 0 → Calls Tryd.prog 14 #[.pointer (some ⟨g, 0, none⟩), f.val] W (WrPost W (w.heap.size + 1) (iv (w.heap.size + 1) W.heap.size) g (xs ++ fieldS f))) := hide (fun W g xs ht h hx => write_any f hf W _ _ g xs ht (by omega) h (by omega))
  have hlen := fieldS_len f
  have hFL : Hid ((fieldS f).length ≤ 100000010) := hide (by omega)
  clear hf ht hB0 hs hlen
  unfold Fld.val at *
  go_enter Tryd.func36, Tryd.ntmps36
  go_wp2_with fail
  refine HNW.out.mono ?_
  rintro e w1 ⟨g, rfl, hB, hW⟩
  rw [show (w.alloc (.cells f.cells.toArray 32)).heap.size = w.heap.size + 1 by simp] at hB hW
  have hrow1 : w1.heap[w.heap.size]? = some (.cells f.cells.toArray 32 (0, 0)) := (hB.block _ (by omega)).trans hrow
  have c0 : w1.cell? ⟨w.heap.size, 0, none⟩ = some (.int .i64 f.kind) := (cell_of_row w1 _ 0 _ _ _ hrow1).trans rfl
  have c1 : w1.cell? ⟨w.heap.size, 1, none⟩ = some (.int .i64 f.most) := (cell_of_row w1 _ 1 _ _ _ hrow1).trans rfl
  have c2 : w1.cell? ⟨w.heap.size, 2, none⟩ = some (.int .i64 f.more) := (cell_of_row w1 _ 2 _ _ _ hrow1).trans rfl
  have c3 : w1.cell? ⟨w.heap.size, 3, none⟩ = some (.int .u64 (f.n : Nat)) := (cell_of_row w1 _ 3 _ _ _ hrow1).trans rfl
  have c4 : w1.cell? ⟨w.heap.size, 4, none⟩ = some (.string f.s) := (cell_of_row w1 _ 4 _ _ _ hrow1).trans rfl
  have hB1 : Below w.heap.size w w1 := HB0.out.trans (hB.mono (by omega))
  have hsz1 : w.heap.size + 1 ≤ w1.heap.size := by have := hB.size; simp at this; omega
  have HB1 := hide hB1
  have HA := hide (HV.out w1 g [] (HT.out.below hB1 h2) hW rfl)
  clear hB hW hrow1 hrow HNW HB0 HV hB1
  go_wp2_with fail
  refine HA.out.mono ?_
  intro e w2 hp
  obtain ⟨rfl, hs2, hK, hN2⟩ := hp.iv rfl hsz1
  rw [List.nil_append] at hN2
  have HB2 := hide (hK.through HB1.out (fun j hj => Nat.le_trans (Nat.le_succ _) hj.1) (by omega))
  have HBY := hide (bytes_any w2 _ _ _ _ hN2 (by have := hFL.out; omega))
  have hle2 : w.heap.size ≤ w2.heap.size := by omega
  clear hK hN2 hp hs2 HA
  go_wp2_with fail
  refine HBY.out.mono ?_
  rintro e w3 ⟨v, rfl, hr, hB3⟩
  have HB3 := hide (HB2.out.trans (hB3.mono hle2))
  obtain ⟨ao', cap', rfl⟩ := hr.slAt.len
  clear hr hB3
  go_wp2_with fail
  go_ret
  exact ⟨rfl, HB3.out⟩
end Go.Proofs.YtjcdmffjpkckoaaDoor
