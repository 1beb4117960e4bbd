/- Names: the bytes that they may have (an array filled by a range over a text), MayName. -/
import Derived.Test.YtilefgmlnmpeoaaDoorHdHead
import Derived.Lib.AsciiSet
import Derived.Deep.WholeRow
import Derived.Laws.ResultCell
import Derived.Lib.OthersKept
import Derived.Deep.LoopGhost
import Derived.Laws.Strings3
namespace Go.Proofs.YtilefgmlnmpeoaaDoor
open Go.RowKit Go.Lib

def NL : List UInt8 := [97, 98, 99, 100, 101, 102, 103, 104, 105, 106, 107, 108, 109, 110, 111, 112, 113, 114, 115, 116, 117, 118, 119, 120, 121, 122, 48, 49, 50, 51, 52, 53, 54, 55, 56, 57, 33, 35, 36, 37, 38, 39, 42, 43, 45, 46, 94, 95, 96, 124, 126]
def NS : ByteArray := ⟨#[97, 98, 99, 100, 101, 102, 103, 104, 105, 106, 107, 108, 109, 110, 111, 112, 113, 114, 115, 116, 117, 118, 119, 120, 121, 122, 48, 49, 50, 51, 52, 53, 54, 55, 56, 57, 33, 35, 36, 37, 38, 39, 42, 43, 45, 46, 94, 95, 96, 124, 126]⟩
theorem NS_list : NS.data.toList = NL := rfl
theorem NS_size : NS.size = 51 := rfl
theorem NL_tok (c : UInt8) : NL.contains c = tokB c := by
  exact all_u8 (P := fun c => NL.contains c = tokB c) (by decide +kernel) c
theorem NL_low : ∀ k : Fin 51, (Utf8.decode NS k.val) = ((NL.getD k.val 0).toNat, 1) ∧ (NL.getD k.val 0).toNat < 256 ∧ Lib.setCells (NL.take (k.val + 1)) = (Lib.setCells (NL.take k.val)).setIfInBounds (NL.getD k.val 0).toNat (.bool true) := by
  intro k
  have h := k.isLt
  have hl : k.val < NL.length := h
  have e1 : NL.take (k.val + 1) = NL.take k.val ++ [NL.getD k.val 0] := by
    rw [List.take_add_one, List.getElem?_eq_getElem hl]
    simp [List.getD, hl]
  refine ⟨?_, UInt8.toNat_lt _, by rw [e1, Lib.setCells_snoc]⟩
  have h2 : k.val < NS.size := h
  have hb : ∀ j : Fin 51, (NS[j.val]'(j.isLt)).toNat < 128 ∧ NS[j.val]'(j.isLt) = NL.getD j.val 0 := by decide +kernel
  rw [decode_ascii NS k.val h2 (hb k).1]
  exact congrArg (fun x : UInt8 => (x.toNat, 1)) (hb k).2

set_option maxRecDepth 100000 in
set_option maxHeartbeats 1000000 in
theorem inNames_any (w : World) : Calls Tryd.prog 32 #[] w (fun e w' => e = .returned (.agg (Lib.setCells NL)) ∧ Below w.heap.size w w') := by
  have hv := (zero_of_info (P := Tryd.prog) (t := 57) (v := .agg (Array.replicate 256 (.bool false))) (n := 256) (by kernel_rfl)).1
  go_enter Tryd.func32, Tryd.ntmps32
  go_wp2_with fail
  go_loopw [3] (fun _ wr => ∃ k : Nat, k ≤ 51 ∧ wr.heap[w.heap.size + 1 + 1]? = some (.stringIter NS k) ∧ HidL (wr.heap[w.heap.size + 1]? = some (.cells (Lib.setCells (NL.take k)) 57 (0, 0))) ∧ HidL (wr.heap[w.heap.size]? = some (.cells (Array.replicate 256 (.bool false)) 57 (0, 0))) ∧ HidL (Below w.heap.size w wr)) (fun _ wr => 51 - wr.iterPos (w.heap.size + 1 + 1))
  case atStart =>
    obtain ⟨Z, hZ⟩ : ∃ Z, Obj.cells (Array.replicate 256 (Value.bool false)) 57 = Z := ⟨_, rfl⟩
    rw [hZ]
    have e1 : (w.alloc Z).heap.size = w.heap.size + 1 := by simp
    have e2 : ((w.alloc Z).alloc Z).heap.size = w.heap.size + 1 + 1 := by simp
    have h1 := heap_alloc_new (w.alloc Z) Z
    have h3 := heap_alloc_old ((w.alloc Z).alloc Z) (.stringIter NS 0) (r := w.heap.size + 1) (by rw [e2]; omega)
    have h4 := heap_alloc_old ((w.alloc Z).alloc Z) (.stringIter NS 0) (r := w.heap.size) (by rw [e2]; omega)
    have h5 := heap_alloc_new ((w.alloc Z).alloc Z) (.stringIter NS 0)
    have h6 := heap_alloc2_old w Z Z
    rw [e1] at h1
    rw [e2] at h5
    refine ⟨0, Nat.zero_le _, h5, ⟨h3.trans (h1.trans (congrArg some hZ.symm))⟩, ⟨h4.trans h6⟩, ⟨?_⟩⟩
    exact (((Below.refl w.heap.size w).alloc (Nat.le_refl _) Z).alloc (by simp) Z).alloc (by rw [e2]; omega) _
  case round =>
    obtain ⟨k, hk, hit, HC, HR, HB⟩ := hrel
    obtain ⟨W, rfl⟩ : ∃ W, W = wr := ⟨_, rfl⟩
    by_cases hlt : k < 51
    · obtain ⟨hd, hc256, hset⟩ := NL_low ⟨k, hlt⟩
      have hnx : ∀ ty, (Instr.next (.pointer (some ⟨w.heap.size + 1 + 1, 0, none⟩)) true ty).run Tryd.prog W = _ := fun ty => Lib.run_next_any_at W (w.heap.size + 1 + 1) NS k ty hit (by rw [NS_size]; exact hlt)
      simp only [hd] at hnx
      simp only at hc256 hset
      obtain ⟨c, hc⟩ : ∃ c, (NL.getD k 0).toNat = c := ⟨_, rfl⟩
      rw [hc] at hnx hset hc256
      clear hc hd
      have HP : HidL (W.iterPos (w.heap.size + 1 + 1) = k) := ⟨by simp only [World.iterPos, hit]⟩
      have hit2 := Lib.iterAt_heap W (w.heap.size + 1 + 1) NS k (k + 1) hit
      have ho := fun j hj => Lib.iterAt_other W (w.heap.size + 1 + 1) j NS (k + 1) hj
      have HB2 := hideL (Lib.below_iterAt HB.out (k := w.heap.size + 1 + 1) (by omega) NS (k + 1))
      have HC2 := hideL ((ho (w.heap.size + 1) (by omega)).trans HC.out)
      have HR2 := hideL ((ho w.heap.size (by omega)).trans HR.out)
      obtain ⟨W2, hW2⟩ : ∃ W2, W.iterAt (w.heap.size + 1 + 1) NS (k + 1) = W2 := ⟨_, rfl⟩
      rw [hW2] at hnx hit2 HB2 HC2 HR2
      clear hW2 ho hit HB HC HR
      have HI := hideL hit2
      clear hit2
      have hsz : c < (Lib.setCells (NL.take k)).size := by rw [Lib.setCells_size]; exact hc256
      have hcell : W2.cell? ⟨w.heap.size + 1, c, none⟩ = some ((Lib.setCells (NL.take k))[c]'hsz) := by
        rw [cell_of_row W2 (w.heap.size + 1) c _ _ _ HC2.out, Array.getElem?_eq_getElem hsz]
      generalize (Lib.setCells (NL.take k))[c]'hsz = old at hcell
      have hfz := frozen_of_row W2 (w.heap.size + 1) c _ _ HC2.out
      have hi1 : (c : Int) < 256 := by omega
      have HS := hideL hset
      clear hset hsz
      have HC3 := hideL (heap_setCell_same W2 (w.heap.size + 1) c _ _ (.bool true) HC2.out)
      rw [← HS.out] at HC3
      have HO := fun j hj => heap_setCell_other W2 ⟨w.heap.size + 1, c, none⟩ j (.bool true) hj
      have HR3 := hideL ((HO w.heap.size (by simp)).trans HR2.out)
      have HI3 := hideL ((HO (w.heap.size + 1 + 1) (by simp)).trans HI.out)
      have HB3 := hideL (HB2.out.setCell (p := ⟨w.heap.size + 1, c, none⟩) (Nat.le_succ _) (.bool true))
      have hpos : W.iterPos (w.heap.size + 1 + 1) = k := HP.out
      clear HO HC2 HR2 HB2 HI HS HP
      go_wp2_with fail
      go_roundw
      case rel => exact ⟨k + 1, by omega, HI3.out, HC3, HR3, HB3⟩
      case measure => rw [hpos]; simp only [World.iterPos, HI3.out]; omega
    · obtain rfl : k = 51 := by omega
      have hnx : ∀ ty, (Instr.next (.pointer (some ⟨w.heap.size + 1 + 1, 0, none⟩)) true ty).run Tryd.prog W = _ := fun ty => Lib.run_next_end_at W (w.heap.size + 1 + 1) NS 51 ty hit (by rw [NS_size]; omega)
      rw [show NL.take 51 = NL from rfl] at HC
      have HZ := hideL (Lib.setCells_size NL)
      have HO1 := hideL (Lib.setCells_one NL)
      obtain ⟨C, hC⟩ : ∃ C, Lib.setCells NL = C := ⟨_, rfl⟩
      rw [hC] at HC HZ HO1
      have hC' := hideL hC
      have hsz1 : HidL ((Tryd.prog.info? 57).map (·.size) = some C.size) := ⟨by rw [HZ.out]; kernel_rfl⟩
      have hsz2 : HidL ((Array.replicate 256 (Value.bool false)).size = C.size) := ⟨by rw [HZ.out, Array.size_replicate]⟩
      clear hC
      go_wp2_with (first
        | (with_reducible refine wpList_load_row rfl 57 (.tmp 1) rfl (w.heap.size + 1) rfl _ _ (0, 0) _ HC.out Tryd.underlying57 rfl hsz1.out ?_)
        | (with_reducible refine wpList_store_row rfl 57 (.tmp 0) (.tmp 10) rfl w.heap.size C rfl rfl _ _ HR.out hsz1.out hsz2.out HO1.out ?_))
      refine bodyPost_ret (v := .agg C) (results_cell_row rfl _ _ w.heap.size 57 C (0, 0) _ rfl (setRow_heap _ _ _ _ _ _ HR.out) Tryd.underlying57 rfl hsz1.out) rfl ⟨by rw [hC'.out], ?_⟩
      exact below_setRow HB.out (Nat.le_refl _) _
set_option maxRecDepth 100000 in
set_option maxHeartbeats 1000000 in
theorem mayName_any (s : ByteArray) (w : World) : Calls Tryd.prog 11 #[.string s] w (fun e w' => e = .returned (.bool (nameP s.data.toList)) ∧ Below w.heap.size w w') := by
  have hlen := size_list s
  by_cases h0 : s = ⟨#[]⟩
  · subst h0
    go_enter Tryd.func11, Tryd.ntmps11
    go_wp2_with fail
    go_ret
    exact ⟨rfl, Below.refl _ _⟩
  have he : (s.toList == ([] : List UInt8)) = false := by
    have := eqs_false h0
    rwa [show (⟨#[]⟩ : ByteArray).toList = [] from by rw [ByteArray.toList_eq]] at this
  have h1 : 1 ≤ s.size := by
    rcases Nat.eq_zero_or_pos s.size with h | h
    · exact absurd (bytes_ext (List.length_eq_zero_iff.1 (by rw [hlen]; exact h))) h0
    · exact h
  by_cases h2 : 64 < s.size
  · have hR : nameP s.data.toList = false := by
      unfold nameP
      rw [decide_eq_false (by omega), Bool.false_and]
    rw [hR]
    have h2' : (64 : Int) < (s.size : Int) := by omega
    clear hR hlen h0
    go_enter Tryd.func11, Tryd.ntmps11
    go_wp2_with fail
    go_ret
    exact ⟨rfl, Below.refl _ _⟩
  have h2' : ¬ (64 : Int) < (s.size : Int) := by omega
  obtain ⟨V, hV⟩ : ∃ V, s.data.toList.all tokB = V := ⟨_, rfl⟩
  have hR : nameP s.data.toList = V := by
    unfold nameP
    rw [decide_eq_true (by omega), Bool.true_and, hV]
  rw [hR]
  have HV : HidL ((s.data.toList.drop 0).all tokB = V) := ⟨hV⟩
  have HL := hideL hlen
  clear hR hV hlen h0 h2
  have HI := hideL inNames_any
  have HZ := hideL (Lib.setCells_size NL)
  have HO1 := hideL (Lib.setCells_one NL)
  have HAT := hideL (fun c : UInt8 => (Lib.setCells_at NL c).trans (by rw [NL_tok]))
  obtain ⟨C, hC⟩ : ∃ C, Lib.setCells NL = C := ⟨_, rfl⟩
  rw [hC] at HI HZ HO1 HAT
  have hsz1 : HidL ((Tryd.prog.info? 57).map (·.size) = some C.size) := ⟨by rw [HZ.out]; kernel_rfl⟩
  have hsz2 : HidL ((Array.replicate 256 (Value.bool false)).size = C.size) := ⟨by rw [HZ.out, Array.size_replicate]⟩
  have hv := (zero_of_info (P := Tryd.prog) (t := 57) (v := .agg (Array.replicate 256 (.bool false))) (n := 256) (by kernel_rfl)).1
  clear hC
  go_enter Tryd.func11, Tryd.ntmps11
  go_wp2_with (first
    | (go_at_call 32; refine (HI.out _).mono ?_; rintro e w1 ⟨rfl, hB1⟩; have HB1 := hideL hB1; clear hB1)
    | (with_reducible refine wpList_store_row rfl 57 (.tmp 3) (.tmp 12) rfl w1.heap.size C rfl rfl _ _ (heap_alloc_new _ _) hsz1.out hsz2.out HO1.out ?_))
  have hW2 : ∃ W2, W2 = (w1.alloc (.cells (Array.replicate 256 (Value.bool false)) 57)).setRow w1.heap.size C := ⟨_, rfl⟩
  obtain ⟨W2, hW2⟩ := hW2
  rw [← hW2]
  have HC := hideL (setRow_heap (w1.alloc (.cells (Array.replicate 256 (Value.bool false)) 57)) w1.heap.size _ C _ _ (heap_alloc_new w1 _))
  have HB2 := hideL (below_setRow (HB1.out.alloc HB1.out.size (.cells (Array.replicate 256 (Value.bool false)) 57)) HB1.out.size C)
  rw [← hW2] at HC HB2
  have HAC := hideL (fun c : UInt8 => (cell_of_row W2 w1.heap.size c.toNat _ _ _ HC.out).trans (HAT.out c))
  obtain ⟨g, hg⟩ : ∃ g, w1.heap.size = g := ⟨_, rfl⟩
  rw [hg] at HAC
  simp only [hg]
  obtain ⟨n, hn⟩ : ∃ n, s.size = n := ⟨_, rfl⟩
  rw [hn] at HL h2' ⊢
  clear hW2 HC hg HB1 HI hv h1 he HAT HZ HO1 hsz1 hsz2
  go_loopw [15] (fun i wr => ∃ k : Nat, k ≤ n ∧ i = .int .i64 k ∧ wr = W2 ∧ HidL ((s.data.toList.drop k).all tokB = V)) (fun i _ => n - (RowKit.intOf i).toNat)
  case atStart => exact ⟨0, Nat.zero_le _, rfl, rfl, HV⟩
  case round =>
    obtain ⟨k, hk, rfl, rfl, HD⟩ := hrel
    clear HV
    by_cases hlt : k < n
    · have hlt' : (k : Int) < (n : Int) := by omega
      have hks : k < s.size := by omega
      have hD := HD.out
      rw [byte_at s k hks, List.all_cons] at hD
      obtain ⟨c, hc⟩ : ∃ c, s[k] = c := ⟨_, rfl⟩
      rw [hc] at hD
      have hcell := HAC.out c
      have hu : (c.toNat : Int) < 256 := by have := c.toNat_lt; omega
      cases ht : tokB c
      · rw [ht, Bool.false_and] at hD
        rw [ht] at hcell
        subst hD
        clear HD
        go_wp2_with fail
        go_ret
        exact ⟨rfl, HB2.out⟩
      · rw [ht, Bool.true_and] at hD
        rw [ht] at hcell
        have HN := hideL hD
        clear hD HD
        go_wp2_with fail
        go_roundw
        case rel => exact ⟨k + 1, by omega, by go_num, trivial, HN⟩
        case measure => simp [RowKit.intOf]; omega
    · obtain rfl : k = n := by omega
      have hlt' : ¬ (k : Int) < (k : Int) := by omega
      have hD := HD.out
      rw [List.drop_of_length_le (by rw [HL.out]; omega)] at hD
      have hBt : V = true := hD.symm
      subst hBt
      go_wp2_with fail
      go_ret
      exact ⟨rfl, HB2.out⟩
end Go.Proofs.YtilefgmlnmpeoaaDoor
