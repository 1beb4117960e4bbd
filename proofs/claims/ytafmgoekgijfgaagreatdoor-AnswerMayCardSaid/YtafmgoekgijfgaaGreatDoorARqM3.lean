/- Names: the bytes that they may have (an array filled by a range over a text), MayName. Values: MayValue; a header, headers: mayOne, May; a header's line. A header in memory of its own. kept: the headers that any function value says stay, in memory of their own; the three function values of the package. The table of headers: All, Get, Add, Del. Small letters: the program's small, the document's Small: bytes of a text that are written to one by one. Read: a line as a header. May of headers: none that may not be, by a closure. -/
import Derived.Test.YtafmgoekgijfgaaGreatDoorARqM2
import Derived.Lib.AsciiSet
import Derived.Deep.WholeRow
import Derived.Laws.ResultCell
import Derived.Lib.OthersKept
import Derived.Deep.LoopGhost
import Derived.Laws.Strings3
import Derived.StillTactics
import Derived.Shelf.RegionOpen
import Derived.Lib.ConvBytes
namespace Go.Proofs.YtafmgoekgijfgaaGreatDoor
open Go.RowKit Go.Lib

def NL : List UInt8 := [97, 98, 99, 100, 101, 102, 103, 104, 105, 106, 107, 108, 109, 110, 111, 112, 113, 114, 115, 116, 117, 118, 119, 120, 121, 122, 48, 49, 50, 51, 52, 53, 54, 55, 56, 57, 33, 35, 36, 37, 38, 39, 42, 43, 45, 46, 94, 95, 96, 124, 126]
def NS : ByteArray := ⟨#[97, 98, 99, 100, 101, 102, 103, 104, 105, 106, 107, 108, 109, 110, 111, 112, 113, 114, 115, 116, 117, 118, 119, 120, 121, 122, 48, 49, 50, 51, 52, 53, 54, 55, 56, 57, 33, 35, 36, 37, 38, 39, 42, 43, 45, 46, 94, 95, 96, 124, 126]⟩
theorem NS_size : NS.size = 51 := rfl
theorem NL_tok (c : UInt8) : NL.contains c = tokB c := by
 exact all_u8 (P := fun c => NL.contains c = tokB c) (by decide +kernel) c
theorem NL_low : ∀ k : Fin 51, (Utf8.decode NS k.val) = ((NL.getD k.val 0).toNat, 1) ∧ (NL.getD k.val 0).toNat < 256 ∧ Lib.setCells (NL.take (k.val + 1)) = (Lib.setCells (NL.take k.val)).setIfInBounds (NL.getD k.val 0).toNat (.bool true) := by
 intro k
 have h := k.isLt
 have hl : k.val < NL.length := h
 have e1 : NL.take (k.val + 1) = NL.take k.val ++ [NL.getD k.val 0] := by
   rw [List.take_add_one, List.getElem?_eq_getElem hl]
   simp [List.getD, hl]
 refine ⟨?_, UInt8.toNat_lt _, by rw [e1, Lib.setCells_snoc]⟩
 have h2 : k.val < NS.size := h
 have hb : ∀ j : Fin 51, (NS[j.val]'(j.isLt)).toNat < 128 ∧ NS[j.val]'(j.isLt) = NL.getD j.val 0 := by decide +kernel
 rw [decode_ascii NS k.val h2 (hb k).1]
 exact congrArg (fun x : UInt8 => (x.toNat, 1)) (hb k).2

set_option maxRecDepth 100000 in
set_option maxHeartbeats 1000000 in
theorem inNames_any (w : World) : Calls Tryz.prog 182 #[] w (fun e w' => e = .returned (.agg (Lib.setCells NL)) ∧ Below w.heap.size w w') := by
 have hv := (zero_of_info (P := Tryz.prog) (t := 123) (v := .agg (Array.replicate 256 (.bool false))) (n := 256) (by kernel_rfl)).1
 go_enter Tryz.func182, Tryz.ntmps182
 go_wp2_with fail
 go_loopw [3] (fun _ wr => ∃ k : Nat, k ≤ 51 ∧ wr.heap[w.heap.size + 1 + 1]? = some (.stringIter NS k) ∧ HidL (wr.heap[w.heap.size + 1]? = some (.cells (Lib.setCells (NL.take k)) 123 (0, 0))) ∧ HidL (wr.heap[w.heap.size]? = some (.cells (Array.replicate 256 (.bool false)) 123 (0, 0))) ∧ HidL (Below w.heap.size w wr)) (fun _ wr => 51 - wr.iterPos (w.heap.size + 1 + 1))
 case atStart =>
   obtain ⟨Z, hZ⟩ : ∃ Z, Obj.cells (Array.replicate 256 (Value.bool false)) 123 = Z := ⟨_, rfl⟩
   rw [hZ]
   have e1 : (w.alloc Z).heap.size = w.heap.size + 1 := by simp
   have e2 : ((w.alloc Z).alloc Z).heap.size = w.heap.size + 1 + 1 := by simp
   have h1 := heap_alloc_new (w.alloc Z) Z
   have h3 := heap_alloc_old ((w.alloc Z).alloc Z) (.stringIter NS 0) (r := w.heap.size + 1) (by rw [e2]; omega)
   have h4 := heap_alloc_old ((w.alloc Z).alloc Z) (.stringIter NS 0) (r := w.heap.size) (by rw [e2]; omega)
   have h5 := heap_alloc_new ((w.alloc Z).alloc Z) (.stringIter NS 0)
   have h6 := heap_alloc2_old w Z Z
   rw [e1] at h1
   rw [e2] at h5
   refine ⟨0, Nat.zero_le _, h5, ⟨h3.trans (h1.trans (congrArg some hZ.symm))⟩, ⟨h4.trans h6⟩, ⟨?_⟩⟩
   exact (((Below.refl w.heap.size w).alloc (Nat.le_refl _) Z).alloc (by simp) Z).alloc (by rw [e2]; omega) _
 case round =>
   obtain ⟨k, hk, hit, HC, HR, HB⟩ := hrel
   obtain ⟨W, rfl⟩ : ∃ W, W = wr := ⟨_, rfl⟩
   by_cases hlt : k < 51
   · obtain ⟨hd, hc256, hset⟩ := NL_low ⟨k, hlt⟩
     have hnx : ∀ ty, (Instr.next (.pointer (some ⟨w.heap.size + 1 + 1, 0, none⟩)) true ty).run Tryz.prog W = _ := fun ty => Lib.run_next_any_at W (w.heap.size + 1 + 1) NS k ty hit (by rw [NS_size]; exact hlt)
     simp only [hd] at hnx
     simp only at hc256 hset
     obtain ⟨c, hc⟩ : ∃ c, (NL.getD k 0).toNat = c := ⟨_, rfl⟩
     rw [hc] at hnx hset hc256
     clear hc hd
     have HP : HidL (W.iterPos (w.heap.size + 1 + 1) = k) := ⟨by simp only [World.iterPos, hit]⟩
     have hit2 := Lib.iterAt_heap W (w.heap.size + 1 + 1) NS k (k + 1) hit
     have ho := fun j hj => Lib.iterAt_other W (w.heap.size + 1 + 1) j NS (k + 1) hj
     have HB2 := hideL (Lib.below_iterAt HB.out (k := w.heap.size + 1 + 1) (by omega) NS (k + 1))
     have HC2 := hideL ((ho (w.heap.size + 1) (by omega)).trans HC.out)
     have HR2 := hideL ((ho w.heap.size (by omega)).trans HR.out)
     obtain ⟨W2, hW2⟩ : ∃ W2, W.iterAt (w.heap.size + 1 + 1) NS (k + 1) = W2 := ⟨_, rfl⟩
     rw [hW2] at hnx hit2 HB2 HC2 HR2
     clear hW2 ho hit HB HC HR
     have HI := hideL hit2
     clear hit2
     have hsz : c < (Lib.setCells (NL.take k)).size := by rw [Lib.setCells_size]; exact hc256
     have hcell : W2.cell? ⟨w.heap.size + 1, c, none⟩ = some ((Lib.setCells (NL.take k))[c]'hsz) := by
       rw [cell_of_row W2 (w.heap.size + 1) c _ _ _ HC2.out, Array.getElem?_eq_getElem hsz]
     generalize (Lib.setCells (NL.take k))[c]'hsz = old at hcell
     have hfz := frozen_of_row W2 (w.heap.size + 1) c _ _ HC2.out
     have hi1 : (c : Int) < 256 := by omega
     have HS := hideL hset
     clear hset hsz
     have HC3 := hideL (heap_setCell_same W2 (w.heap.size + 1) c _ _ (.bool true) HC2.out)
     rw [← HS.out] at HC3
     have HO := fun j hj => heap_setCell_other W2 ⟨w.heap.size + 1, c, none⟩ j (.bool true) hj
     have HR3 := hideL ((HO w.heap.size (by simp)).trans HR2.out)
     have HI3 := hideL ((HO (w.heap.size + 1 + 1) (by simp)).trans HI.out)
     have HB3 := hideL (HB2.out.setCell (p := ⟨w.heap.size + 1, c, none⟩) (Nat.le_succ _) (.bool true))
     have hpos : W.iterPos (w.heap.size + 1 + 1) = k := HP.out
     clear HO HC2 HR2 HB2 HI HS HP
     go_wp2_with fail
     go_roundw
     case rel => exact ⟨k + 1, by omega, HI3.out, HC3, HR3, HB3⟩
     case measure => rw [hpos]; simp only [World.iterPos, HI3.out]; omega
   · obtain rfl : k = 51 := by omega
     have hnx : ∀ ty, (Instr.next (.pointer (some ⟨w.heap.size + 1 + 1, 0, none⟩)) true ty).run Tryz.prog W = _ := fun ty => Lib.run_next_end_at W (w.heap.size + 1 + 1) NS 51 ty hit (by rw [NS_size]; omega)
     rw [show NL.take 51 = NL from rfl] at HC
     have HZ := hideL (Lib.setCells_size NL)
     have HO1 := hideL (Lib.setCells_one NL)
     obtain ⟨C, hC⟩ : ∃ C, Lib.setCells NL = C := ⟨_, rfl⟩
     rw [hC] at HC HZ HO1
     have hC' := hideL hC
     have hsz1 : HidL ((Tryz.prog.info? 123).map (·.size) = some C.size) := ⟨by rw [HZ.out]; kernel_rfl⟩
     have hsz2 : HidL ((Array.replicate 256 (Value.bool false)).size = C.size) := ⟨by rw [HZ.out, Array.size_replicate]⟩
     clear hC
     go_wp2_with (first
       | (with_reducible refine wpList_load_row rfl 123 (.tmp 1) rfl (w.heap.size + 1) rfl _ _ (0, 0) _ HC.out Tryz.underlying123 rfl hsz1.out ?_)
       | (with_reducible refine wpList_store_row rfl 123 (.tmp 0) (.tmp 10) rfl w.heap.size C rfl rfl _ _ HR.out hsz1.out hsz2.out HO1.out ?_))
     refine bodyPost_ret (v := .agg C) (results_cell_row rfl _ _ w.heap.size 123 C (0, 0) _ rfl (setRow_heap _ _ _ _ _ _ HR.out) Tryz.underlying123 rfl hsz1.out) rfl ⟨by rw [hC'.out], ?_⟩
     exact below_setRow HB.out (Nat.le_refl _) _
set_option maxRecDepth 100000 in
set_option maxHeartbeats 1000000 in
theorem mayName_any (s : ByteArray) (w : World) : Calls Tryz.prog 137 #[.string s] w (fun e w' => e = .returned (.bool (nameP s.data.toList)) ∧ Below w.heap.size w w') := by
 have hlen := size_list s
 by_cases h0 : s = ⟨#[]⟩
 · subst h0
   go_enter Tryz.func137, Tryz.ntmps137
   go_wp2_with fail
   go_ret
   exact ⟨rfl, Below.refl _ _⟩
 have he : (s.toList == ([] : List UInt8)) = false := by
   have := eqs_false h0
   rwa [show (⟨#[]⟩ : ByteArray).toList = [] from by rw [ByteArray.toList_eq]] at this
 have h1 : 1 ≤ s.size := by
   rcases Nat.eq_zero_or_pos s.size with h | h
   · exact absurd (bytes_ext (List.length_eq_zero_iff.1 (by rw [hlen]; exact h))) h0
   · exact h
 by_cases h2 : 64 < s.size
 · have hR : nameP s.data.toList = false := by
     unfold nameP
     rw [decide_eq_false (by omega), Bool.false_and]
   rw [hR]
   have h2' : (64 : Int) < (s.size : Int) := by omega
   clear hR hlen h0
   go_enter Tryz.func137, Tryz.ntmps137
   go_wp2_with fail
   go_ret
   exact ⟨rfl, Below.refl _ _⟩
 have h2' : ¬ (64 : Int) < (s.size : Int) := by omega
 obtain ⟨V, hV⟩ : ∃ V, s.data.toList.all tokB = V := ⟨_, rfl⟩
 have hR : nameP s.data.toList = V := by
   unfold nameP
   rw [decide_eq_true (by omega), Bool.true_and, hV]
 rw [hR]
 have HV : HidL ((s.data.toList.drop 0).all tokB = V) := ⟨hV⟩
 have HL := hideL hlen
 clear hR hV hlen h0 h2
 have HI := hideL inNames_any
 have HZ := hideL (Lib.setCells_size NL)
 have HO1 := hideL (Lib.setCells_one NL)
 have HAT := hideL (fun c : UInt8 => (Lib.setCells_at NL c).trans (by rw [NL_tok]))
 obtain ⟨C, hC⟩ : ∃ C, Lib.setCells NL = C := ⟨_, rfl⟩
 rw [hC] at HI HZ HO1 HAT
 have hsz1 : HidL ((Tryz.prog.info? 123).map (·.size) = some C.size) := ⟨by rw [HZ.out]; kernel_rfl⟩
 have hsz2 : HidL ((Array.replicate 256 (Value.bool false)).size = C.size) := ⟨by rw [HZ.out, Array.size_replicate]⟩
 have hv := (zero_of_info (P := Tryz.prog) (t := 123) (v := .agg (Array.replicate 256 (.bool false))) (n := 256) (by kernel_rfl)).1
 clear hC
 go_enter Tryz.func137, Tryz.ntmps137
 go_wp2_with (first
   | (go_at_call 182; refine (HI.out _).mono ?_; rintro e w1 ⟨rfl, hB1⟩; have HB1 := hideL hB1; clear hB1)
   | (with_reducible refine wpList_store_row rfl 123 (.tmp 3) (.tmp 12) rfl w1.heap.size C rfl rfl _ _ (heap_alloc_new _ _) hsz1.out hsz2.out HO1.out ?_))
 have hW2 : ∃ W2, W2 = (w1.alloc (.cells (Array.replicate 256 (Value.bool false)) 123)).setRow w1.heap.size C := ⟨_, rfl⟩
 obtain ⟨W2, hW2⟩ := hW2
 rw [← hW2]
 have HC := hideL (setRow_heap (w1.alloc (.cells (Array.replicate 256 (Value.bool false)) 123)) w1.heap.size _ C _ _ (heap_alloc_new w1 _))
 have HB2 := hideL (below_setRow (HB1.out.alloc HB1.out.size (.cells (Array.replicate 256 (Value.bool false)) 123)) HB1.out.size C)
 rw [← hW2] at HC HB2
 have HAC := hideL (fun c : UInt8 => (cell_of_row W2 w1.heap.size c.toNat _ _ _ HC.out).trans (HAT.out c))
 obtain ⟨g, hg⟩ : ∃ g, w1.heap.size = g := ⟨_, rfl⟩
 rw [hg] at HAC
 simp only [hg]
 obtain ⟨n, hn⟩ : ∃ n, s.size = n := ⟨_, rfl⟩
 rw [hn] at HL h2' ⊢
 clear hW2 HC hg HB1 HI hv h1 he HAT HZ HO1 hsz1 hsz2
 go_loopw [15] (fun i wr => ∃ k : Nat, k ≤ n ∧ i = .int .i64 k ∧ wr = W2 ∧ HidL ((s.data.toList.drop k).all tokB = V)) (fun i _ => n - (RowKit.intOf i).toNat)
 case atStart => exact ⟨0, Nat.zero_le _, rfl, rfl, HV⟩
 case round =>
   obtain ⟨k, hk, rfl, rfl, HD⟩ := hrel
   clear HV
   by_cases hlt : k < n
   · have hlt' : (k : Int) < (n : Int) := by omega
     have hks : k < s.size := by omega
     have hD := HD.out
     rw [byte_at s k hks, List.all_cons] at hD
     obtain ⟨c, hc⟩ : ∃ c, s[k] = c := ⟨_, rfl⟩
     rw [hc] at hD
     have hcell := HAC.out c
     have hu : (c.toNat : Int) < 256 := by have := c.toNat_lt; omega
     cases ht : tokB c
     · rw [ht, Bool.false_and] at hD
       rw [ht] at hcell
       subst hD
       clear HD
       go_wp2_with fail
       go_ret
       exact ⟨rfl, HB2.out⟩
     · rw [ht, Bool.true_and] at hD
       rw [ht] at hcell
       have HN := hideL hD
       clear hD HD
       go_wp2_with fail
       go_roundw
       case rel => exact ⟨k + 1, by omega, by go_num, trivial, HN⟩
       case measure => simp [RowKit.intOf]; omega
   · obtain rfl : k = n := by omega
     have hlt' : ¬ (k : Int) < (k : Int) := by omega
     have hD := HD.out
     rw [List.drop_of_length_le (by rw [HL.out]; omega)] at hD
     have hBt : V = true := hD.symm
     subst hBt
     go_wp2_with fail
     go_ret
     exact ⟨rfl, HB2.out⟩
end Go.Proofs.YtafmgoekgijfgaaGreatDoor
namespace Go.Proofs.YtafmgoekgijfgaaGreatDoor
open Go.RowKit Go.Lib

theorem ws_idx (c : UInt8) : decide (Lib.indexByte [32, 9] c < 0) = !wsB c := by
 have h : decide (Lib.indexByte [32, 9] c < 0) = !(([32, 9] : List UInt8).contains c) := by
   by_cases hc : c ∈ ([32, 9] : List UInt8)
   · rw [decide_eq_false (fun h => idx_iff.1 h hc), List.contains_iff_mem.2 hc]; rfl
   · rw [decide_eq_true (idx_iff.2 hc)]
     have : ([32, 9] : List UInt8).contains c = false := by
       rw [Bool.eq_false_iff]
       exact fun h => hc (List.contains_iff_mem.1 h)
     rw [this]; rfl
 rw [h]
 exact congrArg (fun f : UInt8 → Bool => !(f c)) ws_set
set_option maxRecDepth 100000 in
set_option maxHeartbeats 1000000 in
theorem mayValue_any (s : ByteArray) (hs : s.size ≤ 1000000) (w : World) : Calls Tryz.prog 138 #[.string s] w (fun e w' => e = .returned (.bool (valP s.data.toList)) ∧ Below w.heap.size w w') := by
 have hlen := size_list s
 by_cases h2 : 512 < s.size
 · have hR : valP s.data.toList = false := by
     unfold valP
     rw [decide_eq_false (by omega), Bool.false_and, Bool.false_and]
   rw [hR]
   have h2' : (512 : Int) < (s.size : Int) := by omega
   clear hR hlen
   go_enter Tryz.func138, Tryz.ntmps138
   go_wp2_with fail
   go_ret
   exact ⟨rfl, Below.refl _ _⟩
 have h2' : ¬ (512 : Int) < (s.size : Int) := by omega
 have LT := hideL (fun W => trim_any s (by omega) W)
 obtain ⟨V, hV⟩ : ∃ V, s.data.toList.all (fun c => wsB c || viB c) = V := ⟨_, rfl⟩
 have hR : valP s.data.toList = (V && decide (trimP s.data.toList = s.data.toList)) := by
   unfold valP
   rw [decide_eq_true (by omega), Bool.true_and, hV, trim_id]
 rw [hR]
 obtain ⟨T, hT⟩ : ∃ T, bo (trimP s.data.toList) = T := ⟨_, rfl⟩
 rw [hT] at LT
 by_cases hTs : T = s
 · have e1 : decide (trimP s.data.toList = s.data.toList) = true := decide_eq_true (by
     rw [hTs] at hT
     have := congrArg (fun x : ByteArray => x.data.toList) hT
     exact this)
   have he := eqs_true hTs
   rw [e1, Bool.and_true]
   have HV : HidL ((s.data.toList.drop 0).all (fun c => wsB c || viB c) = V) := ⟨hV⟩
   have HL := hideL hlen
   obtain ⟨n, hn⟩ : ∃ n, s.size = n := ⟨_, rfl⟩
   have HN := hideL hn
   clear hR e1 hT hTs hV hlen h2 hn
   have LI := hideL (fun (c : UInt8) (W : World) => indexByte_any ⟨#[32, 9]⟩ (c.toNat : Int) W)
   go_enter Tryz.func138, Tryz.ntmps138
   go_wp2_with (go_at_call 60; refine (LT.out _).mono ?_; rintro e w1 ⟨rfl, hB1⟩; have HB := hideL hB1; clear hB1)
   clear LT he
   go_loopw [16] (fun i wr => ∃ k : Nat, k ≤ n ∧ i = .int .i64 k ∧ wr = w1 ∧ HidL ((s.data.toList.drop k).all (fun c => wsB c || viB c) = V)) (fun i _ => n - (RowKit.intOf i).toNat)
   case atStart => exact ⟨0, Nat.zero_le _, rfl, rfl, HV⟩
   case round =>
     obtain ⟨k, hk, rfl, rfl, HD⟩ := hrel
     clear HV
     by_cases hlt : k < n
     · have hks : k < s.size := by rw [HN.out]; exact hlt
       have hlt' : (k : Int) < (s.size : Int) := by omega
       have hD := HD.out
       rw [byte_at s k hks, List.all_cons] at hD
       obtain ⟨c, hc⟩ : ∃ c, s[k] = c := ⟨_, rfl⟩
       rw [hc] at hD
       have hi := LI.out c
       rw [show ((c.toNat : Nat) : Int).toNat.toUInt8 = c from by simp] at hi
       have hix := ws_idx c
       generalize Lib.indexByte [32, 9] c = I at *
       have LJ := hideL hi
       clear hi
       cases hv : viB c
       · have hout : c.toNat < 33 ∨ (¬ c.toNat < 33 ∧ 126 < c.toNat) := by
           have := of_decide_eq_false hv
           omega
         rw [hv, Bool.or_false] at hD
         cases hw : wsB c
         · rw [hw, Bool.false_and] at hD
           subst hD
           rw [hw] at hix
           have hI : I < 0 := of_decide_eq_true hix
           clear hix HD hv hw
           rcases hout with h3 | ⟨h3, h4⟩
           · have h3' : (c.toNat : Int) < 33 := by omega
             go_wp2_with (go_at_call 183; refine (LJ.out _).mono ?_; rintro e w3 ⟨rfl, rfl⟩)
             go_ret
             exact ⟨rfl, HB.out⟩
           · have h3' : ¬ (c.toNat : Int) < 33 := by omega
             have h4' : (126 : Int) < (c.toNat : Int) := by omega
             go_wp2_with (go_at_call 183; refine (LJ.out _).mono ?_; rintro e w3 ⟨rfl, rfl⟩)
             go_ret
             exact ⟨rfl, HB.out⟩
         · rw [hw, Bool.true_and] at hD
           rw [hw] at hix
           have hI : ¬ I < 0 := of_decide_eq_false hix
           have HX := hideL hD
           clear hix HD hv hw hD
           rcases hout with h3 | ⟨h3, h4⟩
           · have h3' : (c.toNat : Int) < 33 := by omega
             go_wp2_with (go_at_call 183; refine (LJ.out _).mono ?_; rintro e w3 ⟨rfl, rfl⟩)
             go_roundw
             case rel => exact ⟨k + 1, by omega, by go_num, trivial, HX⟩
             case measure => simp [RowKit.intOf]; omega
           · have h3' : ¬ (c.toNat : Int) < 33 := by omega
             have h4' : (126 : Int) < (c.toNat : Int) := by omega
             go_wp2_with (go_at_call 183; refine (LJ.out _).mono ?_; rintro e w3 ⟨rfl, rfl⟩)
             go_roundw
             case rel => exact ⟨k + 1, by omega, by go_num, trivial, HX⟩
             case measure => simp [RowKit.intOf]; omega
       · have hin := of_decide_eq_true hv
         have h3' : ¬ (c.toNat : Int) < 33 := by omega
         have h4' : ¬ (126 : Int) < (c.toNat : Int) := by omega
         rw [hv, Bool.or_true, Bool.true_and] at hD
         have HX := hideL hD
         clear hix HD hv hD LJ hin
         go_wp2_with fail
         go_roundw
         case rel => exact ⟨k + 1, by omega, by go_num, trivial, HX⟩
         case measure => simp [RowKit.intOf]; omega
     · obtain rfl : k = n := by omega
       have hlt' : ¬ (k : Int) < (s.size : Int) := by have := HN.out; omega
       have hD := HD.out
       rw [List.drop_of_length_le (by rw [HL.out, HN.out]; omega)] at hD
       have hBt : V = true := hD.symm
       subst hBt
       clear HD hD
       go_wp2_with fail
       go_ret
       exact ⟨rfl, HB.out⟩
 · have e1 : decide (trimP s.data.toList = s.data.toList) = false := decide_eq_false (fun h => hTs (by rw [← hT, h, bo_of]))
   have he := eqs_false hTs
   rw [e1, Bool.and_false]
   clear hR e1 hT hTs hV hlen h2
   go_enter Tryz.func138, Tryz.ntmps138
   go_wp2_with (go_at_call 60; refine (LT.out _).mono ?_; rintro e w1 ⟨rfl, hB1⟩; have HB := hideL hB1; clear hB1)
   go_ret
   exact ⟨rfl, HB.out⟩

theorem goodP_eq (h : Hd) : goodP h = (nameP h.n.data.toList && valP h.v.data.toList) := rfl
set_option maxRecDepth 100000 in
theorem mayOne_any (h : Hd) (hf : h.n.size ≤ 1000000 ∧ h.v.size ≤ 1000000) (w : World) : Calls Tryz.prog 90 #[hdV h] w (fun e w' => e = .returned (.bool (goodP h)) ∧ Below w.heap.size w w') := by
 obtain ⟨n, v⟩ := h
 have LN := hideL (mayName_any n)
 have LV := hideL (mayValue_any v hf.2)
 rw [goodP_eq]
 simp only [hdV]
 clear hf
 generalize nameP n.data.toList = A at *
 generalize valP v.data.toList = B at *
 have HB := hideL ((Below.refl w.heap.size w).alloc (Nat.le_refl _) (.cells #[.string n, .string v] 83))
 have HX := hideL (HBox.new w n v)
 cases A
 · rw [Bool.false_and]
   go_enter Tryz.func90, Tryz.ntmps90
   go_wp2_with (go_at_call 137; refine (LN.out _).mono ?_; rintro e w2 ⟨rfl, hB2⟩)
   go_ret
   exact ⟨rfl, HB.out.trans (hB2.mono HB.out.size)⟩
 · rw [Bool.true_and]
   go_enter Tryz.func90, Tryz.ntmps90
   go_wp2_with (first
     | (go_at_call 137; refine (LN.out _).mono ?_; rintro e w2 ⟨rfl, hB2⟩; have c1 := (HX.out.next hB2).c1)
     | (go_at_call 138; refine (LV.out _).mono ?_; rintro e w3 ⟨rfl, hB3⟩))
   go_ret
   exact ⟨rfl, (HB.out.trans (hB2.mono HB.out.size)).trans (hB3.mono (Nat.le_trans HB.out.size hB2.size))⟩
set_option maxRecDepth 100000 in
theorem notMay_any (h : Hd) (hf : h.n.size ≤ 1000000 ∧ h.v.size ≤ 1000000) (w : World) : Calls Tryz.prog 136 #[hdV h] w (fun e w' => e = .returned (.bool !goodP h) ∧ Below w.heap.size w w') := by
 have LM := hideL (mayOne_any h hf)
 obtain ⟨n, v⟩ := h
 simp only [hdV] at LM ⊢
 clear hf
 generalize goodP ⟨n, v⟩ = A at *
 have HB := hideL ((Below.refl w.heap.size w).alloc (Nat.le_refl _) (.cells #[.string n, .string v] 83))
 go_enter Tryz.func136, Tryz.ntmps136
 go_wp2_with (go_at_call 90; refine (LM.out _).mono ?_; rintro e w2 ⟨rfl, hB2⟩)
 go_ret
 exact ⟨rfl, HB.out.trans (hB2.mono HB.out.size)⟩
/-- A header's line. -/
def lineP (h : Hd) : ByteArray := h.n ++ ⟨#[58, 32]⟩ ++ h.v
def lineV (h : Hd) : Value := if goodP h then .tuple #[.string (lineP h), .int .i64 0] else .tuple #[.string ⟨#[]⟩, .int .i64 1]
set_option maxRecDepth 100000 in
theorem line_any (h : Hd) (hf : h.n.size ≤ 1000000 ∧ h.v.size ≤ 1000000) (w : World) : Calls Tryz.prog 53 #[hdV h] w (fun e w' => e = .returned (lineV h) ∧ Below w.heap.size w w') := by
 have LM := hideL (mayOne_any h hf)
 obtain ⟨n, v⟩ := h
 unfold lineV lineP
 simp only [hdV] at LM ⊢
 generalize goodP ⟨n, v⟩ = A at *
 have HB := hideL ((Below.refl w.heap.size w).alloc (Nat.le_refl _) (.cells #[.string n, .string v] 83))
 have HX := hideL (HBox.new w n v)
 have a1 : ¬ 9223372036854775807 < n.size + 2 := by simp only at hf; omega
 have a2 : ¬ 9223372036854775807 < n.size + 2 + v.size := by simp only at hf; omega
 clear hf
 cases A
 · rw [if_neg (by decide)]
   go_enter Tryz.func53, Tryz.ntmps53
   go_wp2_with (go_at_call 90; refine (LM.out _).mono ?_; rintro e w2 ⟨rfl, hB2⟩)
   go_ret2
   exact ⟨rfl, HB.out.trans (hB2.mono HB.out.size)⟩
 · rw [if_pos rfl]
   go_enter Tryz.func53, Tryz.ntmps53
   go_wp2_with (go_at_call 90; refine (LM.out _).mono ?_; rintro e w2 ⟨rfl, hB2⟩; have c0 := (HX.out.next hB2).c0; have c1 := (HX.out.next hB2).c1)
   go_ret2
   exact ⟨rfl, HB.out.trans (hB2.mono HB.out.size)⟩
end Go.Proofs.YtafmgoekgijfgaaGreatDoor
namespace Go.Proofs.YtafmgoekgijfgaaGreatDoor
open Go.RowKit Go.Lib

set_option maxRecDepth 100000 in
set_option maxHeartbeats 400000 in
theorem own_any (a : Hd) (hf : a.n.size ≤ 1000000 ∧ a.v.size ≤ 1000000) (w : World) : Calls Tryz.prog 118 #[hdV a] w (fun e w' => e = .returned (hdV a) ∧ Below w.heap.size w w') := by
 obtain ⟨s, t⟩ := a
 have h1 : s.size ≤ 281474976710656 := by have := hf.1; simp only at this; omega
 have h2 : t.size ≤ 281474976710656 := by have := hf.2; simp only at this; omega
 clear hf
 simp only [hdV]
 have L1 := hideL (clone_any s h1)
 have L2 := hideL (clone_any t h2)
 have HB1 := (Below.refl w.heap.size w).alloc (Nat.le_refl _) (.cells #[.string s, .string t] 83)
 have HX := hideL ((HBox.new w s t).next ((Below.refl _ _).alloc (Nat.le_refl _) (.cells #[.string (⟨#[]⟩ : ByteArray), .string (⟨#[]⟩ : ByteArray)] 83))).drew
 have HY := HBox.new (w.alloc (.cells #[.string s, .string t] 83)) (⟨#[]⟩ : ByteArray) (⟨#[]⟩ : ByteArray)
 rw [World.size_alloc] at HY
 replace HY := hideL HY.drew
 have HB := hideL (HB1.alloc HB1.size (.cells #[.string (⟨#[]⟩ : ByteArray), .string (⟨#[]⟩ : ByteArray)] 83)).drew
 clear HB1
 go_enter Tryz.func118, Tryz.ntmps118
 go_wp2_with fail
 go_region_with (go_at_call 47; first
   | (with_reducible refine (L1.out _).mono ?_; rintro e w2 ⟨rfl, hB2⟩; have c0 := (HX.out.next hB2).c0; have c1 := (HX.out.next hB2).c1; have HX2 := hideL (HY.out.next hB2))
   | (with_reducible refine (L2.out _).mono ?_; rintro e w3 ⟨rfl, hB3⟩; have d0 := (HX2.out.next hB3).c0; have d1 := (HX2.out.next hB3).c1; have f0 := (HX2.out.next hB3).frozen 0; have f1 := (HX2.out.next hB3).frozen 1))
 all_goals
   go_wp2_with fail
   have HXF := hideL ((HX2.out.next hB3).st s t)
   have HBF := hideL (((HB.out.trans ((hB2.trans (hB3.mono hB2.size)).mono HB.out.size)).setCell (p := ⟨w.heap.size + 1, 0, none⟩) (by simp) (.string s)).setCell (p := ⟨w.heap.size + 1, 1, none⟩) (by simp) (.string t))
   clear c0 c1 d0 d1 f0 f1 hB2 hB3 HX2
   generalize (w3.setCell ⟨w.heap.size + 1, 0, none⟩ (.string s)).setCell ⟨w.heap.size + 1, 1, none⟩ (.string t) = WF at *
   have r0 := HXF.out.c0
   have r1 := HXF.out.c1
   exact bodyPost_ret (v := .agg #[.string s, .string t]) (by simp [results, Tryz.results118, go_sem, r0, r1]) rfl ⟨rfl, HBF.out⟩
end Go.Proofs.YtafmgoekgijfgaaGreatDoor
namespace Go.Proofs.YtafmgoekgijfgaaGreatDoor
open Go.RowKit Go.Lib

/-- What is asked of a function value that says which headers stay: paid from the world w on. -/
def PredH (g : Nat) (lb : Array Value) (p : Hd → Bool) (w : World) : Prop :=
 ∀ (W : World) (h : Hd), h.n.size ≤ 1000000 ∧ h.v.size ≤ 1000000 → Below w.heap.size w W → Calls Tryz.prog g (#[hdV h] ++ lb) W (fun e w' => e = .returned (.bool (p h)) ∧ Below W.heap.size W w')
set_option maxRecDepth 100000 in
set_option maxHeartbeats 1000000 in
theorem kept_any (g : Nat) (lb : Array Value) (eg : ∀ args w, (callFunc g args).run Tryz.prog w = .ok (.enter g args) w) (p : Hd → Bool) (v : Value) (l : List Hd) (w : World) (hv : GAt KH w v l) (hf : Fits l) (hl : l.length ≤ 1000) (hp : PredH g lb p w) :
   Calls Tryz.prog 73 #[v, .func (.func g) #[] lb] w (fun e w' => ∃ r, e = .returned r ∧ GRow KH w' w.heap.size r (l.filter p) ∧ Below w.heap.size w w') := by
 have HF := hideL hf
 have HP := hideL hp
 obtain ⟨ao, cap, rfl⟩ := hv.len
 obtain ⟨n, hn⟩ : ∃ n, l.length = n := ⟨_, rfl⟩
 rw [hn] at hv hl ⊢
 have HN := hideL hn
 have HV := hideL hv
 clear hv hn hf hp
 go_enter Tryz.func73, Tryz.ntmps73
 go_wp2_with fail
 go_loopw [5, 10] (fun r i wr => ∃ k : Nat, k ≤ n ∧ i = .int .i64 k ∧ HidL (GRow KH wr w.heap.size r ((l.take k).filter p)) ∧ HidL (Below w.heap.size w wr)) (fun _ i _ => n - (RowKit.intOf i).toNat)
 case atStart => exact ⟨0, Nat.zero_le _, rfl, ⟨GRow.nil _ _⟩, ⟨Below.refl _ _⟩⟩
 case round =>
   obtain ⟨k, hk, rfl, HR, HB⟩ := hrel
   obtain ⟨W, rfl⟩ : ∃ W, W = wr := ⟨_, rfl⟩
   by_cases hlt : k < n
   · have hlt' : (k : Int) < (n : Int) := by omega
     obtain ⟨b, o, hao, hbl, hcell⟩ := HV.out.at (k := k) hlt
     subst hao
     have hkl : k < l.length := by rw [HN.out]; exact hlt
     have htk : l.take (k + 1) = l.take k ++ [l.getD k KH.dft] := by
       rw [List.take_add_one, List.getElem?_eq_getElem hkl]
       simp [List.getD, hkl]
     have hfit := HF.out.get hkl
     generalize l.getD k KH.dft = x at *
     have hfl : (l.take (k + 1)).filter p = (l.take k).filter p ++ (if p x then [x] else []) := by
       rw [htk, List.filter_append]
       congr 1
       cases hpx : p x <;> simp [hpx]
     have hlen : ((l.take k).filter p).length ≤ 1000 := Nat.le_trans (List.length_filter_le _ _) (by rw [List.length_take]; omega)
     have LC := hideL (fun (W : World) (hb : Below w.heap.size w W) => HP.out W x hfit hb)
     have LO := hideL (fun W => own_any x hfit W)
     generalize (l.take k).filter p = done at *
     have HFL := hideL hfl
     clear hfl htk
     obtain ⟨a, c⟩ := x
     simp only [hdV] at LC LO
     have d0 : W.cell? ⟨b, o + k * 2, none⟩ = some (.string a) := (HB.out.cell (p := ⟨b, o + k * 2, none⟩) hbl).trans (hcell 0 (by decide))
     have d1 : W.cell? ⟨b, o + k * 2 + 1, none⟩ = some (.string c) := (HB.out.cell (p := ⟨b, o + k * 2 + 1, none⟩) hbl).trans (hcell 1 (by decide))
     clear hcell hbl
     obtain ⟨y, hy⟩ : ∃ y, p ⟨a, c⟩ = y := ⟨_, rfl⟩
     rw [hy] at HFL LC
     clear hy
     have HBx := hideL ((Below.refl W.heap.size W).alloc (Nat.le_refl _) (.cells #[.string a, .string c] 83))
     have HX := hideL (HBox.new W a c)
     cases y
     · go_wp2_with (go_at_fn g; refine (LC.out _ (HB.out.trans (HBx.out.mono HB.out.size))).mono ?_; rintro e w2 ⟨rfl, hB2⟩)
       have HFN := HFL.out
       rw [if_neg (by decide), List.append_nil] at HFN
       go_roundw
       case rel =>
         refine ⟨k + 1, by omega, by go_num, ⟨?_⟩, ⟨HB.out.trans ((HBx.out.trans (hB2.mono HBx.out.size)).mono HB.out.size)⟩⟩
         rw [HFN]
         exact (HR.out.alloc _).below hB2
       case measure => simp [RowKit.intOf]; omega
     · go_wp2_with (first
         | (go_at_fn g; refine (LC.out _ (HB.out.trans (HBx.out.mono HB.out.size))).mono ?_; rintro e w2 ⟨rfl, hB2⟩; have c0 := (HX.out.next hB2).c0; have c1 := (HX.out.next hB2).c1; have HB2 := hideL hB2; clear hB2)
         | (go_at_call 118; refine (LO.out _).mono ?_; rintro e w3 ⟨rfl, hB3⟩
            have HB3 := hideL (HB.out.trans ((HBx.out.trans ((HB2.out.trans (hB3.mono HB2.out.size)).mono HBx.out.size)).mono HB.out.size))
            obtain ⟨v4, w4, hrun, hR4, hB4⟩ := push_h w3 w.heap.size u5 done (((HR.out.alloc _).below HB2.out).below hB3) ⟨a, c⟩ (by omega) HB3.out.size
            have HRUN := hideL hrun
            have HR4 := hideL hR4
            have HB4 := hideL (HB3.out.trans hB4)
            clear hrun hR4 hB4 hB3)
         | (at_builtin; refine wpList_append_runP rfl (.tmp 17) (.tmp 20) 24 24 24 rfl rfl _ _ v4 w4 rfl rfl HRUN.out ?_))
       have HFN := HFL.out
       rw [if_pos trivial] at HFN
       go_roundw
       case rel =>
         refine ⟨k + 1, by omega, by go_num, ⟨?_⟩, HB4⟩
         rw [HFN]
         exact HR4.out
       case measure => simp [RowKit.intOf]; omega
   · obtain rfl : k = n := by omega
     have hlt' : ¬ (k : Int) < (k : Int) := by omega
     have HR2 := HR.out
     rw [List.take_of_length_le (by rw [HN.out]; omega)] at HR2
     have HRX := hideL HR2
     clear HR HR2
     go_wp2_with fail
     go_ret
     exact ⟨_, rfl, HRX.out, HB.out⟩
theorem PredH.later {g : Nat} {lb : Array Value} {p : Hd → Bool} {w W : World} (h : PredH g lb p w) (hb : Below w.heap.size w W) : PredH g lb p W :=
 fun W' x hx hb' => h W' x hx (hb.trans (hb'.mono hb.size))
set_option maxRecDepth 100000 in
/-- The name that stands in a box. -/
theorem isName_pred (w : World) (b : Nat) (name : ByteArray) (hx : SBox w b name) : PredH 74 #[.pointer (some ⟨b, 0, none⟩)] (fun h => decide (h.n = name)) w := by
 intro W h _ hb
 obtain ⟨n, v⟩ := h
 have HB := hideL ((Below.refl W.heap.size W).alloc (Nat.le_refl _) (.cells #[.string n, .string v] 83))
 have hy : SBox W b name := hx.next hb
 have c0 := (hy.next HB.out).c0
 clear hx hy
 simp only [hdV]
 rw [← eqs_dec]
 show Calls Tryz.prog 74 #[.agg #[.string n, .string v], .pointer (some ⟨b, 0, none⟩)] W _
 generalize hE : (n.toList == name.toList) = E
 go_enter Tryz.func74, Tryz.ntmps74
 go_wp2_with fail
 go_ret
 exact ⟨rfl, HB.out⟩
set_option maxRecDepth 100000 in
theorem allStay_pred (w : World) : PredH 218 #[] (fun _ => true) w := by
 intro W h _ _
 obtain ⟨n, v⟩ := h
 have HB := hideL ((Below.refl W.heap.size W).alloc (Nat.le_refl _) (.cells #[.string n, .string v] 83))
 simp only [hdV]
 show Calls Tryz.prog 218 #[.agg #[.string n, .string v]] W _
 go_enter Tryz.func218, Tryz.ntmps218
 go_wp2_with fail
 go_ret
 exact ⟨rfl, HB.out⟩
end Go.Proofs.YtafmgoekgijfgaaGreatDoor
namespace Go.Proofs.YtafmgoekgijfgaaGreatDoor
open Go.RowKit Go.Lib

theorem filter_true (l : List Hd) : l.filter (fun _ => true) = l := by
 induction l with
 | nil => rfl
 | cons a l ih => rw [List.filter_cons_of_pos rfl, ih]
theorem eg_isName : ∀ args w, (callFunc 74 args).run Tryz.prog w = .ok (.enter 74 args) w := enters_of Tryz.func74 (by kernel_rfl) rfl
theorem eg_allStay : ∀ args w, (callFunc 218 args).run Tryz.prog w = .ok (.enter 218 args) w := enters_of Tryz.func218 (by kernel_rfl) rfl

set_option maxRecDepth 100000 in
set_option maxHeartbeats 1000000 in
theorem all_any (name : ByteArray) (v : Value) (l : List Hd) (w : World) (hv : GAt KH w v l) (hf : Fits l) (hl : l.length ≤ 1000) :
   Calls Tryz.prog 42 #[.string name, v] w (fun e w' => ∃ r, e = .returned r ∧ GRow KS w' w.heap.size r (allP name l) ∧ Below w.heap.size w w') := by
 have HB := hideL ((Below.refl w.heap.size w).alloc (Nat.le_refl _) (.cells #[.string name] 9))
 have LK := hideL (kept_any 74 #[.pointer (some ⟨w.heap.size, 0, none⟩)] eg_isName (fun h => decide (h.n = name)) v l _ (hv.below HB.out) hf hl (isName_pred _ _ name (SBox.new w name)))
 have hml : (l.filter fun h => decide (h.n = name)).length ≤ 1000 := Nat.le_trans (List.length_filter_le _ _) hl
 unfold allP
 obtain ⟨M, hM⟩ : ∃ M, (l.filter fun h => decide (h.n = name)) = M := ⟨_, rfl⟩
 rw [hM] at LK hml ⊢
 obtain ⟨ao, cap, rfl⟩ := hv.len
 clear hM hf hv
 go_enter Tryz.func42, Tryz.ntmps42
 go_wp2_with (go_at_call 73
              refine LK.out.mono ?_
              rintro e w1 ⟨r, rfl, hR, hB1⟩
              have HB1 := hideL (HB.out.trans (hB1.mono HB.out.size))
              have HG := hideL hR.gAt
              clear hB1 hR
              obtain ⟨ro, rn, rc, hr⟩ : ∃ ro rn rc, r = .slice ro rn rc := by
                obtain ⟨x, y, hx⟩ := HG.out.len
                exact ⟨x, _, y, hx⟩
              subst hr)
 obtain ⟨hrn, hrc⟩ := HG.out.le
 have HN : HidL (M.length = rn) := ⟨hrn.symm⟩
 have hml2 : rn ≤ 1000 := by omega
 clear LK hrn hrc hml hl
 go_loopw [5, 12] (fun r i wr => ∃ k : Nat, k ≤ rn ∧ i = .int .i64 k ∧ HidL (GRow KS wr w1.heap.size r ((M.take k).map (·.v))) ∧ HidL (Below w1.heap.size w1 wr)) (fun _ i _ => rn - (RowKit.intOf i).toNat)
 case atStart => exact ⟨0, Nat.zero_le _, rfl, ⟨GRow.nil _ _⟩, ⟨Below.refl _ _⟩⟩
 case round =>
   obtain ⟨k, hk, rfl, HR, HB3⟩ := hrel
   obtain ⟨W, rfl⟩ : ∃ W, W = wr := ⟨_, rfl⟩
   by_cases hlt : k < rn
   · have hlt' : (k : Int) < (rn : Int) := by omega
     obtain ⟨b, o, hao, hbl, hcell⟩ := HG.out.at (k := k) hlt
     subst hao
     have hkl : k < M.length := by rw [HN.out]; exact hlt
     have htk : (M.take (k + 1)).map (·.v) = (M.take k).map (·.v) ++ [(M.getD k KH.dft).v] := by
       rw [List.take_add_one, List.getElem?_eq_getElem hkl, List.map_append]
       simp only [List.getD, hkl, getElem?_pos]
       rfl
     have hlen : ((M.take k).map (·.v)).length ≤ 1000 := by rw [List.length_map, List.length_take]; omega
     generalize M.getD k KH.dft = x at *
     obtain ⟨a, c⟩ := x
     have d0 : W.cell? ⟨b, o + k * 2, none⟩ = some (.string a) := (HB3.out.cell (p := ⟨b, o + k * 2, none⟩) hbl).trans (hcell 0 (by decide))
     have d1 : W.cell? ⟨b, o + k * 2 + 1, none⟩ = some (.string c) := (HB3.out.cell (p := ⟨b, o + k * 2 + 1, none⟩) hbl).trans (hcell 1 (by decide))
     have HBx := hideL ((Below.refl W.heap.size W).alloc (Nat.le_refl _) (.cells #[.string a, .string c] 83))
     obtain ⟨v4, w4, hrun, hR4, hB4⟩ := push_s (W.alloc (.cells #[.string a, .string c] 83)) w1.heap.size u5 _ (HR.out.alloc _) c (by omega) (Nat.le_trans HB3.out.size HBx.out.size)
     rw [← htk] at hR4
     have HRUN := hideL hrun
     have HR4 := hideL hR4
     have HB4 := hideL ((HB3.out.trans (HBx.out.mono HB3.out.size)).trans hB4)
     clear hrun hR4 hB4 htk hcell hbl hlen
     rw [World.size_alloc] at HRUN
     go_wp2_with (at_builtin; refine wpList_append_runP rfl (.tmp 16) (.tmp 19) 69 69 69 rfl rfl _ _ v4 w4 rfl rfl HRUN.out ?_)
     go_roundw
     case rel => exact ⟨k + 1, by omega, by go_num, HR4, HB4⟩
     case measure => simp [RowKit.intOf]; omega
   · obtain rfl : k = rn := by omega
     have hlt' : ¬ (k : Int) < (k : Int) := by omega
     have hR := HR.out
     rw [List.take_of_length_le (by rw [HN.out]; omega)] at hR
     have HR2 := hideL hR
     clear hR HR
     go_wp2_with fail
     go_ret
     exact ⟨_, rfl, HR2.out.base HB1.out.size, HB1.out.trans (HB3.out.mono HB1.out.size)⟩
/-- The errors of Add. -/
def addE (l : List Hd) (h : Hd) : Nat := if goodP h = false then 1 else if 24 ≤ l.length then 3 else 0
def addL (l : List Hd) (h : Hd) : List Hd := if addE l h = 0 then l ++ [h] else []
set_option maxRecDepth 100000 in
set_option maxHeartbeats 1000000 in
theorem add_any (v : Value) (l : List Hd) (h : Hd) (w : World) (hv : GAt KH w v l) (hf : Fits l) (hl : l.length ≤ 1000) (hh : h.n.size ≤ 1000000 ∧ h.v.size ≤ 1000000) :
   Calls Tryz.prog 200 #[v, hdV h] w (fun e w' => ∃ r, e = .returned (.tuple #[r, .int .i64 (addE l h)]) ∧ GRow KH w' w.heap.size r (addL l h) ∧ Below w.heap.size w w') := by
 have LM := hideL (mayOne_any h hh)
 have LO := hideL (fun W => own_any h hh W)
 have LK := hideL (fun (W : World) (hb : Below w.heap.size w W) => kept_any 218 #[] eg_allStay (fun _ => true) v l W (hv.below hb) hf hl (allStay_pred W))
 rw [filter_true] at LK
 obtain ⟨n, c⟩ := h
 simp only [hdV] at LM LO ⊢
 have HBx := hideL ((Below.refl w.heap.size w).alloc (Nat.le_refl _) (.cells #[.string n, .string c] 83))
 have HX := hideL (HBox.new w n c)
 obtain ⟨ao, cap, rfl⟩ := hv.len
 clear hv hf hh
 unfold addL addE
 obtain ⟨y, hy⟩ : ∃ y, goodP ⟨n, c⟩ = y := ⟨_, rfl⟩
 rw [hy] at LM ⊢
 clear hy
 cases y
 · rw [if_pos rfl, if_neg (by decide)]
   go_enter Tryz.func200, Tryz.ntmps200
   go_wp2_with (go_at_call 90; refine (LM.out _).mono ?_; rintro e w2 ⟨rfl, hB2⟩)
   go_ret2
   exact ⟨_, rfl, GRow.nil _ _, HBx.out.trans (hB2.mono HBx.out.size)⟩
 · rw [if_neg (by decide)]
   by_cases h24 : 24 ≤ l.length
   · rw [if_pos h24, if_neg (by decide)]
     have h24' : (24 : Int) ≤ (l.length : Int) := by omega
     go_enter Tryz.func200, Tryz.ntmps200
     go_wp2_with (go_at_call 90; refine (LM.out _).mono ?_; rintro e w2 ⟨rfl, hB2⟩)
     go_ret2
     exact ⟨_, rfl, GRow.nil _ _, HBx.out.trans (hB2.mono HBx.out.size)⟩
   · rw [if_neg h24, if_pos rfl]
     have h24' : ¬ (24 : Int) ≤ (l.length : Int) := by omega
     go_enter Tryz.func200, Tryz.ntmps200
     go_wp2_with (first
       | (go_at_call 90; refine (LM.out _).mono ?_; rintro e w2 ⟨rfl, hB2⟩; have HB2 := hideL (HBx.out.trans (hB2.mono HBx.out.size)); have HX2 := hideL (HX.out.next hB2); clear hB2)
       | (go_at_call 73
          refine (LK.out _ HB2.out).mono ?_
          rintro e w3 ⟨r, rfl, hR, hB3⟩
          have c0 := (HX2.out.next hB3).c0
          have c1 := (HX2.out.next hB3).c1
          have HB3 := hideL (HB2.out.trans (hB3.mono HB2.out.size))
          have HR3 := hideL (hR.base HB2.out.size)
          clear hB3 hR)
       | (go_at_call 118
          refine (LO.out _).mono ?_
          rintro e w4 ⟨rfl, hB4⟩
          have HB4 := hideL (HB3.out.trans (hB4.mono HB3.out.size))
          obtain ⟨v5, w5, hrun, hR5, hB5⟩ := push_h w4 w.heap.size r l (HR3.out.below hB4) ⟨n, c⟩ (by omega) HB4.out.size
          have HRUN := hideL hrun
          have HR5 := hideL hR5
          have HB5 := hideL (HB4.out.trans hB5)
          clear hrun hR5 hB5 hB4)
       | (at_builtin; refine wpList_append_runP rfl (.tmp 17) (.tmp 20) 24 24 24 rfl rfl _ _ v5 w5 rfl rfl HRUN.out ?_))
     go_ret2
     exact ⟨_, rfl, HR5.out, HB5.out⟩
end Go.Proofs.YtafmgoekgijfgaaGreatDoor
namespace Go.Proofs.YtafmgoekgijfgaaGreatDoor
open Go.RowKit Go.Lib

/-- Block g holds the bytes l, and may be written to. -/
structure BufAt (W : World) (g : Nat) (l : List UInt8) : Prop where
 lt : g < W.heap.size
 cell : ∀ j, j < l.length → W.cell? ⟨g, j, none⟩ = some (.int .u8 (l.getD j 0).toNat)
 froz : ∀ j, j < l.length → W.frozen? ⟨g, j, none⟩ = false
theorem BufAt.next {W W' : World} {g : Nat} {l : List UInt8} (h : BufAt W g l) (hb : Below W.heap.size W W') : BufAt W' g l :=
 ⟨Nat.lt_of_lt_of_le h.lt hb.size, fun j hj => (hb.cell (p := ⟨g, j, none⟩) h.lt).trans (h.cell j hj), fun j hj => (World.frozen?_of_block (a := ⟨g, j, none⟩) (hb.block g h.lt)).trans (h.froz j hj)⟩
theorem BufAt.set {W : World} {g : Nat} {l : List UInt8} (h : BufAt W g l) {k : Nat} (hk : k < l.length) (c : UInt8) : BufAt (W.setCell ⟨g, k, none⟩ (.int .u8 c.toNat)) g (l.set k c) := by
 refine ⟨by simp [h.lt], fun j hj => ?_, fun j hj => ?_⟩
 · rw [List.length_set] at hj
   by_cases e : k = j
   · subst e
     rw [World.cell?_setCell_same (h := h.cell k hk)]
     simp [List.getD, hk]
   · rw [World.cell?_setCell_other (h := by simp), h.cell j hj]
     simp [List.getD, e]
 · rw [List.length_set] at hj
   have := h.froz j hj
   rw [← this]
   exact World.frozen?_setCell _ _ _ _
theorem BufAt.made (w : World) (s : ByteArray) : BufAt (Lib.bytesWorld w 5 s) w.heap.size s.data.toList := by
 have hl := size_list s
 refine ⟨by rw [Lib.bytesWorld_size]; omega, fun j hj => Lib.bytesWorld_cell w 5 s j (by omega), fun j hj => ?_⟩
 unfold World.frozen?
 rw [Lib.bytesWorld_at_new]
 simp only [Bool.and_eq_false_iff, decide_eq_false_iff_not]
 left
 have : s.size ≤ (Lib.bytesCells w 5 s).size := by simp [Lib.bytesCells, Array.size_append]
 omega
theorem BufAt.str {W : World} {g : Nat} {l : List UInt8} (h : BufAt W g l) (n cap : Nat) (hn : l.length = n) : (convert 22 9 (.slice (some ⟨g, 0, none⟩) n cap)).run Tryz.prog W = .ok (.string (bo l)) W := by
 subst hn
 have hr := run_convert_bytes_back (P := Tryz.prog) W 22 9 5 ⟨g, 0, none⟩ cap l Tryz.underlying22 Tryz.underlying5 Tryz.underlying9 (fun j hj => ?_)
 · rw [hr]; rfl
 · rw [addr_plain', Nat.zero_add, h.cell j hj]
   simp [List.getD, hj]
/-- The first k bytes made small. -/
def smK (l : List UInt8) (k : Nat) : List UInt8 := (l.take k).map smB ++ l.drop k
theorem smK_all (l : List UInt8) : smK l l.length = l.map smB := by simp [smK]
theorem smK_len (l : List UInt8) (k : Nat) : (smK l k).length = l.length := by simp [smK]; omega
theorem smK_get {l : List UInt8} {k : Nat} (h : k < l.length) : (smK l k).getD k 0 = l.getD k 0 := by
 unfold smK
 have e : ((l.take k).map smB).length = k := by simp; omega
 rw [List.getD, List.getD, List.getElem?_append_right (by omega), e, Nat.sub_self, List.getElem?_drop, Nat.add_zero]
theorem smK_step {l : List UInt8} {k : Nat} (h : k < l.length) : smK l (k + 1) = (smK l k).set k (smB (l.getD k 0)) := by
 unfold smK
 have e : ((l.take k).map smB).length = k := by simp; omega
 rw [List.set_append_right _ _ (by omega), e, Nat.sub_self, List.drop_eq_getElem_cons h, List.set_cons_zero, List.take_add_one, List.getElem?_eq_getElem h, List.map_append, List.append_assoc]
 simp only [List.getD, h, getElem?_pos]
 rfl
theorem smK_same {l : List UInt8} {k : Nat} (h : k < l.length) (hc : smB (l.getD k 0) = l.getD k 0) : smK l (k + 1) = smK l k := by
 rw [smK_step h, hc, ← smK_get h]
 have hl : k < (smK l k).length := by rw [smK_len]; exact h
 simp [List.getD, hl]
theorem smB_up {c : UInt8} (h : 65 ≤ c.toNat ∧ c.toNat ≤ 90) : (smB c).toNat = c.toNat + 32 := by
 unfold smB
 rw [if_pos h, UInt8.toNat_add]
 have : (32 : UInt8).toNat = 32 := rfl
 omega
theorem smB_else {c : UInt8} (h : ¬ (65 ≤ c.toNat ∧ c.toNat ≤ 90)) : smB c = c := by
 unfold smB
 rw [if_neg h]

set_option maxRecDepth 100000 in
set_option maxHeartbeats 1000000 in
theorem small_any (s : ByteArray) (hs : s.size ≤ 1000000) (w : World) : Calls Tryz.prog 134 #[.string s] w (fun e w' => e = .returned (.string (bo (s.data.toList.map smB))) ∧ Below w.heap.size w w') := by
 have hlen := size_list s
 have hcv := Lib.run_convert_string_bytes (P := Tryz.prog) w 9 22 5 s (u := .string) Tryz.underlying9 Tryz.underlying22 Tryz.underlying5
 have HB1 := hideL (Lib.bytesWorld_below w 5 s)
 have HM := hideL (BufAt.made w s)
 obtain ⟨W1, hW1⟩ : ∃ W1, W1 = Lib.bytesWorld w 5 s := ⟨_, rfl⟩
 rw [← hW1] at hcv HB1 HM
 obtain ⟨n, hn⟩ : ∃ n, s.size = n := ⟨_, rfl⟩
 generalize grownCap w s.size 0 5 = cap at hcv
 rw [hn] at hcv hlen hs
 obtain ⟨L, hL⟩ : ∃ L, s.data.toList = L := ⟨_, rfl⟩
 rw [hL] at HM hlen ⊢
 have HL := hideL hlen
 clear hW1 hn hL hlen
 go_enter Tryz.func134, Tryz.ntmps134
 go_wp2_with fail
 go_loopw [10] (fun i wr => ∃ k : Nat, k ≤ n ∧ i = .int .i64 k ∧ HidL (BufAt wr w.heap.size (smK L k)) ∧ HidL (Below w.heap.size w wr)) (fun i _ => n - (RowKit.intOf i).toNat)
 case atStart => exact ⟨0, Nat.zero_le _, rfl, HM, HB1⟩
 case round =>
   obtain ⟨k, hk, rfl, HD, HB⟩ := hrel
   clear HM HB1 hcv
   obtain ⟨W, rfl⟩ : ∃ W, W = wr := ⟨_, rfl⟩
   by_cases hlt : k < n
   · have hlt' : (k : Int) < (n : Int) := by omega
     have hkl : k < L.length := by rw [HL.out]; exact hlt
     have hkm : k < (smK L k).length := by rw [smK_len]; exact hkl
     have d0 := HD.out.cell k hkm
     have f0 := HD.out.froz k hkm
     rw [smK_get hkl] at d0
     have hset := HD.out.set hkm (smB (L.getD k 0))
     rw [← smK_step hkl] at hset
     have hsame := @smK_same L k hkl
     generalize L.getD k 0 = c at *
     have c255 := c.toNat_lt
     by_cases hc : 65 ≤ c.toNat ∧ c.toNat ≤ 90
     · have h1 : (65 : Int) ≤ (c.toNat : Int) := by omega
       have h2 : (c.toNat : Int) ≤ 90 := by omega
       rw [smB_up hc] at hset
       have HS := hideL hset
       clear hset hsame HD
       have w1 : IntKind.u8.wrap ((c.toNat : Int) - 65) = ((c.toNat - 65 : Nat) : Int) := by rw [IntKind.wrap_u8]; omega
       have w2 : IntKind.u8.wrap (((c.toNat - 65 : Nat) : Int) + 97) = ((c.toNat + 32 : Nat) : Int) := by rw [IntKind.wrap_u8]; omega
       have HB2 := hideL (HB.out.setCell (p := ⟨w.heap.size, k, none⟩) (Nat.le_refl _) (.int .u8 (c.toNat + 32 : Nat)))
       go_wp2_with fail
       go_roundw
       case rel => exact ⟨k + 1, by omega, by go_num, HS, HB2⟩
       case measure => simp [RowKit.intOf]; omega
     · rw [smB_else hc] at hsame
       have HS := HD.out
       rw [← hsame rfl] at HS
       have HS2 := hideL HS
       have hc2 : ¬ (65 : Int) ≤ (c.toNat : Int) ∨ ((65 : Int) ≤ (c.toNat : Int) ∧ ¬ (c.toNat : Int) ≤ 90) := by omega
       clear hset hsame HD HS f0 hc
       rcases hc2 with h1 | ⟨h1, h2⟩
       · go_wp2_with fail
         go_roundw
         case rel => exact ⟨k + 1, by omega, by go_num, HS2, HB⟩
         case measure => simp [RowKit.intOf]; omega
       · go_wp2_with fail
         go_roundw
         case rel => exact ⟨k + 1, by omega, by go_num, HS2, HB⟩
         case measure => simp [RowKit.intOf]; omega
   · obtain rfl : k = n := by omega
     have hlt' : ¬ (k : Int) < (k : Int) := by omega
     have hD := HD.out
     rw [← HL.out, smK_all] at hD
     have hcb := hD.str k cap (by rw [List.length_map]; exact HL.out)
     clear HD hD
     go_wp2_with fail
     go_ret
     exact ⟨rfl, HB.out⟩
set_option maxRecDepth 100000 in
set_option maxHeartbeats 1000000 in
theorem smallR_any (s : ByteArray) (hs : s.size ≤ 1000000) (w : World) : Calls Tryz.prog 49 #[.string s] w (fun e w' => e = .returned (.string (bo (s.data.toList.map smB))) ∧ Below w.heap.size w w') := by
 have hlen := size_list s
 have hcv := Lib.run_convert_string_bytes (P := Tryz.prog) w 9 22 5 s (u := .string) Tryz.underlying9 Tryz.underlying22 Tryz.underlying5
 have HB1 := hideL (Lib.bytesWorld_below w 5 s)
 have HM := hideL (BufAt.made w s)
 obtain ⟨W1, hW1⟩ : ∃ W1, W1 = Lib.bytesWorld w 5 s := ⟨_, rfl⟩
 rw [← hW1] at hcv HB1 HM
 obtain ⟨n, hn⟩ : ∃ n, s.size = n := ⟨_, rfl⟩
 generalize grownCap w s.size 0 5 = cap at hcv
 rw [hn] at hcv hlen hs
 obtain ⟨L, hL⟩ : ∃ L, s.data.toList = L := ⟨_, rfl⟩
 rw [hL] at HM hlen ⊢
 have HL := hideL hlen
 clear hW1 hn hL hlen
 go_enter Tryz.func49, Tryz.ntmps49
 go_wp2_with fail
 go_loopw [4] (fun i wr => ∃ k : Nat, k ≤ n ∧ i = .int .i64 k ∧ HidL (BufAt wr w.heap.size (smK L k)) ∧ HidL (Below w.heap.size w wr)) (fun i _ => n - (RowKit.intOf i).toNat)
 case atStart => exact ⟨0, Nat.zero_le _, rfl, HM, HB1⟩
 case round =>
   obtain ⟨k, hk, rfl, HD, HB⟩ := hrel
   clear HM HB1 hcv
   obtain ⟨W, rfl⟩ : ∃ W, W = wr := ⟨_, rfl⟩
   by_cases hlt : k < n
   · have hlt' : (k : Int) < (n : Int) := by omega
     have hkl : k < L.length := by rw [HL.out]; exact hlt
     have hkm : k < (smK L k).length := by rw [smK_len]; exact hkl
     have d0 := HD.out.cell k hkm
     have f0 := HD.out.froz k hkm
     rw [smK_get hkl] at d0
     have hset := HD.out.set hkm (smB (L.getD k 0))
     rw [← smK_step hkl] at hset
     have hsame := @smK_same L k hkl
     generalize L.getD k 0 = c at *
     have c255 := c.toNat_lt
     by_cases hc : 65 ≤ c.toNat ∧ c.toNat ≤ 90
     · have h1 : (65 : Int) ≤ (c.toNat : Int) := by omega
       have h2 : (c.toNat : Int) ≤ 90 := by omega
       rw [smB_up hc] at hset
       have HS := hideL hset
       clear hset hsame HD
       have w2 : IntKind.u8.wrap ((c.toNat : Int) + 32) = ((c.toNat + 32 : Nat) : Int) := by rw [IntKind.wrap_u8]; omega
       have HB2 := hideL (HB.out.setCell (p := ⟨w.heap.size, k, none⟩) (Nat.le_refl _) (.int .u8 (c.toNat + 32 : Nat)))
       go_wp2_with fail
       go_roundw
       case rel => exact ⟨k + 1, by omega, by go_num, HS, HB2⟩
       case measure => simp [RowKit.intOf]; omega
     · rw [smB_else hc] at hsame
       have HS := HD.out
       rw [← hsame rfl] at HS
       have HS2 := hideL HS
       have hc2 : ¬ (65 : Int) ≤ (c.toNat : Int) ∨ ((65 : Int) ≤ (c.toNat : Int) ∧ ¬ (c.toNat : Int) ≤ 90) := by omega
       clear hset hsame HD HS f0 hc
       rcases hc2 with h1 | ⟨h1, h2⟩
       · go_wp2_with fail
         go_roundw
         case rel => exact ⟨k + 1, by omega, by go_num, HS2, HB⟩
         case measure => simp [RowKit.intOf]; omega
       · go_wp2_with fail
         go_roundw
         case rel => exact ⟨k + 1, by omega, by go_num, HS2, HB⟩
         case measure => simp [RowKit.intOf]; omega
   · obtain rfl : k = n := by omega
     have hlt' : ¬ (k : Int) < (k : Int) := by omega
     have hD := HD.out
     rw [← HL.out, smK_all] at hD
     have hcb := hD.str k cap (by rw [List.length_map]; exact HL.out)
     clear HD hD
     go_wp2_with fail
     go_ret
     exact ⟨rfl, HB.out⟩
end Go.Proofs.YtafmgoekgijfgaaGreatDoor
namespace Go.Proofs.YtafmgoekgijfgaaGreatDoor
open Go.RowKit Go.Lib

def readA (r : Nat × List UInt8 × List UInt8) : Value := .tuple #[.agg #[.string (bo r.2.1), .string (bo r.2.2)], .int .i64 r.1]
theorem readP_long {s : List UInt8} (h : 578 < s.length) : readP s = (6, [], []) := by
 unfold readP
 rw [if_pos h]
theorem dropWhile_none : ∀ {l : List UInt8}, (58 : UInt8) ∉ l → l.dropWhile (· != 58) = []
 | [], _ => rfl
 | c :: r, h => by
   rw [List.dropWhile_cons_of_pos (by simpa using not_head h)]
   exact dropWhile_none (fun e => h (List.mem_cons_of_mem _ e))
theorem readP_none {s : List UInt8} (h : s.length ≤ 578) (hc : (58 : UInt8) ∉ s) : readP s = (2, [], []) := by
 unfold readP
 rw [if_neg (by omega), dropWhile_none hc]
theorem ne_colon {a : List UInt8} (h : (58 : UInt8) ∉ a) : ∀ c ∈ a, (c != 58) = true := fun c hc => by
 rw [bne_iff_ne]
 exact fun e => h (e ▸ hc)
theorem readP_cut {a b : List UInt8} (h : (a ++ 58 :: b).length ≤ 578) (hc : (58 : UInt8) ∉ a) :
   readP (a ++ 58 :: b) = if (nameP (a.map smB) && valP (trimP b)) = true then (0, a.map smB, trimP b) else (2, [], []) := by
 unfold readP
 rw [if_neg (by omega), List.dropWhile_append_of_pos (ne_colon hc), List.dropWhile_cons_of_neg (by decide)]
 simp only
 rw [List.takeWhile_append_of_pos (ne_colon hc), List.takeWhile_cons_of_neg (by decide), List.append_nil]
theorem goodP_bo (n v : List UInt8) : goodP ⟨bo n, bo v⟩ = (nameP n && valP v) := rfl

theorem cutB_none (s : ByteArray) (c : UInt8) (h : c ∉ s.data.toList) (w : World) : Calls Tryz.prog 41 #[.string s, .string ⟨#[c]⟩] w (fun e w' => e = .returned (.tuple #[.string s, .string ⟨#[]⟩, .bool false]) ∧ Below w.heap.size w w') :=
 (cut_none s c h w).mono fun _ _ ⟨he, n, hn⟩ => ⟨he, hn ▸ below_drewN5 w n⟩
theorem cutB_hit (s : ByteArray) (c : UInt8) (a b : List UInt8) (h : s.data.toList = a ++ c :: b) (ha : c ∉ a) (hs : s.size ≤ 1000000) (w : World) : Calls Tryz.prog 41 #[.string s, .string ⟨#[c]⟩] w (fun e w' => e = .returned (.tuple #[.string (bo a), .string (bo b), .bool true]) ∧ Below w.heap.size w w') :=
 (cut_hit s c a b h ha hs w).mono fun _ _ ⟨he, n, hn⟩ => ⟨he, hn ▸ below_drewN5 w n⟩
set_option maxRecDepth 100000 in
set_option maxHeartbeats 1000000 in
theorem read_any (s : ByteArray) (hs : s.size ≤ 1000000) (w : World) : Calls Tryz.prog 199 #[.string s] w (fun e w' => e = .returned (readA (readP s.data.toList)) ∧ Below w.heap.size w w') := by
 have hlen := size_list s
 have HB0 := hideL ((Below.refl w.heap.size w).alloc (Nat.le_refl _) (.cells #[.string (⟨#[]⟩ : ByteArray), .string (⟨#[]⟩ : ByteArray)] 83))
 have HX := hideL (HBox.new w (⟨#[]⟩ : ByteArray) (⟨#[]⟩ : ByteArray))
 by_cases h1 : 578 < s.size
 · rw [readP_long (by omega)]
   have h1' : (578 : Int) < (s.size : Int) := by omega
   have f0 := HX.out.frozen 0
   have f1 := HX.out.frozen 1
   have c0 := HX.out.c0
   have c1 := HX.out.c1
   clear hlen
   go_enter Tryz.func199, Tryz.ntmps199
   go_wp2_with fail
   have HXF := HX
   have HBF := HB0
   clear f0 f1 c0 c1
   generalize (w.alloc (.cells #[.string (⟨#[]⟩ : ByteArray), .string (⟨#[]⟩ : ByteArray)] 83)) = WF at *
   have r0 := HXF.out.c0
   have r1 := HXF.out.c1
   exact bodyPost_ret (v := readA (6, [], [])) (by simp [results, Tryz.results199, go_sem, r0, r1]; rfl) rfl ⟨rfl, HBF.out⟩
 have h1' : ¬ (578 : Int) < (s.size : Int) := by omega
 by_cases hc : (58 : UInt8) ∈ s.data.toList
 · obtain ⟨a, b, hab, ha⟩ := List.eq_append_cons_of_mem hc
   have LC := hideL (fun W => cutB_hit s 58 a b hab ha (by omega) W)
   have hal : a.length ≤ 1000000 ∧ b.length ≤ 1000000 := by
     have := congrArg List.length hab
     rw [hlen, List.length_append, List.length_cons] at this
     omega
   have LS := hideL (fun W => small_any (bo a) (by rw [bo_size]; omega) W)
   have LT := hideL (fun W => trim_any (bo b) (by rw [bo_size]; omega) W)
   rw [bo_list] at LS LT
   have hg : (bo (a.map smB)).size ≤ 1000000 ∧ (bo (trimP b)).size ≤ 1000000 := by
     have := trim_len b
     rw [bo_size, bo_size, List.length_map]; omega
   have LM := hideL (mayOne_any ⟨bo (a.map smB), bo (trimP b)⟩ hg)
   have LO := hideL (fun W => own_any ⟨bo (a.map smB), bo (trimP b)⟩ hg W)
   rw [goodP_bo] at LM
   simp only [hdV] at LM LO
   have hR := readP_cut (a := a) (b := b) (by rw [← hab]; omega) ha
   rw [← hab] at hR
   rw [hR]
   generalize (nameP (a.map smB) && valP (trimP b)) = G at *
   generalize trimP b = tb at *
   generalize a.map smB = sa at *
   clear hR hg hal hab ha hc hlen h1
   cases G
   · rw [if_neg (by decide)]
     clear LO
     go_enter Tryz.func199, Tryz.ntmps199
     go_wp2_with (first
       | (go_at_call 41; refine (LC.out _).mono ?_; rintro e w1 ⟨rfl, hB1⟩; have HX1 := hideL (HX.out.next hB1); have HB1 := hideL (HB0.out.trans (hB1.mono HB0.out.size)); clear hB1)
       | (go_at_call 134; refine (LS.out _).mono ?_; rintro e w2 ⟨rfl, hB2⟩; have HX2 := hideL (HX1.out.next hB2); have HB2 := hideL (HB1.out.trans (hB2.mono HB1.out.size)); clear hB2)
       | (go_at_call 60; refine (LT.out _).mono ?_; rintro e w3 ⟨rfl, hB3⟩
          have hA := (Below.refl w3.heap.size w3).alloc (Nat.le_refl _) (.cells #[.string (bo sa), .string (bo tb)] 83)
          have HX3 := hideL ((HX2.out.next hB3).next hA)
          have HB3 := hideL ((HB2.out.trans (hB3.mono HB2.out.size)).trans (hA.mono (HB2.out.trans (hB3.mono HB2.out.size)).size))
          have HY3 := hideL (HBox.new w3 (bo sa) (bo tb))
          have f0 := HX3.out.frozen 0
          have f1 := HX3.out.frozen 1
          have c0 := HX3.out.c0
          have c1 := HX3.out.c1
          clear hB3 hA)
       | (go_at_call 90; refine (LM.out _).mono ?_; rintro e w4 ⟨rfl, hB4⟩
          have HX4 := hideL (HX3.out.next hB4)
          have HB4 := hideL (HB3.out.trans (hB4.mono HB3.out.size))
          have HY4 := hideL (HY3.out.next hB4)
          have e0 := HX4.out.frozen 0
          have e1 := HX4.out.frozen 1
          have d0 := HX4.out.c0
          have d1 := HX4.out.c1
          have y0 := HY4.out.c0
          have y1 := HY4.out.c1
          clear hB4))
     have HXF := hideL (HX4.out.st (⟨#[]⟩ : ByteArray) (⟨#[]⟩ : ByteArray))
     have HBF := hideL ((HB4.out.setCell (p := ⟨w.heap.size, 0, none⟩) (Nat.le_refl _) (.string (⟨#[]⟩ : ByteArray))).setCell (p := ⟨w.heap.size, 1, none⟩) (Nat.le_refl _) (.string (⟨#[]⟩ : ByteArray)))
     clear f0 f1 c0 c1 e0 e1 d0 d1 y0 y1 LC LT LS LM
     generalize (World.setCell (World.setCell w4 ⟨w.heap.size, 0, none⟩ (.string (⟨#[]⟩ : ByteArray))) ⟨w.heap.size, 1, none⟩ (.string (⟨#[]⟩ : ByteArray))) = WF at *
     have r0 := HXF.out.c0
     have r1 := HXF.out.c1
     exact bodyPost_ret (v := readA (2, [], [])) (by simp [results, Tryz.results199, go_sem, r0, r1]; rfl) rfl ⟨rfl, HBF.out⟩
   · rw [if_pos rfl]
     go_enter Tryz.func199, Tryz.ntmps199
     go_wp2_with (first
       | (go_at_call 41; refine (LC.out _).mono ?_; rintro e w1 ⟨rfl, hB1⟩; have HX1 := hideL (HX.out.next hB1); have HB1 := hideL (HB0.out.trans (hB1.mono HB0.out.size)); clear hB1)
       | (go_at_call 134; refine (LS.out _).mono ?_; rintro e w2 ⟨rfl, hB2⟩; have HX2 := hideL (HX1.out.next hB2); have HB2 := hideL (HB1.out.trans (hB2.mono HB1.out.size)); clear hB2)
       | (go_at_call 60; refine (LT.out _).mono ?_; rintro e w3 ⟨rfl, hB3⟩
          have hA := (Below.refl w3.heap.size w3).alloc (Nat.le_refl _) (.cells #[.string (bo sa), .string (bo tb)] 83)
          have HX3 := hideL ((HX2.out.next hB3).next hA)
          have HB3 := hideL ((HB2.out.trans (hB3.mono HB2.out.size)).trans (hA.mono (HB2.out.trans (hB3.mono HB2.out.size)).size))
          have HY3 := hideL (HBox.new w3 (bo sa) (bo tb))
          have f0 := HX3.out.frozen 0
          have f1 := HX3.out.frozen 1
          have c0 := HX3.out.c0
          have c1 := HX3.out.c1
          clear hB3 hA)
       | (go_at_call 90; refine (LM.out _).mono ?_; rintro e w4 ⟨rfl, hB4⟩
          have HX4 := hideL (HX3.out.next hB4)
          have HB4 := hideL (HB3.out.trans (hB4.mono HB3.out.size))
          have HY4 := hideL (HY3.out.next hB4)
          have e0 := HX4.out.frozen 0
          have e1 := HX4.out.frozen 1
          have d0 := HX4.out.c0
          have d1 := HX4.out.c1
          have y0 := HY4.out.c0
          have y1 := HY4.out.c1
          clear hB4)
       | (go_at_call 118; refine (LO.out _).mono ?_; rintro e w5 ⟨rfl, hB5⟩
          have HX5 := hideL (HX4.out.next hB5)
          have HB5 := hideL (HB4.out.trans (hB5.mono HB4.out.size))
          have g0 := HX5.out.frozen 0
          have g1 := HX5.out.frozen 1
          have b0 := HX5.out.c0
          have b1 := HX5.out.c1
          clear hB5))
     have HXF := hideL (HX5.out.st (bo sa) (bo tb))
     have HBF := hideL ((HB5.out.setCell (p := ⟨w.heap.size, 0, none⟩) (Nat.le_refl _) (.string (bo sa))).setCell (p := ⟨w.heap.size, 1, none⟩) (Nat.le_refl _) (.string (bo tb)))
     clear f0 f1 c0 c1 e0 e1 d0 d1 y0 y1 g0 g1 b0 b1 LC LT LS LM LO
     generalize (World.setCell (World.setCell w5 ⟨w.heap.size, 0, none⟩ (.string (bo sa))) ⟨w.heap.size, 1, none⟩ (.string (bo tb))) = WF at *
     have r0 := HXF.out.c0
     have r1 := HXF.out.c1
     exact bodyPost_ret (v := readA (0, sa, tb)) (by simp [results, Tryz.results199, go_sem, r0, r1]; rfl) rfl ⟨rfl, HBF.out⟩
 · have LC := hideL (fun W => cutB_none s 58 hc W)
   have LS := hideL (fun W => small_any s (by omega) W)
   have LT := hideL (fun W => trim_any (⟨#[]⟩ : ByteArray) (by decide) W)
   rw [show trimP (⟨#[]⟩ : ByteArray).data.toList = [] from rfl] at LT
   rw [readP_none (by omega) hc]
   generalize s.data.toList.map smB = sa at *
   clear hc hlen h1
   go_enter Tryz.func199, Tryz.ntmps199
   go_wp2_with (first
       | (go_at_call 41; refine (LC.out _).mono ?_; rintro e w1 ⟨rfl, hB1⟩; have HX1 := hideL (HX.out.next hB1); have HB1 := hideL (HB0.out.trans (hB1.mono HB0.out.size)); clear hB1)
       | (go_at_call 134; refine (LS.out _).mono ?_; rintro e w2 ⟨rfl, hB2⟩; have HX2 := hideL (HX1.out.next hB2); have HB2 := hideL (HB1.out.trans (hB2.mono HB1.out.size)); clear hB2)
       | (go_at_call 60; refine (LT.out _).mono ?_; rintro e w3 ⟨rfl, hB3⟩
          have hA := (Below.refl w3.heap.size w3).alloc (Nat.le_refl _) (.cells #[.string (bo sa), .string (bo [])] 83)
          have HX3 := hideL ((HX2.out.next hB3).next hA)
          have HB3 := hideL ((HB2.out.trans (hB3.mono HB2.out.size)).trans (hA.mono (HB2.out.trans (hB3.mono HB2.out.size)).size))
          have HY3 := hideL (HBox.new w3 (bo sa) (bo []))
          have f0 := HX3.out.frozen 0
          have f1 := HX3.out.frozen 1
          have c0 := HX3.out.c0
          have c1 := HX3.out.c1
          clear hB3 hA))
   have HXF := hideL (HX3.out.st (⟨#[]⟩ : ByteArray) (⟨#[]⟩ : ByteArray))
   have HBF := hideL ((HB3.out.setCell (p := ⟨w.heap.size, 0, none⟩) (Nat.le_refl _) (.string (⟨#[]⟩ : ByteArray))).setCell (p := ⟨w.heap.size, 1, none⟩) (Nat.le_refl _) (.string (⟨#[]⟩ : ByteArray)))
   clear f0 f1 c0 c1 LC LT LS
   generalize (World.setCell (World.setCell (w3.alloc (.cells #[.string (bo sa), .string (bo [])] 83)) ⟨w.heap.size, 0, none⟩ (.string (⟨#[]⟩ : ByteArray))) ⟨w.heap.size, 1, none⟩ (.string (⟨#[]⟩ : ByteArray))) = WF at *
   have r0 := HXF.out.c0
   have r1 := HXF.out.c1
   exact bodyPost_ret (v := readA (2, [], [])) (by simp [results, Tryz.results199, go_sem, r0, r1]; rfl) rfl ⟨rfl, HBF.out⟩
end Go.Proofs.YtafmgoekgijfgaaGreatDoor
namespace Go.Proofs.YtafmgoekgijfgaaGreatDoor
open Go.RowKit Go.Lib

set_option maxRecDepth 100000 in
set_option maxHeartbeats 400000 in
theorem index_noneMay (v : Value) (l : List Hd) (w : World) (hv : GAt KH w v l) (hf : Fits l) (hm : l.length ≤ 9223372036854775807) : Calls Tryz.prog 181 #[v, .func (.func 136) #[] #[]] w (fun e w' => ∃ r : Int, e = .returned (.int .i64 r) ∧ decide (0 ≤ r) = l.any (fun a => !goodP a) ∧ Below w.heap.size w w') := by
 have HF := hideL hf
 obtain ⟨ao, cap, rfl⟩ := hv.len
 obtain ⟨n, hn⟩ : ∃ n, l.length = n := ⟨_, rfl⟩
 rw [hn] at hv hm ⊢
 have HN := hideL hn
 have HV := hideL hv
 obtain ⟨B, hB⟩ : ∃ b, l.any (fun a => !goodP a) = b := ⟨_, rfl⟩
 rw [hB]
 have HBB := hideL hB
 clear hB hv hn hf
 go_enter Tryz.func181, Tryz.ntmps181
 go_wp2_with fail
 go_loopw [8] (fun i wr => ∃ k : Nat, k ≤ n ∧ i = .int .i64 k ∧ Below w.heap.size w wr ∧ HidL ((l.drop k).any (fun a => !goodP a) = B)) (fun i _ => n - (intOf i).toNat)
 case atStart => exact ⟨0, Nat.zero_le _, rfl, Below.refl _ _, HBB⟩
 case round =>
   obtain ⟨k, hk, rfl, hb, hd⟩ := hrel
   obtain ⟨W, rfl⟩ : ∃ W, W = wr := ⟨_, rfl⟩
   by_cases hlt : k < n
   · have hlt' : (k : Int) < (n : Int) := by omega
     obtain ⟨b, o, hao, hbl, hcell⟩ := HV.out.at (k := k) hlt
     subst hao
     have hkl : k < l.length := by rw [HN.out]; exact hlt
     replace hd := hd.out
     rw [hdrop_at l k hkl, List.any_cons] at hd
     have hfit := HF.out.get hkl
     generalize l.getD k KH.dft = x at *
     have LC := hideL (fun W : World => notMay_any x hfit W)
     obtain ⟨y, hy⟩ : ∃ y, (!goodP x) = y := ⟨_, rfl⟩
     rw [hy] at hd LC
     clear hy
     have HD := hideL hd
     clear hd hfit
     obtain ⟨p, q⟩ := x
     have d0 : W.cell? ⟨b, o + k * 2, none⟩ = some (.string p) := (hb.cell (p := ⟨b, o + k * 2, none⟩) hbl).trans (hcell 0 (by decide))
     have d1 : W.cell? ⟨b, o + k * 2 + 1, none⟩ = some (.string q) := (hb.cell (p := ⟨b, o + k * 2 + 1, none⟩) hbl).trans (hcell 1 (by decide))
     have HB := hideL hb
     clear hcell hbl hb
     cases y
     · have HN2 := HD.out
       rw [Bool.false_or] at HN2
       have HNX := hideL HN2
       clear HD HN2
       go_wp2_with (go_at_call 136; refine (LC.out _).mono ?_; rintro e w3 ⟨rfl, hB3⟩; have HB3 := hideL (HB.out.trans (hB3.mono HB.out.size)))
       go_roundw
       case rel => exact ⟨k + 1, by omega, by go_num, HB3.out, HNX⟩
       case measure => simp [intOf]; omega
     · have hBt : B = true := by rw [← HD.out]; rfl
       subst hBt
       go_wp2_with (go_at_call 136; refine (LC.out _).mono ?_; rintro e w3 ⟨rfl, hB3⟩; have HB3 := hideL (HB.out.trans (hB3.mono HB.out.size)))
       go_ret
       exact ⟨k, rfl, decide_eq_true (by omega), HB3.out⟩
   · obtain rfl : k = n := by omega
     have hlt' : ¬ (k : Int) < (k : Int) := by omega
     replace hd := hd.out
     rw [List.drop_of_length_le (by rw [HN.out]; omega)] at hd
     have hBf : B = false := by rw [← hd]; rfl
     subst hBf
     have HB := hideL hb
     clear hb
     go_wp2_with fail
     go_ret
     exact ⟨-1, rfl, by decide, HB.out⟩
set_option maxRecDepth 100000 in
theorem contains_noneMay (v : Value) (l : List Hd) (w : World) (hv : GAt KH w v l) (hf : Fits l) (hm : l.length ≤ 9223372036854775807) : Calls Tryz.prog 135 #[v, .func (.func 136) #[] #[]] w (fun e w' => e = .returned (.bool (l.any (fun a => !goodP a))) ∧ Below w.heap.size w w') := by
 have L := hideL (index_noneMay v l w hv hf hm)
 obtain ⟨B, hB⟩ : ∃ b, l.any (fun a => !goodP a) = b := ⟨_, rfl⟩
 rw [hB] at L ⊢
 clear hB hf
 obtain ⟨ao, cap, rfl⟩ := hv.len
 clear hv
 go_enter Tryz.func135, Tryz.ntmps135
 go_wp2_with (go_at_call 181; refine L.out.mono ?_; rintro e w2 ⟨r, rfl, hr, hB2⟩)
 go_ret
 exact ⟨by rw [← hr]; rfl, hB2⟩
theorem any_not_all (l : List Hd) : (!l.any fun a => !goodP a) = l.all goodP := by
 induction l with
 | nil => rfl
 | cons a l ih =>
   rw [List.any_cons, List.all_cons, ← ih]
   cases goodP a <;> simp
set_option maxRecDepth 100000 in
theorem mayH_any (v : Value) (l : List Hd) (w : World) (hv : GAt KH w v l) (hf : Fits l) (hm : l.length ≤ 9223372036854775807) : Calls Tryz.prog 89 #[v] w (fun e w' => e = .returned (.bool (mayH l)) ∧ Below w.heap.size w w') := by
 have L := hideL (contains_noneMay v l w hv hf hm)
 have hA := any_not_all l
 unfold mayH
 rw [← hA]
 clear hA
 obtain ⟨B, hB⟩ : ∃ b, (l.any fun a => !goodP a) = b := ⟨_, rfl⟩
 rw [hB] at L ⊢
 clear hB hf
 obtain ⟨ao, cap, rfl⟩ := hv.len
 clear hv
 obtain ⟨n, hn⟩ : ∃ n, l.length = n := ⟨_, rfl⟩
 rw [hn] at L hm ⊢
 clear hn
 by_cases h : n ≤ 24
 · rw [decide_eq_true h, Bool.and_true]
   have h' : (n : Int) ≤ 24 := by omega
   go_enter Tryz.func89, Tryz.ntmps89
   go_wp2_with (go_at_call 135; refine L.out.mono ?_; rintro e w2 ⟨rfl, hB2⟩)
   go_ret
   exact ⟨rfl, hB2⟩
 · rw [decide_eq_false h, Bool.and_false]
   have h' : ¬ (n : Int) ≤ 24 := by omega
   go_enter Tryz.func89, Tryz.ntmps89
   go_wp2_with fail
   go_ret
   exact ⟨rfl, Below.refl _ _⟩
end Go.Proofs.YtafmgoekgijfgaaGreatDoor
