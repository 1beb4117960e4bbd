/- Small letters: the program's small, the document's Small: bytes of a text that are written to one by one. -/
import Derived.Test.YtilefgmlnmpeoaaDoorHdHead
import Derived.Test.YtilefgmlnmpeoaaDoorHdLib
import Derived.Lib.ConvBytes
namespace Go.Proofs.YtilefgmlnmpeoaaDoor
open Go.RowKit Go.Lib

/-- Block g holds the bytes l, and may be written to. -/
structure BufAt (W : World) (g : Nat) (l : List UInt8) : Prop where
  lt : g < W.heap.size
  cell : ∀ j, j < l.length → W.cell? ⟨g, j, none⟩ = some (.int .u8 (l.getD j 0).toNat)
  froz : ∀ j, j < l.length → W.frozen? ⟨g, j, none⟩ = false
theorem BufAt.next {W W' : World} {g : Nat} {l : List UInt8} (h : BufAt W g l) (hb : Below W.heap.size W W') : BufAt W' g l :=
  ⟨Nat.lt_of_lt_of_le h.lt hb.size, fun j hj => (hb.cell (p := ⟨g, j, none⟩) h.lt).trans (h.cell j hj), fun j hj => (World.frozen?_of_block (a := ⟨g, j, none⟩) (hb.block g h.lt)).trans (h.froz j hj)⟩
theorem BufAt.set {W : World} {g : Nat} {l : List UInt8} (h : BufAt W g l) {k : Nat} (hk : k < l.length) (c : UInt8) : BufAt (W.setCell ⟨g, k, none⟩ (.int .u8 c.toNat)) g (l.set k c) := by
  refine ⟨by simp [h.lt], fun j hj => ?_, fun j hj => ?_⟩
  · rw [List.length_set] at hj
    by_cases e : k = j
    · subst e
      rw [World.cell?_setCell_same (h := h.cell k hk)]
      simp [List.getD, hk]
    · rw [World.cell?_setCell_other (h := by simp), h.cell j hj]
      simp [List.getD, e]
  · rw [List.length_set] at hj
    have := h.froz j hj
    rw [← this]
    exact World.frozen?_setCell _ _ _ _
theorem BufAt.made (w : World) (s : ByteArray) : BufAt (Lib.bytesWorld w 5 s) w.heap.size s.data.toList := by
  have hl := size_list s
  refine ⟨by rw [Lib.bytesWorld_size]; omega, fun j hj => Lib.bytesWorld_cell w 5 s j (by omega), fun j hj => ?_⟩
  unfold World.frozen?
  rw [Lib.bytesWorld_at_new]
  simp only [Bool.and_eq_false_iff, decide_eq_false_iff_not]
  left
  have : s.size ≤ (Lib.bytesCells w 5 s).size := by simp [Lib.bytesCells, Array.size_append]
  omega
theorem BufAt.str {W : World} {g : Nat} {l : List UInt8} (h : BufAt W g l) (n cap : Nat) (hn : l.length = n) : (convert 52 9 (.slice (some ⟨g, 0, none⟩) n cap)).run Tryd.prog W = .ok (.string (bo l)) W := by
  subst hn
  have hr := run_convert_bytes_back (P := Tryd.prog) W 52 9 5 ⟨g, 0, none⟩ cap l Tryd.underlying52 Tryd.underlying5 Tryd.underlying9 (fun j hj => ?_)
  · rw [hr]; rfl
  · rw [addr_plain', Nat.zero_add, h.cell j hj]
    simp [List.getD, hj]
/-- The first k bytes made small. -/
def smK (l : List UInt8) (k : Nat) : List UInt8 := (l.take k).map smB ++ l.drop k
theorem smK_zero (l : List UInt8) : smK l 0 = l := rfl
theorem smK_all (l : List UInt8) : smK l l.length = l.map smB := by simp [smK]
theorem smK_len (l : List UInt8) (k : Nat) : (smK l k).length = l.length := by simp [smK]; omega
theorem smK_get {l : List UInt8} {k : Nat} (h : k < l.length) : (smK l k).getD k 0 = l.getD k 0 := by
  unfold smK
  have e : ((l.take k).map smB).length = k := by simp; omega
  rw [List.getD, List.getD, List.getElem?_append_right (by omega), e, Nat.sub_self, List.getElem?_drop, Nat.add_zero]
theorem smK_step {l : List UInt8} {k : Nat} (h : k < l.length) : smK l (k + 1) = (smK l k).set k (smB (l.getD k 0)) := by
  unfold smK
  have e : ((l.take k).map smB).length = k := by simp; omega
  rw [List.set_append_right _ _ (by omega), e, Nat.sub_self, List.drop_eq_getElem_cons h, List.set_cons_zero, List.take_add_one, List.getElem?_eq_getElem h, List.map_append, List.append_assoc]
  simp only [List.getD, h, getElem?_pos]
  rfl
theorem smK_same {l : List UInt8} {k : Nat} (h : k < l.length) (hc : smB (l.getD k 0) = l.getD k 0) : smK l (k + 1) = smK l k := by
  rw [smK_step h, hc, ← smK_get h]
  have hl : k < (smK l k).length := by rw [smK_len]; exact h
  simp [List.getD, hl]
theorem smB_up {c : UInt8} (h : 65 ≤ c.toNat ∧ c.toNat ≤ 90) : (smB c).toNat = c.toNat + 32 := by
  unfold smB
  rw [if_pos h, UInt8.toNat_add]
  have : (32 : UInt8).toNat = 32 := rfl
  omega
theorem smB_else {c : UInt8} (h : ¬ (65 ≤ c.toNat ∧ c.toNat ≤ 90)) : smB c = c := by
  unfold smB
  rw [if_neg h]

set_option maxRecDepth 100000 in
set_option maxHeartbeats 1000000 in
theorem small_any (s : ByteArray) (hs : s.size ≤ 1000000) (w : World) : Calls Tryd.prog 39 #[.string s] w (fun e w' => e = .returned (.string (bo (s.data.toList.map smB))) ∧ Below w.heap.size w w') := by
  have hlen := size_list s
  have hcv := Lib.run_convert_string_bytes (P := Tryd.prog) w 9 52 5 s (u := .string) Tryd.underlying9 Tryd.underlying52 Tryd.underlying5
  have HB1 := hideL (Lib.bytesWorld_below w 5 s)
  have HM := hideL (BufAt.made w s)
  obtain ⟨W1, hW1⟩ : ∃ W1, W1 = Lib.bytesWorld w 5 s := ⟨_, rfl⟩
  rw [← hW1] at hcv HB1 HM
  obtain ⟨n, hn⟩ : ∃ n, s.size = n := ⟨_, rfl⟩
  generalize grownCap w s.size 0 5 = cap at hcv
  rw [hn] at hcv hlen hs
  obtain ⟨L, hL⟩ : ∃ L, s.data.toList = L := ⟨_, rfl⟩
  rw [hL] at HM hlen ⊢
  have HL := hideL hlen
  clear hW1 hn hL hlen
  go_enter Tryd.func39, Tryd.ntmps39
  go_wp2_with fail
  go_loopw [10] (fun i wr => ∃ k : Nat, k ≤ n ∧ i = .int .i64 k ∧ HidL (BufAt wr w.heap.size (smK L k)) ∧ HidL (Below w.heap.size w wr)) (fun i _ => n - (RowKit.intOf i).toNat)
  case atStart => exact ⟨0, Nat.zero_le _, rfl, HM, HB1⟩
  case round =>
    obtain ⟨k, hk, rfl, HD, HB⟩ := hrel
    clear HM HB1 hcv
    obtain ⟨W, rfl⟩ : ∃ W, W = wr := ⟨_, rfl⟩
    by_cases hlt : k < n
    · have hlt' : (k : Int) < (n : Int) := by omega
      have hkl : k < L.length := by rw [HL.out]; exact hlt
      have hkm : k < (smK L k).length := by rw [smK_len]; exact hkl
      have d0 := HD.out.cell k hkm
      have f0 := HD.out.froz k hkm
      rw [smK_get hkl] at d0
      have hset := HD.out.set hkm (smB (L.getD k 0))
      rw [← smK_step hkl] at hset
      have hsame := @smK_same L k hkl
      generalize L.getD k 0 = c at *
      have c255 := c.toNat_lt
      by_cases hc : 65 ≤ c.toNat ∧ c.toNat ≤ 90
      · have h1 : (65 : Int) ≤ (c.toNat : Int) := by omega
        have h2 : (c.toNat : Int) ≤ 90 := by omega
        rw [smB_up hc] at hset
        have HS := hideL hset
        clear hset hsame HD
        have w1 : IntKind.u8.wrap ((c.toNat : Int) - 65) = ((c.toNat - 65 : Nat) : Int) := by rw [IntKind.wrap_u8]; omega
        have w2 : IntKind.u8.wrap (((c.toNat - 65 : Nat) : Int) + 97) = ((c.toNat + 32 : Nat) : Int) := by rw [IntKind.wrap_u8]; omega
        have HB2 := hideL (HB.out.setCell (p := ⟨w.heap.size, k, none⟩) (Nat.le_refl _) (.int .u8 (c.toNat + 32 : Nat)))
        go_wp2_with fail
        go_roundw
        case rel => exact ⟨k + 1, by omega, by go_num, HS, HB2⟩
        case measure => simp [RowKit.intOf]; omega
      · rw [smB_else hc] at hsame
        have HS := HD.out
        rw [← hsame rfl] at HS
        have HS2 := hideL HS
        have hc2 : ¬ (65 : Int) ≤ (c.toNat : Int) ∨ ((65 : Int) ≤ (c.toNat : Int) ∧ ¬ (c.toNat : Int) ≤ 90) := by omega
        clear hset hsame HD HS f0 hc
        rcases hc2 with h1 | ⟨h1, h2⟩
        · go_wp2_with fail
          go_roundw
          case rel => exact ⟨k + 1, by omega, by go_num, HS2, HB⟩
          case measure => simp [RowKit.intOf]; omega
        · go_wp2_with fail
          go_roundw
          case rel => exact ⟨k + 1, by omega, by go_num, HS2, HB⟩
          case measure => simp [RowKit.intOf]; omega
    · obtain rfl : k = n := by omega
      have hlt' : ¬ (k : Int) < (k : Int) := by omega
      have hD := HD.out
      rw [← HL.out, smK_all] at hD
      have hcb := hD.str k cap (by rw [List.length_map]; exact HL.out)
      clear HD hD
      go_wp2_with fail
      go_ret
      exact ⟨rfl, HB.out⟩
set_option maxRecDepth 100000 in
set_option maxHeartbeats 1000000 in
theorem smallR_any (s : ByteArray) (hs : s.size ≤ 1000000) (w : World) : Calls Tryd.prog 41 #[.string s] w (fun e w' => e = .returned (.string (bo (s.data.toList.map smB))) ∧ Below w.heap.size w w') := by
  have hlen := size_list s
  have hcv := Lib.run_convert_string_bytes (P := Tryd.prog) w 9 52 5 s (u := .string) Tryd.underlying9 Tryd.underlying52 Tryd.underlying5
  have HB1 := hideL (Lib.bytesWorld_below w 5 s)
  have HM := hideL (BufAt.made w s)
  obtain ⟨W1, hW1⟩ : ∃ W1, W1 = Lib.bytesWorld w 5 s := ⟨_, rfl⟩
  rw [← hW1] at hcv HB1 HM
  obtain ⟨n, hn⟩ : ∃ n, s.size = n := ⟨_, rfl⟩
  generalize grownCap w s.size 0 5 = cap at hcv
  rw [hn] at hcv hlen hs
  obtain ⟨L, hL⟩ : ∃ L, s.data.toList = L := ⟨_, rfl⟩
  rw [hL] at HM hlen ⊢
  have HL := hideL hlen
  clear hW1 hn hL hlen
  go_enter Tryd.func41, Tryd.ntmps41
  go_wp2_with fail
  go_loopw [4] (fun i wr => ∃ k : Nat, k ≤ n ∧ i = .int .i64 k ∧ HidL (BufAt wr w.heap.size (smK L k)) ∧ HidL (Below w.heap.size w wr)) (fun i _ => n - (RowKit.intOf i).toNat)
  case atStart => exact ⟨0, Nat.zero_le _, rfl, HM, HB1⟩
  case round =>
    obtain ⟨k, hk, rfl, HD, HB⟩ := hrel
    clear HM HB1 hcv
    obtain ⟨W, rfl⟩ : ∃ W, W = wr := ⟨_, rfl⟩
    by_cases hlt : k < n
    · have hlt' : (k : Int) < (n : Int) := by omega
      have hkl : k < L.length := by rw [HL.out]; exact hlt
      have hkm : k < (smK L k).length := by rw [smK_len]; exact hkl
      have d0 := HD.out.cell k hkm
      have f0 := HD.out.froz k hkm
      rw [smK_get hkl] at d0
      have hset := HD.out.set hkm (smB (L.getD k 0))
      rw [← smK_step hkl] at hset
      have hsame := @smK_same L k hkl
      generalize L.getD k 0 = c at *
      have c255 := c.toNat_lt
      by_cases hc : 65 ≤ c.toNat ∧ c.toNat ≤ 90
      · have h1 : (65 : Int) ≤ (c.toNat : Int) := by omega
        have h2 : (c.toNat : Int) ≤ 90 := by omega
        rw [smB_up hc] at hset
        have HS := hideL hset
        clear hset hsame HD
        have w2 : IntKind.u8.wrap ((c.toNat : Int) + 32) = ((c.toNat + 32 : Nat) : Int) := by rw [IntKind.wrap_u8]; omega
        have HB2 := hideL (HB.out.setCell (p := ⟨w.heap.size, k, none⟩) (Nat.le_refl _) (.int .u8 (c.toNat + 32 : Nat)))
        go_wp2_with fail
        go_roundw
        case rel => exact ⟨k + 1, by omega, by go_num, HS, HB2⟩
        case measure => simp [RowKit.intOf]; omega
      · rw [smB_else hc] at hsame
        have HS := HD.out
        rw [← hsame rfl] at HS
        have HS2 := hideL HS
        have hc2 : ¬ (65 : Int) ≤ (c.toNat : Int) ∨ ((65 : Int) ≤ (c.toNat : Int) ∧ ¬ (c.toNat : Int) ≤ 90) := by omega
        clear hset hsame HD HS f0 hc
        rcases hc2 with h1 | ⟨h1, h2⟩
        · go_wp2_with fail
          go_roundw
          case rel => exact ⟨k + 1, by omega, by go_num, HS2, HB⟩
          case measure => simp [RowKit.intOf]; omega
        · go_wp2_with fail
          go_roundw
          case rel => exact ⟨k + 1, by omega, by go_num, HS2, HB⟩
          case measure => simp [RowKit.intOf]; omega
    · obtain rfl : k = n := by omega
      have hlt' : ¬ (k : Int) < (k : Int) := by omega
      have hD := HD.out
      rw [← HL.out, smK_all] at hD
      have hcb := hD.str k cap (by rw [List.length_map]; exact HL.out)
      clear HD hD
      go_wp2_with fail
      go_ret
      exact ⟨rfl, HB.out⟩
end Go.Proofs.YtilefgmlnmpeoaaDoor
