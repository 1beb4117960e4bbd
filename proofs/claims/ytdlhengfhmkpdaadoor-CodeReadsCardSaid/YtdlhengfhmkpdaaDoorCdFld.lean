/- The law's own fields: in memory, their kinds. -/
import Derived.Test.YtdlhengfhmkpdaaDoorCdTop
namespace Go.Proofs.YtdlhengfhmkpdaaDoor
open Go.RowKit

structure Fld where
  kind : Int
  most : Int
  more : Int
  n : Nat
  s : ByteArray

def Fld.cells (f : Fld) : List Value := [.int .i64 f.kind, .int .i64 f.most, .int .i64 f.more, .int .u64 (f.n : Nat), .string f.s]
/-- A field that Go can hold. -/
def Fld.ok (f : Fld) : Prop := f.n < 18446744073709551616 ∧ f.s.size ≤ maxLen ∧ -9223372036854775808 ≤ f.most ∧ f.most < 9223372036854775808

instance : Inhabited Fld := ⟨⟨0, 0, 0, 0, ByteArray.empty⟩⟩

/-- The slice value v reads as the fields l. -/
def FAt (w : World) (v : Value) (l : List Fld) : Prop := ∃ (ao : Option Addr) (cap : Nat), v = .slice ao l.length cap ∧ (ao = none → l = []) ∧
  ∀ ad, ao = some ad → ∀ i, i < l.length → ad.spot = none ∧ ad.block < w.heap.size ∧ ∀ j, j < 5 → w.cell? (ad.add (i * 5 + j)) = (l.getD i default).cells[j]?

theorem FAt.len {w : World} {v : Value} {l : List Fld} (h : FAt w v l) : ∃ ao cap, v = .slice ao l.length cap := by
  obtain ⟨ao, cap, hv, _⟩ := h
  exact ⟨ao, cap, hv⟩
theorem FAt.keep {F : Nat → Prop} {w w' : World} {v : Value} {l : List Fld} (h : FAt w v l) (hk : Keep F w w') (hf : Off F v) : FAt w' v l := by
  obtain ⟨ao, cap, rfl, hn, ha⟩ := h
  refine ⟨ao, cap, rfl, hn, fun ad had i hi => ?_⟩
  subst had
  obtain ⟨h0, h1, h2⟩ := ha ad rfl i hi
  refine ⟨h0, Nat.lt_of_lt_of_le h1 hk.size, fun j hj => ?_⟩
  rw [← h2 j hj]
  have hb := hk.block ad.block h1 (hf _ rfl)
  simp only [World.cell?, addr_block, hb]
theorem FAt.below {w w' : World} {v : Value} {l : List Fld} (h : FAt w v l) (hb : Below w.heap.size w w') : FAt w' v l :=
  h.keep (Keep.of_below hb : Keep (fun _ => False) w w') (fun _ _ => id)

theorem FAt.at {w : World} {ao : Option Addr} {n cap : Nat} {l : List Fld} (h : FAt w (.slice ao n cap) l) {k : Nat} (hk : k < n) : ∃ b o, ao = some ⟨b, o, none⟩ ∧ b < w.heap.size ∧
    w.cell? ⟨b, o + k * 5, none⟩ = some (.int .i64 (l.getD k default).kind) ∧ w.cell? ⟨b, o + k * 5 + 1, none⟩ = some (.int .i64 (l.getD k default).most) ∧ w.cell? ⟨b, o + k * 5 + 2, none⟩ = some (.int .i64 (l.getD k default).more) ∧
    w.cell? ⟨b, o + k * 5 + 3, none⟩ = some (.int .u64 ((l.getD k default).n : Nat)) ∧ w.cell? ⟨b, o + k * 5 + 4, none⟩ = some (.string (l.getD k default).s) := by
  obtain ⟨ao', cap', hv, hn, ha⟩ := h
  injection hv with e1 e2 e3
  subst e1 e2
  cases hao : ao with
  | none => rw [hn hao] at hk; simp at hk
  | some ad =>
    obtain ⟨h0, h1, h2⟩ := ha ad hao k hk
    obtain ⟨b, o, s⟩ := ad
    cases h0
    have f := fun j (hj : j < 5) => (show w.cell? ⟨b, o + (k * 5 + j), none⟩ = _ from addr_plain' b o (k * 5 + j) ▸ h2 j hj)
    refine ⟨b, o, rfl, h1, ?_, ?_, ?_, ?_, ?_⟩
    · exact f 0 (by omega)
    · exact f 1 (by omega)
    · exact f 2 (by omega)
    · exact f 3 (by omega)
    · exact f 4 (by omega)

/-- What the law counts of fields. -/
def cnt (l : List Fld) : Nat := (l.map fun f => 1 + f.s.size / 50).sum
theorem cnt_succ (l : List Fld) (k : Nat) (h : k < l.length) : cnt (l.take (k + 1)) = cnt (l.take k) + (1 + (l.getD k default).s.size / 50) := by
  rw [List.take_succ_eq_append_getElem h, cnt, List.map_append, List.sum_append]
  simp [cnt, List.getD, h]
theorem cnt_take (l : List Fld) (k : Nat) : cnt (l.take k) ≤ cnt l := by
  conv => rhs; rw [← List.take_append_drop k l]
  rw [cnt, cnt, List.map_append, List.sum_append]
  omega
theorem cnt_len (l : List Fld) : l.length ≤ cnt l := by
  induction l with
  | nil => simp [cnt]
  | cons f l ih => simp only [cnt, List.map_cons, List.sum_cons, List.length_cons] at ih ⊢; omega

theorem tdiv50 (n : Nat) : Int.tdiv (n : Int) 50 = ((n / 50 : Nat) : Int) := by
  rw [Int.tdiv_eq_ediv_of_nonneg (by omega)]
  rfl

set_option maxRecDepth 100000 in
theorem long_any (l : List Fld) (sv : Value) (w : World) (h : FAt w sv l) (hl : ∀ f ∈ l, f.ok) :
    Calls Tryd.prog 11 #[sv] w (fun e w' => e = .returned (.bool (decide (1000 < cnt l))) ∧ w' = w) := by
  obtain ⟨ao, cap, rfl⟩ := h.len
  have HF := hide h
  have HL := hide hl
  obtain ⟨n, hn⟩ : ∃ n, n = l.length := ⟨_, rfl⟩
  have HN := hide hn
  rw [← hn] at HF ⊢
  clear h hl hn
  go_enter Tryd.func11, Tryd.ntmps11
  go_wp2_with fail
  go_loopw [3, 4] (fun a i wr => ∃ k c : Nat, k ≤ n ∧ i = .int .i64 k ∧ a = .int .i64 c ∧ Hid (c = cnt (l.take k)) ∧ c ≤ 1000 ∧ k ≤ c ∧ wr = w)
      (fun a i _ => n - (intOf i).toNat)
  case atStart => exact ⟨0, 0, by omega, rfl, rfl, hide (by simp [cnt]), by omega, by omega, rfl⟩
  case round =>
    obtain ⟨k, c, hk, rfl, rfl, hc, hc2, hkc, rfl⟩ := hrel
    by_cases hlt : k < n
    · obtain ⟨b, o, rfl, hb, c0, c1, c2, c3, c4⟩ := HF.out.at hlt
      have hok : (l.getD k default).ok := HL.out _ (by simp [List.getD, show k < l.length by rw [← HN.out]; exact hlt])
      have hs := hok.2.1
      have HS := hide (cnt_succ l k (by rw [← HN.out]; exact hlt))
      have HT := hide (cnt_take l (k + 1))
      generalize l.getD k default = f at c0 c1 c2 c3 c4 hok hs HS
      have hd := tdiv50 f.s.size
      obtain ⟨d, hdd⟩ : ∃ d, d = f.s.size / 50 := ⟨_, rfl⟩
      rw [← hdd] at hd HS
      have hdl : d ≤ 200000000000000000 := by unfold maxLen at hs; omega
      clear hok hs hdd
      have hw1 : IntKind.i64.wrap (d : Int) = d := IntWalk.i64_in _ (by omega)
      by_cases hbig : 1000 < c + (1 + d)
      · have hbi : (c : Int) + (1 + (d : Int)) > 1000 := by omega
        go_wp2_with fail
        go_ret
        exact ⟨by rw [hc.out, ← HS.out] at hbig; have := HT.out; simp; omega, rfl⟩
      · have hbi : ¬ (c : Int) + (1 + (d : Int)) > 1000 := by omega
        go_wp2_with fail
        go_roundw
        case rel => exact ⟨k + 1, c + (1 + d), by omega, by go_num, (by first | trivial | (rw [hw1]; go_num) | go_num), hide (by rw [HS.out, hc.out]), by omega, by omega, (by first | trivial | rfl)⟩
        case measure => simp [intOf]; omega
    · obtain rfl : k = n := by omega
      go_wp2_with fail
      go_ret
      refine ⟨?_, rfl⟩
      have := hc.out
      rw [HN.out, List.take_length] at this
      rw [← this]
      simp; omega
end Go.Proofs.YtdlhengfhmkpdaaDoor
