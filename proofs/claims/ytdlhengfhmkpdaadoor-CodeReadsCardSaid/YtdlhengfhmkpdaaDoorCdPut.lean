/- Package code: Put. -/
import Derived.Test.YtdlhengfhmkpdaaDoorCdText
namespace Go.Proofs.YtdlhengfhmkpdaaDoor
open Go.RowKit

/-- The slice value v reads as the numbers l. -/
def NAt (w : World) (v : Value) (l : List Nat) : Prop := ∃ (ao : Option Addr) (cap : Nat), v = .slice ao l.length cap ∧ (ao = none → l = []) ∧
  ∀ ad, ao = some ad → ∀ i, i < l.length → ad.spot = none ∧ ad.block < w.heap.size ∧ w.cell? (ad.add i) = some (.int .u64 (l.getD i 0 : Nat))

theorem NAt.keep {F : Nat → Prop} {w w' : World} {v : Value} {l : List Nat} (h : NAt w v l) (hk : Keep F w w') (hf : Off F v) : NAt w' v l := by
  obtain ⟨ao, cap, rfl, hn, ha⟩ := h
  refine ⟨ao, cap, rfl, hn, fun ad had i hi => ?_⟩
  subst had
  obtain ⟨h0, h1, h2⟩ := ha ad rfl i hi
  refine ⟨h0, Nat.lt_of_lt_of_le h1 hk.size, ?_⟩
  rw [← h2]
  have hb := hk.block ad.block h1 (hf _ rfl)
  simp only [World.cell?, addr_block, hb]
theorem NAt.len {w : World} {v : Value} {l : List Nat} (h : NAt w v l) : ∃ ao cap, v = .slice ao l.length cap := by
  obtain ⟨ao, cap, hv, _⟩ := h
  exact ⟨ao, cap, hv⟩
theorem NAt.cell {w : World} {ao : Option Addr} {n c : Nat} {l : List Nat} (h : NAt w (.slice ao n c) l) {i : Nat} (hi : i < n) : ∃ ad, ao = some ad ∧ ad.spot = none ∧ w.cell? (ad.add i) = some (.int .u64 (l.getD i 0 : Nat)) := by
  obtain ⟨ao', cap, hv, hn, ha⟩ := h
  simp at hv
  obtain ⟨rfl, rfl, rfl⟩ := hv
  cases hao : ao with
  | none => rw [hn hao] at hi; simp at hi
  | some ad => obtain ⟨h0, _, h2⟩ := ha ad hao i hi; exact ⟨ad, rfl, h0, h2⟩

/-- Numbers' bytes, one behind the other. -/
def putS (l : List Nat) : List Int := (l.map uintS).flatten
theorem putS_succ (l : List Nat) (k : Nat) (h : k < l.length) : putS (l.take (k + 1)) = putS (l.take k) ++ uintS (l.getD k 0) := by
  rw [List.take_succ_eq_append_getElem h, putS, List.map_append, List.flatten_append]
  simp [putS, List.getD, h]
theorem putS_len (l : List Nat) : (putS l).length ≤ 10 * l.length := by
  induction l with
  | nil => simp [putS]
  | cons x l ih =>
    have := uintS_len x
    simp only [putS, List.map_cons, List.flatten_cons, List.length_append, List.length_cons] at ih ⊢
    omega

set_option maxRecDepth 100000 in
set_option maxHeartbeats 1000000 in
theorem put_any (l : List Nat) (sv : Value) (W : World) (B : Nat) (F : Nat → Prop) (g : Nat) (xs : List Int) (ht : Tab W) (hB2 : 2 ≤ B) (h : Wr W B F g xs) (hN : NAt W sv l) (ho : Off F sv) (hr : ∀ x ∈ l, x < 18446744073709551616) (hb : xs.length + 10 * l.length ≤ 140737488355328) :
    Calls Tryd.prog 60 #[.pointer (some ⟨g, 0, none⟩), sv] W (WrPost W B F g (xs ++ putS l)) := by
  obtain ⟨ao, cap, rfl⟩ := hN.len
  have HH := hide h
  have HN := hide hN
  have HO := hide ho
  have HT := hide ht
  have HR := hide hr
  obtain ⟨n, hn⟩ : ∃ n, n = l.length := ⟨_, rfl⟩
  have HNN := hide hn
  rw [← hn] at HN HO hb ⊢
  clear h hN ho ht hr hn
  go_enter Tryd.func60, Tryd.ntmps60
  go_wp2_with fail
  go_loopw [8] (fun i wr => ∃ k : Nat, k ≤ n ∧ i = .int .i64 k ∧ Keep F W wr ∧ Wr wr B (Up F W wr) g (xs ++ putS (l.take k)))
    (fun i _ => n - (intOf i).toNat)
  case atStart => exact ⟨0, by omega, rfl, Keep.refl _ _, (by
    simp only [List.take_zero, putS, List.map_nil, List.flatten_nil, List.append_nil]
    exact HH.out.mono (fun k h => .inl h) (fun k h => by rcases h with h | h; exact HH.out.ge k h; omega))⟩
  case round =>
    obtain ⟨k, hk, rfl, hK, hw⟩ := hrel
    by_cases hlt : k < n
    · obtain ⟨ad, rfl, hs, hc⟩ := (HN.out.keep hK HO.out).cell hlt
      have hlk : k < l.length := by rw [← HNN.out]; exact hlt
      have hx : l.getD k 0 < 18446744073709551616 := HR.out _ (by simp [List.getD, hlk])
      have hpl := putS_len (l.take k)
      have htl : (l.take k).length = k := by simp; omega
      have ht2 : Tab wr := HT.out.below (hK.below (B := 2) (fun j hj => Nat.le_trans hB2 (HH.out.ge j hj).1) HT.out.two) (Nat.le_refl _)
      have HU := hide (uint_any (l.getD k 0) hx wr B (Up F W wr) g _ ht2 hw (by rw [List.length_append]; omega))
      have HP := hide (putS_succ l k hlk)
      have HK := hide hK
      clear hK hw hpl htl hx hlk ht2
      generalize l.getD k 0 = x at hc HU HP
      go_wp2_with fail
      refine HU.out.mono ?_
      intro e w' hp
      have hq := WrPost.seq HK.out hp HH.out.ge HH.out.hB
      obtain ⟨rfl, hk2, hw2⟩ := hq
      have HK2 := hide hk2
      have HW2 := hide hw2
      clear hk2 hw2 hp HK HU
      go_wp2_with fail
      go_roundw
      case rel => exact ⟨k + 1, by omega, by go_num, HK2.out, (by rw [HP.out, ← List.append_assoc]; exact HW2.out)⟩
      case measure => simp [intOf]; omega
    · obtain rfl : k = n := by omega
      go_wp2_with fail
      first | go_end0 | refine bodyPost_ret (results_none rfl _ _ _) rfl ?_
      rw [HNN.out, List.take_length] at hw
      exact ⟨rfl, hK, hw⟩
end Go.Proofs.YtdlhengfhmkpdaaDoor
