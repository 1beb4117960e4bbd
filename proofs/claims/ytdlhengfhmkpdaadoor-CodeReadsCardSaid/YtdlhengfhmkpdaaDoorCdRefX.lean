/- The document's reader: Text. -/
import Derived.Test.YtdlhengfhmkpdaaDoorCdRefT
namespace Go.Proofs.YtdlhengfhmkpdaaDoor
open Go.RowKit

theorem wrap_most (most : Int) (h0 : 0 ≤ most) (h1 : most < 9223372036854775808) : IntKind.u64.wrap most = most := IntWalk.u64_in _ (by omega)

set_option maxRecDepth 100000 in
set_option maxHeartbeats 2000000 in
theorem textM_no (most : Int) (hm1 : most < 9223372036854775808) (W : World) (B : Nat) (F : Nat → Prop) (g : Nat) (bs : List Int) (bad : Bool) (h : RdM W B F g bs bad) (hr : ∀ x ∈ bs, 0 ≤ x ∧ x < 256) (hb : bs.length ≤ 140737488355328) (hn : bad = true ∨ cutTS most bs = none) :
    Calls Tryd.prog 21 #[.pointer (some ⟨g, 0, none⟩), .int .i64 most] W (fun e w' => e = .returned (.string ⟨#[]⟩) ∧ Keep F W w' ∧ RdM w' B F g bs true) := by
  have HF := hide (frontM_any W B F g bs bad h hr hb)
  have HH := hide h
  have hz : bad = true ∨ (frontS bs).2 = 0 ∨ (0 < (frontS bs).2 ∧ (frontS bs).2 ≤ bs.length ∧ (frontS bs).1 < 18446744073709551616 ∧ (most < 0 ∨ most < ((frontS bs).1 : Int) ∨ bs.length - (frontS bs).2 < (frontS bs).1)) := hn.imp id (fun hc => by
    cases hy : cutUS bs with
    | none => rw [frontS_none hy]; exact .inl rfl
    | some y =>
      obtain ⟨n, e1, hn0, hnl, _, hlen, hlt⟩ := frontS_some hr hy
      rw [e1]
      rw [cutTS, hy] at hc
      dsimp only at hc ⊢
      split at hc
      · rename_i hcc
        exact .inr ⟨hn0, hnl, hlt, by omega⟩
      · cases hc)
  generalize (frontS bs).1 = x at HF hz
  generalize (frontS bs).2 = n at HF hz
  clear h hr hn
  go_enter Tryd.func21, Tryd.ntmps21
  go_wp2_with fail
  refine HF.out.mono ?_
  rintro e w1 ⟨rfl, hB⟩
  have h1 := HH.out.keep (Keep.of_below hB : Keep (fun _ => False) W w1) (fun _ _ => id)
  have HK : Hid (Keep F W w1) := hide (Keep.of_below hB)
  have HS := hide (h1.stop true)
  obtain ⟨ao, cap, hg, hs, hv, c0, c1, f0, f1⟩ := h1.cells
  clear hB h1 HF HH hg hs hv f0
  obtain ⟨l, hl⟩ : ∃ l, bs.length = l := ⟨_, rfl⟩
  rw [hl] at c0 hb hz
  clear hl
  cases bad with
  | true =>
    clear hz
    go_wp2_with fail
    go_ret
    exact ⟨rfl, HK.out.trans HS.out.2 (fun _ h => .inl h), HS.out.1⟩
  | false =>
    by_cases hn0 : n = 0
    · subst hn0
      clear hz
      go_wp2_with fail
      go_ret
      exact ⟨rfl, HK.out.trans HS.out.2 (fun _ h => .inl h), HS.out.1⟩
    · obtain ⟨hn1, hnl, hx, hcc⟩ : 0 < n ∧ n ≤ l ∧ x < 18446744073709551616 ∧ (most < 0 ∨ most < (x : Int) ∨ l - n < x) := by
        rcases hz with h | h | h
        · cases h
        · exact absurd h hn0
        · exact h
      have hnn : ¬ (n : Int) = 0 := by omega
      clear hz hn0
      by_cases hm0 : most < 0
      · clear hcc
        go_wp2_with fail
        go_ret
        exact ⟨rfl, HK.out.trans HS.out.2 (fun _ h => .inl h), HS.out.1⟩
      · have hw := wrap_most most (by omega) hm1
        by_cases hmx : most < (x : Int)
        · have hgt : (x : Int) > most := hmx
          clear hcc
          go_wp2_with fail
          go_ret
          exact ⟨rfl, HK.out.trans HS.out.2 (fun _ h => .inl h), HS.out.1⟩
        · have hgt : ¬ (x : Int) > most := hmx
          have hwl : IntKind.i64.wrap ((l : Int) - (n : Int)) = (l : Int) - (n : Int) := IntWalk.i64_in _ (by omega)
          have hwl2 : IntKind.u64.wrap ((l : Int) - (n : Int)) = (l : Int) - (n : Int) := IntWalk.u64_in _ (by omega)
          have hgl : (x : Int) > (l : Int) - (n : Int) := by omega
          clear hcc
          go_wp2_with fail
          go_ret
          exact ⟨rfl, HK.out.trans HS.out.2 (fun _ h => .inl h), HS.out.1⟩

set_option maxRecDepth 100000 in
set_option maxHeartbeats 2000000 in
theorem textM_go (most : Int) (hm1 : most < 9223372036854775808) (y : List Int × List Int) (W : World) (B : Nat) (F : Nat → Prop) (g : Nat) (bs : List Int) (h : RdM W B F g bs false) (hr : ∀ x ∈ bs, 0 ≤ x ∧ x < 256) (hb : bs.length ≤ 140737488355328) (hy : cutTS most bs = some y) :
    Calls Tryd.prog 21 #[.pointer (some ⟨g, 0, none⟩), .int .i64 most] W (fun e w' => e = .returned (.string (strOfNums y.1)) ∧ MPost W B F g y.2 false w') := by
  have HF := hide (frontM_any W B F g bs false h hr hb)
  have HH := hide h
  obtain ⟨x, n, e1, hn0, hnl, hxl, hm0, hmx, hy1, hy2⟩ : ∃ x n, frontS bs = (x, n) ∧ 0 < n ∧ n ≤ bs.length ∧ n + x ≤ bs.length ∧ 0 ≤ most ∧ (x : Int) ≤ most ∧ y.1 = (bs.drop n).take x ∧ y.2 = bs.drop (n + x) := by
    cases hc : cutUS bs with
    | none => rw [cutTS, hc] at hy; cases hy
    | some z =>
      obtain ⟨n, e1, hn0, hnl, hdr, hlen, hlt⟩ := frontS_some hr hc
      rw [cutTS, hc] at hy
      dsimp only at hy
      split at hy
      · cases hy
      · rename_i hcc
        cases hy
        refine ⟨z.1, n, e1, hn0, hnl, by omega, by omega, by omega, by rw [hdr], ?_⟩
        rw [← List.drop_drop, hdr]
  rw [e1] at HF
  have HD := hide (fun (w1 : World) (h1 : RdM w1 B F g bs false) => drop_any w1 B F g bs false (n + x) h1 hxl hb)
  obtain ⟨y1, y2⟩ := y
  dsimp only at hy1 hy2 HF ⊢
  subst hy1 hy2
  have hnn : ¬ (n : Int) = 0 := by omega
  clear h hr hy e1
  have HCS : Hid (∀ w (ao : Option Addr) (cap : Nat), SlAt w (.slice ao bs.length cap) bs → SlAt w (sl ao n x cap) ((bs.drop n).take x)) := hide (fun w ao cap h => h.cut (lo := n) (m := x) (by omega))
  obtain ⟨l, hl⟩ : ∃ l, bs.length = l := ⟨_, rfl⟩
  have HL := tuck hl
  rw [hl] at hb hnl hxl HCS
  clear hl
  go_enter Tryd.func21, Tryd.ntmps21
  go_wp2_with fail
  refine HF.out.mono ?_
  rintro e w1 ⟨rfl, hB⟩
  have h1 := HH.out.keep (Keep.of_below hB : Keep (fun _ => False) W w1) (fun _ _ => id)
  have HC := hide (HD.out w1 h1)
  have HB := hide hB
  obtain ⟨ao, cap, hg, hs, hv, c0, c1, f0, f1⟩ := h1.cells
  rw [HL.out] at hs c0
  have hcs := (HCS.out w1 ao cap hs).string (P := Tryd.prog) 22 5 9 Tryd.underlying22 Tryd.underlying5 Tryd.underlying9
  have hle := hs.le.1
  have hw := wrap_most most hm0 hm1
  have hwl : IntKind.i64.wrap ((l : Int) - (n : Int)) = (l : Int) - (n : Int) := IntWalk.i64_in _ (by omega)
  have hwl2 : IntKind.u64.wrap ((l : Int) - (n : Int)) = (l : Int) - (n : Int) := IntWalk.u64_in _ (by omega)
  have hwx : IntKind.i64.wrap (x : Int) = x := IntWalk.i64_in _ (by omega)
  have hwnx : IntKind.i64.wrap ((n : Int) + (x : Int)) = ((n + x : Nat) : Int) := by rw [← Int.natCast_add]; exact IntWalk.i64_in _ (by omega)
  have hm00 : ¬ most < 0 := by omega
  have hgt : ¬ (x : Int) > most := by omega
  have hgl : ¬ (x : Int) > (l : Int) - (n : Int) := by omega
  have hnb : ((n : Int) == 0) = false := by simpa using hnn
  have hcut := run_cut_lh (P := Tryd.prog) Tryd.underlying22 size5 ao l cap n x (by omega)
  have hcut2 := hcut
  rw [← Int.natCast_add] at hcut2
  generalize sl ao n x cap = cutv at hcs hcut hcut2
  have HGE := hide HH.out.ge
  have HOB := hide HH.out.hB
  have HOW := hide HH.out.own
  clear hB h1 HF HD HH hg hs hv f0 f1 HCS
  go_wp2_with fail
  refine HC.out.mono ?_
  rintro e w2 ⟨rfl, hp⟩
  have HP := hide (hp.pre HB.out HGE.out HOB.out HOW.out)
  clear hp HC
  go_wp2_with fail
  go_ret
  exact ⟨rfl, HP.out⟩
end Go.Proofs.YtdlhengfhmkpdaaDoor
