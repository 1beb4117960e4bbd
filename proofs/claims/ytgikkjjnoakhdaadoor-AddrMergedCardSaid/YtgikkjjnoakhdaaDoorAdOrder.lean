/- Package addr: inOrder. -/
import Derived.Test.YtgikkjjnoakhdaaDoorAdSort
namespace Go.Proofs.YtgikkjjnoakhdaaDoor
open Go.RowKit

theorem filter_take (l : List Net) (k : Nat) (h : k < l.length) : (l.take (k + 1)).filter mayB = (l.take k).filter mayB ++ (if mayB (l.getD k default) = true then [l.getD k default] else []) := by
  rw [List.take_add_one, List.filter_append, List.getElem?_eq_getElem h]
  simp [List.getD, h, List.filter_cons]

/-- What inOrder answers. -/
def OrdPost (w : World) (l : List Net) (e : Ending) (w' : World) : Prop :=
  ∃ v l', e = .returned v ∧ CRow w' w.heap.size v l' ∧ l'.Perm (l.filter mayB) ∧ l'.Pairwise lexle ∧ Below w.heap.size w w'

set_option maxRecDepth 100000 in
set_option maxHeartbeats 1000000 in
theorem order_any (v : Value) (l : List Net) (w : World) (hC : CAt w v l) (hf : ∀ c ∈ l, c.a < 4294967296) (hl : l.length ≤ 1000) : Calls Tryd.prog 47 #[v] w (OrdPost w l) := by
  obtain ⟨ao, cap, rfl⟩ := hC.len
  obtain ⟨n, hn⟩ : ∃ n, l.length = n := ⟨_, rfl⟩
  rw [hn] at hC hl ⊢
  have HC := hide hC
  have HN := hide hn
  clear hC hn
  go_enter Tryd.func47, Tryd.ntmps47
  go_wp2_with fail
  go_loopw [3, 8] (fun r i wr => ∃ k : Nat, k ≤ n ∧ i = .int .i64 k ∧ CRow wr w.heap.size r ((l.take k).filter mayB) ∧ Below w.heap.size w wr) (fun _ i _ => n - (intOf i).toNat)
  case atStart => exact ⟨0, Nat.zero_le _, rfl, CRow.nil _ _, Below.refl _ _⟩
  case round =>
    obtain ⟨k, hk, rfl, hR, hB⟩ := hrel
    by_cases hlt : k < n
    · obtain ⟨b, o, hao, hbl, hc0, hc1⟩ := HC.out.at (k := k) hlt
      subst hao
      have hlt' : (k : Int) < (n : Int) := by omega
      have d0 := (hB.cell (p := ⟨b, o + k * 2, none⟩) hbl).trans hc0
      have d1 := (hB.cell (p := ⟨b, o + k * 2 + 1, none⟩) hbl).trans hc1
      have hft := filter_take l k (by rw [HN.out]; exact hlt)
      have hfa := hf (l.getD k default) (by
        have hk2 : k < l.length := by rw [HN.out]; exact hlt
        rw [List.getD_eq_getElem?_getD, List.getElem?_eq_getElem hk2]
        exact List.getElem_mem hk2)
      generalize l.getD k default = c at *
      have HR := hide hR
      have HB := hide hB
      have HFT := hide hft
      clear hR hB hft hc0 hc1
      have HM := hide (fun W => may_any c hfa W)
      have HB0 := hide (HB.out.alloc HB.out.size (.cells #[.int .u32 c.a, .int .i64 c.b] 24))
      have HR0 := hide (HR.out.alloc (.cells #[.int .u32 c.a, .int .i64 c.b] 24))
      have HX0 := hide (BoxAt.new wr c.a c.b)
      cases hm : mayB c with
      | false =>
        rw [hm] at HM HFT
        have hft2 := HFT.out
        rw [if_neg (by simp), List.append_nil] at hft2
        have HF2 := hide hft2
        clear hft2 HFT hm
        go_wp2_with fail
        refine (HM.out _).mono ?_
        rintro e w2 ⟨rfl, hB2⟩
        go_wp2_with fail
        go_roundw
        case rel => exact ⟨k + 1, by omega, by go_num, by rw [HF2.out]; exact HR0.out.below hB2, HB0.out.trans (hB2.mono HB0.out.size)⟩
        case measure => simp [intOf]; omega
      | true =>
        rw [hm] at HM HFT
        have hft2 := HFT.out
        rw [if_pos rfl] at hft2
        have HF2 := hide hft2
        clear hft2 HFT hm
        go_wp2_with fail
        refine (HM.out _).mono ?_
        rintro e w2 ⟨rfl, hB2⟩
        have hx := HX0.out.next hB2
        have c0 := hx.c0
        have c1 := hx.c1
        have hr := (HR0.out.below hB2).alloc (.cells #[.int .u32 c.a, .int .i64 c.b] 24)
        have hb := HB0.out.trans (hB2.mono HB0.out.size)
        have hb3 := hb.alloc hb.size (.cells #[.int .u32 c.a, .int .i64 c.b] 24)
        obtain ⟨v4, w4, hrun, hR4, hK4, _⟩ := append_nets _ w.heap.size u3 _ hr (.slice (some ⟨w2.heap.size, 0, none⟩) 1 1) [c] (box_row _ w2.heap.size c (heap_alloc_new w2 _) 1) (by
          have h1 := List.length_filter_le mayB (l.take k)
          have h2 := List.length_take_le k l
          simp
          omega) hb3.size
        have HRUN := hide hrun
        have HR4 := hide hR4
        have HB4 := hide (hK4.through hb3 (fun x hx => hr.ge hx) hb3.size)
        clear hrun hR4 hK4 hr hb hb3 hx hB2
        go_wp2_with (at_builtin; with_reducible refine wpList_append_run rfl (.tmp 14) (.tmp 16) 37 37 37 rfl rfl u3 (.slice (some ⟨w2.heap.size, 0, none⟩) 1 1) v4 w4 rfl rfl HRUN.out ?_)
        go_roundw
        case rel => exact ⟨k + 1, by omega, by go_num, by rw [HF2.out]; exact HR4.out, HB4.out⟩
        case measure => simp [intOf]; omega
    · obtain rfl : k = n := by omega
      rw [← HN.out, List.take_length] at hR
      have hlen := List.length_filter_le mayB l
      rw [HN.out] at hlen
      have HS := hide (sort_any wr w.heap.size u3 _ hR (by omega))
      have HG := hide (fun x (hx : u3.ownBlock = some x) => hR.ge hx)
      have HB := hide hB
      clear hR hB
      go_wp2_with fail
      refine HS.out.mono ?_
      rintro e w2 ⟨rfl, l', hp, hl', hr, hk2⟩
      have HF := hide (And.intro hp (And.intro hl' (And.intro hr hk2)))
      clear hp hl' hr hk2
      go_wp2_with fail
      go_ret
      exact ⟨_, l', rfl, HF.out.2.2.1, HF.out.1, HF.out.2.1, HF.out.2.2.2.through HB.out (fun x hx => HG.out x hx) HB.out.size⟩
end Go.Proofs.YtgikkjjnoakhdaaDoor
