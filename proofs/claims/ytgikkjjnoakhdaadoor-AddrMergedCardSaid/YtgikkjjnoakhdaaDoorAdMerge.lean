/- Package addr: Merge. -/
import Derived.Test.YtgikkjjnoakhdaaDoorAdOrder
import Derived.Test.YtgikkjjnoakhdaaDoorAdJoin
import Derived.Test.YtgikkjjnoakhdaaDoorAdCan
import Derived.Test.YtgikkjjnoakhdaaDoorAdRefI
import Derived.Deep.LoopGhost
namespace Go.Proofs.YtgikkjjnoakhdaaDoor
open Go.RowKit

theorem run_cut_net (ao : Option Addr) (n cap m : Nat) (h0 : m ≤ cap) (w : World) :
    (Instr.sliceAt 37 (.slice ao n cap) none (some (.int .i64 (m : Int))) none).run Tryd.prog w = .ok (.slice ao m cap) w := by
  have h1 : (0 : Int) ≤ (m : Int) ∧ (m : Int) ≤ (cap : Int) := by omega
  have hs : (Tryd.prog.info? 24).map (·.size) = some 2 := by kernel_rfl
  simp [Instr.sliceAt, Instr.slice, run_underlying Tryd.underlying37, Instr.sliceBounds, run_sliceBound_if, run_sizeOf hs, h1]
  intro he
  cases ao with
  | none => rfl
  | some a => simp [Addr.add]

/-- A net that may be, at an address. -/
def Fit (c : Net) : Prop := Ok c ∧ c.a < 4294967296
theorem whole_fit {t c : Net} (ht : Fit t) (hc : Fit c) (hcov : coversB t c = false) : Fit (wholeOf t) := by
  have h0 : 0 < t.b := by
    apply Classical.byContradiction
    intro hn
    have hb : t.b = 0 := by have := ht.1.lo; omega
    have hd := ht.1.dvd
    have h1 := ht.2
    rw [hb, show sz 0 = 4294967296 by decide] at hd
    have ha : t.a = 0 := by
      obtain ⟨q, hq⟩ := hd
      omega
    have htop := hc.1.top hc.2
    have : coversB t c = true := (coversB_iff t c).2 ⟨ht.1, hc.1, by omega, by rw [ha, hb, show sz 0 = 4294967296 by decide]; omega⟩
    rw [this] at hcov
    cases hcov
  have h := whole_of_low ht.1 h0
  exact ⟨h.1, Nat.lt_of_le_of_lt h.2.1 ht.2⟩
theorem push_cov {t c : Net} {r : List Net} (h : coversB t c = true) : push (t :: r) c = t :: r := by rw [push, if_pos h]
theorem push_join {t c : Net} {r : List Net} (h : coversB t c = false) (h2 : joinB t c = true) : push (t :: r) c = push r (wholeOf t) := by rw [push, if_neg (by simp [h]), if_pos h2]
theorem push_on {t c : Net} {r : List Net} (h : coversB t c = false) (h2 : joinB t c = false) : push (t :: r) c = c :: t :: r := by rw [push, if_neg (by simp [h]), if_neg (by simp [h2])]
theorem push_length : ∀ (st : List Net) (c : Net), (push st c).length ≤ st.length + 1
  | [], c => by simp [push]
  | t :: r, c => by
    have ih := push_length r (wholeOf t)
    rw [push]
    split
    · simp
    · split
      · simp; omega
      · simp
theorem foldl_next (l : List Net) (k : Nat) (h : k < l.length) : (l.take (k + 1)).foldl push [] = push ((l.take k).foldl push []) (l.getD k default) := by
  rw [List.take_add_one, List.getElem?_eq_getElem h, List.foldl_append]
  simp [List.getD, h]
theorem mem_getD (l : List Net) (k : Nat) (h : k < l.length) : l.getD k default ∈ l := by
  rw [List.getD_eq_getElem?_getD, List.getElem?_eq_getElem h]
  exact List.getElem_mem h
theorem top_get (t : Net) (r : List Net) (m : Nat) (hm : r.length = m) : (t :: r).reverse.getD m default = t := by
  subst hm
  rw [List.reverse_cons]
  simp [List.getD]
theorem take_top (t : Net) (r : List Net) (m : Nat) (hm : r.length = m) : (t :: r).reverse.take m = r.reverse := by
  subst hm
  rw [List.reverse_cons, List.take_append_of_le_length (by simp)]
  exact List.take_of_length_le (by simp)

theorem all_perm {l l' : List Net} (h : l'.Perm (l.filter mayB)) (y : Nat) : allB l' y = allB l y := by
  rw [Bool.eq_iff_iff, allB, allB, List.any_eq_true, List.any_eq_true]
  constructor
  · rintro ⟨c, hc, hi⟩
    exact ⟨c, (List.mem_filter.1 (h.mem_iff.1 hc)).1, hi⟩
  · rintro ⟨c, hc, hi⟩
    refine ⟨c, h.mem_iff.2 (List.mem_filter.2 ⟨hc, ?_⟩), hi⟩
    unfold inB at hi
    exact (Bool.and_eq_true _ _ ▸ hi).1
theorem fit_of {l l' : List Net} (h : l'.Perm (l.filter mayB)) (hf : ∀ c ∈ l, c.a < 4294967296) : ∀ c ∈ l', Fit c := by
  intro c hc
  have := List.mem_filter.1 (h.mem_iff.1 hc)
  exact ⟨(mayB_iff c).1 this.2, hf c this.1⟩
theorem merge_of {l l' : List Net} (h : l'.Perm (l.filter mayB)) (hs : l'.Pairwise lexle) (hf : ∀ c ∈ l, c.a < 4294967296) : (l'.foldl push []).reverse = mergeS l := by
  have h2 := fit_of h hf
  exact merge_row l' (fun c hc => (h2 c hc).1) (fun c hc => (h2 c hc).2) hs (allB l) (fun y => (all_perm h y).symm)

/-- What Merge answers. -/
def MergePost (w : World) (l : List Net) (e : Ending) (w' : World) : Prop := ∃ v, e = .returned v ∧ CRow w' w.heap.size v (mergeS l) ∧ Below w.heap.size w w'

/-- What holds ahead of each net of the row. -/
def MAt (w : World) (n : Nat) (l1 : List Net) (r : Value) (g : Nat) (s x : Value) (wr : World) : Prop :=
  ∃ (k : Nat) (st : List Net), k + g = n ∧ x = .int .i64 k ∧ st = (l1.take k).foldl push [] ∧ (∀ t ∈ st, Fit t) ∧ CRow wr w.heap.size s st.reverse ∧ CRow wr w.heap.size r l1 ∧ Apart s r ∧ st.length ≤ k ∧ Below w.heap.size w wr
/-- What holds ahead of each look at the top. -/
def MIn (w : World) (l1 : List Net) (r : Value) (gc : Nat) (st : List Net) (c : Net) (g : Nat) (s : Value) (wq : World) : Prop :=
  ∃ (st' : List Net) (c' : Net), st'.length = g ∧ g ≤ st.length ∧ push st' c' = push st c ∧ (∀ t ∈ st', Fit t) ∧ Fit c' ∧ CRow wq w.heap.size s st'.reverse ∧ CRow wq w.heap.size r l1 ∧ Apart s r ∧ s.ownBlock ≠ some gc ∧ r.ownBlock ≠ some gc ∧ BoxAt wq gc c'.a c'.b ∧ w.heap.size ≤ gc ∧ Below w.heap.size w wq

theorem CRow.le {W : World} {B n c : Nat} {ao : Option Addr} {l : List Net} (h : CRow W B (.slice ao n c) l) : n ≤ c := by
  obtain ⟨_, h2 | ⟨g', cap', cur, e1, e2, e3, e4, e5, e6, e7⟩⟩ := h
  · have h3 := h2.1
    injection h3 with _ h4 h5
    omega
  · injection e1 with _ h4 h5
    omega
theorem MAt.on {w Wx w4 : World} {n k g : Nat} {l1 st st' : List Net} {c c' : Net} {r v v4 : Value} (hkg : k + (g + 1) = n) (hnext : (l1.take (k + 1)).foldl push [] = push st c) (hlen : st.length ≤ k) (hpu : push st c = c' :: st') (hfit : ∀ t ∈ st', Fit t) (hfc : Fit c')
    (hL : CRow Wx w.heap.size r l1) (hAp : Apart v r) (hK : Keep (fun x => v.ownBlock = some x) Wx w4) (hR : CRow w4 w.heap.size v4 (st'.reverse ++ [c'])) (hown : v4.ownBlock = v.ownBlock ∨ v4.ownBlock = some Wx.heap.size) (hB : Below w.heap.size w Wx)
    (hge : ∀ x, v.ownBlock = some x → w.heap.size ≤ x) : MAt w n l1 r g v4 (.int .i64 ((k : Int) + 1)) w4 := by
  refine ⟨k + 1, c' :: st', by omega, by go_num, by rw [hnext, hpu], fun t ht => ?_, ?_, hL.keep hK (fun x hx he => hAp x he hx), fun x hx he => ?_, ?_, hK.through hB hge hB.size⟩
  · rcases List.mem_cons.1 ht with rfl | ht
    · exact hfc
    · exact hfit t ht
  · rw [List.reverse_cons]; exact hR
  · rcases hown with h | h
    · exact hAp x (h ▸ hx) he
    · rw [h] at hx
      injection hx with hx
      have := hL.lt he
      omega
  · have := push_length st c
    rw [hpu] at this
    omega
theorem MAt.cov {w Wx : World} {n k g : Nat} {l1 st st' : List Net} {c : Net} {r v : Value} (hkg : k + (g + 1) = n) (hnext : (l1.take (k + 1)).foldl push [] = push st c) (hlen : st.length ≤ k) (hpu : push st c = st') (hfit : ∀ t ∈ st', Fit t)
    (hR : CRow Wx w.heap.size v st'.reverse) (hL : CRow Wx w.heap.size r l1) (hAp : Apart v r) (hB : Below w.heap.size w Wx) : MAt w n l1 r g v (.int .i64 ((k : Int) + 1)) Wx := by
  refine ⟨k + 1, st', by omega, by go_num, by rw [hnext, hpu], hfit, hR, hL, hAp, ?_, hB⟩
  have := push_length st c
  rw [hpu] at this
  omega

theorem MIn.on {w wr W5 Wf : World} {l1 r : List Net} {rr : Value} {gc m c3 : Nat} {ao : Option Addr} {st : List Net} {c c' t : Net} (hS : CRow wr w.heap.size (.slice ao (m + 1) c3) (t :: r).reverse) (hL : CRow wr w.heap.size rr l1) (hAp : Apart (.slice ao (m + 1) c3) rr)
    (hm : r.length = m) (hst : m + 1 ≤ st.length) (hpu : push (t :: r) c' = push st c) (hcov : coversB t c' = false) (hjn : joinB t c' = true) (hfit : ∀ x ∈ t :: r, Fit x) (hfc : Fit c') (hn3 : (Value.slice ao (m + 1) c3).ownBlock ≠ some gc) (hnr : rr.ownBlock ≠ some gc) (hge : w.heap.size ≤ gc)
    (hB : Below w.heap.size w wr) (h6 : Below wr.heap.size wr W5) (hX : BoxAt Wf gc (wholeOf t).a (wholeOf t).b) (hK : Keep (fun k => k = gc) W5 Wf) : MIn w l1 rr gc st c m (.slice ao m c3) Wf := by
  have ho : (Value.slice ao m c3).ownBlock = (Value.slice ao (m + 1) c3).ownBlock := by cases ao <;> rfl
  have hS2 := hS.take m (by simp; omega) (by simp)
  rw [take_top t r m hm] at hS2
  refine ⟨r, wholeOf t, hm, by omega, ?_, fun x hx => hfit x (by simp [hx]), whole_fit (hfit t (by simp)) hfc hcov, ?_, ?_, ?_, by rw [ho]; exact hn3, hnr, hX, hge, ?_⟩
  · rw [← hpu, push_join hcov hjn]
  · refine (hS2.below h6).keep hK ?_
    intro x hx he
    rw [ho] at hx
    rw [he] at hx
    exact hn3 hx
  · refine (hL.below h6).keep hK ?_
    intro x hx he
    rw [he] at hx
    exact hnr hx
  · intro x hx
    rw [ho] at hx
    exact hAp x hx
  · exact hK.through (hB.trans (h6.mono hB.size)) (fun x hx => by rw [hx]; exact hge) (Nat.le_trans hB.size h6.size)
set_option maxRecDepth 100000 in
set_option maxHeartbeats 2000000 in
theorem merge_any (v : Value) (l : List Net) (w : World) (hC : CAt w v l) (hf : ∀ c ∈ l, c.a < 4294967296) (hl : l.length ≤ 1000) : Calls Tryd.prog 32 #[v] w (MergePost w l) := by
  have HO := hide (order_any v l w hC hf hl)
  have HF := hide hf
  have HL := hide hl
  clear hC hf hl
  go_enter Tryd.func32, Tryd.ntmps32
  go_wp2_with fail
  go_step3
  go_wp2_with fail
  go_step3
  go_wp2_with fail
  refine HO.out.mono ?_
  rintro e w1 ⟨v1, l1, rfl, hR, hp, hs, hB⟩
  obtain ⟨ao1, c1, rfl⟩ := hR.cAt.len
  have hn2 : l1.length ≤ 1000 := by
    have h1 := hp.length_eq
    have h2 := List.length_filter_le mayB l
    have := HL.out
    omega
  obtain ⟨n, hn⟩ : ∃ n, l1.length = n := ⟨_, rfl⟩
  rw [hn] at hR hn2 ⊢
  have HN := hide hn
  have HP := hide (And.intro hp (And.intro hs (fit_of hp HF.out)))
  obtain ⟨B, hBB⟩ : ∃ B, B = w.heap.size := ⟨_, rfl⟩
  have HM0 := hide (show MAt w n l1 (.slice ao1 n c1) n (.slice none 0 0) (.int .i64 0) w1 from ⟨0, [], by omega, rfl, rfl, (fun t h => by cases h), CRow.nil _ _, hR, (fun x h => by simp [Value.ownBlock] at h), Nat.le_refl _, hB⟩)
  clear hp hs hn hR hB hBB
  go_wp2_with fail
  go_loopg [3, 12] n (fun g s x wr => MAt w n l1 (.slice ao1 n c1) g s x wr)
  case atStart => exact HM0.out
  case round =>
    obtain ⟨k, st, hkg, rfl, hst, hfit, hS, hL, hAp, hlen, hB⟩ := hrel
    cases gk with
    | zero =>
      have hkz : ¬ ((k : Int) < (n : Int)) := by omega
      have HR := hide (show MergePost w l (.returned u3) wr from ⟨_, rfl, by
        rw [← merge_of HP.out.1 HP.out.2.1 HF.out]
        rw [show (l1.foldl push []) = st by rw [hst, show k = l1.length by have := HN.out; omega, List.take_length]]
        exact hS, hB⟩)
      clear hst hfit hS hL hAp hlen hB
      go_wp2_with fail
      try rw [Exit.noGoto_ret]
      go_ret
      exact HR.out
    | succ gx =>
      have hkz : (k : Int) < (n : Int) := by omega
      obtain ⟨b, o, hao, hbl, hc0, hc1⟩ := hL.cAt.at (k := k) (by omega)
      have hfc := (fit_of HP.out.1 HF.out) _ (mem_getD l1 k (by have := HN.out; omega))
      have hnext := foldl_next l1 k (by have := HN.out; omega)
      rw [← hst] at hnext
      generalize l1.getD k default = c at *
      subst hao
      have HS := hide (And.intro hfit (And.intro hS (And.intro hL (And.intro hAp (And.intro hlen (And.intro hB (And.intro hfc hnext)))))))
      have HX0 := hide (BoxAt.new wr c.a c.b)
      have HI0 := hide (show MIn w l1 (.slice (some ⟨b, o, none⟩) n c1) wr.heap.size st c st.length u3 (wr.alloc (.cells #[.int .u32 c.a, .int .i64 c.b] 24)) from
        ⟨st, c, rfl, Nat.le_refl _, rfl, hfit, hfc, hS.alloc _, hL.alloc _, hAp, fun h => by have := hS.lt h; omega, fun h => by have := hL.lt h; omega, BoxAt.new wr c.a c.b, hB.size, hB.alloc hB.size _⟩)
      have HKG := hide hkg
      have hk9 : k ≤ 1000 := by omega
      clear hst hfit hS hL hAp hlen hB hfc hnext
      obtain ⟨gc, hgc⟩ : ∃ gc, wr.heap.size = gc := ⟨_, rfl⟩
      rw [hgc] at HI0 HX0
      go_wp2_with fail
      try rw [hgc]
      clear hgc HX0
      go_loopg [3] st.length (fun g s wq => MIn w l1 (.slice (some ⟨b, o, none⟩) n c1) gc st c g s wq)
      case atStart => exact HI0.out
      case round =>
        obtain ⟨st', c', hg, hgst, hpu, hfit, hfc, hS, hL, hAp, hn3, hnr, hX, hge, hB⟩ := hrel
        have hgn : gk ≤ 1000 := by
          have h1 := HS.out.2.2.2.2.1
          omega
        cases st' with
        | nil =>
          have HS2 := hide (And.intro hS (And.intro hL hAp))
          have HX := hide hX
          have HBw := hide hB
          have HLN : Hid (([] : List Net).length ≤ 1000) := hide (by simp)
          have HPU : Hid (push st c = c' :: []) := hide (by rw [← hpu]; rfl)
          have HFT := hide hfit
          have HFC := hide hfc
          rcases hS.own with ⟨rfl, _⟩ | ⟨g3, c3, rfl⟩
          · clear hS hL hAp hn3 hnr hX hge hB hfit hfc hpu
            try simp only [List.reverse_nil] at HS2
            try simp only [List.reverse_nil, List.length_nil]
            have hxw := (HX.out.below_b (Below.refl wr.heap.size wr))
            have c0 := hxw.c0
            have c1 := hxw.c1
            have hS6 := (HS2.out.1.below (Below.refl wr.heap.size wr)).alloc (.cells #[.int .u32 c'.a, .int .i64 c'.b] 24)
            have hL6 := (HS2.out.2.1.below (Below.refl wr.heap.size wr)).alloc (.cells #[.int .u32 c'.a, .int .i64 c'.b] 24)
            have hB6 := HBw.out.trans ((Below.refl wr.heap.size wr).mono HBw.out.size)
            have hB7 := hB6.alloc hB6.size (.cells #[.int .u32 c'.a, .int .i64 c'.b] 24)
            obtain ⟨v8, w8, hrun, hR8, hK8, hown⟩ := append_nets _ w.heap.size (.slice none 0 0) _ hS6 (.slice (some ⟨wr.heap.size, 0, none⟩) 1 1) [c'] (box_row _ wr.heap.size c' (heap_alloc_new wr _) 1) (by have := HLN.out; simp at this ⊢; try omega) hB7.size
            have HRUN := hide hrun
            have HREL := hide (MAt.on (n := n) (g := gx) HKG.out HS.out.2.2.2.2.2.2.2 HS.out.2.2.2.2.1 HPU.out HFT.out HFC.out hL6 HS2.out.2.2 hK8 hR8 hown hB7 (fun x hx => hS6.ge hx))
            clear hrun hR8 hK8 hown hS6 hL6 hB6 hB7 hxw
            go_wp2_with (at_builtin; with_reducible refine wpList_append_run rfl (.tmp 43) (.tmp 45) 37 37 37 rfl rfl (.slice none 0 0) (.slice (some ⟨wr.heap.size, 0, none⟩) 1 1) v8 w8 rfl rfl HRUN.out ?_)
            go_roundg gx
            case measure => omega
            case rel => exact HREL.out
          · clear hS hL hAp hn3 hnr hX hge hB hfit hfc hpu
            try simp only [List.reverse_nil] at HS2
            try simp only [List.reverse_nil, List.length_nil]
            have hxw := (HX.out.below_b (Below.refl wr.heap.size wr))
            have c0 := hxw.c0
            have c1 := hxw.c1
            have hS6 := (HS2.out.1.below (Below.refl wr.heap.size wr)).alloc (.cells #[.int .u32 c'.a, .int .i64 c'.b] 24)
            have hL6 := (HS2.out.2.1.below (Below.refl wr.heap.size wr)).alloc (.cells #[.int .u32 c'.a, .int .i64 c'.b] 24)
            have hB6 := HBw.out.trans ((Below.refl wr.heap.size wr).mono HBw.out.size)
            have hB7 := hB6.alloc hB6.size (.cells #[.int .u32 c'.a, .int .i64 c'.b] 24)
            obtain ⟨v8, w8, hrun, hR8, hK8, hown⟩ := append_nets _ w.heap.size (.slice (some ⟨g3, 0, none⟩) 0 c3) _ hS6 (.slice (some ⟨wr.heap.size, 0, none⟩) 1 1) [c'] (box_row _ wr.heap.size c' (heap_alloc_new wr _) 1) (by have := HLN.out; simp at this ⊢; try omega) hB7.size
            have HRUN := hide hrun
            have HREL := hide (MAt.on (n := n) (g := gx) HKG.out HS.out.2.2.2.2.2.2.2 HS.out.2.2.2.2.1 HPU.out HFT.out HFC.out hL6 HS2.out.2.2 hK8 hR8 hown hB7 (fun x hx => hS6.ge hx))
            clear hrun hR8 hK8 hown hS6 hL6 hB6 hB7 hxw
            go_wp2_with (at_builtin; with_reducible refine wpList_append_run rfl (.tmp 43) (.tmp 45) 37 37 37 rfl rfl (.slice (some ⟨g3, 0, none⟩) 0 c3) (.slice (some ⟨wr.heap.size, 0, none⟩) 1 1) v8 w8 rfl rfl HRUN.out ?_)
            go_roundg gx
            case measure => omega
            case rel => exact HREL.out
        | cons t r =>
          obtain ⟨ao3, c3, hv3⟩ := hS.cAt.len
          obtain ⟨m, hm⟩ : ∃ m, r.length = m := ⟨_, rfl⟩
          have hlr : (t :: r).reverse.length = m + 1 := by simp [hm]
          rw [hlr] at hv3
          subst hv3
          have hca := hS.cAt
          obtain ⟨b3, o3, hao3, hb3, hd0, hd1⟩ := hca.at (k := m) (by omega)
          rw [top_get t r m hm] at hd0 hd1
          subst hao3
          have hle3 : m + 1 ≤ c3 := hS.le
          have hcut := run_cut_net (some ⟨b3, o3, none⟩) (m + 1) c3 m (by omega)
          have hg2 : gk = m + 1 := by rw [← hg]; simp [hm]
          subst hg2
          have hft := hfit t (by simp)
          have HCOV := hide (fun W => covers_any t c' hft.2 hfc.2 W)
          have HJN := hide (fun W => joined_any t c' hft.2 hft.1 W)
          have hw0 : IntKind.i64.wrap (m : Int) = m := IntWalk.i64_in _ (by omega)
          have HX := hide hX
          have HBw := hide hB
          have HS2 := hide (And.intro hS (And.intro hL hAp))
          have HLN : Hid ((t :: r).length ≤ 1000) := hide (by omega)
          have HFT := hide hfit
          have HFC := hide hfc
          have HPU0 := hide hpu
          have HMM := hide hm
          have HGS := hide hgst
          have HN3 := hide (And.intro hn3 (And.intro hnr hge))
          have hk0 : (0 : Int) < (m : Int) + 1 := by omega
          unfold JoinPost Net.val at HJN
          clear hS hL hAp hX hB hfit hfc hpu hca hm hn3 hnr hge hg hgst hft hlr hle3
          cases hcov : coversB t c' with
          | true =>
            rw [hcov] at HCOV
            have HPU : Hid (push st c = t :: r) := hide (by rw [← HPU0.out]; exact push_cov hcov)
            clear hcov
            go_wp2_with fail
            refine wp_region_held_drew (S := fun w' => Below wr.heap.size wr w') (by kernel_rfl) ((Below.refl _ _).drew) (fun hHeld => ?_)
            refine wpAnyH_take (i := 0) (oi := { dst := some 22, op := Op.move (Operand.tmp 3), type := 37, pos := "merge.go:17", after := #[], guard := none }) (v := ?_) rfl (by kernel_rfl) (by kernel_rfl) (by kernel_rfl) (fun _ _ _ h => h) (Or.inl ⟨by rfl, ?_⟩) hHeld ?_
            rotate_left
            · intro w hSw; (try dsimp only at hSw); go_simp; first | done | with_reducible rfl
            try simp only [Act.put, List.setIfInBounds_toArray, List.set_cons_zero, List.set_cons_succ]
            refine wpAnyH_take (i := 1) (oi := { dst := some 23, op := Op.move (Operand.tmp 6), type := 3, pos := "merge.go:17", after := #[], guard := none }) (v := ?_) rfl (by kernel_rfl) (by kernel_rfl) (by kernel_rfl) (fun _ _ _ h => h) (Or.inl ⟨by rfl, ?_⟩) hHeld ?_
            rotate_left
            · intro w hSw; (try dsimp only at hSw); go_simp; first | done | with_reducible rfl
            try simp only [Act.put, List.setIfInBounds_toArray, List.set_cons_zero, List.set_cons_succ]
            refine wpAnyH_take (i := 2) (oi := { dst := some 24, op := Op.indexAddr 37 (Operand.tmp 22) (Operand.tmp 23), type := 0, pos := "merge.go:17", after := #[{ on := 0, ground := Ground.data }, { on := 1, ground := Ground.data }], guard := none }) (v := ?_) rfl (by kernel_rfl) (by kernel_rfl) (by kernel_rfl) (fun _ _ _ h => h) (Or.inl ⟨by rfl, ?_⟩) hHeld ?_
            rotate_left
            · intro w hSw; (try dsimp only at hSw); have hm1 : (m : Int) < (m : Int) + 1 := (by omega); go_simp; first | done | with_reducible rfl
            try simp only [Act.put, List.setIfInBounds_toArray, List.set_cons_zero, List.set_cons_succ]
            refine wpAnyH_take (i := 3) (oi := { dst := some 25, op := Op.load 24 (Operand.tmp 24), type := 24, pos := "merge.go:17", after := #[{ on := 2, ground := Ground.data }], guard := none }) (v := ?_) rfl (by kernel_rfl) (by kernel_rfl) (by kernel_rfl) (fun _ _ _ h => h) (Or.inl ⟨by rfl, ?_⟩) hHeld ?_
            rotate_left
            · intro w hSw; (try dsimp only at hSw); have e0 := (hSw.cell (p := ⟨b3, o3 + m * 2, none⟩) hb3).trans hd0; have e1 := (hSw.cell (p := ⟨b3, o3 + m * 2 + 1, none⟩) hb3).trans hd1; go_simp; first | done | with_reducible rfl
            try simp only [Act.put, List.setIfInBounds_toArray, List.set_cons_zero, List.set_cons_succ]
            refine wpAnyH_take (i := 4) (oi := { dst := some 26, op := Op.load 24 (Operand.tmp 5), type := 24, pos := "merge.go:17", after := #[], guard := none }) (v := ?_) rfl (by kernel_rfl) (by kernel_rfl) (by kernel_rfl) (fun _ _ _ h => h) (Or.inl ⟨by rfl, ?_⟩) hHeld ?_
            rotate_left
            · intro w hSw; (try dsimp only at hSw); have e0 := (hSw.cell (p := ⟨gc, 0, none⟩) HX.out.lt).trans HX.out.c0; have e1 := (hSw.cell (p := ⟨gc, 1, none⟩) HX.out.lt).trans HX.out.c1; go_simp; first | done | with_reducible rfl
            try simp only [Act.put, List.setIfInBounds_toArray, List.set_cons_zero, List.set_cons_succ]
            refine wpAnyH_ready (rs := [5]) (by kernel_rfl) (by simp) ?_
            refine AllReadyH.cons (o := { dst := some 27, op := Op.call { callee := Callee.value (Operand.func 29), args := #[Operand.tmp 25, Operand.tmp 26], argTypes := #[24, 24] }, type := 4, pos := "merge.go:17", after := #[{ on := 3, ground := Ground.data }, { on := 4, ground := Ground.data }], guard := none }) rfl (fun K hK => ?_) AllReadyH.nil
            clear hHeld
            go_simp
            refine (HCOV.out _).mono ?_
            rintro e w2 ⟨rfl, hB2⟩
            have HB2 := hide (((Below.refl wr.heap.size wr).drew).trans hB2)
            clear hB2
            refine hK.out _ _ (HB2.out) (fun hHeld => ?_)
            clear hK K
            try simp only [Act.put, List.setIfInBounds_toArray, List.set_cons_zero, List.set_cons_succ]
            refine wpAnyH_done (by kernel_rfl) ?_ _
            clear hHeld
            have HREL := hide (MAt.cov (n := n) (g := gx) HKG.out HS.out.2.2.2.2.2.2.2 HS.out.2.2.2.2.1 HPU.out HFT.out (HS2.out.1.below HB2.out) (HS2.out.2.1.below HB2.out) HS2.out.2.2 (HBw.out.trans (HB2.out.mono HBw.out.size)))
            go_wp2_with fail
            go_roundg gx
            case measure => omega
            case rel => exact HREL.out
          | false =>
            rw [hcov] at HCOV
            have HCV := hide hcov
            clear hcov
            cases hjn : joinB t c' with
            | false =>
              rw [hjn] at HJN
              have HPU : Hid (push st c = c' :: t :: r) := hide (by rw [← HPU0.out]; exact push_on HCV.out hjn)
              clear hjn
              go_wp2_with fail
              refine wp_region_held_drew (S := fun w' => Below wr.heap.size wr w') (by kernel_rfl) ((Below.refl _ _).drew) (fun hHeld => ?_)
              refine wpAnyH_take (i := 0) (oi := { dst := some 22, op := Op.move (Operand.tmp 3), type := 37, pos := "merge.go:17", after := #[], guard := none }) (v := ?_) rfl (by kernel_rfl) (by kernel_rfl) (by kernel_rfl) (fun _ _ _ h => h) (Or.inl ⟨by rfl, ?_⟩) hHeld ?_
              rotate_left
              · intro w hSw; (try dsimp only at hSw); go_simp; first | done | with_reducible rfl
              try simp only [Act.put, List.setIfInBounds_toArray, List.set_cons_zero, List.set_cons_succ]
              refine wpAnyH_take (i := 1) (oi := { dst := some 23, op := Op.move (Operand.tmp 6), type := 3, pos := "merge.go:17", after := #[], guard := none }) (v := ?_) rfl (by kernel_rfl) (by kernel_rfl) (by kernel_rfl) (fun _ _ _ h => h) (Or.inl ⟨by rfl, ?_⟩) hHeld ?_
              rotate_left
              · intro w hSw; (try dsimp only at hSw); go_simp; first | done | with_reducible rfl
              try simp only [Act.put, List.setIfInBounds_toArray, List.set_cons_zero, List.set_cons_succ]
              refine wpAnyH_take (i := 2) (oi := { dst := some 24, op := Op.indexAddr 37 (Operand.tmp 22) (Operand.tmp 23), type := 0, pos := "merge.go:17", after := #[{ on := 0, ground := Ground.data }, { on := 1, ground := Ground.data }], guard := none }) (v := ?_) rfl (by kernel_rfl) (by kernel_rfl) (by kernel_rfl) (fun _ _ _ h => h) (Or.inl ⟨by rfl, ?_⟩) hHeld ?_
              rotate_left
              · intro w hSw; (try dsimp only at hSw); have hm1 : (m : Int) < (m : Int) + 1 := (by omega); go_simp; first | done | with_reducible rfl
              try simp only [Act.put, List.setIfInBounds_toArray, List.set_cons_zero, List.set_cons_succ]
              refine wpAnyH_take (i := 3) (oi := { dst := some 25, op := Op.load 24 (Operand.tmp 24), type := 24, pos := "merge.go:17", after := #[{ on := 2, ground := Ground.data }], guard := none }) (v := ?_) rfl (by kernel_rfl) (by kernel_rfl) (by kernel_rfl) (fun _ _ _ h => h) (Or.inl ⟨by rfl, ?_⟩) hHeld ?_
              rotate_left
              · intro w hSw; (try dsimp only at hSw); have e0 := (hSw.cell (p := ⟨b3, o3 + m * 2, none⟩) hb3).trans hd0; have e1 := (hSw.cell (p := ⟨b3, o3 + m * 2 + 1, none⟩) hb3).trans hd1; go_simp; first | done | with_reducible rfl
              try simp only [Act.put, List.setIfInBounds_toArray, List.set_cons_zero, List.set_cons_succ]
              refine wpAnyH_take (i := 4) (oi := { dst := some 26, op := Op.load 24 (Operand.tmp 5), type := 24, pos := "merge.go:17", after := #[], guard := none }) (v := ?_) rfl (by kernel_rfl) (by kernel_rfl) (by kernel_rfl) (fun _ _ _ h => h) (Or.inl ⟨by rfl, ?_⟩) hHeld ?_
              rotate_left
              · intro w hSw; (try dsimp only at hSw); have e0 := (hSw.cell (p := ⟨gc, 0, none⟩) HX.out.lt).trans HX.out.c0; have e1 := (hSw.cell (p := ⟨gc, 1, none⟩) HX.out.lt).trans HX.out.c1; go_simp; first | done | with_reducible rfl
              try simp only [Act.put, List.setIfInBounds_toArray, List.set_cons_zero, List.set_cons_succ]
              refine wpAnyH_ready (rs := [5]) (by kernel_rfl) (by simp) ?_
              refine AllReadyH.cons (o := { dst := some 27, op := Op.call { callee := Callee.value (Operand.func 29), args := #[Operand.tmp 25, Operand.tmp 26], argTypes := #[24, 24] }, type := 4, pos := "merge.go:17", after := #[{ on := 3, ground := Ground.data }, { on := 4, ground := Ground.data }], guard := none }) rfl (fun K hK => ?_) AllReadyH.nil
              clear hHeld
              go_simp
              refine (HCOV.out _).mono ?_
              rintro e w2 ⟨rfl, hB2⟩
              have HB2 := hide (((Below.refl wr.heap.size wr).drew).trans hB2)
              clear hB2
              refine hK.out _ _ (HB2.out) (fun hHeld => ?_)
              clear hK K
              try simp only [Act.put, List.setIfInBounds_toArray, List.set_cons_zero, List.set_cons_succ]
              refine wpAnyH_done (by kernel_rfl) ?_ _
              clear hHeld
              have HX2 := hide (HX.out.below_b HB2.out)
              have D0 := hide ((HB2.out.cell (p := ⟨b3, o3 + m * 2, none⟩) hb3).trans hd0)
              have D1 := hide ((HB2.out.cell (p := ⟨b3, o3 + m * 2 + 1, none⟩) hb3).trans hd1)
              go_wp2_with fail
              refine wp_region_held_drew (S := fun w' => Below w2.heap.size w2 w') (by kernel_rfl) ((Below.refl _ _).drew) (fun hHeld => ?_)
              refine wpAnyH_take (i := 0) (oi := { dst := some 29, op := Op.move (Operand.tmp 3), type := 37, pos := "merge.go:20", after := #[], guard := none }) (v := ?_) rfl (by kernel_rfl) (by kernel_rfl) (by kernel_rfl) (fun _ _ _ h => h) (Or.inl ⟨by rfl, ?_⟩) hHeld ?_
              rotate_left
              · intro w hSw; (try dsimp only at hSw); go_simp; first | done | with_reducible rfl
              try simp only [Act.put, List.setIfInBounds_toArray, List.set_cons_zero, List.set_cons_succ]
              refine wpAnyH_take (i := 1) (oi := { dst := some 30, op := Op.move (Operand.tmp 6), type := 3, pos := "merge.go:20", after := #[], guard := none }) (v := ?_) rfl (by kernel_rfl) (by kernel_rfl) (by kernel_rfl) (fun _ _ _ h => h) (Or.inl ⟨by rfl, ?_⟩) hHeld ?_
              rotate_left
              · intro w hSw; (try dsimp only at hSw); go_simp; first | done | with_reducible rfl
              try simp only [Act.put, List.setIfInBounds_toArray, List.set_cons_zero, List.set_cons_succ]
              refine wpAnyH_take (i := 2) (oi := { dst := some 31, op := Op.indexAddr 37 (Operand.tmp 29) (Operand.tmp 30), type := 0, pos := "merge.go:20", after := #[{ on := 0, ground := Ground.data }, { on := 1, ground := Ground.data }], guard := none }) (v := ?_) rfl (by kernel_rfl) (by kernel_rfl) (by kernel_rfl) (fun _ _ _ h => h) (Or.inl ⟨by rfl, ?_⟩) hHeld ?_
              rotate_left
              · intro w hSw; (try dsimp only at hSw); have hm1 : (m : Int) < (m : Int) + 1 := (by omega); go_simp; first | done | with_reducible rfl
              try simp only [Act.put, List.setIfInBounds_toArray, List.set_cons_zero, List.set_cons_succ]
              refine wpAnyH_take (i := 3) (oi := { dst := some 32, op := Op.load 24 (Operand.tmp 31), type := 24, pos := "merge.go:20", after := #[{ on := 2, ground := Ground.data }], guard := none }) (v := ?_) rfl (by kernel_rfl) (by kernel_rfl) (by kernel_rfl) (fun _ _ _ h => h) (Or.inl ⟨by rfl, ?_⟩) hHeld ?_
              rotate_left
              · intro w hSw; (try dsimp only at hSw); have e0 := (hSw.cell (p := ⟨b3, o3 + m * 2, none⟩) (Nat.lt_of_lt_of_le hb3 HB2.out.size)).trans D0.out; have e1 := (hSw.cell (p := ⟨b3, o3 + m * 2 + 1, none⟩) (Nat.lt_of_lt_of_le hb3 HB2.out.size)).trans D1.out; go_simp; first | done | with_reducible rfl
              try simp only [Act.put, List.setIfInBounds_toArray, List.set_cons_zero, List.set_cons_succ]
              refine wpAnyH_take (i := 4) (oi := { dst := some 33, op := Op.load 24 (Operand.tmp 5), type := 24, pos := "merge.go:20", after := #[], guard := none }) (v := ?_) rfl (by kernel_rfl) (by kernel_rfl) (by kernel_rfl) (fun _ _ _ h => h) (Or.inl ⟨by rfl, ?_⟩) hHeld ?_
              rotate_left
              · intro w hSw; (try dsimp only at hSw); have e0 := (hSw.cell (p := ⟨gc, 0, none⟩) HX2.out.lt).trans HX2.out.c0; have e1 := (hSw.cell (p := ⟨gc, 1, none⟩) HX2.out.lt).trans HX2.out.c1; go_simp; first | done | with_reducible rfl
              try simp only [Act.put, List.setIfInBounds_toArray, List.set_cons_zero, List.set_cons_succ]
              refine wpAnyH_ready (rs := [5, 9]) (by kernel_rfl) (by simp) ?_
              refine AllReadyH.cons (o := { dst := some 34, op := Op.call { callee := Callee.value (Operand.func 48), args := #[Operand.tmp 32, Operand.tmp 33], argTypes := #[24, 24] }, type := 71, pos := "merge.go:20", after := #[{ on := 3, ground := Ground.data }, { on := 4, ground := Ground.data }], guard := none }) rfl (fun K hK => ?_) (AllReadyH.cons (o := { dst := some 7, op := Op.alloc 24, type := 0, pos := "merge.go:20", after := #[], guard := none }) rfl (fun K hK => ?_) AllReadyH.nil)
              · clear hHeld
                go_simp
                refine (HJN.out _).mono ?_
                rintro e w3 ⟨rfl, hB3⟩
                have HBj := hide (((Below.refl w2.heap.size w2).drew).trans hB3)
                clear hB3
                refine hK.out _ _ (HBj.out) (fun hHeld => ?_)
                clear hK K
                try simp only [Act.put, List.setIfInBounds_toArray, List.set_cons_zero, List.set_cons_succ]
                refine wpAnyH_take (i := 6) (oi := { dst := some 28, op := Op.move (Operand.tmp 34), type := 71, pos := "merge.go:20", after := #[{ on := 5, ground := Ground.data }], guard := none }) (v := ?_) rfl (by kernel_rfl) (by kernel_rfl) (by kernel_rfl) (fun _ _ _ h => h) (Or.inl ⟨by rfl, ?_⟩) hHeld ?_
                rotate_left
                · intro w hSw; (try dsimp only at hSw); go_simp; first | done | with_reducible rfl
                try simp only [Act.put, List.setIfInBounds_toArray, List.set_cons_zero, List.set_cons_succ]
                refine wpAnyH_take (i := 7) (oi := { dst := some 35, op := Op.extract (Operand.tmp 28) 0, type := 24, pos := "merge.go:20", after := #[{ on := 6, ground := Ground.data }], guard := none }) (v := ?_) rfl (by kernel_rfl) (by kernel_rfl) (by kernel_rfl) (fun _ _ _ h => h) (Or.inl ⟨by rfl, ?_⟩) hHeld ?_
                rotate_left
                · intro w hSw; (try dsimp only at hSw); go_simp; first | done | with_reducible rfl
                try simp only [Act.put, List.setIfInBounds_toArray, List.set_cons_zero, List.set_cons_succ]
                refine wpAnyH_take (i := 8) (oi := { dst := some 36, op := Op.extract (Operand.tmp 28) 1, type := 4, pos := "merge.go:20", after := #[{ on := 6, ground := Ground.data }, { on := 10, ground := Ground.gcOnly Departure.lateStores }], guard := none }) (v := ?_) rfl (by kernel_rfl) (by kernel_rfl) (by kernel_rfl) (fun _ _ _ h => h) (Or.inl ⟨by rfl, ?_⟩) hHeld ?_
                rotate_left
                · intro w hSw; (try dsimp only at hSw); go_simp; first | done | with_reducible rfl
                try simp only [Act.put, List.setIfInBounds_toArray, List.set_cons_zero, List.set_cons_succ]
                refine wpAnyH_ready (rs := [9]) (by kernel_rfl) (by simp) ?_
                refine AllReadyH.cons (o := { dst := some 7, op := Op.alloc 24, type := 0, pos := "merge.go:20", after := #[], guard := none }) rfl (fun K hK => ?_) AllReadyH.nil
                clear hHeld
                go_simp
                have HZ := hide (BoxAt.new w3 0 0)
                have HBz := hide (HBj.out.alloc HBj.out.size (.cells #[.int .u32 (0 : Nat), .int .i64 0] 24))
                refine hK.out _ _ (HBz.out) (fun hHeld => ?_)
                clear hK K
                try simp only [Act.put, List.setIfInBounds_toArray, List.set_cons_zero, List.set_cons_succ]
                have HGE : Hid (w2.heap.size ≤ w3.heap.size) := hide HBj.out.size
                obtain ⟨gw, hgw⟩ : ∃ gw, w3.heap.size = gw := ⟨_, rfl⟩
                rw [hgw] at HZ HGE ⊢
                clear hgw
                obtain ⟨Wz, hWz⟩ : ∃ Wz, (w3.alloc (.cells #[.int .u32 0, .int .i64 0] 24)) = Wz := ⟨_, rfl⟩
                have HZ := hide (show BoxAt Wz gw 0 0 by rw [← hWz]; exact HZ.out)
                have HBz := hide (show Below w2.heap.size w2 Wz by rw [← hWz]; exact HBz.out)
                rw [hWz] at hHeld ⊢
                clear hWz
                have d0 := HZ.out.c0
                have d1 := HZ.out.c1
                have f0 := HZ.out.frozen 0
                have f1 := HZ.out.frozen 1
                refine wpAnyH_ready (rs := [10]) (by kernel_rfl) (by simp) ?_
                refine AllReadyH.cons (o := { dst := none, op := Op.store 24 (Operand.tmp 7) (Operand.tmp 35), type := 0, pos := "merge.go:20", after := #[{ on := 9, ground := Ground.data }, { on := 7, ground := Ground.data }, { on := 5, ground := Ground.chain }, { on := 0, ground := Ground.phase }, { on := 1, ground := Ground.phase }, { on := 2, ground := Ground.phase }, { on := 3, ground := Ground.phase }, { on := 4, ground := Ground.phase }, { on := 5, ground := Ground.phase }, { on := 6, ground := Ground.phase }, { on := 7, ground := Ground.phase }, { on := 8, ground := Ground.textOnly Departure.lateStores }, { on := 9, ground := Ground.phase }], guard := none }) rfl (fun K hK => ?_) AllReadyH.nil
                clear hHeld
                go_simp
                have HZ2 := hide (HZ.out.st (wholeOf t).a (wholeOf t).b)
                have HB5 := hide ((HBz.out.setCell (p := ⟨gw, 0, none⟩) HGE.out (.int .u32 ((wholeOf t).a : Int))).setCell (p := ⟨gw, 1, none⟩) HGE.out (.int .i64 (wholeOf t).b))
                refine hK.out _ _ (HB5.out) (fun hHeld => ?_)
                clear hK K
                try simp only [Act.put]
                refine wpAnyH_take (i := 11) (oi := { dst := some 8, op := Op.assign (Operand.tmp 36), type := 4, pos := "merge.go:20", after := #[{ on := 8, ground := Ground.data }, { on := 10, ground := Ground.chain }, { on := 0, ground := Ground.phase }, { on := 1, ground := Ground.phase }, { on := 2, ground := Ground.phase }, { on := 3, ground := Ground.phase }, { on := 4, ground := Ground.phase }, { on := 5, ground := Ground.phase }, { on := 6, ground := Ground.phase }, { on := 7, ground := Ground.phase }, { on := 8, ground := Ground.phase }, { on := 9, ground := Ground.phase }, { on := 10, ground := Ground.phase }], guard := none }) (v := ?_) rfl (by kernel_rfl) (by kernel_rfl) (by kernel_rfl) (fun _ _ _ h => h) (Or.inl ⟨by rfl, ?_⟩) hHeld ?_
                rotate_left
                · intro w hSw; (try dsimp only at hSw); go_simp; first | done | with_reducible rfl
                try simp only [Act.put, List.setIfInBounds_toArray, List.set_cons_zero, List.set_cons_succ]
                refine wpAnyH_done (by kernel_rfl) ?_ _
                clear hHeld d0 d1 f0 f1
                generalize (Wz.setCell ⟨gw, 0, none⟩ (.int .u32 ((wholeOf t).a : Int))).setCell ⟨gw, 1, none⟩ (.int .i64 (wholeOf t).b) = W5 at *
                have HB6 := hide (HB2.out.trans (HB5.out.mono HB2.out.size))
                have hxw := (HX.out.below_b HB6.out)
                have c0 := hxw.c0
                have c1 := hxw.c1
                have hS6 := (HS2.out.1.below HB6.out).alloc (.cells #[.int .u32 c'.a, .int .i64 c'.b] 24)
                have hL6 := (HS2.out.2.1.below HB6.out).alloc (.cells #[.int .u32 c'.a, .int .i64 c'.b] 24)
                have hB6 := HBw.out.trans (HB6.out.mono HBw.out.size)
                have hB7 := hB6.alloc hB6.size (.cells #[.int .u32 c'.a, .int .i64 c'.b] 24)
                obtain ⟨v8, w8, hrun, hR8, hK8, hown⟩ := append_nets _ w.heap.size (.slice (some ⟨b3, o3, none⟩) (m + 1) c3) _ hS6 (.slice (some ⟨W5.heap.size, 0, none⟩) 1 1) [c'] (box_row _ W5.heap.size c' (heap_alloc_new W5 _) 1) (by have := HLN.out; simp at this ⊢; try omega) hB7.size
                have HRUN := hide hrun
                have HREL := hide (MAt.on (n := n) (g := gx) HKG.out HS.out.2.2.2.2.2.2.2 HS.out.2.2.2.2.1 HPU.out HFT.out HFC.out hL6 HS2.out.2.2 hK8 hR8 hown hB7 (fun x hx => hS6.ge hx))
                clear hrun hR8 hK8 hown hS6 hL6 hB6 hB7 hxw
                go_wp2_with (at_builtin; with_reducible refine wpList_append_run rfl (.tmp 43) (.tmp 45) 37 37 37 rfl rfl (.slice (some ⟨b3, o3, none⟩) (m + 1) c3) (.slice (some ⟨W5.heap.size, 0, none⟩) 1 1) v8 w8 rfl rfl HRUN.out ?_)
                go_roundg gx
                case measure => omega
                case rel => exact HREL.out
              · clear hHeld
                go_simp
                have HZ0 := hide (show BoxAt (w2.drew.alloc (.cells #[.int .u32 (0 : Nat), .int .i64 0] 24)) w2.heap.size 0 0 from BoxAt.new w2.drew 0 0)
                have HBa := hide (((Below.refl w2.heap.size w2).drew).alloc (Nat.le_refl _) (.cells #[.int .u32 (0 : Nat), .int .i64 0] 24))
                refine hK.out _ _ (HBa.out) (fun hHeld => ?_)
                clear hK K
                try simp only [Act.put, List.setIfInBounds_toArray, List.set_cons_zero, List.set_cons_succ]
                refine wpAnyH_ready (rs := [5]) (by kernel_rfl) (by simp) ?_
                refine AllReadyH.cons (o := { dst := some 34, op := Op.call { callee := Callee.value (Operand.func 48), args := #[Operand.tmp 32, Operand.tmp 33], argTypes := #[24, 24] }, type := 71, pos := "merge.go:20", after := #[{ on := 3, ground := Ground.data }, { on := 4, ground := Ground.data }], guard := none }) rfl (fun K hK => ?_) AllReadyH.nil
                clear hHeld
                go_simp
                refine (HJN.out _).mono ?_
                rintro e w4 ⟨rfl, hB4⟩
                have HZ := hide (HZ0.out.next hB4)
                have HBz := hide (HBa.out.trans (hB4.mono HBa.out.size))
                clear hB4
                refine hK.out _ _ (HBz.out) (fun hHeld => ?_)
                clear hK K
                try simp only [Act.put, List.setIfInBounds_toArray, List.set_cons_zero, List.set_cons_succ]
                refine wpAnyH_take (i := 6) (oi := { dst := some 28, op := Op.move (Operand.tmp 34), type := 71, pos := "merge.go:20", after := #[{ on := 5, ground := Ground.data }], guard := none }) (v := ?_) rfl (by kernel_rfl) (by kernel_rfl) (by kernel_rfl) (fun _ _ _ h => h) (Or.inl ⟨by rfl, ?_⟩) hHeld ?_
                rotate_left
                · intro w hSw; (try dsimp only at hSw); go_simp; first | done | with_reducible rfl
                try simp only [Act.put, List.setIfInBounds_toArray, List.set_cons_zero, List.set_cons_succ]
                refine wpAnyH_take (i := 7) (oi := { dst := some 35, op := Op.extract (Operand.tmp 28) 0, type := 24, pos := "merge.go:20", after := #[{ on := 6, ground := Ground.data }], guard := none }) (v := ?_) rfl (by kernel_rfl) (by kernel_rfl) (by kernel_rfl) (fun _ _ _ h => h) (Or.inl ⟨by rfl, ?_⟩) hHeld ?_
                rotate_left
                · intro w hSw; (try dsimp only at hSw); go_simp; first | done | with_reducible rfl
                try simp only [Act.put, List.setIfInBounds_toArray, List.set_cons_zero, List.set_cons_succ]
                refine wpAnyH_take (i := 8) (oi := { dst := some 36, op := Op.extract (Operand.tmp 28) 1, type := 4, pos := "merge.go:20", after := #[{ on := 6, ground := Ground.data }, { on := 10, ground := Ground.gcOnly Departure.lateStores }], guard := none }) (v := ?_) rfl (by kernel_rfl) (by kernel_rfl) (by kernel_rfl) (fun _ _ _ h => h) (Or.inl ⟨by rfl, ?_⟩) hHeld ?_
                rotate_left
                · intro w hSw; (try dsimp only at hSw); go_simp; first | done | with_reducible rfl
                try simp only [Act.put, List.setIfInBounds_toArray, List.set_cons_zero, List.set_cons_succ]
                have HGE : Hid (w2.heap.size ≤ w2.heap.size) := hide (Nat.le_refl _)
                obtain ⟨Wz, hWz⟩ : ∃ Wz, w4 = Wz := ⟨_, rfl⟩
                have HZ := hide (show BoxAt Wz w2.heap.size 0 0 by rw [← hWz]; exact HZ.out)
                have HBz := hide (show Below w2.heap.size w2 Wz by rw [← hWz]; exact HBz.out)
                rw [hWz] at hHeld ⊢
                clear hWz
                have d0 := HZ.out.c0
                have d1 := HZ.out.c1
                have f0 := HZ.out.frozen 0
                have f1 := HZ.out.frozen 1
                refine wpAnyH_ready (rs := [10]) (by kernel_rfl) (by simp) ?_
                refine AllReadyH.cons (o := { dst := none, op := Op.store 24 (Operand.tmp 7) (Operand.tmp 35), type := 0, pos := "merge.go:20", after := #[{ on := 9, ground := Ground.data }, { on := 7, ground := Ground.data }, { on := 5, ground := Ground.chain }, { on := 0, ground := Ground.phase }, { on := 1, ground := Ground.phase }, { on := 2, ground := Ground.phase }, { on := 3, ground := Ground.phase }, { on := 4, ground := Ground.phase }, { on := 5, ground := Ground.phase }, { on := 6, ground := Ground.phase }, { on := 7, ground := Ground.phase }, { on := 8, ground := Ground.textOnly Departure.lateStores }, { on := 9, ground := Ground.phase }], guard := none }) rfl (fun K hK => ?_) AllReadyH.nil
                clear hHeld
                go_simp
                have HZ2 := hide (HZ.out.st (wholeOf t).a (wholeOf t).b)
                have HB5 := hide ((HBz.out.setCell (p := ⟨w2.heap.size, 0, none⟩) HGE.out (.int .u32 ((wholeOf t).a : Int))).setCell (p := ⟨w2.heap.size, 1, none⟩) HGE.out (.int .i64 (wholeOf t).b))
                refine hK.out _ _ (HB5.out) (fun hHeld => ?_)
                clear hK K
                try simp only [Act.put]
                refine wpAnyH_take (i := 11) (oi := { dst := some 8, op := Op.assign (Operand.tmp 36), type := 4, pos := "merge.go:20", after := #[{ on := 8, ground := Ground.data }, { on := 10, ground := Ground.chain }, { on := 0, ground := Ground.phase }, { on := 1, ground := Ground.phase }, { on := 2, ground := Ground.phase }, { on := 3, ground := Ground.phase }, { on := 4, ground := Ground.phase }, { on := 5, ground := Ground.phase }, { on := 6, ground := Ground.phase }, { on := 7, ground := Ground.phase }, { on := 8, ground := Ground.phase }, { on := 9, ground := Ground.phase }, { on := 10, ground := Ground.phase }], guard := none }) (v := ?_) rfl (by kernel_rfl) (by kernel_rfl) (by kernel_rfl) (fun _ _ _ h => h) (Or.inl ⟨by rfl, ?_⟩) hHeld ?_
                rotate_left
                · intro w hSw; (try dsimp only at hSw); go_simp; first | done | with_reducible rfl
                try simp only [Act.put, List.setIfInBounds_toArray, List.set_cons_zero, List.set_cons_succ]
                refine wpAnyH_done (by kernel_rfl) ?_ _
                clear hHeld d0 d1 f0 f1
                generalize (Wz.setCell ⟨w2.heap.size, 0, none⟩ (.int .u32 ((wholeOf t).a : Int))).setCell ⟨w2.heap.size, 1, none⟩ (.int .i64 (wholeOf t).b) = W5 at *
                have HB6 := hide (HB2.out.trans (HB5.out.mono HB2.out.size))
                have hxw := (HX.out.below_b HB6.out)
                have c0 := hxw.c0
                have c1 := hxw.c1
                have hS6 := (HS2.out.1.below HB6.out).alloc (.cells #[.int .u32 c'.a, .int .i64 c'.b] 24)
                have hL6 := (HS2.out.2.1.below HB6.out).alloc (.cells #[.int .u32 c'.a, .int .i64 c'.b] 24)
                have hB6 := HBw.out.trans (HB6.out.mono HBw.out.size)
                have hB7 := hB6.alloc hB6.size (.cells #[.int .u32 c'.a, .int .i64 c'.b] 24)
                obtain ⟨v8, w8, hrun, hR8, hK8, hown⟩ := append_nets _ w.heap.size (.slice (some ⟨b3, o3, none⟩) (m + 1) c3) _ hS6 (.slice (some ⟨W5.heap.size, 0, none⟩) 1 1) [c'] (box_row _ W5.heap.size c' (heap_alloc_new W5 _) 1) (by have := HLN.out; simp at this ⊢; try omega) hB7.size
                have HRUN := hide hrun
                have HREL := hide (MAt.on (n := n) (g := gx) HKG.out HS.out.2.2.2.2.2.2.2 HS.out.2.2.2.2.1 HPU.out HFT.out HFC.out hL6 HS2.out.2.2 hK8 hR8 hown hB7 (fun x hx => hS6.ge hx))
                clear hrun hR8 hK8 hown hS6 hL6 hB6 hB7 hxw
                go_wp2_with (at_builtin; with_reducible refine wpList_append_run rfl (.tmp 43) (.tmp 45) 37 37 37 rfl rfl (.slice (some ⟨b3, o3, none⟩) (m + 1) c3) (.slice (some ⟨W5.heap.size, 0, none⟩) 1 1) v8 w8 rfl rfl HRUN.out ?_)
                go_roundg gx
                case measure => omega
                case rel => exact HREL.out
            | true =>
              rw [hjn] at HJN
              have HJV := hide hjn
              clear hjn
              go_wp2_with fail
              refine wp_region_held_drew (S := fun w' => Below wr.heap.size wr w') (by kernel_rfl) ((Below.refl _ _).drew) (fun hHeld => ?_)
              refine wpAnyH_take (i := 0) (oi := { dst := some 22, op := Op.move (Operand.tmp 3), type := 37, pos := "merge.go:17", after := #[], guard := none }) (v := ?_) rfl (by kernel_rfl) (by kernel_rfl) (by kernel_rfl) (fun _ _ _ h => h) (Or.inl ⟨by rfl, ?_⟩) hHeld ?_
              rotate_left
              · intro w hSw; (try dsimp only at hSw); go_simp; first | done | with_reducible rfl
              try simp only [Act.put, List.setIfInBounds_toArray, List.set_cons_zero, List.set_cons_succ]
              refine wpAnyH_take (i := 1) (oi := { dst := some 23, op := Op.move (Operand.tmp 6), type := 3, pos := "merge.go:17", after := #[], guard := none }) (v := ?_) rfl (by kernel_rfl) (by kernel_rfl) (by kernel_rfl) (fun _ _ _ h => h) (Or.inl ⟨by rfl, ?_⟩) hHeld ?_
              rotate_left
              · intro w hSw; (try dsimp only at hSw); go_simp; first | done | with_reducible rfl
              try simp only [Act.put, List.setIfInBounds_toArray, List.set_cons_zero, List.set_cons_succ]
              refine wpAnyH_take (i := 2) (oi := { dst := some 24, op := Op.indexAddr 37 (Operand.tmp 22) (Operand.tmp 23), type := 0, pos := "merge.go:17", after := #[{ on := 0, ground := Ground.data }, { on := 1, ground := Ground.data }], guard := none }) (v := ?_) rfl (by kernel_rfl) (by kernel_rfl) (by kernel_rfl) (fun _ _ _ h => h) (Or.inl ⟨by rfl, ?_⟩) hHeld ?_
              rotate_left
              · intro w hSw; (try dsimp only at hSw); have hm1 : (m : Int) < (m : Int) + 1 := (by omega); go_simp; first | done | with_reducible rfl
              try simp only [Act.put, List.setIfInBounds_toArray, List.set_cons_zero, List.set_cons_succ]
              refine wpAnyH_take (i := 3) (oi := { dst := some 25, op := Op.load 24 (Operand.tmp 24), type := 24, pos := "merge.go:17", after := #[{ on := 2, ground := Ground.data }], guard := none }) (v := ?_) rfl (by kernel_rfl) (by kernel_rfl) (by kernel_rfl) (fun _ _ _ h => h) (Or.inl ⟨by rfl, ?_⟩) hHeld ?_
              rotate_left
              · intro w hSw; (try dsimp only at hSw); have e0 := (hSw.cell (p := ⟨b3, o3 + m * 2, none⟩) hb3).trans hd0; have e1 := (hSw.cell (p := ⟨b3, o3 + m * 2 + 1, none⟩) hb3).trans hd1; go_simp; first | done | with_reducible rfl
              try simp only [Act.put, List.setIfInBounds_toArray, List.set_cons_zero, List.set_cons_succ]
              refine wpAnyH_take (i := 4) (oi := { dst := some 26, op := Op.load 24 (Operand.tmp 5), type := 24, pos := "merge.go:17", after := #[], guard := none }) (v := ?_) rfl (by kernel_rfl) (by kernel_rfl) (by kernel_rfl) (fun _ _ _ h => h) (Or.inl ⟨by rfl, ?_⟩) hHeld ?_
              rotate_left
              · intro w hSw; (try dsimp only at hSw); have e0 := (hSw.cell (p := ⟨gc, 0, none⟩) HX.out.lt).trans HX.out.c0; have e1 := (hSw.cell (p := ⟨gc, 1, none⟩) HX.out.lt).trans HX.out.c1; go_simp; first | done | with_reducible rfl
              try simp only [Act.put, List.setIfInBounds_toArray, List.set_cons_zero, List.set_cons_succ]
              refine wpAnyH_ready (rs := [5]) (by kernel_rfl) (by simp) ?_
              refine AllReadyH.cons (o := { dst := some 27, op := Op.call { callee := Callee.value (Operand.func 29), args := #[Operand.tmp 25, Operand.tmp 26], argTypes := #[24, 24] }, type := 4, pos := "merge.go:17", after := #[{ on := 3, ground := Ground.data }, { on := 4, ground := Ground.data }], guard := none }) rfl (fun K hK => ?_) AllReadyH.nil
              clear hHeld
              go_simp
              refine (HCOV.out _).mono ?_
              rintro e w2 ⟨rfl, hB2⟩
              have HB2 := hide (((Below.refl wr.heap.size wr).drew).trans hB2)
              clear hB2
              refine hK.out _ _ (HB2.out) (fun hHeld => ?_)
              clear hK K
              try simp only [Act.put, List.setIfInBounds_toArray, List.set_cons_zero, List.set_cons_succ]
              refine wpAnyH_done (by kernel_rfl) ?_ _
              clear hHeld
              have HX2 := hide (HX.out.below_b HB2.out)
              have D0 := hide ((HB2.out.cell (p := ⟨b3, o3 + m * 2, none⟩) hb3).trans hd0)
              have D1 := hide ((HB2.out.cell (p := ⟨b3, o3 + m * 2 + 1, none⟩) hb3).trans hd1)
              go_wp2_with fail
              refine wp_region_held_drew (S := fun w' => Below w2.heap.size w2 w') (by kernel_rfl) ((Below.refl _ _).drew) (fun hHeld => ?_)
              refine wpAnyH_take (i := 0) (oi := { dst := some 29, op := Op.move (Operand.tmp 3), type := 37, pos := "merge.go:20", after := #[], guard := none }) (v := ?_) rfl (by kernel_rfl) (by kernel_rfl) (by kernel_rfl) (fun _ _ _ h => h) (Or.inl ⟨by rfl, ?_⟩) hHeld ?_
              rotate_left
              · intro w hSw; (try dsimp only at hSw); go_simp; first | done | with_reducible rfl
              try simp only [Act.put, List.setIfInBounds_toArray, List.set_cons_zero, List.set_cons_succ]
              refine wpAnyH_take (i := 1) (oi := { dst := some 30, op := Op.move (Operand.tmp 6), type := 3, pos := "merge.go:20", after := #[], guard := none }) (v := ?_) rfl (by kernel_rfl) (by kernel_rfl) (by kernel_rfl) (fun _ _ _ h => h) (Or.inl ⟨by rfl, ?_⟩) hHeld ?_
              rotate_left
              · intro w hSw; (try dsimp only at hSw); go_simp; first | done | with_reducible rfl
              try simp only [Act.put, List.setIfInBounds_toArray, List.set_cons_zero, List.set_cons_succ]
              refine wpAnyH_take (i := 2) (oi := { dst := some 31, op := Op.indexAddr 37 (Operand.tmp 29) (Operand.tmp 30), type := 0, pos := "merge.go:20", after := #[{ on := 0, ground := Ground.data }, { on := 1, ground := Ground.data }], guard := none }) (v := ?_) rfl (by kernel_rfl) (by kernel_rfl) (by kernel_rfl) (fun _ _ _ h => h) (Or.inl ⟨by rfl, ?_⟩) hHeld ?_
              rotate_left
              · intro w hSw; (try dsimp only at hSw); have hm1 : (m : Int) < (m : Int) + 1 := (by omega); go_simp; first | done | with_reducible rfl
              try simp only [Act.put, List.setIfInBounds_toArray, List.set_cons_zero, List.set_cons_succ]
              refine wpAnyH_take (i := 3) (oi := { dst := some 32, op := Op.load 24 (Operand.tmp 31), type := 24, pos := "merge.go:20", after := #[{ on := 2, ground := Ground.data }], guard := none }) (v := ?_) rfl (by kernel_rfl) (by kernel_rfl) (by kernel_rfl) (fun _ _ _ h => h) (Or.inl ⟨by rfl, ?_⟩) hHeld ?_
              rotate_left
              · intro w hSw; (try dsimp only at hSw); have e0 := (hSw.cell (p := ⟨b3, o3 + m * 2, none⟩) (Nat.lt_of_lt_of_le hb3 HB2.out.size)).trans D0.out; have e1 := (hSw.cell (p := ⟨b3, o3 + m * 2 + 1, none⟩) (Nat.lt_of_lt_of_le hb3 HB2.out.size)).trans D1.out; go_simp; first | done | with_reducible rfl
              try simp only [Act.put, List.setIfInBounds_toArray, List.set_cons_zero, List.set_cons_succ]
              refine wpAnyH_take (i := 4) (oi := { dst := some 33, op := Op.load 24 (Operand.tmp 5), type := 24, pos := "merge.go:20", after := #[], guard := none }) (v := ?_) rfl (by kernel_rfl) (by kernel_rfl) (by kernel_rfl) (fun _ _ _ h => h) (Or.inl ⟨by rfl, ?_⟩) hHeld ?_
              rotate_left
              · intro w hSw; (try dsimp only at hSw); have e0 := (hSw.cell (p := ⟨gc, 0, none⟩) HX2.out.lt).trans HX2.out.c0; have e1 := (hSw.cell (p := ⟨gc, 1, none⟩) HX2.out.lt).trans HX2.out.c1; go_simp; first | done | with_reducible rfl
              try simp only [Act.put, List.setIfInBounds_toArray, List.set_cons_zero, List.set_cons_succ]
              refine wpAnyH_ready (rs := [5, 9]) (by kernel_rfl) (by simp) ?_
              refine AllReadyH.cons (o := { dst := some 34, op := Op.call { callee := Callee.value (Operand.func 48), args := #[Operand.tmp 32, Operand.tmp 33], argTypes := #[24, 24] }, type := 71, pos := "merge.go:20", after := #[{ on := 3, ground := Ground.data }, { on := 4, ground := Ground.data }], guard := none }) rfl (fun K hK => ?_) (AllReadyH.cons (o := { dst := some 7, op := Op.alloc 24, type := 0, pos := "merge.go:20", after := #[], guard := none }) rfl (fun K hK => ?_) AllReadyH.nil)
              · clear hHeld
                go_simp
                refine (HJN.out _).mono ?_
                rintro e w3 ⟨rfl, hB3⟩
                have HBj := hide (((Below.refl w2.heap.size w2).drew).trans hB3)
                clear hB3
                refine hK.out _ _ (HBj.out) (fun hHeld => ?_)
                clear hK K
                try simp only [Act.put, List.setIfInBounds_toArray, List.set_cons_zero, List.set_cons_succ]
                refine wpAnyH_take (i := 6) (oi := { dst := some 28, op := Op.move (Operand.tmp 34), type := 71, pos := "merge.go:20", after := #[{ on := 5, ground := Ground.data }], guard := none }) (v := ?_) rfl (by kernel_rfl) (by kernel_rfl) (by kernel_rfl) (fun _ _ _ h => h) (Or.inl ⟨by rfl, ?_⟩) hHeld ?_
                rotate_left
                · intro w hSw; (try dsimp only at hSw); go_simp; first | done | with_reducible rfl
                try simp only [Act.put, List.setIfInBounds_toArray, List.set_cons_zero, List.set_cons_succ]
                refine wpAnyH_take (i := 7) (oi := { dst := some 35, op := Op.extract (Operand.tmp 28) 0, type := 24, pos := "merge.go:20", after := #[{ on := 6, ground := Ground.data }], guard := none }) (v := ?_) rfl (by kernel_rfl) (by kernel_rfl) (by kernel_rfl) (fun _ _ _ h => h) (Or.inl ⟨by rfl, ?_⟩) hHeld ?_
                rotate_left
                · intro w hSw; (try dsimp only at hSw); go_simp; first | done | with_reducible rfl
                try simp only [Act.put, List.setIfInBounds_toArray, List.set_cons_zero, List.set_cons_succ]
                refine wpAnyH_take (i := 8) (oi := { dst := some 36, op := Op.extract (Operand.tmp 28) 1, type := 4, pos := "merge.go:20", after := #[{ on := 6, ground := Ground.data }, { on := 10, ground := Ground.gcOnly Departure.lateStores }], guard := none }) (v := ?_) rfl (by kernel_rfl) (by kernel_rfl) (by kernel_rfl) (fun _ _ _ h => h) (Or.inl ⟨by rfl, ?_⟩) hHeld ?_
                rotate_left
                · intro w hSw; (try dsimp only at hSw); go_simp; first | done | with_reducible rfl
                try simp only [Act.put, List.setIfInBounds_toArray, List.set_cons_zero, List.set_cons_succ]
                refine wpAnyH_ready (rs := [9]) (by kernel_rfl) (by simp) ?_
                refine AllReadyH.cons (o := { dst := some 7, op := Op.alloc 24, type := 0, pos := "merge.go:20", after := #[], guard := none }) rfl (fun K hK => ?_) AllReadyH.nil
                clear hHeld
                go_simp
                have HZ := hide (BoxAt.new w3 0 0)
                have HBz := hide (HBj.out.alloc HBj.out.size (.cells #[.int .u32 (0 : Nat), .int .i64 0] 24))
                refine hK.out _ _ (HBz.out) (fun hHeld => ?_)
                clear hK K
                try simp only [Act.put, List.setIfInBounds_toArray, List.set_cons_zero, List.set_cons_succ]
                have HGE : Hid (w2.heap.size ≤ w3.heap.size) := hide HBj.out.size
                obtain ⟨gw, hgw⟩ : ∃ gw, w3.heap.size = gw := ⟨_, rfl⟩
                rw [hgw] at HZ HGE ⊢
                clear hgw
                obtain ⟨Wz, hWz⟩ : ∃ Wz, (w3.alloc (.cells #[.int .u32 0, .int .i64 0] 24)) = Wz := ⟨_, rfl⟩
                have HZ := hide (show BoxAt Wz gw 0 0 by rw [← hWz]; exact HZ.out)
                have HBz := hide (show Below w2.heap.size w2 Wz by rw [← hWz]; exact HBz.out)
                rw [hWz] at hHeld ⊢
                clear hWz
                have d0 := HZ.out.c0
                have d1 := HZ.out.c1
                have f0 := HZ.out.frozen 0
                have f1 := HZ.out.frozen 1
                refine wpAnyH_ready (rs := [10]) (by kernel_rfl) (by simp) ?_
                refine AllReadyH.cons (o := { dst := none, op := Op.store 24 (Operand.tmp 7) (Operand.tmp 35), type := 0, pos := "merge.go:20", after := #[{ on := 9, ground := Ground.data }, { on := 7, ground := Ground.data }, { on := 5, ground := Ground.chain }, { on := 0, ground := Ground.phase }, { on := 1, ground := Ground.phase }, { on := 2, ground := Ground.phase }, { on := 3, ground := Ground.phase }, { on := 4, ground := Ground.phase }, { on := 5, ground := Ground.phase }, { on := 6, ground := Ground.phase }, { on := 7, ground := Ground.phase }, { on := 8, ground := Ground.textOnly Departure.lateStores }, { on := 9, ground := Ground.phase }], guard := none }) rfl (fun K hK => ?_) AllReadyH.nil
                clear hHeld
                go_simp
                have HZ2 := hide (HZ.out.st (wholeOf t).a (wholeOf t).b)
                have HB5 := hide ((HBz.out.setCell (p := ⟨gw, 0, none⟩) HGE.out (.int .u32 ((wholeOf t).a : Int))).setCell (p := ⟨gw, 1, none⟩) HGE.out (.int .i64 (wholeOf t).b))
                refine hK.out _ _ (HB5.out) (fun hHeld => ?_)
                clear hK K
                try simp only [Act.put]
                refine wpAnyH_take (i := 11) (oi := { dst := some 8, op := Op.assign (Operand.tmp 36), type := 4, pos := "merge.go:20", after := #[{ on := 8, ground := Ground.data }, { on := 10, ground := Ground.chain }, { on := 0, ground := Ground.phase }, { on := 1, ground := Ground.phase }, { on := 2, ground := Ground.phase }, { on := 3, ground := Ground.phase }, { on := 4, ground := Ground.phase }, { on := 5, ground := Ground.phase }, { on := 6, ground := Ground.phase }, { on := 7, ground := Ground.phase }, { on := 8, ground := Ground.phase }, { on := 9, ground := Ground.phase }, { on := 10, ground := Ground.phase }], guard := none }) (v := ?_) rfl (by kernel_rfl) (by kernel_rfl) (by kernel_rfl) (fun _ _ _ h => h) (Or.inl ⟨by rfl, ?_⟩) hHeld ?_
                rotate_left
                · intro w hSw; (try dsimp only at hSw); go_simp; first | done | with_reducible rfl
                try simp only [Act.put, List.setIfInBounds_toArray, List.set_cons_zero, List.set_cons_succ]
                refine wpAnyH_done (by kernel_rfl) ?_ _
                clear hHeld d0 d1 f0 f1
                generalize (Wz.setCell ⟨gw, 0, none⟩ (.int .u32 ((wholeOf t).a : Int))).setCell ⟨gw, 1, none⟩ (.int .i64 (wholeOf t).b) = W5 at *
                have HB6 := hide (HB2.out.trans (HB5.out.mono HB2.out.size))
                go_wp2_with fail
                refine wp_region_held_drew (S := fun w' => BoxAt w' gw (wholeOf t).a (wholeOf t).b) (by kernel_rfl) HZ2.out (fun hHeld => ?_)
                refine wpAnyH_take (i := 0) (oi := { dst := some 39, op := Op.move (Operand.tmp 3), type := 37, pos := "merge.go:24", after := #[], guard := none }) (v := ?_) rfl (by kernel_rfl) (by kernel_rfl) (by kernel_rfl) (fun _ _ _ h => h) (Or.inl ⟨by rfl, ?_⟩) hHeld ?_
                rotate_left
                · intro w hSw; (try dsimp only at hSw); go_simp; first | done | with_reducible rfl
                try simp only [Act.put, List.setIfInBounds_toArray, List.set_cons_zero, List.set_cons_succ]
                refine wpAnyH_take (i := 1) (oi := { dst := some 40, op := Op.move (Operand.tmp 6), type := 3, pos := "merge.go:24", after := #[], guard := none }) (v := ?_) rfl (by kernel_rfl) (by kernel_rfl) (by kernel_rfl) (fun _ _ _ h => h) (Or.inl ⟨by rfl, ?_⟩) hHeld ?_
                rotate_left
                · intro w hSw; (try dsimp only at hSw); go_simp; first | done | with_reducible rfl
                try simp only [Act.put, List.setIfInBounds_toArray, List.set_cons_zero, List.set_cons_succ]
                refine wpAnyH_take (i := 2) (oi := { dst := some 41, op := Op.slice 37 (Operand.tmp 39) none (some (Operand.tmp 40)) none, type := 37, pos := "merge.go:24", after := #[{ on := 0, ground := Ground.data }, { on := 1, ground := Ground.data }], guard := none }) (v := ?_) rfl (by kernel_rfl) (by kernel_rfl) (by kernel_rfl) (fun _ _ _ h => h) (Or.inl ⟨by rfl, ?_⟩) hHeld ?_
                rotate_left
                · intro w hSw; (try dsimp only at hSw); have hc := hcut w; go_simp; first | done | with_reducible rfl
                try simp only [Act.put, List.setIfInBounds_toArray, List.set_cons_zero, List.set_cons_succ]
                refine wpAnyH_take (i := 3) (oi := { dst := some 42, op := Op.load 24 (Operand.tmp 7), type := 24, pos := "merge.go:24", after := #[{ on := 4, ground := Ground.gcOnly Departure.lateStores }], guard := none }) (v := ?_) rfl (by kernel_rfl) (by kernel_rfl) (by kernel_rfl) (fun _ _ _ h => h) (Or.inl ⟨by rfl, ?_⟩) hHeld ?_
                rotate_left
                · intro w hSw; (try dsimp only at hSw); have e0 := hSw.c0; have e1 := hSw.c1; go_simp; first | done | with_reducible rfl
                try simp only [Act.put, List.setIfInBounds_toArray, List.set_cons_zero, List.set_cons_succ]
                refine wpAnyH_take (i := 4) (oi := { dst := some 3, op := Op.assign (Operand.tmp 41), type := 37, pos := "merge.go:24", after := #[{ on := 2, ground := Ground.data }, { on := 0, ground := Ground.phase }, { on := 1, ground := Ground.phase }, { on := 2, ground := Ground.phase }, { on := 3, ground := Ground.textOnly Departure.lateStores }], guard := none }) (v := ?_) rfl (by kernel_rfl) (by kernel_rfl) (by kernel_rfl) (fun _ _ _ h => h) (Or.inl ⟨by rfl, ?_⟩) hHeld ?_
                rotate_left
                · intro w hSw; (try dsimp only at hSw); go_simp; first | done | with_reducible rfl
                try simp only [Act.put, List.setIfInBounds_toArray, List.set_cons_zero, List.set_cons_succ]
                have hx5 := HX.out.below_b HB6.out
                have d0 := hx5.c0
                have d1 := hx5.c1
                have f0 := hx5.frozen 0
                have f1 := hx5.frozen 1
                have HX5 := hide hx5
                clear hx5
                refine wpAnyH_ready (rs := [5]) (by kernel_rfl) (by simp) ?_
                refine AllReadyH.cons (o := { dst := none, op := Op.store 24 (Operand.tmp 5) (Operand.tmp 42), type := 0, pos := "merge.go:24", after := #[{ on := 3, ground := Ground.data }, { on := 4, ground := Ground.chain }, { on := 0, ground := Ground.phase }, { on := 1, ground := Ground.phase }, { on := 2, ground := Ground.phase }, { on := 3, ground := Ground.phase }, { on := 4, ground := Ground.phase }], guard := none }) rfl (fun K hK => ?_) AllReadyH.nil
                clear hHeld
                go_simp
                have hgne : gw ≠ gc := by have := HX.out.lt; have := HGE.out; have := HB2.out.size; omega
                have HZ3 := hide (show BoxAt ((W5.drew.setCell ⟨gc, 0, none⟩ (.int .u32 ((wholeOf t).a : Int))).setCell ⟨gc, 1, none⟩ (.int .i64 (wholeOf t).b)) gw (wholeOf t).a (wholeOf t).b from ((show BoxAt W5.drew gw (wholeOf t).a (wholeOf t).b from HZ2.out).other hgne).other hgne)
                have HX6 := hide (show BoxAt ((W5.setCell ⟨gc, 0, none⟩ (.int .u32 ((wholeOf t).a : Int))).setCell ⟨gc, 1, none⟩ (.int .i64 (wholeOf t).b)).drew gc (wholeOf t).a (wholeOf t).b from (show BoxAt W5 gc c'.a c'.b from HX5.out).st (wholeOf t).a (wholeOf t).b)
                have HK6 : Hid (Keep (fun k => k = gc) W5 ((W5.setCell ⟨gc, 0, none⟩ (.int .u32 ((wholeOf t).a : Int))).setCell ⟨gc, 1, none⟩ (.int .i64 (wholeOf t).b)).drew) := hide (((Keep.set (F := fun k => k = gc) W5 ⟨gc, 0, none⟩ _ rfl).trans (Keep.set (F := fun k => k = gc) _ ⟨gc, 1, none⟩ _ rfl) (fun _ h => .inl h)).drewR)
                refine hK.out _ _ (HZ3.out) (fun hHeld => ?_)
                clear hK K
                try simp only [Act.put]
                refine wpAnyH_done (by kernel_rfl) ?_ _
                clear hHeld d0 d1 f0 f1
                have HREL := hide (MIn.on HS2.out.1 HS2.out.2.1 HS2.out.2.2 HMM.out HGS.out HPU0.out HCV.out HJV.out HFT.out HFC.out HN3.out.1 HN3.out.2.1 HN3.out.2.2 HBw.out HB6.out HX6.out HK6.out)
                go_wp2_with fail
                go_roundg m
                case measure => omega
                case rel => exact HREL.out
              · clear hHeld
                go_simp
                have HZ0 := hide (show BoxAt (w2.drew.alloc (.cells #[.int .u32 (0 : Nat), .int .i64 0] 24)) w2.heap.size 0 0 from BoxAt.new w2.drew 0 0)
                have HBa := hide (((Below.refl w2.heap.size w2).drew).alloc (Nat.le_refl _) (.cells #[.int .u32 (0 : Nat), .int .i64 0] 24))
                refine hK.out _ _ (HBa.out) (fun hHeld => ?_)
                clear hK K
                try simp only [Act.put, List.setIfInBounds_toArray, List.set_cons_zero, List.set_cons_succ]
                refine wpAnyH_ready (rs := [5]) (by kernel_rfl) (by simp) ?_
                refine AllReadyH.cons (o := { dst := some 34, op := Op.call { callee := Callee.value (Operand.func 48), args := #[Operand.tmp 32, Operand.tmp 33], argTypes := #[24, 24] }, type := 71, pos := "merge.go:20", after := #[{ on := 3, ground := Ground.data }, { on := 4, ground := Ground.data }], guard := none }) rfl (fun K hK => ?_) AllReadyH.nil
                clear hHeld
                go_simp
                refine (HJN.out _).mono ?_
                rintro e w4 ⟨rfl, hB4⟩
                have HZ := hide (HZ0.out.next hB4)
                have HBz := hide (HBa.out.trans (hB4.mono HBa.out.size))
                clear hB4
                refine hK.out _ _ (HBz.out) (fun hHeld => ?_)
                clear hK K
                try simp only [Act.put, List.setIfInBounds_toArray, List.set_cons_zero, List.set_cons_succ]
                refine wpAnyH_take (i := 6) (oi := { dst := some 28, op := Op.move (Operand.tmp 34), type := 71, pos := "merge.go:20", after := #[{ on := 5, ground := Ground.data }], guard := none }) (v := ?_) rfl (by kernel_rfl) (by kernel_rfl) (by kernel_rfl) (fun _ _ _ h => h) (Or.inl ⟨by rfl, ?_⟩) hHeld ?_
                rotate_left
                · intro w hSw; (try dsimp only at hSw); go_simp; first | done | with_reducible rfl
                try simp only [Act.put, List.setIfInBounds_toArray, List.set_cons_zero, List.set_cons_succ]
                refine wpAnyH_take (i := 7) (oi := { dst := some 35, op := Op.extract (Operand.tmp 28) 0, type := 24, pos := "merge.go:20", after := #[{ on := 6, ground := Ground.data }], guard := none }) (v := ?_) rfl (by kernel_rfl) (by kernel_rfl) (by kernel_rfl) (fun _ _ _ h => h) (Or.inl ⟨by rfl, ?_⟩) hHeld ?_
                rotate_left
                · intro w hSw; (try dsimp only at hSw); go_simp; first | done | with_reducible rfl
                try simp only [Act.put, List.setIfInBounds_toArray, List.set_cons_zero, List.set_cons_succ]
                refine wpAnyH_take (i := 8) (oi := { dst := some 36, op := Op.extract (Operand.tmp 28) 1, type := 4, pos := "merge.go:20", after := #[{ on := 6, ground := Ground.data }, { on := 10, ground := Ground.gcOnly Departure.lateStores }], guard := none }) (v := ?_) rfl (by kernel_rfl) (by kernel_rfl) (by kernel_rfl) (fun _ _ _ h => h) (Or.inl ⟨by rfl, ?_⟩) hHeld ?_
                rotate_left
                · intro w hSw; (try dsimp only at hSw); go_simp; first | done | with_reducible rfl
                try simp only [Act.put, List.setIfInBounds_toArray, List.set_cons_zero, List.set_cons_succ]
                have HGE : Hid (w2.heap.size ≤ w2.heap.size) := hide (Nat.le_refl _)
                obtain ⟨Wz, hWz⟩ : ∃ Wz, w4 = Wz := ⟨_, rfl⟩
                have HZ := hide (show BoxAt Wz w2.heap.size 0 0 by rw [← hWz]; exact HZ.out)
                have HBz := hide (show Below w2.heap.size w2 Wz by rw [← hWz]; exact HBz.out)
                rw [hWz] at hHeld ⊢
                clear hWz
                have d0 := HZ.out.c0
                have d1 := HZ.out.c1
                have f0 := HZ.out.frozen 0
                have f1 := HZ.out.frozen 1
                refine wpAnyH_ready (rs := [10]) (by kernel_rfl) (by simp) ?_
                refine AllReadyH.cons (o := { dst := none, op := Op.store 24 (Operand.tmp 7) (Operand.tmp 35), type := 0, pos := "merge.go:20", after := #[{ on := 9, ground := Ground.data }, { on := 7, ground := Ground.data }, { on := 5, ground := Ground.chain }, { on := 0, ground := Ground.phase }, { on := 1, ground := Ground.phase }, { on := 2, ground := Ground.phase }, { on := 3, ground := Ground.phase }, { on := 4, ground := Ground.phase }, { on := 5, ground := Ground.phase }, { on := 6, ground := Ground.phase }, { on := 7, ground := Ground.phase }, { on := 8, ground := Ground.textOnly Departure.lateStores }, { on := 9, ground := Ground.phase }], guard := none }) rfl (fun K hK => ?_) AllReadyH.nil
                clear hHeld
                go_simp
                have HZ2 := hide (HZ.out.st (wholeOf t).a (wholeOf t).b)
                have HB5 := hide ((HBz.out.setCell (p := ⟨w2.heap.size, 0, none⟩) HGE.out (.int .u32 ((wholeOf t).a : Int))).setCell (p := ⟨w2.heap.size, 1, none⟩) HGE.out (.int .i64 (wholeOf t).b))
                refine hK.out _ _ (HB5.out) (fun hHeld => ?_)
                clear hK K
                try simp only [Act.put]
                refine wpAnyH_take (i := 11) (oi := { dst := some 8, op := Op.assign (Operand.tmp 36), type := 4, pos := "merge.go:20", after := #[{ on := 8, ground := Ground.data }, { on := 10, ground := Ground.chain }, { on := 0, ground := Ground.phase }, { on := 1, ground := Ground.phase }, { on := 2, ground := Ground.phase }, { on := 3, ground := Ground.phase }, { on := 4, ground := Ground.phase }, { on := 5, ground := Ground.phase }, { on := 6, ground := Ground.phase }, { on := 7, ground := Ground.phase }, { on := 8, ground := Ground.phase }, { on := 9, ground := Ground.phase }, { on := 10, ground := Ground.phase }], guard := none }) (v := ?_) rfl (by kernel_rfl) (by kernel_rfl) (by kernel_rfl) (fun _ _ _ h => h) (Or.inl ⟨by rfl, ?_⟩) hHeld ?_
                rotate_left
                · intro w hSw; (try dsimp only at hSw); go_simp; first | done | with_reducible rfl
                try simp only [Act.put, List.setIfInBounds_toArray, List.set_cons_zero, List.set_cons_succ]
                refine wpAnyH_done (by kernel_rfl) ?_ _
                clear hHeld d0 d1 f0 f1
                generalize (Wz.setCell ⟨w2.heap.size, 0, none⟩ (.int .u32 ((wholeOf t).a : Int))).setCell ⟨w2.heap.size, 1, none⟩ (.int .i64 (wholeOf t).b) = W5 at *
                have HB6 := hide (HB2.out.trans (HB5.out.mono HB2.out.size))
                go_wp2_with fail
                refine wp_region_held_drew (S := fun w' => BoxAt w' w2.heap.size (wholeOf t).a (wholeOf t).b) (by kernel_rfl) HZ2.out (fun hHeld => ?_)
                refine wpAnyH_take (i := 0) (oi := { dst := some 39, op := Op.move (Operand.tmp 3), type := 37, pos := "merge.go:24", after := #[], guard := none }) (v := ?_) rfl (by kernel_rfl) (by kernel_rfl) (by kernel_rfl) (fun _ _ _ h => h) (Or.inl ⟨by rfl, ?_⟩) hHeld ?_
                rotate_left
                · intro w hSw; (try dsimp only at hSw); go_simp; first | done | with_reducible rfl
                try simp only [Act.put, List.setIfInBounds_toArray, List.set_cons_zero, List.set_cons_succ]
                refine wpAnyH_take (i := 1) (oi := { dst := some 40, op := Op.move (Operand.tmp 6), type := 3, pos := "merge.go:24", after := #[], guard := none }) (v := ?_) rfl (by kernel_rfl) (by kernel_rfl) (by kernel_rfl) (fun _ _ _ h => h) (Or.inl ⟨by rfl, ?_⟩) hHeld ?_
                rotate_left
                · intro w hSw; (try dsimp only at hSw); go_simp; first | done | with_reducible rfl
                try simp only [Act.put, List.setIfInBounds_toArray, List.set_cons_zero, List.set_cons_succ]
                refine wpAnyH_take (i := 2) (oi := { dst := some 41, op := Op.slice 37 (Operand.tmp 39) none (some (Operand.tmp 40)) none, type := 37, pos := "merge.go:24", after := #[{ on := 0, ground := Ground.data }, { on := 1, ground := Ground.data }], guard := none }) (v := ?_) rfl (by kernel_rfl) (by kernel_rfl) (by kernel_rfl) (fun _ _ _ h => h) (Or.inl ⟨by rfl, ?_⟩) hHeld ?_
                rotate_left
                · intro w hSw; (try dsimp only at hSw); have hc := hcut w; go_simp; first | done | with_reducible rfl
                try simp only [Act.put, List.setIfInBounds_toArray, List.set_cons_zero, List.set_cons_succ]
                refine wpAnyH_take (i := 3) (oi := { dst := some 42, op := Op.load 24 (Operand.tmp 7), type := 24, pos := "merge.go:24", after := #[{ on := 4, ground := Ground.gcOnly Departure.lateStores }], guard := none }) (v := ?_) rfl (by kernel_rfl) (by kernel_rfl) (by kernel_rfl) (fun _ _ _ h => h) (Or.inl ⟨by rfl, ?_⟩) hHeld ?_
                rotate_left
                · intro w hSw; (try dsimp only at hSw); have e0 := hSw.c0; have e1 := hSw.c1; go_simp; first | done | with_reducible rfl
                try simp only [Act.put, List.setIfInBounds_toArray, List.set_cons_zero, List.set_cons_succ]
                refine wpAnyH_take (i := 4) (oi := { dst := some 3, op := Op.assign (Operand.tmp 41), type := 37, pos := "merge.go:24", after := #[{ on := 2, ground := Ground.data }, { on := 0, ground := Ground.phase }, { on := 1, ground := Ground.phase }, { on := 2, ground := Ground.phase }, { on := 3, ground := Ground.textOnly Departure.lateStores }], guard := none }) (v := ?_) rfl (by kernel_rfl) (by kernel_rfl) (by kernel_rfl) (fun _ _ _ h => h) (Or.inl ⟨by rfl, ?_⟩) hHeld ?_
                rotate_left
                · intro w hSw; (try dsimp only at hSw); go_simp; first | done | with_reducible rfl
                try simp only [Act.put, List.setIfInBounds_toArray, List.set_cons_zero, List.set_cons_succ]
                have hx5 := HX.out.below_b HB6.out
                have d0 := hx5.c0
                have d1 := hx5.c1
                have f0 := hx5.frozen 0
                have f1 := hx5.frozen 1
                have HX5 := hide hx5
                clear hx5
                refine wpAnyH_ready (rs := [5]) (by kernel_rfl) (by simp) ?_
                refine AllReadyH.cons (o := { dst := none, op := Op.store 24 (Operand.tmp 5) (Operand.tmp 42), type := 0, pos := "merge.go:24", after := #[{ on := 3, ground := Ground.data }, { on := 4, ground := Ground.chain }, { on := 0, ground := Ground.phase }, { on := 1, ground := Ground.phase }, { on := 2, ground := Ground.phase }, { on := 3, ground := Ground.phase }, { on := 4, ground := Ground.phase }], guard := none }) rfl (fun K hK => ?_) AllReadyH.nil
                clear hHeld
                go_simp
                have hgne : w2.heap.size ≠ gc := by have := HX.out.lt; have := HGE.out; have := HB2.out.size; omega
                have HZ3 := hide (show BoxAt ((W5.drew.setCell ⟨gc, 0, none⟩ (.int .u32 ((wholeOf t).a : Int))).setCell ⟨gc, 1, none⟩ (.int .i64 (wholeOf t).b)) w2.heap.size (wholeOf t).a (wholeOf t).b from ((show BoxAt W5.drew w2.heap.size (wholeOf t).a (wholeOf t).b from HZ2.out).other hgne).other hgne)
                have HX6 := hide (show BoxAt ((W5.setCell ⟨gc, 0, none⟩ (.int .u32 ((wholeOf t).a : Int))).setCell ⟨gc, 1, none⟩ (.int .i64 (wholeOf t).b)).drew gc (wholeOf t).a (wholeOf t).b from (show BoxAt W5 gc c'.a c'.b from HX5.out).st (wholeOf t).a (wholeOf t).b)
                have HK6 : Hid (Keep (fun k => k = gc) W5 ((W5.setCell ⟨gc, 0, none⟩ (.int .u32 ((wholeOf t).a : Int))).setCell ⟨gc, 1, none⟩ (.int .i64 (wholeOf t).b)).drew) := hide (((Keep.set (F := fun k => k = gc) W5 ⟨gc, 0, none⟩ _ rfl).trans (Keep.set (F := fun k => k = gc) _ ⟨gc, 1, none⟩ _ rfl) (fun _ h => .inl h)).drewR)
                refine hK.out _ _ (HZ3.out) (fun hHeld => ?_)
                clear hK K
                try simp only [Act.put]
                refine wpAnyH_done (by kernel_rfl) ?_ _
                clear hHeld d0 d1 f0 f1
                have HREL := hide (MIn.on HS2.out.1 HS2.out.2.1 HS2.out.2.2 HMM.out HGS.out HPU0.out HCV.out HJV.out HFT.out HFC.out HN3.out.1 HN3.out.2.1 HN3.out.2.2 HBw.out HB6.out HX6.out HK6.out)
                go_wp2_with fail
                go_roundg m
                case measure => omega
                case rel => exact HREL.out
end Go.Proofs.YtgikkjjnoakhdaaDoor
