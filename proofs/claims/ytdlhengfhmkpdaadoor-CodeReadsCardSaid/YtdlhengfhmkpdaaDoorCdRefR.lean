/- The document's reader: drop, Raw, Wide. -/
import Derived.Test.YtdlhengfhmkpdaaDoorCdRef
import Derived.Laws.MakeOwn
import Derived.Test.YtdlhengfhmkpdaaDoorCdForm
namespace Go.Proofs.YtdlhengfhmkpdaaDoor
open Go.RowKit

/-- The document's reader at g: the bytes that are not taken, and whether it is stopped; its blocks are of F. -/
structure RdM (W : World) (B : Nat) (F : Nat → Prop) (g : Nat) (bs : List Int) (bad : Bool) : Prop where
  own : F g
  ge : ∀ k, F k → B ≤ k ∧ k < W.heap.size
  shape : ∃ v, W.heap[g]? = some (.cells #[v, .bool bad] 30 (0, 0)) ∧ SlAt W v bs ∧ ∀ k, v.ownBlock = some k → F k ∧ k ≠ g

theorem RdM.keep {G F : Nat → Prop} {W W' : World} {B g : Nat} {bs : List Int} {bad : Bool} (h : RdM W B F g bs bad) (hk : Keep G W W') (hf : ∀ k, F k → ¬ G k) : RdM W' B F g bs bad := by
  refine ⟨h.own, fun k hF => ⟨(h.ge k hF).1, Nat.lt_of_lt_of_le (h.ge k hF).2 hk.size⟩, ?_⟩
  obtain ⟨v, hg, hs, hv⟩ := h.shape
  exact ⟨v, (hk.block g (h.ge g h.own).2 (hf g h.own)).trans hg, hs.keep hk (fun k e => hf k (hv k e).1), hv⟩
theorem RdM.cells {W : World} {B g : Nat} {F : Nat → Prop} {bs : List Int} {bad : Bool} (h : RdM W B F g bs bad) : ∃ ao cap, W.heap[g]? = some (.cells #[.slice ao bs.length cap, .bool bad] 30 (0, 0)) ∧ SlAt W (.slice ao bs.length cap) bs ∧ (∀ k, (Value.slice ao bs.length cap).ownBlock = some k → F k ∧ k ≠ g) ∧
    W.cell? ⟨g, 0, none⟩ = some (.slice ao bs.length cap) ∧ W.cell? ⟨g, 1, none⟩ = some (.bool bad) ∧ W.frozen? ⟨g, 0, none⟩ = false ∧ W.frozen? ⟨g, 1, none⟩ = false := by
  obtain ⟨v, hg, hs, hv⟩ := h.shape
  obtain ⟨ao, cap, rfl⟩ := hs.len
  exact ⟨ao, cap, hg, hs, hv, (cell_of_row W g 0 _ _ _ hg).trans rfl, (cell_of_row W g 1 _ _ _ hg).trans rfl, frozen_of_row W g 0 _ _ hg, frozen_of_row W g 1 _ _ hg⟩
theorem RdM.stop {W : World} {B g : Nat} {F : Nat → Prop} {bs : List Int} {bad : Bool} (h : RdM W B F g bs bad) (b2 : Bool) : RdM (W.setCell ⟨g, 1, none⟩ (.bool b2)) B F g bs b2 ∧ Keep F W (W.setCell ⟨g, 1, none⟩ (.bool b2)) := by
  have hk : Keep (fun k => k = g) W (W.setCell ⟨g, 1, none⟩ (.bool b2)) := Keep.set _ _ _ rfl
  obtain ⟨v, hg, hs, hv⟩ := h.shape
  refine ⟨⟨h.own, fun k hk => by simpa using h.ge k hk, v, ?_, hs.keep hk (fun k e => (hv k e).2), hv⟩, hk.mono (fun x e => .inl (e ▸ h.own))⟩
  rw [heap_setCell_same _ g 1 _ _ _ hg]
  rfl
theorem RdM.hB {W : World} {B g : Nat} {F : Nat → Prop} {bs : List Int} {bad : Bool} (h : RdM W B F g bs bad) : B ≤ W.heap.size := Nat.le_of_lt (Nat.lt_of_le_of_lt (h.ge g h.own).1 (h.ge g h.own).2)
theorem RdM.up {W w' : World} {B g : Nat} {F : Nat → Prop} {bs : List Int} {bad : Bool} (h : RdM w' B F g bs bad) (hB : B ≤ W.heap.size) : RdM w' B (Up F W w') g bs bad := by
  refine ⟨.inl h.own, fun k hk => ?_, ?_⟩
  · rcases hk with hk | hk
    · exact h.ge k hk
    · exact ⟨Nat.le_trans hB hk.1, hk.2⟩
  · obtain ⟨v, h1, h2, h3⟩ := h.shape
    exact ⟨v, h1, h2, fun k e => ⟨.inl (h3 k e).1, (h3 k e).2⟩⟩

/-- Behind an operation of the document's reader. -/
def MPost (W : World) (B : Nat) (F : Nat → Prop) (g : Nat) (bs : List Int) (bad : Bool) (w' : World) : Prop := Keep F W w' ∧ RdM w' B (Up F W w') g bs bad

set_option maxRecDepth 100000 in
set_option maxHeartbeats 1000000 in
theorem drop_any (W : World) (B : Nat) (F : Nat → Prop) (g : Nat) (bs : List Int) (bad : Bool) (n : Nat) (h : RdM W B F g bs bad) (hn : n ≤ bs.length) (hb : bs.length ≤ 140737488355328) :
    Calls Tryd.prog 70 #[.pointer (some ⟨g, 0, none⟩), .int .i64 n] W (fun e w' => e = .returned (.tuple #[]) ∧ MPost W B F g (bs.drop n) bad w') := by
  obtain ⟨ao, cap, hg, hs, hv, c0, c1, f0, f1⟩ := h.cells
  have hgl := (h.ge g h.own).2
  have hB0 : Below W.heap.size W (W.alloc (.cells #[] 5)) := (Below.refl _ _).alloc (Nat.le_refl _) _
  have hle := hs.le.1
  have hcs := hs.cut (lo := n) (m := bs.length - n) (by omega)
  rw [List.take_of_length_le (by simp)] at hcs
  obtain ⟨v', w', hrun, hrow, hk, hat⟩ := append_keep (W.alloc (.cells #[] 5)) W.heap.size (.slice (some ⟨W.heap.size, 0, none⟩) 0 0) [] (Row.empty W) _ (bs.drop n) (hcs.below hB0) (by simp; omega) (by simp)
  rw [List.nil_append] at hrow
  have hkW : Keep (fun _ => False) W w' := (Keep.of_below hB0 : Keep (fun _ => False) W _).trans hk (fun x e => .inr (by simp [Value.ownBlock] at e; omega))
  have hg2 : w'.heap[g]? = some (.cells #[.slice ao bs.length cap, .bool bad] 30 (0, 0)) := (hkW.block g hgl id).trans hg
  have d0 : w'.cell? ⟨g, 0, none⟩ = some (.slice ao bs.length cap) := (cell_of_row w' g 0 _ _ _ hg2).trans rfl
  have e0 := frozen_of_row w' g 0 _ _ hg2
  have hcut := run_cut_lk (P := Tryd.prog) .i64 Tryd.underlying22 size5 ao bs.length cap n hn
  have hc0' : (W.alloc (.cells #[] 5)).cell? ⟨g, 0, none⟩ = some (.slice ao bs.length cap) := (hB0.cell (p := ⟨g, 0, none⟩) hgl).trans c0
  have hfin : MPost W B F g (bs.drop n) bad (w'.setCell ⟨g, 0, none⟩ v') := by
    have hks : Keep (fun k => k = g) w' (w'.setCell ⟨g, 0, none⟩ v') := Keep.set _ _ _ rfl
    have hoff : ∀ k, v'.ownBlock = some k → W.heap.size ≤ k ∧ k < w'.heap.size := fun k e => ⟨hrow.ge e, hrow.lt e⟩
    refine ⟨(hkW.mono (fun _ h => h.elim) : Keep F W w').trans hks (fun x e => .inl (e ▸ h.own)), .inl h.own, fun k hk => ?_, v', ?_, hrow.slAt.keep hks (fun k e e2 => by have := (hoff k e).1; omega), fun k e => ⟨.inr ⟨(hoff k e).1, by simpa using (hoff k e).2⟩, by have := (hoff k e).1; omega⟩⟩
    · rcases hk with hk | hk
      · exact ⟨(h.ge k hk).1, Nat.lt_of_lt_of_le (h.ge k hk).2 (by simpa using hkW.size)⟩
      · exact ⟨Nat.le_trans h.hB hk.1, hk.2⟩
    · rw [heap_setCell_same _ g 0 _ _ _ hg2]
      rfl
  have HFIN := hide hfin
  obtain ⟨av, cv, hvv⟩ := hrow.slAt.len
  subst hvv
  clear hfin hrow hk hat hkW hg2 hcs hs hv h hB0 c0 c1 f0 f1 hg
  generalize sl ao n (bs.length - n) cap = cutv at hcut hrun
  go_enter Tryd.func70, Tryd.ntmps70
  go_wp2_with (first | (at_builtin; with_reducible refine wpList_append_run rfl (.tmp 5) (.tmp 11) 22 22 22 rfl rfl (.slice (some ⟨W.heap.size, 0, none⟩) 0 0) cutv _ w' rfl rfl hrun ?_))
  first | go_end0 | refine bodyPost_ret (results_none rfl _ _ _) rfl ?_
  refine ⟨rfl, ?_⟩
  have := HFIN.out
  rw [List.length_drop] at this
  exact this

set_option maxRecDepth 100000 in
set_option maxHeartbeats 1000000 in
theorem rawM_no (n : Int) (W : World) (B : Nat) (F : Nat → Prop) (g : Nat) (bs : List Int) (bad : Bool) (h : RdM W B F g bs bad) (hn : bad = true ∨ n < 0 ∨ (bs.length : Int) < n) :
    Calls Tryd.prog 23 #[.pointer (some ⟨g, 0, none⟩), .int .i64 n] W (fun e w' => e = .returned (.slice none 0 0) ∧ Keep F W w' ∧ RdM w' B F g bs true) := by
  obtain ⟨ao, cap, hg, hs, hv, c0, c1, f0, f1⟩ := h.cells
  have HH := hide (h.stop true)
  clear h hg hs hv
  obtain ⟨l, hl⟩ : ∃ l, bs.length = l := ⟨_, rfl⟩
  rw [hl] at hn c0
  clear hl
  cases bad with
  | true =>
    go_enter Tryd.func23, Tryd.ntmps23
    go_wp2_with fail
    go_ret
    exact ⟨rfl, HH.out.2, HH.out.1⟩
  | false =>
    by_cases h0 : n < 0
    · go_enter Tryd.func23, Tryd.ntmps23
      go_wp2_with fail
      go_ret
      exact ⟨rfl, HH.out.2, HH.out.1⟩
    · have h1 : (l : Int) < n := by simp at hn; omega
      go_enter Tryd.func23, Tryd.ntmps23
      go_wp2_with fail
      go_ret
      exact ⟨rfl, HH.out.2, HH.out.1⟩

set_option maxRecDepth 100000 in
set_option maxHeartbeats 1000000 in
theorem rawM_go (n : Nat) (W : World) (B : Nat) (F : Nat → Prop) (g : Nat) (bs : List Int) (h : RdM W B F g bs false) (hn : n ≤ bs.length) (hb : bs.length ≤ 140737488355328) :
    Calls Tryd.prog 23 #[.pointer (some ⟨g, 0, none⟩), .int .i64 n] W (fun e w' => ∃ v, e = .returned v ∧ SlAt w' v (bs.take n) ∧ MPost W B F g (bs.drop n) false w') := by
  obtain ⟨ao, cap, hg, hs, hv, c0, c1, f0, f1⟩ := h.cells
  have hgl := (h.ge g h.own).2
  have hB0 : Below W.heap.size W (W.alloc (.cells #[] 5)) := (Below.refl _ _).alloc (Nat.le_refl _) _
  have hle := hs.le.1
  have hcs := hs.front' hn
  obtain ⟨v', w', hrun, hrow, hk, hat⟩ := append_keep (W.alloc (.cells #[] 5)) W.heap.size (.slice (some ⟨W.heap.size, 0, none⟩) 0 0) [] (Row.empty W) _ (bs.take n) (hcs.below hB0) (by simp; omega) (by simp)
  rw [List.nil_append] at hrow
  have hB1 : Below W.heap.size W w' := hk.through hB0 (fun k e => by simp [Value.ownBlock] at e; omega) (by simp)
  have h1 := h.keep (Keep.of_below hB1 : Keep (fun _ => False) W w') (fun _ _ => id)
  have HD := hide (drop_any w' B F g bs false n h1 hn hb)
  have hcut := run_cut_hk (P := Tryd.prog) .i64 Tryd.underlying22 size5 ao bs.length cap n (by omega)
  have hc0' : (W.alloc (.cells #[] 5)).cell? ⟨g, 0, none⟩ = some (.slice ao bs.length cap) := (hB0.cell (p := ⟨g, 0, none⟩) hgl).trans c0
  have HB1 := hide hB1
  have HR := hide hrow
  have HGE := hide h.ge
  have HOB := hide h.hB
  obtain ⟨av, cv, hvv⟩ := hrow.slAt.len
  rw [show (bs.take n).length = n by simp; omega] at hvv
  subst hvv
  have hni : ¬ (n : Int) < 0 := by omega
  have hnl : ¬ (n : Int) > (bs.length : Int) := by omega
  clear hrow hk hat hB1 h1 hcs hs hv h hB0 hg hle
  obtain ⟨l, hl⟩ : ∃ l, bs.length = l := ⟨_, rfl⟩
  rw [hl] at hc0' hcut hnl c0
  clear hl
  go_enter Tryd.func23, Tryd.ntmps23
  go_wp2_with (first | (at_builtin; with_reducible refine wpList_append_run rfl (.tmp 26) (.tmp 32) 22 22 22 rfl rfl (.slice (some ⟨W.heap.size, 0, none⟩) 0 0) (.slice ao n cap) _ w' rfl rfl hrun ?_))
  refine HD.out.mono ?_
  rintro e w2 ⟨rfl, hk2, hr2⟩
  have HS2 := hide (HR.out.slAt.keep hk2 (fun k e hf => by have := HR.out.ge e; have := (HGE.out k hf).2; omega))
  have HP : Hid (MPost W B F g (bs.drop n) false w2) := hide (by
    have hkk : Keep F W w2 := (Keep.of_below HB1.out : Keep F W w').trans hk2 (fun _ h => .inl h)
    refine ⟨hkk, .inl ?_, fun k hk => ?_, ?_⟩
    · rcases hr2.own with h | h
      · exact h
      · have := HB1.out.size; omega
    · rcases hk with hk | hk
      · exact ⟨(HGE.out k hk).1, Nat.lt_of_lt_of_le (HGE.out k hk).2 hkk.size⟩
      · exact ⟨Nat.le_trans HOB.out hk.1, hk.2⟩
    · obtain ⟨u, q1, q2, q3⟩ := hr2.shape
      refine ⟨u, q1, q2, fun k e => ⟨?_, (q3 k e).2⟩⟩
      rcases (q3 k e).1 with q | q
      · exact .inl q
      · exact .inr ⟨Nat.le_trans HB1.out.size q.1, q.2⟩)
  clear hk2 hr2 HD
  go_wp2_with fail
  go_ret
  exact ⟨_, rfl, HS2.out, HP.out⟩
end Go.Proofs.YtdlhengfhmkpdaaDoor
