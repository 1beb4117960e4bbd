/- slices.SortFunc at a row of nets of the call's own. -/
import Derived.Test.YtgikkjjnoakhdaaDoorAdCmp
import Derived.Test.YtgikkjjnoakhdaaDoorShelf
namespace Go.Proofs.YtgikkjjnoakhdaaDoor
open Go.RowKit

theorem getD_toArray (l : List Net) (i : Nat) (h : i < l.length) : l.toArray[i]! = l.getD i default := by simp [List.getD, h]
theorem flat_net (l : List Net) : Sort.flatK Net.cells 2 l.toArray = (netCells l).toArray := by
  refine Sort.ext_get! (by simp [length_netCells]) fun t ht => ?_
  have ht2 : t < l.length * 2 := by simpa using ht
  rw [Sort.get_flatK _ _ _ t (by simpa using ht2)]
  have h := get_netCells l (t / 2) (t % 2) (by omega) (by omega)
  rw [show t / 2 * 2 + t % 2 = t by omega] at h
  have h3 : t < (netCells l).length := by rw [length_netCells]; exact ht2
  rw [getD_toArray l (t / 2) (by omega)]
  generalize l.getD (t / 2) default = c at *
  have h4 : t % 2 < c.cells.length := by simp [Net.cells]; omega
  rw [List.getElem?_eq_getElem h3, List.getElem?_eq_getElem h4] at h
  injection h with h
  rw [getElem!_pos c.cells (t % 2) h4, getElem!_pos (netCells l).toArray t (by simpa using h3)]
  simpa using h.symm

theorem put_take (cur F : Array Value) (h : F.size ≤ cur.size) : (Sort.putCells id 0 F cur).toList.take F.size = F.toList := by
  refine List.ext_getElem (by simp [Sort.putCells]; omega) fun i h1 h2 => ?_
  have hi : i < F.size := by simpa using h2
  rw [List.getElem_take]
  simp [Sort.putCells, hi]

theorem sort_row (W : World) (B g n cap m : Nat) (l l' : List Net) (os : Array Obj) (h : CRow W B (.slice (some ⟨g, 0, none⟩) n cap) l) (hn : l.length = n) (_h0 : 0 < n ∨ True) (hl : l'.length = l.length) :
    CRow (sortWorldK Net.cells 2 W g 0 m l'.toArray os) B (.slice (some ⟨g, 0, none⟩) n cap) l' ∧ Keep (fun k => k = g) W (sortWorldK Net.cells 2 W g 0 m l'.toArray os) := by
  have hf := flat_net l'
  have hlen := length_netCells l'
  obtain ⟨h1, h2 | ⟨g', cap', cur, e1, e2, e3, e4, e5, e6, e7⟩⟩ := h
  · cases h2.1
  · injection e1 with e1 e1' e1''
    injection e1 with e1
    injection e1 with e1 _ _
    subst e1 e1''
    have hlt : g < W.heap.size := (Array.getElem?_eq_some_iff.1 e3).1
    have hb : (sortWorldK Net.cells 2 W g 0 m l'.toArray os).heap[g]? = some (.cells (Sort.putCells id 0 (netCells l').toArray cur) 24 (0, 0)) := by
      unfold sortWorldK Sort.putRowK Sort.putRow Sort.mapBlock Sort.grow
      rw [hf]
      dsimp only
      rw [Array.getElem?_append_left (by simpa using hlt), Array.getElem?_modify]
      simp [e3, Sort.onCells]
    refine ⟨⟨hlen, .inr ⟨g, cap, _, by rw [hl, hn], e2, hb, by rw [hl]; exact e4, e5, by simp [Sort.putCells]; exact e6, ?_⟩⟩, ?_⟩
    · have := put_take cur (netCells l').toArray (by rw [List.size_toArray, hlen, e6, hl]; exact Nat.mul_le_mul_right 2 e4)
      rw [List.size_toArray, hlen] at this
      exact this
    · refine ⟨rfl, rfl, rfl, ?_, fun k hk hne => ?_⟩
      · unfold sortWorldK Sort.putRowK
        simp
      · unfold sortWorldK Sort.putRowK Sort.putRow Sort.mapBlock Sort.grow
        dsimp only
        rw [Array.getElem?_append_left (by simpa using hk), Array.getElem?_modify, if_neg (fun e => hne e.symm)]
        rfl

theorem lt_net (c d : Net) : ltOf cmpN c d = decide (c.a < d.a ∨ (c.a = d.a ∧ c.b < d.b)) := by
  unfold ltOf cmpN cmpZ
  rw [decide_eq_decide]
  split <;> rename_i h <;> (repeat' split at h) <;> (repeat' split) <;> omega
theorem swo_net : Sort.SWO (ltOf cmpN) where
  irrefl x := by rw [lt_net]; simp
  trans x y z h1 h2 := by rw [lt_net] at *; simp at *; omega
  ntrans x y z h1 h2 := by rw [lt_net] at *; simp at *; omega
theorem sorted_lex (d : Array Net) (h : Sort.SortedIn (ltOf cmpN) 0 d.size d) : d.toList.Pairwise lexle := by
  rw [List.pairwise_iff_getElem]
  intro i j hi hj hij
  have hi' : i < d.size := by simpa using hi
  have hj' : j < d.size := by simpa using hj
  have h1 := h i j (Nat.zero_le _) hij hj'
  rw [lt_net, getElem!_pos d i hi', getElem!_pos d j hj'] at h1
  simp at h1
  simp only [Array.getElem_toList]
  unfold lexle
  omega
theorem perm_net {d d' : Array Net} (h : Sort.PermIn 0 d.size d d') : d'.toList.Perm d.toList := by
  obtain ⟨h1, _, h3⟩ := h
  have e1 : d.extract 0 d.size = d := by simp
  have e2 : d'.extract 0 d.size = d' := by rw [← h1]; simp
  rw [e1, e2] at h3
  exact h3

/-- What the sort leaves. -/
def SortPost (W : World) (B : Nat) (v : Value) (l : List Net) (e : Ending) (w' : World) : Prop :=
  e = .returned (.tuple #[]) ∧ ∃ l', l'.Perm l ∧ l'.Pairwise lexle ∧ CRow w' B v l' ∧ Keep (fun k => v.ownBlock = some k) W w'

set_option maxRecDepth 100000 in
set_option maxHeartbeats 1000000 in
theorem sort_any (W : World) (B : Nat) (v : Value) (l : List Net) (h : CRow W B v l) (hl : l.length ≤ 1000) : Calls Tryd.prog 54 #[v, .func (.func 55) #[] #[]] W (SortPost W B v l) := by
  rcases h.own with ⟨rfl, rfl⟩ | ⟨g, c, rfl⟩
  · go_enter Tryd.func54, Tryd.ntmps54
    go_wp2_with go_in
    go_loopw [1, 2] (fun a b wr => a = .int .i64 0 ∧ b = .int .i64 0 ∧ wr = W) (fun _ _ _ => 0)
    case atStart => exact ⟨rfl, rfl, rfl⟩
    case round =>
      obtain ⟨rfl, rfl, rfl⟩ := hrel
      go_wp2_with go_in
      go_loopw [8] (fun x wq => x = .int .i64 1 ∧ wq = wr) (fun _ _ => 0)
      case atStart => exact ⟨rfl, rfl⟩
      case round =>
        obtain ⟨rfl, rfl⟩ := hrel
        go_wp2_with fail
        have HR : Hid (SortPost wr B (.slice none 0 0) [] (.returned (.tuple #[])) wr) := hide ⟨rfl, [], List.Perm.refl _, List.Pairwise.nil, h, Keep.refl _ _⟩
        try simp only [Exit.inBlock, Exit.then]
        go_end0
        dsimp only
        go_wp2_with fail
        try simp only [Exit.inBlock, Exit.then]
        refine bodyPost_ret (results_none rfl _ _ _) rfl ?_
        dsimp only
        go_wp2_with fail
        go_end0
        exact HR.out
  · have eg : ∀ args w, (callFunc 55 args).run Tryd.prog w = .ok (.enter 55 args) w := enters_of Tryd.func55 (by kernel_rfl) rfl
    have hH : Sort.HoldsK Net.cells 2 W g 0 l.toArray := by
      intro j hj
      have hc := World.ownsRow.cells h (g := g) rfl
      rw [flat_net] at hj ⊢
      have hj2 : j < (netCells l).length := by simpa using hj
      have h3 := hc j _ (List.getElem?_eq_getElem hj2)
      rw [addr_plain'] at h3
      refine ⟨h3.trans ?_, ?_⟩
      · rw [getElem!_pos _ j hj]
        simp
      · obtain ⟨_, h2 | ⟨g', cap', cur, e1, e2, e3, _⟩⟩ := h
        · cases h2.1
        · injection e1 with e1 _ _
          injection e1 with e1
          injection e1 with e1 _ _
          subst e1
          exact frozen_of_row W g _ _ _ e3
    have hcon := AnyQ.slices_SortFunc Tryd.sortCidr 2 Tryd.isAgg24 Tryd.sizeOf24 Net.cells (fun _ => rfl) (fun x v hv => by simp [Net.cells] at hv; rcases hv with rfl | rfl <;> rfl) cmpN swo_net 55 #[] g 0 c l.toArray W eg (fun _ _ _ _ x y => closure_any x y _) hH (h.lt rfl) (by simp; omega)
    refine hcon.mono ?_
    rintro e w' ⟨rfl, d', n, os, hp, hs, rfl⟩
    have hsz : d'.size = l.length := by have := hp.1; simpa using this
    have hr := sort_row W B g l.length c n l d'.toList os h rfl (.inr trivial) (by simpa using hsz)
    rw [Array.toArray_toList] at hr
    exact ⟨rfl, d'.toList, by have := perm_net hp; simpa using this, sorted_lex d' (by rw [hsz]; simpa using hs), hr.1, hr.2.mono (fun x hx => .inl (by rw [hx]; rfl))⟩
end Go.Proofs.YtgikkjjnoakhdaaDoor
