/- slices.SortFunc, slices.SortedFunc at names. -/
import Derived.Test.YtjbfaaoeoggkpaaNmApp
import Derived.Test.YtjbfaaoeoggkpaaNmIns
import Derived.Test.YtjbfaaoeoggkpaaGSort
import Derived.Test.YtjbfaaoeoggkpaaShelf
namespace Go.Proofs.Ytjbfaaoeoggkpaa
open Go.RowKit

theorem lt_nm (a b : Nm) : ltOf cmpN a b = decide (cmpN a b < 0) := rfl
theorem swo_nm : Sort.SWO (ltOf cmpN) where
  irrefl x := by rw [lt_nm, cmpN_self]; rfl
  trans x y z h1 h2 := by
    rw [lt_nm, decide_eq_true_eq] at *
    rw [cmpN_trans (cmpN_lt h1) (cmpN_lt h2)]
    decide
  ntrans x y z h1 h2 := by
    rw [lt_nm, decide_eq_false_iff_not] at *
    intro h3
    have h4 := cmpN_lt h3
    rcases cmpN_vals y z with h5 | h5 | h5
    · omega
    · rw [cmpN_zero h5] at h1
      omega
    · have h6 := cmpN_neg y z
      have h7 := cmpN_trans h4 (show cmpN z y = -1 by omega)
      omega
def LeN (l : List Nm) : Prop := l.Pairwise fun a b => cmpN a b ≤ 0
theorem sorted_nm (d : Array Nm) (h : Sort.SortedIn (ltOf cmpN) 0 d.size d) : LeN d.toList := by
  unfold LeN
  rw [List.pairwise_iff_getElem]
  intro i j hi hj hij
  have hi' : i < d.size := by simpa using hi
  have hj' : j < d.size := by simpa using hj
  have h1 := h i j (Nat.zero_le _) hij hj'
  rw [lt_nm, getElem!_pos d i hi', getElem!_pos d j hj', decide_eq_false_iff_not] at h1
  have h2 := cmpN_neg d[j] d[i]
  simp only [Array.getElem_toList]
  omega

/-- What the sort leaves. -/
def SortPost (W : World) (B : Nat) (v : Value) (l : List Nm) (e : Ending) (w' : World) : Prop :=
  e = .returned (.tuple #[]) ∧ ∃ l', l'.Perm l ∧ LeN l' ∧ GRow KN w' B v l' ∧ Keep (fun k => v.ownBlock = some k) W w'

set_option maxRecDepth 100000 in
set_option maxHeartbeats 1000000 in
theorem sort_any (W : World) (B : Nat) (v : Value) (l : List Nm) (h : GRow KN W B v l) (hl : l.length ≤ 1000) : Calls Try.prog 33 #[v, .func (.func 13) #[] #[]] W (SortPost W B v l) := by
  rcases h.own with ⟨rfl, rfl⟩ | ⟨g, c, rfl⟩
  · go_enter Try.func33, Try.ntmps33
    go_wp2_with go_in
    go_loopw [1, 2] (fun a b wr => a = .int .i64 0 ∧ b = .int .i64 0 ∧ wr = W) (fun _ _ _ => 0)
    case atStart => exact ⟨rfl, rfl, rfl⟩
    case round =>
      obtain ⟨rfl, rfl, rfl⟩ := hrel
      go_wp2_with go_in
      go_loopw [8] (fun x wq => x = .int .i64 1 ∧ wq = wr) (fun _ _ => 0)
      case atStart => exact ⟨rfl, rfl⟩
      case round =>
        obtain ⟨rfl, rfl⟩ := hrel
        go_wp2_with fail
        have HR : HidL (SortPost wr B (.slice none 0 0) [] (.returned (.tuple #[])) wr) := hideL ⟨rfl, [], List.Perm.refl _, List.Pairwise.nil, h, Keep.refl _ _⟩
        try simp only [Exit.inBlock, Exit.then]
        go_end0
        dsimp only
        go_wp2_with fail
        try simp only [Exit.inBlock, Exit.then]
        refine bodyPost_ret (results_none rfl _ _ _) rfl ?_
        dsimp only
        go_wp2_with fail
        go_end0
        exact HR.out
  · have eg : ∀ args w, (callFunc 13 args).run Try.prog w = .ok (.enter 13 args) w := enters_of Try.func13 (by kernel_rfl) rfl
    have hcon := AnyQ.slices_SortFunc Try.sortName 2 Try.isAgg23 Try.sizeOf23 KN.cells KN.len KN.one cmpN swo_nm 13 #[] g 0 c l.toArray W eg (fun m os dk _ x y => (cmp_any x y _).mono (by rintro e w' ⟨rfl, rfl⟩; refine ⟨rfl, 0, #[.cells #[.string x.ns, .string x.sa] 23, .cells #[.string y.ns, .string y.sa] 23], ?_⟩; unfold CmpW; rw [Sort.alloc_eq_grow, Sort.alloc_eq_grow, Sort.grow_grow]; rfl)) (holds_g h) (h.lt rfl) (by simp; omega)
    refine hcon.mono ?_
    rintro e w' ⟨rfl, d', n, os, hp, hs, rfl⟩
    have hsz : d'.size = l.length := by have := hp.1; simpa using this
    have hr := sort_g W B g l.length c n l d'.toList os h rfl (by simpa using hsz)
    rw [Array.toArray_toList] at hr
    exact ⟨rfl, d'.toList, by have := perm_g hp; simpa using this, sorted_nm d' (by rw [hsz]; simpa using hs), hr.1, hr.2.mono (fun x hx => .inl (by rw [hx]; rfl))⟩

set_option maxRecDepth 100000 in
set_option maxHeartbeats 1000000 in
theorem sortedFunc_any (Bs len cap : Nat) (ao : Option Addr) (zs : List Nm) (hz : zs.length = len) (hreach : len ≤ 1000) (w : World) (hBs : Bs < w.heap.size)
    (hc : w.cell? ⟨Bs, 0, none⟩ = some (.slice ao len cap)) (hI : GAt KN w (.slice ao len cap) zs) :
    Calls Try.prog 27 #[.func (.func 34) #[] #[.pointer (some ⟨Bs, 0, none⟩)], .func (.func 13) #[] #[]] w fun e W' => ∃ v l', e = .returned v ∧ l'.Perm zs ∧ LeN l' ∧ GRow KN W' w.heap.size v l' ∧ Below w.heap.size w W' := by
  have LA := hideL (collect_any Bs len cap ao zs hz hreach w hBs hc hI)
  have LS := hideL (fun W v (h : GRow KN W w.heap.size v zs) => sort_any W w.heap.size v zs h (by omega))
  clear hc hI
  go_enter Try.func27, Try.ntmps27
  go_wp2_with (first
    | (go_at_call 32; with_reducible refine (LA.out).mono ?_; rintro e w2 ⟨v, rfl, hr, hB⟩)
    | (go_at_call 33; refine (LS.out _ _ hr).mono ?_; rintro e w3 ⟨rfl, l', hp, hs, hr3, hk⟩))
  go_ret
  exact ⟨v, l', rfl, hp, hs, hr3, hk.through hB (fun k hk => hr.ge hk) hB.size⟩
end Go.Proofs.Ytjbfaaoeoggkpaa
