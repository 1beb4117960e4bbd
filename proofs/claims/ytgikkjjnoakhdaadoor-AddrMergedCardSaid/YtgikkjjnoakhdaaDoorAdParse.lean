/- Parse, of the program and of the document. -/
import Derived.Test.YtgikkjjnoakhdaaDoorAdEnv
import Derived.Test.YtgikkjjnoakhdaaDoorAdCut
import Derived.Test.YtgikkjjnoakhdaaDoorAdRNum
import Derived.Test.YtgikkjjnoakhdaaDoorAdCov
namespace Go.Proofs.YtgikkjjnoakhdaaDoor
open Go.RowKit Go.Lib

def foldS : List (List UInt8) → Nat → Option Nat
  | [], x => some x
  | p :: r, x => match numS 255 p with | none => none | some n => foldS r (x * 256 + n)
theorem foldS_hit {p : List UInt8} {r : List (List UInt8)} {x n : Nat} (h : numS 255 p = some n) : foldS (p :: r) x = foldS r (x * 256 + n) := by rw [foldS, h]
theorem foldS_miss {p : List UInt8} {r : List (List UInt8)} {x : Nat} (h : numS 255 p = none) : foldS (p :: r) x = none := by rw [foldS, h]
theorem parseS_fold (l : List UInt8) (h : (cutL 46 l).length = 4) : parseS l = foldS (cutL 46 l) 0 := by
  unfold parseS
  match cutL 46 l, h with
  | [a, b, c, d], _ =>
    simp only [List.map_cons, List.map_nil, foldS]
    cases numS 255 a <;> cases numS 255 b <;> cases numS 255 c <;> cases numS 255 d <;> simp
theorem parseS_not (l : List UInt8) (h : (cutL 46 l).length ≠ 4) : parseS l = none := by
  unfold parseS
  split
  · rename_i he
    have := congrArg List.length he
    simp at this
    exact absurd this h
  · rfl

/-- What Parse answers. -/
def ParPost (w : World) (r : Option Nat) (e : Ending) (w' : World) : Prop := e = .returned (.tuple #[.int .u32 (r.getD 0 : Nat), .int .i64 (if r.isSome = true then 0 else 2)]) ∧ Below w.heap.size w w'

theorem shl_or (x n : Nat) (hx : x < 16777216) (hn : n < 256) : bits BinOp.or IntKind.u32 ((x * 256 : Nat) : Int) (n : Int) = ((x * 256 + n : Nat) : Int) := by
  rw [u32_or2 (x * 256) n (by omega) (by omega)]
  have h := Nat.two_pow_add_eq_or_of_lt (i := 8) hn x
  rw [show x * 256 = 2 ^ 8 * x by omega, h]

theorem texts_get {l : List ByteArray} {m : List (List UInt8)} (h : l.map (fun b => b.data.toList) = m) (k : Nat) (hk : k < l.length) : m.drop k = (l.getD k ByteArray.empty).data.toList :: m.drop (k + 1) := by
  subst h
  rw [List.drop_eq_getElem_cons (by simpa using hk)]
  simp [List.getD, hk]
theorem text_size {c : UInt8} {s : List UInt8} : ∀ p ∈ cutL c s, p.length ≤ s.length := by
  induction s with
  | nil => intro p hp; simp [cutL] at hp; simp [hp]
  | cons x s ih =>
    intro p hp
    rw [cutL] at hp
    split at hp
    · rcases List.mem_cons.1 hp with rfl | hp
      · simp
      · have := ih p hp; simp; omega
    · split at hp
      · simp at hp; simp [hp]
      · rename_i q r heq
        rw [heq] at ih
        rcases List.mem_cons.1 hp with rfl | hp
        · have := ih q (by simp); simp; omega
        · have := ih p (by simp [hp]); simp; omega
theorem texts_small {l : List ByteArray} {c : UInt8} {s : ByteArray} (h : l.map (fun b => b.data.toList) = cutL c s.data.toList) (k : Nat) (hk : k < l.length) : (l.getD k ByteArray.empty).size ≤ s.size := by
  have hm : (l.getD k ByteArray.empty).data.toList ∈ cutL c s.data.toList := by
    rw [← h]
    exact List.mem_map.2 ⟨l.getD k ByteArray.empty, by simp [List.getD, hk], rfl⟩
  have := text_size _ hm
  rw [Array.length_toList, Array.length_toList] at this
  exact this

theorem number_b (s : ByteArray) (most : Nat) (hm : most ≤ 1000) (hs : s.size ≤ 9223372036854775807) {r : Option Nat} (hr : numS most s.data.toList = r) (w : World) : Calls Tryd.prog 36 #[.string s, .int .i64 most] w (fun e w' => e = .returned (.tuple #[.int .i64 (r.getD 0 : Nat), .bool r.isSome]) ∧ Below w.heap.size w w') := by
  subst hr
  refine (number_any s most hm hs w).mono ?_
  rintro e w' ⟨rfl, n, rfl⟩
  exact ⟨rfl, below_drewN' w n⟩

set_option maxRecDepth 100000 in
set_option maxHeartbeats 1000000 in
theorem parse_any (s : ByteArray) (hs : s.size < 100000) (w : World) (hE : Env w) : Calls Tryd.prog 11 #[.string s] w (ParPost w (parseS s.data.toList)) := by
  have HSP := hide (splitN_any s (by omega) w hE)
  go_enter Tryd.func11, Tryd.ntmps11
  go_wp2_with fail
  refine HSP.out.mono ?_
  rintro e w1 ⟨v, l, rfl, hT, hB, h5, hl, hm⟩
  clear HSP
  obtain ⟨ao, cap, hv⟩ := hT.len
  by_cases hn : l.length = 4
  rotate_left
  · have hp := hide (parseS_not s.data.toList (fun e => hn (hl.2 e)))
    obtain ⟨n, hn'⟩ : ∃ n, l.length = n := ⟨_, rfl⟩
    rw [hn'] at hn hv
    subst hv
    have hne : ((n : Int) != 4) = true := by simp; omega
    clear hn' hn hm hl h5 hT hE
    go_wp2_with fail
    go_ret2
    rw [hp.out]
    exact ⟨rfl, hB⟩
  · have hp := parseS_fold s.data.toList (hl.1 hn)
    have hm' := hm hn
    rw [hn] at hv
    subst hv
    have HT := hide hT
    have HP := hide hp
    have HM := hide hm'
    have HN := hide hn
    have HB := hide hB
    clear hT hl hm hn hp hm' hB h5 hE
    go_wp2_with fail
    go_loopw [5, 17] (fun a i wr => ∃ k x : Nat, k ≤ 4 ∧ x < 256 ^ k ∧ i = .int .i64 k ∧ a = .int .u32 x ∧ foldS ((cutL 46 s.data.toList).drop k) x = foldS (cutL 46 s.data.toList) 0 ∧ Below w1.heap.size w1 wr) (fun _ i _ => 4 - (RowKit.intOf i).toNat)
    case atStart => exact ⟨0, 0, by omega, by omega, rfl, rfl, by rw [List.drop_zero], Below.refl _ _⟩
    case round =>
      obtain ⟨k, x, hk, hx, rfl, rfl, hd, hB1⟩ := hrel
      by_cases hlt : k < 4
      · obtain ⟨b, o, hao, hbl, hc⟩ := HT.out.at (k := k) hlt
        have hsm := texts_small HM.out k (by rw [HN.out]; exact hlt)
        have hget := texts_get HM.out k (by rw [HN.out]; exact hlt)
        rw [hget] at hd
        generalize l.getD k ByteArray.empty = p at *
        have hc2 := (hB1.cell (p := ⟨b, o + k, none⟩) hbl).trans hc
        have hlt' : (k : Int) < 4 := by omega
        subst hao
        cases hr : numS 255 p.data.toList with
        | none =>
          have HNUM : Hid (∀ W : World, Calls Tryd.prog 36 #[.string p, .int .i64 255] W (fun e w' => e = .returned (.tuple #[.int .i64 0, .bool false]) ∧ Below W.heap.size W w')) := hide (fun W => number_b p 255 (by omega) (by omega) hr W)
          rw [foldS_miss hr] at hd
          have HD := hide hd
          have HB1 := hide hB1
          clear hd hr hget hsm hc hB1
          go_wp2_with (go_at_call 36; refine (HNUM.out _).mono ?_; rintro e w2 ⟨rfl, hB2⟩)
          go_ret2
          rw [HP.out, ← HD.out]
          exact ⟨rfl, HB.out.trans ((HB1.out.trans (hB2.mono HB1.out.size)).mono HB.out.size)⟩
        | some n =>
          have HNUM : Hid (∀ W : World, Calls Tryd.prog 36 #[.string p, .int .i64 255] W (fun e w' => e = .returned (.tuple #[.int .i64 n, .bool true]) ∧ Below W.heap.size W w')) := hide (fun W => number_b p 255 (by omega) (by omega) hr W)
          rw [foldS_hit hr] at hd
          have hn := ((numS_iff _ _ _).1 hr).1
          have HD := hide hd
          have HB1 := hide hB1
          clear hd hr hget hsm hc hB1
          go_wp2_with (go_at_call 36; refine (HNUM.out _).mono ?_; rintro e w2 ⟨rfl, hB2⟩)
          have hx3 : x < 16777216 := Nat.lt_of_lt_of_le hx (show 256 ^ k ≤ 256 ^ 3 from Nat.pow_le_pow_right (by omega) (by omega))
          have hxe : ((x : Int) * 256 % 4294967296) = ((x * 256 : Nat) : Int) := by omega
          refine ⟨⟨k + 1, x * 256 + n, by omega, by rw [Nat.pow_succ]; omega, by simp, ?_, HD.out, HB1.out.trans (hB2.mono HB1.out.size)⟩, ?_⟩
          · rw [hxe, shl_or x n hx3 (by omega)]
          · simp [RowKit.intOf]
            omega
      · obtain rfl : k = 4 := by omega
        rw [List.drop_eq_nil_of_le (by rw [← HM.out, List.length_map, HN.out]; exact Nat.le_refl _)] at hd
        have HD := hide hd
        have HB1 := hide hB1
        clear hd hB1
        go_wp2_with fail
        go_ret2
        rw [HP.out, ← HD.out]
        exact ⟨rfl, HB.out.trans (HB1.out.mono HB.out.size)⟩

set_option maxRecDepth 100000 in
set_option maxHeartbeats 1000000 in
theorem parseR_any (s : ByteArray) (hs : s.size < 100000) (w : World) : Calls Tryd.prog 12 #[.string s] w (ParPost w (parseS s.data.toList)) := by
  have HSP : Hid (Calls Tryd.prog 37 #[.string s, .int .u8 46] w (fun e w' => ∃ v l, e = .returned v ∧ TRow w' w.heap.size v l ∧ TextsAre l (cutL 46 s.data.toList) ∧ Below w.heap.size w w')) := hide (cutR_any s 46 (by omega) w)
  go_enter Tryd.func12, Tryd.ntmps12
  go_wp2_with fail
  refine HSP.out.mono ?_
  rintro e w1 ⟨v, l, rfl, hR, hm, hB⟩
  clear HSP
  have hT := hR.tAt
  clear hR
  obtain ⟨ao, cap, hv⟩ := hT.len
  have hne : 0 < l.length := by
    have h := congrArg List.length (show l.map (fun b => b.data.toList) = _ from hm)
    have := List.length_pos_iff.2 (cutL_ne 46 s.data.toList)
    rw [List.length_map] at h
    omega
  by_cases hn : l.length = 4
  rotate_left
  · have hp := hide (parseS_not s.data.toList (fun e => hn (by rw [← e, ← show l.map (fun b => b.data.toList) = _ from hm, List.length_map])))
    have hsm := texts_small hm 0 hne
    obtain ⟨n, hn'⟩ : ∃ n, l.length = n := ⟨_, rfl⟩
    rw [hn'] at hn hv hne
    subst hv
    obtain ⟨b, o, hao, hbl, hc⟩ := hT.at (k := 0) hne
    subst hao
    rw [Nat.add_zero] at hc
    generalize l.getD 0 ByteArray.empty = p at hsm hc
    have hne2 : ((n : Int) != 4) = true := by simp; omega
    have hpos : (0 : Int) < (n : Int) := by omega
    have HNUM := hide (fun W : World => numberR_any p 255 (by omega) (by omega) W)
    have HB := hide hB
    clear hn' hn hm hT hsm hB
    go_wp2_with fail
    go_loopw [6] (fun i wr => i = .int .i64 0 ∧ wr = w1) (fun _ _ => 0)
    case atStart => exact ⟨rfl, rfl⟩
    case round =>
      obtain ⟨rfl, rfl⟩ := hrel
      obtain ⟨z, hz⟩ : ∃ z, numI (numS 255 p.data.toList) = z := ⟨_, rfl⟩
      rw [hz] at HNUM
      clear hz
      by_cases hz : z < 0
      · go_wp2_with (go_at_call 38; refine (HNUM.out _).mono ?_; rintro e w2 ⟨rfl, hB2⟩)
        go_ret2
        rw [hp.out]
        exact ⟨rfl, HB.out.trans (hB2.mono HB.out.size)⟩
      · go_wp2_with (go_at_call 38; refine (HNUM.out _).mono ?_; rintro e w2 ⟨rfl, hB2⟩)
        go_ret2
        rw [hp.out]
        exact ⟨rfl, HB.out.trans (hB2.mono HB.out.size)⟩
  · have hp := parseS_fold s.data.toList (by rw [← hn, ← show l.map (fun b => b.data.toList) = _ from hm, List.length_map])
    have hm' : l.map (fun b => b.data.toList) = _ := hm
    rw [hn] at hv
    subst hv
    have HT := hide hT
    have HP := hide hp
    have HM := hide hm'
    have HN := hide hn
    have HB := hide hB
    clear hT hm hn hp hm' hB hne
    go_wp2_with fail
    go_loopw [5, 6] (fun a i wr => ∃ k x : Nat, k ≤ 4 ∧ x < 256 ^ k ∧ i = .int .i64 k ∧ a = .int .u32 x ∧ foldS ((cutL 46 s.data.toList).drop k) x = foldS (cutL 46 s.data.toList) 0 ∧ Below w1.heap.size w1 wr) (fun _ i _ => 4 - (RowKit.intOf i).toNat)
    case atStart => exact ⟨0, 0, by omega, by omega, rfl, rfl, by rw [List.drop_zero], Below.refl _ _⟩
    case round =>
      obtain ⟨k, x, hk, hx, rfl, rfl, hd, hB1⟩ := hrel
      by_cases hlt : k < 4
      · obtain ⟨b, o, hao, hbl, hc⟩ := HT.out.at (k := k) hlt
        have hsm := texts_small HM.out k (by rw [HN.out]; exact hlt)
        have hget := texts_get HM.out k (by rw [HN.out]; exact hlt)
        rw [hget] at hd
        generalize l.getD k ByteArray.empty = p at *
        have hc2 := (hB1.cell (p := ⟨b, o + k, none⟩) hbl).trans hc
        have hlt' : (k : Int) < 4 := by omega
        subst hao
        cases hr : numS 255 p.data.toList with
        | none =>
          have HNUM : Hid (∀ W : World, Calls Tryd.prog 38 #[.string p, .int .i64 255] W (fun e w' => e = .returned (.int .i64 (-1)) ∧ Below W.heap.size W w')) := hide (fun W => by have h := numberR_any p 255 (by omega) (by omega) W; rw [hr] at h; exact h)
          rw [foldS_miss hr] at hd
          have HD := hide hd
          have HB1 := hide hB1
          clear hd hr hget hsm hc hB1
          go_wp2_with (go_at_call 38; refine (HNUM.out _).mono ?_; rintro e w2 ⟨rfl, hB2⟩)
          go_ret2
          rw [HP.out, ← HD.out]
          exact ⟨rfl, HB.out.trans ((HB1.out.trans (hB2.mono HB1.out.size)).mono HB.out.size)⟩
        | some n =>
          have HNUM : Hid (∀ W : World, Calls Tryd.prog 38 #[.string p, .int .i64 255] W (fun e w' => e = .returned (.int .i64 n) ∧ Below W.heap.size W w')) := hide (fun W => by have h := numberR_any p 255 (by omega) (by omega) W; rw [hr] at h; exact h)
          rw [foldS_hit hr] at hd
          have hn := ((numS_iff _ _ _).1 hr).1
          have hn0 : ¬ (n : Int) < 0 := by omega
          have hx3 : x < 16777216 := Nat.lt_of_lt_of_le hx (show 256 ^ k ≤ 256 ^ 3 from Nat.pow_le_pow_right (by omega) (by omega))
          have hw1 : IntKind.u32.wrap (256 * (x : Int)) = ((x * 256 : Nat) : Int) := by rw [IntWalk.u32_in _ (by omega)]; omega
          have hw2 : IntKind.u32.wrap (n : Int) = (n : Int) := IntWalk.u32_in _ (by omega)
          have hw3 : IntKind.u32.wrap (((x * 256 : Nat) : Int) + (n : Int)) = ((x * 256 + n : Nat) : Int) := by rw [IntWalk.u32_in _ (by omega)]; omega
          have HD := hide hd
          have HB1 := hide hB1
          clear hd hr hget hsm hc hB1
          obtain ⟨y, hy⟩ : ∃ y, x * 256 = y := ⟨_, rfl⟩
          rw [hy] at hw1 hw3 HD
          obtain ⟨y2, hy2⟩ : ∃ y2, y + n = y2 := ⟨_, rfl⟩
          rw [hy2] at hw3 HD
          have HY := hide (show y2 < 256 ^ (k + 1) by rw [Nat.pow_succ]; omega)
          clear hy hy2
          go_wp2_with (go_at_call 38; refine (HNUM.out _).mono ?_; rintro e w2 ⟨rfl, hB2⟩)
          go_roundw
          case rel => exact ⟨k + 1, y2, by omega, HY.out, by simp, rfl, HD.out, HB1.out.trans (hB2.mono HB1.out.size)⟩
          case measure => simp [RowKit.intOf]; omega
      · obtain rfl : k = 4 := by omega
        rw [List.drop_eq_nil_of_le (by rw [← HM.out, List.length_map, HN.out]; exact Nat.le_refl _)] at hd
        have HD := hide hd
        have HB1 := hide hB1
        clear hd hB1
        go_wp2_with fail
        go_ret2
        rw [HP.out, ← HD.out]
        exact ⟨rfl, HB.out.trans (HB1.out.mono HB.out.size)⟩
end Go.Proofs.YtgikkjjnoakhdaaDoor
