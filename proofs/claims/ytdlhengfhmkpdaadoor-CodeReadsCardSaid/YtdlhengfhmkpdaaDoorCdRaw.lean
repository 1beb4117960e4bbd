/- Package code: a text cut, and bytes cut. -/
import Derived.Test.YtdlhengfhmkpdaaDoorCdRead
namespace Go.Proofs.YtdlhengfhmkpdaaDoor
open Go.RowKit

/-- A text cut. -/
def cutTS (most : Int) (bs : List Int) : Option (List Int × List Int) := match cutUS bs with
  | none => none
  | some y => if most < 0 ∨ most < (y.1 : Int) ∨ y.2.length < y.1 then none else some (y.2.take y.1, y.2.drop y.1)
/-- So many bytes cut. -/
def cutRS (n : Int) (bs : List Int) : Option (List Int) := if n < 0 ∨ (bs.length : Int) < n then none else some (bs.drop n.toNat)

theorem cutL_len : ∀ (f i : Nat) (bs : List Int) (y : Nat × List Int), cutL f i bs = some y → y.2.length < bs.length
  | 0, _, _, _, h => by simp [cutL] at h
  | _ + 1, _, [], _, h => by simp [cutL] at h
  | f + 1, i, b :: r, y, h => by
    rw [cutL] at h
    split at h
    · cases h
    · split at h
      · cases h; simp
      · cases hc : cutL f (i + 1) r with
        | none => rw [hc] at h; cases h
        | some z =>
          rw [hc] at h
          cases h
          have := cutL_len f (i + 1) r z hc
          simp at this ⊢
          omega

set_option maxRecDepth 100000 in
set_option maxHeartbeats 1000000 in
theorem cutRaw_any (n : Int) (cg : Nat) (sv : Value) (bs : List Int) (W : World) (hcp : W.cell? ⟨cg, 0, none⟩ = some (.int .i64 n)) (hcl : cg < W.heap.size) (hs : SlAt W sv bs) (hb : bs.length ≤ 140737488355328) :
    Calls Tryd.prog 74 #[sv, .pointer (some ⟨cg, 0, none⟩)] W (CutPost W sv (fun f w => Row w W.heap.size f (bs.take n.toNat)) (cutRS n bs)) := by
  obtain ⟨ao, cap, rfl⟩ := hs.len
  have HS := hide hs
  clear hs
  obtain ⟨l, hl⟩ : ∃ l, l = bs.length := ⟨_, rfl⟩
  have HN := hide hl
  rw [← hl] at HS hb ⊢
  clear hl
  by_cases h0 : n < 0
  · go_enter Tryd.func74, Tryd.ntmps74
    go_wp2_with fail
    (try simp only [Exit.inBlock, Exit.then]); refine bodyPost_ret (results_tmp3 rfl _ _ _) rfl ?_
    refine ⟨Below.refl _ _, ?_⟩
    rw [cutRS, if_pos (.inl h0)]
    exact ⟨_, _, rfl⟩
  by_cases h1 : (l : Int) < n
  · go_enter Tryd.func74, Tryd.ntmps74
    go_wp2_with fail
    (try simp only [Exit.inBlock, Exit.then]); refine bodyPost_ret (results_tmp3 rfl _ _ _) rfl ?_
    refine ⟨Below.refl _ _, ?_⟩
    rw [cutRS, if_pos (.inr (by rw [← HN.out]; exact h1))]
    exact ⟨_, _, rfl⟩
  · obtain ⟨m, rfl⟩ : ∃ m : Nat, n = m := ⟨n.toNat, by omega⟩
    have hml : m ≤ l := by omega
    have hle : l ≤ cap := HS.out.le.1
    have hcut1 := run_cut_hk (P := Tryd.prog) .i64 Tryd.underlying22 size5 ao l cap m (by omega)
    have hcut2 := run_cut_lk (P := Tryd.prog) .i64 Tryd.underlying22 size5 ao l cap m hml
    have HSL := hide (HS.out.cut (lo := m) (m := l - m) (by omega))
    have HCL := hide (clone_any (.slice ao m cap) (bs.take m) W.drew ((HS.out.front' hml).below (Below.refl _ _).drew) (by simp; omega))
    have HE : Hid (cutRS (m : Int) bs = some (bs.drop m)) := hide (by rw [cutRS, if_neg (by rw [← HN.out]; omega)]; rfl)
    rw [HE.out]
    have hcl' : cg < W.drew.heap.size := hcl
    have h0' : ¬ (m : Int) < 0 := h0
    have h1' : ¬ (m : Int) > (l : Int) := by omega
    clear hml hle h0 h1
    go_enter Tryd.func74, Tryd.ntmps74
    go_wp2_with fail
    refine wp_region_held_drew (S := fun w' => w'.cell? ⟨cg, 0, none⟩ = some (.int .i64 (m : Int))) (by kernel_rfl) hcp (fun hHeld => ?_)
    refine wpAnyH_take (i := 0) (oi := { dst := some 14, op := Op.move (Operand.tmp 0), type := 22, pos := "reader.go:78", after := #[], guard := none }) (v := ?_) rfl (by kernel_rfl) (by kernel_rfl) (by kernel_rfl) (fun _ _ _ h => h) (Or.inl ⟨by rfl, ?_⟩) hHeld ?_
    rotate_left
    · intro w hSw; (try dsimp only at hSw); go_simp; first | done | with_reducible rfl
    try simp only [Act.put, List.setIfInBounds_toArray, List.set_cons_zero, List.set_cons_succ]
    refine wpAnyH_take (i := 1) (oi := { dst := some 15, op := Op.load 3 (Operand.tmp 1), type := 3, pos := "reader.go:78", after := #[], guard := none }) (v := ?_) rfl (by kernel_rfl) (by kernel_rfl) (by kernel_rfl) (fun _ _ _ h => h) (Or.inl ⟨by rfl, ?_⟩) hHeld ?_
    rotate_left
    · intro w hSw; (try dsimp only at hSw); (have hcp := hSw); go_simp; first | done | with_reducible rfl
    try simp only [Act.put, List.setIfInBounds_toArray, List.set_cons_zero, List.set_cons_succ]
    refine wpAnyH_take (i := 2) (oi := { dst := some 16, op := Op.slice 22 (Operand.tmp 14) none (some (Operand.tmp 15)) none, type := 22, pos := "reader.go:78", after := #[{ on := 0, ground := Ground.data }, { on := 1, ground := Ground.data }], guard := none }) (v := ?_) rfl (by kernel_rfl) (by kernel_rfl) (by kernel_rfl) (fun _ _ _ h => h) (Or.inl ⟨by rfl, ?_⟩) hHeld ?_
    rotate_left
    · intro w hSw; (try dsimp only at hSw); go_simp; first | done | with_reducible rfl
    try simp only [Act.put, List.setIfInBounds_toArray, List.set_cons_zero, List.set_cons_succ]
    refine wpAnyH_take (i := 4) (oi := { dst := some 18, op := Op.move (Operand.tmp 0), type := 22, pos := "reader.go:78", after := #[], guard := none }) (v := ?_) rfl (by kernel_rfl) (by kernel_rfl) (by kernel_rfl) (fun _ _ _ h => h) (Or.inl ⟨by rfl, ?_⟩) hHeld ?_
    rotate_left
    · intro w hSw; (try dsimp only at hSw); go_simp; first | done | with_reducible rfl
    try simp only [Act.put, List.setIfInBounds_toArray, List.set_cons_zero, List.set_cons_succ]
    refine wpAnyH_take (i := 5) (oi := { dst := some 19, op := Op.load 3 (Operand.tmp 1), type := 3, pos := "reader.go:78", after := #[], guard := none }) (v := ?_) rfl (by kernel_rfl) (by kernel_rfl) (by kernel_rfl) (fun _ _ _ h => h) (Or.inl ⟨by rfl, ?_⟩) hHeld ?_
    rotate_left
    · intro w hSw; (try dsimp only at hSw); (have hcp := hSw); go_simp; first | done | with_reducible rfl
    try simp only [Act.put, List.setIfInBounds_toArray, List.set_cons_zero, List.set_cons_succ]
    refine wpAnyH_take (i := 6) (oi := { dst := some 20, op := Op.slice 22 (Operand.tmp 18) (some (Operand.tmp 19)) none none, type := 22, pos := "reader.go:78", after := #[{ on := 4, ground := Ground.data }, { on := 5, ground := Ground.data }], guard := none }) (v := ?_) rfl (by kernel_rfl) (by kernel_rfl) (by kernel_rfl) (fun _ _ _ h => h) (Or.inl ⟨by rfl, ?_⟩) hHeld ?_
    rotate_left
    · intro w hSw; (try dsimp only at hSw); go_simp; first | done | with_reducible rfl
    try simp only [Act.put, List.setIfInBounds_toArray, List.set_cons_zero, List.set_cons_succ]
    refine wpAnyH_ready (rs := [3]) (by kernel_rfl) (by simp) ?_
    refine AllReadyH.cons (o := { dst := some 17, op := Op.call { callee := Callee.value (Operand.func 62), args := #[Operand.tmp 16], argTypes := #[22] }, type := 22, pos := "reader.go:78", after := #[{ on := 2, ground := Ground.data }], guard := none }) rfl (fun K hK => ?_) AllReadyH.nil
    clear hHeld
    go_simp
    refine HCL.out.mono ?_
    rintro e w1 ⟨v', rfl, hrow, hB1⟩
    have HR1 := hide hrow
    have HB1 := hide hB1
    clear hrow hB1
    dsimp only
    refine hK.out _ _ ((HB1.out.cell (p := ⟨cg, 0, none⟩) hcl).trans hcp) (fun hHeld => ?_)
    clear hK K
    try simp only [Act.put, List.setIfInBounds_toArray, List.set_cons_zero, List.set_cons_succ]
    refine wpAnyH_take (i := 7) (oi := { dst := some 3, op := Op.assign (Operand.tmp 17), type := 22, pos := "reader.go:78", after := #[{ on := 3, ground := Ground.data }, { on := 3, ground := Ground.chain }, { on := 0, ground := Ground.phase }, { on := 1, ground := Ground.phase }, { on := 2, ground := Ground.phase }, { on := 3, ground := Ground.phase }, { on := 4, ground := Ground.textOnly Departure.lateStores }, { on := 5, ground := Ground.textOnly Departure.lateStores }, { on := 6, ground := Ground.textOnly Departure.lateStoresUnsure }], guard := none }) (v := ?_) rfl (by kernel_rfl) (by kernel_rfl) (by kernel_rfl) (fun _ _ _ h => h) (Or.inl ⟨by rfl, ?_⟩) hHeld ?_
    rotate_left
    · intro w hSw; (try dsimp only at hSw); go_simp; first | done | with_reducible rfl
    try simp only [Act.put, List.setIfInBounds_toArray, List.set_cons_zero, List.set_cons_succ]
    refine wpAnyH_take (i := 8) (oi := { dst := some 4, op := Op.assign (Operand.tmp 20), type := 22, pos := "reader.go:78", after := #[{ on := 6, ground := Ground.data }, { on := 7, ground := Ground.chain }, { on := 0, ground := Ground.phase }, { on := 1, ground := Ground.phase }, { on := 2, ground := Ground.phase }, { on := 3, ground := Ground.phase }, { on := 4, ground := Ground.phase }, { on := 5, ground := Ground.phase }, { on := 6, ground := Ground.phase }, { on := 7, ground := Ground.phase }], guard := none }) (v := ?_) rfl (by kernel_rfl) (by kernel_rfl) (by kernel_rfl) (fun _ _ _ h => h) (Or.inl ⟨by rfl, ?_⟩) hHeld ?_
    rotate_left
    · intro w hSw; (try dsimp only at hSw); go_simp; first | done | with_reducible rfl
    try simp only [Act.put, List.setIfInBounds_toArray, List.set_cons_zero, List.set_cons_succ]
    refine wpAnyH_take (i := 9) (oi := { dst := some 5, op := Op.assign (Operand.const (Value.bool true)), type := 4, pos := "reader.go:78", after := #[{ on := 8, ground := Ground.chain }, { on := 0, ground := Ground.phase }, { on := 1, ground := Ground.phase }, { on := 2, ground := Ground.phase }, { on := 3, ground := Ground.phase }, { on := 4, ground := Ground.phase }, { on := 5, ground := Ground.phase }, { on := 6, ground := Ground.phase }, { on := 7, ground := Ground.phase }, { on := 8, ground := Ground.phase }], guard := none }) (v := ?_) rfl (by kernel_rfl) (by kernel_rfl) (by kernel_rfl) (fun _ _ _ h => h) (Or.inl ⟨by rfl, ?_⟩) hHeld ?_
    rotate_left
    · intro w hSw; (try dsimp only at hSw); go_simp; first | done | with_reducible rfl
    try simp only [Act.put, List.setIfInBounds_toArray, List.set_cons_zero, List.set_cons_succ]
    refine wpAnyH_done (by kernel_rfl) ?_ _
    go_wp2_with fail
    (try simp only [Exit.inBlock, Exit.then]); refine bodyPost_ret (results_tmp3 rfl _ _ _) rfl ?_
    have hbel : Below W.heap.size W w1 := (Below.refl W.heap.size W).drew.trans HB1.out
    refine ⟨hbel, _, _, rfl, HR1.out, ?_, sl_ownO _ _ _ _ _⟩
    have := HSL.out.below hbel
    rw [List.take_of_length_le (by have := HN.out; simp; omega)] at this
    exact this

set_option maxRecDepth 100000 in
set_option maxHeartbeats 1000000 in
theorem cutText_any (most : Int) (hm : most < 18446744073709551616) (cg : Nat) (sv : Value) (bs : List Int) (W : World) (ht : Tab W) (hcp : W.cell? ⟨cg, 0, none⟩ = some (.int .i64 most)) (hcl : cg < W.heap.size) (hs : SlAt W sv bs) (hr : ∀ x ∈ bs, 0 ≤ x ∧ x < 256) (hb : bs.length ≤ 140737488355328) :
    Calls Tryd.prog 72 #[sv, .pointer (some ⟨cg, 0, none⟩)] W (CutPost W sv (fun f _ => f = .string (strOfNums (((cutTS most bs).map (·.1)).getD []))) ((cutTS most bs).map (·.2))) := by
  have HU := hide (cutUint_any sv bs W ht hs hr)
  clear ht hs
  go_enter Tryd.func72, Tryd.ntmps72
  go_wp2_with fail
  refine HU.out.mono ?_
  intro e w1 hp
  obtain ⟨hB, hp⟩ := hp
  have HB := hide hB
  have hcp1 : w1.cell? ⟨cg, 0, none⟩ = some (.int .i64 most) := (hB.cell (p := ⟨cg, 0, none⟩) hcl).trans hcp
  clear HU hB hcp
  have HL := hide (cutL_len 10 0 bs)
  cases hc : cutUS bs with
  | none =>
    rw [hc] at hp
    have HC : Hid (cutTS most bs = none) := hide (by rw [cutTS, hc])
    clear hc
    obtain ⟨f, s, rfl⟩ := hp
    go_wp2_with fail
    (try simp only [Exit.inBlock, Exit.then]); refine bodyPost_ret (results_tmp3 rfl _ _ _) rfl ?_
    refine ⟨HB.out, ?_⟩
    rw [HC.out]
    exact ⟨_, _, rfl⟩
  | some y =>
    obtain ⟨x, r⟩ := y
    rw [hc] at hp
    have HC : Hid (cutTS most bs = if most < 0 ∨ most < (x : Int) ∨ r.length < x then none else some (r.take x, r.drop x)) := hide (by rw [cutTS, hc])
    have hrl : r.length < bs.length := HL.out (x, r) hc
    clear hc HL
    obtain ⟨s, rfl, hs, ho⟩ := hp
    dsimp only at hs ⊢
    obtain ⟨ao, cap, rfl⟩ := hs.len
    have HS := hide hs
    have HO := hide ho
    obtain ⟨l, hl⟩ : ∃ l, l = r.length := ⟨_, rfl⟩
    have HN := hide hl
    rw [← hl] at HS HO hrl HC ⊢
    have hl2 : l ≤ 140737488355328 := by omega
    clear hs ho hl hrl
    by_cases h0 : most < 0
    · go_wp2_with fail
      (try simp only [Exit.inBlock, Exit.then]); refine bodyPost_ret (results_tmp3 rfl _ _ _) rfl ?_
      refine ⟨HB.out, ?_⟩
      rw [HC.out, if_pos (.inl h0)]
      exact ⟨_, _, rfl⟩
    have hwm : IntKind.u64.wrap most = most := IntWalk.u64_in _ (by omega)
    have hwl : IntKind.u64.wrap (l : Int) = l := IntWalk.u64_in _ (by omega)
    by_cases h1 : most < (x : Int)
    · have h1' : (x : Int) > most := h1
      go_wp2_with fail
      (try simp only [Exit.inBlock, Exit.then]); refine bodyPost_ret (results_tmp3 rfl _ _ _) rfl ?_
      refine ⟨HB.out, ?_⟩
      rw [HC.out, if_pos (.inr (.inl h1))]
      exact ⟨_, _, rfl⟩
    by_cases h2 : l < x
    · have h2' : (x : Int) > (l : Int) := by omega
      go_wp2_with fail
      (try simp only [Exit.inBlock, Exit.then]); refine bodyPost_ret (results_tmp3 rfl _ _ _) rfl ?_
      refine ⟨HB.out, ?_⟩
      rw [HC.out, if_pos (.inr (.inr h2))]
      exact ⟨_, _, rfl⟩
    · have h2' : ¬ (x : Int) > (l : Int) := by omega
      have h1' : ¬ (x : Int) > most := h1
      have hle : l ≤ cap := HS.out.le.1
      have hcut1 := run_cut_hk (P := Tryd.prog) .u64 Tryd.underlying22 size5 ao l cap x (by omega)
      have hcut2 := run_cut_lk (P := Tryd.prog) .u64 Tryd.underlying22 size5 ao l cap x (by omega)
      have HSL := hide (HS.out.cut (lo := x) (m := l - x) (by omega))
      have hst := fun n => ((HS.out.front' (m := x) (by omega)).below (drewN_below w1 n)).string (P := Tryd.prog) 22 5 9 Tryd.underlying22 Tryd.underlying5 Tryd.underlying9
      have HE : Hid (cutTS most bs = some (r.take x, r.drop x)) := hide (by rw [HC.out, if_neg (by omega)])
      obtain ⟨str, hstr⟩ : ∃ str, strOfNums (r.take x) = str := ⟨_, rfl⟩
      have HST := hide hstr
      rw [hstr] at hst
      clear hle HC h1 h2 hl2 hstr
      go_wp2_with fail
      go_quiet (fail)
      go_wp2_with fail
      (try simp only [Exit.inBlock, Exit.then]); refine bodyPost_ret (results_tmp3 rfl _ _ _) rfl ?_
      have hbel : Below W.heap.size W (w1.drewN nq) := HB.out.trans ((drewN_below w1 nq).mono HB.out.size)
      refine ⟨hbel, ?_⟩
      rw [HE.out]
      refine ⟨_, _, rfl, (by simp only [Option.map_some, Option.getD_some]; rw [HST.out]; rfl), ?_, fun k h => HO.out k (sl_ownO _ _ _ _ _ k h)⟩
      have := HSL.out.below (drewN_below w1 nq)
      rw [List.take_of_length_le (by have := HN.out; simp; omega)] at this
      exact this
end Go.Proofs.YtdlhengfhmkpdaaDoor
