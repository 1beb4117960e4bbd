/- Package mac: Of: its contract. -/
import Derived.Test.YtjfidelegmjnkaaProg
import Derived.Test.YtjfidelegmjnkaaMac
import Derived.Test.YtjfidelegmjnkaaGen
import Derived.Deep.RegionHeld3
import Derived.Deep.MidRow
namespace Go.Proofs.Ytjfidelegmjnkaa
open Go.RowKit

set_option maxRecDepth 100000 in
set_option maxHeartbeats 1000000 in
theorem macOf_any (k : List Int) (kv : Value) (ps : List (List Int)) (b o c : Nat) (w : World) (hk : SlAt w kv k) (hl : k.length ≤ 100000) (hP : PartsAt w b o ps) (hn : ps.length ≤ 1000) (_hnc : ps.length ≤ c) (hX : ps.flatten.length ≤ 1000000) :
    Calls Try.prog 9 #[kv, .slice (some ⟨b, o, none⟩) ps.length c] w (fun e w' => e = .returned (.agg (cellsOf .u8 (macS k ps.flatten))) ∧ Below w.heap.size w w') := by
  have hal : Try.prog.arrayLen 25 = 32 := by kernel_rfl
  have HK := hide (length_keyS k)
  have hB0 : Below w.heap.size w (w.alloc (.cells (cellsOf .u8 zeros32) 25)) := (Below.refl _ _).alloc (Nat.le_refl _) _
  have HT := hide (turner_any k kv _ (hk.below hB0) hl)
  have HM : Hid (macS k ps.flatten = sumS (turnB 92 (keyS k) ++ sumS (turnB 54 (keyS k) ++ ps.flatten))) := hide rfl
  have HR := hide (length_macS k ps.flatten)
  generalize macS k ps.flatten = R at HM HR ⊢
  generalize keyS k = L at HK HT HM
  obtain ⟨n, hnn⟩ : ∃ n, n = ps.length := ⟨_, rfl⟩
  have HN := hide hnn
  rw [← hnn] at hn ⊢
  obtain ⟨ao, cap, rfl⟩ := hk.len
  have HP := hide hP
  clear hk hP hnn
  go_enter Try.func9, Try.ntmps9
  go_wp2_with (first | (with_reducible refine wpList_alloc_row rfl 25 rfl (cellsOf .u8 zeros32) zero36 ?_))
  refine HT.out.mono ?_
  rintro e w1 ⟨g, rfl, hg1, hB1'⟩
  have hb1 : Blk w1 w.heap.size 25 .u8 zeros32 := blk_through hB1' (Blk.new _ _ _ _)
  have hB1 := below_through hB1' hB0
  clear hB1' HT hB0
  go_wp2_with fail
  refine (turnKey_any 54 g L w1 hg1 HK).mono ?_
  rintro e w2 ⟨g2, rfl, hs2, hB2'⟩
  have hg2 := blk_through hB2' hg1
  have hb2 := blk_through hB2' hb1
  have hB2 := below_through hB2' hB1
  clear hB2' hg1 hb1 hB1
  obtain ⟨g3, c3, w3, hrun, hpa, hc3, hB3'⟩ := append_parts w2 (.slice (some ⟨g2, 0, none⟩) 64 64) (turnB 54 L) ps b o n c hs2 (HP.out.below hB2) HN.out (by omega)
  have hg3 := blk_through hB3' hg2
  have hb3 := blk_through hB3' hb2
  have hB3 := below_through hB3' hB2
  have hlen : (turnB 54 L :: ps).length = 1 + n := by rw [List.length_cons, ← HN.out]; omega
  have hfl : (turnB 54 L :: ps).flatten = turnB 54 L ++ ps.flatten := rfl
  have hof := of_any (turnB 54 L :: ps) g3 0 c3 w3 hpa (by rw [hlen]; omega) (by rw [hlen]; exact hc3) (by rw [hfl, List.length_append, length_turnB, HK.out]; omega)
  rw [hlen, hfl] at hof
  have HOF := hide hof
  have HG3 := hide hg3
  have Hb3 := hide hb3
  have HB3 := hide hB3
  clear hs2 hg2 hb2 hB2 hof hlen hfl hpa hc3 hB3' hg3 hb3 hB3
  go_wp2_with (first | (at_builtin; refine wpList_append_run rfl (.tmp 11) (.tmp 12) 36 36 36 rfl rfl _ _ _ w3 rfl rfl hrun ?_))
  refine HOF.out.mono ?_
  rintro e w4 ⟨rfl, hB4'⟩
  have HG4 := hide (blk_through hB4' HG3.out)
  have Hb4 := hide (blk_through hB4' Hb3.out)
  have HB4 := hide (below_through hB4' HB3.out)
  have hl32 : Hid ((sumS (turnB 54 L ++ ps.flatten)).length = 32) := hide (length_sumS _)
  generalize sumS (turnB 54 L ++ ps.flatten) = Y at hl32 HM
  clear hB4' HG3 Hb3 HB3 HOF hrun
  go_wp2_with (first
    | (with_reducible refine wpList_alloc_row rfl 25 rfl (cellsOf .u8 zeros32) zero36 ?_)
    | (with_reducible refine wpList_store_row rfl 25 (.tmp 6) (.tmp 14) rfl w4.heap.size (cellsOf .u8 Y) rfl rfl _ _ (heap_alloc_new _ _) (sz36 Y hl32.out) (szZ32 Y hl32.out) (oneCell_cellsOf _ _) ?_))
  simp only [Act.put, List.setIfInBounds_toArray, List.set_cons_zero, List.set_cons_succ]
  obtain ⟨w5, hw5⟩ : ∃ w5, w5 = (w4.alloc (.cells (cellsOf .u8 zeros32) 25)).setRow w4.heap.size (cellsOf .u8 Y) := ⟨_, rfl⟩
  have HG5 := hide ((HG4.out.alloc (.cells (cellsOf .u8 zeros32) 25)).rowOther w4.heap.size (cellsOf .u8 Y) (Nat.ne_of_lt HG4.out.lt))
  have Hb5 := hide ((Hb4.out.alloc (.cells (cellsOf .u8 zeros32) 25)).rowOther w4.heap.size (cellsOf .u8 Y) (Nat.ne_of_lt Hb4.out.lt))
  have HB5 := hide (below_setRow (HB4.out.alloc HB4.out.size (.cells (cellsOf .u8 zeros32) 25)) HB4.out.size (cellsOf .u8 Y))
  have HY5 := hide ((Blk.new w4 25 .u8 zeros32).setRow Y)
  rw [← hw5] at HG5 Hb5 HB5 HY5 ⊢
  generalize w4.heap.size = g6 at HY5 ⊢
  clear hw5 HG4 Hb4 HB4 HN HP hn hX hl
  generalize Value.slice (some ⟨w2.heap.size, 0, none⟩) 1 1 = d1
  generalize Value.slice (some ⟨g3, 0, none⟩) (1 + n) c3 = d2
  generalize Value.slice (some ⟨g2, 0, none⟩) 64 64 = d3
  refine wp_region_held_drew (S := fun _ => True) (by kernel_rfl) trivial (fun hHeld => ?_)
  refine wpAnyH_take (i := 0) (oi := { dst := some 15, op := Op.move (Operand.tmp 5), type := 37, pos := "mac.go:19", after := #[], guard := none }) (v := ?_) rfl (by kernel_rfl) (by kernel_rfl) (by kernel_rfl) (fun _ _ _ h => h) (Or.inl ⟨by rfl, ?_⟩) hHeld ?_
  rotate_left
  · intro w hSw; (try dsimp only at hSw); go_simp; first | done | with_reducible rfl
  try simp only [Act.put, List.setIfInBounds_toArray, List.set_cons_zero, List.set_cons_succ]
  refine wpAnyH_take (i := 2) (oi := { dst := some 17, op := Op.slice 25 (Operand.tmp 6) none none none, type := 22, pos := "mac.go:19", after := #[], guard := none }) (v := ?_) rfl (by kernel_rfl) (by kernel_rfl) (by kernel_rfl) (fun _ _ _ h => h) (Or.inl ⟨by rfl, ?_⟩) hHeld ?_
  rotate_left
  · intro w hSw; (try dsimp only at hSw); go_simp; first | done | with_reducible rfl
  try simp only [Act.put, List.setIfInBounds_toArray, List.set_cons_zero, List.set_cons_succ]
  refine wpAnyH_ready (rs := [1]) (by kernel_rfl) (by simp) ?_
  refine AllReadyH.cons (o := { dst := some 16, op := Op.call { callee := Callee.value (Operand.tmp 15), args := #[Operand.const (Value.int IntKind.u8 92)], argTypes := #[5] }, type := 22, pos := "mac.go:19", after := #[{ on := 0, ground := Ground.data }], guard := none }) rfl (fun K hK => ?_) AllReadyH.nil
  clear hHeld
  go_simp
  refine (turnKey_any 92 g L _ HG5.out.drew HK).mono ?_
  rintro e w6 ⟨g7, rfl, hs6, hBX⟩
  have Hb6 := hide (blk_through hBX Hb5.out.drew)
  have HB6 := hide (below_through hBX HB5.out.drew)
  have HY6 := hide (blk_through hBX HY5.out.drew)
  have HS6 := hide hs6
  clear hBX HG5 Hb5 HB5 HY5 hs6
  dsimp only
  refine hK.out _ _ (trivial) (fun hHeld => ?_)
  clear hK K
  try simp only [Act.put, List.setIfInBounds_toArray, List.set_cons_zero, List.set_cons_succ]
  refine wpAnyH_ready (rs := [3]) (by kernel_rfl) (by simp) ?_
  refine AllReadyH.cons (o := { dst := some 18, op := Op.buildSlice 36 2 #[(0, Operand.tmp 16), (1, Operand.tmp 17)], type := 36, pos := "mac.go:19", after := #[{ on := 1, ground := Ground.data }, { on := 2, ground := Ground.data }], guard := none }) rfl (fun K hK => ?_) AllReadyH.nil
  clear hHeld
  go_simp
  refine hK.out _ _ (trivial) (fun hHeld => ?_)
  clear hK K
  try simp only [Act.put, List.setIfInBounds_toArray, List.set_cons_zero, List.set_cons_succ]
  refine wpAnyH_ready (rs := [4]) (by kernel_rfl) (by simp) ?_
  refine AllReadyH.cons (o := { dst := some 19, op := Op.call { callee := Callee.value (Operand.func 14), args := #[Operand.tmp 18], argTypes := #[36] }, type := 25, pos := "mac.go:19", after := #[{ on := 3, ground := Ground.data }, { on := 1, ground := Ground.chain }], guard := none }) rfl (fun K hK => ?_) AllReadyH.nil
  clear hHeld
  go_simp
  have hP6 := parts_built (t := 22) (w := w6) rfl HS6.out (slAt_blkN HY6.out hl32.out)
  have hof := of_any [turnB 92 L, Y] w6.heap.size 0 2 _ hP6 (by simp) (by simp) (by simp [length_turnB, HK.out, hl32.out])
  rw [show [turnB 92 L, Y].flatten = turnB 92 L ++ Y from by simp, ← HM.out] at hof
  refine hof.mono ?_
  rintro e w7 ⟨rfl, hBX⟩
  have Hb7 := hide (blk_through hBX (Hb6.out.alloc _))
  have HB7 := hide (below_through hBX (HB6.out.alloc HB6.out.size _))
  clear hBX hof hP6 HY6 HS6
  dsimp only
  refine hK.out _ _ (trivial) (fun hHeld => ?_)
  clear hK K
  try simp only [Act.put, List.setIfInBounds_toArray, List.set_cons_zero, List.set_cons_succ]
  refine wpAnyH_ready (rs := [5]) (by kernel_rfl) (by simp) ?_
  refine AllReadyH.cons (o := { dst := none, op := Op.store 25 (Operand.tmp 4) (Operand.tmp 19), type := 0, pos := "mac.go:19", after := #[{ on := 4, ground := Ground.data }, { on := 4, ground := Ground.chain }, { on := 0, ground := Ground.phase }, { on := 1, ground := Ground.phase }, { on := 2, ground := Ground.phase }, { on := 3, ground := Ground.phase }, { on := 4, ground := Ground.phase }], guard := none }) rfl (fun K hK => ?_) AllReadyH.nil
  clear hHeld
  rw [if_pos (by rfl)]
  refine wp_store_row _ _ _ rfl w.heap.size (cellsOf .u8 R) rfl rfl _ _ Hb7.out.row (sz36 _ HR.out) (szZ32 _ HR.out) (oneCell_cellsOf _ _) ?_
  refine hK.out _ _ (trivial) (fun hHeld => ?_)
  clear hK K
  try simp only [Act.put]
  refine wpAnyH_done (by kernel_rfl) ?_ _
  go_wp2_with fail
  refine bodyPost_ret (v := .agg (cellsOf .u8 R)) (results_cell_row rfl _ _ w.heap.size _ _ (0, 0) _ rfl (Hb7.out.setRow R).row Try.underlying25 rfl (sz36 _ HR.out)) rfl ?_
  exact ⟨rfl, below_setRow HB7.out (Nat.le_refl _) _⟩
end Go.Proofs.Ytjfidelegmjnkaa
