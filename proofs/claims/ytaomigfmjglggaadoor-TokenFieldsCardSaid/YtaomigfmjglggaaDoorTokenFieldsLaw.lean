/- Law TokenFields, walked. -/
import Derived.Test.YtaomigfmjglggaaDoorTkLWM
namespace Go.Proofs.YtaomigfmjglggaaDoor
open Go.RowKit

theorem TBox.setB {W : World} {g : Nat} {t : Tk} (h : TBox W g t) (i : Nat) (_ : i < t.mac.length) (v : Int) : TBox (W.setCell ⟨g, 8 + i, none⟩ (.int .u8 v)) g { t with mac := t.mac.set i v } :=
  h.setC (8 + i) _ (by simp [tkC, show 8 + i = i + 1 + 1 + 1 + 1 + 1 + 1 + 1 + 1 by omega, List.map_set])
theorem TBox.cb {W : World} {g : Nat} {t : Tk} (h : TBox W g t) (i : Nat) (hi : i < t.mac.length) : W.cell? ⟨g, 8 + i, none⟩ = some (.int .u8 (nth t.mac i)) := by
  rw [h.cell (8 + i)]
  simp [tkC, show 8 + i = i + 1 + 1 + 1 + 1 + 1 + 1 + 1 + 1 by omega, nth, List.getD, hi]
theorem and31x (x : Int) : ∃ i : Nat, i < 32 ∧ bits BinOp.and IntKind.i64 x 31 = i := by
  have h : (BitVec.ofInt 64 x &&& BitVec.ofInt 64 31).toNat < 32 := by
    rw [BitVec.toNat_and]
    exact Nat.lt_succ_of_le Nat.and_le_right
  refine ⟨_, h, ?_⟩
  show IntKind.i64.wrap (((BitVec.ofInt 64 x &&& BitVec.ofInt 64 31).toNat : Nat) : Int) = _
  exact IntWalk.i64_in _ (by omega)
/-- A byte with some of its bits turned is another one, and a byte. -/
theorem xor_turn (x by' : Nat) (hx : x < 256) (h0 : 0 < by') (h1 : by' ≤ 100) : ∃ y : Nat, y < 256 ∧ y ≠ x ∧ bits BinOp.xor IntKind.u8 (x : Int) (by' : Int) = (y : Int) := by
  have h := Nat.xor_lt_two_pow (n := 8) hx (show by' < 2 ^ 8 by omega)
  refine ⟨x ^^^ by', h, fun e => ?_, u8_xor x by' hx (by omega)⟩
  have h2 : x ^^^ (x ^^^ by') = x ^^^ x := by rw [e]
  rw [← Nat.xor_assoc, Nat.xor_self, Nat.zero_xor] at h2
  omega


theorem turned_not (k : List Int) (o n : Nat) (t : Tk) (now i : Nat) (y : Int) (h1 : mayR k.length o n = true) (h2 : mayT t = true) (hi : i < 32) (hy : y ≠ nth (sigS k t) i) : verS k o n { t with mac := (sigS k t).set i y } now = 7 := by
  have hok : okS k { t with mac := (sigS k t).set i y } = false := by
    rw [okS_mac]
    refine beq_eq_false_iff_ne.2 (fun e => hy ?_)
    have h3 := congrArg (fun l => nth l i) e
    have h4 : nth ((sigS k t).set i y) i = y := by simp [nth, List.getD, length_sigS, hi]
    exact (h3.trans h4).symm
  rw [ver_case h1 (by rw [mayT_mac]; exact h2), hok]
  simp

set_option maxRecDepth 100000 in
set_option maxHeartbeats 2000000 in
theorem fields_walk (rv : Value) (k : List Int) (o n : Nat) (t : Tk) (now : Nat) (field : Int) (by' : Nat) (w : World) (hT : Tab w) (hk : SlAt w rv k) (hkb : ∀ x ∈ k, 0 ≤ x ∧ x < 256) (_ : k.length ≤ maxLen) (hp : t.pre) (_ : o < 18446744073709551616) (hn : n < 18446744073709551616) (hnow : now < 18446744073709551616) (hby : by' < 18446744073709551616) :
    Calls Tryd.prog 8 #[.agg (ringA rv o n), .agg (tkA t), .int .u64 now, .int .i64 field, .int .u64 by'] w (LawPost w) := by
  obtain ⟨ra, rc, rfl⟩ := hk.len
  have HT := hide hT
  have HL := hide (LW.first w (.slice ra k.length rc) k o n t hk)
  have HP := hide hp
  have HPM := hide hp.mac
  have HKB := hide hkb
  have HAW := hide (fun W (h : Below w.heap.size w W) => awake_any W (HT.out.below h HT.out.two))
  have HLG := hide (fun W => long_any ra k.length rc o n t W)
  clear hk hp hT hkb

  by_cases hl : longB k.length t = true ∨ by' = 0 ∨ 100 < by'
  · generalize hq : k.length = q at *
    clear hq
    have ar0 := HL.out.r.c0
    have ar1 := HL.out.r.c1
    have ar2 := HL.out.r.c2
    have ax0 := HL.out.x.c0
    have ax1 := HL.out.x.c1
    have ax2 := HL.out.x.c2
    have ax3 := HL.out.x.c3
    have ax4 := HL.out.x.c4
    have ax5 := HL.out.x.c5
    have ax6 := HL.out.x.c6
    have ax7 := HL.out.x.c7
    unfold ringA at *
    by_cases h0 : longB q t = true
    · rw [h0] at HLG
      clear h0 hl
      go_enter Tryd.func8, Tryd.ntmps8
      go_wp2_with (first | (refine wpList_load_tk rfl (.tmp 6) rfl (w.heap.size + 1) rfl t HPM.out HL.out.x ?_) | (go_at_call 11; refine (HLG.out _).mono ?_; rintro e w2 ⟨rfl, hB⟩; have HL2 := hide (HL.out.next hB); clear ar0 ar1 ar2 ax0 ax1 ax2 ax3 ax4 ax5 ax6 ax7 hB HL HLG) | (go_at_call 12; refine (HAW.out _ HL2.out.b).mono ?_; rintro e w3 ⟨rfl, hB⟩; have HL3 := hide (HL2.out.next hB); clear hB HL2))
      go_ret
      exact ⟨rfl, HL3.out.b⟩
    replace h0 : longB q t = false := by simpa using h0
    rw [h0] at HLG
    by_cases h1 : by' = 0
    · subst h1
      clear hl h0
      go_enter Tryd.func8, Tryd.ntmps8
      go_wp2_with (first | (refine wpList_load_tk rfl (.tmp 6) rfl (w.heap.size + 1) rfl t HPM.out HL.out.x ?_) | (go_at_call 11; refine (HLG.out _).mono ?_; rintro e w2 ⟨rfl, hB⟩; have HL2 := hide (HL.out.next hB); clear ar0 ar1 ar2 ax0 ax1 ax2 ax3 ax4 ax5 ax6 ax7 hB HL HLG) | (go_at_call 12; refine (HAW.out _ HL2.out.b).mono ?_; rintro e w3 ⟨rfl, hB⟩; have HL3 := hide (HL2.out.next hB); clear hB HL2))
      go_ret
      exact ⟨rfl, HL3.out.b⟩
    have h2 : 100 < by' := by
      rcases hl with h | h | h
      · rw [h0] at h; cases h
      · exact absurd h h1
      · exact h
    clear hl h0
    go_enter Tryd.func8, Tryd.ntmps8
    go_wp2_with (first | (refine wpList_load_tk rfl (.tmp 6) rfl (w.heap.size + 1) rfl t HPM.out HL.out.x ?_) | (go_at_call 11; refine (HLG.out _).mono ?_; rintro e w2 ⟨rfl, hB⟩; have HL2 := hide (HL.out.next hB); clear ar0 ar1 ar2 ax0 ax1 ax2 ax3 ax4 ax5 ax6 ax7 hB HL HLG) | (go_at_call 12; refine (HAW.out _ HL2.out.b).mono ?_; rintro e w3 ⟨rfl, hB⟩; have HL3 := hide (HL2.out.next hB); clear hB HL2))
    go_ret
    exact ⟨rfl, HL3.out.b⟩
  have hl0 : longB k.length t = false := by
    cases h : longB k.length t with
    | false => rfl
    | true => exact absurd (.inl h) hl
  have hb0 : 0 < by' := Nat.pos_of_ne_zero (fun h => hl (.inr (.inl h)))
  have hb1 : by' ≤ 100 := Nat.le_of_not_lt (fun h => hl (.inr (.inr h)))
  have hz0 : ((by' : Int) == 0) = false := by simp; omega
  have hz1 : decide ((100 : Int) < (by' : Int)) = false := by simp; omega
  obtain ⟨hl1, hl2, hl3⟩ := longB_not hl0
  rw [hl0] at HLG
  have HIO := hide (HP.out.iss hl2 hl3 hnow hn)
  have HI1 := hide (fun W (h : LW w (.slice ra k.length rc) k o n t W) => issue_any k (.slice ra k.length rc) o n t.ns t.sa t.uid t.host t.addr now W HIO.out (HT.out.below h.b HT.out.two) h.s)
  clear hl hl0 hl1 hl2 hl3
  by_cases hc : mayR k.length o n = true ∧ mayT (tok0 n t.ns t.sa t.uid t.host t.addr now) = true
  rotate_left
  · have hE : issE k o n t.ns t.sa t.uid t.host t.addr now = 1 := by unfold issE; rw [if_neg hc]
    have hT : issT k o n t.ns t.sa t.uid t.host t.addr now = tk0 := by unfold issT; rw [if_neg hc]
    rw [hE, hT] at HI1
    clear hE hT hc
    generalize hq : k.length = q at *
    clear hq
    have ar0 := HL.out.r.c0
    have ar1 := HL.out.r.c1
    have ar2 := HL.out.r.c2
    have ax0 := HL.out.x.c0
    have ax1 := HL.out.x.c1
    have ax2 := HL.out.x.c2
    have ax3 := HL.out.x.c3
    have ax4 := HL.out.x.c4
    have ax5 := HL.out.x.c5
    have ax6 := HL.out.x.c6
    have ax7 := HL.out.x.c7
    unfold ringA at *
    go_enter Tryd.func8, Tryd.ntmps8
    go_wp2_with (first | (refine wpList_load_tk rfl (.tmp 6) rfl (w.heap.size + 1) rfl t HPM.out HL.out.x ?_) | (go_at_call 11; refine (HLG.out _).mono ?_; rintro e w2 ⟨rfl, hB⟩; have HL2 := hide (HL.out.next hB); have br0 := HL2.out.r.c0; have br1 := HL2.out.r.c1; have br2 := HL2.out.r.c2; have bx0 := HL2.out.x.c0; have bx1 := HL2.out.x.c1; have bx2 := HL2.out.x.c2; have bx3 := HL2.out.x.c3; have bx4 := HL2.out.x.c4; have bx5 := HL2.out.x.c5; have bx6 := HL2.out.x.c6; have bx7 := HL2.out.x.c7; clear ar0 ar1 ar2 ax0 ax1 ax2 ax3 ax4 ax5 ax6 ax7 hB HL HLG) | (go_at_call 20; refine (HI1.out _ HL2.out).mono ?_; rintro e w3 ⟨rfl, hB⟩; have HL3 := hide (HL2.out.next hB); clear br0 br1 br2 bx0 bx1 bx2 bx3 bx4 bx5 bx6 bx7 hB HL2) | (refine wpList_alloc_tk rfl rfl ?_) | (refine wpList_store_tk_new rfl (.tmp 11) (.tmp 37) rfl w3.heap.size tk0 rfl rfl tk0 tk0_len tk0_len (TBox.new _ _) (fun W => LW w (.slice ra q rc) k o n t W) (HL3.out.next (below_pair w3 tk0 tk0)) ?_; intro w4 hp; have HL4 := hide hp; clear hp HL3) | (go_at_call 12; refine (HAW.out _ HL4.out.b).mono ?_; rintro e w5 ⟨rfl, hB⟩; have HL5 := hide (HL4.out.next hB); clear hB HL4))
    go_ret
    exact ⟨rfl, HL5.out.b⟩
  have hE : issE k o n t.ns t.sa t.uid t.host t.addr now = 0 := by unfold issE; rw [if_pos hc]
  have hT : issT k o n t.ns t.sa t.uid t.host t.addr now = signT k (tok0 n t.ns t.sa t.uid t.host t.addr now) := by unfold issT; rw [if_pos hc]
  rw [hE, hT] at HI1
  clear hE hT
  have HTok := hide HIO.out.tok
  generalize tok0 n t.ns t.sa t.uid t.host t.addr now = T0 at *
  obtain ⟨i, hi, hand⟩ := and31x field
  have hrg := nth_range (sigS_range k T0) i
  obtain ⟨x, hx⟩ : ∃ x : Nat, nth (sigS k T0) i = x := ⟨(nth (sigS k T0) i).toNat, by omega⟩
  obtain ⟨y, hy1, hy2, hxor⟩ := xor_turn x by' (by rw [hx] at hrg; omega) hb0 hb1
  have hV := turned_not k o n T0 now i (y : Int) hc.1 hc.2 hi (by rw [hx]; omega)
  obtain ⟨m, h1, h2, h3, h4⟩ := signT_some k T0
  rw [h1] at HI1
  rw [h4] at hx hV
  have HVF := hide (fun W (h : LW w (.slice ra k.length rc) k o n t W) => (show _ from by
    have h5 := verify_any k (.slice ra k.length rc) o n { T0 with mac := m.set i (y : Int) } now W ⟨HTok.out.ns, HTok.out.sa, HTok.out.uid, HTok.out.host1, HTok.out.host2, HTok.out.addr, HTok.out.born, HTok.out.til, HTok.out.key, by simp [h2], fun z hz => by
      rcases List.mem_or_eq_of_mem_set hz with hz | hz
      · exact h3 z hz
      · rw [hz]; omega⟩ (HT.out.below h.b HT.out.two) h.s
    rw [hV] at h5
    exact h5))
  obtain ⟨T, hTd⟩ : ∃ T : Tk, T = { T0 with mac := m } := ⟨_, rfl⟩
  obtain ⟨U, hUd⟩ : ∃ U : Tk, U = { T0 with mac := m.set i (y : Int) } := ⟨_, rfl⟩
  have HTm : Hid (T.mac.length = 32) := hide (by rw [hTd]; exact h2)
  have HUm : Hid (U.mac.length = 32) := hide (by rw [hUd]; simp [h2])
  have HSB := hide (fun (W : World) (g : Nat) (h : TBox W g T) => (show TBox (W.setCell ⟨g, 8 + i, none⟩ (.int .u8 (y : Int))) g U from by
    rw [hTd] at h
    rw [hUd]
    exact h.setB i (by show i < m.length; omega) y))
  have HCB := hide (fun (W : World) (g : Nat) (h : TBox W g T) => (show W.cell? ⟨g, 8 + i, none⟩ = some (.int .u8 (x : Int)) from by
    rw [hTd] at h
    have h6 := h.cb i (by show i < m.length; omega)
    rw [show nth ({ T0 with mac := m } : Tk).mac i = x from hx] at h6
    exact h6))
  rw [← hTd] at HI1
  rw [← hUd] at HVF
  have hbm : (by' : Int) % 256 = by' := by omega
  have hi2 : (i : Int) < 32 := by omega
  clear hTd hUd h1 h2 h3 h4 hx hV hrg hc hy1 hy2 hb0 hb1 HTok
  generalize hq : k.length = q at *
  clear hq
  have ar0 := HL.out.r.c0
  have ar1 := HL.out.r.c1
  have ar2 := HL.out.r.c2
  have ax0 := HL.out.x.c0
  have ax1 := HL.out.x.c1
  have ax2 := HL.out.x.c2
  have ax3 := HL.out.x.c3
  have ax4 := HL.out.x.c4
  have ax5 := HL.out.x.c5
  have ax6 := HL.out.x.c6
  have ax7 := HL.out.x.c7
  unfold ringA at *
  go_enter Tryd.func8, Tryd.ntmps8
  go_wp2_with (first | (refine wpList_load_tk rfl (.tmp 6) rfl (w.heap.size + 1) rfl t HPM.out HL.out.x ?_) | (go_at_call 11; refine (HLG.out _).mono ?_; rintro e w2 ⟨rfl, hB⟩; have HL2 := hide (HL.out.next hB); have br0 := HL2.out.r.c0; have br1 := HL2.out.r.c1; have br2 := HL2.out.r.c2; have bx0 := HL2.out.x.c0; have bx1 := HL2.out.x.c1; have bx2 := HL2.out.x.c2; have bx3 := HL2.out.x.c3; have bx4 := HL2.out.x.c4; have bx5 := HL2.out.x.c5; have bx6 := HL2.out.x.c6; have bx7 := HL2.out.x.c7; clear ar0 ar1 ar2 ax0 ax1 ax2 ax3 ax4 ax5 ax6 ax7 hB HL HLG) | (go_at_call 20; refine (HI1.out _ HL2.out).mono ?_; rintro e w3 ⟨rfl, hB⟩; have HL3 := hide (HL2.out.next hB); clear br0 br1 br2 bx0 bx1 bx2 bx3 bx4 bx5 bx6 bx7 hB HL2) | (refine wpList_alloc_tk rfl rfl ?_) | (refine wpList_store_tk_new rfl (.tmp 11) (.tmp 37) rfl w3.heap.size T rfl rfl tk0 tk0_len HTm.out (TBox.new _ _) (fun W => Below w3.heap.size w3 W ∧ TBox W w3.heap.size T) ⟨below_pair w3 tk0 T, (TBox.new _ _).row⟩ ?_; intro w4 hp; have hcb := HCB.out _ _ hp.2; have hfr := hp.2.free (8 + i); have HY := hide (HSB.out _ _ hp.2); have HL5 := hide (HL3.out.next (hp.1.setCell (p := ⟨w3.heap.size, 8 + i, none⟩) (Nat.le_refl _) (.int .u8 (y : Int)))); have dr0 := HL5.out.r.c0; have dr1 := HL5.out.r.c1; have dr2 := HL5.out.r.c2; clear hp HL3) | (refine wpList_load_tk rfl (.tmp 11) rfl w3.heap.size rfl U HUm.out HY.out ?_) | (go_at_call 22; refine (HVF.out _ HL5.out).mono ?_; rintro e w6 ⟨rfl, hB⟩; have HL6 := hide (HL5.out.next hB); clear hcb hfr dr0 dr1 dr2 HY hB HL5) | (go_at_call 12; refine (HAW.out _ HL6.out.b).mono ?_; rintro e w7 ⟨rfl, hB⟩; have HL7 := hide (HL6.out.next hB); clear hB HL6))
  go_ret
  exact ⟨rfl, HL7.out.b⟩
end Go.Proofs.YtaomigfmjglggaaDoor
