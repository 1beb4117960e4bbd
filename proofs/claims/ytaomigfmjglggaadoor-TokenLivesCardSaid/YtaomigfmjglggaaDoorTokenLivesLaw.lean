/- Law TokenLives, walked. -/
import Derived.Test.YtaomigfmjglggaaDoorTkLWM
import Derived.Test.YtaomigfmjglggaaDoorTkTurnC
import Derived.Test.YtaomigfmjglggaaDoorTuck
namespace Go.Proofs.YtaomigfmjglggaaDoor
open Go.RowKit

/-- The ring as it is turned, and the token that was issued, lie in boxes. -/
structure LV (w : World) (rv : Value) (k : List Int) (o n : Nat) (t : Tk) (gx : Nat) (T : Tk) (W : World) : Prop where
  r : RBox W w.heap.size rv o n
  x : TBox W (w.heap.size + 1) t
  y : TBox W gx T
  s : SlAt W rv k
  b : Below w.heap.size w W
  hx : w.heap.size + 2 ≤ gx
theorem LV.next {w : World} {rv : Value} {k : List Int} {o n : Nat} {t : Tk} {gx : Nat} {T : Tk} {W W' : World} (h : LV w rv k o n t gx T W) (hb : Below W.heap.size W W') : LV w rv k o n t gx T W' := ⟨h.r.next hb, h.x.next hb, h.y.next hb, h.s.below hb, h.b.trans (hb.mono h.b.size), h.hx⟩
theorem LV.turn {w : World} {rv v : Value} {k : List Int} {o n o2 n2 : Nat} {t : Tk} {gx : Nat} {T : Tk} {W : World} {B : Nat} (h : LV w rv k o n t gx T W) (hr : Row W B v k) (hB : w.heap.size < B) : LV w v k o2 n2 t gx T (W.setRow w.heap.size (ringA v o2 n2)) :=
  ⟨h.r.row, (_root_.Go.setRow_other _ _ _ _ (by omega)).trans h.x, (_root_.Go.setRow_other _ _ _ _ (by have := h.hx; omega)).trans h.y, (show Row (W.setRow w.heap.size (ringA v o2 n2)) B v k from ownsRow_setRow hr hB _).slAt, below_setRow h.b (Nat.le_refl _) _, h.hx⟩
theorem LV.other {w : World} {rv : Value} {k : List Int} {o n : Nat} {t : Tk} {gx : Nat} {T : Tk} {W : World} (h : LV w rv k o n t gx T W) {g : Nat} (h1 : gx < g) (h2 : w.heap.size + 1 < g) (cs : Array Value) (hs : SlAt (W.setRow g cs) rv k) : LV w rv k o n t gx T (W.setRow g cs) :=
  ⟨(_root_.Go.setRow_other _ _ _ _ (by omega)).trans h.r, (_root_.Go.setRow_other _ _ _ _ (by omega)).trans h.x, (_root_.Go.setRow_other _ _ _ _ (by omega)).trans h.y, hs, below_setRow h.b (by omega) _, h.hx⟩
theorem rotate_gen (k : List Int) (rv : Value) (o n : Nat) (w : World) (hk : SlAt w rv k) :
    Calls Tryd.prog 18 #[.agg (ringA rv o n)] w (fun e w' => ∃ va vl vc a b err, e = .returned (.tuple #[.agg (ringA (.slice va vl vc) a b), .int .i64 err]) ∧ Below w.heap.size w w') := by
  refine (rotate_any k rv o n w hk).mono ?_
  rintro e w' ⟨v, a, b, err, hT⟩
  obtain ⟨va, vl, vc, rfl⟩ := hT.slice
  exact ⟨va, vl, vc, a, b, err, hT.ret, hT.below⟩
theorem lives_ver {k : List Int} {o2 n2 q later now til n : Nat} {T : Tk} (hq : k.length = q) (h1 : mayR q o2 n2 = true) (h2 : mayT T = true) (hs : okS k T = true) (hb : T.born = now) (ht : T.til = til) (hk : T.key = n) (hn : n ≤ n2) : verS k o2 n2 T later = if n < o2 then 7 else if later < now ∨ til ≤ later then 9 else 0 := by
  subst hq hb ht hk
  rw [ver_case h1 h2, hs]
  by_cases g : T.key < o2
  · rw [if_pos g, if_neg (fun h => by have := h.1; omega)]
  · rw [if_neg g, if_pos ⟨by omega, hn, rfl⟩]
    by_cases g2 : later < T.born ∨ T.til ≤ later
    · rw [if_pos g2, if_neg (fun h => by omega)]
    · rw [if_neg g2, if_pos (by omega)]

set_option maxRecDepth 100000 in
set_option maxHeartbeats 2000000 in
theorem lives_walk (rv : Value) (k : List Int) (o n : Nat) (t : Tk) (now later : Nat) (zv : Value) (zs : List Int) (w : World) (hT : Tab w) (hk : SlAt w rv k) (hkb : ∀ x ∈ k, 0 ≤ x ∧ x < 256) (_ : k.length ≤ maxLen) (hp : t.pre) (_ : o < 18446744073709551616) (hn : n < 18446744073709551616) (hnow : now < 18446744073709551616) (_ : later < 18446744073709551616) (hz : IsAt w zv zs) (hzl : zs.length ≤ maxLen) :
    Calls Tryd.prog 7 #[.agg (ringA rv o n), .agg (tkA t), .int .u64 now, .int .u64 later, zv] w (LawPost w) := by
  obtain ⟨ra, rc, rfl⟩ := hk.len
  have HZ := hide hz
  obtain ⟨za, zc, hzv⟩ : ∃ za zc, zv = .slice za zs.length zc := by
    obtain ⟨za, zc, h, _⟩ := hz
    exact ⟨za, zc, h⟩
  subst hzv
  obtain ⟨zl, hzn⟩ : ∃ zl, zs.length = zl := ⟨_, rfl⟩
  have HZL := tuck hzn
  rw [hzn] at HZ hzl ⊢
  clear hz hzn
  have HT := hide hT
  have HL := hide (LW.first w (.slice ra k.length rc) k o n t hk)
  have HP := hide hp
  have HPM := hide hp.mac
  have HKB := hide hkb
  have HAW := hide (fun W (h : Below w.heap.size w W) => awake_any W (HT.out.below h HT.out.two))
  have HLG := hide (fun W => long_any ra k.length rc o n t W)
  clear hk hp hT hkb

  by_cases hl : longB k.length t = true
  · rw [hl] at HLG
    clear hl
    generalize k.length = q at *
    have ar0 := HL.out.r.c0
    have ar1 := HL.out.r.c1
    have ar2 := HL.out.r.c2
    have ax0 := HL.out.x.c0
    have ax1 := HL.out.x.c1
    have ax2 := HL.out.x.c2
    have ax3 := HL.out.x.c3
    have ax4 := HL.out.x.c4
    have ax5 := HL.out.x.c5
    have ax6 := HL.out.x.c6
    have ax7 := HL.out.x.c7
    unfold ringA at *
    go_enter Tryd.func7, Tryd.ntmps7
    go_wp2_with (first | (refine wpList_load_tk rfl (.tmp 6) rfl (w.heap.size + 1) rfl t HPM.out HL.out.x ?_) | (go_at_call 11; refine (HLG.out _).mono ?_; rintro e w2 ⟨rfl, hB⟩; have HL2 := hide (HL.out.next hB); clear ar0 ar1 ar2 ax0 ax1 ax2 ax3 ax4 ax5 ax6 ax7 hB HL HLG) | (go_at_call 12; refine (HAW.out _ HL2.out.b).mono ?_; rintro e w3 ⟨rfl, hB⟩; have HL3 := hide (HL2.out.next hB); clear hB HL2))
    go_ret
    exact ⟨rfl, HL3.out.b⟩
  replace hl : longB k.length t = false := by simpa using hl
  obtain ⟨hl1, hl2, hl3⟩ := longB_not hl
  rw [hl] at HLG
  have HIO := hide (HP.out.iss hl2 hl3 hnow hn)
  have HI1 := hide (fun W (h : LW w (.slice ra k.length rc) k o n t W) => issue_any k (.slice ra k.length rc) o n t.ns t.sa t.uid t.host t.addr now W HIO.out (HT.out.below h.b HT.out.two) h.s)
  clear hl hl1 hl2 hl3
  by_cases hz60 : 60 < zl
  · have hz6 : (60 : Int) < (zl : Int) := by omega
    generalize k.length = q at *
    have ar0 := HL.out.r.c0
    have ar1 := HL.out.r.c1
    have ar2 := HL.out.r.c2
    have ax0 := HL.out.x.c0
    have ax1 := HL.out.x.c1
    have ax2 := HL.out.x.c2
    have ax3 := HL.out.x.c3
    have ax4 := HL.out.x.c4
    have ax5 := HL.out.x.c5
    have ax6 := HL.out.x.c6
    have ax7 := HL.out.x.c7
    unfold ringA at *
    go_enter Tryd.func7, Tryd.ntmps7
    go_wp2_with (first | (refine wpList_load_tk rfl (.tmp 6) rfl (w.heap.size + 1) rfl t HPM.out HL.out.x ?_) | (go_at_call 11; refine (HLG.out _).mono ?_; rintro e w2 ⟨rfl, hB⟩; have HL2 := hide (HL.out.next hB); clear ar0 ar1 ar2 ax0 ax1 ax2 ax3 ax4 ax5 ax6 ax7 hB HL HLG) | (go_at_call 12; refine (HAW.out _ HL2.out.b).mono ?_; rintro e w3 ⟨rfl, hB⟩; have HL3 := hide (HL2.out.next hB); clear hB HL2))
    go_ret
    exact ⟨rfl, HL3.out.b⟩
  have hz6 : ¬ (60 : Int) < (zl : Int) := by omega
  have hz6d : decide ((60 : Int) < (zl : Int)) = false := by simpa using hz6
  by_cases hc : mayR k.length o n = true ∧ mayT (tok0 n t.ns t.sa t.uid t.host t.addr now) = true
  rotate_left
  · have hE : issE k o n t.ns t.sa t.uid t.host t.addr now = 1 := by unfold issE; rw [if_neg hc]
    have hT : issT k o n t.ns t.sa t.uid t.host t.addr now = tk0 := by unfold issT; rw [if_neg hc]
    rw [hE, hT] at HI1
    clear hE hT hc
    generalize hq : k.length = q at *
    have HQ := tuck hq
    clear hq
    have ar0 := HL.out.r.c0
    have ar1 := HL.out.r.c1
    have ar2 := HL.out.r.c2
    have ax0 := HL.out.x.c0
    have ax1 := HL.out.x.c1
    have ax2 := HL.out.x.c2
    have ax3 := HL.out.x.c3
    have ax4 := HL.out.x.c4
    have ax5 := HL.out.x.c5
    have ax6 := HL.out.x.c6
    have ax7 := HL.out.x.c7
    unfold ringA at *
    go_enter Tryd.func7, Tryd.ntmps7
    go_wp2_with (first | (refine wpList_load_tk rfl (.tmp 6) rfl (w.heap.size + 1) rfl t HPM.out HL.out.x ?_) | (go_at_call 11; refine (HLG.out _).mono ?_; rintro e w2 ⟨rfl, hB⟩; have HL2 := hide (HL.out.next hB); have br0 := HL2.out.r.c0; have br1 := HL2.out.r.c1; have br2 := HL2.out.r.c2; have bx0 := HL2.out.x.c0; have bx1 := HL2.out.x.c1; have bx2 := HL2.out.x.c2; have bx3 := HL2.out.x.c3; have bx4 := HL2.out.x.c4; have bx5 := HL2.out.x.c5; have bx6 := HL2.out.x.c6; have bx7 := HL2.out.x.c7; clear ar0 ar1 ar2 ax0 ax1 ax2 ax3 ax4 ax5 ax6 ax7 hB HL HLG) | (go_at_call 20; refine (HI1.out _ HL2.out).mono ?_; rintro e w3 ⟨rfl, hB⟩; have HL3 := hide (HL2.out.next hB); clear br0 br1 br2 bx0 bx1 bx2 bx3 bx4 bx5 bx6 bx7 hB HL2) | (refine wpList_alloc_tk rfl rfl ?_) | (refine wpList_store_tk_new rfl (.tmp 11) (.tmp 38) rfl w3.heap.size tk0 rfl rfl tk0 tk0_len tk0_len (TBox.new _ _) (fun W => LW w (.slice ra q rc) k o n t W ∧ TBox W w3.heap.size tk0) ⟨HL3.out.next (below_pair w3 tk0 tk0), (TBox.new _ _).row⟩ ?_; intro w4 hp; have HL4 := hide hp.1; have HA4 := hide hp.2; have HG4 := hide HL3.out.x.lt; clear hp HL3) | (go_at_call 12; refine (HAW.out _ HL4.out.b).mono ?_; rintro e w7 ⟨rfl, hB⟩; have HL7 := hide (HL4.out.next hB); clear hB HL4))
    go_ret
    exact ⟨rfl, HL7.out.b⟩
  have hE : issE k o n t.ns t.sa t.uid t.host t.addr now = 0 := by unfold issE; rw [if_pos hc]
  have hT : issT k o n t.ns t.sa t.uid t.host t.addr now = signT k (tok0 n t.ns t.sa t.uid t.host t.addr now) := by unfold issT; rw [if_pos hc]
  rw [hE, hT] at HI1
  clear hE hT
  have HTok := hide HIO.out.tok
  have htil : now < (now + 200) % 18446744073709551616 := (mayT_parts hc.2).2.2.2.2.2.2.1
  have hkey : (tok0 n t.ns t.sa t.uid t.host t.addr now).key = n := rfl
  have hborn : (tok0 n t.ns t.sa t.uid t.host t.addr now).born = now := rfl
  have htl : (tok0 n t.ns t.sa t.uid t.host t.addr now).til = (now + 200) % 18446744073709551616 := rfl
  obtain ⟨til, htd⟩ : ∃ til, (now + 200) % 18446744073709551616 = til := ⟨_, rfl⟩
  have htlt : til < 18446744073709551616 := by omega
  rw [htd] at htl htil
  generalize tok0 n t.ns t.sa t.uid t.host t.addr now = T0 at *
  obtain ⟨m, h1, h2, h3, h4⟩ := signT_some k T0
  rw [h1] at HI1
  have hok : ({ T0 with mac := m } : Tk).ok := ⟨HTok.out.ns, HTok.out.sa, HTok.out.uid, HTok.out.host1, HTok.out.host2, HTok.out.addr, HTok.out.born, HTok.out.til, HTok.out.key, h2, h3⟩
  have hmy : mayT { T0 with mac := m } = true := by rw [mayT_mac]; exact hc.2
  have hsg : okS k { T0 with mac := m } = true := by rw [okS_mac, h4, beq_self_eq_true]
  have hk7 : ({ T0 with mac := m } : Tk).key = n := hkey
  have hk5 : ({ T0 with mac := m } : Tk).born = now := hborn
  have hk6 : ({ T0 with mac := m } : Tk).til = til := htl
  have hTm : ({ T0 with mac := m } : Tk).mac.length = 32 := h2
  have hR0 := hc.1
  generalize ({ T0 with mac := m } : Tk) = T at *
  obtain ⟨q, hq⟩ : ∃ q, k.length = q := ⟨_, rfl⟩
  have HQ := tuck hq
  have HTm := hide hTm
  have HTO := hide hok
  have HK7 := hide hk7
  have HK5 := hide hk5
  have HK6 := hide hk6
  have HVS := hide (fun (o2 n2 tm : Nat) (h1 : mayR q o2 n2 = true) (h2 : n ≤ n2) => lives_ver (later := tm) hq h1 hmy hsg hk5 hk6 hk7 h2)
  rw [hq] at HI1 HL HLG hR0 ⊢
  have HVF := hide (fun (va : Option Addr) (vc o2 n2 tm gx : Nat) (V : Int) (W : World) (h : LV w (.slice va q vc) k o2 n2 t gx T W) (hV : verS k o2 n2 T tm = V) => (show _ from by have h9 := verify_any k (.slice va q vc) o2 n2 T tm W HTO.out (HT.out.below h.b HT.out.two) h.s; rw [hV] at h9; exact h9))
  have HR0 := tuck hR0
  clear hkey hborn htl h1 h2 h3 h4 hok hmy hsg hk7 hk5 hk6 hTm HTok hc htd hq hR0
  obtain ⟨til1, rfl⟩ : ∃ til1, til = til1 + 1 := ⟨til - 1, by omega⟩
  have hw1 : IntKind.u64.wrap (((til1 + 1 : Nat) : Int) - 1) = (til1 : Int) := by rw [IntWalk.u64_in _ (by omega)]; omega
  obtain ⟨til, htd⟩ : ∃ til, til1 + 1 = til := ⟨_, rfl⟩
  have HTD := tuck htd
  rw [htd] at hw1 htil htlt HK6 HVS
  clear htd
  have ar0 := HL.out.r.c0
  have ar1 := HL.out.r.c1
  have ar2 := HL.out.r.c2
  have ax0 := HL.out.x.c0
  have ax1 := HL.out.x.c1
  have ax2 := HL.out.x.c2
  have ax3 := HL.out.x.c3
  have ax4 := HL.out.x.c4
  have ax5 := HL.out.x.c5
  have ax6 := HL.out.x.c6
  have ax7 := HL.out.x.c7
  unfold ringA at *
  go_enter Tryd.func7, Tryd.ntmps7
  go_wp2_with (first | (refine wpList_load_tk rfl (.tmp 6) rfl (w.heap.size + 1) rfl t HPM.out HL.out.x ?_) | (go_at_call 11; refine (HLG.out _).mono ?_; rintro e w2 ⟨rfl, hB⟩; have HL2 := hide (HL.out.next hB); have br0 := HL2.out.r.c0; have br1 := HL2.out.r.c1; have br2 := HL2.out.r.c2; have bx0 := HL2.out.x.c0; have bx1 := HL2.out.x.c1; have bx2 := HL2.out.x.c2; have bx3 := HL2.out.x.c3; have bx4 := HL2.out.x.c4; have bx5 := HL2.out.x.c5; have bx6 := HL2.out.x.c6; have bx7 := HL2.out.x.c7; clear ar0 ar1 ar2 ax0 ax1 ax2 ax3 ax4 ax5 ax6 ax7 hB HL HLG) | (go_at_call 20; refine (HI1.out _ HL2.out).mono ?_; rintro e w3 ⟨rfl, hB⟩; have HL3 := hide (HL2.out.next hB); clear br0 br1 br2 bx0 bx1 bx2 bx3 bx4 bx5 bx6 bx7 hB HL2) | (refine wpList_alloc_tk rfl rfl ?_) | (refine wpList_store_tk_new rfl (.tmp 11) (.tmp 38) rfl w3.heap.size T rfl rfl tk0 tk0_len HTm.out (TBox.new _ _) (fun W => LW w (.slice ra q rc) k o n t W ∧ TBox W w3.heap.size T) ⟨HL3.out.next (below_pair w3 tk0 T), (TBox.new _ _).row⟩ ?_; intro w4 hp; have HL4 := hide hp.1; have HA4 := hide hp.2; have HG4 := hide HL3.out.x.lt; clear hp HL3))
  have HLV := hide (⟨HL4.out.r, HL4.out.x, HA4.out, HL4.out.s, HL4.out.b, HG4.out⟩ : LV w (.slice ra q rc) k o n t w3.heap.size T w4)
  obtain ⟨gx, hgx⟩ : ∃ gx, gx = w3.heap.size := ⟨_, rfl⟩
  rw [← hgx] at HLV ⊢
  clear hgx HL4 HA4 HG4 HI1
  go_loopw [13] (fun i wr => ∃ j : Nat, j ≤ zl ∧ i = .int .i64 j ∧ ∃ (va : Option Addr) (vc o2 n2 : Nat), Hid (LV w (.slice va q vc) k o2 n2 t gx T wr) ∧ Tuck (mayR q o2 n2 = true) ∧ Tuck (n ≤ n2)) (fun i _ => zl - (intOf i).toNat)
  case atStart => exact ⟨0, by omega, rfl, ra, rc, o, n, HLV, HR0, tuck (Nat.le_refl _)⟩
  case round =>
    clear HLV
    obtain ⟨j, hj, rfl, va, vc, o2, n2, HLV, HMR, HNN⟩ := hrel
    have r0 := HLV.out.r.c0
    have r1 := HLV.out.r.c1
    have r2 := HLV.out.r.c2
    have y5 := HLV.out.y.c5
    have y6 := HLV.out.y.c6
    have y7 := HLV.out.y.c7
    rw [HK5.out] at y5
    rw [HK6.out] at y6
    rw [HK7.out] at y7
    have hm2 := HMR.out
    have hmm := mayR_most hm2
    by_cases hlt : j < zl
    · obtain ⟨az, haz⟩ : ∃ az, za = some az := by
        cases za with
        | some a => exact ⟨a, rfl⟩
        | none =>
          obtain ⟨za', zc', e, hn0, _⟩ := HZ.out
          injection e with e1 e2 e3
          have := HZL.out
          rw [hn0 e1.symm] at this
          simp at this
          omega
      subst haz
      have hzz : az.spot = none ∧ ∀ W, Below w.heap.size w W → W.cell? (az.add j) = some (.int .i64 (nth zs j)) := by
        obtain ⟨za', zc', e, _, ha⟩ := HZ.out
        injection e with e1 e2 e3
        obtain ⟨q1, q2, q3⟩ := ha az e1.symm j (by rw [HZL.out]; exact hlt)
        exact ⟨q1, fun W hb => (hb.cell (p := az.add j) (by rw [addr_block]; exact q2)).trans q3⟩
      have HZZ := hide hzz.2
      have hsp := hzz.1
      obtain ⟨bt, hbt⟩ : ∃ bt, bits BinOp.and IntKind.i64 (nth zs j) 1 = bt := ⟨_, rfl⟩
      generalize nth zs j = zx at HZZ hbt
      clear hzz
      have HGX := hide HLV.out.y.lt
      have HSV := hide HLV.out.s
      by_cases hb1 : bt = 1
      · have hbd : decide (bt = 1) = true := by simpa using hb1
        have hbe : (bt == 1) = true := by simpa using hb1
        clear hb1
        obtain ⟨m2, hm⟩ : ∃ m2, o2 + 1 = m2 := ⟨_, rfl⟩
        have HM2 := tuck hm
        clear hm hm2
        by_cases hu : mayR q m2 n2 = true
        · have HU := tuck hu
          clear hu
          have HM3 : Tuck (mayR q m2 n2 = true) := HU
          have HN3 : Tuck (n ≤ n2) := tuck (by have := HNN.out; omega)
          have hvv := HVS.out m2 n2 later HM3.out HN3.out
          by_cases f0 : n < m2
          · have HVV := hide (show verS k m2 n2 T later = 7 from by rw [hvv]; rw [if_pos f0])
            have i0 : (n : Int) < (m2 : Int) := by omega
            have j0 : decide ((n : Int) < (m2 : Int)) = true := by simpa using i0
            clear hvv f0
            have HROT := hide (fun (W : World) (h : LV w (.slice va q vc) k o2 n2 t gx T W) => rotate_gen k (.slice va q vc) o2 n2 W h.s)
            have HRET := hide (fun (W : World) (h : LV w (.slice va q vc) k o2 n2 t gx T W) => retire_ok HMR.out HU.out HM2.out HQ.out (.slice va q vc) W h.s)
            go_wp2_with (first | (go_at_call 18; refine (HROT.out _ HLV.out).mono ?_; rintro e v1 ⟨pa, pl, pc, p1, p2, p3, rfl, hB⟩; have HG1 := hide (And.intro (Nat.lt_of_lt_of_le HGX.out hB.size) (Nat.lt_of_lt_of_le HLV.out.x.lt hB.size)); have HGW := hide hB.size; have HBW1 := hide hB; have HL1 := hide (HLV.out.next hB); clear r0 r1 r2 y5 y6 y7 hB HLV HROT) | (refine wpList_store_rg_new rfl (.tmp 14) (.tmp 52) rfl v1.heap.size (.slice pa pl pc) p1 p2 rfl rfl rfl (.slice none 0 0) 0 0 (rbox_zero _) (fun W => Below v1.heap.size v1 W ∧ RBox W v1.heap.size (.slice pa pl pc) p1 p2) ⟨below_pairR v1 _, RBox.pair v1 _ _ _⟩ ?_; intro v2 hp; have HBW2 := hide (HBW1.out.trans (hp.1.mono HBW1.out.size)); have HL2 := hide (HL1.out.next hp.1); have HA2 := hide hp.2; have r0 := HL2.out.r.c0; have r1 := HL2.out.r.c1; have r2 := HL2.out.r.c2; have zc0 := HZZ.out _ HL2.out.b; clear hp HL1 HBW1) | (go_at_call 19; refine (HRET.out _ HL2.out).mono ?_; rintro e v3 ⟨ua, uc, rfl, hB, hrow⟩; have HBW3 := hide (HBW2.out.trans (hB.mono HBW2.out.size)); have HL3 := hide (HL2.out.next hB); have HA3 := hide (HA2.out.next hB); have HW3 := hide hrow; have HS3 := hide (Nat.lt_of_lt_of_le HL2.out.r.lt (Nat.le_refl _)); clear HBW2 zc0 r0 r1 r2 hB hrow HL2 HRET) | (refine wpList_store_rg_new rfl (.tmp 14) (.tmp 63) rfl v1.heap.size (.slice ua q uc) m2 n2 rfl rfl rfl (.slice pa pl pc) p1 p2 HA3.out (fun W => LV w (.slice va q vc) k o2 n2 t gx T W ∧ RBox W v1.heap.size (.slice ua q uc) m2 n2 ∧ Row W v2.heap.size (.slice ua q uc) k) ⟨HL3.out.other (by have := HG1.out; omega) (by have := HG1.out; omega) _ (HSV.out.below (below_setRow HBW3.out HGW.out _)), HA3.out.row, ownsRow_setRow HW3.out HA2.out.lt _⟩ ?_; intro v4 hp; have HL4 := hide hp.1; have HA4 := hide hp.2.1; have HW4 := hide hp.2.2; have HB4 := hide HS3.out; have r0 := HL4.out.r.c0; have r1 := HL4.out.r.c1; have r2 := HL4.out.r.c2; have z0 := HA4.out.c0; have z1 := HA4.out.c1; have z2 := HA4.out.c2; have y5 := HL4.out.y.c5; have y6 := HL4.out.y.c6; have y7 := HL4.out.y.c7; rw [HK5.out] at y5; rw [HK6.out] at y6; rw [HK7.out] at y7; clear hp HBW3 HL3 HA3 HW3 HA2) | (refine wpList_store_rg_new rfl (.tmp 5) (.tmp 67) rfl w.heap.size (.slice ua q uc) m2 n2 rfl rfl rfl (.slice va q vc) o2 n2 HL4.out.r (fun W => LV w (.slice ua q uc) k m2 n2 t gx T W) (HL4.out.turn HW4.out HB4.out) ?_; intro v5 hp; have HL5 := hide hp; clear hp r0 r1 r2 z0 z1 z2 y5 y6 y7 HL4 HA4 HW4; have r0 := HL5.out.r.c0; have r1 := HL5.out.r.c1; have r2 := HL5.out.r.c2; have y5 := HL5.out.y.c5; have y6 := HL5.out.y.c6; have y7 := HL5.out.y.c7; rw [HK5.out] at y5; rw [HK6.out] at y6; rw [HK7.out] at y7) | (refine wpList_load_tk rfl (.tmp 11) rfl gx rfl T HTm.out HL5.out.y ?_) | (go_at_call 22; refine (HVF.out ua uc m2 n2 later gx _ _ HL5.out HVV.out).mono ?_; rintro e v6 ⟨rfl, hB⟩; have HL6 := hide (HL5.out.next hB); clear hB r0 r1 r2 y5 y6 y7 HL5))
            go_roundw
            case rel => exact ⟨j + 1, by omega, by go_num, ua, uc, m2, n2, HL6, HM3, HN3⟩
            case measure => simp [intOf]; omega
          by_cases f1 : later < now
          · have HVV := hide (show verS k m2 n2 T later = 9 from by rw [hvv]; rw [if_neg f0, if_pos (.inl f1)])
            have i0 : ¬ (n : Int) < (m2 : Int) := by omega
            have j0 : decide ((n : Int) < (m2 : Int)) = false := by simpa using i0
            have i1 : (later : Int) < (now : Int) := by omega
            have j1 : decide ((later : Int) < (now : Int)) = true := by simpa using i1
            clear hvv f0 f1
            have HROT := hide (fun (W : World) (h : LV w (.slice va q vc) k o2 n2 t gx T W) => rotate_gen k (.slice va q vc) o2 n2 W h.s)
            have HRET := hide (fun (W : World) (h : LV w (.slice va q vc) k o2 n2 t gx T W) => retire_ok HMR.out HU.out HM2.out HQ.out (.slice va q vc) W h.s)
            go_wp2_with (first | (go_at_call 18; refine (HROT.out _ HLV.out).mono ?_; rintro e v1 ⟨pa, pl, pc, p1, p2, p3, rfl, hB⟩; have HG1 := hide (And.intro (Nat.lt_of_lt_of_le HGX.out hB.size) (Nat.lt_of_lt_of_le HLV.out.x.lt hB.size)); have HGW := hide hB.size; have HBW1 := hide hB; have HL1 := hide (HLV.out.next hB); clear r0 r1 r2 y5 y6 y7 hB HLV HROT) | (refine wpList_store_rg_new rfl (.tmp 14) (.tmp 52) rfl v1.heap.size (.slice pa pl pc) p1 p2 rfl rfl rfl (.slice none 0 0) 0 0 (rbox_zero _) (fun W => Below v1.heap.size v1 W ∧ RBox W v1.heap.size (.slice pa pl pc) p1 p2) ⟨below_pairR v1 _, RBox.pair v1 _ _ _⟩ ?_; intro v2 hp; have HBW2 := hide (HBW1.out.trans (hp.1.mono HBW1.out.size)); have HL2 := hide (HL1.out.next hp.1); have HA2 := hide hp.2; have r0 := HL2.out.r.c0; have r1 := HL2.out.r.c1; have r2 := HL2.out.r.c2; have zc0 := HZZ.out _ HL2.out.b; clear hp HL1 HBW1) | (go_at_call 19; refine (HRET.out _ HL2.out).mono ?_; rintro e v3 ⟨ua, uc, rfl, hB, hrow⟩; have HBW3 := hide (HBW2.out.trans (hB.mono HBW2.out.size)); have HL3 := hide (HL2.out.next hB); have HA3 := hide (HA2.out.next hB); have HW3 := hide hrow; have HS3 := hide (Nat.lt_of_lt_of_le HL2.out.r.lt (Nat.le_refl _)); clear HBW2 zc0 r0 r1 r2 hB hrow HL2 HRET) | (refine wpList_store_rg_new rfl (.tmp 14) (.tmp 63) rfl v1.heap.size (.slice ua q uc) m2 n2 rfl rfl rfl (.slice pa pl pc) p1 p2 HA3.out (fun W => LV w (.slice va q vc) k o2 n2 t gx T W ∧ RBox W v1.heap.size (.slice ua q uc) m2 n2 ∧ Row W v2.heap.size (.slice ua q uc) k) ⟨HL3.out.other (by have := HG1.out; omega) (by have := HG1.out; omega) _ (HSV.out.below (below_setRow HBW3.out HGW.out _)), HA3.out.row, ownsRow_setRow HW3.out HA2.out.lt _⟩ ?_; intro v4 hp; have HL4 := hide hp.1; have HA4 := hide hp.2.1; have HW4 := hide hp.2.2; have HB4 := hide HS3.out; have r0 := HL4.out.r.c0; have r1 := HL4.out.r.c1; have r2 := HL4.out.r.c2; have z0 := HA4.out.c0; have z1 := HA4.out.c1; have z2 := HA4.out.c2; have y5 := HL4.out.y.c5; have y6 := HL4.out.y.c6; have y7 := HL4.out.y.c7; rw [HK5.out] at y5; rw [HK6.out] at y6; rw [HK7.out] at y7; clear hp HBW3 HL3 HA3 HW3 HA2) | (refine wpList_store_rg_new rfl (.tmp 5) (.tmp 67) rfl w.heap.size (.slice ua q uc) m2 n2 rfl rfl rfl (.slice va q vc) o2 n2 HL4.out.r (fun W => LV w (.slice ua q uc) k m2 n2 t gx T W) (HL4.out.turn HW4.out HB4.out) ?_; intro v5 hp; have HL5 := hide hp; clear hp r0 r1 r2 z0 z1 z2 y5 y6 y7 HL4 HA4 HW4; have r0 := HL5.out.r.c0; have r1 := HL5.out.r.c1; have r2 := HL5.out.r.c2; have y5 := HL5.out.y.c5; have y6 := HL5.out.y.c6; have y7 := HL5.out.y.c7; rw [HK5.out] at y5; rw [HK6.out] at y6; rw [HK7.out] at y7) | (refine wpList_load_tk rfl (.tmp 11) rfl gx rfl T HTm.out HL5.out.y ?_) | (go_at_call 22; refine (HVF.out ua uc m2 n2 later gx _ _ HL5.out HVV.out).mono ?_; rintro e v6 ⟨rfl, hB⟩; have HL6 := hide (HL5.out.next hB); clear hB r0 r1 r2 y5 y6 y7 HL5))
            go_roundw
            case rel => exact ⟨j + 1, by omega, by go_num, ua, uc, m2, n2, HL6, HM3, HN3⟩
            case measure => simp [intOf]; omega
          by_cases f2 : til ≤ later
          · have HVV := hide (show verS k m2 n2 T later = 9 from by rw [hvv]; rw [if_neg f0, if_pos (.inr f2)])
            have i0 : ¬ (n : Int) < (m2 : Int) := by omega
            have j0 : decide ((n : Int) < (m2 : Int)) = false := by simpa using i0
            have i1 : ¬ (later : Int) < (now : Int) := by omega
            have j1 : decide ((later : Int) < (now : Int)) = false := by simpa using i1
            have i2 : (til : Int) ≤ (later : Int) := by omega
            have j2 : decide ((til : Int) ≤ (later : Int)) = true := by simpa using i2
            clear hvv f0 f1 f2
            have HROT := hide (fun (W : World) (h : LV w (.slice va q vc) k o2 n2 t gx T W) => rotate_gen k (.slice va q vc) o2 n2 W h.s)
            have HRET := hide (fun (W : World) (h : LV w (.slice va q vc) k o2 n2 t gx T W) => retire_ok HMR.out HU.out HM2.out HQ.out (.slice va q vc) W h.s)
            go_wp2_with (first | (go_at_call 18; refine (HROT.out _ HLV.out).mono ?_; rintro e v1 ⟨pa, pl, pc, p1, p2, p3, rfl, hB⟩; have HG1 := hide (And.intro (Nat.lt_of_lt_of_le HGX.out hB.size) (Nat.lt_of_lt_of_le HLV.out.x.lt hB.size)); have HGW := hide hB.size; have HBW1 := hide hB; have HL1 := hide (HLV.out.next hB); clear r0 r1 r2 y5 y6 y7 hB HLV HROT) | (refine wpList_store_rg_new rfl (.tmp 14) (.tmp 52) rfl v1.heap.size (.slice pa pl pc) p1 p2 rfl rfl rfl (.slice none 0 0) 0 0 (rbox_zero _) (fun W => Below v1.heap.size v1 W ∧ RBox W v1.heap.size (.slice pa pl pc) p1 p2) ⟨below_pairR v1 _, RBox.pair v1 _ _ _⟩ ?_; intro v2 hp; have HBW2 := hide (HBW1.out.trans (hp.1.mono HBW1.out.size)); have HL2 := hide (HL1.out.next hp.1); have HA2 := hide hp.2; have r0 := HL2.out.r.c0; have r1 := HL2.out.r.c1; have r2 := HL2.out.r.c2; have zc0 := HZZ.out _ HL2.out.b; clear hp HL1 HBW1) | (go_at_call 19; refine (HRET.out _ HL2.out).mono ?_; rintro e v3 ⟨ua, uc, rfl, hB, hrow⟩; have HBW3 := hide (HBW2.out.trans (hB.mono HBW2.out.size)); have HL3 := hide (HL2.out.next hB); have HA3 := hide (HA2.out.next hB); have HW3 := hide hrow; have HS3 := hide (Nat.lt_of_lt_of_le HL2.out.r.lt (Nat.le_refl _)); clear HBW2 zc0 r0 r1 r2 hB hrow HL2 HRET) | (refine wpList_store_rg_new rfl (.tmp 14) (.tmp 63) rfl v1.heap.size (.slice ua q uc) m2 n2 rfl rfl rfl (.slice pa pl pc) p1 p2 HA3.out (fun W => LV w (.slice va q vc) k o2 n2 t gx T W ∧ RBox W v1.heap.size (.slice ua q uc) m2 n2 ∧ Row W v2.heap.size (.slice ua q uc) k) ⟨HL3.out.other (by have := HG1.out; omega) (by have := HG1.out; omega) _ (HSV.out.below (below_setRow HBW3.out HGW.out _)), HA3.out.row, ownsRow_setRow HW3.out HA2.out.lt _⟩ ?_; intro v4 hp; have HL4 := hide hp.1; have HA4 := hide hp.2.1; have HW4 := hide hp.2.2; have HB4 := hide HS3.out; have r0 := HL4.out.r.c0; have r1 := HL4.out.r.c1; have r2 := HL4.out.r.c2; have z0 := HA4.out.c0; have z1 := HA4.out.c1; have z2 := HA4.out.c2; have y5 := HL4.out.y.c5; have y6 := HL4.out.y.c6; have y7 := HL4.out.y.c7; rw [HK5.out] at y5; rw [HK6.out] at y6; rw [HK7.out] at y7; clear hp HBW3 HL3 HA3 HW3 HA2) | (refine wpList_store_rg_new rfl (.tmp 5) (.tmp 67) rfl w.heap.size (.slice ua q uc) m2 n2 rfl rfl rfl (.slice va q vc) o2 n2 HL4.out.r (fun W => LV w (.slice ua q uc) k m2 n2 t gx T W) (HL4.out.turn HW4.out HB4.out) ?_; intro v5 hp; have HL5 := hide hp; clear hp r0 r1 r2 z0 z1 z2 y5 y6 y7 HL4 HA4 HW4; have r0 := HL5.out.r.c0; have r1 := HL5.out.r.c1; have r2 := HL5.out.r.c2; have y5 := HL5.out.y.c5; have y6 := HL5.out.y.c6; have y7 := HL5.out.y.c7; rw [HK5.out] at y5; rw [HK6.out] at y6; rw [HK7.out] at y7) | (refine wpList_load_tk rfl (.tmp 11) rfl gx rfl T HTm.out HL5.out.y ?_) | (go_at_call 22; refine (HVF.out ua uc m2 n2 later gx _ _ HL5.out HVV.out).mono ?_; rintro e v6 ⟨rfl, hB⟩; have HL6 := hide (HL5.out.next hB); clear hB r0 r1 r2 y5 y6 y7 HL5))
            go_roundw
            case rel => exact ⟨j + 1, by omega, by go_num, ua, uc, m2, n2, HL6, HM3, HN3⟩
            case measure => simp [intOf]; omega
          have HVV := hide (show verS k m2 n2 T later = 0 from by rw [hvv, if_neg f0, if_neg (fun h => h.elim f1 f2)])
          have i0 : ¬ (n : Int) < (m2 : Int) := by omega
          have j0 : decide ((n : Int) < (m2 : Int)) = false := by simpa using i0
          have i1 : ¬ (later : Int) < (now : Int) := by omega
          have j1 : decide ((later : Int) < (now : Int)) = false := by simpa using i1
          have i2 : ¬ (til : Int) ≤ (later : Int) := by omega
          have j2 : decide ((til : Int) ≤ (later : Int)) = false := by simpa using i2
          clear hvv f0 f1 f2
          have HROT := hide (fun (W : World) (h : LV w (.slice va q vc) k o2 n2 t gx T W) => rotate_gen k (.slice va q vc) o2 n2 W h.s)
          have HRET := hide (fun (W : World) (h : LV w (.slice va q vc) k o2 n2 t gx T W) => retire_ok HMR.out HU.out HM2.out HQ.out (.slice va q vc) W h.s)
          go_wp2_with (first | (go_at_call 18; refine (HROT.out _ HLV.out).mono ?_; rintro e v1 ⟨pa, pl, pc, p1, p2, p3, rfl, hB⟩; have HG1 := hide (And.intro (Nat.lt_of_lt_of_le HGX.out hB.size) (Nat.lt_of_lt_of_le HLV.out.x.lt hB.size)); have HGW := hide hB.size; have HBW1 := hide hB; have HL1 := hide (HLV.out.next hB); clear r0 r1 r2 y5 y6 y7 hB HLV HROT) | (refine wpList_store_rg_new rfl (.tmp 14) (.tmp 52) rfl v1.heap.size (.slice pa pl pc) p1 p2 rfl rfl rfl (.slice none 0 0) 0 0 (rbox_zero _) (fun W => Below v1.heap.size v1 W ∧ RBox W v1.heap.size (.slice pa pl pc) p1 p2) ⟨below_pairR v1 _, RBox.pair v1 _ _ _⟩ ?_; intro v2 hp; have HBW2 := hide (HBW1.out.trans (hp.1.mono HBW1.out.size)); have HL2 := hide (HL1.out.next hp.1); have HA2 := hide hp.2; have r0 := HL2.out.r.c0; have r1 := HL2.out.r.c1; have r2 := HL2.out.r.c2; have zc0 := HZZ.out _ HL2.out.b; clear hp HL1 HBW1) | (go_at_call 19; refine (HRET.out _ HL2.out).mono ?_; rintro e v3 ⟨ua, uc, rfl, hB, hrow⟩; have HBW3 := hide (HBW2.out.trans (hB.mono HBW2.out.size)); have HL3 := hide (HL2.out.next hB); have HA3 := hide (HA2.out.next hB); have HW3 := hide hrow; have HS3 := hide (Nat.lt_of_lt_of_le HL2.out.r.lt (Nat.le_refl _)); clear HBW2 zc0 r0 r1 r2 hB hrow HL2 HRET) | (refine wpList_store_rg_new rfl (.tmp 14) (.tmp 63) rfl v1.heap.size (.slice ua q uc) m2 n2 rfl rfl rfl (.slice pa pl pc) p1 p2 HA3.out (fun W => LV w (.slice va q vc) k o2 n2 t gx T W ∧ RBox W v1.heap.size (.slice ua q uc) m2 n2 ∧ Row W v2.heap.size (.slice ua q uc) k) ⟨HL3.out.other (by have := HG1.out; omega) (by have := HG1.out; omega) _ (HSV.out.below (below_setRow HBW3.out HGW.out _)), HA3.out.row, ownsRow_setRow HW3.out HA2.out.lt _⟩ ?_; intro v4 hp; have HL4 := hide hp.1; have HA4 := hide hp.2.1; have HW4 := hide hp.2.2; have HB4 := hide HS3.out; have r0 := HL4.out.r.c0; have r1 := HL4.out.r.c1; have r2 := HL4.out.r.c2; have z0 := HA4.out.c0; have z1 := HA4.out.c1; have z2 := HA4.out.c2; have y5 := HL4.out.y.c5; have y6 := HL4.out.y.c6; have y7 := HL4.out.y.c7; rw [HK5.out] at y5; rw [HK6.out] at y6; rw [HK7.out] at y7; clear hp HBW3 HL3 HA3 HW3 HA2) | (refine wpList_store_rg_new rfl (.tmp 5) (.tmp 67) rfl w.heap.size (.slice ua q uc) m2 n2 rfl rfl rfl (.slice va q vc) o2 n2 HL4.out.r (fun W => LV w (.slice ua q uc) k m2 n2 t gx T W) (HL4.out.turn HW4.out HB4.out) ?_; intro v5 hp; have HL5 := hide hp; clear hp r0 r1 r2 z0 z1 z2 y5 y6 y7 HL4 HA4 HW4; have r0 := HL5.out.r.c0; have r1 := HL5.out.r.c1; have r2 := HL5.out.r.c2; have y5 := HL5.out.y.c5; have y6 := HL5.out.y.c6; have y7 := HL5.out.y.c7; rw [HK5.out] at y5; rw [HK6.out] at y6; rw [HK7.out] at y7) | (refine wpList_load_tk rfl (.tmp 11) rfl gx rfl T HTm.out HL5.out.y ?_) | (go_at_call 22; refine (HVF.out ua uc m2 n2 later gx _ _ HL5.out HVV.out).mono ?_; rintro e v6 ⟨rfl, hB⟩; have HL6 := hide (HL5.out.next hB); clear hB r0 r1 r2 y5 y6 y7 HL5))
          go_roundw
          case rel => exact ⟨j + 1, by omega, by go_num, ua, uc, m2, n2, HL6, HM3, HN3⟩
          case measure => simp [intOf]; omega
        · have HU := tuck (show mayR q m2 n2 = false by simpa using hu)
          clear hu
          have HM3 : Tuck (mayR q o2 n2 = true) := HMR
          have HN3 : Tuck (n ≤ n2) := tuck (by have := HNN.out; omega)
          have hvv := HVS.out o2 n2 later HM3.out HN3.out
          by_cases f0 : n < o2
          · have HVV := hide (show verS k o2 n2 T later = 7 from by rw [hvv]; rw [if_pos f0])
            have i0 : (n : Int) < (o2 : Int) := by omega
            have j0 : decide ((n : Int) < (o2 : Int)) = true := by simpa using i0
            clear hvv f0
            have HROT := hide (fun (W : World) (h : LV w (.slice va q vc) k o2 n2 t gx T W) => rotate_gen k (.slice va q vc) o2 n2 W h.s)
            have HRET := hide (fun (W : World) (h : LV w (.slice va q vc) k o2 n2 t gx T W) => retire_full HMR.out HU.out HM2.out HQ.out (.slice va q vc) W h.s)
            go_wp2_with (first | (go_at_call 18; refine (HROT.out _ HLV.out).mono ?_; rintro e v1 ⟨pa, pl, pc, p1, p2, p3, rfl, hB⟩; have HG1 := hide (And.intro (Nat.lt_of_lt_of_le HGX.out hB.size) (Nat.lt_of_lt_of_le HLV.out.x.lt hB.size)); have HGW := hide hB.size; have HBW1 := hide hB; have HL1 := hide (HLV.out.next hB); clear r0 r1 r2 y5 y6 y7 hB HLV HROT) | (refine wpList_store_rg_new rfl (.tmp 14) (.tmp 52) rfl v1.heap.size (.slice pa pl pc) p1 p2 rfl rfl rfl (.slice none 0 0) 0 0 (rbox_zero _) (fun W => Below v1.heap.size v1 W ∧ RBox W v1.heap.size (.slice pa pl pc) p1 p2) ⟨below_pairR v1 _, RBox.pair v1 _ _ _⟩ ?_; intro v2 hp; have HBW2 := hide (HBW1.out.trans (hp.1.mono HBW1.out.size)); have HL2 := hide (HL1.out.next hp.1); have HA2 := hide hp.2; have r0 := HL2.out.r.c0; have r1 := HL2.out.r.c1; have r2 := HL2.out.r.c2; have zc0 := HZZ.out _ HL2.out.b; clear hp HL1 HBW1) | (go_at_call 19; refine (HRET.out _ HL2.out).mono ?_; rintro e v3 ⟨ua, uc, rfl, hB, hrow⟩; have HBW3 := hide (HBW2.out.trans (hB.mono HBW2.out.size)); have HL3 := hide (HL2.out.next hB); have HA3 := hide (HA2.out.next hB); have HW3 := hide hrow; have HS3 := hide (Nat.lt_of_lt_of_le HL2.out.r.lt (Nat.le_refl _)); clear HBW2 zc0 r0 r1 r2 hB hrow HL2 HRET) | (refine wpList_store_rg_new rfl (.tmp 14) (.tmp 63) rfl v1.heap.size (.slice ua 0 uc) 0 0 rfl rfl rfl (.slice pa pl pc) p1 p2 HA3.out (fun W => LV w (.slice va q vc) k o2 n2 t gx T W ∧ RBox W v1.heap.size (.slice ua 0 uc) 0 0 ∧ Row W v2.heap.size (.slice ua 0 uc) []) ⟨HL3.out.other (by have := HG1.out; omega) (by have := HG1.out; omega) _ (HSV.out.below (below_setRow HBW3.out HGW.out _)), HA3.out.row, ownsRow_setRow HW3.out HA2.out.lt _⟩ ?_; intro v4 hp; have HL4 := hide hp.1; have HA4 := hide hp.2.1; have HW4 := hide hp.2.2; have HB4 := hide HS3.out; have r0 := HL4.out.r.c0; have r1 := HL4.out.r.c1; have r2 := HL4.out.r.c2; have z0 := HA4.out.c0; have z1 := HA4.out.c1; have z2 := HA4.out.c2; have y5 := HL4.out.y.c5; have y6 := HL4.out.y.c6; have y7 := HL4.out.y.c7; rw [HK5.out] at y5; rw [HK6.out] at y6; rw [HK7.out] at y7; clear hp HBW3 HL3 HA3 HW3 HA2) | (refine wpList_load_tk rfl (.tmp 11) rfl gx rfl T HTm.out HL4.out.y ?_) | (go_at_call 22; refine (HVF.out va vc o2 n2 later gx _ _ HL4.out HVV.out).mono ?_; rintro e v6 ⟨rfl, hB⟩; have HL6 := hide (HL4.out.next hB); clear hB r0 r1 r2 y5 y6 y7 HL4))
            go_roundw
            case rel => exact ⟨j + 1, by omega, by go_num, va, vc, o2, n2, HL6, HM3, HN3⟩
            case measure => simp [intOf]; omega
          by_cases f1 : later < now
          · have HVV := hide (show verS k o2 n2 T later = 9 from by rw [hvv]; rw [if_neg f0, if_pos (.inl f1)])
            have i0 : ¬ (n : Int) < (o2 : Int) := by omega
            have j0 : decide ((n : Int) < (o2 : Int)) = false := by simpa using i0
            have i1 : (later : Int) < (now : Int) := by omega
            have j1 : decide ((later : Int) < (now : Int)) = true := by simpa using i1
            clear hvv f0 f1
            have HROT := hide (fun (W : World) (h : LV w (.slice va q vc) k o2 n2 t gx T W) => rotate_gen k (.slice va q vc) o2 n2 W h.s)
            have HRET := hide (fun (W : World) (h : LV w (.slice va q vc) k o2 n2 t gx T W) => retire_full HMR.out HU.out HM2.out HQ.out (.slice va q vc) W h.s)
            go_wp2_with (first | (go_at_call 18; refine (HROT.out _ HLV.out).mono ?_; rintro e v1 ⟨pa, pl, pc, p1, p2, p3, rfl, hB⟩; have HG1 := hide (And.intro (Nat.lt_of_lt_of_le HGX.out hB.size) (Nat.lt_of_lt_of_le HLV.out.x.lt hB.size)); have HGW := hide hB.size; have HBW1 := hide hB; have HL1 := hide (HLV.out.next hB); clear r0 r1 r2 y5 y6 y7 hB HLV HROT) | (refine wpList_store_rg_new rfl (.tmp 14) (.tmp 52) rfl v1.heap.size (.slice pa pl pc) p1 p2 rfl rfl rfl (.slice none 0 0) 0 0 (rbox_zero _) (fun W => Below v1.heap.size v1 W ∧ RBox W v1.heap.size (.slice pa pl pc) p1 p2) ⟨below_pairR v1 _, RBox.pair v1 _ _ _⟩ ?_; intro v2 hp; have HBW2 := hide (HBW1.out.trans (hp.1.mono HBW1.out.size)); have HL2 := hide (HL1.out.next hp.1); have HA2 := hide hp.2; have r0 := HL2.out.r.c0; have r1 := HL2.out.r.c1; have r2 := HL2.out.r.c2; have zc0 := HZZ.out _ HL2.out.b; clear hp HL1 HBW1) | (go_at_call 19; refine (HRET.out _ HL2.out).mono ?_; rintro e v3 ⟨ua, uc, rfl, hB, hrow⟩; have HBW3 := hide (HBW2.out.trans (hB.mono HBW2.out.size)); have HL3 := hide (HL2.out.next hB); have HA3 := hide (HA2.out.next hB); have HW3 := hide hrow; have HS3 := hide (Nat.lt_of_lt_of_le HL2.out.r.lt (Nat.le_refl _)); clear HBW2 zc0 r0 r1 r2 hB hrow HL2 HRET) | (refine wpList_store_rg_new rfl (.tmp 14) (.tmp 63) rfl v1.heap.size (.slice ua 0 uc) 0 0 rfl rfl rfl (.slice pa pl pc) p1 p2 HA3.out (fun W => LV w (.slice va q vc) k o2 n2 t gx T W ∧ RBox W v1.heap.size (.slice ua 0 uc) 0 0 ∧ Row W v2.heap.size (.slice ua 0 uc) []) ⟨HL3.out.other (by have := HG1.out; omega) (by have := HG1.out; omega) _ (HSV.out.below (below_setRow HBW3.out HGW.out _)), HA3.out.row, ownsRow_setRow HW3.out HA2.out.lt _⟩ ?_; intro v4 hp; have HL4 := hide hp.1; have HA4 := hide hp.2.1; have HW4 := hide hp.2.2; have HB4 := hide HS3.out; have r0 := HL4.out.r.c0; have r1 := HL4.out.r.c1; have r2 := HL4.out.r.c2; have z0 := HA4.out.c0; have z1 := HA4.out.c1; have z2 := HA4.out.c2; have y5 := HL4.out.y.c5; have y6 := HL4.out.y.c6; have y7 := HL4.out.y.c7; rw [HK5.out] at y5; rw [HK6.out] at y6; rw [HK7.out] at y7; clear hp HBW3 HL3 HA3 HW3 HA2) | (refine wpList_load_tk rfl (.tmp 11) rfl gx rfl T HTm.out HL4.out.y ?_) | (go_at_call 22; refine (HVF.out va vc o2 n2 later gx _ _ HL4.out HVV.out).mono ?_; rintro e v6 ⟨rfl, hB⟩; have HL6 := hide (HL4.out.next hB); clear hB r0 r1 r2 y5 y6 y7 HL4))
            go_roundw
            case rel => exact ⟨j + 1, by omega, by go_num, va, vc, o2, n2, HL6, HM3, HN3⟩
            case measure => simp [intOf]; omega
          by_cases f2 : til ≤ later
          · have HVV := hide (show verS k o2 n2 T later = 9 from by rw [hvv]; rw [if_neg f0, if_pos (.inr f2)])
            have i0 : ¬ (n : Int) < (o2 : Int) := by omega
            have j0 : decide ((n : Int) < (o2 : Int)) = false := by simpa using i0
            have i1 : ¬ (later : Int) < (now : Int) := by omega
            have j1 : decide ((later : Int) < (now : Int)) = false := by simpa using i1
            have i2 : (til : Int) ≤ (later : Int) := by omega
            have j2 : decide ((til : Int) ≤ (later : Int)) = true := by simpa using i2
            clear hvv f0 f1 f2
            have HROT := hide (fun (W : World) (h : LV w (.slice va q vc) k o2 n2 t gx T W) => rotate_gen k (.slice va q vc) o2 n2 W h.s)
            have HRET := hide (fun (W : World) (h : LV w (.slice va q vc) k o2 n2 t gx T W) => retire_full HMR.out HU.out HM2.out HQ.out (.slice va q vc) W h.s)
            go_wp2_with (first | (go_at_call 18; refine (HROT.out _ HLV.out).mono ?_; rintro e v1 ⟨pa, pl, pc, p1, p2, p3, rfl, hB⟩; have HG1 := hide (And.intro (Nat.lt_of_lt_of_le HGX.out hB.size) (Nat.lt_of_lt_of_le HLV.out.x.lt hB.size)); have HGW := hide hB.size; have HBW1 := hide hB; have HL1 := hide (HLV.out.next hB); clear r0 r1 r2 y5 y6 y7 hB HLV HROT) | (refine wpList_store_rg_new rfl (.tmp 14) (.tmp 52) rfl v1.heap.size (.slice pa pl pc) p1 p2 rfl rfl rfl (.slice none 0 0) 0 0 (rbox_zero _) (fun W => Below v1.heap.size v1 W ∧ RBox W v1.heap.size (.slice pa pl pc) p1 p2) ⟨below_pairR v1 _, RBox.pair v1 _ _ _⟩ ?_; intro v2 hp; have HBW2 := hide (HBW1.out.trans (hp.1.mono HBW1.out.size)); have HL2 := hide (HL1.out.next hp.1); have HA2 := hide hp.2; have r0 := HL2.out.r.c0; have r1 := HL2.out.r.c1; have r2 := HL2.out.r.c2; have zc0 := HZZ.out _ HL2.out.b; clear hp HL1 HBW1) | (go_at_call 19; refine (HRET.out _ HL2.out).mono ?_; rintro e v3 ⟨ua, uc, rfl, hB, hrow⟩; have HBW3 := hide (HBW2.out.trans (hB.mono HBW2.out.size)); have HL3 := hide (HL2.out.next hB); have HA3 := hide (HA2.out.next hB); have HW3 := hide hrow; have HS3 := hide (Nat.lt_of_lt_of_le HL2.out.r.lt (Nat.le_refl _)); clear HBW2 zc0 r0 r1 r2 hB hrow HL2 HRET) | (refine wpList_store_rg_new rfl (.tmp 14) (.tmp 63) rfl v1.heap.size (.slice ua 0 uc) 0 0 rfl rfl rfl (.slice pa pl pc) p1 p2 HA3.out (fun W => LV w (.slice va q vc) k o2 n2 t gx T W ∧ RBox W v1.heap.size (.slice ua 0 uc) 0 0 ∧ Row W v2.heap.size (.slice ua 0 uc) []) ⟨HL3.out.other (by have := HG1.out; omega) (by have := HG1.out; omega) _ (HSV.out.below (below_setRow HBW3.out HGW.out _)), HA3.out.row, ownsRow_setRow HW3.out HA2.out.lt _⟩ ?_; intro v4 hp; have HL4 := hide hp.1; have HA4 := hide hp.2.1; have HW4 := hide hp.2.2; have HB4 := hide HS3.out; have r0 := HL4.out.r.c0; have r1 := HL4.out.r.c1; have r2 := HL4.out.r.c2; have z0 := HA4.out.c0; have z1 := HA4.out.c1; have z2 := HA4.out.c2; have y5 := HL4.out.y.c5; have y6 := HL4.out.y.c6; have y7 := HL4.out.y.c7; rw [HK5.out] at y5; rw [HK6.out] at y6; rw [HK7.out] at y7; clear hp HBW3 HL3 HA3 HW3 HA2) | (refine wpList_load_tk rfl (.tmp 11) rfl gx rfl T HTm.out HL4.out.y ?_) | (go_at_call 22; refine (HVF.out va vc o2 n2 later gx _ _ HL4.out HVV.out).mono ?_; rintro e v6 ⟨rfl, hB⟩; have HL6 := hide (HL4.out.next hB); clear hB r0 r1 r2 y5 y6 y7 HL4))
            go_roundw
            case rel => exact ⟨j + 1, by omega, by go_num, va, vc, o2, n2, HL6, HM3, HN3⟩
            case measure => simp [intOf]; omega
          have HVV := hide (show verS k o2 n2 T later = 0 from by rw [hvv, if_neg f0, if_neg (fun h => h.elim f1 f2)])
          have i0 : ¬ (n : Int) < (o2 : Int) := by omega
          have j0 : decide ((n : Int) < (o2 : Int)) = false := by simpa using i0
          have i1 : ¬ (later : Int) < (now : Int) := by omega
          have j1 : decide ((later : Int) < (now : Int)) = false := by simpa using i1
          have i2 : ¬ (til : Int) ≤ (later : Int) := by omega
          have j2 : decide ((til : Int) ≤ (later : Int)) = false := by simpa using i2
          clear hvv f0 f1 f2
          have HROT := hide (fun (W : World) (h : LV w (.slice va q vc) k o2 n2 t gx T W) => rotate_gen k (.slice va q vc) o2 n2 W h.s)
          have HRET := hide (fun (W : World) (h : LV w (.slice va q vc) k o2 n2 t gx T W) => retire_full HMR.out HU.out HM2.out HQ.out (.slice va q vc) W h.s)
          go_wp2_with (first | (go_at_call 18; refine (HROT.out _ HLV.out).mono ?_; rintro e v1 ⟨pa, pl, pc, p1, p2, p3, rfl, hB⟩; have HG1 := hide (And.intro (Nat.lt_of_lt_of_le HGX.out hB.size) (Nat.lt_of_lt_of_le HLV.out.x.lt hB.size)); have HGW := hide hB.size; have HBW1 := hide hB; have HL1 := hide (HLV.out.next hB); clear r0 r1 r2 y5 y6 y7 hB HLV HROT) | (refine wpList_store_rg_new rfl (.tmp 14) (.tmp 52) rfl v1.heap.size (.slice pa pl pc) p1 p2 rfl rfl rfl (.slice none 0 0) 0 0 (rbox_zero _) (fun W => Below v1.heap.size v1 W ∧ RBox W v1.heap.size (.slice pa pl pc) p1 p2) ⟨below_pairR v1 _, RBox.pair v1 _ _ _⟩ ?_; intro v2 hp; have HBW2 := hide (HBW1.out.trans (hp.1.mono HBW1.out.size)); have HL2 := hide (HL1.out.next hp.1); have HA2 := hide hp.2; have r0 := HL2.out.r.c0; have r1 := HL2.out.r.c1; have r2 := HL2.out.r.c2; have zc0 := HZZ.out _ HL2.out.b; clear hp HL1 HBW1) | (go_at_call 19; refine (HRET.out _ HL2.out).mono ?_; rintro e v3 ⟨ua, uc, rfl, hB, hrow⟩; have HBW3 := hide (HBW2.out.trans (hB.mono HBW2.out.size)); have HL3 := hide (HL2.out.next hB); have HA3 := hide (HA2.out.next hB); have HW3 := hide hrow; have HS3 := hide (Nat.lt_of_lt_of_le HL2.out.r.lt (Nat.le_refl _)); clear HBW2 zc0 r0 r1 r2 hB hrow HL2 HRET) | (refine wpList_store_rg_new rfl (.tmp 14) (.tmp 63) rfl v1.heap.size (.slice ua 0 uc) 0 0 rfl rfl rfl (.slice pa pl pc) p1 p2 HA3.out (fun W => LV w (.slice va q vc) k o2 n2 t gx T W ∧ RBox W v1.heap.size (.slice ua 0 uc) 0 0 ∧ Row W v2.heap.size (.slice ua 0 uc) []) ⟨HL3.out.other (by have := HG1.out; omega) (by have := HG1.out; omega) _ (HSV.out.below (below_setRow HBW3.out HGW.out _)), HA3.out.row, ownsRow_setRow HW3.out HA2.out.lt _⟩ ?_; intro v4 hp; have HL4 := hide hp.1; have HA4 := hide hp.2.1; have HW4 := hide hp.2.2; have HB4 := hide HS3.out; have r0 := HL4.out.r.c0; have r1 := HL4.out.r.c1; have r2 := HL4.out.r.c2; have z0 := HA4.out.c0; have z1 := HA4.out.c1; have z2 := HA4.out.c2; have y5 := HL4.out.y.c5; have y6 := HL4.out.y.c6; have y7 := HL4.out.y.c7; rw [HK5.out] at y5; rw [HK6.out] at y6; rw [HK7.out] at y7; clear hp HBW3 HL3 HA3 HW3 HA2) | (refine wpList_load_tk rfl (.tmp 11) rfl gx rfl T HTm.out HL4.out.y ?_) | (go_at_call 22; refine (HVF.out va vc o2 n2 later gx _ _ HL4.out HVV.out).mono ?_; rintro e v6 ⟨rfl, hB⟩; have HL6 := hide (HL4.out.next hB); clear hB r0 r1 r2 y5 y6 y7 HL4))
          go_roundw
          case rel => exact ⟨j + 1, by omega, by go_num, va, vc, o2, n2, HL6, HM3, HN3⟩
          case measure => simp [intOf]; omega
      · have hbd : decide (bt = 1) = false := by simpa using hb1
        have hbe : (bt == 1) = false := by simpa using hb1
        clear hb1
        obtain ⟨m2, hm⟩ : ∃ m2, n2 + 1 = m2 := ⟨_, rfl⟩
        have HM2 := tuck hm
        clear hm hm2
        by_cases hu : mayR q o2 m2 = true
        · have HU := tuck hu
          clear hu
          have HM3 : Tuck (mayR q o2 m2 = true) := HU
          have HN3 : Tuck (n ≤ m2) := tuck (by have := HNN.out; have := HM2.out; omega)
          have hvv := HVS.out o2 m2 later HM3.out HN3.out
          by_cases f0 : n < o2
          · have HVV := hide (show verS k o2 m2 T later = 7 from by rw [hvv]; rw [if_pos f0])
            have i0 : (n : Int) < (o2 : Int) := by omega
            have j0 : decide ((n : Int) < (o2 : Int)) = true := by simpa using i0
            clear hvv f0
            have HROT := hide (fun (W : World) (h : LV w (.slice va q vc) k o2 n2 t gx T W) => rotate_ok HMR.out HU.out HM2.out HQ.out (.slice va q vc) W h.s)
            go_wp2_with (first | (go_at_call 18; refine (HROT.out _ HLV.out).mono ?_; rintro e v1 ⟨ua, uc, rfl, hB, hrow⟩; have HB4 := hide HLV.out.r.lt; have HL1 := hide (HLV.out.next hB); have HW1 := hide hrow; clear r0 r1 r2 y5 y6 y7 hB hrow HLV HROT) | (refine wpList_store_rg_new rfl (.tmp 14) (.tmp 52) rfl v1.heap.size (.slice ua q uc) o2 m2 rfl rfl rfl (.slice none 0 0) 0 0 (rbox_zero _) (fun W => Below v1.heap.size v1 W ∧ RBox W v1.heap.size (.slice ua q uc) o2 m2) ⟨below_pairR v1 _, RBox.pair v1 _ _ _⟩ ?_; intro v4 hp; have HL4 := hide (HL1.out.next hp.1); have HA4 := hide hp.2; have HW4 := hide (HW1.out.below hp.1); have zc0 := HZZ.out _ HL4.out.b; have r0 := HL4.out.r.c0; have r1 := HL4.out.r.c1; have r2 := HL4.out.r.c2; have z0 := HA4.out.c0; have z1 := HA4.out.c1; have z2 := HA4.out.c2; have y5 := HL4.out.y.c5; have y6 := HL4.out.y.c6; have y7 := HL4.out.y.c7; rw [HK5.out] at y5; rw [HK6.out] at y6; rw [HK7.out] at y7; clear hp HL1 HW1) | (refine wpList_store_rg_new rfl (.tmp 5) (.tmp 67) rfl w.heap.size (.slice ua q uc) o2 m2 rfl rfl rfl (.slice va q vc) o2 n2 HL4.out.r (fun W => LV w (.slice ua q uc) k o2 m2 t gx T W) (HL4.out.turn HW4.out HB4.out) ?_; intro v5 hp; have HL5 := hide hp; clear hp r0 r1 r2 z0 z1 z2 y5 y6 y7 HL4 HA4 HW4; have r0 := HL5.out.r.c0; have r1 := HL5.out.r.c1; have r2 := HL5.out.r.c2; have y5 := HL5.out.y.c5; have y6 := HL5.out.y.c6; have y7 := HL5.out.y.c7; rw [HK5.out] at y5; rw [HK6.out] at y6; rw [HK7.out] at y7) | (refine wpList_load_tk rfl (.tmp 11) rfl gx rfl T HTm.out HL5.out.y ?_) | (go_at_call 22; refine (HVF.out ua uc o2 m2 later gx _ _ HL5.out HVV.out).mono ?_; rintro e v6 ⟨rfl, hB⟩; have HL6 := hide (HL5.out.next hB); clear hB r0 r1 r2 y5 y6 y7 HL5))
            go_roundw
            case rel => exact ⟨j + 1, by omega, by go_num, ua, uc, o2, m2, HL6, HM3, HN3⟩
            case measure => simp [intOf]; omega
          by_cases f1 : later < now
          · have HVV := hide (show verS k o2 m2 T later = 9 from by rw [hvv]; rw [if_neg f0, if_pos (.inl f1)])
            have i0 : ¬ (n : Int) < (o2 : Int) := by omega
            have j0 : decide ((n : Int) < (o2 : Int)) = false := by simpa using i0
            have i1 : (later : Int) < (now : Int) := by omega
            have j1 : decide ((later : Int) < (now : Int)) = true := by simpa using i1
            clear hvv f0 f1
            have HROT := hide (fun (W : World) (h : LV w (.slice va q vc) k o2 n2 t gx T W) => rotate_ok HMR.out HU.out HM2.out HQ.out (.slice va q vc) W h.s)
            go_wp2_with (first | (go_at_call 18; refine (HROT.out _ HLV.out).mono ?_; rintro e v1 ⟨ua, uc, rfl, hB, hrow⟩; have HB4 := hide HLV.out.r.lt; have HL1 := hide (HLV.out.next hB); have HW1 := hide hrow; clear r0 r1 r2 y5 y6 y7 hB hrow HLV HROT) | (refine wpList_store_rg_new rfl (.tmp 14) (.tmp 52) rfl v1.heap.size (.slice ua q uc) o2 m2 rfl rfl rfl (.slice none 0 0) 0 0 (rbox_zero _) (fun W => Below v1.heap.size v1 W ∧ RBox W v1.heap.size (.slice ua q uc) o2 m2) ⟨below_pairR v1 _, RBox.pair v1 _ _ _⟩ ?_; intro v4 hp; have HL4 := hide (HL1.out.next hp.1); have HA4 := hide hp.2; have HW4 := hide (HW1.out.below hp.1); have zc0 := HZZ.out _ HL4.out.b; have r0 := HL4.out.r.c0; have r1 := HL4.out.r.c1; have r2 := HL4.out.r.c2; have z0 := HA4.out.c0; have z1 := HA4.out.c1; have z2 := HA4.out.c2; have y5 := HL4.out.y.c5; have y6 := HL4.out.y.c6; have y7 := HL4.out.y.c7; rw [HK5.out] at y5; rw [HK6.out] at y6; rw [HK7.out] at y7; clear hp HL1 HW1) | (refine wpList_store_rg_new rfl (.tmp 5) (.tmp 67) rfl w.heap.size (.slice ua q uc) o2 m2 rfl rfl rfl (.slice va q vc) o2 n2 HL4.out.r (fun W => LV w (.slice ua q uc) k o2 m2 t gx T W) (HL4.out.turn HW4.out HB4.out) ?_; intro v5 hp; have HL5 := hide hp; clear hp r0 r1 r2 z0 z1 z2 y5 y6 y7 HL4 HA4 HW4; have r0 := HL5.out.r.c0; have r1 := HL5.out.r.c1; have r2 := HL5.out.r.c2; have y5 := HL5.out.y.c5; have y6 := HL5.out.y.c6; have y7 := HL5.out.y.c7; rw [HK5.out] at y5; rw [HK6.out] at y6; rw [HK7.out] at y7) | (refine wpList_load_tk rfl (.tmp 11) rfl gx rfl T HTm.out HL5.out.y ?_) | (go_at_call 22; refine (HVF.out ua uc o2 m2 later gx _ _ HL5.out HVV.out).mono ?_; rintro e v6 ⟨rfl, hB⟩; have HL6 := hide (HL5.out.next hB); clear hB r0 r1 r2 y5 y6 y7 HL5))
            go_roundw
            case rel => exact ⟨j + 1, by omega, by go_num, ua, uc, o2, m2, HL6, HM3, HN3⟩
            case measure => simp [intOf]; omega
          by_cases f2 : til ≤ later
          · have HVV := hide (show verS k o2 m2 T later = 9 from by rw [hvv]; rw [if_neg f0, if_pos (.inr f2)])
            have i0 : ¬ (n : Int) < (o2 : Int) := by omega
            have j0 : decide ((n : Int) < (o2 : Int)) = false := by simpa using i0
            have i1 : ¬ (later : Int) < (now : Int) := by omega
            have j1 : decide ((later : Int) < (now : Int)) = false := by simpa using i1
            have i2 : (til : Int) ≤ (later : Int) := by omega
            have j2 : decide ((til : Int) ≤ (later : Int)) = true := by simpa using i2
            clear hvv f0 f1 f2
            have HROT := hide (fun (W : World) (h : LV w (.slice va q vc) k o2 n2 t gx T W) => rotate_ok HMR.out HU.out HM2.out HQ.out (.slice va q vc) W h.s)
            go_wp2_with (first | (go_at_call 18; refine (HROT.out _ HLV.out).mono ?_; rintro e v1 ⟨ua, uc, rfl, hB, hrow⟩; have HB4 := hide HLV.out.r.lt; have HL1 := hide (HLV.out.next hB); have HW1 := hide hrow; clear r0 r1 r2 y5 y6 y7 hB hrow HLV HROT) | (refine wpList_store_rg_new rfl (.tmp 14) (.tmp 52) rfl v1.heap.size (.slice ua q uc) o2 m2 rfl rfl rfl (.slice none 0 0) 0 0 (rbox_zero _) (fun W => Below v1.heap.size v1 W ∧ RBox W v1.heap.size (.slice ua q uc) o2 m2) ⟨below_pairR v1 _, RBox.pair v1 _ _ _⟩ ?_; intro v4 hp; have HL4 := hide (HL1.out.next hp.1); have HA4 := hide hp.2; have HW4 := hide (HW1.out.below hp.1); have zc0 := HZZ.out _ HL4.out.b; have r0 := HL4.out.r.c0; have r1 := HL4.out.r.c1; have r2 := HL4.out.r.c2; have z0 := HA4.out.c0; have z1 := HA4.out.c1; have z2 := HA4.out.c2; have y5 := HL4.out.y.c5; have y6 := HL4.out.y.c6; have y7 := HL4.out.y.c7; rw [HK5.out] at y5; rw [HK6.out] at y6; rw [HK7.out] at y7; clear hp HL1 HW1) | (refine wpList_store_rg_new rfl (.tmp 5) (.tmp 67) rfl w.heap.size (.slice ua q uc) o2 m2 rfl rfl rfl (.slice va q vc) o2 n2 HL4.out.r (fun W => LV w (.slice ua q uc) k o2 m2 t gx T W) (HL4.out.turn HW4.out HB4.out) ?_; intro v5 hp; have HL5 := hide hp; clear hp r0 r1 r2 z0 z1 z2 y5 y6 y7 HL4 HA4 HW4; have r0 := HL5.out.r.c0; have r1 := HL5.out.r.c1; have r2 := HL5.out.r.c2; have y5 := HL5.out.y.c5; have y6 := HL5.out.y.c6; have y7 := HL5.out.y.c7; rw [HK5.out] at y5; rw [HK6.out] at y6; rw [HK7.out] at y7) | (refine wpList_load_tk rfl (.tmp 11) rfl gx rfl T HTm.out HL5.out.y ?_) | (go_at_call 22; refine (HVF.out ua uc o2 m2 later gx _ _ HL5.out HVV.out).mono ?_; rintro e v6 ⟨rfl, hB⟩; have HL6 := hide (HL5.out.next hB); clear hB r0 r1 r2 y5 y6 y7 HL5))
            go_roundw
            case rel => exact ⟨j + 1, by omega, by go_num, ua, uc, o2, m2, HL6, HM3, HN3⟩
            case measure => simp [intOf]; omega
          have HVV := hide (show verS k o2 m2 T later = 0 from by rw [hvv, if_neg f0, if_neg (fun h => h.elim f1 f2)])
          have i0 : ¬ (n : Int) < (o2 : Int) := by omega
          have j0 : decide ((n : Int) < (o2 : Int)) = false := by simpa using i0
          have i1 : ¬ (later : Int) < (now : Int) := by omega
          have j1 : decide ((later : Int) < (now : Int)) = false := by simpa using i1
          have i2 : ¬ (til : Int) ≤ (later : Int) := by omega
          have j2 : decide ((til : Int) ≤ (later : Int)) = false := by simpa using i2
          clear hvv f0 f1 f2
          have HROT := hide (fun (W : World) (h : LV w (.slice va q vc) k o2 n2 t gx T W) => rotate_ok HMR.out HU.out HM2.out HQ.out (.slice va q vc) W h.s)
          go_wp2_with (first | (go_at_call 18; refine (HROT.out _ HLV.out).mono ?_; rintro e v1 ⟨ua, uc, rfl, hB, hrow⟩; have HB4 := hide HLV.out.r.lt; have HL1 := hide (HLV.out.next hB); have HW1 := hide hrow; clear r0 r1 r2 y5 y6 y7 hB hrow HLV HROT) | (refine wpList_store_rg_new rfl (.tmp 14) (.tmp 52) rfl v1.heap.size (.slice ua q uc) o2 m2 rfl rfl rfl (.slice none 0 0) 0 0 (rbox_zero _) (fun W => Below v1.heap.size v1 W ∧ RBox W v1.heap.size (.slice ua q uc) o2 m2) ⟨below_pairR v1 _, RBox.pair v1 _ _ _⟩ ?_; intro v4 hp; have HL4 := hide (HL1.out.next hp.1); have HA4 := hide hp.2; have HW4 := hide (HW1.out.below hp.1); have zc0 := HZZ.out _ HL4.out.b; have r0 := HL4.out.r.c0; have r1 := HL4.out.r.c1; have r2 := HL4.out.r.c2; have z0 := HA4.out.c0; have z1 := HA4.out.c1; have z2 := HA4.out.c2; have y5 := HL4.out.y.c5; have y6 := HL4.out.y.c6; have y7 := HL4.out.y.c7; rw [HK5.out] at y5; rw [HK6.out] at y6; rw [HK7.out] at y7; clear hp HL1 HW1) | (refine wpList_store_rg_new rfl (.tmp 5) (.tmp 67) rfl w.heap.size (.slice ua q uc) o2 m2 rfl rfl rfl (.slice va q vc) o2 n2 HL4.out.r (fun W => LV w (.slice ua q uc) k o2 m2 t gx T W) (HL4.out.turn HW4.out HB4.out) ?_; intro v5 hp; have HL5 := hide hp; clear hp r0 r1 r2 z0 z1 z2 y5 y6 y7 HL4 HA4 HW4; have r0 := HL5.out.r.c0; have r1 := HL5.out.r.c1; have r2 := HL5.out.r.c2; have y5 := HL5.out.y.c5; have y6 := HL5.out.y.c6; have y7 := HL5.out.y.c7; rw [HK5.out] at y5; rw [HK6.out] at y6; rw [HK7.out] at y7) | (refine wpList_load_tk rfl (.tmp 11) rfl gx rfl T HTm.out HL5.out.y ?_) | (go_at_call 22; refine (HVF.out ua uc o2 m2 later gx _ _ HL5.out HVV.out).mono ?_; rintro e v6 ⟨rfl, hB⟩; have HL6 := hide (HL5.out.next hB); clear hB r0 r1 r2 y5 y6 y7 HL5))
          go_roundw
          case rel => exact ⟨j + 1, by omega, by go_num, ua, uc, o2, m2, HL6, HM3, HN3⟩
          case measure => simp [intOf]; omega
        · have HU := tuck (show mayR q o2 m2 = false by simpa using hu)
          clear hu
          have HM3 : Tuck (mayR q o2 n2 = true) := HMR
          have HN3 : Tuck (n ≤ n2) := tuck (by have := HNN.out; omega)
          have hvv := HVS.out o2 n2 later HM3.out HN3.out
          by_cases f0 : n < o2
          · have HVV := hide (show verS k o2 n2 T later = 7 from by rw [hvv]; rw [if_pos f0])
            have i0 : (n : Int) < (o2 : Int) := by omega
            have j0 : decide ((n : Int) < (o2 : Int)) = true := by simpa using i0
            clear hvv f0
            have HROT := hide (fun (W : World) (h : LV w (.slice va q vc) k o2 n2 t gx T W) => rotate_full HMR.out HU.out HM2.out HQ.out (.slice va q vc) W h.s)
            go_wp2_with (first | (go_at_call 18; refine (HROT.out _ HLV.out).mono ?_; rintro e v1 ⟨ua, uc, rfl, hB, hrow⟩; have HB4 := hide HLV.out.r.lt; have HL1 := hide (HLV.out.next hB); have HW1 := hide hrow; clear r0 r1 r2 y5 y6 y7 hB hrow HLV HROT) | (refine wpList_store_rg_new rfl (.tmp 14) (.tmp 52) rfl v1.heap.size (.slice ua 0 uc) 0 0 rfl rfl rfl (.slice none 0 0) 0 0 (rbox_zero _) (fun W => Below v1.heap.size v1 W ∧ RBox W v1.heap.size (.slice ua 0 uc) 0 0) ⟨below_pairR v1 _, RBox.pair v1 _ _ _⟩ ?_; intro v4 hp; have HL4 := hide (HL1.out.next hp.1); have HA4 := hide hp.2; have HW4 := hide (HW1.out.below hp.1); have zc0 := HZZ.out _ HL4.out.b; have r0 := HL4.out.r.c0; have r1 := HL4.out.r.c1; have r2 := HL4.out.r.c2; have z0 := HA4.out.c0; have z1 := HA4.out.c1; have z2 := HA4.out.c2; have y5 := HL4.out.y.c5; have y6 := HL4.out.y.c6; have y7 := HL4.out.y.c7; rw [HK5.out] at y5; rw [HK6.out] at y6; rw [HK7.out] at y7; clear hp HL1 HW1) | (refine wpList_load_tk rfl (.tmp 11) rfl gx rfl T HTm.out HL4.out.y ?_) | (go_at_call 22; refine (HVF.out va vc o2 n2 later gx _ _ HL4.out HVV.out).mono ?_; rintro e v6 ⟨rfl, hB⟩; have HL6 := hide (HL4.out.next hB); clear hB r0 r1 r2 y5 y6 y7 HL4))
            go_roundw
            case rel => exact ⟨j + 1, by omega, by go_num, va, vc, o2, n2, HL6, HM3, HN3⟩
            case measure => simp [intOf]; omega
          by_cases f1 : later < now
          · have HVV := hide (show verS k o2 n2 T later = 9 from by rw [hvv]; rw [if_neg f0, if_pos (.inl f1)])
            have i0 : ¬ (n : Int) < (o2 : Int) := by omega
            have j0 : decide ((n : Int) < (o2 : Int)) = false := by simpa using i0
            have i1 : (later : Int) < (now : Int) := by omega
            have j1 : decide ((later : Int) < (now : Int)) = true := by simpa using i1
            clear hvv f0 f1
            have HROT := hide (fun (W : World) (h : LV w (.slice va q vc) k o2 n2 t gx T W) => rotate_full HMR.out HU.out HM2.out HQ.out (.slice va q vc) W h.s)
            go_wp2_with (first | (go_at_call 18; refine (HROT.out _ HLV.out).mono ?_; rintro e v1 ⟨ua, uc, rfl, hB, hrow⟩; have HB4 := hide HLV.out.r.lt; have HL1 := hide (HLV.out.next hB); have HW1 := hide hrow; clear r0 r1 r2 y5 y6 y7 hB hrow HLV HROT) | (refine wpList_store_rg_new rfl (.tmp 14) (.tmp 52) rfl v1.heap.size (.slice ua 0 uc) 0 0 rfl rfl rfl (.slice none 0 0) 0 0 (rbox_zero _) (fun W => Below v1.heap.size v1 W ∧ RBox W v1.heap.size (.slice ua 0 uc) 0 0) ⟨below_pairR v1 _, RBox.pair v1 _ _ _⟩ ?_; intro v4 hp; have HL4 := hide (HL1.out.next hp.1); have HA4 := hide hp.2; have HW4 := hide (HW1.out.below hp.1); have zc0 := HZZ.out _ HL4.out.b; have r0 := HL4.out.r.c0; have r1 := HL4.out.r.c1; have r2 := HL4.out.r.c2; have z0 := HA4.out.c0; have z1 := HA4.out.c1; have z2 := HA4.out.c2; have y5 := HL4.out.y.c5; have y6 := HL4.out.y.c6; have y7 := HL4.out.y.c7; rw [HK5.out] at y5; rw [HK6.out] at y6; rw [HK7.out] at y7; clear hp HL1 HW1) | (refine wpList_load_tk rfl (.tmp 11) rfl gx rfl T HTm.out HL4.out.y ?_) | (go_at_call 22; refine (HVF.out va vc o2 n2 later gx _ _ HL4.out HVV.out).mono ?_; rintro e v6 ⟨rfl, hB⟩; have HL6 := hide (HL4.out.next hB); clear hB r0 r1 r2 y5 y6 y7 HL4))
            go_roundw
            case rel => exact ⟨j + 1, by omega, by go_num, va, vc, o2, n2, HL6, HM3, HN3⟩
            case measure => simp [intOf]; omega
          by_cases f2 : til ≤ later
          · have HVV := hide (show verS k o2 n2 T later = 9 from by rw [hvv]; rw [if_neg f0, if_pos (.inr f2)])
            have i0 : ¬ (n : Int) < (o2 : Int) := by omega
            have j0 : decide ((n : Int) < (o2 : Int)) = false := by simpa using i0
            have i1 : ¬ (later : Int) < (now : Int) := by omega
            have j1 : decide ((later : Int) < (now : Int)) = false := by simpa using i1
            have i2 : (til : Int) ≤ (later : Int) := by omega
            have j2 : decide ((til : Int) ≤ (later : Int)) = true := by simpa using i2
            clear hvv f0 f1 f2
            have HROT := hide (fun (W : World) (h : LV w (.slice va q vc) k o2 n2 t gx T W) => rotate_full HMR.out HU.out HM2.out HQ.out (.slice va q vc) W h.s)
            go_wp2_with (first | (go_at_call 18; refine (HROT.out _ HLV.out).mono ?_; rintro e v1 ⟨ua, uc, rfl, hB, hrow⟩; have HB4 := hide HLV.out.r.lt; have HL1 := hide (HLV.out.next hB); have HW1 := hide hrow; clear r0 r1 r2 y5 y6 y7 hB hrow HLV HROT) | (refine wpList_store_rg_new rfl (.tmp 14) (.tmp 52) rfl v1.heap.size (.slice ua 0 uc) 0 0 rfl rfl rfl (.slice none 0 0) 0 0 (rbox_zero _) (fun W => Below v1.heap.size v1 W ∧ RBox W v1.heap.size (.slice ua 0 uc) 0 0) ⟨below_pairR v1 _, RBox.pair v1 _ _ _⟩ ?_; intro v4 hp; have HL4 := hide (HL1.out.next hp.1); have HA4 := hide hp.2; have HW4 := hide (HW1.out.below hp.1); have zc0 := HZZ.out _ HL4.out.b; have r0 := HL4.out.r.c0; have r1 := HL4.out.r.c1; have r2 := HL4.out.r.c2; have z0 := HA4.out.c0; have z1 := HA4.out.c1; have z2 := HA4.out.c2; have y5 := HL4.out.y.c5; have y6 := HL4.out.y.c6; have y7 := HL4.out.y.c7; rw [HK5.out] at y5; rw [HK6.out] at y6; rw [HK7.out] at y7; clear hp HL1 HW1) | (refine wpList_load_tk rfl (.tmp 11) rfl gx rfl T HTm.out HL4.out.y ?_) | (go_at_call 22; refine (HVF.out va vc o2 n2 later gx _ _ HL4.out HVV.out).mono ?_; rintro e v6 ⟨rfl, hB⟩; have HL6 := hide (HL4.out.next hB); clear hB r0 r1 r2 y5 y6 y7 HL4))
            go_roundw
            case rel => exact ⟨j + 1, by omega, by go_num, va, vc, o2, n2, HL6, HM3, HN3⟩
            case measure => simp [intOf]; omega
          have HVV := hide (show verS k o2 n2 T later = 0 from by rw [hvv, if_neg f0, if_neg (fun h => h.elim f1 f2)])
          have i0 : ¬ (n : Int) < (o2 : Int) := by omega
          have j0 : decide ((n : Int) < (o2 : Int)) = false := by simpa using i0
          have i1 : ¬ (later : Int) < (now : Int) := by omega
          have j1 : decide ((later : Int) < (now : Int)) = false := by simpa using i1
          have i2 : ¬ (til : Int) ≤ (later : Int) := by omega
          have j2 : decide ((til : Int) ≤ (later : Int)) = false := by simpa using i2
          clear hvv f0 f1 f2
          have HROT := hide (fun (W : World) (h : LV w (.slice va q vc) k o2 n2 t gx T W) => rotate_full HMR.out HU.out HM2.out HQ.out (.slice va q vc) W h.s)
          go_wp2_with (first | (go_at_call 18; refine (HROT.out _ HLV.out).mono ?_; rintro e v1 ⟨ua, uc, rfl, hB, hrow⟩; have HB4 := hide HLV.out.r.lt; have HL1 := hide (HLV.out.next hB); have HW1 := hide hrow; clear r0 r1 r2 y5 y6 y7 hB hrow HLV HROT) | (refine wpList_store_rg_new rfl (.tmp 14) (.tmp 52) rfl v1.heap.size (.slice ua 0 uc) 0 0 rfl rfl rfl (.slice none 0 0) 0 0 (rbox_zero _) (fun W => Below v1.heap.size v1 W ∧ RBox W v1.heap.size (.slice ua 0 uc) 0 0) ⟨below_pairR v1 _, RBox.pair v1 _ _ _⟩ ?_; intro v4 hp; have HL4 := hide (HL1.out.next hp.1); have HA4 := hide hp.2; have HW4 := hide (HW1.out.below hp.1); have zc0 := HZZ.out _ HL4.out.b; have r0 := HL4.out.r.c0; have r1 := HL4.out.r.c1; have r2 := HL4.out.r.c2; have z0 := HA4.out.c0; have z1 := HA4.out.c1; have z2 := HA4.out.c2; have y5 := HL4.out.y.c5; have y6 := HL4.out.y.c6; have y7 := HL4.out.y.c7; rw [HK5.out] at y5; rw [HK6.out] at y6; rw [HK7.out] at y7; clear hp HL1 HW1) | (refine wpList_load_tk rfl (.tmp 11) rfl gx rfl T HTm.out HL4.out.y ?_) | (go_at_call 22; refine (HVF.out va vc o2 n2 later gx _ _ HL4.out HVV.out).mono ?_; rintro e v6 ⟨rfl, hB⟩; have HL6 := hide (HL4.out.next hB); clear hB r0 r1 r2 y5 y6 y7 HL4))
          go_roundw
          case rel => exact ⟨j + 1, by omega, by go_num, va, vc, o2, n2, HL6, HM3, HN3⟩
          case measure => simp [intOf]; omega
    · obtain rfl : j = zl := by omega
      by_cases f0 : n < o2
      · have i0 : (n : Int) < (o2 : Int) := by omega
        have j0 : decide ((n : Int) < (o2 : Int)) = true := by simpa using i0
        clear f0
        go_wp2_with (go_at_call 12; refine (HAW.out _ HLV.out.b).mono ?_; rintro e v1 ⟨rfl, hB⟩; have HL1 := hide (HLV.out.next hB); clear hB r0 r1 r2 y5 y6 y7 HLV)
        go_ret
        exact ⟨rfl, HL1.out.b⟩
      · have i0 : ¬ (n : Int) < (o2 : Int) := by omega
        have j0 : decide ((n : Int) < (o2 : Int)) = false := by simpa using i0
        have HV1 := hide (show verS k o2 n2 T now = 0 from by rw [HVS.out o2 n2 now hm2 HNN.out, if_neg f0, if_neg (by omega)])
        have HV2 := hide (show verS k o2 n2 T til1 = 0 from by rw [HVS.out o2 n2 til1 hm2 HNN.out, if_neg f0, if_neg (by have := HTD.out; omega)])
        have HV3 := hide (show verS k o2 n2 T til = 9 from by rw [HVS.out o2 n2 til hm2 HNN.out, if_neg f0, if_pos (by omega)])
        clear f0
        go_wp2_with (first | (refine wpList_load_tk rfl (.tmp 11) rfl gx rfl T HTm.out HLV.out.y ?_) | (go_at_call 22; refine (HVF.out va vc o2 n2 now gx _ _ HLV.out HV1.out).mono ?_; rintro e v1 ⟨rfl, hB⟩; have HL1 := hide (HLV.out.next hB); clear hB r0 r1 r2 y5 y6 y7 HLV HV1; have r0 := HL1.out.r.c0; have r1 := HL1.out.r.c1; have r2 := HL1.out.r.c2; have y6 := HL1.out.y.c6; rw [HK6.out] at y6) | (refine wpList_load_tk_w (by rfl) (.tmp 11) rfl gx rfl T HTm.out HL1.out.y ?_) | (go_at_call 22; refine (HVF.out va vc o2 n2 til1 gx _ _ HL1.out HV2.out).mono ?_; rintro e v2 ⟨rfl, hB⟩; have HL2 := hide (HL1.out.next hB); clear hB r0 r1 r2 y6 HL1 HV2; have r0 := HL2.out.r.c0; have r1 := HL2.out.r.c1; have r2 := HL2.out.r.c2; have y6 := HL2.out.y.c6; rw [HK6.out] at y6) | (refine wpList_load_tk_w (by rfl) (.tmp 11) rfl gx rfl T HTm.out HL2.out.y ?_) | (go_at_call 22; refine (HVF.out va vc o2 n2 til gx _ _ HL2.out HV3.out).mono ?_; rintro e v3 ⟨rfl, hB⟩; have HL3 := hide (HL2.out.next hB); clear hB r0 r1 r2 y6 HL2 HV3) | (go_at_call 12; refine (HAW.out _ HL3.out.b).mono ?_; rintro e v4 ⟨rfl, hB⟩; have HL4 := hide (HL3.out.next hB); clear hB HL3))
        go_ret
        exact ⟨rfl, HL4.out.b⟩
end Go.Proofs.YtaomigfmjglggaaDoor
