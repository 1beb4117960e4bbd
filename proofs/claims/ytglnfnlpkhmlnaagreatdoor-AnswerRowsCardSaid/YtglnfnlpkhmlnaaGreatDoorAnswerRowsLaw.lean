/- AnswerRows: answers one behind the other are read as these; the simple one has its code and its body. -/
import Derived.Test.YtglnfnlpkhmlnaaGreatDoorAnCon
import Derived.Test.YtglnfnlpkhmlnaaGreatDoorAnSimG
import Derived.Test.YtglnfnlpkhmlnaaGreatDoorAnAwake
import Derived.Deep.RegionWith
namespace Go.Proofs.YtglnfnlpkhmlnaaGreatDoor
open Go.RowKit Go.Lib

theorem infoA : (Tryz.prog.info? 62).map (fun i => (i.zero, i.size, i.bytes)) = some (some (.agg #[.int .i64 0, .slice none 0 0, .slice none 0 0]), 3, 56) := by kernel_rfl
/-- What has come: the bytes, and the answers that they are of. -/
structure AwSt (w : World) (W : World) (bv wv : Value) (ys : List An) (ds : List AV) : Prop where
  bytes : GRow KB W w.heap.size bv ((ys.map rawA).flatMap wrtP)
  want : GRow KA W w.heap.size wv ds
  len : ds.length = ys.length
  reqs : ∀ i (h : i < ds.length) (h' : i < ys.length), AnsAt w ds[i] ys[i]
  may : ∀ y ∈ ys, mayAB y = true
  dis : ∀ k, bv.ownBlock = some k → wv.ownBlock ≠ some k
theorem AwSt.next {w W W' : World} {bv wv : Value} {ys : List An} {ds : List AV} (h : AwSt w W bv wv ys ds) (hb : Below W.heap.size W W') : AwSt w W' bv wv ys ds :=
  ⟨h.bytes.below hb, h.want.below hb, h.len, h.reqs, h.may, h.dis⟩
theorem AwSt.nil (w : World) : AwSt w w (.slice none 0 0) (.slice none 0 0) [] [] :=
  ⟨GRow.nil _ _, GRow.nil _ _, rfl, (fun i h => absurd h (Nat.not_lt_zero _)), (fun y h => by cases h), (fun k h => by cases h)⟩
set_option maxRecDepth 100000 in
theorem ans_len18 {x : An} (h : mayAB x = true) : (wrtP (rawA x)).length ≤ 18000 := by
  have hc : codB x.code = true := by unfold mayAB at h; rw [Bool.and_eq_true] at h; exact h.1
  have hw : (anLine x.code.toNat).length ≤ 578 := (line_cod (c := x.code.toNat) (by rw [code_nat hc]; exact hc)).2.2.1
  obtain ⟨h1, h2, _⟩ := fit_may (mayA_fit h)
  have h3 : (linsH (rawA x).heads).length ≤ 13920 := lins_all h1
  have h4 : (bodS (framP (rawA x).heads).2 (rawA x).body).length ≤ 1624 := by
    have h2' : (rawA x).body.length ≤ 1024 := h2
    have h5 := (hexS_size h2').2.2
    unfold bodS
    split
    · split
      · simp
      · simp only [List.length_append, List.length_cons, List.length_nil]
        omega
    · omega
  have h6 : (rawA x).start.length ≤ 578 := hw
  unfold wrtP
  simp only [List.length_append, List.length_cons]
  omega
theorem arows_len {ys : List An} (h : ∀ y ∈ ys, mayAB y = true) : ((ys.map rawA).flatMap wrtP).length ≤ ys.length * 18000 := by
  induction ys with
  | nil => exact Nat.zero_le _
  | cons y ys ih =>
    have h1 := ans_len18 (h y (List.mem_cons_self ..))
    have h2 := ih fun z hz => h z (List.mem_cons_of_mem _ hz)
    simp only [List.map_cons, List.flatMap_cons, List.length_append, List.length_cons]
    omega
/-- What the end goes through. -/
structure AwT (w : World) (W : World) (bv wv : Value) (ys : List An) (ds : List AV) : Prop where
  bytes : GRow KB W w.heap.size bv ((ys.map rawA).flatMap wrtP)
  want : GRow KA W w.heap.size wv ds
  len : ds.length = ys.length
  reqs : ∀ i (h : i < ds.length) (h' : i < ys.length), AnsAt W ds[i] ys[i]
  may : ∀ y ∈ ys, mayAB y = true
theorem AwSt.fin {w W : World} {bv wv : Value} {ys : List An} {ds : List AV} (h : AwSt w W bv wv ys ds) (hb : Below w.heap.size w W) : AwT w W bv wv ys ds :=
  ⟨h.bytes, h.want, h.len, (fun i h1 h2 => (h.reqs i h1 h2).below hb), h.may⟩
/-- One more: the two appends, and what stands behind them. -/
theorem AwSt.put {w W : World} {bv wv : Value} {ys : List An} {ds : List AV} (h : AwSt w W bv wv ys ds) (hbw : w.heap.size ≤ W.heap.size) (hn : ys.length ≤ 10) {y : An} (hy : mayAB y = true) (c : AV) {r : Value} (hr : GAt KB W r (wrtP (rawA y))) :
    ∃ v1 w1 v2 w2, (Builtin.append_ #[22, 22] 22 #[bv, r]).run Tryz.prog W = .ok v1 w1 ∧
      (Builtin.append_ #[78, 78] 78 #[wv, .slice (some ⟨w1.heap.size, 0, none⟩) 1 1]).run Tryz.prog (w1.alloc (.cells (KA.cells c).toArray 62)) = .ok v2 w2 ∧
      GRow KB w2 w.heap.size v1 (((ys ++ [y]).map rawA).flatMap wrtP) ∧ GRow KA w2 w.heap.size v2 (ds ++ [c]) ∧ (∀ k, v1.ownBlock = some k → v2.ownBlock ≠ some k) ∧ Below w.heap.size W w2 ∧ Below w.heap.size W w1 ∧ (∀ g, g < W.heap.size → bv.ownBlock ≠ some g → w1.heap[g]? = W.heap[g]?) ∧
      (∀ (x : An), AnsAt W c x → (∀ k, (c.h.v.ownBlock = some k ∨ c.b.v.ownBlock = some k) → bv.ownBlock ≠ some k ∧ wv.ownBlock ≠ some k) → AnsAt w2 c x) := by
  have hm : (1000000 : Nat) ≤ maxLen := by decide
  have hl := arows_len h.may
  have hyl := ans_len hy
  obtain ⟨v1, w1, q1, r1, k1, o1⟩ := append_g (K := KB) (P := Tryz.prog) 22 (.int .u8 0) 1 Tryz.underlying22 infoB rfl W w.heap.size bv _ h.bytes r _ hr (by omega) (by omega) hbw
  have b1 : Below w.heap.size W w1 := k1.below (fun k hk => h.bytes.ge hk) hbw
  have hw1 := h.want.keep k1 (fun k hk hb => h.dis k hb hk)
  have ba := (Below.refl w1.heap.size w1).alloc (Nat.le_refl _) (.cells (KA.cells c).toArray 62)
  have hz : (w1.alloc (.cells (KA.cells c).toArray 62)).heap.size = w1.heap.size + 1 := World.size_alloc _ _
  have hz1 := b1.size
  have hdl := h.len
  obtain ⟨v2, w2, q2, r2, k2, o2⟩ := append_g (K := KA) (P := Tryz.prog) 78 _ 56 Tryz.underlying78 infoA rfl (w1.alloc (.cells (KA.cells c).toArray 62)) w.heap.size wv ds (hw1.below ba) (.slice (some ⟨w1.heap.size, 0, none⟩) 1 1) [c] (GAt.box _ _ c (0, 0) (heap_alloc_new w1 _) 1 (Nat.le_refl _)) (by simp; omega) (by simp; omega) (by omega)
  have hd1 : ∀ k, v1.ownBlock = some k → wv.ownBlock ≠ some k := fun k hk hw => by
    rcases o1 with e | e
    · exact h.dis k (e ▸ hk) hw
    · rw [e] at hk
      injection hk with hk
      have := h.want.lt hw
      omega
  refine ⟨v1, w1, v2, w2, q1, q2, ?_, r2, ?_, ?_, b1, (fun g hg hne => k1.block g hg hne), ?_⟩
  · have hb := (r1.below ba).keep k2 (fun k hk hw => hd1 k hk hw)
    rw [List.map_append, List.flatMap_append]
    simpa using hb
  · intro k hk hw
    rcases o2 with e | e
    · exact hd1 k hk (e ▸ hw)
    · rw [e] at hw
      injection hw with hw
      have := r1.lt hk
      omega
  · exact (b1.trans (ba.mono (by omega))).trans (k2.below (fun k hk => h.want.ge hk) (by omega))
  · intro x hx hfar
    have h1 : AnsAt w1 c x := ⟨hx.1, hx.2.1.keep k1 (fun k hk hb => (hfar k (.inl hk)).1 hb), hx.2.2.keep k1 (fun k hk hb => (hfar k (.inr hk)).1 hb)⟩
    have h2 := h1.below ba
    exact ⟨h2.1, h2.2.1.keep k2 (fun k hk hb => (hfar k (.inl hk)).2 hb), h2.2.2.keep k2 (fun k hk hb => (hfar k (.inr hk)).2 hb)⟩
theorem asim_noR {c : Int} {s : ByteArray} (hs : s.size ≤ 9999) (hm : mayAB (simA c s.data.toList) = false) (w : World) (ht : (Env w ∧ EnvS w) ∧ EnvT w) : Calls Tryz.prog 46 #[.int .i64 c, .string s] w (fun e w' => (∃ (c : Int) (ha : Option Addr) (hn hc : Nat) (ba : Option Addr) (bn bc : Nat), e = .returned (.tuple #[.agg #[.int .i64 c, .slice ha hn hc, .slice ba bn bc], .int .i64 1]) ∧ AnsAt w' ⟨c, ⟨ha, hn, hc⟩, ⟨ba, bn, bc⟩⟩ an0) ∧ Below w.heap.size w w') := by
  have k := asimG_any c s hs w ht
  unfold ASiPostG at k
  rw [hm, if_neg Bool.false_ne_true, if_neg Bool.false_ne_true] at k
  refine k.mono ?_
  rintro e w' ⟨⟨c, ha, hn, hc, ba, bn, bc, h1, h2, _⟩, hB⟩
  exact ⟨⟨c, ha, hn, hc, ba, bn, bc, h1, h2⟩, hB⟩
theorem asim_okC2 {c : Int} {s : ByteArray} (hs : s.size ≤ 9999) (hm : mayAB (simA c s.data.toList) = true) (w : World) (ht : (Env w ∧ EnvS w) ∧ EnvT w) : Calls Tryz.prog 46 #[.int .i64 c, .string s] w (fun e w' => (∃ (k : Int) (ha : Option Addr) (hn hc : Nat) (ba : Option Addr) (bn bc : Nat), e = .returned (.tuple #[.agg #[.int .i64 k, .slice ha hn hc, .slice ba bn bc], .int .i64 0]) ∧ AnsAt w' ⟨k, ⟨ha, hn, hc⟩, ⟨ba, bn, bc⟩⟩ (simA c s.data.toList) ∧ AnsGe w.heap.size ⟨k, ⟨ha, hn, hc⟩, ⟨ba, bn, bc⟩⟩) ∧ Below w.heap.size w w') := by
  have k := asimG_any c s hs w ht
  unfold ASiPostG at k
  rw [hm, if_pos rfl, if_pos rfl] at k
  exact k
theorem mem_snoc_may {ys : List An} {y : An} (h : ∀ y ∈ ys, mayAB y = true) (hy : mayAB y = true) : ∀ z ∈ ys ++ [y], mayAB z = true := fun z hz => by
  rcases List.mem_append.1 hz with hz | hz
  · exact h z hz
  · rw [List.mem_singleton.1 hz]; exact hy
theorem reqs_snoc {W : World} {ys : List An} {ds : List AV} {c : AV} {y : An} (hl : ds.length = ys.length) (h : ∀ i (h : i < ds.length) (h' : i < ys.length), AnsAt W ds[i] ys[i]) (hc : AnsAt W c y) : ∀ i (h : i < (ds ++ [c]).length) (h' : i < (ys ++ [y]).length), AnsAt W (ds ++ [c])[i] (ys ++ [y])[i] := by
  intro i hi hi'
  rw [List.length_append, List.length_singleton] at hi
  rcases Nat.lt_or_ge i ds.length with h1 | h1
  · rw [List.getElem_append_left h1, List.getElem_append_left (by omega)]
    exact h i h1 (by omega)
  · obtain rfl : i = ds.length := by omega
    rw [List.getElem_append_right (Nat.le_refl _), List.getElem_append_right (by omega)]
    simp only [Nat.sub_self, hl, List.getElem_singleton]
    exact hc
theorem AwT.get {w W : World} {bv wv : Value} {ys : List An} {ds : List AV} (h : AwT w W bv wv ys ds) {k : Nat} (hk : k < ds.length) : AnsAt W (ds.getD k av0) (ys.getD k an0) := by
  have hk' : k < ys.length := by rw [← h.len]; exact hk
  rw [show ds.getD k av0 = ds[k] by simp [List.getD, hk], show ys.getD k an0 = ys[k] by simp [List.getD, hk']]
  exact h.reqs k hk hk'
theorem arows_may {l : List An} (h : ∀ r ∈ l, mayAB r = true) : rowP ((l.map rawA).flatMap wrtP) = (l.map rawA, true, 0) := row_rows _ fun x hx => by
  obtain ⟨r, hr, rfl⟩ := List.mem_map.1 hx
  exact mayA_wrt (h r hr)
set_option maxRecDepth 100000 in
set_option maxHeartbeats 8000000 in
theorem arow_walk (v : Value) (l : List AV) (cc : Int) (s : ByteArray) (w : World) (gv : GAt KA w v l) (hok : ∀ c ∈ l, AnsOk w c) (ht : (Env w ∧ EnvS w) ∧ EnvT w) :
    Calls Tryz.prog 11 #[v, .int .i64 cc, .string s] w fun e w' => e = .returned (.bool true) ∧ Below w.heap.size w w' := by
  have HT := hideL (fun (W : World) (hb : Below w.heap.size w W) => (⟨⟨ht.1.1.next hb, ht.1.2.next hb⟩, ht.2.next hb⟩ : (Env W ∧ EnvS W) ∧ EnvT W))
  have LA := hideL (fun (W : World) (hb : Below w.heap.size w W) => awakeA_any W (HT.out W hb))
  have HB0 := hideL (Below.refl w.heap.size w)
  obtain ⟨vo, vc, rfl⟩ := gv.len
  by_cases hl : 10 < l.length
  · have i1 : (10 : Int) < (l.length : Int) := by omega
    generalize l.length = n at *
    clear hl gv hok ht
    go_enter Tryz.func11, Tryz.ntmps11
    go_wp2_with (go_at_call 33; refine (LA.out _ HB0.out).mono ?_; rintro e w9 ⟨rfl, hB⟩; have HB9 := hideL (HB0.out.trans (hB.mono HB0.out.size)); clear hB)
    go_ret
    exact ⟨rfl, HB9.out⟩
  have i1 : ¬ (10 : Int) < (l.length : Int) := by omega
  by_cases hs : 3000 < s.size
  · have i2 : (3000 : Int) < (s.size : Int) := by omega
    generalize l.length = n at *
    clear hl gv hok ht hs
    go_enter Tryz.func11, Tryz.ntmps11
    go_wp2_with (go_at_call 33; refine (LA.out _ HB0.out).mono ?_; rintro e w9 ⟨rfl, hB⟩; have HB9 := hideL (HB0.out.trans (hB.mono HB0.out.size)); clear hB)
    go_ret
    exact ⟨rfl, HB9.out⟩
  have i2 : ¬ (3000 : Int) < (s.size : Int) := by omega
  have HV := hideL gv
  have HOK := hideL hok
  obtain ⟨n, hn⟩ : ∃ n, l.length = n := ⟨_, rfl⟩
  rw [hn] at HV i1 ⊢
  have HN := hideL hn
  have HSS := hideL (show s.size ≤ 9999 by omega)
  have hn10 : n ≤ 10 := by omega
  have H0 := hideL (AwSt.nil w)
  clear hl gv hok ht hn hs
  go_enter Tryz.func11, Tryz.ntmps11
  go_wp2_with fail
  go_loopw [7, 8, 9] (fun bv wv i wr => ∃ (k : Nat) (ys : List An) (ds : List AV) (bv' wv' : Value), k ≤ n ∧ i = .int .i64 k ∧ bv' = bv ∧ wv' = wv ∧ ys.length ≤ k ∧ HidL (AwSt w wr bv wv ys ds) ∧ HidL (Below w.heap.size w wr)) (fun _ _ i _ => n - (RowKit.intOf i).toNat)
  case atStart => exact ⟨0, [], [], _, _, Nat.zero_le _, rfl, rfl, rfl, Nat.zero_le _, H0, HB0⟩
  case round =>
    obtain ⟨k, ys, ds, bv, wv, hk, rfl, rfl, rfl, hys, HS, HB⟩ := hrel
    clear H0 HB0
    obtain ⟨W, rfl⟩ : ∃ W, W = wr := ⟨_, rfl⟩
    by_cases hlt : k < n
    · have hlt' : (k : Int) < (n : Int) := by omega
      obtain ⟨b1, o1, e1, l1, c1⟩ := HV.out.at (k := k) hlt
      subst e1
      have hkl : k < l.length := by rw [HN.out]; exact hlt
      have hcok := HOK.out (l.getD k KA.dft) (by rw [show l.getD k KA.dft = l[k] by simp [List.getD, hkl]]; exact List.getElem_mem hkl)
      generalize l.getD k KA.dft = c at c1 hcok
      obtain ⟨kc, ⟨ha, hn, hc⟩, ⟨ba, bn, bc⟩⟩ := c
      obtain ⟨x, hreq, _⟩ := hcok
      have d0 : W.cell? ⟨b1, o1 + k * 3, none⟩ = some (.int .i64 kc) := (HB.out.cell (p := ⟨b1, o1 + k * 3, none⟩) l1).trans (c1 0 (by decide))
      have d1 : W.cell? ⟨b1, o1 + k * 3 + 1, none⟩ = some (.slice ha hn hc) := (HB.out.cell (p := ⟨b1, o1 + k * 3 + 1, none⟩) l1).trans (c1 1 (by decide))
      have d2 : W.cell? ⟨b1, o1 + k * 3 + 2, none⟩ = some (.slice ba bn bc) := (HB.out.cell (p := ⟨b1, o1 + k * 3 + 2, none⟩) l1).trans (c1 2 (by decide))
      have LL := along_any kc ha hn hc ba bn bc x.heads W (hreq.2.1.below HB.out)
      have L1 := hideL l1
      have C1 := hideL c1
      cases hlg : lngA bn x.heads with
      | true =>
        rw [hlg] at LL
        have LL := hideL LL
        clear c1 l1 hkl hreq hlg
        go_wp2_with (first
          | (go_at_call 32; refine LL.out.mono ?_; rintro e w3 ⟨rfl, hB⟩; have HB3 := hideL (HB.out.trans (hB.mono HB.out.size)); have HS3 := hideL (HS.out.next hB); have f0 : w3.cell? ⟨b1, o1 + k * 3, none⟩ = some (.int .i64 kc) := (HB3.out.cell (p := ⟨b1, o1 + k * 3, none⟩) L1.out).trans (C1.out 0 (by decide)); have f1 : w3.cell? ⟨b1, o1 + k * 3 + 1, none⟩ = some (.slice ha hn hc) := (HB3.out.cell (p := ⟨b1, o1 + k * 3 + 1, none⟩) L1.out).trans (C1.out 1 (by decide)); have f2 : w3.cell? ⟨b1, o1 + k * 3 + 2, none⟩ = some (.slice ba bn bc) := (HB3.out.cell (p := ⟨b1, o1 + k * 3 + 2, none⟩) L1.out).trans (C1.out 2 (by decide)); clear hB)
          | (go_at_call 33; refine (LA.out _ HB3.out).mono ?_; rintro e w9 ⟨rfl, hB⟩; have HB9 := hideL (HB3.out.trans (hB.mono HB3.out.size)); clear hB))
        go_ret
        exact ⟨rfl, HB9.out⟩
      | false =>
        rw [hlg] at LL
        obtain ⟨hl2, hl3⟩ := lngA_no hlg
        have hl4 := (longP_no hl3).1
        have LL := hideL LL
        have HREQ := hideL hreq
        cases hm : mayAB x with
        | true =>
          have LB := hideL (fun (W : World) (hb : Below w.heap.size w W) => abyt_okC hm kc ha hn hc ba bn bc W (hreq.below hb) (HT.out W hb).1.1 (HT.out W hb).2)
          have HM := hideL hm
          clear c1 l1 hkl hreq hlg hl2 hl3 hl4 hm
          go_wp2_with (first
            | (go_at_call 32; refine LL.out.mono ?_; rintro e w3 ⟨rfl, hB⟩; have HB3 := hideL (HB.out.trans (hB.mono HB.out.size)); have HS3 := hideL (HS.out.next hB); have f0 : w3.cell? ⟨b1, o1 + k * 3, none⟩ = some (.int .i64 kc) := (HB3.out.cell (p := ⟨b1, o1 + k * 3, none⟩) L1.out).trans (C1.out 0 (by decide)); have f1 : w3.cell? ⟨b1, o1 + k * 3 + 1, none⟩ = some (.slice ha hn hc) := (HB3.out.cell (p := ⟨b1, o1 + k * 3 + 1, none⟩) L1.out).trans (C1.out 1 (by decide)); have f2 : w3.cell? ⟨b1, o1 + k * 3 + 2, none⟩ = some (.slice ba bn bc) := (HB3.out.cell (p := ⟨b1, o1 + k * 3 + 2, none⟩) L1.out).trans (C1.out 2 (by decide)); clear hB)
            | (go_at_call 40; refine (LB.out _ HB3.out).mono ?_; rintro e w4 ⟨⟨r, rn, rc, rfl, hbr⟩, hB⟩
               have hbw := HB3.out.trans (hB.mono HB3.out.size)
               obtain ⟨v1, w5, v2, w6, q1, q2, s1, s2, s3, hb6, hb51, _, _⟩ := (HS3.out.next hB).put hbw.size (Nat.le_trans hys (Nat.le_trans hk hn10)) HM.out ⟨kc, ⟨ha, hn, hc⟩, ⟨ba, bn, bc⟩⟩ hbr
               have hb5 := hbw.trans hb6
               have Q1 := hideL q1
               have Q2 := hideL q2
               have HST : HidL (AwSt w w6 v1 v2 (ys ++ [x]) (ds ++ [⟨kc, ⟨ha, hn, hc⟩, ⟨ba, bn, bc⟩⟩])) := ⟨⟨s1, s2, by rw [List.length_append, List.length_append, HS.out.len]; rfl, reqs_snoc HS.out.len HS.out.reqs HREQ.out, mem_snoc_may HS.out.may HM.out, s3⟩⟩
               have HB6 := hideL hb5
               have hb5w := hbw.trans hb51
               have f0 : w5.cell? ⟨b1, o1 + k * 3, none⟩ = some (.int .i64 kc) := (hb5w.cell (p := ⟨b1, o1 + k * 3, none⟩) L1.out).trans (C1.out 0 (by decide))
               have f1 : w5.cell? ⟨b1, o1 + k * 3 + 1, none⟩ = some (.slice ha hn hc) := (hb5w.cell (p := ⟨b1, o1 + k * 3 + 1, none⟩) L1.out).trans (C1.out 1 (by decide))
               have f2 : w5.cell? ⟨b1, o1 + k * 3 + 2, none⟩ = some (.slice ba bn bc) := (hb5w.cell (p := ⟨b1, o1 + k * 3 + 2, none⟩) L1.out).trans (C1.out 2 (by decide))
               clear hB hbw q1 q2 s1 s2 s3 hb6 hb5 hb5w hb51 hbr)
            | (at_builtin; refine wpList_append_runP rfl (.tmp 52) (.tmp 53) 22 22 22 rfl rfl _ _ v1 w5 rfl rfl Q1.out ?_)
            | (at_builtin; refine wpList_append_runP rfl (.tmp 55) (.tmp 60) 78 78 78 rfl rfl _ _ v2 w6 rfl rfl Q2.out ?_))
          go_roundw
          case rel => exact ⟨k + 1, ys ++ [x], ds ++ [⟨kc, ⟨ha, hn, hc⟩, ⟨ba, bn, bc⟩⟩], _, _, by omega, by go_num, rfl, rfl, by rw [List.length_append, List.length_singleton]; omega, HST, HB6⟩
          case measure => simp [RowKit.intOf]; omega
        | false =>
          have LB := hideL (fun (W : World) (hb : Below w.heap.size w W) => abyt_noC hm kc ha hn hc ba bn bc W (hreq.below hb) (longP_fits hl3) (by omega) (HT.out W hb).1.1 (HT.out W hb).2)
          clear c1 l1 hkl hreq hlg hl2 hl3 hl4 hm
          go_wp2_with (first
            | (go_at_call 32; refine LL.out.mono ?_; rintro e w3 ⟨rfl, hB⟩; have HB3 := hideL (HB.out.trans (hB.mono HB.out.size)); have HS3 := hideL (HS.out.next hB); have f0 : w3.cell? ⟨b1, o1 + k * 3, none⟩ = some (.int .i64 kc) := (HB3.out.cell (p := ⟨b1, o1 + k * 3, none⟩) L1.out).trans (C1.out 0 (by decide)); have f1 : w3.cell? ⟨b1, o1 + k * 3 + 1, none⟩ = some (.slice ha hn hc) := (HB3.out.cell (p := ⟨b1, o1 + k * 3 + 1, none⟩) L1.out).trans (C1.out 1 (by decide)); have f2 : w3.cell? ⟨b1, o1 + k * 3 + 2, none⟩ = some (.slice ba bn bc) := (HB3.out.cell (p := ⟨b1, o1 + k * 3 + 2, none⟩) L1.out).trans (C1.out 2 (by decide)); clear hB)
            | (go_at_call 40; refine (LB.out _ HB3.out).mono ?_; rintro e w4 ⟨⟨r, rn, rc, rfl, _⟩, hB⟩
               have HS4 := hideL (HS3.out.next hB)
               have HB4 := hideL (HB3.out.trans (hB.mono HB3.out.size))
               clear hB))
          go_roundw
          case rel => exact ⟨k + 1, ys, ds, _, _, by omega, by go_num, rfl, rfl, by omega, HS4, HB4⟩
          case measure => simp [RowKit.intOf]; omega
    · obtain rfl : k = n := by omega
      have hlt' : ¬ (k : Int) < (k : Int) := by omega
      have HYS := hideL (Nat.le_trans hys hn10)
      cases hm : mayAB (simA cc s.data.toList) with
      | false =>
        have LS0 := hideL (asim_noR HSS.out hm W (HT.out W HB.out))
        have H5 := HS
        have HB5 := HB
        clear hm HS HB
        go_wp2_with (first
          | (go_at_call 46; (refine LS0.out.mono ?_); rintro e w4 ⟨⟨kc, ha, hn, hc, ba, bn, bc, rfl, _⟩, hB⟩
             have hz2 := (Below.refl w4.heap.size w4).alloc (Nat.le_refl _) (anC kc (.slice ha hn hc) (.slice ba bn bc))
             have hz3 := hB.trans (hz2.mono hB.size)
             have HB := hideL (HB5.out.trans (hz3.mono HB5.out.size))
             obtain ⟨ys2, ds2, hl11, HS⟩ : ∃ ys2 ds2, ys2.length ≤ 11 ∧ HidL (AwT w (w4.alloc (anC kc (.slice ha hn hc) (.slice ba bn bc))) bv wv ys2 ds2) := ⟨ys, ds, Nat.le_trans HYS.out (by decide), ⟨(H5.out.next hz3).fin HB.out⟩⟩
             have hrm := arows_may HS.out.may
             have hE0 : rawE ((ys2.map rawA).flatMap wrtP) = 0 := by unfold rawE; rw [hrm]; rfl
             have hL0 : rawL ((ys2.map rawA).flatMap wrtP) = ys2.map rawA := by unfold rawL; rw [hrm]; rfl
             have hrl := arows_len HS.out.may
             have LR := raws_any _ _ _ HS.out.bytes.gAt (by omega) (HT.out _ HB.out).1.1 (HT.out _ HB.out).1.2
             rw [hE0, hL0, show ((0 : Nat) : Int) = 0 from rfl] at LR
             obtain ⟨wa, wc, hwv⟩ := HS.out.want.gAt.len
             subst hwv
             have LR := hideL LR
             have hN : (ys2.map rawA).length = ds2.length := by rw [List.length_map, HS.out.len]
             obtain ⟨N, hNe⟩ : ∃ N, ds2.length = N := ⟨_, rfl⟩
             have HWANT := hideL HS.out.want.gAt
             rw [hNe] at hN HWANT ⊢
             have HDN := hideL hNe
             have hN11 : N ≤ 11 := by have := HS.out.len; omega
             have hne : (((ys2.map rawA).length : Int) != (N : Int)) = false := by rw [hN]; simp
             clear hrm hE0 hL0 hrl hNe
             clear hB hz2 hz3 H5 HB5)
          | (go_at_call 17; (refine LR.out.mono ?_); rintro e w2 ⟨⟨xa, xn, xc⟩, rfl, hraw, hB⟩
             obtain ⟨xa', xc', hxe⟩ := hraw.at.len
             simp only [Sl.v] at hxe
             injection hxe with hx1 hx2 hx3
             subst hx1 hx3
             rw [hN] at hx2
             subst hx2
             simp only [Sl.v] at hraw ⊢
             have HRAW := hideL hraw
             have HB2 := hideL (HB.out.trans (hB.mono HB.out.size))
             have HBR := hideL hB
             have HW2 := hideL (HWANT.out.below hB)
             clear hB hraw hN))
        clear hne
        go_loopw [18] (fun i wr => ∃ j : Nat, j ≤ xn ∧ i = .int .i64 j ∧ HidL (Below w2.heap.size w2 wr)) (fun i _ => xn - (RowKit.intOf i).toNat)
        case atStart => exact ⟨0, Nat.zero_le _, rfl, ⟨Below.refl _ _⟩⟩
        case round =>
          obtain ⟨j, hj, rfl, HBW⟩ := hrel
          obtain ⟨V, rfl⟩ : ∃ W, W = wr := ⟨_, rfl⟩
          have hbv : Below w.heap.size w V := HB2.out.trans (HBW.out.mono HB2.out.size)
          by_cases hjl : j < xn
          · have hjl' : (j : Int) < (xn : Int) := by omega
            have hjd : j < ds2.length := by rw [HDN.out]; exact hjl
            have hjy : j < ys2.length := by rw [← HS.out.len]; exact hjd
            obtain ⟨b1, o1, ⟨rs, ⟨ra, rn, rc⟩, ⟨sa, sn, sc⟩⟩, rfl, l1, d0, d1, d2, hra⟩ := HRAW.out.at.at (k := j) hjl
            simp only [Sl.v] at d0 d1 d2
            obtain ⟨b3, o3, e3, l2, cc⟩ := HW2.out.at (k := j) hjl
            subst e3
            have hreq := HS.out.get hjd
            have hmay : mayAB (ys2.getD j an0) = true := by
              rw [show ys2.getD j an0 = ys2[j] by simp [List.getD, hjy]]
              exact HS.out.may _ (List.getElem_mem hjy)
            have hrw : (ys2.map rawA).getD j ⟨[], [], []⟩ = rawA (ys2.getD j an0) := by simp [List.getD, hjy]
            rw [hrw] at hra
            rw [show ds2.getD j KA.dft = ds2.getD j av0 from rfl] at cc
            generalize ys2.getD j an0 = y at hra hreq hmay
            generalize ds2.getD j av0 = cv at cc hreq
            obtain ⟨kc, ⟨ha, hn, hc⟩, ⟨ba, bn, bc⟩⟩ := cv
            have e0 := (HBW.out.cell (p := ⟨b1, o1 + j * 3, none⟩) l1).trans d0
            have e1 := (HBW.out.cell (p := ⟨b1, o1 + j * 3 + 1, none⟩) l1).trans d1
            have e2 := (HBW.out.cell (p := ⟨b1, o1 + j * 3 + 2, none⟩) l1).trans d2
            have hfm := (fit_may (mayA_fit hmay)).1
            have hwp := (wrtB_parts (mayA_wrt hmay)).1.2
            have hhl := mayH_len hfm
            have hbl := (fit_may (mayA_fit hmay)).2.1
            have LO := aof_any rs ra rn rc sa sn sc (rawA y) V (hra.below HBW.out) (good_fits hfm) (by rw [← size_list, hra.1]; omega) (show y.heads.length ≤ 1000 by omega) (show y.body.length ≤ 1000000 by omega) (HT.out V hbv)
            unfold AOfPost at LO
            rw [ofA_raw hmay] at LO
            have LO := hideL LO
            have HL := hideL (show y.heads.length ≤ 1000 by omega)
            have HREQ := hideL (hreq.below HBR.out)
            have HBV := hideL hbv
            have L2 := hideL l2
            have CC := hideL cc
            clear d0 d1 d2 l1 l2 cc hra hrw hreq hmay hfm hwp hhl hbl hbv hjd hjy
            go_wp2_with (first
              | (go_at_call 42; refine LO.out.mono ?_; rintro e w6 ⟨⟨c2, ha2, hn2, hc2, ba2, bn2, bc2, rfl, hreq2, _⟩, hB⟩
                 have hz2 := (Below.refl w6.heap.size w6).alloc (Nat.le_refl _) (anC c2 (.slice ha2 hn2 hc2) (.slice ba2 bn2 bc2))
                 have hz3 := hB.trans (hz2.mono hB.size)
                 have HX6 := hideL (ABox.new w6 c2 (.slice ha2 hn2 hc2) (.slice ba2 bn2 bc2))
                 have HBX := hideL (HBW.out.trans (hz3.mono HBW.out.size))
                 have HBY := hideL (HBV.out.trans (hz3.mono HBV.out.size))
                 have hdr := (Below.refl (w6.alloc (anC c2 (.slice ha2 hn2 hc2) (.slice ba2 bn2 bc2))).heap.size (w6.alloc (anC c2 (.slice ha2 hn2 hc2) (.slice ba2 bn2 bc2)))).drew
                 have HBXd := hideL HBX.out.drew
                 have HXd := hideL (HX6.out.next hdr)
                 have LS := hideL (rsameA c2 kc ha2 hn2 hc2 ba2 bn2 bc2 ha hn hc ba bn bc y y (w6.alloc (anC c2 (.slice ha2 hn2 hc2) (.slice ba2 bn2 bc2))).drew ((hreq2.below hz2).below hdr) (HREQ.out.below (HBX.out.drew)) HL.out)
                 clear hB hz2 hz3 hdr hreq2))
            refine wp_region_held_drew (S := fun w' => Below w2.heap.size w2 w' ∧ ABox w' w6.heap.size c2 (.slice ha2 hn2 hc2) (.slice ba2 bn2 bc2)) (by kernel_rfl) ⟨HBXd.out, HXd.out⟩ (fun hHeld => ?_)
            refine wpAnyH_take (i := 0) (oi := { dst := some 125, op := Op.move (Operand.tmp 20), type := 28, pos := "rows.go:41", after := #[], guard := none }) (v := ?_) rfl (by kernel_rfl) (by kernel_rfl) (by kernel_rfl) (fun _ _ _ h => h) (Or.inl ⟨by rfl, ?_⟩) hHeld ?_
            rotate_left
            · intro w hSw; (try dsimp only at hSw); go_simp; first | done | with_reducible rfl
            try simp only [Act.put, List.setIfInBounds_toArray, List.set_cons_zero, List.set_cons_succ]
            refine wpAnyH_take (i := 1) (oi := { dst := some 126, op := Op.binOp BinOp.neq 28 (Operand.tmp 125) (Operand.const (Value.int IntKind.i64 0)) 28, type := 4, pos := "rows.go:41", after := #[{ on := 0, ground := Ground.data }], guard := none }) (v := ?_) rfl (by kernel_rfl) (by kernel_rfl) (by kernel_rfl) (fun _ _ _ h => h) (Or.inl ⟨by rfl, ?_⟩) hHeld ?_
            rotate_left
            · intro w hSw; (try dsimp only at hSw); go_simp; first | done | with_reducible rfl
            try simp only [Act.put, List.setIfInBounds_toArray, List.set_cons_zero, List.set_cons_succ]
            refine wpAnyH_take (i := 2) (oi := { dst := some 127, op := Op.move (Operand.tmp 126), type := 4, pos := "rows.go:41", after := #[{ on := 1, ground := Ground.data }], guard := none }) (v := ?_) rfl (by kernel_rfl) (by kernel_rfl) (by kernel_rfl) (fun _ _ _ h => h) (Or.inl ⟨by rfl, ?_⟩) hHeld ?_
            rotate_left
            · intro w hSw; (try dsimp only at hSw); go_simp; first | done | with_reducible rfl
            try simp only [Act.put, List.setIfInBounds_toArray, List.set_cons_zero, List.set_cons_succ]
            refine wpAnyH_take (i := 3) (oi := { dst := some 128, op := Op.load 62 (Operand.tmp 19), type := 62, pos := "rows.go:41", after := #[{ on := 2, ground := Ground.guard }], guard := some (2, false) }) (v := ?_) rfl (by kernel_rfl) (by kernel_rfl) (by kernel_rfl) (fun _ _ _ h => h) (Or.inl ⟨by rfl, ?_⟩) hHeld ?_
            rotate_left
            · intro w hSw; (try dsimp only at hSw); have e0 : World.cell? _ ⟨b3, o3 + j * 3, none⟩ = some (.int .i64 kc) := (hSw.1.cell (p := ⟨b3, o3 + j * 3, none⟩) L2.out).trans (CC.out 0 (by decide)); have e1 : World.cell? _ ⟨b3, o3 + j * 3 + 1, none⟩ = some (.slice ha hn hc) := (hSw.1.cell (p := ⟨b3, o3 + j * 3 + 1, none⟩) L2.out).trans (CC.out 1 (by decide)); have e2 : World.cell? _ ⟨b3, o3 + j * 3 + 2, none⟩ = some (.slice ba bn bc) := (hSw.1.cell (p := ⟨b3, o3 + j * 3 + 2, none⟩) L2.out).trans (CC.out 2 (by decide)); have g0 := hSw.2.c0; have g1 := hSw.2.c1; have g2 := hSw.2.c2; go_simp; first | done | with_reducible rfl
            try simp only [Act.put, List.setIfInBounds_toArray, List.set_cons_zero, List.set_cons_succ]
            refine wpAnyH_take (i := 4) (oi := { dst := some 129, op := Op.move (Operand.tmp 8), type := 78, pos := "rows.go:41", after := #[{ on := 2, ground := Ground.guard }], guard := some (2, false) }) (v := ?_) rfl (by kernel_rfl) (by kernel_rfl) (by kernel_rfl) (fun _ _ _ h => h) (Or.inl ⟨by rfl, ?_⟩) hHeld ?_
            rotate_left
            · intro w hSw; (try dsimp only at hSw); go_simp; first | done | with_reducible rfl
            try simp only [Act.put, List.setIfInBounds_toArray, List.set_cons_zero, List.set_cons_succ]
            refine wpAnyH_take (i := 5) (oi := { dst := some 130, op := Op.move (Operand.tmp 18), type := 3, pos := "rows.go:41", after := #[{ on := 2, ground := Ground.guard }], guard := some (2, false) }) (v := ?_) rfl (by kernel_rfl) (by kernel_rfl) (by kernel_rfl) (fun _ _ _ h => h) (Or.inl ⟨by rfl, ?_⟩) hHeld ?_
            rotate_left
            · intro w hSw; (try dsimp only at hSw); go_simp; first | done | with_reducible rfl
            try simp only [Act.put, List.setIfInBounds_toArray, List.set_cons_zero, List.set_cons_succ]
            refine wpAnyH_take (i := 6) (oi := { dst := some 131, op := Op.indexAddr 78 (Operand.tmp 129) (Operand.tmp 130), type := 0, pos := "rows.go:41", after := #[{ on := 4, ground := Ground.data }, { on := 5, ground := Ground.data }, { on := 2, ground := Ground.guard }], guard := some (2, false) }) (v := ?_) rfl (by kernel_rfl) (by kernel_rfl) (by kernel_rfl) (fun _ _ _ h => h) (Or.inl ⟨by rfl, ?_⟩) hHeld ?_
            rotate_left
            · intro w hSw; (try dsimp only at hSw); go_simp; first | done | with_reducible rfl
            try simp only [Act.put, List.setIfInBounds_toArray, List.set_cons_zero, List.set_cons_succ]
            refine wpAnyH_take (i := 7) (oi := { dst := some 132, op := Op.load 62 (Operand.tmp 131), type := 62, pos := "rows.go:41", after := #[{ on := 6, ground := Ground.data }, { on := 2, ground := Ground.guard }], guard := some (2, false) }) (v := ?_) rfl (by kernel_rfl) (by kernel_rfl) (by kernel_rfl) (fun _ _ _ h => h) (Or.inl ⟨by rfl, ?_⟩) hHeld ?_
            rotate_left
            · intro w hSw; (try dsimp only at hSw); have e0 : World.cell? _ ⟨b3, o3 + j * 3, none⟩ = some (.int .i64 kc) := (hSw.1.cell (p := ⟨b3, o3 + j * 3, none⟩) L2.out).trans (CC.out 0 (by decide)); have e1 : World.cell? _ ⟨b3, o3 + j * 3 + 1, none⟩ = some (.slice ha hn hc) := (hSw.1.cell (p := ⟨b3, o3 + j * 3 + 1, none⟩) L2.out).trans (CC.out 1 (by decide)); have e2 : World.cell? _ ⟨b3, o3 + j * 3 + 2, none⟩ = some (.slice ba bn bc) := (hSw.1.cell (p := ⟨b3, o3 + j * 3 + 2, none⟩) L2.out).trans (CC.out 2 (by decide)); have g0 := hSw.2.c0; have g1 := hSw.2.c1; have g2 := hSw.2.c2; go_simp; first | done | with_reducible rfl
            try simp only [Act.put, List.setIfInBounds_toArray, List.set_cons_zero, List.set_cons_succ]
            refine wpAnyH_ready (rs := [8]) (by kernel_rfl) (by simp) ?_
            refine AllReadyH.cons (o := { dst := some 133, op := Op.call { callee := Callee.value (Operand.func 39), args := #[Operand.tmp 128, Operand.tmp 132], argTypes := #[62, 62] }, type := 4, pos := "rows.go:41", after := #[{ on := 3, ground := Ground.data }, { on := 7, ground := Ground.data }, { on := 2, ground := Ground.chain }, { on := 2, ground := Ground.guard }], guard := some (2, false) }) rfl (fun K hK => ?_) AllReadyH.nil
            clear hHeld
            go_simp
            refine LS.out.mono ?_
            rintro e w7 ⟨⟨zz, rfl, hzz⟩, hB⟩
            obtain rfl : zz = true := hzz.2 (by trivial)
            have HBS := hideL (HBXd.out.trans (hB.mono HBXd.out.size))
            have HXS := hideL (HXd.out.next hB)
            clear hB hzz
            refine hK.out _ _ (⟨HBS.out, HXS.out⟩) (fun hHeld => ?_)
            clear hK K
            try simp only [Act.put, List.setIfInBounds_toArray, List.set_cons_zero, List.set_cons_succ]
            refine wpAnyH_take (i := 9) (oi := { dst := some 134, op := Op.unOp UnOp.not 4 (Operand.tmp 133), type := 4, pos := "rows.go:41", after := #[{ on := 8, ground := Ground.data }, { on := 2, ground := Ground.guard }], guard := some (2, false) }) (v := ?_) rfl (by kernel_rfl) (by kernel_rfl) (by kernel_rfl) (fun _ _ _ h => h) (Or.inl ⟨by rfl, ?_⟩) hHeld ?_
            rotate_left
            · intro w hSw; (try dsimp only at hSw); go_simp; first | done | with_reducible rfl
            try simp only [Act.put, List.setIfInBounds_toArray, List.set_cons_zero, List.set_cons_succ]
            refine wpAnyH_take (i := 10) (oi := { dst := some 135, op := Op.pick (Operand.tmp 127) (Operand.const (Value.bool true)) (Operand.tmp 134), type := 4, pos := "rows.go:41", after := #[{ on := 2, ground := Ground.data }, { on := 9, ground := Ground.data }], guard := none }) (v := ?_) rfl (by kernel_rfl) (by kernel_rfl) (by kernel_rfl) (fun _ _ _ h => h) (Or.inl ⟨by rfl, ?_⟩) hHeld ?_
            rotate_left
            · intro w hSw; (try dsimp only at hSw); go_simp; first | done | with_reducible rfl
            try simp only [Act.put, List.setIfInBounds_toArray, List.set_cons_zero, List.set_cons_succ]
            refine wpAnyH_done (by kernel_rfl) ?_ _
            clear hHeld
            go_wp2_with fail
            go_roundw
            case rel => exact ⟨j + 1, by omega, by go_num, HBS⟩
            case measure => simp [RowKit.intOf]; omega
          · obtain rfl : j = xn := by omega
            have hjl' : ¬ (j : Int) < (j : Int) := by omega
            have HBV := hideL hbv
            clear hbv
            go_wp2_with (go_at_call 33; refine (LA.out _ HBV.out).mono ?_; rintro e w9 ⟨rfl, hB⟩; have HB9 := hideL (HBV.out.trans (hB.mono HBV.out.size)); clear hB)
            go_ret
            exact ⟨rfl, HB9.out⟩
      | true =>
        have LS0 := hideL (asim_okC2 HSS.out hm W (HT.out W HB.out))
        have LB := hideL (fun (ha : Option Addr) (hn hc : Nat) (ba : Option Addr) (bn bc : Nat) (V : World) (hx : AnsAt V ⟨cc, ⟨ha, hn, hc⟩, ⟨ba, bn, bc⟩⟩ (simA cc s.data.toList)) (hb : Below w.heap.size w V) => abyt_okC hm cc ha hn hc ba bn bc V hx (HT.out V hb).1.1 (HT.out V hb).2)
        have HM := hideL hm
        have H5 := HS
        have HB5 := HB
        clear hm HS HB
        go_wp2_with (first
          | (go_at_call 46; (refine LS0.out.mono ?_); rintro e w4 ⟨⟨kc, ha, hn, hc, ba, bn, bc, rfl, hx, hge⟩, hB⟩
             obtain rfl : cc = kc := hx.1.symm
             have hz2 := (Below.refl w4.heap.size w4).alloc (Nat.le_refl _) (anC cc (.slice ha hn hc) (.slice ba bn bc))
             have hz3 := hB.trans (hz2.mono hB.size)
             have HB6 := hideL (HB5.out.trans (hz3.mono HB5.out.size))
             have H6 := hideL (H5.out.next hz3)
             have HX6 := hideL (hx.below hz2)
             have X6 := hideL (ABox.new w4 cc (.slice ha hn hc) (.slice ba bn bc))
             have x0 := X6.out.c0
             have x1 := X6.out.c1
             have x2 := X6.out.c2
             have HSZ := hideL hB.size
             have HFAR : HidL (∀ k, ((⟨cc, ⟨ha, hn, hc⟩, ⟨ba, bn, bc⟩⟩ : AV).h.v.ownBlock = some k ∨ (⟨cc, ⟨ha, hn, hc⟩, ⟨ba, bn, bc⟩⟩ : AV).b.v.ownBlock = some k) → bv.ownBlock ≠ some k ∧ wv.ownBlock ≠ some k) := ⟨fun k hk => by have h1 : W.heap.size ≤ k := (by rcases hk with hk | hk; exact hge.1 k hk; exact hge.2 k hk); exact ⟨fun e => by have := H5.out.bytes.lt e; omega, fun e => by have := H5.out.want.lt e; omega⟩⟩
             have LB6 := hideL (LB.out ha hn hc ba bn bc _ HX6.out HB6.out)
             clear hB hz2 hz3 hx hge)
          | (go_at_call 40; (refine LB6.out.mono ?_); rintro e w7 ⟨⟨r, rn, rc, rfl, hbr⟩, hB⟩
             clear x0 x1 x2
             have hbw := HB6.out.trans (hB.mono HB6.out.size)
             have X7 := hideL (X6.out.next hB)
             have x0 := X7.out.c0
             have x1 := X7.out.c1
             have x2 := X7.out.c2
             have hx7 := HX6.out.below hB
             have k7 := to_strA _ _ _ _ _ hx7.2.2
             have hbo : bo (simA cc s.data.toList).body = s := bo_of s
             rw [hbo] at k7
             obtain ⟨v1, w8, v2, w9, q1, q2, s1, s2, _, hb9, _, hkp, hfin⟩ := (H6.out.next hB).put hbw.size HYS.out HM.out ⟨cc, ⟨ha, hn, hc⟩, ⟨ba, bn, bc⟩⟩ hbr
             have Q1 := hideL q1
             have Q2 := hideL q2
             have HB := hideL (hbw.trans hb9)
             have X8 := hideL (show ABox w8 w4.heap.size cc (.slice ha hn hc) (.slice ba bn bc) from (hkp _ X7.out.lt (fun e => by have := H5.out.bytes.lt e; have := HSZ.out; omega)).trans X7.out)
             have y0 := X8.out.c0
             have y1 := X8.out.c1
             have y2 := X8.out.c2
             obtain ⟨ys2, ds2, hl11, HS⟩ : ∃ ys2 ds2, ys2.length ≤ 11 ∧ HidL (AwT w w9 v1 v2 ys2 ds2) := ⟨ys ++ [simA cc s.data.toList], ds ++ [⟨cc, ⟨ha, hn, hc⟩, ⟨ba, bn, bc⟩⟩], by rw [List.length_append, List.length_singleton]; have := HYS.out; omega, ⟨⟨s1, s2, by rw [List.length_append, List.length_append, H5.out.len]; rfl, reqs_snoc H5.out.len (fun i h1 h2 => (H5.out.reqs i h1 h2).below HB.out) (hfin _ hx7 HFAR.out), mem_snoc_may H5.out.may HM.out⟩⟩⟩
             have hrm := arows_may HS.out.may
             have hE0 : rawE ((ys2.map rawA).flatMap wrtP) = 0 := by unfold rawE; rw [hrm]; rfl
             have hL0 : rawL ((ys2.map rawA).flatMap wrtP) = ys2.map rawA := by unfold rawL; rw [hrm]; rfl
             have hrl := arows_len HS.out.may
             have LR := raws_any _ _ _ HS.out.bytes.gAt (by omega) (HT.out _ HB.out).1.1 (HT.out _ HB.out).1.2
             rw [hE0, hL0, show ((0 : Nat) : Int) = 0 from rfl] at LR
             obtain ⟨wa, wc, hwv⟩ := HS.out.want.gAt.len
             subst hwv
             have LR := hideL LR
             have hN : (ys2.map rawA).length = ds2.length := by rw [List.length_map, HS.out.len]
             obtain ⟨N, hNe⟩ : ∃ N, ds2.length = N := ⟨_, rfl⟩
             have HWANT := hideL HS.out.want.gAt
             rw [hNe] at hN HWANT
             have HDN := hideL hNe
             have hN11 : N ≤ 11 := by have := HS.out.len; omega
             have hne : (((ys2.map rawA).length : Int) != (N : Int)) = false := by rw [hN]; simp
             clear hrm hE0 hL0 hrl hNe
             clear hB hbw hx7 hbo q1 q2 s1 s2 hb9 hkp hfin hbr)
          | (at_builtin; refine wpList_append_runP rfl (.tmp 90) (.tmp 91) 22 22 22 rfl rfl _ _ v1 w8 rfl rfl Q1.out ?_)
          | (at_builtin; refine wpList_append_runP rfl (.tmp 93) (.tmp 95) 78 78 78 rfl rfl _ _ _ w9 rfl rfl Q2.out ?_)
          | (go_at_call 17; rw [HDN.out]; (refine LR.out.mono ?_); rintro e w2 ⟨⟨xa, xn, xc⟩, rfl, hraw, hB⟩
             obtain ⟨xa', xc', hxe⟩ := hraw.at.len
             simp only [Sl.v] at hxe
             injection hxe with hx1 hx2 hx3
             subst hx1 hx3
             rw [hN] at hx2
             subst hx2
             simp only [Sl.v] at hraw ⊢
             have HRAW := hideL hraw
             have HB2 := hideL (HB.out.trans (hB.mono HB.out.size))
             have HBR := hideL hB
             have HW2 := hideL (HWANT.out.below hB)
             clear hB hraw hN))
        clear hne
        go_loopw [18] (fun i wr => ∃ j : Nat, j ≤ xn ∧ i = .int .i64 j ∧ HidL (Below w2.heap.size w2 wr)) (fun i _ => xn - (RowKit.intOf i).toNat)
        case atStart => exact ⟨0, Nat.zero_le _, rfl, ⟨Below.refl _ _⟩⟩
        case round =>
          obtain ⟨j, hj, rfl, HBW⟩ := hrel
          obtain ⟨V, rfl⟩ : ∃ W, W = wr := ⟨_, rfl⟩
          have hbv : Below w.heap.size w V := HB2.out.trans (HBW.out.mono HB2.out.size)
          by_cases hjl : j < xn
          · have hjl' : (j : Int) < (xn : Int) := by omega
            have hjd : j < ds2.length := by rw [HDN.out]; exact hjl
            have hjy : j < ys2.length := by rw [← HS.out.len]; exact hjd
            obtain ⟨b1, o1, ⟨rs, ⟨ra, rn, rc⟩, ⟨sa, sn, sc⟩⟩, rfl, l1, d0, d1, d2, hra⟩ := HRAW.out.at.at (k := j) hjl
            simp only [Sl.v] at d0 d1 d2
            obtain ⟨b3, o3, e3, l2, cc⟩ := HW2.out.at (k := j) hjl
            subst e3
            have hreq := HS.out.get hjd
            have hmay : mayAB (ys2.getD j an0) = true := by
              rw [show ys2.getD j an0 = ys2[j] by simp [List.getD, hjy]]
              exact HS.out.may _ (List.getElem_mem hjy)
            have hrw : (ys2.map rawA).getD j ⟨[], [], []⟩ = rawA (ys2.getD j an0) := by simp [List.getD, hjy]
            rw [hrw] at hra
            rw [show ds2.getD j KA.dft = ds2.getD j av0 from rfl] at cc
            generalize ys2.getD j an0 = y at hra hreq hmay
            generalize ds2.getD j av0 = cv at cc hreq
            obtain ⟨kc, ⟨ha, hn, hc⟩, ⟨ba, bn, bc⟩⟩ := cv
            have e0 := (HBW.out.cell (p := ⟨b1, o1 + j * 3, none⟩) l1).trans d0
            have e1 := (HBW.out.cell (p := ⟨b1, o1 + j * 3 + 1, none⟩) l1).trans d1
            have e2 := (HBW.out.cell (p := ⟨b1, o1 + j * 3 + 2, none⟩) l1).trans d2
            have hfm := (fit_may (mayA_fit hmay)).1
            have hwp := (wrtB_parts (mayA_wrt hmay)).1.2
            have hhl := mayH_len hfm
            have hbl := (fit_may (mayA_fit hmay)).2.1
            have LO := aof_any rs ra rn rc sa sn sc (rawA y) V (hra.below HBW.out) (good_fits hfm) (by rw [← size_list, hra.1]; omega) (show y.heads.length ≤ 1000 by omega) (show y.body.length ≤ 1000000 by omega) (HT.out V hbv)
            unfold AOfPost at LO
            rw [ofA_raw hmay] at LO
            have LO := hideL LO
            have HL := hideL (show y.heads.length ≤ 1000 by omega)
            have HREQ := hideL (hreq.below HBR.out)
            have HBV := hideL hbv
            have L2 := hideL l2
            have CC := hideL cc
            clear d0 d1 d2 l1 l2 cc hra hrw hreq hmay hfm hwp hhl hbl hbv hjd hjy
            go_wp2_with (first
              | (go_at_call 42; refine LO.out.mono ?_; rintro e w6 ⟨⟨c2, ha2, hn2, hc2, ba2, bn2, bc2, rfl, hreq2, _⟩, hB⟩
                 have hz2 := (Below.refl w6.heap.size w6).alloc (Nat.le_refl _) (anC c2 (.slice ha2 hn2 hc2) (.slice ba2 bn2 bc2))
                 have hz3 := hB.trans (hz2.mono hB.size)
                 have HX6 := hideL (ABox.new w6 c2 (.slice ha2 hn2 hc2) (.slice ba2 bn2 bc2))
                 have HBX := hideL (HBW.out.trans (hz3.mono HBW.out.size))
                 have HBY := hideL (HBV.out.trans (hz3.mono HBV.out.size))
                 have hdr := (Below.refl (w6.alloc (anC c2 (.slice ha2 hn2 hc2) (.slice ba2 bn2 bc2))).heap.size (w6.alloc (anC c2 (.slice ha2 hn2 hc2) (.slice ba2 bn2 bc2)))).drew
                 have HBXd := hideL HBX.out.drew
                 have HXd := hideL (HX6.out.next hdr)
                 have LS := hideL (rsameA c2 kc ha2 hn2 hc2 ba2 bn2 bc2 ha hn hc ba bn bc y y (w6.alloc (anC c2 (.slice ha2 hn2 hc2) (.slice ba2 bn2 bc2))).drew ((hreq2.below hz2).below hdr) (HREQ.out.below (HBX.out.drew)) HL.out)
                 clear hB hz2 hz3 hdr hreq2))
            refine wp_region_held_drew (S := fun w' => Below w2.heap.size w2 w' ∧ ABox w' w6.heap.size c2 (.slice ha2 hn2 hc2) (.slice ba2 bn2 bc2)) (by kernel_rfl) ⟨HBXd.out, HXd.out⟩ (fun hHeld => ?_)
            refine wpAnyH_take (i := 0) (oi := { dst := some 125, op := Op.move (Operand.tmp 20), type := 28, pos := "rows.go:41", after := #[], guard := none }) (v := ?_) rfl (by kernel_rfl) (by kernel_rfl) (by kernel_rfl) (fun _ _ _ h => h) (Or.inl ⟨by rfl, ?_⟩) hHeld ?_
            rotate_left
            · intro w hSw; (try dsimp only at hSw); go_simp; first | done | with_reducible rfl
            try simp only [Act.put, List.setIfInBounds_toArray, List.set_cons_zero, List.set_cons_succ]
            refine wpAnyH_take (i := 1) (oi := { dst := some 126, op := Op.binOp BinOp.neq 28 (Operand.tmp 125) (Operand.const (Value.int IntKind.i64 0)) 28, type := 4, pos := "rows.go:41", after := #[{ on := 0, ground := Ground.data }], guard := none }) (v := ?_) rfl (by kernel_rfl) (by kernel_rfl) (by kernel_rfl) (fun _ _ _ h => h) (Or.inl ⟨by rfl, ?_⟩) hHeld ?_
            rotate_left
            · intro w hSw; (try dsimp only at hSw); go_simp; first | done | with_reducible rfl
            try simp only [Act.put, List.setIfInBounds_toArray, List.set_cons_zero, List.set_cons_succ]
            refine wpAnyH_take (i := 2) (oi := { dst := some 127, op := Op.move (Operand.tmp 126), type := 4, pos := "rows.go:41", after := #[{ on := 1, ground := Ground.data }], guard := none }) (v := ?_) rfl (by kernel_rfl) (by kernel_rfl) (by kernel_rfl) (fun _ _ _ h => h) (Or.inl ⟨by rfl, ?_⟩) hHeld ?_
            rotate_left
            · intro w hSw; (try dsimp only at hSw); go_simp; first | done | with_reducible rfl
            try simp only [Act.put, List.setIfInBounds_toArray, List.set_cons_zero, List.set_cons_succ]
            refine wpAnyH_take (i := 3) (oi := { dst := some 128, op := Op.load 62 (Operand.tmp 19), type := 62, pos := "rows.go:41", after := #[{ on := 2, ground := Ground.guard }], guard := some (2, false) }) (v := ?_) rfl (by kernel_rfl) (by kernel_rfl) (by kernel_rfl) (fun _ _ _ h => h) (Or.inl ⟨by rfl, ?_⟩) hHeld ?_
            rotate_left
            · intro w hSw; (try dsimp only at hSw); have e0 : World.cell? _ ⟨b3, o3 + j * 3, none⟩ = some (.int .i64 kc) := (hSw.1.cell (p := ⟨b3, o3 + j * 3, none⟩) L2.out).trans (CC.out 0 (by decide)); have e1 : World.cell? _ ⟨b3, o3 + j * 3 + 1, none⟩ = some (.slice ha hn hc) := (hSw.1.cell (p := ⟨b3, o3 + j * 3 + 1, none⟩) L2.out).trans (CC.out 1 (by decide)); have e2 : World.cell? _ ⟨b3, o3 + j * 3 + 2, none⟩ = some (.slice ba bn bc) := (hSw.1.cell (p := ⟨b3, o3 + j * 3 + 2, none⟩) L2.out).trans (CC.out 2 (by decide)); have g0 := hSw.2.c0; have g1 := hSw.2.c1; have g2 := hSw.2.c2; go_simp; first | done | with_reducible rfl
            try simp only [Act.put, List.setIfInBounds_toArray, List.set_cons_zero, List.set_cons_succ]
            refine wpAnyH_take (i := 4) (oi := { dst := some 129, op := Op.move (Operand.tmp 8), type := 78, pos := "rows.go:41", after := #[{ on := 2, ground := Ground.guard }], guard := some (2, false) }) (v := ?_) rfl (by kernel_rfl) (by kernel_rfl) (by kernel_rfl) (fun _ _ _ h => h) (Or.inl ⟨by rfl, ?_⟩) hHeld ?_
            rotate_left
            · intro w hSw; (try dsimp only at hSw); go_simp; first | done | with_reducible rfl
            try simp only [Act.put, List.setIfInBounds_toArray, List.set_cons_zero, List.set_cons_succ]
            refine wpAnyH_take (i := 5) (oi := { dst := some 130, op := Op.move (Operand.tmp 18), type := 3, pos := "rows.go:41", after := #[{ on := 2, ground := Ground.guard }], guard := some (2, false) }) (v := ?_) rfl (by kernel_rfl) (by kernel_rfl) (by kernel_rfl) (fun _ _ _ h => h) (Or.inl ⟨by rfl, ?_⟩) hHeld ?_
            rotate_left
            · intro w hSw; (try dsimp only at hSw); go_simp; first | done | with_reducible rfl
            try simp only [Act.put, List.setIfInBounds_toArray, List.set_cons_zero, List.set_cons_succ]
            refine wpAnyH_take (i := 6) (oi := { dst := some 131, op := Op.indexAddr 78 (Operand.tmp 129) (Operand.tmp 130), type := 0, pos := "rows.go:41", after := #[{ on := 4, ground := Ground.data }, { on := 5, ground := Ground.data }, { on := 2, ground := Ground.guard }], guard := some (2, false) }) (v := ?_) rfl (by kernel_rfl) (by kernel_rfl) (by kernel_rfl) (fun _ _ _ h => h) (Or.inl ⟨by rfl, ?_⟩) hHeld ?_
            rotate_left
            · intro w hSw; (try dsimp only at hSw); go_simp; first | done | with_reducible rfl
            try simp only [Act.put, List.setIfInBounds_toArray, List.set_cons_zero, List.set_cons_succ]
            refine wpAnyH_take (i := 7) (oi := { dst := some 132, op := Op.load 62 (Operand.tmp 131), type := 62, pos := "rows.go:41", after := #[{ on := 6, ground := Ground.data }, { on := 2, ground := Ground.guard }], guard := some (2, false) }) (v := ?_) rfl (by kernel_rfl) (by kernel_rfl) (by kernel_rfl) (fun _ _ _ h => h) (Or.inl ⟨by rfl, ?_⟩) hHeld ?_
            rotate_left
            · intro w hSw; (try dsimp only at hSw); have e0 : World.cell? _ ⟨b3, o3 + j * 3, none⟩ = some (.int .i64 kc) := (hSw.1.cell (p := ⟨b3, o3 + j * 3, none⟩) L2.out).trans (CC.out 0 (by decide)); have e1 : World.cell? _ ⟨b3, o3 + j * 3 + 1, none⟩ = some (.slice ha hn hc) := (hSw.1.cell (p := ⟨b3, o3 + j * 3 + 1, none⟩) L2.out).trans (CC.out 1 (by decide)); have e2 : World.cell? _ ⟨b3, o3 + j * 3 + 2, none⟩ = some (.slice ba bn bc) := (hSw.1.cell (p := ⟨b3, o3 + j * 3 + 2, none⟩) L2.out).trans (CC.out 2 (by decide)); have g0 := hSw.2.c0; have g1 := hSw.2.c1; have g2 := hSw.2.c2; go_simp; first | done | with_reducible rfl
            try simp only [Act.put, List.setIfInBounds_toArray, List.set_cons_zero, List.set_cons_succ]
            refine wpAnyH_ready (rs := [8]) (by kernel_rfl) (by simp) ?_
            refine AllReadyH.cons (o := { dst := some 133, op := Op.call { callee := Callee.value (Operand.func 39), args := #[Operand.tmp 128, Operand.tmp 132], argTypes := #[62, 62] }, type := 4, pos := "rows.go:41", after := #[{ on := 3, ground := Ground.data }, { on := 7, ground := Ground.data }, { on := 2, ground := Ground.chain }, { on := 2, ground := Ground.guard }], guard := some (2, false) }) rfl (fun K hK => ?_) AllReadyH.nil
            clear hHeld
            go_simp
            refine LS.out.mono ?_
            rintro e w7 ⟨⟨zz, rfl, hzz⟩, hB⟩
            obtain rfl : zz = true := hzz.2 (by trivial)
            have HBS := hideL (HBXd.out.trans (hB.mono HBXd.out.size))
            have HXS := hideL (HXd.out.next hB)
            clear hB hzz
            refine hK.out _ _ (⟨HBS.out, HXS.out⟩) (fun hHeld => ?_)
            clear hK K
            try simp only [Act.put, List.setIfInBounds_toArray, List.set_cons_zero, List.set_cons_succ]
            refine wpAnyH_take (i := 9) (oi := { dst := some 134, op := Op.unOp UnOp.not 4 (Operand.tmp 133), type := 4, pos := "rows.go:41", after := #[{ on := 8, ground := Ground.data }, { on := 2, ground := Ground.guard }], guard := some (2, false) }) (v := ?_) rfl (by kernel_rfl) (by kernel_rfl) (by kernel_rfl) (fun _ _ _ h => h) (Or.inl ⟨by rfl, ?_⟩) hHeld ?_
            rotate_left
            · intro w hSw; (try dsimp only at hSw); go_simp; first | done | with_reducible rfl
            try simp only [Act.put, List.setIfInBounds_toArray, List.set_cons_zero, List.set_cons_succ]
            refine wpAnyH_take (i := 10) (oi := { dst := some 135, op := Op.pick (Operand.tmp 127) (Operand.const (Value.bool true)) (Operand.tmp 134), type := 4, pos := "rows.go:41", after := #[{ on := 2, ground := Ground.data }, { on := 9, ground := Ground.data }], guard := none }) (v := ?_) rfl (by kernel_rfl) (by kernel_rfl) (by kernel_rfl) (fun _ _ _ h => h) (Or.inl ⟨by rfl, ?_⟩) hHeld ?_
            rotate_left
            · intro w hSw; (try dsimp only at hSw); go_simp; first | done | with_reducible rfl
            try simp only [Act.put, List.setIfInBounds_toArray, List.set_cons_zero, List.set_cons_succ]
            refine wpAnyH_done (by kernel_rfl) ?_ _
            clear hHeld
            go_wp2_with fail
            go_roundw
            case rel => exact ⟨j + 1, by omega, by go_num, HBS⟩
            case measure => simp [RowKit.intOf]; omega
          · obtain rfl : j = xn := by omega
            have hjl' : ¬ (j : Int) < (j : Int) := by omega
            have HBV := hideL hbv
            clear hbv
            go_wp2_with (go_at_call 33; refine (LA.out _ HBV.out).mono ?_; rintro e w9 ⟨rfl, hB⟩; have HB9 := hideL (HBV.out.trans (hB.mono HBV.out.size)); clear hB)
            go_ret
            exact ⟨rfl, HB9.out⟩
end Go.Proofs.YtglnfnlpkhmlnaaGreatDoor
