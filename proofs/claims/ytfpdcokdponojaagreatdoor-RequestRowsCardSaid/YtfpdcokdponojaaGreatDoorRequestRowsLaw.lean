/- RequestRows: requests one behind the other are read as these. -/
import Derived.Test.YtfpdcokdponojaaGreatDoorRqMayP
import Derived.Test.YtfpdcokdponojaaGreatDoorRqLong
import Derived.Test.YtfpdcokdponojaaGreatDoorRqAwake
import Derived.Test.YtfpdcokdponojaaGreatDoorRqArgZ
import Derived.Deep.RegionWith
namespace Go.Proofs.YtfpdcokdponojaaGreatDoor
open Go.RowKit Go.Lib

theorem infoQ : (Tryz.prog.info? 42).map (fun i => (i.zero, i.size, i.bytes)) = some (some (.agg #[.string ByteArray.empty, .string ByteArray.empty, .string ByteArray.empty, .string ByteArray.empty, .string ByteArray.empty, .slice none 0 0, .slice none 0 0]), 7, 128) := by kernel_rfl
/-- What has come: the bytes, and the requests that they are of. -/
structure RwSt (w : World) (W : World) (bv wv : Value) (ys : List Rq) (ds : List QV) : Prop where
  bytes : GRow KB W w.heap.size bv ((ys.map rawP).flatMap wrtP)
  want : GRow KQ W w.heap.size wv ds
  len : ds.length = ys.length
  reqs : ∀ i (h : i < ds.length) (h' : i < ys.length), ReqAt w ds[i] ys[i]
  may : ∀ y ∈ ys, mayR y
  dis : ∀ k, bv.ownBlock = some k → wv.ownBlock ≠ some k
theorem RwSt.next {w W W' : World} {bv wv : Value} {ys : List Rq} {ds : List QV} (h : RwSt w W bv wv ys ds) (hb : Below W.heap.size W W') : RwSt w W' bv wv ys ds :=
  ⟨h.bytes.below hb, h.want.below hb, h.len, h.reqs, h.may, h.dis⟩
theorem RwSt.nil (w : World) : RwSt w w (.slice none 0 0) (.slice none 0 0) [] [] :=
  ⟨GRow.nil _ _, GRow.nil _ _, rfl, (fun i h => absurd h (Nat.not_lt_zero _)), (fun y h => by cases h), (fun k h => by cases h)⟩
theorem rows_len {ys : List Rq} (h : ∀ y ∈ ys, mayR y) : ((ys.map rawP).flatMap wrtP).length ≤ ys.length * 20000 := by
  induction ys with
  | nil => exact Nat.zero_le _
  | cons y ys ih =>
    have h1 := may_len (h y (List.mem_cons_self ..))
    have h2 := ih fun z hz => h z (List.mem_cons_of_mem _ hz)
    simp only [List.map_cons, List.flatMap_cons, List.length_append, List.length_cons]
    omega
/-- One more. -/
theorem RwSt.put {w W : World} {bv wv : Value} {ys : List Rq} {ds : List QV} (h : RwSt w W bv wv ys ds) (hbw : w.heap.size ≤ W.heap.size) (hn : ys.length ≤ 10) {y : Rq} (hy : mayR y) {c : QV} (hc : ReqAt w c y) {r : Value} (hr : GAt KB W r (wrtP (rawP y))) :
    ∃ v1 w1 v2 w2, (Builtin.append_ #[22, 22] 22 #[bv, r]).run Tryz.prog W = .ok v1 w1 ∧
      (Builtin.append_ #[68, 68] 68 #[wv, .slice (some ⟨w1.heap.size, 0, none⟩) 1 1]).run Tryz.prog (w1.alloc (.cells (KQ.cells c).toArray 42)) = .ok v2 w2 ∧
      RwSt w w2 v1 v2 (ys ++ [y]) (ds ++ [c]) ∧ Below w.heap.size W w2 ∧ Below w.heap.size W w1 := by
  have hm : (1000000 : Nat) ≤ maxLen := by decide
  have hl := rows_len h.may
  have hyl := may_len hy
  obtain ⟨v1, w1, q1, r1, k1, o1⟩ := append_g (K := KB) (P := Tryz.prog) 22 (.int .u8 0) 1 Tryz.underlying22 infoB rfl W w.heap.size bv _ h.bytes r _ hr (by omega) (by omega) hbw
  have b1 : Below w.heap.size W w1 := k1.below (fun k hk => h.bytes.ge hk) hbw
  have hw1 := h.want.keep k1 (fun k hk hb => h.dis k hb hk)
  have ba := (Below.refl w1.heap.size w1).alloc (Nat.le_refl _) (.cells (KQ.cells c).toArray 42)
  have hz : (w1.alloc (.cells (KQ.cells c).toArray 42)).heap.size = w1.heap.size + 1 := World.size_alloc _ _
  have hz1 := b1.size
  have hdl := h.len
  obtain ⟨v2, w2, q2, r2, k2, o2⟩ := append_g (K := KQ) (P := Tryz.prog) 68 _ 128 Tryz.underlying68 infoQ rfl (w1.alloc (.cells (KQ.cells c).toArray 42)) w.heap.size wv ds (hw1.below ba) (.slice (some ⟨w1.heap.size, 0, none⟩) 1 1) [c] (GAt.box _ _ c (0, 0) (heap_alloc_new w1 _) 1 (Nat.le_refl _)) (by simp; omega) (by simp; omega) (by omega)
  have hd1 : ∀ k, v1.ownBlock = some k → wv.ownBlock ≠ some k := fun k hk hw => by
    rcases o1 with e | e
    · exact h.dis k (e ▸ hk) hw
    · rw [e] at hk
      injection hk with hk
      have := h.want.lt hw
      omega
  refine ⟨v1, w1, v2, w2, q1, q2, ⟨?_, r2, ?_, ?_, ?_, ?_⟩, ?_, b1⟩
  · have hb := (r1.below ba).keep k2 (fun k hk hw => hd1 k hk hw)
    rw [List.map_append, List.flatMap_append]
    simpa using hb
  · simp [hdl]
  · intro i hi hi'
    rw [List.length_append, List.length_singleton] at hi
    rcases Nat.lt_or_ge i ds.length with h1 | h1
    · rw [List.getElem_append_left h1, List.getElem_append_left (by omega)]
      exact h.reqs i h1 (by omega)
    · obtain rfl : i = ds.length := by omega
      rw [List.getElem_append_right (Nat.le_refl _), List.getElem_append_right (by omega)]
      simp only [Nat.sub_self, hdl, List.getElem_singleton]
      exact hc
  · intro z hz
    rcases List.mem_append.1 hz with hz | hz
    · exact h.may z hz
    · rw [List.mem_singleton.1 hz]; exact hy
  · intro k hk hw
    rcases o2 with e | e
    · exact hd1 k hk (e ▸ hw)
    · rw [e] at hw
      injection hw with hw
      have := r1.lt hk
      omega
  · exact (b1.trans (ba.mono (by omega))).trans (k2.below (fun k hk => h.want.ge hk) (by omega))
/-- A text long enough that a law leaves it aside, or a request. -/
theorem RwSt.get {w W : World} {bv wv : Value} {ys : List Rq} {ds : List QV} (h : RwSt w W bv wv ys ds) {k : Nat} (hk : k < ds.length) : ReqAt w (ds.getD k qv0) (ys.getD k ⟨[], [], [], [], [], [], []⟩) := by
  have hk' : k < ys.length := by rw [← h.len]; exact hk
  rw [show ds.getD k qv0 = ds[k] by simp [List.getD, hk], show ys.getD k ⟨[], [], [], [], [], [], []⟩ = ys[k] by simp [List.getD, hk']]
  exact h.reqs k hk hk'
set_option maxRecDepth 100000 in
set_option maxHeartbeats 4000000 in
theorem rows_walk (v : Value) (l : List QV) (w : World) (gv : GAt KQ w v l) (hok : ∀ c ∈ l, ReqOk w c) (hsz : ∀ c ∈ l, RqSz c) (ht : (Env w ∧ EnvS w) ∧ EnvT w) :
    Calls Tryz.prog 11 #[v] w fun e w' => e = .returned (.bool true) ∧ Below w.heap.size w w' := by
  have LA := hideL (fun (W : World) (hb : Below w.heap.size w W) => awake_any W (ht.1.1.next hb) (ht.1.2.next hb))
  have HB0 := hideL (Below.refl w.heap.size w)
  obtain ⟨vo, vc, rfl⟩ := gv.len
  by_cases hl : 10 < l.length
  · have i1 : (10 : Int) < (l.length : Int) := by omega
    generalize l.length = n at *
    clear hl gv hok hsz ht
    go_enter Tryz.func11, Tryz.ntmps11
    go_wp2_with (go_at_call 12; refine (LA.out _ HB0.out).mono ?_; rintro e w9 ⟨rfl, hB⟩; have HB9 := hideL hB; clear hB)
    go_ret
    exact ⟨rfl, HB9.out⟩
  have i1 : ¬ (10 : Int) < (l.length : Int) := by omega
  have HV := hideL gv
  have HOK := hideL hok
  have HSZ := hideL hsz
  have HT := hideL ht
  obtain ⟨n, hn⟩ : ∃ n, l.length = n := ⟨_, rfl⟩
  rw [hn] at HV i1 ⊢
  have HN := hideL hn
  have hn10 : n ≤ 10 := by omega
  have H0 := hideL (RwSt.nil w)
  clear hl gv hok hsz ht hn
  go_enter Tryz.func11, Tryz.ntmps11
  go_wp2_with fail
  go_loopw [3, 4, 5] (fun bv wv i wr => ∃ (k : Nat) (ys : List Rq) (ds : List QV), k ≤ n ∧ i = .int .i64 k ∧ ys.length ≤ k ∧ HidL (RwSt w wr bv wv ys ds) ∧ HidL (Below w.heap.size w wr)) (fun _ _ i _ => n - (RowKit.intOf i).toNat)
  case atStart => exact ⟨0, [], [], Nat.zero_le _, rfl, Nat.zero_le _, H0, HB0⟩
  case round =>
    obtain ⟨k, ys, ds, hk, rfl, hys, HS, HB⟩ := hrel
    clear H0 HB0
    obtain ⟨W, rfl⟩ : ∃ W, W = wr := ⟨_, rfl⟩
    by_cases hlt : k < n
    · have hlt' : (k : Int) < (n : Int) := by omega
      obtain ⟨b1, o1, e1, l1, c1⟩ := HV.out.at (k := k) hlt
      subst e1
      have hkl : k < l.length := by rw [HN.out]; exact hlt
      have hcok := HOK.out (l.getD k KQ.dft) (by rw [show l.getD k KQ.dft = l[k] by simp [List.getD, hkl]]; exact List.getElem_mem hkl)
      have hcsz := HSZ.out (l.getD k KQ.dft) (by rw [show l.getD k KQ.dft = l[k] by simp [List.getD, hkl]]; exact List.getElem_mem hkl)
      generalize l.getD k KQ.dft = c at c1 hcok hcsz
      obtain ⟨m, t, p, q, o, ⟨ha, hn, hc⟩, ⟨ba, bn, bc⟩⟩ := c
      obtain ⟨x, hreq, _, _, _⟩ := hcok
      obtain ⟨hm1, hm2⟩ := hcsz
      have d0 : W.cell? ⟨b1, o1 + k * 7, none⟩ = some (.string m) := (HB.out.cell (p := ⟨b1, o1 + k * 7, none⟩) l1).trans (c1 0 (by decide))
      have d1 : W.cell? ⟨b1, o1 + k * 7 + 1, none⟩ = some (.string t) := (HB.out.cell (p := ⟨b1, o1 + k * 7 + 1, none⟩) l1).trans (c1 1 (by decide))
      have d2 : W.cell? ⟨b1, o1 + k * 7 + 2, none⟩ = some (.string p) := (HB.out.cell (p := ⟨b1, o1 + k * 7 + 2, none⟩) l1).trans (c1 2 (by decide))
      have d3 : W.cell? ⟨b1, o1 + k * 7 + 3, none⟩ = some (.string q) := (HB.out.cell (p := ⟨b1, o1 + k * 7 + 3, none⟩) l1).trans (c1 3 (by decide))
      have d4 : W.cell? ⟨b1, o1 + k * 7 + 4, none⟩ = some (.string o) := (HB.out.cell (p := ⟨b1, o1 + k * 7 + 4, none⟩) l1).trans (c1 4 (by decide))
      have d5 : W.cell? ⟨b1, o1 + k * 7 + 5, none⟩ = some (.slice ha hn hc) := (HB.out.cell (p := ⟨b1, o1 + k * 7 + 5, none⟩) l1).trans (c1 5 (by decide))
      have d6 : W.cell? ⟨b1, o1 + k * 7 + 6, none⟩ = some (.slice ba bn bc) := (HB.out.cell (p := ⟨b1, o1 + k * 7 + 6, none⟩) l1).trans (c1 6 (by decide))
      have hEn := fun (W : World) (hb : Below w.heap.size w W) => HT.out.1.1.next hb
      have hSn := fun (W : World) (hb : Below w.heap.size w W) => HT.out.1.2.next hb
      have hTn := fun (W : World) (hb : Below w.heap.size w W) => HT.out.2.next hb
      have hsa : (m ++ t).size = m.size + t.size := ByteArray.size_append
      have n1 := max_two hm1 hm2
      have HBd := hideL HB.out.drew
      have LL := rlong_any (m ++ t) ha hn hc ba bn bc x.heads W.drew (hreq.2.2.2.2.2.1.below HBd.out)
      rw [hsa] at LL
      have L1 := hideL l1
      have C1 := hideL c1
      cases hlg : lngP (m.size + t.size) bn x.heads with
      | true =>
        rw [hlg] at LL
        have LL := hideL LL
        clear c1 l1 hkl hreq hm1 hm2 hEn hSn hTn hsa hlg
        go_wp2_with fail
        refine wp_region_held_drew (S := fun w' => Below w.heap.size w w') (by kernel_rfl) HBd.out (fun hHeld => ?_)
        refine wpAnyH_take (i := 0) (oi := { dst := some 23, op := Op.move (Operand.tmp 0), type := 68, pos := "bare.go:41", after := #[], guard := none }) (v := ?_) rfl (by kernel_rfl) (by kernel_rfl) (by kernel_rfl) (fun _ _ _ h => h) (Or.inl ⟨by rfl, ?_⟩) hHeld ?_
        rotate_left
        · intro w hSw; (try dsimp only at hSw); go_simp; first | done | with_reducible rfl
        try simp only [Act.put, List.setIfInBounds_toArray, List.set_cons_zero, List.set_cons_succ]
        refine wpAnyH_take (i := 1) (oi := { dst := some 24, op := Op.move (Operand.tmp 5), type := 3, pos := "bare.go:41", after := #[], guard := none }) (v := ?_) rfl (by kernel_rfl) (by kernel_rfl) (by kernel_rfl) (fun _ _ _ h => h) (Or.inl ⟨by rfl, ?_⟩) hHeld ?_
        rotate_left
        · intro w hSw; (try dsimp only at hSw); go_simp; first | done | with_reducible rfl
        try simp only [Act.put, List.setIfInBounds_toArray, List.set_cons_zero, List.set_cons_succ]
        refine wpAnyH_take (i := 2) (oi := { dst := some 25, op := Op.indexAddr 68 (Operand.tmp 23) (Operand.tmp 24), type := 0, pos := "bare.go:41", after := #[{ on := 0, ground := Ground.data }, { on := 1, ground := Ground.data }], guard := none }) (v := ?_) rfl (by kernel_rfl) (by kernel_rfl) (by kernel_rfl) (fun _ _ _ h => h) (Or.inl ⟨by rfl, ?_⟩) hHeld ?_
        rotate_left
        · intro w hSw; (try dsimp only at hSw); go_simp; first | done | with_reducible rfl
        try simp only [Act.put, List.setIfInBounds_toArray, List.set_cons_zero, List.set_cons_succ]
        refine wpAnyH_take (i := 3) (oi := { dst := some 26, op := Op.fieldAddr 42 (Operand.tmp 25) 0, type := 0, pos := "bare.go:41", after := #[{ on := 2, ground := Ground.data }], guard := none }) (v := ?_) rfl (by kernel_rfl) (by kernel_rfl) (by kernel_rfl) (fun _ _ _ h => h) (Or.inl ⟨by rfl, ?_⟩) hHeld ?_
        rotate_left
        · intro w hSw; (try dsimp only at hSw); go_simp; first | done | with_reducible rfl
        try simp only [Act.put, List.setIfInBounds_toArray, List.set_cons_zero, List.set_cons_succ]
        refine wpAnyH_take (i := 4) (oi := { dst := some 27, op := Op.load 9 (Operand.tmp 26), type := 9, pos := "bare.go:41", after := #[{ on := 3, ground := Ground.data }], guard := none }) (v := ?_) rfl (by kernel_rfl) (by kernel_rfl) (by kernel_rfl) (fun _ _ _ h => h) (Or.inl ⟨by rfl, ?_⟩) hHeld ?_
        rotate_left
        · intro w hSw; (try dsimp only at hSw); have e0 : World.cell? _ ⟨b1, o1 + k * 7, none⟩ = some (.string m) := (hSw.cell (p := ⟨b1, o1 + k * 7, none⟩) L1.out).trans (C1.out 0 (by decide)); have e1 : World.cell? _ ⟨b1, o1 + k * 7 + 1, none⟩ = some (.string t) := (hSw.cell (p := ⟨b1, o1 + k * 7 + 1, none⟩) L1.out).trans (C1.out 1 (by decide)); have e2 : World.cell? _ ⟨b1, o1 + k * 7 + 2, none⟩ = some (.string p) := (hSw.cell (p := ⟨b1, o1 + k * 7 + 2, none⟩) L1.out).trans (C1.out 2 (by decide)); have e3 : World.cell? _ ⟨b1, o1 + k * 7 + 3, none⟩ = some (.string q) := (hSw.cell (p := ⟨b1, o1 + k * 7 + 3, none⟩) L1.out).trans (C1.out 3 (by decide)); have e4 : World.cell? _ ⟨b1, o1 + k * 7 + 4, none⟩ = some (.string o) := (hSw.cell (p := ⟨b1, o1 + k * 7 + 4, none⟩) L1.out).trans (C1.out 4 (by decide)); have e5 : World.cell? _ ⟨b1, o1 + k * 7 + 5, none⟩ = some (.slice ha hn hc) := (hSw.cell (p := ⟨b1, o1 + k * 7 + 5, none⟩) L1.out).trans (C1.out 5 (by decide)); have e6 : World.cell? _ ⟨b1, o1 + k * 7 + 6, none⟩ = some (.slice ba bn bc) := (hSw.cell (p := ⟨b1, o1 + k * 7 + 6, none⟩) L1.out).trans (C1.out 6 (by decide)); go_simp; first | done | with_reducible rfl
        try simp only [Act.put, List.setIfInBounds_toArray, List.set_cons_zero, List.set_cons_succ]
        refine wpAnyH_take (i := 5) (oi := { dst := some 28, op := Op.move (Operand.tmp 0), type := 68, pos := "bare.go:41", after := #[], guard := none }) (v := ?_) rfl (by kernel_rfl) (by kernel_rfl) (by kernel_rfl) (fun _ _ _ h => h) (Or.inl ⟨by rfl, ?_⟩) hHeld ?_
        rotate_left
        · intro w hSw; (try dsimp only at hSw); go_simp; first | done | with_reducible rfl
        try simp only [Act.put, List.setIfInBounds_toArray, List.set_cons_zero, List.set_cons_succ]
        refine wpAnyH_take (i := 6) (oi := { dst := some 29, op := Op.move (Operand.tmp 5), type := 3, pos := "bare.go:41", after := #[], guard := none }) (v := ?_) rfl (by kernel_rfl) (by kernel_rfl) (by kernel_rfl) (fun _ _ _ h => h) (Or.inl ⟨by rfl, ?_⟩) hHeld ?_
        rotate_left
        · intro w hSw; (try dsimp only at hSw); go_simp; first | done | with_reducible rfl
        try simp only [Act.put, List.setIfInBounds_toArray, List.set_cons_zero, List.set_cons_succ]
        refine wpAnyH_take (i := 7) (oi := { dst := some 30, op := Op.indexAddr 68 (Operand.tmp 28) (Operand.tmp 29), type := 0, pos := "bare.go:41", after := #[{ on := 5, ground := Ground.data }, { on := 6, ground := Ground.data }], guard := none }) (v := ?_) rfl (by kernel_rfl) (by kernel_rfl) (by kernel_rfl) (fun _ _ _ h => h) (Or.inl ⟨by rfl, ?_⟩) hHeld ?_
        rotate_left
        · intro w hSw; (try dsimp only at hSw); go_simp; first | done | with_reducible rfl
        try simp only [Act.put, List.setIfInBounds_toArray, List.set_cons_zero, List.set_cons_succ]
        refine wpAnyH_take (i := 8) (oi := { dst := some 31, op := Op.fieldAddr 42 (Operand.tmp 30) 1, type := 0, pos := "bare.go:41", after := #[{ on := 7, ground := Ground.data }], guard := none }) (v := ?_) rfl (by kernel_rfl) (by kernel_rfl) (by kernel_rfl) (fun _ _ _ h => h) (Or.inl ⟨by rfl, ?_⟩) hHeld ?_
        rotate_left
        · intro w hSw; (try dsimp only at hSw); go_simp; first | done | with_reducible rfl
        try simp only [Act.put, List.setIfInBounds_toArray, List.set_cons_zero, List.set_cons_succ]
        refine wpAnyH_take (i := 9) (oi := { dst := some 32, op := Op.load 9 (Operand.tmp 31), type := 9, pos := "bare.go:41", after := #[{ on := 8, ground := Ground.data }], guard := none }) (v := ?_) rfl (by kernel_rfl) (by kernel_rfl) (by kernel_rfl) (fun _ _ _ h => h) (Or.inl ⟨by rfl, ?_⟩) hHeld ?_
        rotate_left
        · intro w hSw; (try dsimp only at hSw); have e0 : World.cell? _ ⟨b1, o1 + k * 7, none⟩ = some (.string m) := (hSw.cell (p := ⟨b1, o1 + k * 7, none⟩) L1.out).trans (C1.out 0 (by decide)); have e1 : World.cell? _ ⟨b1, o1 + k * 7 + 1, none⟩ = some (.string t) := (hSw.cell (p := ⟨b1, o1 + k * 7 + 1, none⟩) L1.out).trans (C1.out 1 (by decide)); have e2 : World.cell? _ ⟨b1, o1 + k * 7 + 2, none⟩ = some (.string p) := (hSw.cell (p := ⟨b1, o1 + k * 7 + 2, none⟩) L1.out).trans (C1.out 2 (by decide)); have e3 : World.cell? _ ⟨b1, o1 + k * 7 + 3, none⟩ = some (.string q) := (hSw.cell (p := ⟨b1, o1 + k * 7 + 3, none⟩) L1.out).trans (C1.out 3 (by decide)); have e4 : World.cell? _ ⟨b1, o1 + k * 7 + 4, none⟩ = some (.string o) := (hSw.cell (p := ⟨b1, o1 + k * 7 + 4, none⟩) L1.out).trans (C1.out 4 (by decide)); have e5 : World.cell? _ ⟨b1, o1 + k * 7 + 5, none⟩ = some (.slice ha hn hc) := (hSw.cell (p := ⟨b1, o1 + k * 7 + 5, none⟩) L1.out).trans (C1.out 5 (by decide)); have e6 : World.cell? _ ⟨b1, o1 + k * 7 + 6, none⟩ = some (.slice ba bn bc) := (hSw.cell (p := ⟨b1, o1 + k * 7 + 6, none⟩) L1.out).trans (C1.out 6 (by decide)); go_simp; first | done | with_reducible rfl
        try simp only [Act.put, List.setIfInBounds_toArray, List.set_cons_zero, List.set_cons_succ]
        refine wpAnyH_take (i := 10) (oi := { dst := some 33, op := Op.binOp BinOp.add 9 (Operand.tmp 27) (Operand.tmp 32) 9, type := 9, pos := "bare.go:41", after := #[{ on := 4, ground := Ground.data }, { on := 9, ground := Ground.data }], guard := none }) (v := ?_) rfl (by kernel_rfl) (by kernel_rfl) (by kernel_rfl) (fun _ _ _ h => h) (Or.inl ⟨by rfl, ?_⟩) hHeld ?_
        rotate_left
        · intro w hSw; (try dsimp only at hSw); go_simp; first | done | with_reducible rfl
        try simp only [Act.put, List.setIfInBounds_toArray, List.set_cons_zero, List.set_cons_succ]
        refine wpAnyH_take (i := 11) (oi := { dst := some 34, op := Op.move (Operand.tmp 0), type := 68, pos := "bare.go:41", after := #[], guard := none }) (v := ?_) rfl (by kernel_rfl) (by kernel_rfl) (by kernel_rfl) (fun _ _ _ h => h) (Or.inl ⟨by rfl, ?_⟩) hHeld ?_
        rotate_left
        · intro w hSw; (try dsimp only at hSw); go_simp; first | done | with_reducible rfl
        try simp only [Act.put, List.setIfInBounds_toArray, List.set_cons_zero, List.set_cons_succ]
        refine wpAnyH_take (i := 12) (oi := { dst := some 35, op := Op.move (Operand.tmp 5), type := 3, pos := "bare.go:41", after := #[], guard := none }) (v := ?_) rfl (by kernel_rfl) (by kernel_rfl) (by kernel_rfl) (fun _ _ _ h => h) (Or.inl ⟨by rfl, ?_⟩) hHeld ?_
        rotate_left
        · intro w hSw; (try dsimp only at hSw); go_simp; first | done | with_reducible rfl
        try simp only [Act.put, List.setIfInBounds_toArray, List.set_cons_zero, List.set_cons_succ]
        refine wpAnyH_take (i := 13) (oi := { dst := some 36, op := Op.indexAddr 68 (Operand.tmp 34) (Operand.tmp 35), type := 0, pos := "bare.go:41", after := #[{ on := 11, ground := Ground.data }, { on := 12, ground := Ground.data }], guard := none }) (v := ?_) rfl (by kernel_rfl) (by kernel_rfl) (by kernel_rfl) (fun _ _ _ h => h) (Or.inl ⟨by rfl, ?_⟩) hHeld ?_
        rotate_left
        · intro w hSw; (try dsimp only at hSw); go_simp; first | done | with_reducible rfl
        try simp only [Act.put, List.setIfInBounds_toArray, List.set_cons_zero, List.set_cons_succ]
        refine wpAnyH_take (i := 14) (oi := { dst := some 37, op := Op.fieldAddr 42 (Operand.tmp 36) 5, type := 0, pos := "bare.go:41", after := #[{ on := 13, ground := Ground.data }], guard := none }) (v := ?_) rfl (by kernel_rfl) (by kernel_rfl) (by kernel_rfl) (fun _ _ _ h => h) (Or.inl ⟨by rfl, ?_⟩) hHeld ?_
        rotate_left
        · intro w hSw; (try dsimp only at hSw); go_simp; first | done | with_reducible rfl
        try simp only [Act.put, List.setIfInBounds_toArray, List.set_cons_zero, List.set_cons_succ]
        refine wpAnyH_take (i := 15) (oi := { dst := some 38, op := Op.load 25 (Operand.tmp 37), type := 25, pos := "bare.go:41", after := #[{ on := 14, ground := Ground.data }], guard := none }) (v := ?_) rfl (by kernel_rfl) (by kernel_rfl) (by kernel_rfl) (fun _ _ _ h => h) (Or.inl ⟨by rfl, ?_⟩) hHeld ?_
        rotate_left
        · intro w hSw; (try dsimp only at hSw); have e0 : World.cell? _ ⟨b1, o1 + k * 7, none⟩ = some (.string m) := (hSw.cell (p := ⟨b1, o1 + k * 7, none⟩) L1.out).trans (C1.out 0 (by decide)); have e1 : World.cell? _ ⟨b1, o1 + k * 7 + 1, none⟩ = some (.string t) := (hSw.cell (p := ⟨b1, o1 + k * 7 + 1, none⟩) L1.out).trans (C1.out 1 (by decide)); have e2 : World.cell? _ ⟨b1, o1 + k * 7 + 2, none⟩ = some (.string p) := (hSw.cell (p := ⟨b1, o1 + k * 7 + 2, none⟩) L1.out).trans (C1.out 2 (by decide)); have e3 : World.cell? _ ⟨b1, o1 + k * 7 + 3, none⟩ = some (.string q) := (hSw.cell (p := ⟨b1, o1 + k * 7 + 3, none⟩) L1.out).trans (C1.out 3 (by decide)); have e4 : World.cell? _ ⟨b1, o1 + k * 7 + 4, none⟩ = some (.string o) := (hSw.cell (p := ⟨b1, o1 + k * 7 + 4, none⟩) L1.out).trans (C1.out 4 (by decide)); have e5 : World.cell? _ ⟨b1, o1 + k * 7 + 5, none⟩ = some (.slice ha hn hc) := (hSw.cell (p := ⟨b1, o1 + k * 7 + 5, none⟩) L1.out).trans (C1.out 5 (by decide)); have e6 : World.cell? _ ⟨b1, o1 + k * 7 + 6, none⟩ = some (.slice ba bn bc) := (hSw.cell (p := ⟨b1, o1 + k * 7 + 6, none⟩) L1.out).trans (C1.out 6 (by decide)); go_simp; first | done | with_reducible rfl
        try simp only [Act.put, List.setIfInBounds_toArray, List.set_cons_zero, List.set_cons_succ]
        refine wpAnyH_take (i := 16) (oi := { dst := some 39, op := Op.move (Operand.tmp 0), type := 68, pos := "bare.go:41", after := #[], guard := none }) (v := ?_) rfl (by kernel_rfl) (by kernel_rfl) (by kernel_rfl) (fun _ _ _ h => h) (Or.inl ⟨by rfl, ?_⟩) hHeld ?_
        rotate_left
        · intro w hSw; (try dsimp only at hSw); go_simp; first | done | with_reducible rfl
        try simp only [Act.put, List.setIfInBounds_toArray, List.set_cons_zero, List.set_cons_succ]
        refine wpAnyH_take (i := 17) (oi := { dst := some 40, op := Op.move (Operand.tmp 5), type := 3, pos := "bare.go:41", after := #[], guard := none }) (v := ?_) rfl (by kernel_rfl) (by kernel_rfl) (by kernel_rfl) (fun _ _ _ h => h) (Or.inl ⟨by rfl, ?_⟩) hHeld ?_
        rotate_left
        · intro w hSw; (try dsimp only at hSw); go_simp; first | done | with_reducible rfl
        try simp only [Act.put, List.setIfInBounds_toArray, List.set_cons_zero, List.set_cons_succ]
        refine wpAnyH_take (i := 18) (oi := { dst := some 41, op := Op.indexAddr 68 (Operand.tmp 39) (Operand.tmp 40), type := 0, pos := "bare.go:41", after := #[{ on := 16, ground := Ground.data }, { on := 17, ground := Ground.data }], guard := none }) (v := ?_) rfl (by kernel_rfl) (by kernel_rfl) (by kernel_rfl) (fun _ _ _ h => h) (Or.inl ⟨by rfl, ?_⟩) hHeld ?_
        rotate_left
        · intro w hSw; (try dsimp only at hSw); go_simp; first | done | with_reducible rfl
        try simp only [Act.put, List.setIfInBounds_toArray, List.set_cons_zero, List.set_cons_succ]
        refine wpAnyH_take (i := 19) (oi := { dst := some 42, op := Op.fieldAddr 42 (Operand.tmp 41) 6, type := 0, pos := "bare.go:41", after := #[{ on := 18, ground := Ground.data }], guard := none }) (v := ?_) rfl (by kernel_rfl) (by kernel_rfl) (by kernel_rfl) (fun _ _ _ h => h) (Or.inl ⟨by rfl, ?_⟩) hHeld ?_
        rotate_left
        · intro w hSw; (try dsimp only at hSw); go_simp; first | done | with_reducible rfl
        try simp only [Act.put, List.setIfInBounds_toArray, List.set_cons_zero, List.set_cons_succ]
        refine wpAnyH_take (i := 20) (oi := { dst := some 43, op := Op.load 22 (Operand.tmp 42), type := 22, pos := "bare.go:41", after := #[{ on := 19, ground := Ground.data }], guard := none }) (v := ?_) rfl (by kernel_rfl) (by kernel_rfl) (by kernel_rfl) (fun _ _ _ h => h) (Or.inl ⟨by rfl, ?_⟩) hHeld ?_
        rotate_left
        · intro w hSw; (try dsimp only at hSw); have e0 : World.cell? _ ⟨b1, o1 + k * 7, none⟩ = some (.string m) := (hSw.cell (p := ⟨b1, o1 + k * 7, none⟩) L1.out).trans (C1.out 0 (by decide)); have e1 : World.cell? _ ⟨b1, o1 + k * 7 + 1, none⟩ = some (.string t) := (hSw.cell (p := ⟨b1, o1 + k * 7 + 1, none⟩) L1.out).trans (C1.out 1 (by decide)); have e2 : World.cell? _ ⟨b1, o1 + k * 7 + 2, none⟩ = some (.string p) := (hSw.cell (p := ⟨b1, o1 + k * 7 + 2, none⟩) L1.out).trans (C1.out 2 (by decide)); have e3 : World.cell? _ ⟨b1, o1 + k * 7 + 3, none⟩ = some (.string q) := (hSw.cell (p := ⟨b1, o1 + k * 7 + 3, none⟩) L1.out).trans (C1.out 3 (by decide)); have e4 : World.cell? _ ⟨b1, o1 + k * 7 + 4, none⟩ = some (.string o) := (hSw.cell (p := ⟨b1, o1 + k * 7 + 4, none⟩) L1.out).trans (C1.out 4 (by decide)); have e5 : World.cell? _ ⟨b1, o1 + k * 7 + 5, none⟩ = some (.slice ha hn hc) := (hSw.cell (p := ⟨b1, o1 + k * 7 + 5, none⟩) L1.out).trans (C1.out 5 (by decide)); have e6 : World.cell? _ ⟨b1, o1 + k * 7 + 6, none⟩ = some (.slice ba bn bc) := (hSw.cell (p := ⟨b1, o1 + k * 7 + 6, none⟩) L1.out).trans (C1.out 6 (by decide)); go_simp; first | done | with_reducible rfl
        try simp only [Act.put, List.setIfInBounds_toArray, List.set_cons_zero, List.set_cons_succ]
        refine wpAnyH_take (i := 21) (oi := { dst := some 44, op := Op.build 27 #[(0, Operand.tmp 33), (1, Operand.tmp 38), (2, Operand.tmp 43)], type := 27, pos := "bare.go:41", after := #[{ on := 10, ground := Ground.data }, { on := 15, ground := Ground.data }, { on := 20, ground := Ground.data }], guard := none }) (v := ?_) rfl (by kernel_rfl) (by kernel_rfl) (by kernel_rfl) (fun _ _ _ h => h) (Or.inl ⟨by rfl, ?_⟩) hHeld ?_
        rotate_left
        · intro w hSw; (try dsimp only at hSw); go_simp; first | done | with_reducible rfl
        try simp only [Act.put, List.setIfInBounds_toArray, List.set_cons_zero, List.set_cons_succ]
        refine wpAnyH_ready (rs := [22]) (by kernel_rfl) (by simp) ?_
        refine AllReadyH.cons (o := { dst := some 45, op := Op.call { callee := Callee.value (Operand.func 21), args := #[Operand.tmp 44], argTypes := #[27] }, type := 4, pos := "bare.go:41", after := #[{ on := 21, ground := Ground.data }], guard := none }) rfl (fun K hK => ?_) AllReadyH.nil
        clear hHeld
        go_simp
        refine LL.out.mono ?_
        rintro e w3 ⟨rfl, hB⟩
        have HB3 := hideL (HBd.out.trans (hB.mono HBd.out.size))
        clear hB
        refine hK.out _ _ (HB3.out) (fun hHeld => ?_)
        clear hK K
        try simp only [Act.put, List.setIfInBounds_toArray, List.set_cons_zero, List.set_cons_succ]
        refine wpAnyH_done (by kernel_rfl) ?_ _
        clear hHeld
        go_wp2_with (go_at_call 12; refine (LA.out _ HB3.out).mono ?_; rintro e w9 ⟨rfl, hB⟩; have HB9 := hideL (HB3.out.trans (hB.mono HB3.out.size)); clear hB)
        go_ret
        exact ⟨rfl, HB9.out⟩
      | false =>
        rw [hlg] at LL
        obtain ⟨hl1, hl2, hl3⟩ := lngP_no hlg
        have hbn : bn = x.body.length := hreq.2.2.2.2.2.2.le.1
        have hl4 := (longP_no hl3).1
        have hsz : m.size + t.size ≤ 900000 := by omega
        have LL := hideL LL
        have HSd := hideL (HS.out.next ((Below.refl W.heap.size W).drew))
        have HREQ := hideL hreq
        by_cases hm : mayR x
        · have LB := hideL (fun (W : World) (hb : Below w.heap.size w W) => bytes_okC hm m t p q o ha hn hc ba bn bc W (hreq.below hb) hsz (hEn W hb) (hSn W hb) (hTn W hb))
          have HM := hideL hm
          clear c1 l1 hkl hreq hm1 hm2 hEn hSn hTn hsa hlg hl1 hl2 hl3 hl4 hbn hsz hm
          go_wp2_with fail
          refine wp_region_held_drew (S := fun w' => Below w.heap.size w w') (by kernel_rfl) HBd.out (fun hHeld => ?_)
          refine wpAnyH_take (i := 0) (oi := { dst := some 23, op := Op.move (Operand.tmp 0), type := 68, pos := "bare.go:41", after := #[], guard := none }) (v := ?_) rfl (by kernel_rfl) (by kernel_rfl) (by kernel_rfl) (fun _ _ _ h => h) (Or.inl ⟨by rfl, ?_⟩) hHeld ?_
          rotate_left
          · intro w hSw; (try dsimp only at hSw); go_simp; first | done | with_reducible rfl
          try simp only [Act.put, List.setIfInBounds_toArray, List.set_cons_zero, List.set_cons_succ]
          refine wpAnyH_take (i := 1) (oi := { dst := some 24, op := Op.move (Operand.tmp 5), type := 3, pos := "bare.go:41", after := #[], guard := none }) (v := ?_) rfl (by kernel_rfl) (by kernel_rfl) (by kernel_rfl) (fun _ _ _ h => h) (Or.inl ⟨by rfl, ?_⟩) hHeld ?_
          rotate_left
          · intro w hSw; (try dsimp only at hSw); go_simp; first | done | with_reducible rfl
          try simp only [Act.put, List.setIfInBounds_toArray, List.set_cons_zero, List.set_cons_succ]
          refine wpAnyH_take (i := 2) (oi := { dst := some 25, op := Op.indexAddr 68 (Operand.tmp 23) (Operand.tmp 24), type := 0, pos := "bare.go:41", after := #[{ on := 0, ground := Ground.data }, { on := 1, ground := Ground.data }], guard := none }) (v := ?_) rfl (by kernel_rfl) (by kernel_rfl) (by kernel_rfl) (fun _ _ _ h => h) (Or.inl ⟨by rfl, ?_⟩) hHeld ?_
          rotate_left
          · intro w hSw; (try dsimp only at hSw); go_simp; first | done | with_reducible rfl
          try simp only [Act.put, List.setIfInBounds_toArray, List.set_cons_zero, List.set_cons_succ]
          refine wpAnyH_take (i := 3) (oi := { dst := some 26, op := Op.fieldAddr 42 (Operand.tmp 25) 0, type := 0, pos := "bare.go:41", after := #[{ on := 2, ground := Ground.data }], guard := none }) (v := ?_) rfl (by kernel_rfl) (by kernel_rfl) (by kernel_rfl) (fun _ _ _ h => h) (Or.inl ⟨by rfl, ?_⟩) hHeld ?_
          rotate_left
          · intro w hSw; (try dsimp only at hSw); go_simp; first | done | with_reducible rfl
          try simp only [Act.put, List.setIfInBounds_toArray, List.set_cons_zero, List.set_cons_succ]
          refine wpAnyH_take (i := 4) (oi := { dst := some 27, op := Op.load 9 (Operand.tmp 26), type := 9, pos := "bare.go:41", after := #[{ on := 3, ground := Ground.data }], guard := none }) (v := ?_) rfl (by kernel_rfl) (by kernel_rfl) (by kernel_rfl) (fun _ _ _ h => h) (Or.inl ⟨by rfl, ?_⟩) hHeld ?_
          rotate_left
          · intro w hSw; (try dsimp only at hSw); have e0 : World.cell? _ ⟨b1, o1 + k * 7, none⟩ = some (.string m) := (hSw.cell (p := ⟨b1, o1 + k * 7, none⟩) L1.out).trans (C1.out 0 (by decide)); have e1 : World.cell? _ ⟨b1, o1 + k * 7 + 1, none⟩ = some (.string t) := (hSw.cell (p := ⟨b1, o1 + k * 7 + 1, none⟩) L1.out).trans (C1.out 1 (by decide)); have e2 : World.cell? _ ⟨b1, o1 + k * 7 + 2, none⟩ = some (.string p) := (hSw.cell (p := ⟨b1, o1 + k * 7 + 2, none⟩) L1.out).trans (C1.out 2 (by decide)); have e3 : World.cell? _ ⟨b1, o1 + k * 7 + 3, none⟩ = some (.string q) := (hSw.cell (p := ⟨b1, o1 + k * 7 + 3, none⟩) L1.out).trans (C1.out 3 (by decide)); have e4 : World.cell? _ ⟨b1, o1 + k * 7 + 4, none⟩ = some (.string o) := (hSw.cell (p := ⟨b1, o1 + k * 7 + 4, none⟩) L1.out).trans (C1.out 4 (by decide)); have e5 : World.cell? _ ⟨b1, o1 + k * 7 + 5, none⟩ = some (.slice ha hn hc) := (hSw.cell (p := ⟨b1, o1 + k * 7 + 5, none⟩) L1.out).trans (C1.out 5 (by decide)); have e6 : World.cell? _ ⟨b1, o1 + k * 7 + 6, none⟩ = some (.slice ba bn bc) := (hSw.cell (p := ⟨b1, o1 + k * 7 + 6, none⟩) L1.out).trans (C1.out 6 (by decide)); go_simp; first | done | with_reducible rfl
          try simp only [Act.put, List.setIfInBounds_toArray, List.set_cons_zero, List.set_cons_succ]
          refine wpAnyH_take (i := 5) (oi := { dst := some 28, op := Op.move (Operand.tmp 0), type := 68, pos := "bare.go:41", after := #[], guard := none }) (v := ?_) rfl (by kernel_rfl) (by kernel_rfl) (by kernel_rfl) (fun _ _ _ h => h) (Or.inl ⟨by rfl, ?_⟩) hHeld ?_
          rotate_left
          · intro w hSw; (try dsimp only at hSw); go_simp; first | done | with_reducible rfl
          try simp only [Act.put, List.setIfInBounds_toArray, List.set_cons_zero, List.set_cons_succ]
          refine wpAnyH_take (i := 6) (oi := { dst := some 29, op := Op.move (Operand.tmp 5), type := 3, pos := "bare.go:41", after := #[], guard := none }) (v := ?_) rfl (by kernel_rfl) (by kernel_rfl) (by kernel_rfl) (fun _ _ _ h => h) (Or.inl ⟨by rfl, ?_⟩) hHeld ?_
          rotate_left
          · intro w hSw; (try dsimp only at hSw); go_simp; first | done | with_reducible rfl
          try simp only [Act.put, List.setIfInBounds_toArray, List.set_cons_zero, List.set_cons_succ]
          refine wpAnyH_take (i := 7) (oi := { dst := some 30, op := Op.indexAddr 68 (Operand.tmp 28) (Operand.tmp 29), type := 0, pos := "bare.go:41", after := #[{ on := 5, ground := Ground.data }, { on := 6, ground := Ground.data }], guard := none }) (v := ?_) rfl (by kernel_rfl) (by kernel_rfl) (by kernel_rfl) (fun _ _ _ h => h) (Or.inl ⟨by rfl, ?_⟩) hHeld ?_
          rotate_left
          · intro w hSw; (try dsimp only at hSw); go_simp; first | done | with_reducible rfl
          try simp only [Act.put, List.setIfInBounds_toArray, List.set_cons_zero, List.set_cons_succ]
          refine wpAnyH_take (i := 8) (oi := { dst := some 31, op := Op.fieldAddr 42 (Operand.tmp 30) 1, type := 0, pos := "bare.go:41", after := #[{ on := 7, ground := Ground.data }], guard := none }) (v := ?_) rfl (by kernel_rfl) (by kernel_rfl) (by kernel_rfl) (fun _ _ _ h => h) (Or.inl ⟨by rfl, ?_⟩) hHeld ?_
          rotate_left
          · intro w hSw; (try dsimp only at hSw); go_simp; first | done | with_reducible rfl
          try simp only [Act.put, List.setIfInBounds_toArray, List.set_cons_zero, List.set_cons_succ]
          refine wpAnyH_take (i := 9) (oi := { dst := some 32, op := Op.load 9 (Operand.tmp 31), type := 9, pos := "bare.go:41", after := #[{ on := 8, ground := Ground.data }], guard := none }) (v := ?_) rfl (by kernel_rfl) (by kernel_rfl) (by kernel_rfl) (fun _ _ _ h => h) (Or.inl ⟨by rfl, ?_⟩) hHeld ?_
          rotate_left
          · intro w hSw; (try dsimp only at hSw); have e0 : World.cell? _ ⟨b1, o1 + k * 7, none⟩ = some (.string m) := (hSw.cell (p := ⟨b1, o1 + k * 7, none⟩) L1.out).trans (C1.out 0 (by decide)); have e1 : World.cell? _ ⟨b1, o1 + k * 7 + 1, none⟩ = some (.string t) := (hSw.cell (p := ⟨b1, o1 + k * 7 + 1, none⟩) L1.out).trans (C1.out 1 (by decide)); have e2 : World.cell? _ ⟨b1, o1 + k * 7 + 2, none⟩ = some (.string p) := (hSw.cell (p := ⟨b1, o1 + k * 7 + 2, none⟩) L1.out).trans (C1.out 2 (by decide)); have e3 : World.cell? _ ⟨b1, o1 + k * 7 + 3, none⟩ = some (.string q) := (hSw.cell (p := ⟨b1, o1 + k * 7 + 3, none⟩) L1.out).trans (C1.out 3 (by decide)); have e4 : World.cell? _ ⟨b1, o1 + k * 7 + 4, none⟩ = some (.string o) := (hSw.cell (p := ⟨b1, o1 + k * 7 + 4, none⟩) L1.out).trans (C1.out 4 (by decide)); have e5 : World.cell? _ ⟨b1, o1 + k * 7 + 5, none⟩ = some (.slice ha hn hc) := (hSw.cell (p := ⟨b1, o1 + k * 7 + 5, none⟩) L1.out).trans (C1.out 5 (by decide)); have e6 : World.cell? _ ⟨b1, o1 + k * 7 + 6, none⟩ = some (.slice ba bn bc) := (hSw.cell (p := ⟨b1, o1 + k * 7 + 6, none⟩) L1.out).trans (C1.out 6 (by decide)); go_simp; first | done | with_reducible rfl
          try simp only [Act.put, List.setIfInBounds_toArray, List.set_cons_zero, List.set_cons_succ]
          refine wpAnyH_take (i := 10) (oi := { dst := some 33, op := Op.binOp BinOp.add 9 (Operand.tmp 27) (Operand.tmp 32) 9, type := 9, pos := "bare.go:41", after := #[{ on := 4, ground := Ground.data }, { on := 9, ground := Ground.data }], guard := none }) (v := ?_) rfl (by kernel_rfl) (by kernel_rfl) (by kernel_rfl) (fun _ _ _ h => h) (Or.inl ⟨by rfl, ?_⟩) hHeld ?_
          rotate_left
          · intro w hSw; (try dsimp only at hSw); go_simp; first | done | with_reducible rfl
          try simp only [Act.put, List.setIfInBounds_toArray, List.set_cons_zero, List.set_cons_succ]
          refine wpAnyH_take (i := 11) (oi := { dst := some 34, op := Op.move (Operand.tmp 0), type := 68, pos := "bare.go:41", after := #[], guard := none }) (v := ?_) rfl (by kernel_rfl) (by kernel_rfl) (by kernel_rfl) (fun _ _ _ h => h) (Or.inl ⟨by rfl, ?_⟩) hHeld ?_
          rotate_left
          · intro w hSw; (try dsimp only at hSw); go_simp; first | done | with_reducible rfl
          try simp only [Act.put, List.setIfInBounds_toArray, List.set_cons_zero, List.set_cons_succ]
          refine wpAnyH_take (i := 12) (oi := { dst := some 35, op := Op.move (Operand.tmp 5), type := 3, pos := "bare.go:41", after := #[], guard := none }) (v := ?_) rfl (by kernel_rfl) (by kernel_rfl) (by kernel_rfl) (fun _ _ _ h => h) (Or.inl ⟨by rfl, ?_⟩) hHeld ?_
          rotate_left
          · intro w hSw; (try dsimp only at hSw); go_simp; first | done | with_reducible rfl
          try simp only [Act.put, List.setIfInBounds_toArray, List.set_cons_zero, List.set_cons_succ]
          refine wpAnyH_take (i := 13) (oi := { dst := some 36, op := Op.indexAddr 68 (Operand.tmp 34) (Operand.tmp 35), type := 0, pos := "bare.go:41", after := #[{ on := 11, ground := Ground.data }, { on := 12, ground := Ground.data }], guard := none }) (v := ?_) rfl (by kernel_rfl) (by kernel_rfl) (by kernel_rfl) (fun _ _ _ h => h) (Or.inl ⟨by rfl, ?_⟩) hHeld ?_
          rotate_left
          · intro w hSw; (try dsimp only at hSw); go_simp; first | done | with_reducible rfl
          try simp only [Act.put, List.setIfInBounds_toArray, List.set_cons_zero, List.set_cons_succ]
          refine wpAnyH_take (i := 14) (oi := { dst := some 37, op := Op.fieldAddr 42 (Operand.tmp 36) 5, type := 0, pos := "bare.go:41", after := #[{ on := 13, ground := Ground.data }], guard := none }) (v := ?_) rfl (by kernel_rfl) (by kernel_rfl) (by kernel_rfl) (fun _ _ _ h => h) (Or.inl ⟨by rfl, ?_⟩) hHeld ?_
          rotate_left
          · intro w hSw; (try dsimp only at hSw); go_simp; first | done | with_reducible rfl
          try simp only [Act.put, List.setIfInBounds_toArray, List.set_cons_zero, List.set_cons_succ]
          refine wpAnyH_take (i := 15) (oi := { dst := some 38, op := Op.load 25 (Operand.tmp 37), type := 25, pos := "bare.go:41", after := #[{ on := 14, ground := Ground.data }], guard := none }) (v := ?_) rfl (by kernel_rfl) (by kernel_rfl) (by kernel_rfl) (fun _ _ _ h => h) (Or.inl ⟨by rfl, ?_⟩) hHeld ?_
          rotate_left
          · intro w hSw; (try dsimp only at hSw); have e0 : World.cell? _ ⟨b1, o1 + k * 7, none⟩ = some (.string m) := (hSw.cell (p := ⟨b1, o1 + k * 7, none⟩) L1.out).trans (C1.out 0 (by decide)); have e1 : World.cell? _ ⟨b1, o1 + k * 7 + 1, none⟩ = some (.string t) := (hSw.cell (p := ⟨b1, o1 + k * 7 + 1, none⟩) L1.out).trans (C1.out 1 (by decide)); have e2 : World.cell? _ ⟨b1, o1 + k * 7 + 2, none⟩ = some (.string p) := (hSw.cell (p := ⟨b1, o1 + k * 7 + 2, none⟩) L1.out).trans (C1.out 2 (by decide)); have e3 : World.cell? _ ⟨b1, o1 + k * 7 + 3, none⟩ = some (.string q) := (hSw.cell (p := ⟨b1, o1 + k * 7 + 3, none⟩) L1.out).trans (C1.out 3 (by decide)); have e4 : World.cell? _ ⟨b1, o1 + k * 7 + 4, none⟩ = some (.string o) := (hSw.cell (p := ⟨b1, o1 + k * 7 + 4, none⟩) L1.out).trans (C1.out 4 (by decide)); have e5 : World.cell? _ ⟨b1, o1 + k * 7 + 5, none⟩ = some (.slice ha hn hc) := (hSw.cell (p := ⟨b1, o1 + k * 7 + 5, none⟩) L1.out).trans (C1.out 5 (by decide)); have e6 : World.cell? _ ⟨b1, o1 + k * 7 + 6, none⟩ = some (.slice ba bn bc) := (hSw.cell (p := ⟨b1, o1 + k * 7 + 6, none⟩) L1.out).trans (C1.out 6 (by decide)); go_simp; first | done | with_reducible rfl
          try simp only [Act.put, List.setIfInBounds_toArray, List.set_cons_zero, List.set_cons_succ]
          refine wpAnyH_take (i := 16) (oi := { dst := some 39, op := Op.move (Operand.tmp 0), type := 68, pos := "bare.go:41", after := #[], guard := none }) (v := ?_) rfl (by kernel_rfl) (by kernel_rfl) (by kernel_rfl) (fun _ _ _ h => h) (Or.inl ⟨by rfl, ?_⟩) hHeld ?_
          rotate_left
          · intro w hSw; (try dsimp only at hSw); go_simp; first | done | with_reducible rfl
          try simp only [Act.put, List.setIfInBounds_toArray, List.set_cons_zero, List.set_cons_succ]
          refine wpAnyH_take (i := 17) (oi := { dst := some 40, op := Op.move (Operand.tmp 5), type := 3, pos := "bare.go:41", after := #[], guard := none }) (v := ?_) rfl (by kernel_rfl) (by kernel_rfl) (by kernel_rfl) (fun _ _ _ h => h) (Or.inl ⟨by rfl, ?_⟩) hHeld ?_
          rotate_left
          · intro w hSw; (try dsimp only at hSw); go_simp; first | done | with_reducible rfl
          try simp only [Act.put, List.setIfInBounds_toArray, List.set_cons_zero, List.set_cons_succ]
          refine wpAnyH_take (i := 18) (oi := { dst := some 41, op := Op.indexAddr 68 (Operand.tmp 39) (Operand.tmp 40), type := 0, pos := "bare.go:41", after := #[{ on := 16, ground := Ground.data }, { on := 17, ground := Ground.data }], guard := none }) (v := ?_) rfl (by kernel_rfl) (by kernel_rfl) (by kernel_rfl) (fun _ _ _ h => h) (Or.inl ⟨by rfl, ?_⟩) hHeld ?_
          rotate_left
          · intro w hSw; (try dsimp only at hSw); go_simp; first | done | with_reducible rfl
          try simp only [Act.put, List.setIfInBounds_toArray, List.set_cons_zero, List.set_cons_succ]
          refine wpAnyH_take (i := 19) (oi := { dst := some 42, op := Op.fieldAddr 42 (Operand.tmp 41) 6, type := 0, pos := "bare.go:41", after := #[{ on := 18, ground := Ground.data }], guard := none }) (v := ?_) rfl (by kernel_rfl) (by kernel_rfl) (by kernel_rfl) (fun _ _ _ h => h) (Or.inl ⟨by rfl, ?_⟩) hHeld ?_
          rotate_left
          · intro w hSw; (try dsimp only at hSw); go_simp; first | done | with_reducible rfl
          try simp only [Act.put, List.setIfInBounds_toArray, List.set_cons_zero, List.set_cons_succ]
          refine wpAnyH_take (i := 20) (oi := { dst := some 43, op := Op.load 22 (Operand.tmp 42), type := 22, pos := "bare.go:41", after := #[{ on := 19, ground := Ground.data }], guard := none }) (v := ?_) rfl (by kernel_rfl) (by kernel_rfl) (by kernel_rfl) (fun _ _ _ h => h) (Or.inl ⟨by rfl, ?_⟩) hHeld ?_
          rotate_left
          · intro w hSw; (try dsimp only at hSw); have e0 : World.cell? _ ⟨b1, o1 + k * 7, none⟩ = some (.string m) := (hSw.cell (p := ⟨b1, o1 + k * 7, none⟩) L1.out).trans (C1.out 0 (by decide)); have e1 : World.cell? _ ⟨b1, o1 + k * 7 + 1, none⟩ = some (.string t) := (hSw.cell (p := ⟨b1, o1 + k * 7 + 1, none⟩) L1.out).trans (C1.out 1 (by decide)); have e2 : World.cell? _ ⟨b1, o1 + k * 7 + 2, none⟩ = some (.string p) := (hSw.cell (p := ⟨b1, o1 + k * 7 + 2, none⟩) L1.out).trans (C1.out 2 (by decide)); have e3 : World.cell? _ ⟨b1, o1 + k * 7 + 3, none⟩ = some (.string q) := (hSw.cell (p := ⟨b1, o1 + k * 7 + 3, none⟩) L1.out).trans (C1.out 3 (by decide)); have e4 : World.cell? _ ⟨b1, o1 + k * 7 + 4, none⟩ = some (.string o) := (hSw.cell (p := ⟨b1, o1 + k * 7 + 4, none⟩) L1.out).trans (C1.out 4 (by decide)); have e5 : World.cell? _ ⟨b1, o1 + k * 7 + 5, none⟩ = some (.slice ha hn hc) := (hSw.cell (p := ⟨b1, o1 + k * 7 + 5, none⟩) L1.out).trans (C1.out 5 (by decide)); have e6 : World.cell? _ ⟨b1, o1 + k * 7 + 6, none⟩ = some (.slice ba bn bc) := (hSw.cell (p := ⟨b1, o1 + k * 7 + 6, none⟩) L1.out).trans (C1.out 6 (by decide)); go_simp; first | done | with_reducible rfl
          try simp only [Act.put, List.setIfInBounds_toArray, List.set_cons_zero, List.set_cons_succ]
          refine wpAnyH_take (i := 21) (oi := { dst := some 44, op := Op.build 27 #[(0, Operand.tmp 33), (1, Operand.tmp 38), (2, Operand.tmp 43)], type := 27, pos := "bare.go:41", after := #[{ on := 10, ground := Ground.data }, { on := 15, ground := Ground.data }, { on := 20, ground := Ground.data }], guard := none }) (v := ?_) rfl (by kernel_rfl) (by kernel_rfl) (by kernel_rfl) (fun _ _ _ h => h) (Or.inl ⟨by rfl, ?_⟩) hHeld ?_
          rotate_left
          · intro w hSw; (try dsimp only at hSw); go_simp; first | done | with_reducible rfl
          try simp only [Act.put, List.setIfInBounds_toArray, List.set_cons_zero, List.set_cons_succ]
          refine wpAnyH_ready (rs := [22]) (by kernel_rfl) (by simp) ?_
          refine AllReadyH.cons (o := { dst := some 45, op := Op.call { callee := Callee.value (Operand.func 21), args := #[Operand.tmp 44], argTypes := #[27] }, type := 4, pos := "bare.go:41", after := #[{ on := 21, ground := Ground.data }], guard := none }) rfl (fun K hK => ?_) AllReadyH.nil
          clear hHeld
          go_simp
          refine LL.out.mono ?_
          rintro e w3 ⟨rfl, hB⟩
          have HB3 := hideL (HBd.out.trans (hB.mono HBd.out.size))
          have HS3 := hideL (HSd.out.next hB)
          have f0 : w3.cell? ⟨b1, o1 + k * 7, none⟩ = some (.string m) := (HB3.out.cell (p := ⟨b1, o1 + k * 7, none⟩) L1.out).trans (C1.out 0 (by decide))
          have f1 : w3.cell? ⟨b1, o1 + k * 7 + 1, none⟩ = some (.string t) := (HB3.out.cell (p := ⟨b1, o1 + k * 7 + 1, none⟩) L1.out).trans (C1.out 1 (by decide))
          have f2 : w3.cell? ⟨b1, o1 + k * 7 + 2, none⟩ = some (.string p) := (HB3.out.cell (p := ⟨b1, o1 + k * 7 + 2, none⟩) L1.out).trans (C1.out 2 (by decide))
          have f3 : w3.cell? ⟨b1, o1 + k * 7 + 3, none⟩ = some (.string q) := (HB3.out.cell (p := ⟨b1, o1 + k * 7 + 3, none⟩) L1.out).trans (C1.out 3 (by decide))
          have f4 : w3.cell? ⟨b1, o1 + k * 7 + 4, none⟩ = some (.string o) := (HB3.out.cell (p := ⟨b1, o1 + k * 7 + 4, none⟩) L1.out).trans (C1.out 4 (by decide))
          have f5 : w3.cell? ⟨b1, o1 + k * 7 + 5, none⟩ = some (.slice ha hn hc) := (HB3.out.cell (p := ⟨b1, o1 + k * 7 + 5, none⟩) L1.out).trans (C1.out 5 (by decide))
          have f6 : w3.cell? ⟨b1, o1 + k * 7 + 6, none⟩ = some (.slice ba bn bc) := (HB3.out.cell (p := ⟨b1, o1 + k * 7 + 6, none⟩) L1.out).trans (C1.out 6 (by decide))
          clear hB
          refine hK.out _ _ (HB3.out) (fun hHeld => ?_)
          clear hK K
          try simp only [Act.put, List.setIfInBounds_toArray, List.set_cons_zero, List.set_cons_succ]
          refine wpAnyH_done (by kernel_rfl) ?_ _
          clear hHeld
          clear d0 d1 d2 d3 d4 d5 d6
          go_wp2_with (first
            | (go_at_call 31; refine (LB.out _ HB3.out).mono ?_; rintro e w4 ⟨⟨r, rfl, hbr⟩, hB⟩
               have hbw := HB3.out.trans (hB.mono HB3.out.size)
               obtain ⟨v1, w5, v2, w6, q1, q2, hst, hb6, hb51⟩ := (HS3.out.next hB).put hbw.size (Nat.le_trans hys (Nat.le_trans hk hn10)) HM.out HREQ.out hbr.gAt
               have hb5 := hbw.trans hb6
               have Q1 := hideL q1
               have Q2 := hideL q2
               have HST := hideL hst
               have HB6 := hideL hb5
               have hb5w := hbw.trans hb51
               have f0 : w5.cell? ⟨b1, o1 + k * 7, none⟩ = some (.string m) := (hb5w.cell (p := ⟨b1, o1 + k * 7, none⟩) L1.out).trans (C1.out 0 (by decide))
               have f1 : w5.cell? ⟨b1, o1 + k * 7 + 1, none⟩ = some (.string t) := (hb5w.cell (p := ⟨b1, o1 + k * 7 + 1, none⟩) L1.out).trans (C1.out 1 (by decide))
               have f2 : w5.cell? ⟨b1, o1 + k * 7 + 2, none⟩ = some (.string p) := (hb5w.cell (p := ⟨b1, o1 + k * 7 + 2, none⟩) L1.out).trans (C1.out 2 (by decide))
               have f3 : w5.cell? ⟨b1, o1 + k * 7 + 3, none⟩ = some (.string q) := (hb5w.cell (p := ⟨b1, o1 + k * 7 + 3, none⟩) L1.out).trans (C1.out 3 (by decide))
               have f4 : w5.cell? ⟨b1, o1 + k * 7 + 4, none⟩ = some (.string o) := (hb5w.cell (p := ⟨b1, o1 + k * 7 + 4, none⟩) L1.out).trans (C1.out 4 (by decide))
               have f5 : w5.cell? ⟨b1, o1 + k * 7 + 5, none⟩ = some (.slice ha hn hc) := (hb5w.cell (p := ⟨b1, o1 + k * 7 + 5, none⟩) L1.out).trans (C1.out 5 (by decide))
               have f6 : w5.cell? ⟨b1, o1 + k * 7 + 6, none⟩ = some (.slice ba bn bc) := (hb5w.cell (p := ⟨b1, o1 + k * 7 + 6, none⟩) L1.out).trans (C1.out 6 (by decide))
               clear hB hbw q1 q2 hst hb6 hb5 hb5w hb51 hbr)
            | (at_builtin; refine wpList_append_runP rfl (.tmp 57) (.tmp 58) 22 22 22 rfl rfl _ _ v1 w5 rfl rfl Q1.out ?_)
            | (at_builtin; refine wpList_append_runP rfl (.tmp 60) (.tmp 65) 68 68 68 rfl rfl _ _ v2 w6 rfl rfl Q2.out ?_))
          go_roundw
          case rel => exact ⟨k + 1, ys ++ [x], ds ++ [⟨m, t, p, q, o, ⟨ha, hn, hc⟩, ⟨ba, bn, bc⟩⟩], by omega, by go_num, by rw [List.length_append, List.length_singleton]; omega, HST, HB6⟩
          case measure => simp [RowKit.intOf]; omega
        · have LB := hideL (fun (W : World) (hb : Below w.heap.size w W) => bytes_badC hm m t p q o ha hn hc ba bn bc W (hreq.below hb) (longP_fits hl3) hsz (by omega) (by rw [← hbn]; omega) (hEn W hb) (hSn W hb))
          clear c1 l1 hkl hreq hm1 hm2 hEn hSn hTn hsa hlg hl1 hl2 hl3 hl4 hbn hsz hm
          go_wp2_with fail
          refine wp_region_held_drew (S := fun w' => Below w.heap.size w w') (by kernel_rfl) HBd.out (fun hHeld => ?_)
          refine wpAnyH_take (i := 0) (oi := { dst := some 23, op := Op.move (Operand.tmp 0), type := 68, pos := "bare.go:41", after := #[], guard := none }) (v := ?_) rfl (by kernel_rfl) (by kernel_rfl) (by kernel_rfl) (fun _ _ _ h => h) (Or.inl ⟨by rfl, ?_⟩) hHeld ?_
          rotate_left
          · intro w hSw; (try dsimp only at hSw); go_simp; first | done | with_reducible rfl
          try simp only [Act.put, List.setIfInBounds_toArray, List.set_cons_zero, List.set_cons_succ]
          refine wpAnyH_take (i := 1) (oi := { dst := some 24, op := Op.move (Operand.tmp 5), type := 3, pos := "bare.go:41", after := #[], guard := none }) (v := ?_) rfl (by kernel_rfl) (by kernel_rfl) (by kernel_rfl) (fun _ _ _ h => h) (Or.inl ⟨by rfl, ?_⟩) hHeld ?_
          rotate_left
          · intro w hSw; (try dsimp only at hSw); go_simp; first | done | with_reducible rfl
          try simp only [Act.put, List.setIfInBounds_toArray, List.set_cons_zero, List.set_cons_succ]
          refine wpAnyH_take (i := 2) (oi := { dst := some 25, op := Op.indexAddr 68 (Operand.tmp 23) (Operand.tmp 24), type := 0, pos := "bare.go:41", after := #[{ on := 0, ground := Ground.data }, { on := 1, ground := Ground.data }], guard := none }) (v := ?_) rfl (by kernel_rfl) (by kernel_rfl) (by kernel_rfl) (fun _ _ _ h => h) (Or.inl ⟨by rfl, ?_⟩) hHeld ?_
          rotate_left
          · intro w hSw; (try dsimp only at hSw); go_simp; first | done | with_reducible rfl
          try simp only [Act.put, List.setIfInBounds_toArray, List.set_cons_zero, List.set_cons_succ]
          refine wpAnyH_take (i := 3) (oi := { dst := some 26, op := Op.fieldAddr 42 (Operand.tmp 25) 0, type := 0, pos := "bare.go:41", after := #[{ on := 2, ground := Ground.data }], guard := none }) (v := ?_) rfl (by kernel_rfl) (by kernel_rfl) (by kernel_rfl) (fun _ _ _ h => h) (Or.inl ⟨by rfl, ?_⟩) hHeld ?_
          rotate_left
          · intro w hSw; (try dsimp only at hSw); go_simp; first | done | with_reducible rfl
          try simp only [Act.put, List.setIfInBounds_toArray, List.set_cons_zero, List.set_cons_succ]
          refine wpAnyH_take (i := 4) (oi := { dst := some 27, op := Op.load 9 (Operand.tmp 26), type := 9, pos := "bare.go:41", after := #[{ on := 3, ground := Ground.data }], guard := none }) (v := ?_) rfl (by kernel_rfl) (by kernel_rfl) (by kernel_rfl) (fun _ _ _ h => h) (Or.inl ⟨by rfl, ?_⟩) hHeld ?_
          rotate_left
          · intro w hSw; (try dsimp only at hSw); have e0 : World.cell? _ ⟨b1, o1 + k * 7, none⟩ = some (.string m) := (hSw.cell (p := ⟨b1, o1 + k * 7, none⟩) L1.out).trans (C1.out 0 (by decide)); have e1 : World.cell? _ ⟨b1, o1 + k * 7 + 1, none⟩ = some (.string t) := (hSw.cell (p := ⟨b1, o1 + k * 7 + 1, none⟩) L1.out).trans (C1.out 1 (by decide)); have e2 : World.cell? _ ⟨b1, o1 + k * 7 + 2, none⟩ = some (.string p) := (hSw.cell (p := ⟨b1, o1 + k * 7 + 2, none⟩) L1.out).trans (C1.out 2 (by decide)); have e3 : World.cell? _ ⟨b1, o1 + k * 7 + 3, none⟩ = some (.string q) := (hSw.cell (p := ⟨b1, o1 + k * 7 + 3, none⟩) L1.out).trans (C1.out 3 (by decide)); have e4 : World.cell? _ ⟨b1, o1 + k * 7 + 4, none⟩ = some (.string o) := (hSw.cell (p := ⟨b1, o1 + k * 7 + 4, none⟩) L1.out).trans (C1.out 4 (by decide)); have e5 : World.cell? _ ⟨b1, o1 + k * 7 + 5, none⟩ = some (.slice ha hn hc) := (hSw.cell (p := ⟨b1, o1 + k * 7 + 5, none⟩) L1.out).trans (C1.out 5 (by decide)); have e6 : World.cell? _ ⟨b1, o1 + k * 7 + 6, none⟩ = some (.slice ba bn bc) := (hSw.cell (p := ⟨b1, o1 + k * 7 + 6, none⟩) L1.out).trans (C1.out 6 (by decide)); go_simp; first | done | with_reducible rfl
          try simp only [Act.put, List.setIfInBounds_toArray, List.set_cons_zero, List.set_cons_succ]
          refine wpAnyH_take (i := 5) (oi := { dst := some 28, op := Op.move (Operand.tmp 0), type := 68, pos := "bare.go:41", after := #[], guard := none }) (v := ?_) rfl (by kernel_rfl) (by kernel_rfl) (by kernel_rfl) (fun _ _ _ h => h) (Or.inl ⟨by rfl, ?_⟩) hHeld ?_
          rotate_left
          · intro w hSw; (try dsimp only at hSw); go_simp; first | done | with_reducible rfl
          try simp only [Act.put, List.setIfInBounds_toArray, List.set_cons_zero, List.set_cons_succ]
          refine wpAnyH_take (i := 6) (oi := { dst := some 29, op := Op.move (Operand.tmp 5), type := 3, pos := "bare.go:41", after := #[], guard := none }) (v := ?_) rfl (by kernel_rfl) (by kernel_rfl) (by kernel_rfl) (fun _ _ _ h => h) (Or.inl ⟨by rfl, ?_⟩) hHeld ?_
          rotate_left
          · intro w hSw; (try dsimp only at hSw); go_simp; first | done | with_reducible rfl
          try simp only [Act.put, List.setIfInBounds_toArray, List.set_cons_zero, List.set_cons_succ]
          refine wpAnyH_take (i := 7) (oi := { dst := some 30, op := Op.indexAddr 68 (Operand.tmp 28) (Operand.tmp 29), type := 0, pos := "bare.go:41", after := #[{ on := 5, ground := Ground.data }, { on := 6, ground := Ground.data }], guard := none }) (v := ?_) rfl (by kernel_rfl) (by kernel_rfl) (by kernel_rfl) (fun _ _ _ h => h) (Or.inl ⟨by rfl, ?_⟩) hHeld ?_
          rotate_left
          · intro w hSw; (try dsimp only at hSw); go_simp; first | done | with_reducible rfl
          try simp only [Act.put, List.setIfInBounds_toArray, List.set_cons_zero, List.set_cons_succ]
          refine wpAnyH_take (i := 8) (oi := { dst := some 31, op := Op.fieldAddr 42 (Operand.tmp 30) 1, type := 0, pos := "bare.go:41", after := #[{ on := 7, ground := Ground.data }], guard := none }) (v := ?_) rfl (by kernel_rfl) (by kernel_rfl) (by kernel_rfl) (fun _ _ _ h => h) (Or.inl ⟨by rfl, ?_⟩) hHeld ?_
          rotate_left
          · intro w hSw; (try dsimp only at hSw); go_simp; first | done | with_reducible rfl
          try simp only [Act.put, List.setIfInBounds_toArray, List.set_cons_zero, List.set_cons_succ]
          refine wpAnyH_take (i := 9) (oi := { dst := some 32, op := Op.load 9 (Operand.tmp 31), type := 9, pos := "bare.go:41", after := #[{ on := 8, ground := Ground.data }], guard := none }) (v := ?_) rfl (by kernel_rfl) (by kernel_rfl) (by kernel_rfl) (fun _ _ _ h => h) (Or.inl ⟨by rfl, ?_⟩) hHeld ?_
          rotate_left
          · intro w hSw; (try dsimp only at hSw); have e0 : World.cell? _ ⟨b1, o1 + k * 7, none⟩ = some (.string m) := (hSw.cell (p := ⟨b1, o1 + k * 7, none⟩) L1.out).trans (C1.out 0 (by decide)); have e1 : World.cell? _ ⟨b1, o1 + k * 7 + 1, none⟩ = some (.string t) := (hSw.cell (p := ⟨b1, o1 + k * 7 + 1, none⟩) L1.out).trans (C1.out 1 (by decide)); have e2 : World.cell? _ ⟨b1, o1 + k * 7 + 2, none⟩ = some (.string p) := (hSw.cell (p := ⟨b1, o1 + k * 7 + 2, none⟩) L1.out).trans (C1.out 2 (by decide)); have e3 : World.cell? _ ⟨b1, o1 + k * 7 + 3, none⟩ = some (.string q) := (hSw.cell (p := ⟨b1, o1 + k * 7 + 3, none⟩) L1.out).trans (C1.out 3 (by decide)); have e4 : World.cell? _ ⟨b1, o1 + k * 7 + 4, none⟩ = some (.string o) := (hSw.cell (p := ⟨b1, o1 + k * 7 + 4, none⟩) L1.out).trans (C1.out 4 (by decide)); have e5 : World.cell? _ ⟨b1, o1 + k * 7 + 5, none⟩ = some (.slice ha hn hc) := (hSw.cell (p := ⟨b1, o1 + k * 7 + 5, none⟩) L1.out).trans (C1.out 5 (by decide)); have e6 : World.cell? _ ⟨b1, o1 + k * 7 + 6, none⟩ = some (.slice ba bn bc) := (hSw.cell (p := ⟨b1, o1 + k * 7 + 6, none⟩) L1.out).trans (C1.out 6 (by decide)); go_simp; first | done | with_reducible rfl
          try simp only [Act.put, List.setIfInBounds_toArray, List.set_cons_zero, List.set_cons_succ]
          refine wpAnyH_take (i := 10) (oi := { dst := some 33, op := Op.binOp BinOp.add 9 (Operand.tmp 27) (Operand.tmp 32) 9, type := 9, pos := "bare.go:41", after := #[{ on := 4, ground := Ground.data }, { on := 9, ground := Ground.data }], guard := none }) (v := ?_) rfl (by kernel_rfl) (by kernel_rfl) (by kernel_rfl) (fun _ _ _ h => h) (Or.inl ⟨by rfl, ?_⟩) hHeld ?_
          rotate_left
          · intro w hSw; (try dsimp only at hSw); go_simp; first | done | with_reducible rfl
          try simp only [Act.put, List.setIfInBounds_toArray, List.set_cons_zero, List.set_cons_succ]
          refine wpAnyH_take (i := 11) (oi := { dst := some 34, op := Op.move (Operand.tmp 0), type := 68, pos := "bare.go:41", after := #[], guard := none }) (v := ?_) rfl (by kernel_rfl) (by kernel_rfl) (by kernel_rfl) (fun _ _ _ h => h) (Or.inl ⟨by rfl, ?_⟩) hHeld ?_
          rotate_left
          · intro w hSw; (try dsimp only at hSw); go_simp; first | done | with_reducible rfl
          try simp only [Act.put, List.setIfInBounds_toArray, List.set_cons_zero, List.set_cons_succ]
          refine wpAnyH_take (i := 12) (oi := { dst := some 35, op := Op.move (Operand.tmp 5), type := 3, pos := "bare.go:41", after := #[], guard := none }) (v := ?_) rfl (by kernel_rfl) (by kernel_rfl) (by kernel_rfl) (fun _ _ _ h => h) (Or.inl ⟨by rfl, ?_⟩) hHeld ?_
          rotate_left
          · intro w hSw; (try dsimp only at hSw); go_simp; first | done | with_reducible rfl
          try simp only [Act.put, List.setIfInBounds_toArray, List.set_cons_zero, List.set_cons_succ]
          refine wpAnyH_take (i := 13) (oi := { dst := some 36, op := Op.indexAddr 68 (Operand.tmp 34) (Operand.tmp 35), type := 0, pos := "bare.go:41", after := #[{ on := 11, ground := Ground.data }, { on := 12, ground := Ground.data }], guard := none }) (v := ?_) rfl (by kernel_rfl) (by kernel_rfl) (by kernel_rfl) (fun _ _ _ h => h) (Or.inl ⟨by rfl, ?_⟩) hHeld ?_
          rotate_left
          · intro w hSw; (try dsimp only at hSw); go_simp; first | done | with_reducible rfl
          try simp only [Act.put, List.setIfInBounds_toArray, List.set_cons_zero, List.set_cons_succ]
          refine wpAnyH_take (i := 14) (oi := { dst := some 37, op := Op.fieldAddr 42 (Operand.tmp 36) 5, type := 0, pos := "bare.go:41", after := #[{ on := 13, ground := Ground.data }], guard := none }) (v := ?_) rfl (by kernel_rfl) (by kernel_rfl) (by kernel_rfl) (fun _ _ _ h => h) (Or.inl ⟨by rfl, ?_⟩) hHeld ?_
          rotate_left
          · intro w hSw; (try dsimp only at hSw); go_simp; first | done | with_reducible rfl
          try simp only [Act.put, List.setIfInBounds_toArray, List.set_cons_zero, List.set_cons_succ]
          refine wpAnyH_take (i := 15) (oi := { dst := some 38, op := Op.load 25 (Operand.tmp 37), type := 25, pos := "bare.go:41", after := #[{ on := 14, ground := Ground.data }], guard := none }) (v := ?_) rfl (by kernel_rfl) (by kernel_rfl) (by kernel_rfl) (fun _ _ _ h => h) (Or.inl ⟨by rfl, ?_⟩) hHeld ?_
          rotate_left
          · intro w hSw; (try dsimp only at hSw); have e0 : World.cell? _ ⟨b1, o1 + k * 7, none⟩ = some (.string m) := (hSw.cell (p := ⟨b1, o1 + k * 7, none⟩) L1.out).trans (C1.out 0 (by decide)); have e1 : World.cell? _ ⟨b1, o1 + k * 7 + 1, none⟩ = some (.string t) := (hSw.cell (p := ⟨b1, o1 + k * 7 + 1, none⟩) L1.out).trans (C1.out 1 (by decide)); have e2 : World.cell? _ ⟨b1, o1 + k * 7 + 2, none⟩ = some (.string p) := (hSw.cell (p := ⟨b1, o1 + k * 7 + 2, none⟩) L1.out).trans (C1.out 2 (by decide)); have e3 : World.cell? _ ⟨b1, o1 + k * 7 + 3, none⟩ = some (.string q) := (hSw.cell (p := ⟨b1, o1 + k * 7 + 3, none⟩) L1.out).trans (C1.out 3 (by decide)); have e4 : World.cell? _ ⟨b1, o1 + k * 7 + 4, none⟩ = some (.string o) := (hSw.cell (p := ⟨b1, o1 + k * 7 + 4, none⟩) L1.out).trans (C1.out 4 (by decide)); have e5 : World.cell? _ ⟨b1, o1 + k * 7 + 5, none⟩ = some (.slice ha hn hc) := (hSw.cell (p := ⟨b1, o1 + k * 7 + 5, none⟩) L1.out).trans (C1.out 5 (by decide)); have e6 : World.cell? _ ⟨b1, o1 + k * 7 + 6, none⟩ = some (.slice ba bn bc) := (hSw.cell (p := ⟨b1, o1 + k * 7 + 6, none⟩) L1.out).trans (C1.out 6 (by decide)); go_simp; first | done | with_reducible rfl
          try simp only [Act.put, List.setIfInBounds_toArray, List.set_cons_zero, List.set_cons_succ]
          refine wpAnyH_take (i := 16) (oi := { dst := some 39, op := Op.move (Operand.tmp 0), type := 68, pos := "bare.go:41", after := #[], guard := none }) (v := ?_) rfl (by kernel_rfl) (by kernel_rfl) (by kernel_rfl) (fun _ _ _ h => h) (Or.inl ⟨by rfl, ?_⟩) hHeld ?_
          rotate_left
          · intro w hSw; (try dsimp only at hSw); go_simp; first | done | with_reducible rfl
          try simp only [Act.put, List.setIfInBounds_toArray, List.set_cons_zero, List.set_cons_succ]
          refine wpAnyH_take (i := 17) (oi := { dst := some 40, op := Op.move (Operand.tmp 5), type := 3, pos := "bare.go:41", after := #[], guard := none }) (v := ?_) rfl (by kernel_rfl) (by kernel_rfl) (by kernel_rfl) (fun _ _ _ h => h) (Or.inl ⟨by rfl, ?_⟩) hHeld ?_
          rotate_left
          · intro w hSw; (try dsimp only at hSw); go_simp; first | done | with_reducible rfl
          try simp only [Act.put, List.setIfInBounds_toArray, List.set_cons_zero, List.set_cons_succ]
          refine wpAnyH_take (i := 18) (oi := { dst := some 41, op := Op.indexAddr 68 (Operand.tmp 39) (Operand.tmp 40), type := 0, pos := "bare.go:41", after := #[{ on := 16, ground := Ground.data }, { on := 17, ground := Ground.data }], guard := none }) (v := ?_) rfl (by kernel_rfl) (by kernel_rfl) (by kernel_rfl) (fun _ _ _ h => h) (Or.inl ⟨by rfl, ?_⟩) hHeld ?_
          rotate_left
          · intro w hSw; (try dsimp only at hSw); go_simp; first | done | with_reducible rfl
          try simp only [Act.put, List.setIfInBounds_toArray, List.set_cons_zero, List.set_cons_succ]
          refine wpAnyH_take (i := 19) (oi := { dst := some 42, op := Op.fieldAddr 42 (Operand.tmp 41) 6, type := 0, pos := "bare.go:41", after := #[{ on := 18, ground := Ground.data }], guard := none }) (v := ?_) rfl (by kernel_rfl) (by kernel_rfl) (by kernel_rfl) (fun _ _ _ h => h) (Or.inl ⟨by rfl, ?_⟩) hHeld ?_
          rotate_left
          · intro w hSw; (try dsimp only at hSw); go_simp; first | done | with_reducible rfl
          try simp only [Act.put, List.setIfInBounds_toArray, List.set_cons_zero, List.set_cons_succ]
          refine wpAnyH_take (i := 20) (oi := { dst := some 43, op := Op.load 22 (Operand.tmp 42), type := 22, pos := "bare.go:41", after := #[{ on := 19, ground := Ground.data }], guard := none }) (v := ?_) rfl (by kernel_rfl) (by kernel_rfl) (by kernel_rfl) (fun _ _ _ h => h) (Or.inl ⟨by rfl, ?_⟩) hHeld ?_
          rotate_left
          · intro w hSw; (try dsimp only at hSw); have e0 : World.cell? _ ⟨b1, o1 + k * 7, none⟩ = some (.string m) := (hSw.cell (p := ⟨b1, o1 + k * 7, none⟩) L1.out).trans (C1.out 0 (by decide)); have e1 : World.cell? _ ⟨b1, o1 + k * 7 + 1, none⟩ = some (.string t) := (hSw.cell (p := ⟨b1, o1 + k * 7 + 1, none⟩) L1.out).trans (C1.out 1 (by decide)); have e2 : World.cell? _ ⟨b1, o1 + k * 7 + 2, none⟩ = some (.string p) := (hSw.cell (p := ⟨b1, o1 + k * 7 + 2, none⟩) L1.out).trans (C1.out 2 (by decide)); have e3 : World.cell? _ ⟨b1, o1 + k * 7 + 3, none⟩ = some (.string q) := (hSw.cell (p := ⟨b1, o1 + k * 7 + 3, none⟩) L1.out).trans (C1.out 3 (by decide)); have e4 : World.cell? _ ⟨b1, o1 + k * 7 + 4, none⟩ = some (.string o) := (hSw.cell (p := ⟨b1, o1 + k * 7 + 4, none⟩) L1.out).trans (C1.out 4 (by decide)); have e5 : World.cell? _ ⟨b1, o1 + k * 7 + 5, none⟩ = some (.slice ha hn hc) := (hSw.cell (p := ⟨b1, o1 + k * 7 + 5, none⟩) L1.out).trans (C1.out 5 (by decide)); have e6 : World.cell? _ ⟨b1, o1 + k * 7 + 6, none⟩ = some (.slice ba bn bc) := (hSw.cell (p := ⟨b1, o1 + k * 7 + 6, none⟩) L1.out).trans (C1.out 6 (by decide)); go_simp; first | done | with_reducible rfl
          try simp only [Act.put, List.setIfInBounds_toArray, List.set_cons_zero, List.set_cons_succ]
          refine wpAnyH_take (i := 21) (oi := { dst := some 44, op := Op.build 27 #[(0, Operand.tmp 33), (1, Operand.tmp 38), (2, Operand.tmp 43)], type := 27, pos := "bare.go:41", after := #[{ on := 10, ground := Ground.data }, { on := 15, ground := Ground.data }, { on := 20, ground := Ground.data }], guard := none }) (v := ?_) rfl (by kernel_rfl) (by kernel_rfl) (by kernel_rfl) (fun _ _ _ h => h) (Or.inl ⟨by rfl, ?_⟩) hHeld ?_
          rotate_left
          · intro w hSw; (try dsimp only at hSw); go_simp; first | done | with_reducible rfl
          try simp only [Act.put, List.setIfInBounds_toArray, List.set_cons_zero, List.set_cons_succ]
          refine wpAnyH_ready (rs := [22]) (by kernel_rfl) (by simp) ?_
          refine AllReadyH.cons (o := { dst := some 45, op := Op.call { callee := Callee.value (Operand.func 21), args := #[Operand.tmp 44], argTypes := #[27] }, type := 4, pos := "bare.go:41", after := #[{ on := 21, ground := Ground.data }], guard := none }) rfl (fun K hK => ?_) AllReadyH.nil
          clear hHeld
          go_simp
          refine LL.out.mono ?_
          rintro e w3 ⟨rfl, hB⟩
          have HB3 := hideL (HBd.out.trans (hB.mono HBd.out.size))
          have HS3 := hideL (HSd.out.next hB)
          have f0 : w3.cell? ⟨b1, o1 + k * 7, none⟩ = some (.string m) := (HB3.out.cell (p := ⟨b1, o1 + k * 7, none⟩) L1.out).trans (C1.out 0 (by decide))
          have f1 : w3.cell? ⟨b1, o1 + k * 7 + 1, none⟩ = some (.string t) := (HB3.out.cell (p := ⟨b1, o1 + k * 7 + 1, none⟩) L1.out).trans (C1.out 1 (by decide))
          have f2 : w3.cell? ⟨b1, o1 + k * 7 + 2, none⟩ = some (.string p) := (HB3.out.cell (p := ⟨b1, o1 + k * 7 + 2, none⟩) L1.out).trans (C1.out 2 (by decide))
          have f3 : w3.cell? ⟨b1, o1 + k * 7 + 3, none⟩ = some (.string q) := (HB3.out.cell (p := ⟨b1, o1 + k * 7 + 3, none⟩) L1.out).trans (C1.out 3 (by decide))
          have f4 : w3.cell? ⟨b1, o1 + k * 7 + 4, none⟩ = some (.string o) := (HB3.out.cell (p := ⟨b1, o1 + k * 7 + 4, none⟩) L1.out).trans (C1.out 4 (by decide))
          have f5 : w3.cell? ⟨b1, o1 + k * 7 + 5, none⟩ = some (.slice ha hn hc) := (HB3.out.cell (p := ⟨b1, o1 + k * 7 + 5, none⟩) L1.out).trans (C1.out 5 (by decide))
          have f6 : w3.cell? ⟨b1, o1 + k * 7 + 6, none⟩ = some (.slice ba bn bc) := (HB3.out.cell (p := ⟨b1, o1 + k * 7 + 6, none⟩) L1.out).trans (C1.out 6 (by decide))
          clear hB
          refine hK.out _ _ (HB3.out) (fun hHeld => ?_)
          clear hK K
          try simp only [Act.put, List.setIfInBounds_toArray, List.set_cons_zero, List.set_cons_succ]
          refine wpAnyH_done (by kernel_rfl) ?_ _
          clear hHeld
          clear d0 d1 d2 d3 d4 d5 d6
          go_wp2_with (first
            | (go_at_call 31; refine (LB.out _ HB3.out).mono ?_; rintro e w4 ⟨rfl, hB⟩
               have HS4 := hideL (HS3.out.next hB)
               have HB4 := hideL (HB3.out.trans (hB.mono HB3.out.size))
               clear hB))
          go_roundw
          case rel => exact ⟨k + 1, ys, ds, by omega, by go_num, by omega, HS4, HB4⟩
          case measure => simp [RowKit.intOf]; omega
    · obtain rfl : k = n := by omega
      have hlt' : ¬ (k : Int) < (k : Int) := by omega
      have hrm := rows_may HS.out.may
      have hE0 : rawE ((ys.map rawP).flatMap wrtP) = 0 := by unfold rawE; rw [hrm]; rfl
      have hL0 : rawL ((ys.map rawP).flatMap wrtP) = ys.map rawP := by unfold rawL; rw [hrm]; rfl
      have hrl := rows_len HS.out.may
      have LR := raws_any _ _ W HS.out.bytes.gAt (by omega) (HT.out.1.1.next HB.out) (HT.out.1.2.next HB.out)
      rw [hE0, hL0] at LR
      obtain ⟨wa, wc, hwv⟩ := HS.out.want.gAt.len
      subst hwv
      have LR := hideL LR
      have hN : (ys.map rawP).length = ds.length := by rw [List.length_map, HS.out.len]
      obtain ⟨N, hNe⟩ : ∃ N, ds.length = N := ⟨_, rfl⟩
      have HWANT := hideL HS.out.want.gAt
      rw [hNe] at hN HWANT ⊢
      have hN10 : N ≤ 10 := by
        have := HS.out.len
        omega
      have HDN := hideL hNe
      have HNN := hideL hN
      have hne : (((ys.map rawP).length : Int) != (N : Int)) = false := by rw [hN]; simp
      clear hrm hE0 hL0 hrl hNe
      go_wp2_with (first
        | (go_at_call 17; refine LR.out.mono ?_; rintro e w2 ⟨⟨xa, xn, xc⟩, rfl, hraw, hB⟩
           obtain ⟨xa', xc', hxe⟩ := hraw.at.len
           simp only [Sl.v] at hxe
           injection hxe with hx1 hx2 hx3
           subst hx1 hx3
           rw [hN] at hx2
           subst hx2
           simp only [Sl.v] at hraw ⊢
           have HRAW := hideL hraw
           have HB2 := hideL (HB.out.trans (hB.mono HB.out.size))
           have HW2 := hideL (HWANT.out.below hB)
           clear hB hraw))
      clear hN hne
      go_loopw [10] (fun i wr => ∃ j : Nat, j ≤ xn ∧ i = .int .i64 j ∧ HidL (Below w2.heap.size w2 wr)) (fun i _ => xn - (RowKit.intOf i).toNat)
      case atStart => exact ⟨0, Nat.zero_le _, rfl, ⟨Below.refl _ _⟩⟩
      case round =>
        obtain ⟨j, hj, rfl, HBW⟩ := hrel
        obtain ⟨V, rfl⟩ : ∃ W, W = wr := ⟨_, rfl⟩
        have hbv : Below w.heap.size w V := HB2.out.trans (HBW.out.mono HB2.out.size)
        by_cases hjl : j < xn
        · have hjl' : (j : Int) < (xn : Int) := by omega
          have hjd : j < ds.length := by rw [HDN.out]; exact hjl
          have hjy : j < ys.length := by rw [← HS.out.len]; exact hjd
          obtain ⟨b1, o1, ⟨rs, ⟨ra, rn, rc⟩, ⟨sa, sn, sc⟩⟩, rfl, l1, d0, d1, d2, hra⟩ := HRAW.out.at.at (k := j) hjl
          simp only [Sl.v] at d0 d1 d2
          obtain ⟨b3, o3, e3, l2, cc⟩ := HW2.out.at (k := j) hjl
          subst e3
          have hreq := HS.out.get hjd
          have hmay : mayR (ys.getD j ⟨[], [], [], [], [], [], []⟩) := by
            rw [show ys.getD j ⟨[], [], [], [], [], [], []⟩ = ys[j] by simp [List.getD, hjy]]
            exact HS.out.may _ (List.getElem_mem hjy)
          have hrw : (ys.map rawP).getD j ⟨[], [], []⟩ = rawP (ys.getD j ⟨[], [], [], [], [], [], []⟩) := by simp [List.getD, hjy]
          rw [hrw] at hra
          rw [show ds.getD j KQ.dft = ds.getD j qv0 from rfl] at cc
          generalize ys.getD j ⟨[], [], [], [], [], [], []⟩ = y at hra hreq hmay
          generalize ds.getD j qv0 = c at cc hreq
          obtain ⟨m, t, p, q, o, ⟨ha, hn, hc⟩, ⟨ba, bn, bc⟩⟩ := c
          have e0 := (HBW.out.cell (p := ⟨b1, o1 + j * 3, none⟩) l1).trans d0
          have e1 := (HBW.out.cell (p := ⟨b1, o1 + j * 3 + 1, none⟩) l1).trans d1
          have e2 := (HBW.out.cell (p := ⟨b1, o1 + j * 3 + 2, none⟩) l1).trans d2
          have hfm := (fit_may hmay.2).1
          have hwp := (wrtB_parts (may_wrt hmay)).1.2
          have hhl := mayH_len hfm
          have hbl := (fit_may hmay.2).2.1
          have LO := hideL (of_okC hmay.1 rs ra rn rc sa sn sc V (hra.below HBW.out) (good_fits hfm) (by rw [← size_list, hra.1]; omega) (show y.heads.length ≤ 1000 by omega) (show y.body.length ≤ 1000000 by omega) (HT.out.1.1.next hbv) (HT.out.1.2.next hbv))
          have HL := hideL (show y.heads.length ≤ 1000 by omega)
          have HREQ := hideL hreq
          have HBV := hideL hbv
          have L2 := hideL l2
          have CC := hideL cc
          clear d0 d1 d2 l1 l2 cc hra hrw hreq hmay hfm hwp hhl hbl hbv hjd hjy
          go_wp2_with (first
            | (go_at_call 22; refine LO.out.mono ?_; rintro e w6 ⟨⟨m2, t2, p2, q2, o2, ha2, hn2, hc2, ba2, bn2, bc2, rfl, hreq2, _⟩, hB⟩
               have hz2 := (Below.refl w6.heap.size w6).alloc (Nat.le_refl _) (rqQ m2 t2 p2 q2 o2 (.slice ha2 hn2 hc2) (.slice ba2 bn2 bc2))
               have hz3 := hB.trans (hz2.mono hB.size)
               have HX6 := hideL (rq_box w6 m2 t2 p2 q2 o2 (.slice ha2 hn2 hc2) (.slice ba2 bn2 bc2))
               have HBX := hideL (HBW.out.trans (hz3.mono HBW.out.size))
               have HBY := hideL (HBV.out.trans (hz3.mono HBV.out.size))
               have hdr := (Below.refl (w6.alloc (rqQ m2 t2 p2 q2 o2 (.slice ha2 hn2 hc2) (.slice ba2 bn2 bc2))).heap.size (w6.alloc (rqQ m2 t2 p2 q2 o2 (.slice ha2 hn2 hc2) (.slice ba2 bn2 bc2)))).drew
               have HBXd := hideL HBX.out.drew
               have HXd := hideL (HX6.out.next hdr)
               have LS := hideL (sameRqC m2 t2 p2 q2 o2 m t p q o ha2 hn2 hc2 ba2 bn2 bc2 ha hn hc ba bn bc y y (w6.alloc (rqQ m2 t2 p2 q2 o2 (.slice ha2 hn2 hc2) (.slice ba2 bn2 bc2))).drew ((hreq2.below hz2).below hdr) (HREQ.out.below (HBY.out.drew)) HL.out)
               clear hB hz2 hz3 hdr hreq2))
          refine wp_region_held_drew (S := fun w' => Below w2.heap.size w2 w' ∧ RBox7 42 w' w6.heap.size (.string m2) (.string t2) (.string p2) (.string q2) (.string o2) (.slice ha2 hn2 hc2) (.slice ba2 bn2 bc2)) (by kernel_rfl) ⟨HBXd.out, HXd.out⟩ (fun hHeld => ?_)
          refine wpAnyH_take (i := 0) (oi := { dst := some 95, op := Op.move (Operand.tmp 12), type := 28, pos := "bare.go:56", after := #[], guard := none }) (v := ?_) rfl (by kernel_rfl) (by kernel_rfl) (by kernel_rfl) (fun _ _ _ h => h) (Or.inl ⟨by rfl, ?_⟩) hHeld ?_
          rotate_left
          · intro w hSw; (try dsimp only at hSw); go_simp; first | done | with_reducible rfl
          try simp only [Act.put, List.setIfInBounds_toArray, List.set_cons_zero, List.set_cons_succ]
          refine wpAnyH_take (i := 1) (oi := { dst := some 96, op := Op.binOp BinOp.neq 28 (Operand.tmp 95) (Operand.const (Value.int IntKind.i64 0)) 28, type := 4, pos := "bare.go:56", after := #[{ on := 0, ground := Ground.data }], guard := none }) (v := ?_) rfl (by kernel_rfl) (by kernel_rfl) (by kernel_rfl) (fun _ _ _ h => h) (Or.inl ⟨by rfl, ?_⟩) hHeld ?_
          rotate_left
          · intro w hSw; (try dsimp only at hSw); go_simp; first | done | with_reducible rfl
          try simp only [Act.put, List.setIfInBounds_toArray, List.set_cons_zero, List.set_cons_succ]
          refine wpAnyH_take (i := 2) (oi := { dst := some 97, op := Op.move (Operand.tmp 96), type := 4, pos := "bare.go:56", after := #[{ on := 1, ground := Ground.data }], guard := none }) (v := ?_) rfl (by kernel_rfl) (by kernel_rfl) (by kernel_rfl) (fun _ _ _ h => h) (Or.inl ⟨by rfl, ?_⟩) hHeld ?_
          rotate_left
          · intro w hSw; (try dsimp only at hSw); go_simp; first | done | with_reducible rfl
          try simp only [Act.put, List.setIfInBounds_toArray, List.set_cons_zero, List.set_cons_succ]
          refine wpAnyH_take (i := 3) (oi := { dst := some 98, op := Op.load 42 (Operand.tmp 11), type := 42, pos := "bare.go:56", after := #[{ on := 2, ground := Ground.guard }], guard := some (2, false) }) (v := ?_) rfl (by kernel_rfl) (by kernel_rfl) (by kernel_rfl) (fun _ _ _ h => h) (Or.inl ⟨by rfl, ?_⟩) hHeld ?_
          rotate_left
          · intro w hSw; (try dsimp only at hSw); have e0 : World.cell? _ ⟨b3, o3 + j * 7, none⟩ = some (.string m) := (hSw.1.cell (p := ⟨b3, o3 + j * 7, none⟩) L2.out).trans (CC.out 0 (by decide)); have e1 : World.cell? _ ⟨b3, o3 + j * 7 + 1, none⟩ = some (.string t) := (hSw.1.cell (p := ⟨b3, o3 + j * 7 + 1, none⟩) L2.out).trans (CC.out 1 (by decide)); have e2 : World.cell? _ ⟨b3, o3 + j * 7 + 2, none⟩ = some (.string p) := (hSw.1.cell (p := ⟨b3, o3 + j * 7 + 2, none⟩) L2.out).trans (CC.out 2 (by decide)); have e3 : World.cell? _ ⟨b3, o3 + j * 7 + 3, none⟩ = some (.string q) := (hSw.1.cell (p := ⟨b3, o3 + j * 7 + 3, none⟩) L2.out).trans (CC.out 3 (by decide)); have e4 : World.cell? _ ⟨b3, o3 + j * 7 + 4, none⟩ = some (.string o) := (hSw.1.cell (p := ⟨b3, o3 + j * 7 + 4, none⟩) L2.out).trans (CC.out 4 (by decide)); have e5 : World.cell? _ ⟨b3, o3 + j * 7 + 5, none⟩ = some (.slice ha hn hc) := (hSw.1.cell (p := ⟨b3, o3 + j * 7 + 5, none⟩) L2.out).trans (CC.out 5 (by decide)); have e6 : World.cell? _ ⟨b3, o3 + j * 7 + 6, none⟩ = some (.slice ba bn bc) := (hSw.1.cell (p := ⟨b3, o3 + j * 7 + 6, none⟩) L2.out).trans (CC.out 6 (by decide)); have g0 := hSw.2.c0; have g1 := hSw.2.c1; have g2 := hSw.2.c2; have g3 := hSw.2.c3; have g4 := hSw.2.c4; have g5 := hSw.2.c5; have g6 := hSw.2.c6; go_simp; first | done | with_reducible rfl
          try simp only [Act.put, List.setIfInBounds_toArray, List.set_cons_zero, List.set_cons_succ]
          refine wpAnyH_take (i := 4) (oi := { dst := some 99, op := Op.move (Operand.tmp 4), type := 68, pos := "bare.go:56", after := #[{ on := 2, ground := Ground.guard }], guard := some (2, false) }) (v := ?_) rfl (by kernel_rfl) (by kernel_rfl) (by kernel_rfl) (fun _ _ _ h => h) (Or.inl ⟨by rfl, ?_⟩) hHeld ?_
          rotate_left
          · intro w hSw; (try dsimp only at hSw); go_simp; first | done | with_reducible rfl
          try simp only [Act.put, List.setIfInBounds_toArray, List.set_cons_zero, List.set_cons_succ]
          refine wpAnyH_take (i := 5) (oi := { dst := some 100, op := Op.move (Operand.tmp 10), type := 3, pos := "bare.go:56", after := #[{ on := 2, ground := Ground.guard }], guard := some (2, false) }) (v := ?_) rfl (by kernel_rfl) (by kernel_rfl) (by kernel_rfl) (fun _ _ _ h => h) (Or.inl ⟨by rfl, ?_⟩) hHeld ?_
          rotate_left
          · intro w hSw; (try dsimp only at hSw); go_simp; first | done | with_reducible rfl
          try simp only [Act.put, List.setIfInBounds_toArray, List.set_cons_zero, List.set_cons_succ]
          refine wpAnyH_take (i := 6) (oi := { dst := some 101, op := Op.indexAddr 68 (Operand.tmp 99) (Operand.tmp 100), type := 0, pos := "bare.go:56", after := #[{ on := 4, ground := Ground.data }, { on := 5, ground := Ground.data }, { on := 2, ground := Ground.guard }], guard := some (2, false) }) (v := ?_) rfl (by kernel_rfl) (by kernel_rfl) (by kernel_rfl) (fun _ _ _ h => h) (Or.inl ⟨by rfl, ?_⟩) hHeld ?_
          rotate_left
          · intro w hSw; (try dsimp only at hSw); go_simp; first | done | with_reducible rfl
          try simp only [Act.put, List.setIfInBounds_toArray, List.set_cons_zero, List.set_cons_succ]
          refine wpAnyH_take (i := 7) (oi := { dst := some 102, op := Op.load 42 (Operand.tmp 101), type := 42, pos := "bare.go:56", after := #[{ on := 6, ground := Ground.data }, { on := 2, ground := Ground.guard }], guard := some (2, false) }) (v := ?_) rfl (by kernel_rfl) (by kernel_rfl) (by kernel_rfl) (fun _ _ _ h => h) (Or.inl ⟨by rfl, ?_⟩) hHeld ?_
          rotate_left
          · intro w hSw; (try dsimp only at hSw); have e0 : World.cell? _ ⟨b3, o3 + j * 7, none⟩ = some (.string m) := (hSw.1.cell (p := ⟨b3, o3 + j * 7, none⟩) L2.out).trans (CC.out 0 (by decide)); have e1 : World.cell? _ ⟨b3, o3 + j * 7 + 1, none⟩ = some (.string t) := (hSw.1.cell (p := ⟨b3, o3 + j * 7 + 1, none⟩) L2.out).trans (CC.out 1 (by decide)); have e2 : World.cell? _ ⟨b3, o3 + j * 7 + 2, none⟩ = some (.string p) := (hSw.1.cell (p := ⟨b3, o3 + j * 7 + 2, none⟩) L2.out).trans (CC.out 2 (by decide)); have e3 : World.cell? _ ⟨b3, o3 + j * 7 + 3, none⟩ = some (.string q) := (hSw.1.cell (p := ⟨b3, o3 + j * 7 + 3, none⟩) L2.out).trans (CC.out 3 (by decide)); have e4 : World.cell? _ ⟨b3, o3 + j * 7 + 4, none⟩ = some (.string o) := (hSw.1.cell (p := ⟨b3, o3 + j * 7 + 4, none⟩) L2.out).trans (CC.out 4 (by decide)); have e5 : World.cell? _ ⟨b3, o3 + j * 7 + 5, none⟩ = some (.slice ha hn hc) := (hSw.1.cell (p := ⟨b3, o3 + j * 7 + 5, none⟩) L2.out).trans (CC.out 5 (by decide)); have e6 : World.cell? _ ⟨b3, o3 + j * 7 + 6, none⟩ = some (.slice ba bn bc) := (hSw.1.cell (p := ⟨b3, o3 + j * 7 + 6, none⟩) L2.out).trans (CC.out 6 (by decide)); have g0 := hSw.2.c0; have g1 := hSw.2.c1; have g2 := hSw.2.c2; have g3 := hSw.2.c3; have g4 := hSw.2.c4; have g5 := hSw.2.c5; have g6 := hSw.2.c6; go_simp; first | done | with_reducible rfl
          try simp only [Act.put, List.setIfInBounds_toArray, List.set_cons_zero, List.set_cons_succ]
          refine wpAnyH_ready (rs := [8]) (by kernel_rfl) (by simp) ?_
          refine AllReadyH.cons (o := { dst := some 103, op := Op.call { callee := Callee.value (Operand.func 20), args := #[Operand.tmp 98, Operand.tmp 102], argTypes := #[42, 42] }, type := 4, pos := "bare.go:56", after := #[{ on := 3, ground := Ground.data }, { on := 7, ground := Ground.data }, { on := 2, ground := Ground.chain }, { on := 2, ground := Ground.guard }], guard := some (2, false) }) rfl (fun K hK => ?_) AllReadyH.nil
          clear hHeld
          go_simp
          refine LS.out.mono ?_
          rintro e w7 ⟨⟨zz, rfl, hzz⟩, hB⟩
          obtain rfl : zz = true := hzz.2 (by trivial)
          have HBS := hideL (HBXd.out.trans (hB.mono HBXd.out.size))
          have HXS := hideL (HXd.out.next hB)
          clear hB hzz
          refine hK.out _ _ (⟨HBS.out, HXS.out⟩) (fun hHeld => ?_)
          clear hK K
          try simp only [Act.put, List.setIfInBounds_toArray, List.set_cons_zero, List.set_cons_succ]
          refine wpAnyH_take (i := 9) (oi := { dst := some 104, op := Op.unOp UnOp.not 4 (Operand.tmp 103), type := 4, pos := "bare.go:56", after := #[{ on := 8, ground := Ground.data }, { on := 2, ground := Ground.guard }], guard := some (2, false) }) (v := ?_) rfl (by kernel_rfl) (by kernel_rfl) (by kernel_rfl) (fun _ _ _ h => h) (Or.inl ⟨by rfl, ?_⟩) hHeld ?_
          rotate_left
          · intro w hSw; (try dsimp only at hSw); go_simp; first | done | with_reducible rfl
          try simp only [Act.put, List.setIfInBounds_toArray, List.set_cons_zero, List.set_cons_succ]
          refine wpAnyH_take (i := 10) (oi := { dst := some 105, op := Op.pick (Operand.tmp 97) (Operand.const (Value.bool true)) (Operand.tmp 104), type := 4, pos := "bare.go:56", after := #[{ on := 2, ground := Ground.data }, { on := 9, ground := Ground.data }], guard := none }) (v := ?_) rfl (by kernel_rfl) (by kernel_rfl) (by kernel_rfl) (fun _ _ _ h => h) (Or.inl ⟨by rfl, ?_⟩) hHeld ?_
          rotate_left
          · intro w hSw; (try dsimp only at hSw); go_simp; first | done | with_reducible rfl
          try simp only [Act.put, List.setIfInBounds_toArray, List.set_cons_zero, List.set_cons_succ]
          refine wpAnyH_done (by kernel_rfl) ?_ _
          clear hHeld
          go_wp2_with fail
          go_roundw
          case rel => exact ⟨j + 1, by omega, by go_num, HBS⟩
          case measure => simp [RowKit.intOf]; omega
        · obtain rfl : j = xn := by omega
          have hjl' : ¬ (j : Int) < (j : Int) := by omega
          have HBV := hideL hbv
          clear hbv
          go_wp2_with (go_at_call 12; refine (LA.out _ HBV.out).mono ?_; rintro e w9 ⟨rfl, hB⟩; have HB9 := hideL (HBV.out.trans (hB.mono HBV.out.size)); clear hB)
          go_ret
          exact ⟨rfl, HB9.out⟩
end Go.Proofs.YtfpdcokdponojaaGreatDoor
