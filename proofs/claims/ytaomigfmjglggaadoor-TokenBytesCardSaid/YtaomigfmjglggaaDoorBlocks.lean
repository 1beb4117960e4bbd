/- takeBlocks and Block of package sha: their contracts. -/
import Derived.Test.YtaomigfmjglggaaDoorProg
import Derived.Test.YtaomigfmjglggaaDoorBase
import Derived.Test.YtaomigfmjglggaaDoorTake
import Derived.Test.YtaomigfmjglggaaDoorFirst
import Derived.Test.YtaomigfmjglggaaDoorCat
import Derived.WalkKit
import Derived.WalkSpells
import Derived.WalkLawsBesides
import Derived.Laws.CopyOwn
import Derived.Deep.RegionLaw
namespace Go.Proofs.YtaomigfmjglggaaDoor
open Go.RowKit


theorem zero74 (w : World) : (zeroValue 122).run Tryd.prog w = .ok (.agg (cellsOf .u8 zeros64)) w := by kernel_rfl

/-- copy into a row of numbers: the new world under a name of its own. -/
theorem wpList_copy_blk {P : Program} {w : World} {ops : Array Oper} {rest : List Oper} {o : Oper} {a : Act} {Q : Exit → Act → World → Prop} (hgd : o.guard = none) (d s : Operand) (dT sT : TypeId)
    (ho : o.op = .call { callee := .builtin .copy, args := #[d, s], argTypes := #[dT, sT] }) (elem : TypeId) (hu : P.underlying dT = some (.slice elem)) (hsz : (P.info? elem).map (·.size) = some 1)
    (g off dLen dCap : Nat) (ad : Addr) (sLen sCap : Nat) (hd : a.eval d = .slice (some ⟨g, off, none⟩) dLen dCap) (hs : a.eval s = .slice (some ad) sLen sCap)
    (k : IntKind) (t : TypeId) (cur news : List Int) (hg : Blk w g t k cur) (hn : news.length = Nat.min sLen dLen) (hsrc : ∀ j v, (news.map (Value.int k))[j]? = some v → w.cell? (ad.add j) = some v) (hfit : off + news.length ≤ cur.length)
    (h : ∀ w', Blk w' g t k (put cur off news) → (∀ B, B ≤ g → Below B w w') → (∀ j, j ≠ g → w'.heap[j]? = w.heap[j]?) → wpList P ops Q rest (a.put o.dst (.int .i64 (news.length : Int))) w') :
    wpList P ops Q (o :: rest) a w := by
  refine wpList_copy_own hgd d s dT sT ho elem hu hsz g off dLen dCap ad sLen sCap hd hs (cellsOf k cur) t hg (news.map (Value.int k)) (by simpa using hn) hsrc (by rw [List.length_map, size_cellsOf]; exact hfit) (ints_oneCell _ _) ?_
  have e : ((cellsOf k cur).toList.take off ++ (news.map (Value.int k) ++ (cellsOf k cur).toList.drop (off + (news.map (Value.int k)).length))).toArray = cellsOf k (put cur off news) := by
    simp [cellsOf, put]
  have hl : (news.map (Value.int k)).length = news.length := List.length_map ..
  rw [e]
  simp only [hl]
  exact h _ (hg.setRow _) (fun _ hB => below_setRow (Below.refl _ _) hB _) (fun j hj => _root_.Go.setRow_other w g j _ hj)

theorem news_src {wr : World} {g off r c m : Nat} {pk : List Int} (hb : ∀ i, i < m → wr.cell? ⟨g, off + i, none⟩ = some (.int .u8 (nth pk i))) (hm : m = pk.length) (hrc : r + c ≤ m) :
    ∀ j v, (((pk.drop r).take c).map (Value.int .u8))[j]? = some v → wr.cell? ((⟨g, off + r, none⟩ : Addr).add j) = some v := by
  intro j v hv
  have hj : j < c := by
    rcases Nat.lt_or_ge j c with h | h
    · exact h
    · rw [List.getElem?_eq_none (by simp; omega)] at hv; cases hv
  rw [addr_plain, Nat.add_assoc, hb (r + j) (by omega)]
  have h2 : r + j < pk.length := by omega
  simp [hj, h2] at hv
  simp [nth, List.getD, h2, hv]


theorem list8 {l : List Int} (h : l.length = 8) : ∃ a0 a1 a2 a3 a4 a5 a6 a7, l = [a0, a1, a2, a3, a4, a5, a6, a7] := by
  match l, h with
  | [a0, a1, a2, a3, a4, a5, a6, a7], _ => exact ⟨a0, a1, a2, a3, a4, a5, a6, a7, rfl⟩

/-- append([]byte(nil), row[:q]...): what it comes to. -/
theorem appendRest (W : World) (g q c B : Nat) (bl : List Int) (hbl : Blk W g 122 .u8 bl) (hq : q ≤ bl.length) (hB : B ≤ W.heap.size) (hq64 : q < 64) :
    ∃ ap cap wA, (Builtin.append_ #[22, 22] 22 #[.slice none 0 0, .slice (some ⟨g, 0, none⟩) q c]).run Tryd.prog W = .ok (.slice ap q cap) wA ∧
      wA.ownsRow B 5 1 (.slice ap q cap) q ((bl.take q).map (.int .u8)) ∧ Below W.heap.size W wA ∧ ∀ j, j < W.heap.size → (Value.slice ap q cap).ownBlock ≠ some j := by
  obtain ⟨i0, hi, hz0, hz1, hz2⟩ := info_parts Tryd.info5
  by_cases h0 : q = 0
  · subst h0
    exact ⟨none, 0, W, run_append_nothing W _ c, World.ownsRow_nil _ _ _ _, Below.refl _ _, fun _ _ h => by cases h⟩
  · have hnews : ∀ j v, ((bl.take q).map (Value.int .u8))[j]? = some v → W.cell? ((⟨g, 0, none⟩ : Addr).add j) = some v := by
      intro j v hv
      have hj : j < q := by
        rcases Nat.lt_or_ge j q with h | h
        · exact h
        · rw [List.getElem?_eq_none (by simp; omega)] at hv; cases hv
      have hj2 : j < bl.length := by omega
      rw [addr_plain, Nat.zero_add, hbl.cell j hj2]
      simp [hj, hj2] at hv
      simp [nth, List.getD, hj2, hv]
    have h := run_append_nil (P := Tryd.prog) W 22 22 5 i0 (.int .u8 0) Tryd.underlying22 hi hz0 ⟨g, 0, none⟩ q c ((bl.take q).map (.int .u8)) (by rw [hz1]; simp; omega) hnews (by omega) (by omega) (by rw [hz2]; omega)
    have hge := grownCap_ge W q 0 5
    have hle := grownCap_le_maxLen W q 0 5 (by unfold maxLen; omega)
    have hl : ((bl.take q).map (Value.int .u8)).length = q := by simp; omega
    refine ⟨_, _, _, h, ⟨by simp; omega, .inr ⟨W.heap.size, _, _, rfl, hB, heap_alloc_new W.drew _, hge, hle, ?_, ?_⟩⟩, (Below.refl _ _).drew.alloc (Nat.le_refl _) _, fun j hj h => by simp [Value.ownBlock] at h; omega⟩
    · simp [Builtin.zeroCells, Value.cells]; omega
    · simp only [Nat.mul_one, Array.toList_append]
      rw [List.take_append_of_le_length (by simp; omega), List.take_of_length_le (by simp; omega)]

/-- Two results: an array that lies in a row, and a slot. -/
theorem results_cell_tmp {P : Program} {fn : Func} {p t : Tmp} {ty : TypeId} (h : fn.results = #[.cell p ty, .tmp t]) (tmps : Array Value) (w : World) (g : Nat) (T : TypeId) (cs : Array Value) (fr : Nat × Nat) (d : TypeDesc)
    (hp : tmps.getD p undef = .pointer (some ⟨g, 0, none⟩)) (hg : w.heap[g]? = some (.cells cs T fr))
    (hu : P.underlying ty = some d) (hd : (match d with | .struct _ | .array _ _ => true | _ => false) = true) (hi : (P.info? ty).map (·.size) = some cs.size) :
    (results fn tmps).run P w = .ok (.tuple #[.agg cs, tmps.getD t undef]) w := by
  have hp' : tmps[p]?.getD undef = .pointer (some ⟨g, 0, none⟩) := by simpa using hp
  simp [results, h, hp', asAddr, run_loadVar_row w g T ty cs fr d hg hu hd hi]

/-- The length of a slice value. -/
def lenOf : Value → Nat
  | .slice _ n _ => n
  | _ => 0

/-- What the memory of takeBlocks holds behind y bytes of X. -/
def St (w : World) (sv X : List Int) (n1 y : Nat) (wr : World) : Prop :=
  Blk wr w.heap.size 124 .u32 (stAt sv X (y / 64)) ∧ (∃ bl, Buf X y bl ∧ Blk wr (n1 + 1) 122 .u8 bl) ∧ Blk wr n1 141 .u32 keysS ∧ Blk wr (w.heap.size + 1) 124 .u32 zeros8 ∧ Below w.heap.size w wr

/-- Behind takeBlocks: the state behind the whole blocks of X, and the bytes that are left, in a row of the call's own. -/
def TakePost (sv X : List Int) (w : World) (e : Ending) (w' : World) : Prop :=
  ∃ ap cap, e = .returned (.tuple #[.agg (cellsOf .u32 (stAt sv X (X.length / 64))), .slice ap (X.length % 64) cap]) ∧
    w'.ownsRow w.heap.size 5 1 (.slice ap (X.length % 64) cap) (X.length % 64) ((X.drop (64 * (X.length / 64))).map (.int .u8)) ∧ Below w.heap.size w w'

set_option maxRecDepth 100000 in
set_option maxHeartbeats 1000000 in
theorem blocks_any (sv : List Int) (ps : List (List Int)) (b o c : Nat) (w : World) (hv : Hid (sv.length = 8)) (hP : PartsAt w b o ps) (hn : ps.length ≤ 1000000) (h64 : 64 ≤ ps.flatten.length) (hX : ps.flatten.length ≤ 140737488355328) :
    Calls Tryd.prog 87 #[.agg (cellsOf .u32 sv), .slice (some ⟨b, o, none⟩) ps.length c] w (TakePost sv ps.flatten w) := by
  obtain ⟨X, hXX⟩ : ∃ X, X = ps.flatten := ⟨_, rfl⟩
  have HX := hide hXX
  have HP := hide hP
  have HAVE := hide (fun W => (fun (h : PartsAt W b o ps) => have_any ps b o c W h hn hX))
  have HT := hide (show haveB ps.flatten.length = true by unfold haveB; exact decide_eq_true h64)
  obtain ⟨n, hnn⟩ : ∃ n, n = ps.length := ⟨_, rfl⟩
  have HN := hide hnn
  have HL := hide hX
  rw [← hnn] at hn ⊢
  rw [HT.out, ← hnn] at HAVE
  clear hP hnn hXX h64 hX
  go_enter Tryd.func87, Tryd.ntmps87
  go_wp2_with (with_reducible refine wpList_alloc_row rfl 124 rfl (cellsOf .u32 zeros8) zero24 ?_)
  have hBW : Below w.heap.size w ((w.alloc (.cells (cellsOf .u32 sv) 124)).alloc (.cells (cellsOf .u32 zeros8) 124)) := ((Below.refl _ _).alloc (Nat.le_refl _) _).alloc (by simp) _
  have hb0 : Blk ((w.alloc (.cells (cellsOf .u32 sv) 124)).alloc (.cells (cellsOf .u32 zeros8) 124)) w.heap.size 124 .u32 sv := heap_alloc2_old _ _ _
  have hb1 : Blk ((w.alloc (.cells (cellsOf .u32 sv) 124)).alloc (.cells (cellsOf .u32 zeros8) 124)) (w.heap.size + 1) 124 .u32 zeros8 := heap_alloc2_new _ _ _
  refine (HAVE.out _ (HP.out.below hBW)).mono ?_
  rintro e w0 ⟨rfl, hw0⟩
  rw [hw0] at hBW hb0 hb1
  clear hw0
  go_wp2_with fail
  refine (keys_any w0).mono ?_
  rintro e w1 ⟨rfl, hB1⟩
  replace hb0 := hb0.below hB1 hb0.lt
  replace hb1 := hb1.below hB1 hb1.lt
  have hlt1 := hb1.lt
  replace hBW := hBW.trans (hB1.mono hBW.size)
  clear hB1 w0
  obtain ⟨n1, hn1⟩ : ∃ n1, n1 = w1.heap.size := ⟨_, rfl⟩
  rw [← hn1] at hlt1
  go_wp2_with ((with_reducible refine wpList_alloc_blk rfl 141 rfl .u32 zeros64 zero26 ?_))
  intro w2 hb2 hz2 hB2
  rw [← hn1] at hb2 hz2 hB2 ⊢
  replace hb0 := hb0.below hB2 (by omega)
  replace hb1 := hb1.below hB2 (by omega)
  replace hBW := hBW.trans (hB2.mono (by omega))
  clear hB2 hn1 w1
  refine wpList_store_blk rfl 141 (.tmp 6) (.tmp 18) rfl n1 .u32 keysS rfl rfl _ _ hb2 (sz26 _ length_keysS) length_keysS.symm ?_
  intro w3 hb3 hz3 hB3 hk3
  replace hb0 := hb0.kept hk3 (by omega)
  replace hb1 := hb1.kept hk3 (by omega)
  replace hBW := hBW.trans (hB3 w.heap.size (by omega))
  rw [hz2] at hz3
  clear hB3 hk3 hb2 hz2 w2
  go_wp2_with ((with_reducible refine wpList_alloc_blk rfl 122 rfl .u8 zeros64 zero74 ?_))
  intro w4 hb4 hz4 hB4
  have hst : St w sv X n1 0 w4 := ⟨hb0.below hB4 (by omega), ⟨zeros64, buf_zero _ _ rfl, hb4⟩, hb3.below hB4 (by omega), hb1.below hB4 (by omega), hBW.trans (hB4.mono (by omega))⟩
  have hn2 : w.heap.size + 1 < n1 := hlt1
  clear hb0 hb1 hb3 hb4 hBW hz3 hB4 hz4 hlt1 w3
  go_wp2_with fail
  go_loopw [8, 21] (fun t i wr => ∃ k : Nat, k ≤ n ∧ i = .int .i64 k ∧ t = .int .i64 (((cat ps k).length % 64 : Nat) : Int) ∧ St w sv X n1 (cat ps k).length wr) (fun _ i _ => n - (intOf i).toNat)
  case atStart => exact ⟨0, Nat.zero_le _, rfl, rfl, hst⟩
  case round =>
    clear hst w4
    obtain ⟨k, hk, rfl, rfl, hst⟩ := hrel
    by_cases hlt : k < n
    · have hPk := HP.out
      obtain ⟨sv1, hcw, ao, cp, rfl, hnone, hcap, ha⟩ := hPk.2 k (by rw [← HN.out]; exact hlt)
      have hc := (hst.2.2.2.2.cell (p := ⟨b, o + k, none⟩) hPk.1).trans hcw
      clear hcw
      have hle := part_le ps k (by rw [← HN.out]; exact hlt)
      have HLE := hide hle
      have HS := hide (cat_succ ps k (by rw [← HN.out]; exact hlt))
      obtain ⟨m, hm⟩ : ∃ m, m = (part ps k).length := ⟨_, rfl⟩
      have HM := hide hm
      have hgo : ∃ g off, g < w.heap.size ∧ (0 < m → ao = some ⟨g, off, none⟩) ∧ ∀ i, i < m → w.cell? ⟨g, off + i, none⟩ = some (.int .u8 (nth (part ps k) i)) := by
        cases ao with
        | none =>
          have := (hnone rfl).1
          exact ⟨b, 0, hPk.1, fun h => by rw [hm, this] at h; exact absurd h (by simp), fun i hi => by rw [hm, this] at hi; exact absurd hi (by simp)⟩
        | some ad =>
          by_cases h0 : 0 < m
          · obtain ⟨e0, e1, _⟩ := ha ad rfl 0 (by rw [← hm]; exact h0)
            obtain ⟨g, off, sp⟩ := ad
            simp only at e0 e1
            subst e0
            exact ⟨g, off, e1, fun _ => rfl, fun i hi => by rw [← addr_plain]; exact (ha _ rfl i (by rw [← hm]; exact hi)).2.2⟩
          · exact ⟨b, 0, hPk.1, fun h => absurd h h0, fun i hi => absurd hi (by omega)⟩
      obtain ⟨g, off, hg, hao, hbytes⟩ := hgo
      rw [← hm] at hc hcap
      obtain ⟨y0, hy0⟩ : ∃ y0, y0 = (cat ps k).length := ⟨_, rfl⟩
      have HY := hide hy0
      rw [← hy0] at hst ⊢
      have HBY := hide hbytes
      have HAO := hide hao
      have HST := hide hst
      clear hm hy0 hbytes hao ha hnone hle hPk hst
      go_wp2_with fail
      obtain ⟨wo, hwo⟩ : ∃ wo, wo = wr := ⟨wr, rfl⟩
      subst hwo
      go_loopw [8, 10] (fun t p wr => ∃ (r cq : Nat) (ap : Option Addr), r ≤ m ∧ p = .slice ap (m - r) cq ∧ m - r ≤ cq ∧ (r < m → ap = some ⟨g, off + r, none⟩) ∧ t = .int .i64 (((y0 + r) % 64 : Nat) : Int) ∧ St w sv X n1 (y0 + r) wr)
        (fun _ p _ => lenOf p)
      case atStart => exact ⟨0, cp, ao, Nat.zero_le _, by rw [Nat.sub_zero], by omega, fun h => HAO.out h, rfl, HST.out⟩
      case round =>
        obtain ⟨r, cq, ap, hr, rfl, hcq, hap, rfl, hst⟩ := hrel
        by_cases hlr : r < m
        · obtain rfl := hap hlr
          obtain ⟨hb0, ⟨bl, hbuf, hbl⟩, hbk, hb1, hBW⟩ := hst
          obtain ⟨q, hq⟩ : ∃ q, q = (y0 + r) % 64 := ⟨_, rfl⟩
          have hq64 : q < 64 := by omega
          rw [← hq]
          have HQ := hide hq
          have HBUF := hide hbuf
          clear hq hbuf
          have hqi : (q : Int) ≤ 64 := by omega
          have hal : Tryd.prog.arrayLen 122 = 64 := by kernel_rfl
          have hmr : 0 < m - r := by omega
          obtain ⟨cc, hcc⟩ : ∃ cc, cc = Nat.min (m - r) (64 - q) := ⟨_, rfl⟩
          have hc1 : cc ≤ m - r := by rw [hcc]; exact Nat.min_le_left _ _
          have hc2 : cc ≤ 64 - q := by rw [hcc]; exact Nat.min_le_right _ _
          have hc0 : 0 < cc := by rw [hcc]; exact Nat.lt_min.2 ⟨hmr, by omega⟩
          have hpb := part_bytes ps k r cc (by rw [← HN.out]; exact hlt) (by rw [← HM.out]; omega)
          rw [← HY.out, ← HX.out] at hpb
          obtain ⟨news, hnews⟩ : ∃ news, news = ((part ps k).drop r).take cc := ⟨_, rfl⟩
          have hln : news.length = cc := by rw [hnews]; simp; rw [← HM.out]; omega
          have hsrc := news_src (c := cc) (m := m) (r := r) (off := off) (fun i hi => (hBW.cell (p := ⟨g, off + i, none⟩) hg).trans (HBY.out i hi)) HM.out (by omega)
          rw [← hnews] at hsrc hpb
          have HNX := hide hpb
          have HSRC := hide hsrc
          have HLN := hide hln
          have HCC := hide hcc
          have hfit : q + news.length ≤ bl.length := by rw [hln, HBUF.out.1]; omega
          have hXc : y0 + r + cc ≤ X.length := by have := HLE.out; rw [← HY.out, ← HM.out, ← HX.out] at this; omega
          have HFIT := hide hfit
          clear hnews hpb hsrc hfit hcc
          go_wp2_with (refine wpList_copy_blk rfl (.tmp 29) (.tmp 30) 22 22 rfl 5 Tryd.underlying22 size5 (n1 + 1) q (64 - q) (64 - q) ⟨g, off + r, none⟩ (m - r) cq rfl rfl .u8 122 bl news hbl (HLN.out.trans HCC.out) HSRC.out HFIT.out ?_)
          intro w5 hbl5 hB5 hk5
          replace hb0 := hb0.kept hk5 (by omega)
          replace hb1 := hb1.kept hk5 (by omega)
          replace hbk := hbk.kept hk5 (by omega)
          replace hBW := hBW.trans (hB5 w.heap.size (by omega))
          clear hB5 hk5 hbl
          by_cases hfull : q + cc = 64
          · have hqe : ((q : Int) + (cc : Int) == 64) = true := by rw [beq_iff_eq]; omega
            have hqy := HQ.out
            obtain ⟨f1, f2, f3⟩ := buf_full X (y0 + r) cc bl HBUF.out (by rw [← hqy]; exact hfull) hXc
            rw [← hqy, ← HNX.out] at f1 f2
            have hlst : Hid ((stAt sv X ((y0 + r) / 64)).length = 8) := hide (length_stAt sv X hv.out _)
            have hlbl : Hid ((put bl q news).length = 64) := hide f2.1
            have HF2 := hide f2
            have HF3 := hide (show stAt sv X ((y0 + (r + cc)) / 64) = takeS (stAt sv X ((y0 + r) / 64)) keysS (put bl q news) from by rw [← Nat.add_assoc, f3, stAt, f1])
            generalize put bl q news = nb at hbl5 hlbl HF2 HF3
            generalize stAt sv X ((y0 + r) / 64) = so at hb0 hlst HF3
            clear f1 f2 f3 hqy
            go_wp2_with (first | (with_reducible refine wpList_load_row rfl 124 (.tmp 2) rfl w.heap.size rfl _ _ (0, 0) _ hb0.row Tryd.underlying124 rfl (sz24 so hlst.out) ?_) | (with_reducible refine wpList_load_row rfl 141 (.tmp 6) rfl n1 rfl _ _ (0, 0) _ hbk.row Tryd.underlying141 rfl (sz26 keysS length_keysS) ?_) | (with_reducible refine wpList_load_row rfl 122 (.tmp 7) rfl (n1 + 1) rfl _ _ (0, 0) _ hbl5.row Tryd.underlying122 rfl (sz74 nb hlbl.out) ?_))
            all_goals
              refine (take_any so keysS nb w5 hlst (hide length_keysS) hlbl).mono ?_
              rintro e w6 ⟨rfl, hB6⟩
              replace hb0 := hb0.below hB6 hb0.lt
              replace hb1 := hb1.below hB6 hb1.lt
              replace hbl5 := hbl5.below hB6 hbl5.lt
              replace hbk := hbk.below hB6 hbk.lt
              replace hBW := hBW.trans (hB6.mono hBW.size)
              clear hB6 w5
              have htl : (takeS so keysS nb).length = 8 := (length_takeS _ _ _).trans hlst.out
              have HTL := hide htl
              clear htl
              go_wp2_with ((with_reducible refine wpList_store_blk rfl 124 (.tmp 2) (.tmp 43) rfl w.heap.size .u32 (takeS so keysS nb) rfl rfl _ _ hb0 (sz24 _ HTL.out) (hlst.out.trans HTL.out.symm) ?_))
              intro w7 hb7 hz7 hB7 hk7
              replace hb1 := hb1.kept hk7 (by omega)
              replace hbl5 := hbl5.kept hk7 (by omega)
              replace hbk := hbk.kept hk7 (by omega)
              replace hBW := hBW.trans (hB7 w.heap.size (Nat.le_refl _))
              clear hB7 hk7 hz7 hb0 w6
              go_wp2_with fail
              go_roundw
              case rel =>
                by_cases hqc : cq = cc
                · first
                    | exact absurd hqc (by assumption)
                    | exact ⟨r + cc, 0, some ⟨g, off + r, none⟩, by omega, by rw [show m - (r + cc) = m - r - cc from by omega], by omega, fun h => absurd h (by omega), by rw [show (y0 + (r + cc)) % 64 = 0 from by have := HQ.out; omega]; rfl, ⟨by rw [HF3.out]; exact hb7, ⟨nb, by rw [← Nat.add_assoc]; exact HF2.out, hbl5⟩, hbk, hb1, hBW⟩⟩
                · first
                    | exact absurd (by assumption) hqc
                    | exact ⟨r + cc, cq - cc, some ⟨g, off + r + cc, none⟩, by omega, by rw [show m - (r + cc) = m - r - cc from by omega], by omega, fun h => by rw [Nat.add_assoc], by rw [show (y0 + (r + cc)) % 64 = 0 from by have := HQ.out; omega]; rfl, ⟨by rw [HF3.out]; exact hb7, ⟨nb, by rw [← Nat.add_assoc]; exact HF2.out, hbl5⟩, hbk, hb1, hBW⟩⟩
              case measure => simp [lenOf]; omega
          · have hne : ((q : Int) + (cc : Int) == 64) = false := by rw [beq_eq_false_iff_ne]; omega
            go_wp2_with fail
            go_roundw
            case rel =>
              have hqy := HQ.out
              have hm1 : (y0 + (r + cc)) % 64 = q + cc := by omega
              have hm2 : (y0 + (r + cc)) / 64 = (y0 + r) / 64 := by omega
              have hbf := buf_more X (y0 + r) cc bl HBUF.out (by omega) hXc
              rw [← hqy, ← HNX.out] at hbf
              exact ⟨r + cc, cq - cc, (if cq = cc then some ⟨g, off + r, none⟩ else some ⟨g, off + r + cc, none⟩), by omega, by rw [show m - (r + cc) = m - r - cc from by omega], by omega, fun h => by rw [if_neg (by omega), Nat.add_assoc], by rw [hm1]; go_num, ⟨by rw [hm2]; exact hb0, ⟨put bl q news, by rw [← Nat.add_assoc]; exact hbf, hbl5⟩, hbk, hb1, hBW⟩⟩
            case measure => simp [lenOf]; omega
        · have hmr : m - r = 0 := by omega
          rw [hmr]
          have hE : Hid (y0 + r = (cat ps (k + 1)).length) := hide (by rw [HS.out, List.length_append, ← HY.out, ← HM.out]; omega)
          have HST2 := hide hst
          clear hmr hst hap hcq
          go_wp2_with fail
          go_roundw
          case rel => exact ⟨k + 1, by omega, by go_num, by rw [hE.out], by rw [← hE.out]; exact HST2.out⟩
          case measure => simp [intOf]; omega
    · have hkn : (cat ps k).length = X.length := by rw [show k = ps.length from by have := HN.out; omega, cat_all, HX.out]
      rw [hkn] at hst ⊢
      obtain ⟨hb0, ⟨bl, hbuf, hbl⟩, hbk, hb1, hBW⟩ := hst
      obtain ⟨q, hq⟩ : ∃ q, q = X.length % 64 := ⟨_, rfl⟩
      have hq64 : q < 64 := by omega
      rw [← hq]
      have HQ := hide hq
      have HBUF := hide hbuf
      have hlst : Hid ((stAt sv X (X.length / 64)).length = 8) := hide (length_stAt sv X hv.out _)
      have HR := hide (show ∃ so, so = stAt sv X (X.length / 64) from ⟨_, rfl⟩)
      clear hq hbuf hkn
      go_wp2_with fail
      clear hlt hk
      generalize (k : Int) = kx
      obtain ⟨so, hso⟩ : ∃ so, so = stAt sv X (X.length / 64) := ⟨_, rfl⟩
      rw [← hso] at hb0 hlst
      have HSO := hide hso
      clear hso
      obtain ⟨a0, a1, a2, a3, a4, a5, a6, a7, rfl⟩ := list8 hlst.out
      obtain ⟨ap, cap, wA, hrun, hown, hBA, hno⟩ := appendRest wr.drew (n1 + 1) q 64 w.heap.size bl hbl.drew (by have := HBUF.out.1; omega) hBW.size hq64
      have hA0 : Blk wA w.heap.size 124 .u32 [a0, a1, a2, a3, a4, a5, a6, a7] := hb0.drew.below hBA hb0.lt
      have hA1 : Blk wA (w.heap.size + 1) 124 .u32 zeros8 := hb1.drew.below hBA hb1.lt
      have HRUN := hide hrun
      have HOWN := hide hown
      have HNO := hide (hno (w.heap.size + 1) hb1.lt)
      have HBW := hide (hBW.drew.trans (hBA.mono hBW.size))
      clear hrun hown hBA hno
      have c0 : wr.cell? ⟨w.heap.size, 0, none⟩ = some (.int .u32 a0) := hb0.cell 0 (by simp)
      have c1 : wr.cell? ⟨w.heap.size, 1, none⟩ = some (.int .u32 a1) := hb0.cell 1 (by simp)
      have c2 : wr.cell? ⟨w.heap.size, 2, none⟩ = some (.int .u32 a2) := hb0.cell 2 (by simp)
      have c3 : wr.cell? ⟨w.heap.size, 3, none⟩ = some (.int .u32 a3) := hb0.cell 3 (by simp)
      have c4 : wr.cell? ⟨w.heap.size, 4, none⟩ = some (.int .u32 a4) := hb0.cell 4 (by simp)
      have c5 : wr.cell? ⟨w.heap.size, 5, none⟩ = some (.int .u32 a5) := hb0.cell 5 (by simp)
      have c6 : wr.cell? ⟨w.heap.size, 6, none⟩ = some (.int .u32 a6) := hb0.cell 6 (by simp)
      have c7 : wr.cell? ⟨w.heap.size, 7, none⟩ = some (.int .u32 a7) := hb0.cell 7 (by simp)
      have d0 : wA.cell? ⟨w.heap.size, 0, none⟩ = some (.int .u32 a0) := hA0.cell 0 (by simp)
      have d1 : wA.cell? ⟨w.heap.size, 1, none⟩ = some (.int .u32 a1) := hA0.cell 1 (by simp)
      have d2 : wA.cell? ⟨w.heap.size, 2, none⟩ = some (.int .u32 a2) := hA0.cell 2 (by simp)
      have d3 : wA.cell? ⟨w.heap.size, 3, none⟩ = some (.int .u32 a3) := hA0.cell 3 (by simp)
      have d4 : wA.cell? ⟨w.heap.size, 4, none⟩ = some (.int .u32 a4) := hA0.cell 4 (by simp)
      have d5 : wA.cell? ⟨w.heap.size, 5, none⟩ = some (.int .u32 a5) := hA0.cell 5 (by simp)
      have d6 : wA.cell? ⟨w.heap.size, 6, none⟩ = some (.int .u32 a6) := hA0.cell 6 (by simp)
      have d7 : wA.cell? ⟨w.heap.size, 7, none⟩ = some (.int .u32 a7) := hA0.cell 7 (by simp)
      have e0 : wA.cell? ⟨w.heap.size + 1, 0, none⟩ = some (.int .u32 0) := hA1.cell 0 (by decide)
      have e1 : wA.cell? ⟨w.heap.size + 1, 1, none⟩ = some (.int .u32 0) := hA1.cell 1 (by decide)
      have e2 : wA.cell? ⟨w.heap.size + 1, 2, none⟩ = some (.int .u32 0) := hA1.cell 2 (by decide)
      have e3 : wA.cell? ⟨w.heap.size + 1, 3, none⟩ = some (.int .u32 0) := hA1.cell 3 (by decide)
      have e4 : wA.cell? ⟨w.heap.size + 1, 4, none⟩ = some (.int .u32 0) := hA1.cell 4 (by decide)
      have e5 : wA.cell? ⟨w.heap.size + 1, 5, none⟩ = some (.int .u32 0) := hA1.cell 5 (by decide)
      have e6 : wA.cell? ⟨w.heap.size + 1, 6, none⟩ = some (.int .u32 0) := hA1.cell 6 (by decide)
      have e7 : wA.cell? ⟨w.heap.size + 1, 7, none⟩ = some (.int .u32 0) := hA1.cell 7 (by decide)
      have f0 := hA1.free 0
      have f1 := hA1.free 1
      have f2 := hA1.free 2
      have f3 := hA1.free 3
      have f4 := hA1.free 4
      have f5 := hA1.free 5
      have f6 := hA1.free 6
      have f7 := hA1.free 7
      have hqi : (q : Int) ≤ 64 := by omega
      have hal : Tryd.prog.arrayLen 122 = 64 := by kernel_rfl
      clear hb0 hb1 hbl hbk hBW hA0
      go_region_law (refine step_append_run rfl (.const (.slice none 0 0)) (.tmp 47) 22 22 22 rfl rfl (.slice none 0 0) (.slice (some ⟨n1 + 1, 0, none⟩) q 64) _ _ rfl rfl HRUN.out ?_)
      all_goals go_wp2
      all_goals
        have hfin : Blk _ (w.heap.size + 1) 124 .u32 [a0, a1, a2, a3, a4, a5, a6, a7] := (((((((hA1.set 0 a0).set 1 a1).set 2 a2).set 3 a3).set 4 a4).set 5 a5).set 6 a6).set 7 a7
        have hB1 := (((((((HBW.out.setCell (p := ⟨w.heap.size + 1, 0, none⟩) (Nat.le_succ _) (.int .u32 a0)).setCell (p := ⟨w.heap.size + 1, 1, none⟩) (Nat.le_succ _) (.int .u32 a1)).setCell (p := ⟨w.heap.size + 1, 2, none⟩) (Nat.le_succ _) (.int .u32 a2)).setCell (p := ⟨w.heap.size + 1, 3, none⟩) (Nat.le_succ _) (.int .u32 a3)).setCell (p := ⟨w.heap.size + 1, 4, none⟩) (Nat.le_succ _) (.int .u32 a4)).setCell (p := ⟨w.heap.size + 1, 5, none⟩) (Nat.le_succ _) (.int .u32 a5)).setCell (p := ⟨w.heap.size + 1, 6, none⟩) (Nat.le_succ _) (.int .u32 a6)).setCell (p := ⟨w.heap.size + 1, 7, none⟩) (Nat.le_succ _) (.int .u32 a7)
        have hO := ownsRow_setCell_other (ownsRow_setCell_other (ownsRow_setCell_other (ownsRow_setCell_other (ownsRow_setCell_other (ownsRow_setCell_other (ownsRow_setCell_other (ownsRow_setCell_other HOWN.out (a := ⟨w.heap.size + 1, 0, none⟩) HNO.out (.int .u32 a0)) (a := ⟨w.heap.size + 1, 1, none⟩) HNO.out (.int .u32 a1)) (a := ⟨w.heap.size + 1, 2, none⟩) HNO.out (.int .u32 a2)) (a := ⟨w.heap.size + 1, 3, none⟩) HNO.out (.int .u32 a3)) (a := ⟨w.heap.size + 1, 4, none⟩) HNO.out (.int .u32 a4)) (a := ⟨w.heap.size + 1, 5, none⟩) HNO.out (.int .u32 a5)) (a := ⟨w.heap.size + 1, 6, none⟩) HNO.out (.int .u32 a6)) (a := ⟨w.heap.size + 1, 7, none⟩) HNO.out (.int .u32 a7)
        refine bodyPost_ret (results_cell_tmp rfl _ _ (w.heap.size + 1) _ _ (0, 0) _ rfl hfin.row Tryd.underlying124 rfl (sz24 _ rfl)) rfl ?_
        rw [← HX.out]
        refine ⟨ap, cap, by rw [← HQ.out, ← HSO.out]; rfl, ?_, hB1⟩
        rw [← HQ.out]
        have hbt := HBUF.out.2
        rw [List.take_length, ← HQ.out] at hbt
        rw [← hbt]
        exact hO
end Go.Proofs.YtaomigfmjglggaaDoor
namespace Go.Proofs.YtaomigfmjglggaaDoor
open Go.RowKit


/-- Behind Concat: the bytes, one behind the other, in a row of the call's own. -/
def ConPost (X : List Int) (w : World) (e : Ending) (w' : World) : Prop :=
  ∃ ap cap, e = .returned (.slice ap X.length cap) ∧ w'.ownsRow w.heap.size 5 1 (.slice ap X.length cap) X.length (X.map (.int .u8)) ∧ Below w.heap.size w w' ∧ ∀ j, j < w.heap.size → (Value.slice ap X.length cap).ownBlock ≠ some j

theorem concat_own (ps : List (List Int)) (b o c : Nat) (w : World) (hP : PartsAt w b o ps) (hn : ps.length ≤ 1000000) (hX : ps.flatten.length ≤ 140737488355328) :
    Calls Tryd.prog 100 #[.slice (some ⟨b, o, none⟩) ps.length c] w (ConPost ps.flatten w) := by
  by_cases h0 : ps.flatten.length = 0
  · refine (concat_zero ps b o c w hP hn h0).mono ?_
    rintro e w' ⟨rfl, rfl⟩
    rw [List.eq_nil_of_length_eq_zero h0]
    exact ⟨none, 0, rfl, World.ownsRow_nil _ _ _ _, Below.refl _ _, fun _ _ h => by cases h⟩
  · refine (concat_any ps b o c w hP hn (by omega) hX).mono ?_
    rintro e w' ⟨cap, rfl, hown, hB⟩
    exact ⟨_, cap, rfl, hown, hB, fun j hj h => by simp [Value.ownBlock] at h; omega⟩

set_option maxRecDepth 100000 in
set_option maxHeartbeats 1000000 in
theorem blocks_few (sv : List Int) (ps : List (List Int)) (b o c : Nat) (w : World) (hv : sv.length = 8) (hP : PartsAt w b o ps) (hn : ps.length ≤ 1000000) (h64 : ps.flatten.length < 64) :
    Calls Tryd.prog 87 #[.agg (cellsOf .u32 sv), .slice (some ⟨b, o, none⟩) ps.length c] w (TakePost sv ps.flatten w) := by
  have HP := hide hP
  have HAVE := hide (fun W => (fun (h : PartsAt W b o ps) => have_any ps b o c W h hn (by omega)))
  have HCON := hide (fun W => (fun (h : PartsAt W b o ps) => concat_own ps b o c W h hn (by omega)))
  have HT := hide (show haveB ps.flatten.length = false by unfold haveB; exact decide_eq_false (by omega))
  obtain ⟨X, hXX⟩ : ∃ X, X = ps.flatten := ⟨_, rfl⟩
  rw [HT.out] at HAVE
  rw [← hXX] at HCON h64 ⊢
  obtain ⟨n, hnn⟩ : ∃ n, n = ps.length := ⟨_, rfl⟩
  rw [← hnn] at hn HAVE HCON ⊢
  have HM64 := hide h64
  clear hP hnn hXX h64 HT
  obtain ⟨a0, a1, a2, a3, a4, a5, a6, a7, rfl⟩ := list8 hv
  clear hv
  go_enter Tryd.func87, Tryd.ntmps87
  go_wp2_with (with_reducible refine wpList_alloc_row rfl 124 rfl (cellsOf .u32 zeros8) zero24 ?_)
  have hBW : Below w.heap.size w ((w.alloc (.cells (cellsOf .u32 [a0, a1, a2, a3, a4, a5, a6, a7]) 124)).alloc (.cells (cellsOf .u32 zeros8) 124)) := ((Below.refl _ _).alloc (Nat.le_refl _) _).alloc (by simp) _
  have hb0 : Blk ((w.alloc (.cells (cellsOf .u32 [a0, a1, a2, a3, a4, a5, a6, a7]) 124)).alloc (.cells (cellsOf .u32 zeros8) 124)) w.heap.size 124 .u32 [a0, a1, a2, a3, a4, a5, a6, a7] := heap_alloc2_old _ _ _
  have hb1 : Blk ((w.alloc (.cells (cellsOf .u32 [a0, a1, a2, a3, a4, a5, a6, a7]) 124)).alloc (.cells (cellsOf .u32 zeros8) 124)) (w.heap.size + 1) 124 .u32 zeros8 := heap_alloc2_new _ _ _
  refine (HAVE.out _ (HP.out.below hBW)).mono ?_
  rintro e wA ⟨rfl, hw0⟩
  rw [hw0] at hBW hb0 hb1
  clear hw0
  have c0 : wA.cell? ⟨w.heap.size, 0, none⟩ = some (.int .u32 a0) := hb0.cell 0 (by simp)
  have c1 : wA.cell? ⟨w.heap.size, 1, none⟩ = some (.int .u32 a1) := hb0.cell 1 (by simp)
  have c2 : wA.cell? ⟨w.heap.size, 2, none⟩ = some (.int .u32 a2) := hb0.cell 2 (by simp)
  have c3 : wA.cell? ⟨w.heap.size, 3, none⟩ = some (.int .u32 a3) := hb0.cell 3 (by simp)
  have c4 : wA.cell? ⟨w.heap.size, 4, none⟩ = some (.int .u32 a4) := hb0.cell 4 (by simp)
  have c5 : wA.cell? ⟨w.heap.size, 5, none⟩ = some (.int .u32 a5) := hb0.cell 5 (by simp)
  have c6 : wA.cell? ⟨w.heap.size, 6, none⟩ = some (.int .u32 a6) := hb0.cell 6 (by simp)
  have c7 : wA.cell? ⟨w.heap.size, 7, none⟩ = some (.int .u32 a7) := hb0.cell 7 (by simp)
  have HCALL := hide (HCON.out wA.drew ((HP.out.below hBW).below ⟨rfl, rfl, rfl, Nat.le_refl _, fun _ _ => rfl⟩))
  go_wp2_with fail
  go_region_law ((go_simp; go_at_call 100; refine HCALL.out.mono ?_; rintro e wB ⟨ap, cap, rfl, hown, hBA, hno⟩; have hB0 := hb0.drew.below hBA hb0.lt; have hB1 := hb1.drew.below hBA hb1.lt; have d0 : wB.cell? ⟨w.heap.size, 0, none⟩ = some (.int .u32 a0) := hB0.cell 0 (by simp); have d1 : wB.cell? ⟨w.heap.size, 1, none⟩ = some (.int .u32 a1) := hB0.cell 1 (by simp); have d2 : wB.cell? ⟨w.heap.size, 2, none⟩ = some (.int .u32 a2) := hB0.cell 2 (by simp); have d3 : wB.cell? ⟨w.heap.size, 3, none⟩ = some (.int .u32 a3) := hB0.cell 3 (by simp); have d4 : wB.cell? ⟨w.heap.size, 4, none⟩ = some (.int .u32 a4) := hB0.cell 4 (by simp); have d5 : wB.cell? ⟨w.heap.size, 5, none⟩ = some (.int .u32 a5) := hB0.cell 5 (by simp); have d6 : wB.cell? ⟨w.heap.size, 6, none⟩ = some (.int .u32 a6) := hB0.cell 6 (by simp); have d7 : wB.cell? ⟨w.heap.size, 7, none⟩ = some (.int .u32 a7) := hB0.cell 7 (by simp); have e0 : wB.cell? ⟨w.heap.size + 1, 0, none⟩ = some (.int .u32 0) := hB1.cell 0 (by decide); have e1 : wB.cell? ⟨w.heap.size + 1, 1, none⟩ = some (.int .u32 0) := hB1.cell 1 (by decide); have e2 : wB.cell? ⟨w.heap.size + 1, 2, none⟩ = some (.int .u32 0) := hB1.cell 2 (by decide); have e3 : wB.cell? ⟨w.heap.size + 1, 3, none⟩ = some (.int .u32 0) := hB1.cell 3 (by decide); have e4 : wB.cell? ⟨w.heap.size + 1, 4, none⟩ = some (.int .u32 0) := hB1.cell 4 (by decide); have e5 : wB.cell? ⟨w.heap.size + 1, 5, none⟩ = some (.int .u32 0) := hB1.cell 5 (by decide); have e6 : wB.cell? ⟨w.heap.size + 1, 6, none⟩ = some (.int .u32 0) := hB1.cell 6 (by decide); have e7 : wB.cell? ⟨w.heap.size + 1, 7, none⟩ = some (.int .u32 0) := hB1.cell 7 (by decide); have f0 := hB1.free 0; have f1 := hB1.free 1; have f2 := hB1.free 2; have f3 := hB1.free 3; have f4 := hB1.free 4; have f5 := hB1.free 5; have f6 := hB1.free 6; have f7 := hB1.free 7; have HOWN := hide hown; have HNO := hide (hno (w.heap.size + 1) hb1.lt); have HBW := hide (hBW.drew.trans (hBA.mono hBW.size)); clear hown hno hBA hB0))
  all_goals go_wp2
  all_goals
    have hfin : Blk _ (w.heap.size + 1) 124 .u32 [a0, a1, a2, a3, a4, a5, a6, a7] := (((((((hB1.set 0 a0).set 1 a1).set 2 a2).set 3 a3).set 4 a4).set 5 a5).set 6 a6).set 7 a7
    have hBf := (((((((HBW.out.setCell (p := ⟨w.heap.size + 1, 0, none⟩) (Nat.le_succ _) (.int .u32 a0)).setCell (p := ⟨w.heap.size + 1, 1, none⟩) (Nat.le_succ _) (.int .u32 a1)).setCell (p := ⟨w.heap.size + 1, 2, none⟩) (Nat.le_succ _) (.int .u32 a2)).setCell (p := ⟨w.heap.size + 1, 3, none⟩) (Nat.le_succ _) (.int .u32 a3)).setCell (p := ⟨w.heap.size + 1, 4, none⟩) (Nat.le_succ _) (.int .u32 a4)).setCell (p := ⟨w.heap.size + 1, 5, none⟩) (Nat.le_succ _) (.int .u32 a5)).setCell (p := ⟨w.heap.size + 1, 6, none⟩) (Nat.le_succ _) (.int .u32 a6)).setCell (p := ⟨w.heap.size + 1, 7, none⟩) (Nat.le_succ _) (.int .u32 a7)
    have hO := ownsRow_setCell_other (ownsRow_setCell_other (ownsRow_setCell_other (ownsRow_setCell_other (ownsRow_setCell_other (ownsRow_setCell_other (ownsRow_setCell_other (ownsRow_setCell_other HOWN.out (a := ⟨w.heap.size + 1, 0, none⟩) HNO.out (.int .u32 a0)) (a := ⟨w.heap.size + 1, 1, none⟩) HNO.out (.int .u32 a1)) (a := ⟨w.heap.size + 1, 2, none⟩) HNO.out (.int .u32 a2)) (a := ⟨w.heap.size + 1, 3, none⟩) HNO.out (.int .u32 a3)) (a := ⟨w.heap.size + 1, 4, none⟩) HNO.out (.int .u32 a4)) (a := ⟨w.heap.size + 1, 5, none⟩) HNO.out (.int .u32 a5)) (a := ⟨w.heap.size + 1, 6, none⟩) HNO.out (.int .u32 a6)) (a := ⟨w.heap.size + 1, 7, none⟩) HNO.out (.int .u32 a7)
    refine bodyPost_ret (results_cell_tmp rfl _ _ (w.heap.size + 1) _ _ (0, 0) _ rfl hfin.row Tryd.underlying124 rfl (sz24 _ rfl)) rfl ?_
    have h64 := HM64.out
    have e1 : X.length / 64 = 0 := by omega
    have e2 : X.length % 64 = X.length := by omega
    refine ⟨ap, cap, by rw [e1, e2]; rfl, ?_, hBf⟩
    rw [e1, e2, Nat.mul_zero, List.drop_zero]
    exact ownsRow_base hO hBW.size

theorem blocks_own (sv : List Int) (ps : List (List Int)) (b o c : Nat) (w : World) (hv : sv.length = 8) (hP : PartsAt w b o ps) (hn : ps.length ≤ 1000000) (hX : ps.flatten.length ≤ 140737488355328) :
    Calls Tryd.prog 87 #[.agg (cellsOf .u32 sv), .slice (some ⟨b, o, none⟩) ps.length c] w (TakePost sv ps.flatten w) := by
  by_cases h : ps.flatten.length < 64
  · exact blocks_few sv ps b o c w hv hP hn h
  · exact blocks_any sv ps b o c w (hide hv) hP hn (by omega) hX
end Go.Proofs.YtaomigfmjglggaaDoor
namespace Go.Proofs.YtaomigfmjglggaaDoor
open Go.RowKit

theorem parts_one {w : World} {b : Nat} {sv : Value} {xs : List Int} (hc : w.cell? ⟨b, 0, none⟩ = some sv) (hlt : b < w.heap.size) (hs : SlAt w sv xs) : PartsAt w b 0 [xs] := by
  refine ⟨hlt, fun i hi => ?_⟩
  have h0 : i = 0 := by simp at hi; omega
  subst h0
  exact ⟨sv, hc, hs⟩


end Go.Proofs.YtaomigfmjglggaaDoor
