/- The law AddrMerged (P4.8). -/
import Derived.Test.YtgikkjjnoakhdaaDoorAddrMergesLaw
namespace Go.Proofs.YtgikkjjnoakhdaaDoor
open Go.RowKit Go.Lib

def lexB (c d : Net) : Bool := decide (c.a < d.a ∨ (c.a = d.a ∧ c.b ≤ d.b))
theorem merged_facts (l : List Net) (hf : ∀ c ∈ l, c.a < 4294967296) : (∀ c ∈ mergeS l, Fit c) ∧ (mergeS l).length ≤ l.length ∧ (∀ y, allB (mergeS l) y = allB l y) ∧ (mergeS l).Pairwise Below2 ∧ (mergeS l).Pairwise (fun c d => ¬ sib c d) := by
  have hp : ((l.filter mayB).mergeSort lexB).Perm (l.filter mayB) := List.mergeSort_perm _ _
  have hs : ((l.filter mayB).mergeSort lexB).Pairwise lexle := by
    have h := List.pairwise_mergeSort (le := lexB) (fun a b c h1 h2 => by unfold lexB at *; simp only [decide_eq_true_eq] at *; omega) (fun a b => by unfold lexB; rw [Bool.or_eq_true, decide_eq_true_eq, decide_eq_true_eq]; omega) (l.filter mayB)
    refine h.imp ?_
    intro a b hab
    unfold lexB at hab
    simpa [lexle] using hab
  generalize (l.filter mayB).mergeSort lexB = l' at *
  have hfit := fit_of hp hf
  obtain ⟨h1, h2⟩ := push_all l' [] ⟨fun t h => (by cases h), List.Pairwise.nil, List.Pairwise.nil⟩ (fun c hc => (hfit c hc).1) hs (fun t ht => by cases ht)
  have hlen : ∀ (l : List Net) (st : List Net), (l.foldl push st).length ≤ st.length + l.length := by
    intro l
    induction l with
    | nil => intro st; simp
    | cons c r ih =>
      intro st
      have a1 := ih (push st c)
      have a2 := push_length st c
      simp only [List.foldl_cons, List.length_cons]
      omega
  have hltf : ∀ (l st : List Net), (∀ c ∈ l, Fit c) → (∀ c ∈ st, c.a < 4294967296) → ∀ c ∈ l.foldl push st, c.a < 4294967296 := by
    intro l
    induction l with
    | nil => intro st _ h; exact h
    | cons c r ih =>
      intro st hl hst
      rw [List.foldl_cons]
      refine ih (push st c) (fun x hx => hl x (by simp [hx])) ?_
      have hc := (hl c (by simp)).2
      clear ih hl
      induction st generalizing c with
      | nil => intro x hx; simp [push] at hx; rw [hx]; exact hc
      | cons t r2 ih2 =>
        intro x hx
        rw [push] at hx
        split at hx
        · exact hst x hx
        · split at hx
          · exact ih2 (wholeOf t) (fun y hy => hst y (by simp [hy])) (Nat.lt_of_le_of_lt (flo_le _ _) (hst t (by simp))) x hx
          · rcases List.mem_cons.1 hx with rfl | hx
            · exact hc
            · exact hst x hx
  rw [← merge_of hp hs hf]
  refine ⟨fun c hc => ⟨h1.ok c (List.mem_reverse.1 hc), hltf l' [] hfit (fun c h => by cases h) c (List.mem_reverse.1 hc)⟩, ?_, ?_, ?_, ?_⟩
  · have := hlen l' []
    have a1 := hp.length_eq
    have a2 := List.length_filter_le mayB l
    simp at this ⊢
    omega
  · intro y
    rw [← all_perm hp y]
    have := h2 y
    unfold allB at this ⊢
    rw [List.any_reverse, this]
    simp
  · rw [List.pairwise_reverse]; exact h1.apart
  · rw [List.pairwise_reverse]; exact h1.alone
theorem mergeS_all {l m : List Net} (h : ∀ y, allB l y = allB m y) : mergeS l = mergeS m := by
  unfold mergeS
  rw [show allB l = allB m from funext h]
theorem any_drop (l : List Net) (p : Nat) (h : p < l.length) (f : Net → Bool) : (l.drop p).any f = (f (l.getD p default) || (l.drop (p + 1)).any f) := by
  rw [List.drop_eq_getElem_cons h, List.any_cons]
  simp [List.getD, h]
theorem rev_drop (l : List Net) (p : Nat) (h : p < l.length) : (l.drop p).reverse = (l.drop (p + 1)).reverse ++ [l.getD p default] := by
  rw [List.drop_eq_getElem_cons h, List.reverse_cons]
  simp [List.getD, h]
theorem pair_get {q : List Net} {R : Net → Net → Prop} (h : q.Pairwise R) {j i : Nat} (hj : j < i) (hi : i < q.length) : R (q.getD j default) (q.getD i default) := by
  have h1 := List.pairwise_iff_getElem.1 h j i (by omega) hi hj
  simpa [List.getD, hi, show j < q.length by omega] using h1

set_option maxRecDepth 100000 in
set_option maxHeartbeats 8000000 in
theorem merged_any (v : Value) (l : List Net) (hf : ∀ c ∈ l, c.a < 4294967296) (a : Nat) (ha : a < 4294967296) (w : World) (hE : Env w) (hC : CAt w v l) : Calls Tryd.prog 8 #[v, .int .u32 a] w (LawPost w) := by
  have HE := hide hE
  clear hE
  obtain ⟨ao, cap, rfl⟩ := hC.len
  obtain ⟨n, hn⟩ : ∃ n, l.length = n := ⟨_, rfl⟩
  rw [hn] at hC ⊢
  by_cases h60 : 60 < n
  · have h60' : (60 : Int) < (n : Int) := by omega
    clear hC hn
    go_enter Tryd.func8, Tryd.ntmps8
    go_wp2_with fail
    refine (awake_any _ HE.out).mono ?_
    rintro e w2 ⟨rfl, hB⟩
    go_wp2_with fail
    go_ret
    exact ⟨rfl, hB⟩
  · have h60' : ¬ (60 : Int) < (n : Int) := by omega
    have HME := hide (fun v W (h : CAt W v l) => merge_any v l W h hf (by omega))
    unfold MergePost at HME
    obtain ⟨f1, f2, f3, f4, f5⟩ := merged_facts l hf
    have HMQ := hide (fun v W (h : CAt W v (mergeS l)) => merge_any v (mergeS l) W h (fun c hc => (f1 c hc).2) (by omega))
    have HMB := hide (fun v W (h : CAt W v l.reverse) => merge_any v l.reverse W h (fun c hc => hf c (List.mem_reverse.1 hc)) (by simp; omega))
    unfold MergePost at HMQ HMB
    rw [mergeS_all f3] at HMQ
    rw [mergeS_all (l := l.reverse) (m := l) (fun y => by unfold allB; rw [List.any_reverse])] at HMB
    have hq60 : (mergeS l).length ≤ 60 := by omega
    have HALL := hide (f3 a)
    generalize mergeS l = q at *
    have HF1 := hide f1
    have HF4 := hide f4
    have HF5 := hide f5
    have HFL := hide hf
    have HN := hide hn
    have HC := hide hC
    obtain ⟨n4, hn4⟩ : ∃ n4, q.length = n4 := ⟨_, rfl⟩
    rw [hn4] at hq60
    have HN4 := hide hn4
    clear f1 f2 f3 f4 f5 hf hn hC hn4
    go_enter Tryd.func8, Tryd.ntmps8
    go_wp2_with fail
    refine (HME.out _ _ HC.out).mono ?_
    rintro e w1 ⟨vm, rfl, hR, hB⟩
    have HB1 := hide hB
    have HR1 := hide hR
    have HC1 := hide (HC.out.below hB)
    have hT := hR.cAt
    obtain ⟨aom, capm, rfl⟩ := hT.len
    rw [HN4.out] at HR1 ⊢
    clear hB hR hT
    go_wp2_with fail
    have hin0 : IntKind.i64.wrap ((n : Int) - 1) = (n : Int) - 1 := IntWalk.i64_in _ (by omega)
    try rw [hin0]
    clear hin0
    go_loopw [6, 8, 9] (fun s6 s8 s9 wr => ∃ (p : Nat) (b : Bool), p ≤ n ∧ s9 = .int .i64 ((p : Int) - 1) ∧ s6 = .bool b ∧ b = (l.drop p).any (fun c => inB c a) ∧ CRow wr w.heap.size s8 (l.drop p).reverse ∧ Below w1.heap.size w1 wr ∧ (∀ x, s8.ownBlock = some x → w1.heap.size ≤ x)) (fun _ _ s9 _ => (intOf s9 + 1).toNat)
    case atStart => exact ⟨n, false, Nat.le_refl _, rfl, rfl, by rw [List.drop_eq_nil_of_le (by rw [HN.out]; exact Nat.le_refl _)]; rfl, by rw [List.drop_eq_nil_of_le (by rw [HN.out]; exact Nat.le_refl _)]; exact CRow.nil _ _, Below.refl _ _, fun x h => by simp [Value.ownBlock] at h⟩
    case round =>
      obtain ⟨p, b, hp, rfl, rfl, hb, hS, hB, hown⟩ := hrel
      cases p with
      | succ p =>
        have hge : (0 : Int) ≤ (p : Int) := by omega
        have hlt : (p : Int) < (n : Int) := by omega
        rw [show ((p + 1 : Nat) : Int) - 1 = (p : Int) by omega]
        obtain ⟨b1, o1, h1, hb1, hc0, hc1⟩ := HC1.out.at (k := p) (by omega)
        subst h1
        have hpl : p < l.length := by rw [HN.out]; omega
        have hac := HFL.out _ (mem_getD l p hpl)
        have HAD := hide (any_drop l p hpl (fun c => inB c a))
        have HRD := hide (rev_drop l p hpl)
        have HIN := hide (fun W => in_any (l.getD p default) hac a ha W)
        rw [← hb] at HAD
        generalize l.getD p default = e at *
        obtain ⟨ea, eb⟩ := e
        unfold Net.val at HIN
        dsimp only at HIN hc0 hc1
        generalize inB ⟨ea, eb⟩ a = ie at *
        have C0 := hide hc0
        have C1 := hide hc1
        have L1 := hide hb1
        have HS := hide hS
        have HB := hide hB
        have HOW := hide hown
        have hw1 : IntKind.i64.wrap ((p : Int) - 1) = (p : Int) - 1 := IntWalk.i64_in _ (by omega)
        clear hb hS hB hown hc0 hc1 hb1 hac hpl
        cases b with
        | true =>
          have HBw := hide (HB.out.trans ((Below.refl wr.heap.size wr).mono HB.out.size))
          have c0 := (HBw.out.cell (p := ⟨b1, o1 + p * 2, none⟩) L1.out).trans C0.out
          have c1 := (HBw.out.cell (p := ⟨b1, o1 + p * 2 + 1, none⟩) L1.out).trans C1.out
          have hS6 := (HS.out.below (Below.refl wr.heap.size wr)).alloc (.cells #[.int .u32 (ea : Nat), .int .i64 eb] 24)
          have hB7 := HBw.out.alloc HBw.out.size (.cells #[.int .u32 (ea : Nat), .int .i64 eb] 24)
          obtain ⟨v8, w8, hrun, hR8, hK8, hown8⟩ := append_nets _ w.heap.size u8 _ hS6 (.slice (some ⟨wr.heap.size, 0, none⟩) 1 1) [⟨ea, eb⟩] (box_row _ wr.heap.size ⟨ea, eb⟩ (heap_alloc_new wr _) 1) (by have := HN.out; simp; omega) (Nat.le_trans HB1.out.size hB7.size)
          have HRUN := hide hrun
          rw [← HRD.out] at hR8
          have HR8 := hide hR8
          have HB8 := hide (hK8.through hB7 (fun x hx => HOW.out x hx) hB7.size)
          have HOW8 : Hid (∀ x, v8.ownBlock = some x → w1.heap.size ≤ x) := hide (fun x hx => by
            rcases hown8 with h | h
            · exact HOW.out x (h ▸ hx)
            · rw [h] at hx
              injection hx with hx
              have := hB7.size
              omega)
          clear hrun hR8 hK8 hown8 hS6 hB7
          go_wp2_with (at_builtin; with_reducible refine wpList_append_run rfl (.tmp 36) (.tmp 41) 37 37 37 rfl rfl u8 (.slice (some ⟨wr.heap.size, 0, none⟩) 1 1) v8 w8 rfl rfl HRUN.out ?_)
          go_roundw
          case rel => exact ⟨p, true, by omega, by go_num, rfl, by rw [HAD.out]; try simp, HR8.out, HB8.out, HOW8.out⟩
          case measure => simp [intOf]
        | false =>
          have c0 := (HB.out.cell (p := ⟨b1, o1 + p * 2, none⟩) L1.out).trans C0.out
          have c1 := (HB.out.cell (p := ⟨b1, o1 + p * 2 + 1, none⟩) L1.out).trans C1.out
          go_wp2_with fail
          refine (HIN.out _).mono ?_
          rintro e w7 ⟨rfl, hB7⟩
          have HB7 := hide hB7
          clear hB7 c0 c1
          have HBw := hide (HB.out.trans (HB7.out.mono HB.out.size))
          have c0 := (HBw.out.cell (p := ⟨b1, o1 + p * 2, none⟩) L1.out).trans C0.out
          have c1 := (HBw.out.cell (p := ⟨b1, o1 + p * 2 + 1, none⟩) L1.out).trans C1.out
          have hS6 := (HS.out.below HB7.out).alloc (.cells #[.int .u32 (ea : Nat), .int .i64 eb] 24)
          have hB7 := HBw.out.alloc HBw.out.size (.cells #[.int .u32 (ea : Nat), .int .i64 eb] 24)
          obtain ⟨v8, w8, hrun, hR8, hK8, hown8⟩ := append_nets _ w.heap.size u8 _ hS6 (.slice (some ⟨w7.heap.size, 0, none⟩) 1 1) [⟨ea, eb⟩] (box_row _ w7.heap.size ⟨ea, eb⟩ (heap_alloc_new w7 _) 1) (by have := HN.out; simp; omega) (Nat.le_trans HB1.out.size hB7.size)
          have HRUN := hide hrun
          rw [← HRD.out] at hR8
          have HR8 := hide hR8
          have HB8 := hide (hK8.through hB7 (fun x hx => HOW.out x hx) hB7.size)
          have HOW8 : Hid (∀ x, v8.ownBlock = some x → w1.heap.size ≤ x) := hide (fun x hx => by
            rcases hown8 with h | h
            · exact HOW.out x (h ▸ hx)
            · rw [h] at hx
              injection hx with hx
              have := hB7.size
              omega)
          clear hrun hR8 hK8 hown8 hS6 hB7
          go_wp2_with (at_builtin; with_reducible refine wpList_append_run rfl (.tmp 36) (.tmp 41) 37 37 37 rfl rfl u8 (.slice (some ⟨w7.heap.size, 0, none⟩) 1 1) v8 w8 rfl rfl HRUN.out ?_)
          go_roundw
          case rel => exact ⟨p, ie, by omega, by go_num, rfl, by rw [HAD.out]; try simp, HR8.out, HB8.out, HOW8.out⟩
          case measure => simp [intOf]
      | zero =>
        have hge : ¬ (0 : Int) ≤ ((0 : Nat) : Int) - 1 := by omega
        have HBACK := hide (show CRow wr w.heap.size u8 l.reverse from hS)
        have HBX := hide (show b = allB l a from hb)
        have HB := hide hB
        have HR2 := hide (HR1.out.below hB)
        have HB2 := hide (HB1.out.trans (hB.mono HB1.out.size))
        clear hb hS hB hown
        go_wp2_with fail
        generalize wr = wb at *
        have HQ := hide HR2.out.cAt
        have hbb : b = b := rfl
        clear hbb
        go_loopw [7, 10] (fun s7 s10 W => ∃ (k : Nat) (y : Bool), k ≤ n4 ∧ s10 = .int .i64 k ∧ s7 = .bool y ∧ y = (q.take k).any (fun c => inB c a) ∧ Below wb.heap.size wb W) (fun _ s10 _ => n4 - (intOf s10).toNat)
        case atStart => exact ⟨0, false, Nat.zero_le _, rfl, rfl, rfl, Below.refl _ _⟩
        case round =>
          obtain ⟨k, y, hk, rfl, rfl, hy, hB⟩ := hrel
          by_cases hlt : k < n4
          · have hlt' : (k : Int) < (n4 : Int) := by omega
            obtain ⟨bm, om, hao, hbl, hc0, hc1⟩ := HQ.out.at (k := k) hlt
            subst hao
            have hkq : k < q.length := by rw [HN4.out]; exact hlt
            have hfi := HF1.out _ (mem_getD q k hkq)
            have HAN := hide (any_next q k hkq (fun c => inB c a))
            rw [← hy] at HAN
            have HIQ := hide (fun W => in_any (q.getD k default) hfi.2 a ha W)
            have HPA := hide (fun j (hj : j < k) => pair_get HF4.out hj hkq)
            have HPS := hide (fun j (hj : j < k) => pair_get HF5.out hj hkq)
            generalize q.getD k default = e at *
            obtain ⟨ia, ib⟩ := e
            unfold Net.val at HIQ
            dsimp only at HIQ hc0 hc1
            generalize inB ⟨ia, ib⟩ a = iy at *
            have D0 := hide hc0
            have D1 := hide hc1
            have LD := hide hbl
            have HBr := hide hB
            have HIO := hide (show Fit ⟨ia, ib⟩ from hfi)
            clear hy hB hc0 hc1 hbl hfi hkq
            cases y with
            | true =>
              go_wp2_with fail
              generalize wr = w7 at *
              go_loopw [11] (fun s11 W => ∃ j : Nat, j ≤ k ∧ s11 = .int .i64 j ∧ Below wb.heap.size wb W) (fun s11 _ => k - (intOf s11).toNat)
              case atStart => exact ⟨0, Nat.zero_le _, rfl, HBr.out⟩
              case round =>
                obtain ⟨j, hj, rfl, hB⟩ := hrel
                by_cases hjk : j < k
                · have hjk' : (j : Int) < (k : Int) := by omega
                  have hjn : (j : Int) < (n4 : Int) := by omega
                  obtain ⟨bm2, om2, hao2, _, hd0, hd1⟩ := HQ.out.at (k := j) (by omega)
                  injection hao2 with hao2
                  injection hao2 with q1 q2
                  subst q1 q2
                  have hjq : j < q.length := by rw [HN4.out]; omega
                  have hfj := HF1.out _ (mem_getD q j hjq)
                  have hpa := HPA.out j hjk
                  have hps := HPS.out j hjk
                  have HLJ := hide (fun W => last_any (q.getD j default) hfj.2 W)
                  rw [(mayB_iff _).2 hfj.1] at HLJ
                  simp only [if_true] at HLJ
                  generalize q.getD j default = e at *
                  obtain ⟨ja, jb⟩ := e
                  unfold Net.val at HLJ
                  unfold Below2 at hpa
                  dsimp only at HLJ hd0 hd1 hpa
                  have hpz := sz_pos jb
                  have hla : ja + (sz jb - 1) < ia := by omega
                  have hib := HIO.out.1.lo
                  have hib2 := HIO.out.1.hi
                  have hia := HIO.out.2
                  dsimp only at hib hib2 hia
                  have hjlt : ja < 4294967296 := hfj.2
                  generalize ja + (sz jb - 1) = lj at *
                  have E0 := hide hd0
                  have E1 := hide hd1
                  have HBn0 := hide hB
                  have c0 := (hB.cell (p := ⟨bm, om + j * 2, none⟩) LD.out).trans hd0
                  have c1 := (hB.cell (p := ⟨bm, om + j * 2 + 1, none⟩) LD.out).trans hd1
                  clear hd0 hd1 hB hfj hjq hpa hpz
                  go_wp2_with fail
                  refine (HLJ.out _).mono ?_
                  rintro e w9 ⟨rfl, hB⟩
                  have HBn := hide (HBn0.out.trans (hB.mono HBn0.out.size))
                  clear hB c0 c1 HBn0
                  have hgq : ¬ (ia : Int) ≤ (lj : Int) := by omega
                  have HGQ := hide (show decide ((ia : Int) ≤ (lj : Int)) = false by simpa using hgq)
                  have HGN := hide (show decide (ia ≤ lj) = false by simp; omega)
                  clear hgq
                  by_cases he : jb = ib
                  · subst he
                    by_cases hp : 0 < jb
                    · have hne : flo ja (jb - 1) ≠ flo ia (jb - 1) := fun h => hps ⟨rfl, hp, h⟩
                      have HA1 := hide (and_mask ja hjlt (jb - 1))
                      have HA2 := hide (and_mask ia hia (jb - 1))
                      have HMK := hide (fun W => mask_any (jb - 1) W)
                      generalize flo ja (jb - 1) = fj at *
                      generalize flo ia (jb - 1) = fi at *
                      generalize 4294967296 - sz (jb - 1) = mk at *
                      have HMS : Hid (∀ W : World, Calls Tryd.prog 24 #[.int .i64 (jb - 1)] W (fun e w' => e = .returned (.int .u32 (mk : Nat)) ∧ Below W.heap.size W w')) := hide (fun W => (HMK.out W).mono (by rintro e w' ⟨rfl, rfl⟩; exact ⟨rfl, Below.refl _ _⟩))
                      have hne' : ¬ (fj : Int) = (fi : Int) := by omega
                      have hsub : IntKind.i64.wrap (jb - 1) = jb - 1 := IntWalk.i64_in _ (by omega)
                      clear hne hps hla
                      go_wp2_with fail
                      refine wp_region_held_drew (S := fun w' => Below w9.heap.size w9 w') (by kernel_rfl) ((Below.refl _ _).drew) (fun hHeld => ?_)
                      refine wpAnyH_take (i := 0) (oi := { dst := some 71, op := Op.move (Operand.tmp 12), type := 22, pos := "outright.go:66", after := #[], guard := none }) (v := ?_) rfl (by kernel_rfl) (by kernel_rfl) (by kernel_rfl) (fun _ _ _ h => h) (Or.inl ⟨by rfl, ?_⟩) hHeld ?_
                      rotate_left
                      · intro w hSw; (try dsimp only at hSw); go_simp; first | done | with_reducible rfl
                      try simp only [Act.put, List.setIfInBounds_toArray, List.set_cons_zero, List.set_cons_succ]
                      refine wpAnyH_take (i := 1) (oi := { dst := some 72, op := Op.move (Operand.tmp 5), type := 37, pos := "outright.go:66", after := #[], guard := none }) (v := ?_) rfl (by kernel_rfl) (by kernel_rfl) (by kernel_rfl) (fun _ _ _ h => h) (Or.inl ⟨by rfl, ?_⟩) hHeld ?_
                      rotate_left
                      · intro w hSw; (try dsimp only at hSw); go_simp; first | done | with_reducible rfl
                      try simp only [Act.put, List.setIfInBounds_toArray, List.set_cons_zero, List.set_cons_succ]
                      refine wpAnyH_take (i := 2) (oi := { dst := some 73, op := Op.move (Operand.tmp 10), type := 3, pos := "outright.go:66", after := #[], guard := none }) (v := ?_) rfl (by kernel_rfl) (by kernel_rfl) (by kernel_rfl) (fun _ _ _ h => h) (Or.inl ⟨by rfl, ?_⟩) hHeld ?_
                      rotate_left
                      · intro w hSw; (try dsimp only at hSw); go_simp; first | done | with_reducible rfl
                      try simp only [Act.put, List.setIfInBounds_toArray, List.set_cons_zero, List.set_cons_succ]
                      refine wpAnyH_take (i := 3) (oi := { dst := some 74, op := Op.indexAddr 37 (Operand.tmp 72) (Operand.tmp 73), type := 0, pos := "outright.go:66", after := #[{ on := 1, ground := Ground.data }, { on := 2, ground := Ground.data }], guard := none }) (v := ?_) rfl (by kernel_rfl) (by kernel_rfl) (by kernel_rfl) (fun _ _ _ h => h) (Or.inl ⟨by rfl, ?_⟩) hHeld ?_
                      rotate_left
                      · intro w hSw; (try dsimp only at hSw); have h := hlt'; go_simp; first | done | with_reducible rfl
                      try simp only [Act.put, List.setIfInBounds_toArray, List.set_cons_zero, List.set_cons_succ]
                      refine wpAnyH_take (i := 4) (oi := { dst := some 75, op := Op.fieldAddr 24 (Operand.tmp 74) 0, type := 0, pos := "outright.go:66", after := #[{ on := 3, ground := Ground.data }], guard := none }) (v := ?_) rfl (by kernel_rfl) (by kernel_rfl) (by kernel_rfl) (fun _ _ _ h => h) (Or.inl ⟨by rfl, ?_⟩) hHeld ?_
                      rotate_left
                      · intro w hSw; (try dsimp only at hSw); go_simp; first | done | with_reducible rfl
                      try simp only [Act.put, List.setIfInBounds_toArray, List.set_cons_zero, List.set_cons_succ]
                      refine wpAnyH_take (i := 5) (oi := { dst := some 76, op := Op.load 22 (Operand.tmp 75), type := 22, pos := "outright.go:66", after := #[{ on := 4, ground := Ground.data }], guard := none }) (v := ?_) rfl (by kernel_rfl) (by kernel_rfl) (by kernel_rfl) (fun _ _ _ h => h) (Or.inl ⟨by rfl, ?_⟩) hHeld ?_
                      rotate_left
                      · intro w hSw; (try dsimp only at hSw); have e0 := (hSw.cell (p := ⟨bm, om + k * 2, none⟩) (Nat.lt_of_lt_of_le LD.out HBn.out.size)).trans ((HBn.out.cell (p := ⟨bm, om + k * 2, none⟩) LD.out).trans D0.out); have e1 := (hSw.cell (p := ⟨bm, om + k * 2 + 1, none⟩) (Nat.lt_of_lt_of_le LD.out HBn.out.size)).trans ((HBn.out.cell (p := ⟨bm, om + k * 2 + 1, none⟩) LD.out).trans D1.out); have e2 := (hSw.cell (p := ⟨bm, om + j * 2, none⟩) (Nat.lt_of_lt_of_le LD.out HBn.out.size)).trans ((HBn.out.cell (p := ⟨bm, om + j * 2, none⟩) LD.out).trans E0.out); have e3 := (hSw.cell (p := ⟨bm, om + j * 2 + 1, none⟩) (Nat.lt_of_lt_of_le LD.out HBn.out.size)).trans ((HBn.out.cell (p := ⟨bm, om + j * 2 + 1, none⟩) LD.out).trans E1.out); go_simp; first | done | with_reducible rfl
                      try simp only [Act.put, List.setIfInBounds_toArray, List.set_cons_zero, List.set_cons_succ]
                      refine wpAnyH_take (i := 6) (oi := { dst := some 77, op := Op.binOp BinOp.geq 22 (Operand.tmp 71) (Operand.tmp 76) 22, type := 4, pos := "outright.go:66", after := #[{ on := 0, ground := Ground.data }, { on := 5, ground := Ground.data }], guard := none }) (v := ?_) rfl (by kernel_rfl) (by kernel_rfl) (by kernel_rfl) (fun _ _ _ h => h) (Or.inl ⟨by rfl, ?_⟩) hHeld ?_
                      rotate_left
                      · intro w hSw; (try dsimp only at hSw); have h := HGQ.out; have h2 := HGN.out; go_simp; first | done | with_reducible rfl
                      try simp only [Act.put, List.setIfInBounds_toArray, List.set_cons_zero, List.set_cons_succ]
                      refine wpAnyH_take (i := 7) (oi := { dst := some 78, op := Op.move (Operand.tmp 77), type := 4, pos := "outright.go:66", after := #[{ on := 6, ground := Ground.data }], guard := none }) (v := ?_) rfl (by kernel_rfl) (by kernel_rfl) (by kernel_rfl) (fun _ _ _ h => h) (Or.inl ⟨by rfl, ?_⟩) hHeld ?_
                      rotate_left
                      · intro w hSw; (try dsimp only at hSw); go_simp; first | done | with_reducible rfl
                      try simp only [Act.put, List.setIfInBounds_toArray, List.set_cons_zero, List.set_cons_succ]
                      refine wpAnyH_take (i := 8) (oi := { dst := some 79, op := Op.move (Operand.tmp 5), type := 37, pos := "outright.go:66", after := #[{ on := 7, ground := Ground.guard }], guard := some (7, false) }) (v := ?_) rfl (by kernel_rfl) (by kernel_rfl) (by kernel_rfl) (fun _ _ _ h => h) (Or.inl ⟨by rfl, ?_⟩) hHeld ?_
                      rotate_left
                      · intro w hSw; (try dsimp only at hSw); go_simp; first | done | with_reducible rfl
                      try simp only [Act.put, List.setIfInBounds_toArray, List.set_cons_zero, List.set_cons_succ]
                      refine wpAnyH_take (i := 9) (oi := { dst := some 80, op := Op.move (Operand.tmp 11), type := 3, pos := "outright.go:66", after := #[{ on := 7, ground := Ground.guard }], guard := some (7, false) }) (v := ?_) rfl (by kernel_rfl) (by kernel_rfl) (by kernel_rfl) (fun _ _ _ h => h) (Or.inl ⟨by rfl, ?_⟩) hHeld ?_
                      rotate_left
                      · intro w hSw; (try dsimp only at hSw); go_simp; first | done | with_reducible rfl
                      try simp only [Act.put, List.setIfInBounds_toArray, List.set_cons_zero, List.set_cons_succ]
                      refine wpAnyH_take (i := 10) (oi := { dst := some 81, op := Op.indexAddr 37 (Operand.tmp 79) (Operand.tmp 80), type := 0, pos := "outright.go:66", after := #[{ on := 8, ground := Ground.data }, { on := 9, ground := Ground.data }, { on := 7, ground := Ground.guard }], guard := some (7, false) }) (v := ?_) rfl (by kernel_rfl) (by kernel_rfl) (by kernel_rfl) (fun _ _ _ h => h) (Or.inl ⟨by rfl, ?_⟩) hHeld ?_
                      rotate_left
                      · intro w hSw; (try dsimp only at hSw); have h := hjn; go_simp; first | done | with_reducible rfl
                      try simp only [Act.put, List.setIfInBounds_toArray, List.set_cons_zero, List.set_cons_succ]
                      refine wpAnyH_take (i := 11) (oi := { dst := some 82, op := Op.fieldAddr 24 (Operand.tmp 81) 1, type := 0, pos := "outright.go:66", after := #[{ on := 10, ground := Ground.data }, { on := 7, ground := Ground.guard }], guard := some (7, false) }) (v := ?_) rfl (by kernel_rfl) (by kernel_rfl) (by kernel_rfl) (fun _ _ _ h => h) (Or.inl ⟨by rfl, ?_⟩) hHeld ?_
                      rotate_left
                      · intro w hSw; (try dsimp only at hSw); go_simp; first | done | with_reducible rfl
                      try simp only [Act.put, List.setIfInBounds_toArray, List.set_cons_zero, List.set_cons_succ]
                      refine wpAnyH_take (i := 12) (oi := { dst := some 83, op := Op.load 3 (Operand.tmp 82), type := 3, pos := "outright.go:66", after := #[{ on := 11, ground := Ground.data }, { on := 7, ground := Ground.guard }], guard := some (7, false) }) (v := ?_) rfl (by kernel_rfl) (by kernel_rfl) (by kernel_rfl) (fun _ _ _ h => h) (Or.inl ⟨by rfl, ?_⟩) hHeld ?_
                      rotate_left
                      · intro w hSw; (try dsimp only at hSw); have e0 := (hSw.cell (p := ⟨bm, om + k * 2, none⟩) (Nat.lt_of_lt_of_le LD.out HBn.out.size)).trans ((HBn.out.cell (p := ⟨bm, om + k * 2, none⟩) LD.out).trans D0.out); have e1 := (hSw.cell (p := ⟨bm, om + k * 2 + 1, none⟩) (Nat.lt_of_lt_of_le LD.out HBn.out.size)).trans ((HBn.out.cell (p := ⟨bm, om + k * 2 + 1, none⟩) LD.out).trans D1.out); have e2 := (hSw.cell (p := ⟨bm, om + j * 2, none⟩) (Nat.lt_of_lt_of_le LD.out HBn.out.size)).trans ((HBn.out.cell (p := ⟨bm, om + j * 2, none⟩) LD.out).trans E0.out); have e3 := (hSw.cell (p := ⟨bm, om + j * 2 + 1, none⟩) (Nat.lt_of_lt_of_le LD.out HBn.out.size)).trans ((HBn.out.cell (p := ⟨bm, om + j * 2 + 1, none⟩) LD.out).trans E1.out); go_simp; first | done | with_reducible rfl
                      try simp only [Act.put, List.setIfInBounds_toArray, List.set_cons_zero, List.set_cons_succ]
                      refine wpAnyH_take (i := 13) (oi := { dst := some 84, op := Op.move (Operand.tmp 5), type := 37, pos := "outright.go:66", after := #[{ on := 7, ground := Ground.guard }], guard := some (7, false) }) (v := ?_) rfl (by kernel_rfl) (by kernel_rfl) (by kernel_rfl) (fun _ _ _ h => h) (Or.inl ⟨by rfl, ?_⟩) hHeld ?_
                      rotate_left
                      · intro w hSw; (try dsimp only at hSw); go_simp; first | done | with_reducible rfl
                      try simp only [Act.put, List.setIfInBounds_toArray, List.set_cons_zero, List.set_cons_succ]
                      refine wpAnyH_take (i := 14) (oi := { dst := some 85, op := Op.move (Operand.tmp 10), type := 3, pos := "outright.go:66", after := #[{ on := 7, ground := Ground.guard }], guard := some (7, false) }) (v := ?_) rfl (by kernel_rfl) (by kernel_rfl) (by kernel_rfl) (fun _ _ _ h => h) (Or.inl ⟨by rfl, ?_⟩) hHeld ?_
                      rotate_left
                      · intro w hSw; (try dsimp only at hSw); go_simp; first | done | with_reducible rfl
                      try simp only [Act.put, List.setIfInBounds_toArray, List.set_cons_zero, List.set_cons_succ]
                      refine wpAnyH_take (i := 15) (oi := { dst := some 86, op := Op.indexAddr 37 (Operand.tmp 84) (Operand.tmp 85), type := 0, pos := "outright.go:66", after := #[{ on := 13, ground := Ground.data }, { on := 14, ground := Ground.data }, { on := 7, ground := Ground.guard }], guard := some (7, false) }) (v := ?_) rfl (by kernel_rfl) (by kernel_rfl) (by kernel_rfl) (fun _ _ _ h => h) (Or.inl ⟨by rfl, ?_⟩) hHeld ?_
                      rotate_left
                      · intro w hSw; (try dsimp only at hSw); have h := hlt'; go_simp; first | done | with_reducible rfl
                      try simp only [Act.put, List.setIfInBounds_toArray, List.set_cons_zero, List.set_cons_succ]
                      refine wpAnyH_take (i := 16) (oi := { dst := some 87, op := Op.fieldAddr 24 (Operand.tmp 86) 1, type := 0, pos := "outright.go:66", after := #[{ on := 15, ground := Ground.data }, { on := 7, ground := Ground.guard }], guard := some (7, false) }) (v := ?_) rfl (by kernel_rfl) (by kernel_rfl) (by kernel_rfl) (fun _ _ _ h => h) (Or.inl ⟨by rfl, ?_⟩) hHeld ?_
                      rotate_left
                      · intro w hSw; (try dsimp only at hSw); go_simp; first | done | with_reducible rfl
                      try simp only [Act.put, List.setIfInBounds_toArray, List.set_cons_zero, List.set_cons_succ]
                      refine wpAnyH_take (i := 17) (oi := { dst := some 88, op := Op.load 3 (Operand.tmp 87), type := 3, pos := "outright.go:66", after := #[{ on := 16, ground := Ground.data }, { on := 7, ground := Ground.guard }], guard := some (7, false) }) (v := ?_) rfl (by kernel_rfl) (by kernel_rfl) (by kernel_rfl) (fun _ _ _ h => h) (Or.inl ⟨by rfl, ?_⟩) hHeld ?_
                      rotate_left
                      · intro w hSw; (try dsimp only at hSw); have e0 := (hSw.cell (p := ⟨bm, om + k * 2, none⟩) (Nat.lt_of_lt_of_le LD.out HBn.out.size)).trans ((HBn.out.cell (p := ⟨bm, om + k * 2, none⟩) LD.out).trans D0.out); have e1 := (hSw.cell (p := ⟨bm, om + k * 2 + 1, none⟩) (Nat.lt_of_lt_of_le LD.out HBn.out.size)).trans ((HBn.out.cell (p := ⟨bm, om + k * 2 + 1, none⟩) LD.out).trans D1.out); have e2 := (hSw.cell (p := ⟨bm, om + j * 2, none⟩) (Nat.lt_of_lt_of_le LD.out HBn.out.size)).trans ((HBn.out.cell (p := ⟨bm, om + j * 2, none⟩) LD.out).trans E0.out); have e3 := (hSw.cell (p := ⟨bm, om + j * 2 + 1, none⟩) (Nat.lt_of_lt_of_le LD.out HBn.out.size)).trans ((HBn.out.cell (p := ⟨bm, om + j * 2 + 1, none⟩) LD.out).trans E1.out); go_simp; first | done | with_reducible rfl
                      try simp only [Act.put, List.setIfInBounds_toArray, List.set_cons_zero, List.set_cons_succ]
                      refine wpAnyH_take (i := 18) (oi := { dst := some 89, op := Op.binOp BinOp.eql 3 (Operand.tmp 83) (Operand.tmp 88) 3, type := 4, pos := "outright.go:66", after := #[{ on := 12, ground := Ground.data }, { on := 17, ground := Ground.data }, { on := 7, ground := Ground.guard }], guard := some (7, false) }) (v := ?_) rfl (by kernel_rfl) (by kernel_rfl) (by kernel_rfl) (fun _ _ _ h => h) (Or.inl ⟨by rfl, ?_⟩) hHeld ?_
                      rotate_left
                      · intro w hSw; (try dsimp only at hSw); go_simp; first | done | with_reducible rfl
                      try simp only [Act.put, List.setIfInBounds_toArray, List.set_cons_zero, List.set_cons_succ]
                      refine wpAnyH_take (i := 19) (oi := { dst := some 90, op := Op.move (Operand.tmp 89), type := 4, pos := "outright.go:66", after := #[{ on := 18, ground := Ground.data }, { on := 7, ground := Ground.chain }, { on := 7, ground := Ground.guard }], guard := some (7, false) }) (v := ?_) rfl (by kernel_rfl) (by kernel_rfl) (by kernel_rfl) (fun _ _ _ h => h) (Or.inl ⟨by rfl, ?_⟩) hHeld ?_
                      rotate_left
                      · intro w hSw; (try dsimp only at hSw); go_simp; first | done | with_reducible rfl
                      try simp only [Act.put, List.setIfInBounds_toArray, List.set_cons_zero, List.set_cons_succ]
                      refine wpAnyH_take (i := 20) (oi := { dst := some 91, op := Op.move (Operand.tmp 5), type := 37, pos := "outright.go:66", after := #[{ on := 19, ground := Ground.guard }], guard := some (19, true) }) (v := ?_) rfl (by kernel_rfl) (by kernel_rfl) (by kernel_rfl) (fun _ _ _ h => h) (Or.inl ⟨by rfl, ?_⟩) hHeld ?_
                      rotate_left
                      · intro w hSw; (try dsimp only at hSw); go_simp; first | done | with_reducible rfl
                      try simp only [Act.put, List.setIfInBounds_toArray, List.set_cons_zero, List.set_cons_succ]
                      refine wpAnyH_take (i := 21) (oi := { dst := some 92, op := Op.move (Operand.tmp 10), type := 3, pos := "outright.go:66", after := #[{ on := 19, ground := Ground.guard }], guard := some (19, true) }) (v := ?_) rfl (by kernel_rfl) (by kernel_rfl) (by kernel_rfl) (fun _ _ _ h => h) (Or.inl ⟨by rfl, ?_⟩) hHeld ?_
                      rotate_left
                      · intro w hSw; (try dsimp only at hSw); go_simp; first | done | with_reducible rfl
                      try simp only [Act.put, List.setIfInBounds_toArray, List.set_cons_zero, List.set_cons_succ]
                      refine wpAnyH_take (i := 22) (oi := { dst := some 93, op := Op.indexAddr 37 (Operand.tmp 91) (Operand.tmp 92), type := 0, pos := "outright.go:66", after := #[{ on := 20, ground := Ground.data }, { on := 21, ground := Ground.data }, { on := 19, ground := Ground.guard }], guard := some (19, true) }) (v := ?_) rfl (by kernel_rfl) (by kernel_rfl) (by kernel_rfl) (fun _ _ _ h => h) (Or.inl ⟨by rfl, ?_⟩) hHeld ?_
                      rotate_left
                      · intro w hSw; (try dsimp only at hSw); have h := hlt'; go_simp; first | done | with_reducible rfl
                      try simp only [Act.put, List.setIfInBounds_toArray, List.set_cons_zero, List.set_cons_succ]
                      refine wpAnyH_take (i := 23) (oi := { dst := some 94, op := Op.fieldAddr 24 (Operand.tmp 93) 1, type := 0, pos := "outright.go:66", after := #[{ on := 22, ground := Ground.data }, { on := 19, ground := Ground.guard }], guard := some (19, true) }) (v := ?_) rfl (by kernel_rfl) (by kernel_rfl) (by kernel_rfl) (fun _ _ _ h => h) (Or.inl ⟨by rfl, ?_⟩) hHeld ?_
                      rotate_left
                      · intro w hSw; (try dsimp only at hSw); go_simp; first | done | with_reducible rfl
                      try simp only [Act.put, List.setIfInBounds_toArray, List.set_cons_zero, List.set_cons_succ]
                      refine wpAnyH_take (i := 24) (oi := { dst := some 95, op := Op.load 3 (Operand.tmp 94), type := 3, pos := "outright.go:66", after := #[{ on := 23, ground := Ground.data }, { on := 19, ground := Ground.guard }], guard := some (19, true) }) (v := ?_) rfl (by kernel_rfl) (by kernel_rfl) (by kernel_rfl) (fun _ _ _ h => h) (Or.inl ⟨by rfl, ?_⟩) hHeld ?_
                      rotate_left
                      · intro w hSw; (try dsimp only at hSw); have e0 := (hSw.cell (p := ⟨bm, om + k * 2, none⟩) (Nat.lt_of_lt_of_le LD.out HBn.out.size)).trans ((HBn.out.cell (p := ⟨bm, om + k * 2, none⟩) LD.out).trans D0.out); have e1 := (hSw.cell (p := ⟨bm, om + k * 2 + 1, none⟩) (Nat.lt_of_lt_of_le LD.out HBn.out.size)).trans ((HBn.out.cell (p := ⟨bm, om + k * 2 + 1, none⟩) LD.out).trans D1.out); have e2 := (hSw.cell (p := ⟨bm, om + j * 2, none⟩) (Nat.lt_of_lt_of_le LD.out HBn.out.size)).trans ((HBn.out.cell (p := ⟨bm, om + j * 2, none⟩) LD.out).trans E0.out); have e3 := (hSw.cell (p := ⟨bm, om + j * 2 + 1, none⟩) (Nat.lt_of_lt_of_le LD.out HBn.out.size)).trans ((HBn.out.cell (p := ⟨bm, om + j * 2 + 1, none⟩) LD.out).trans E1.out); go_simp; first | done | with_reducible rfl
                      try simp only [Act.put, List.setIfInBounds_toArray, List.set_cons_zero, List.set_cons_succ]
                      refine wpAnyH_take (i := 25) (oi := { dst := some 96, op := Op.binOp BinOp.gtr 3 (Operand.tmp 95) (Operand.const (Value.int IntKind.i64 0)) 3, type := 4, pos := "outright.go:66", after := #[{ on := 24, ground := Ground.data }, { on := 19, ground := Ground.guard }], guard := some (19, true) }) (v := ?_) rfl (by kernel_rfl) (by kernel_rfl) (by kernel_rfl) (fun _ _ _ h => h) (Or.inl ⟨by rfl, ?_⟩) hHeld ?_
                      rotate_left
                      · intro w hSw; (try dsimp only at hSw); have h : decide (0 < jb) = true := (by simpa using hp); go_simp; first | done | with_reducible rfl
                      try simp only [Act.put, List.setIfInBounds_toArray, List.set_cons_zero, List.set_cons_succ]
                      refine wpAnyH_take (i := 26) (oi := { dst := some 97, op := Op.pick (Operand.tmp 90) (Operand.tmp 96) (Operand.const (Value.bool false)), type := 4, pos := "outright.go:66", after := #[{ on := 19, ground := Ground.data }, { on := 25, ground := Ground.data }, { on := 7, ground := Ground.guard }], guard := some (7, false) }) (v := ?_) rfl (by kernel_rfl) (by kernel_rfl) (by kernel_rfl) (fun _ _ _ h => h) (Or.inl ⟨by rfl, ?_⟩) hHeld ?_
                      rotate_left
                      · intro w hSw; (try dsimp only at hSw); go_simp; first | done | with_reducible rfl
                      try simp only [Act.put, List.setIfInBounds_toArray, List.set_cons_zero, List.set_cons_succ]
                      refine wpAnyH_take (i := 27) (oi := { dst := some 98, op := Op.move (Operand.tmp 97), type := 4, pos := "outright.go:66", after := #[{ on := 26, ground := Ground.data }, { on := 19, ground := Ground.chain }, { on := 7, ground := Ground.guard }], guard := some (7, false) }) (v := ?_) rfl (by kernel_rfl) (by kernel_rfl) (by kernel_rfl) (fun _ _ _ h => h) (Or.inl ⟨by rfl, ?_⟩) hHeld ?_
                      rotate_left
                      · intro w hSw; (try dsimp only at hSw); go_simp; first | done | with_reducible rfl
                      try simp only [Act.put, List.setIfInBounds_toArray, List.set_cons_zero, List.set_cons_succ]
                      refine wpAnyH_take (i := 28) (oi := { dst := some 99, op := Op.move (Operand.tmp 5), type := 37, pos := "outright.go:66", after := #[{ on := 27, ground := Ground.guard }], guard := some (27, true) }) (v := ?_) rfl (by kernel_rfl) (by kernel_rfl) (by kernel_rfl) (fun _ _ _ h => h) (Or.inl ⟨by rfl, ?_⟩) hHeld ?_
                      rotate_left
                      · intro w hSw; (try dsimp only at hSw); go_simp; first | done | with_reducible rfl
                      try simp only [Act.put, List.setIfInBounds_toArray, List.set_cons_zero, List.set_cons_succ]
                      refine wpAnyH_take (i := 29) (oi := { dst := some 100, op := Op.move (Operand.tmp 11), type := 3, pos := "outright.go:66", after := #[{ on := 27, ground := Ground.guard }], guard := some (27, true) }) (v := ?_) rfl (by kernel_rfl) (by kernel_rfl) (by kernel_rfl) (fun _ _ _ h => h) (Or.inl ⟨by rfl, ?_⟩) hHeld ?_
                      rotate_left
                      · intro w hSw; (try dsimp only at hSw); go_simp; first | done | with_reducible rfl
                      try simp only [Act.put, List.setIfInBounds_toArray, List.set_cons_zero, List.set_cons_succ]
                      refine wpAnyH_take (i := 30) (oi := { dst := some 101, op := Op.indexAddr 37 (Operand.tmp 99) (Operand.tmp 100), type := 0, pos := "outright.go:66", after := #[{ on := 28, ground := Ground.data }, { on := 29, ground := Ground.data }, { on := 27, ground := Ground.guard }], guard := some (27, true) }) (v := ?_) rfl (by kernel_rfl) (by kernel_rfl) (by kernel_rfl) (fun _ _ _ h => h) (Or.inl ⟨by rfl, ?_⟩) hHeld ?_
                      rotate_left
                      · intro w hSw; (try dsimp only at hSw); have h := hjn; go_simp; first | done | with_reducible rfl
                      try simp only [Act.put, List.setIfInBounds_toArray, List.set_cons_zero, List.set_cons_succ]
                      refine wpAnyH_take (i := 31) (oi := { dst := some 102, op := Op.fieldAddr 24 (Operand.tmp 101) 0, type := 0, pos := "outright.go:66", after := #[{ on := 30, ground := Ground.data }, { on := 27, ground := Ground.guard }], guard := some (27, true) }) (v := ?_) rfl (by kernel_rfl) (by kernel_rfl) (by kernel_rfl) (fun _ _ _ h => h) (Or.inl ⟨by rfl, ?_⟩) hHeld ?_
                      rotate_left
                      · intro w hSw; (try dsimp only at hSw); go_simp; first | done | with_reducible rfl
                      try simp only [Act.put, List.setIfInBounds_toArray, List.set_cons_zero, List.set_cons_succ]
                      refine wpAnyH_take (i := 32) (oi := { dst := some 103, op := Op.load 22 (Operand.tmp 102), type := 22, pos := "outright.go:66", after := #[{ on := 31, ground := Ground.data }, { on := 27, ground := Ground.guard }], guard := some (27, true) }) (v := ?_) rfl (by kernel_rfl) (by kernel_rfl) (by kernel_rfl) (fun _ _ _ h => h) (Or.inl ⟨by rfl, ?_⟩) hHeld ?_
                      rotate_left
                      · intro w hSw; (try dsimp only at hSw); have e0 := (hSw.cell (p := ⟨bm, om + k * 2, none⟩) (Nat.lt_of_lt_of_le LD.out HBn.out.size)).trans ((HBn.out.cell (p := ⟨bm, om + k * 2, none⟩) LD.out).trans D0.out); have e1 := (hSw.cell (p := ⟨bm, om + k * 2 + 1, none⟩) (Nat.lt_of_lt_of_le LD.out HBn.out.size)).trans ((HBn.out.cell (p := ⟨bm, om + k * 2 + 1, none⟩) LD.out).trans D1.out); have e2 := (hSw.cell (p := ⟨bm, om + j * 2, none⟩) (Nat.lt_of_lt_of_le LD.out HBn.out.size)).trans ((HBn.out.cell (p := ⟨bm, om + j * 2, none⟩) LD.out).trans E0.out); have e3 := (hSw.cell (p := ⟨bm, om + j * 2 + 1, none⟩) (Nat.lt_of_lt_of_le LD.out HBn.out.size)).trans ((HBn.out.cell (p := ⟨bm, om + j * 2 + 1, none⟩) LD.out).trans E1.out); go_simp; first | done | with_reducible rfl
                      try simp only [Act.put, List.setIfInBounds_toArray, List.set_cons_zero, List.set_cons_succ]
                      refine wpAnyH_take (i := 33) (oi := { dst := some 104, op := Op.move (Operand.tmp 5), type := 37, pos := "outright.go:66", after := #[{ on := 27, ground := Ground.guard }], guard := some (27, true) }) (v := ?_) rfl (by kernel_rfl) (by kernel_rfl) (by kernel_rfl) (fun _ _ _ h => h) (Or.inl ⟨by rfl, ?_⟩) hHeld ?_
                      rotate_left
                      · intro w hSw; (try dsimp only at hSw); go_simp; first | done | with_reducible rfl
                      try simp only [Act.put, List.setIfInBounds_toArray, List.set_cons_zero, List.set_cons_succ]
                      refine wpAnyH_take (i := 34) (oi := { dst := some 105, op := Op.move (Operand.tmp 10), type := 3, pos := "outright.go:66", after := #[{ on := 27, ground := Ground.guard }], guard := some (27, true) }) (v := ?_) rfl (by kernel_rfl) (by kernel_rfl) (by kernel_rfl) (fun _ _ _ h => h) (Or.inl ⟨by rfl, ?_⟩) hHeld ?_
                      rotate_left
                      · intro w hSw; (try dsimp only at hSw); go_simp; first | done | with_reducible rfl
                      try simp only [Act.put, List.setIfInBounds_toArray, List.set_cons_zero, List.set_cons_succ]
                      refine wpAnyH_take (i := 35) (oi := { dst := some 106, op := Op.indexAddr 37 (Operand.tmp 104) (Operand.tmp 105), type := 0, pos := "outright.go:66", after := #[{ on := 33, ground := Ground.data }, { on := 34, ground := Ground.data }, { on := 27, ground := Ground.guard }], guard := some (27, true) }) (v := ?_) rfl (by kernel_rfl) (by kernel_rfl) (by kernel_rfl) (fun _ _ _ h => h) (Or.inl ⟨by rfl, ?_⟩) hHeld ?_
                      rotate_left
                      · intro w hSw; (try dsimp only at hSw); have h := hlt'; go_simp; first | done | with_reducible rfl
                      try simp only [Act.put, List.setIfInBounds_toArray, List.set_cons_zero, List.set_cons_succ]
                      refine wpAnyH_take (i := 36) (oi := { dst := some 107, op := Op.fieldAddr 24 (Operand.tmp 106) 1, type := 0, pos := "outright.go:66", after := #[{ on := 35, ground := Ground.data }, { on := 27, ground := Ground.guard }], guard := some (27, true) }) (v := ?_) rfl (by kernel_rfl) (by kernel_rfl) (by kernel_rfl) (fun _ _ _ h => h) (Or.inl ⟨by rfl, ?_⟩) hHeld ?_
                      rotate_left
                      · intro w hSw; (try dsimp only at hSw); go_simp; first | done | with_reducible rfl
                      try simp only [Act.put, List.setIfInBounds_toArray, List.set_cons_zero, List.set_cons_succ]
                      refine wpAnyH_take (i := 37) (oi := { dst := some 108, op := Op.load 3 (Operand.tmp 107), type := 3, pos := "outright.go:66", after := #[{ on := 36, ground := Ground.data }, { on := 27, ground := Ground.guard }], guard := some (27, true) }) (v := ?_) rfl (by kernel_rfl) (by kernel_rfl) (by kernel_rfl) (fun _ _ _ h => h) (Or.inl ⟨by rfl, ?_⟩) hHeld ?_
                      rotate_left
                      · intro w hSw; (try dsimp only at hSw); have e0 := (hSw.cell (p := ⟨bm, om + k * 2, none⟩) (Nat.lt_of_lt_of_le LD.out HBn.out.size)).trans ((HBn.out.cell (p := ⟨bm, om + k * 2, none⟩) LD.out).trans D0.out); have e1 := (hSw.cell (p := ⟨bm, om + k * 2 + 1, none⟩) (Nat.lt_of_lt_of_le LD.out HBn.out.size)).trans ((HBn.out.cell (p := ⟨bm, om + k * 2 + 1, none⟩) LD.out).trans D1.out); have e2 := (hSw.cell (p := ⟨bm, om + j * 2, none⟩) (Nat.lt_of_lt_of_le LD.out HBn.out.size)).trans ((HBn.out.cell (p := ⟨bm, om + j * 2, none⟩) LD.out).trans E0.out); have e3 := (hSw.cell (p := ⟨bm, om + j * 2 + 1, none⟩) (Nat.lt_of_lt_of_le LD.out HBn.out.size)).trans ((HBn.out.cell (p := ⟨bm, om + j * 2 + 1, none⟩) LD.out).trans E1.out); go_simp; first | done | with_reducible rfl
                      try simp only [Act.put, List.setIfInBounds_toArray, List.set_cons_zero, List.set_cons_succ]
                      refine wpAnyH_take (i := 38) (oi := { dst := some 109, op := Op.binOp BinOp.sub 3 (Operand.tmp 108) (Operand.const (Value.int IntKind.i64 1)) 3, type := 3, pos := "outright.go:66", after := #[{ on := 37, ground := Ground.data }, { on := 27, ground := Ground.guard }], guard := some (27, true) }) (v := ?_) rfl (by kernel_rfl) (by kernel_rfl) (by kernel_rfl) (fun _ _ _ h => h) (Or.inl ⟨by rfl, ?_⟩) hHeld ?_
                      rotate_left
                      · intro w hSw; (try dsimp only at hSw); have h := hsub; go_simp; first | done | with_reducible rfl
                      try simp only [Act.put, List.setIfInBounds_toArray, List.set_cons_zero, List.set_cons_succ]
                      refine wpAnyH_take (i := 41) (oi := { dst := some 112, op := Op.move (Operand.tmp 5), type := 37, pos := "outright.go:66", after := #[{ on := 27, ground := Ground.guard }], guard := some (27, true) }) (v := ?_) rfl (by kernel_rfl) (by kernel_rfl) (by kernel_rfl) (fun _ _ _ h => h) (Or.inl ⟨by rfl, ?_⟩) hHeld ?_
                      rotate_left
                      · intro w hSw; (try dsimp only at hSw); go_simp; first | done | with_reducible rfl
                      try simp only [Act.put, List.setIfInBounds_toArray, List.set_cons_zero, List.set_cons_succ]
                      refine wpAnyH_take (i := 42) (oi := { dst := some 113, op := Op.move (Operand.tmp 10), type := 3, pos := "outright.go:66", after := #[{ on := 27, ground := Ground.guard }], guard := some (27, true) }) (v := ?_) rfl (by kernel_rfl) (by kernel_rfl) (by kernel_rfl) (fun _ _ _ h => h) (Or.inl ⟨by rfl, ?_⟩) hHeld ?_
                      rotate_left
                      · intro w hSw; (try dsimp only at hSw); go_simp; first | done | with_reducible rfl
                      try simp only [Act.put, List.setIfInBounds_toArray, List.set_cons_zero, List.set_cons_succ]
                      refine wpAnyH_take (i := 43) (oi := { dst := some 114, op := Op.indexAddr 37 (Operand.tmp 112) (Operand.tmp 113), type := 0, pos := "outright.go:66", after := #[{ on := 41, ground := Ground.data }, { on := 42, ground := Ground.data }, { on := 27, ground := Ground.guard }], guard := some (27, true) }) (v := ?_) rfl (by kernel_rfl) (by kernel_rfl) (by kernel_rfl) (fun _ _ _ h => h) (Or.inl ⟨by rfl, ?_⟩) hHeld ?_
                      rotate_left
                      · intro w hSw; (try dsimp only at hSw); have h := hlt'; go_simp; first | done | with_reducible rfl
                      try simp only [Act.put, List.setIfInBounds_toArray, List.set_cons_zero, List.set_cons_succ]
                      refine wpAnyH_take (i := 44) (oi := { dst := some 115, op := Op.fieldAddr 24 (Operand.tmp 114) 0, type := 0, pos := "outright.go:66", after := #[{ on := 43, ground := Ground.data }, { on := 27, ground := Ground.guard }], guard := some (27, true) }) (v := ?_) rfl (by kernel_rfl) (by kernel_rfl) (by kernel_rfl) (fun _ _ _ h => h) (Or.inl ⟨by rfl, ?_⟩) hHeld ?_
                      rotate_left
                      · intro w hSw; (try dsimp only at hSw); go_simp; first | done | with_reducible rfl
                      try simp only [Act.put, List.setIfInBounds_toArray, List.set_cons_zero, List.set_cons_succ]
                      refine wpAnyH_take (i := 45) (oi := { dst := some 116, op := Op.load 22 (Operand.tmp 115), type := 22, pos := "outright.go:66", after := #[{ on := 44, ground := Ground.data }, { on := 27, ground := Ground.guard }], guard := some (27, true) }) (v := ?_) rfl (by kernel_rfl) (by kernel_rfl) (by kernel_rfl) (fun _ _ _ h => h) (Or.inl ⟨by rfl, ?_⟩) hHeld ?_
                      rotate_left
                      · intro w hSw; (try dsimp only at hSw); have e0 := (hSw.cell (p := ⟨bm, om + k * 2, none⟩) (Nat.lt_of_lt_of_le LD.out HBn.out.size)).trans ((HBn.out.cell (p := ⟨bm, om + k * 2, none⟩) LD.out).trans D0.out); have e1 := (hSw.cell (p := ⟨bm, om + k * 2 + 1, none⟩) (Nat.lt_of_lt_of_le LD.out HBn.out.size)).trans ((HBn.out.cell (p := ⟨bm, om + k * 2 + 1, none⟩) LD.out).trans D1.out); have e2 := (hSw.cell (p := ⟨bm, om + j * 2, none⟩) (Nat.lt_of_lt_of_le LD.out HBn.out.size)).trans ((HBn.out.cell (p := ⟨bm, om + j * 2, none⟩) LD.out).trans E0.out); have e3 := (hSw.cell (p := ⟨bm, om + j * 2 + 1, none⟩) (Nat.lt_of_lt_of_le LD.out HBn.out.size)).trans ((HBn.out.cell (p := ⟨bm, om + j * 2 + 1, none⟩) LD.out).trans E1.out); go_simp; first | done | with_reducible rfl
                      try simp only [Act.put, List.setIfInBounds_toArray, List.set_cons_zero, List.set_cons_succ]
                      refine wpAnyH_take (i := 46) (oi := { dst := some 117, op := Op.move (Operand.tmp 5), type := 37, pos := "outright.go:66", after := #[{ on := 27, ground := Ground.guard }], guard := some (27, true) }) (v := ?_) rfl (by kernel_rfl) (by kernel_rfl) (by kernel_rfl) (fun _ _ _ h => h) (Or.inl ⟨by rfl, ?_⟩) hHeld ?_
                      rotate_left
                      · intro w hSw; (try dsimp only at hSw); go_simp; first | done | with_reducible rfl
                      try simp only [Act.put, List.setIfInBounds_toArray, List.set_cons_zero, List.set_cons_succ]
                      refine wpAnyH_take (i := 47) (oi := { dst := some 118, op := Op.move (Operand.tmp 10), type := 3, pos := "outright.go:66", after := #[{ on := 27, ground := Ground.guard }], guard := some (27, true) }) (v := ?_) rfl (by kernel_rfl) (by kernel_rfl) (by kernel_rfl) (fun _ _ _ h => h) (Or.inl ⟨by rfl, ?_⟩) hHeld ?_
                      rotate_left
                      · intro w hSw; (try dsimp only at hSw); go_simp; first | done | with_reducible rfl
                      try simp only [Act.put, List.setIfInBounds_toArray, List.set_cons_zero, List.set_cons_succ]
                      refine wpAnyH_take (i := 48) (oi := { dst := some 119, op := Op.indexAddr 37 (Operand.tmp 117) (Operand.tmp 118), type := 0, pos := "outright.go:66", after := #[{ on := 46, ground := Ground.data }, { on := 47, ground := Ground.data }, { on := 27, ground := Ground.guard }], guard := some (27, true) }) (v := ?_) rfl (by kernel_rfl) (by kernel_rfl) (by kernel_rfl) (fun _ _ _ h => h) (Or.inl ⟨by rfl, ?_⟩) hHeld ?_
                      rotate_left
                      · intro w hSw; (try dsimp only at hSw); have h := hlt'; go_simp; first | done | with_reducible rfl
                      try simp only [Act.put, List.setIfInBounds_toArray, List.set_cons_zero, List.set_cons_succ]
                      refine wpAnyH_take (i := 49) (oi := { dst := some 120, op := Op.fieldAddr 24 (Operand.tmp 119) 1, type := 0, pos := "outright.go:66", after := #[{ on := 48, ground := Ground.data }, { on := 27, ground := Ground.guard }], guard := some (27, true) }) (v := ?_) rfl (by kernel_rfl) (by kernel_rfl) (by kernel_rfl) (fun _ _ _ h => h) (Or.inl ⟨by rfl, ?_⟩) hHeld ?_
                      rotate_left
                      · intro w hSw; (try dsimp only at hSw); go_simp; first | done | with_reducible rfl
                      try simp only [Act.put, List.setIfInBounds_toArray, List.set_cons_zero, List.set_cons_succ]
                      refine wpAnyH_take (i := 50) (oi := { dst := some 121, op := Op.load 3 (Operand.tmp 120), type := 3, pos := "outright.go:66", after := #[{ on := 49, ground := Ground.data }, { on := 27, ground := Ground.guard }], guard := some (27, true) }) (v := ?_) rfl (by kernel_rfl) (by kernel_rfl) (by kernel_rfl) (fun _ _ _ h => h) (Or.inl ⟨by rfl, ?_⟩) hHeld ?_
                      rotate_left
                      · intro w hSw; (try dsimp only at hSw); have e0 := (hSw.cell (p := ⟨bm, om + k * 2, none⟩) (Nat.lt_of_lt_of_le LD.out HBn.out.size)).trans ((HBn.out.cell (p := ⟨bm, om + k * 2, none⟩) LD.out).trans D0.out); have e1 := (hSw.cell (p := ⟨bm, om + k * 2 + 1, none⟩) (Nat.lt_of_lt_of_le LD.out HBn.out.size)).trans ((HBn.out.cell (p := ⟨bm, om + k * 2 + 1, none⟩) LD.out).trans D1.out); have e2 := (hSw.cell (p := ⟨bm, om + j * 2, none⟩) (Nat.lt_of_lt_of_le LD.out HBn.out.size)).trans ((HBn.out.cell (p := ⟨bm, om + j * 2, none⟩) LD.out).trans E0.out); have e3 := (hSw.cell (p := ⟨bm, om + j * 2 + 1, none⟩) (Nat.lt_of_lt_of_le LD.out HBn.out.size)).trans ((HBn.out.cell (p := ⟨bm, om + j * 2 + 1, none⟩) LD.out).trans E1.out); go_simp; first | done | with_reducible rfl
                      try simp only [Act.put, List.setIfInBounds_toArray, List.set_cons_zero, List.set_cons_succ]
                      refine wpAnyH_take (i := 51) (oi := { dst := some 122, op := Op.binOp BinOp.sub 3 (Operand.tmp 121) (Operand.const (Value.int IntKind.i64 1)) 3, type := 3, pos := "outright.go:66", after := #[{ on := 50, ground := Ground.data }, { on := 27, ground := Ground.guard }], guard := some (27, true) }) (v := ?_) rfl (by kernel_rfl) (by kernel_rfl) (by kernel_rfl) (fun _ _ _ h => h) (Or.inl ⟨by rfl, ?_⟩) hHeld ?_
                      rotate_left
                      · intro w hSw; (try dsimp only at hSw); have h := hsub; go_simp; first | done | with_reducible rfl
                      try simp only [Act.put, List.setIfInBounds_toArray, List.set_cons_zero, List.set_cons_succ]
                      refine wpAnyH_ready (rs := [39]) (by kernel_rfl) (by simp) ?_
                      refine AllReadyH.cons (o := { dst := some 110, op := Op.call { callee := Callee.value (Operand.func 24), args := #[Operand.tmp 109], argTypes := #[3] }, type := 22, pos := "outright.go:66", after := #[{ on := 38, ground := Ground.data }, { on := 27, ground := Ground.chain }, { on := 27, ground := Ground.guard }], guard := some (27, true) }) rfl (fun K hK => ?_) AllReadyH.nil
                      clear hHeld
                      go_simp
                      refine (HMS.out _).mono ?_
                      rintro e wr1 ⟨rfl, hB⟩
                      have HR1 := hide (((Below.refl w9.heap.size w9).drew).trans (hB.mono ((Below.refl w9.heap.size w9).drew).size))
                      clear hB
                      refine hK.out _ _ (HR1.out) (fun hHeld => ?_)
                      clear hK K
                      try simp only [Act.put, List.setIfInBounds_toArray, List.set_cons_zero, List.set_cons_succ]
                      refine wpAnyH_take (i := 40) (oi := { dst := some 111, op := Op.binOp BinOp.and 22 (Operand.tmp 103) (Operand.tmp 110) 22, type := 22, pos := "outright.go:66", after := #[{ on := 32, ground := Ground.data }, { on := 39, ground := Ground.data }, { on := 27, ground := Ground.guard }], guard := some (27, true) }) (v := ?_) rfl (by kernel_rfl) (by kernel_rfl) (by kernel_rfl) (fun _ _ _ h => h) (Or.inl ⟨by rfl, ?_⟩) hHeld ?_
                      rotate_left
                      · intro w hSw; (try dsimp only at hSw); have h := HA1.out; go_simp; first | done | with_reducible rfl
                      try simp only [Act.put, List.setIfInBounds_toArray, List.set_cons_zero, List.set_cons_succ]
                      refine wpAnyH_ready (rs := [52]) (by kernel_rfl) (by simp) ?_
                      refine AllReadyH.cons (o := { dst := some 123, op := Op.call { callee := Callee.value (Operand.func 24), args := #[Operand.tmp 122], argTypes := #[3] }, type := 22, pos := "outright.go:66", after := #[{ on := 51, ground := Ground.data }, { on := 39, ground := Ground.chain }, { on := 27, ground := Ground.guard }], guard := some (27, true) }) rfl (fun K hK => ?_) AllReadyH.nil
                      clear hHeld
                      go_simp
                      refine (HMS.out _).mono ?_
                      rintro e wr2 ⟨rfl, hB⟩
                      have HR2 := hide (HR1.out.trans (hB.mono HR1.out.size))
                      clear hB
                      refine hK.out _ _ (HR2.out) (fun hHeld => ?_)
                      clear hK K
                      try simp only [Act.put, List.setIfInBounds_toArray, List.set_cons_zero, List.set_cons_succ]
                      refine wpAnyH_take (i := 53) (oi := { dst := some 124, op := Op.binOp BinOp.and 22 (Operand.tmp 116) (Operand.tmp 123) 22, type := 22, pos := "outright.go:66", after := #[{ on := 45, ground := Ground.data }, { on := 52, ground := Ground.data }, { on := 27, ground := Ground.guard }], guard := some (27, true) }) (v := ?_) rfl (by kernel_rfl) (by kernel_rfl) (by kernel_rfl) (fun _ _ _ h => h) (Or.inl ⟨by rfl, ?_⟩) hHeld ?_
                      rotate_left
                      · intro w hSw; (try dsimp only at hSw); have h := HA2.out; go_simp; first | done | with_reducible rfl
                      try simp only [Act.put, List.setIfInBounds_toArray, List.set_cons_zero, List.set_cons_succ]
                      refine wpAnyH_take (i := 54) (oi := { dst := some 125, op := Op.binOp BinOp.eql 22 (Operand.tmp 111) (Operand.tmp 124) 22, type := 4, pos := "outright.go:66", after := #[{ on := 40, ground := Ground.data }, { on := 53, ground := Ground.data }, { on := 27, ground := Ground.guard }], guard := some (27, true) }) (v := ?_) rfl (by kernel_rfl) (by kernel_rfl) (by kernel_rfl) (fun _ _ _ h => h) (Or.inl ⟨by rfl, ?_⟩) hHeld ?_
                      rotate_left
                      · intro w hSw; (try dsimp only at hSw); have h := hne'; have h2 : (fj == fi) = false := (by simp; omega); go_simp; first | done | with_reducible rfl
                      try simp only [Act.put, List.setIfInBounds_toArray, List.set_cons_zero, List.set_cons_succ]
                      refine wpAnyH_take (i := 55) (oi := { dst := some 126, op := Op.pick (Operand.tmp 98) (Operand.tmp 125) (Operand.const (Value.bool false)), type := 4, pos := "outright.go:66", after := #[{ on := 27, ground := Ground.data }, { on := 54, ground := Ground.data }, { on := 7, ground := Ground.guard }], guard := some (7, false) }) (v := ?_) rfl (by kernel_rfl) (by kernel_rfl) (by kernel_rfl) (fun _ _ _ h => h) (Or.inl ⟨by rfl, ?_⟩) hHeld ?_
                      rotate_left
                      · intro w hSw; (try dsimp only at hSw); go_simp; first | done | with_reducible rfl
                      try simp only [Act.put, List.setIfInBounds_toArray, List.set_cons_zero, List.set_cons_succ]
                      refine wpAnyH_take (i := 56) (oi := { dst := some 127, op := Op.pick (Operand.tmp 78) (Operand.const (Value.bool true)) (Operand.tmp 126), type := 4, pos := "outright.go:66", after := #[{ on := 7, ground := Ground.data }, { on := 55, ground := Ground.data }], guard := none }) (v := ?_) rfl (by kernel_rfl) (by kernel_rfl) (by kernel_rfl) (fun _ _ _ h => h) (Or.inl ⟨by rfl, ?_⟩) hHeld ?_
                      rotate_left
                      · intro w hSw; (try dsimp only at hSw); go_simp; first | done | with_reducible rfl
                      try simp only [Act.put, List.setIfInBounds_toArray, List.set_cons_zero, List.set_cons_succ]
                      refine wpAnyH_done (by kernel_rfl) ?_ _
                      clear hHeld
                      go_wp2_with fail
                      go_roundw
                      case rel => exact ⟨j + 1, by omega, by go_num, HBn.out.trans (HR2.out.mono HBn.out.size)⟩
                      case measure => simp [intOf]; omega
                    · clear hps hla
                      go_wp2_with fail
                      refine wp_region_held_drew (S := fun w' => Below w9.heap.size w9 w') (by kernel_rfl) ((Below.refl _ _).drew) (fun hHeld => ?_)
                      refine wpAnyH_take (i := 0) (oi := { dst := some 71, op := Op.move (Operand.tmp 12), type := 22, pos := "outright.go:66", after := #[], guard := none }) (v := ?_) rfl (by kernel_rfl) (by kernel_rfl) (by kernel_rfl) (fun _ _ _ h => h) (Or.inl ⟨by rfl, ?_⟩) hHeld ?_
                      rotate_left
                      · intro w hSw; (try dsimp only at hSw); go_simp; first | done | with_reducible rfl
                      try simp only [Act.put, List.setIfInBounds_toArray, List.set_cons_zero, List.set_cons_succ]
                      refine wpAnyH_take (i := 1) (oi := { dst := some 72, op := Op.move (Operand.tmp 5), type := 37, pos := "outright.go:66", after := #[], guard := none }) (v := ?_) rfl (by kernel_rfl) (by kernel_rfl) (by kernel_rfl) (fun _ _ _ h => h) (Or.inl ⟨by rfl, ?_⟩) hHeld ?_
                      rotate_left
                      · intro w hSw; (try dsimp only at hSw); go_simp; first | done | with_reducible rfl
                      try simp only [Act.put, List.setIfInBounds_toArray, List.set_cons_zero, List.set_cons_succ]
                      refine wpAnyH_take (i := 2) (oi := { dst := some 73, op := Op.move (Operand.tmp 10), type := 3, pos := "outright.go:66", after := #[], guard := none }) (v := ?_) rfl (by kernel_rfl) (by kernel_rfl) (by kernel_rfl) (fun _ _ _ h => h) (Or.inl ⟨by rfl, ?_⟩) hHeld ?_
                      rotate_left
                      · intro w hSw; (try dsimp only at hSw); go_simp; first | done | with_reducible rfl
                      try simp only [Act.put, List.setIfInBounds_toArray, List.set_cons_zero, List.set_cons_succ]
                      refine wpAnyH_take (i := 3) (oi := { dst := some 74, op := Op.indexAddr 37 (Operand.tmp 72) (Operand.tmp 73), type := 0, pos := "outright.go:66", after := #[{ on := 1, ground := Ground.data }, { on := 2, ground := Ground.data }], guard := none }) (v := ?_) rfl (by kernel_rfl) (by kernel_rfl) (by kernel_rfl) (fun _ _ _ h => h) (Or.inl ⟨by rfl, ?_⟩) hHeld ?_
                      rotate_left
                      · intro w hSw; (try dsimp only at hSw); have h := hlt'; go_simp; first | done | with_reducible rfl
                      try simp only [Act.put, List.setIfInBounds_toArray, List.set_cons_zero, List.set_cons_succ]
                      refine wpAnyH_take (i := 4) (oi := { dst := some 75, op := Op.fieldAddr 24 (Operand.tmp 74) 0, type := 0, pos := "outright.go:66", after := #[{ on := 3, ground := Ground.data }], guard := none }) (v := ?_) rfl (by kernel_rfl) (by kernel_rfl) (by kernel_rfl) (fun _ _ _ h => h) (Or.inl ⟨by rfl, ?_⟩) hHeld ?_
                      rotate_left
                      · intro w hSw; (try dsimp only at hSw); go_simp; first | done | with_reducible rfl
                      try simp only [Act.put, List.setIfInBounds_toArray, List.set_cons_zero, List.set_cons_succ]
                      refine wpAnyH_take (i := 5) (oi := { dst := some 76, op := Op.load 22 (Operand.tmp 75), type := 22, pos := "outright.go:66", after := #[{ on := 4, ground := Ground.data }], guard := none }) (v := ?_) rfl (by kernel_rfl) (by kernel_rfl) (by kernel_rfl) (fun _ _ _ h => h) (Or.inl ⟨by rfl, ?_⟩) hHeld ?_
                      rotate_left
                      · intro w hSw; (try dsimp only at hSw); have e0 := (hSw.cell (p := ⟨bm, om + k * 2, none⟩) (Nat.lt_of_lt_of_le LD.out HBn.out.size)).trans ((HBn.out.cell (p := ⟨bm, om + k * 2, none⟩) LD.out).trans D0.out); have e1 := (hSw.cell (p := ⟨bm, om + k * 2 + 1, none⟩) (Nat.lt_of_lt_of_le LD.out HBn.out.size)).trans ((HBn.out.cell (p := ⟨bm, om + k * 2 + 1, none⟩) LD.out).trans D1.out); have e2 := (hSw.cell (p := ⟨bm, om + j * 2, none⟩) (Nat.lt_of_lt_of_le LD.out HBn.out.size)).trans ((HBn.out.cell (p := ⟨bm, om + j * 2, none⟩) LD.out).trans E0.out); have e3 := (hSw.cell (p := ⟨bm, om + j * 2 + 1, none⟩) (Nat.lt_of_lt_of_le LD.out HBn.out.size)).trans ((HBn.out.cell (p := ⟨bm, om + j * 2 + 1, none⟩) LD.out).trans E1.out); go_simp; first | done | with_reducible rfl
                      try simp only [Act.put, List.setIfInBounds_toArray, List.set_cons_zero, List.set_cons_succ]
                      refine wpAnyH_take (i := 6) (oi := { dst := some 77, op := Op.binOp BinOp.geq 22 (Operand.tmp 71) (Operand.tmp 76) 22, type := 4, pos := "outright.go:66", after := #[{ on := 0, ground := Ground.data }, { on := 5, ground := Ground.data }], guard := none }) (v := ?_) rfl (by kernel_rfl) (by kernel_rfl) (by kernel_rfl) (fun _ _ _ h => h) (Or.inl ⟨by rfl, ?_⟩) hHeld ?_
                      rotate_left
                      · intro w hSw; (try dsimp only at hSw); have h := HGQ.out; have h2 := HGN.out; go_simp; first | done | with_reducible rfl
                      try simp only [Act.put, List.setIfInBounds_toArray, List.set_cons_zero, List.set_cons_succ]
                      refine wpAnyH_take (i := 7) (oi := { dst := some 78, op := Op.move (Operand.tmp 77), type := 4, pos := "outright.go:66", after := #[{ on := 6, ground := Ground.data }], guard := none }) (v := ?_) rfl (by kernel_rfl) (by kernel_rfl) (by kernel_rfl) (fun _ _ _ h => h) (Or.inl ⟨by rfl, ?_⟩) hHeld ?_
                      rotate_left
                      · intro w hSw; (try dsimp only at hSw); go_simp; first | done | with_reducible rfl
                      try simp only [Act.put, List.setIfInBounds_toArray, List.set_cons_zero, List.set_cons_succ]
                      refine wpAnyH_take (i := 8) (oi := { dst := some 79, op := Op.move (Operand.tmp 5), type := 37, pos := "outright.go:66", after := #[{ on := 7, ground := Ground.guard }], guard := some (7, false) }) (v := ?_) rfl (by kernel_rfl) (by kernel_rfl) (by kernel_rfl) (fun _ _ _ h => h) (Or.inl ⟨by rfl, ?_⟩) hHeld ?_
                      rotate_left
                      · intro w hSw; (try dsimp only at hSw); go_simp; first | done | with_reducible rfl
                      try simp only [Act.put, List.setIfInBounds_toArray, List.set_cons_zero, List.set_cons_succ]
                      refine wpAnyH_take (i := 9) (oi := { dst := some 80, op := Op.move (Operand.tmp 11), type := 3, pos := "outright.go:66", after := #[{ on := 7, ground := Ground.guard }], guard := some (7, false) }) (v := ?_) rfl (by kernel_rfl) (by kernel_rfl) (by kernel_rfl) (fun _ _ _ h => h) (Or.inl ⟨by rfl, ?_⟩) hHeld ?_
                      rotate_left
                      · intro w hSw; (try dsimp only at hSw); go_simp; first | done | with_reducible rfl
                      try simp only [Act.put, List.setIfInBounds_toArray, List.set_cons_zero, List.set_cons_succ]
                      refine wpAnyH_take (i := 10) (oi := { dst := some 81, op := Op.indexAddr 37 (Operand.tmp 79) (Operand.tmp 80), type := 0, pos := "outright.go:66", after := #[{ on := 8, ground := Ground.data }, { on := 9, ground := Ground.data }, { on := 7, ground := Ground.guard }], guard := some (7, false) }) (v := ?_) rfl (by kernel_rfl) (by kernel_rfl) (by kernel_rfl) (fun _ _ _ h => h) (Or.inl ⟨by rfl, ?_⟩) hHeld ?_
                      rotate_left
                      · intro w hSw; (try dsimp only at hSw); have h := hjn; go_simp; first | done | with_reducible rfl
                      try simp only [Act.put, List.setIfInBounds_toArray, List.set_cons_zero, List.set_cons_succ]
                      refine wpAnyH_take (i := 11) (oi := { dst := some 82, op := Op.fieldAddr 24 (Operand.tmp 81) 1, type := 0, pos := "outright.go:66", after := #[{ on := 10, ground := Ground.data }, { on := 7, ground := Ground.guard }], guard := some (7, false) }) (v := ?_) rfl (by kernel_rfl) (by kernel_rfl) (by kernel_rfl) (fun _ _ _ h => h) (Or.inl ⟨by rfl, ?_⟩) hHeld ?_
                      rotate_left
                      · intro w hSw; (try dsimp only at hSw); go_simp; first | done | with_reducible rfl
                      try simp only [Act.put, List.setIfInBounds_toArray, List.set_cons_zero, List.set_cons_succ]
                      refine wpAnyH_take (i := 12) (oi := { dst := some 83, op := Op.load 3 (Operand.tmp 82), type := 3, pos := "outright.go:66", after := #[{ on := 11, ground := Ground.data }, { on := 7, ground := Ground.guard }], guard := some (7, false) }) (v := ?_) rfl (by kernel_rfl) (by kernel_rfl) (by kernel_rfl) (fun _ _ _ h => h) (Or.inl ⟨by rfl, ?_⟩) hHeld ?_
                      rotate_left
                      · intro w hSw; (try dsimp only at hSw); have e0 := (hSw.cell (p := ⟨bm, om + k * 2, none⟩) (Nat.lt_of_lt_of_le LD.out HBn.out.size)).trans ((HBn.out.cell (p := ⟨bm, om + k * 2, none⟩) LD.out).trans D0.out); have e1 := (hSw.cell (p := ⟨bm, om + k * 2 + 1, none⟩) (Nat.lt_of_lt_of_le LD.out HBn.out.size)).trans ((HBn.out.cell (p := ⟨bm, om + k * 2 + 1, none⟩) LD.out).trans D1.out); have e2 := (hSw.cell (p := ⟨bm, om + j * 2, none⟩) (Nat.lt_of_lt_of_le LD.out HBn.out.size)).trans ((HBn.out.cell (p := ⟨bm, om + j * 2, none⟩) LD.out).trans E0.out); have e3 := (hSw.cell (p := ⟨bm, om + j * 2 + 1, none⟩) (Nat.lt_of_lt_of_le LD.out HBn.out.size)).trans ((HBn.out.cell (p := ⟨bm, om + j * 2 + 1, none⟩) LD.out).trans E1.out); go_simp; first | done | with_reducible rfl
                      try simp only [Act.put, List.setIfInBounds_toArray, List.set_cons_zero, List.set_cons_succ]
                      refine wpAnyH_take (i := 13) (oi := { dst := some 84, op := Op.move (Operand.tmp 5), type := 37, pos := "outright.go:66", after := #[{ on := 7, ground := Ground.guard }], guard := some (7, false) }) (v := ?_) rfl (by kernel_rfl) (by kernel_rfl) (by kernel_rfl) (fun _ _ _ h => h) (Or.inl ⟨by rfl, ?_⟩) hHeld ?_
                      rotate_left
                      · intro w hSw; (try dsimp only at hSw); go_simp; first | done | with_reducible rfl
                      try simp only [Act.put, List.setIfInBounds_toArray, List.set_cons_zero, List.set_cons_succ]
                      refine wpAnyH_take (i := 14) (oi := { dst := some 85, op := Op.move (Operand.tmp 10), type := 3, pos := "outright.go:66", after := #[{ on := 7, ground := Ground.guard }], guard := some (7, false) }) (v := ?_) rfl (by kernel_rfl) (by kernel_rfl) (by kernel_rfl) (fun _ _ _ h => h) (Or.inl ⟨by rfl, ?_⟩) hHeld ?_
                      rotate_left
                      · intro w hSw; (try dsimp only at hSw); go_simp; first | done | with_reducible rfl
                      try simp only [Act.put, List.setIfInBounds_toArray, List.set_cons_zero, List.set_cons_succ]
                      refine wpAnyH_take (i := 15) (oi := { dst := some 86, op := Op.indexAddr 37 (Operand.tmp 84) (Operand.tmp 85), type := 0, pos := "outright.go:66", after := #[{ on := 13, ground := Ground.data }, { on := 14, ground := Ground.data }, { on := 7, ground := Ground.guard }], guard := some (7, false) }) (v := ?_) rfl (by kernel_rfl) (by kernel_rfl) (by kernel_rfl) (fun _ _ _ h => h) (Or.inl ⟨by rfl, ?_⟩) hHeld ?_
                      rotate_left
                      · intro w hSw; (try dsimp only at hSw); have h := hlt'; go_simp; first | done | with_reducible rfl
                      try simp only [Act.put, List.setIfInBounds_toArray, List.set_cons_zero, List.set_cons_succ]
                      refine wpAnyH_take (i := 16) (oi := { dst := some 87, op := Op.fieldAddr 24 (Operand.tmp 86) 1, type := 0, pos := "outright.go:66", after := #[{ on := 15, ground := Ground.data }, { on := 7, ground := Ground.guard }], guard := some (7, false) }) (v := ?_) rfl (by kernel_rfl) (by kernel_rfl) (by kernel_rfl) (fun _ _ _ h => h) (Or.inl ⟨by rfl, ?_⟩) hHeld ?_
                      rotate_left
                      · intro w hSw; (try dsimp only at hSw); go_simp; first | done | with_reducible rfl
                      try simp only [Act.put, List.setIfInBounds_toArray, List.set_cons_zero, List.set_cons_succ]
                      refine wpAnyH_take (i := 17) (oi := { dst := some 88, op := Op.load 3 (Operand.tmp 87), type := 3, pos := "outright.go:66", after := #[{ on := 16, ground := Ground.data }, { on := 7, ground := Ground.guard }], guard := some (7, false) }) (v := ?_) rfl (by kernel_rfl) (by kernel_rfl) (by kernel_rfl) (fun _ _ _ h => h) (Or.inl ⟨by rfl, ?_⟩) hHeld ?_
                      rotate_left
                      · intro w hSw; (try dsimp only at hSw); have e0 := (hSw.cell (p := ⟨bm, om + k * 2, none⟩) (Nat.lt_of_lt_of_le LD.out HBn.out.size)).trans ((HBn.out.cell (p := ⟨bm, om + k * 2, none⟩) LD.out).trans D0.out); have e1 := (hSw.cell (p := ⟨bm, om + k * 2 + 1, none⟩) (Nat.lt_of_lt_of_le LD.out HBn.out.size)).trans ((HBn.out.cell (p := ⟨bm, om + k * 2 + 1, none⟩) LD.out).trans D1.out); have e2 := (hSw.cell (p := ⟨bm, om + j * 2, none⟩) (Nat.lt_of_lt_of_le LD.out HBn.out.size)).trans ((HBn.out.cell (p := ⟨bm, om + j * 2, none⟩) LD.out).trans E0.out); have e3 := (hSw.cell (p := ⟨bm, om + j * 2 + 1, none⟩) (Nat.lt_of_lt_of_le LD.out HBn.out.size)).trans ((HBn.out.cell (p := ⟨bm, om + j * 2 + 1, none⟩) LD.out).trans E1.out); go_simp; first | done | with_reducible rfl
                      try simp only [Act.put, List.setIfInBounds_toArray, List.set_cons_zero, List.set_cons_succ]
                      refine wpAnyH_take (i := 18) (oi := { dst := some 89, op := Op.binOp BinOp.eql 3 (Operand.tmp 83) (Operand.tmp 88) 3, type := 4, pos := "outright.go:66", after := #[{ on := 12, ground := Ground.data }, { on := 17, ground := Ground.data }, { on := 7, ground := Ground.guard }], guard := some (7, false) }) (v := ?_) rfl (by kernel_rfl) (by kernel_rfl) (by kernel_rfl) (fun _ _ _ h => h) (Or.inl ⟨by rfl, ?_⟩) hHeld ?_
                      rotate_left
                      · intro w hSw; (try dsimp only at hSw); go_simp; first | done | with_reducible rfl
                      try simp only [Act.put, List.setIfInBounds_toArray, List.set_cons_zero, List.set_cons_succ]
                      refine wpAnyH_take (i := 19) (oi := { dst := some 90, op := Op.move (Operand.tmp 89), type := 4, pos := "outright.go:66", after := #[{ on := 18, ground := Ground.data }, { on := 7, ground := Ground.chain }, { on := 7, ground := Ground.guard }], guard := some (7, false) }) (v := ?_) rfl (by kernel_rfl) (by kernel_rfl) (by kernel_rfl) (fun _ _ _ h => h) (Or.inl ⟨by rfl, ?_⟩) hHeld ?_
                      rotate_left
                      · intro w hSw; (try dsimp only at hSw); go_simp; first | done | with_reducible rfl
                      try simp only [Act.put, List.setIfInBounds_toArray, List.set_cons_zero, List.set_cons_succ]
                      refine wpAnyH_take (i := 20) (oi := { dst := some 91, op := Op.move (Operand.tmp 5), type := 37, pos := "outright.go:66", after := #[{ on := 19, ground := Ground.guard }], guard := some (19, true) }) (v := ?_) rfl (by kernel_rfl) (by kernel_rfl) (by kernel_rfl) (fun _ _ _ h => h) (Or.inl ⟨by rfl, ?_⟩) hHeld ?_
                      rotate_left
                      · intro w hSw; (try dsimp only at hSw); go_simp; first | done | with_reducible rfl
                      try simp only [Act.put, List.setIfInBounds_toArray, List.set_cons_zero, List.set_cons_succ]
                      refine wpAnyH_take (i := 21) (oi := { dst := some 92, op := Op.move (Operand.tmp 10), type := 3, pos := "outright.go:66", after := #[{ on := 19, ground := Ground.guard }], guard := some (19, true) }) (v := ?_) rfl (by kernel_rfl) (by kernel_rfl) (by kernel_rfl) (fun _ _ _ h => h) (Or.inl ⟨by rfl, ?_⟩) hHeld ?_
                      rotate_left
                      · intro w hSw; (try dsimp only at hSw); go_simp; first | done | with_reducible rfl
                      try simp only [Act.put, List.setIfInBounds_toArray, List.set_cons_zero, List.set_cons_succ]
                      refine wpAnyH_take (i := 22) (oi := { dst := some 93, op := Op.indexAddr 37 (Operand.tmp 91) (Operand.tmp 92), type := 0, pos := "outright.go:66", after := #[{ on := 20, ground := Ground.data }, { on := 21, ground := Ground.data }, { on := 19, ground := Ground.guard }], guard := some (19, true) }) (v := ?_) rfl (by kernel_rfl) (by kernel_rfl) (by kernel_rfl) (fun _ _ _ h => h) (Or.inl ⟨by rfl, ?_⟩) hHeld ?_
                      rotate_left
                      · intro w hSw; (try dsimp only at hSw); have h := hlt'; go_simp; first | done | with_reducible rfl
                      try simp only [Act.put, List.setIfInBounds_toArray, List.set_cons_zero, List.set_cons_succ]
                      refine wpAnyH_take (i := 23) (oi := { dst := some 94, op := Op.fieldAddr 24 (Operand.tmp 93) 1, type := 0, pos := "outright.go:66", after := #[{ on := 22, ground := Ground.data }, { on := 19, ground := Ground.guard }], guard := some (19, true) }) (v := ?_) rfl (by kernel_rfl) (by kernel_rfl) (by kernel_rfl) (fun _ _ _ h => h) (Or.inl ⟨by rfl, ?_⟩) hHeld ?_
                      rotate_left
                      · intro w hSw; (try dsimp only at hSw); go_simp; first | done | with_reducible rfl
                      try simp only [Act.put, List.setIfInBounds_toArray, List.set_cons_zero, List.set_cons_succ]
                      refine wpAnyH_take (i := 24) (oi := { dst := some 95, op := Op.load 3 (Operand.tmp 94), type := 3, pos := "outright.go:66", after := #[{ on := 23, ground := Ground.data }, { on := 19, ground := Ground.guard }], guard := some (19, true) }) (v := ?_) rfl (by kernel_rfl) (by kernel_rfl) (by kernel_rfl) (fun _ _ _ h => h) (Or.inl ⟨by rfl, ?_⟩) hHeld ?_
                      rotate_left
                      · intro w hSw; (try dsimp only at hSw); have e0 := (hSw.cell (p := ⟨bm, om + k * 2, none⟩) (Nat.lt_of_lt_of_le LD.out HBn.out.size)).trans ((HBn.out.cell (p := ⟨bm, om + k * 2, none⟩) LD.out).trans D0.out); have e1 := (hSw.cell (p := ⟨bm, om + k * 2 + 1, none⟩) (Nat.lt_of_lt_of_le LD.out HBn.out.size)).trans ((HBn.out.cell (p := ⟨bm, om + k * 2 + 1, none⟩) LD.out).trans D1.out); have e2 := (hSw.cell (p := ⟨bm, om + j * 2, none⟩) (Nat.lt_of_lt_of_le LD.out HBn.out.size)).trans ((HBn.out.cell (p := ⟨bm, om + j * 2, none⟩) LD.out).trans E0.out); have e3 := (hSw.cell (p := ⟨bm, om + j * 2 + 1, none⟩) (Nat.lt_of_lt_of_le LD.out HBn.out.size)).trans ((HBn.out.cell (p := ⟨bm, om + j * 2 + 1, none⟩) LD.out).trans E1.out); go_simp; first | done | with_reducible rfl
                      try simp only [Act.put, List.setIfInBounds_toArray, List.set_cons_zero, List.set_cons_succ]
                      refine wpAnyH_take (i := 25) (oi := { dst := some 96, op := Op.binOp BinOp.gtr 3 (Operand.tmp 95) (Operand.const (Value.int IntKind.i64 0)) 3, type := 4, pos := "outright.go:66", after := #[{ on := 24, ground := Ground.data }, { on := 19, ground := Ground.guard }], guard := some (19, true) }) (v := ?_) rfl (by kernel_rfl) (by kernel_rfl) (by kernel_rfl) (fun _ _ _ h => h) (Or.inl ⟨by rfl, ?_⟩) hHeld ?_
                      rotate_left
                      · intro w hSw; (try dsimp only at hSw); have h : decide (0 < jb) = false := (by simpa using hp); go_simp; first | done | with_reducible rfl
                      try simp only [Act.put, List.setIfInBounds_toArray, List.set_cons_zero, List.set_cons_succ]
                      refine wpAnyH_take (i := 26) (oi := { dst := some 97, op := Op.pick (Operand.tmp 90) (Operand.tmp 96) (Operand.const (Value.bool false)), type := 4, pos := "outright.go:66", after := #[{ on := 19, ground := Ground.data }, { on := 25, ground := Ground.data }, { on := 7, ground := Ground.guard }], guard := some (7, false) }) (v := ?_) rfl (by kernel_rfl) (by kernel_rfl) (by kernel_rfl) (fun _ _ _ h => h) (Or.inl ⟨by rfl, ?_⟩) hHeld ?_
                      rotate_left
                      · intro w hSw; (try dsimp only at hSw); go_simp; first | done | with_reducible rfl
                      try simp only [Act.put, List.setIfInBounds_toArray, List.set_cons_zero, List.set_cons_succ]
                      refine wpAnyH_take (i := 27) (oi := { dst := some 98, op := Op.move (Operand.tmp 97), type := 4, pos := "outright.go:66", after := #[{ on := 26, ground := Ground.data }, { on := 19, ground := Ground.chain }, { on := 7, ground := Ground.guard }], guard := some (7, false) }) (v := ?_) rfl (by kernel_rfl) (by kernel_rfl) (by kernel_rfl) (fun _ _ _ h => h) (Or.inl ⟨by rfl, ?_⟩) hHeld ?_
                      rotate_left
                      · intro w hSw; (try dsimp only at hSw); go_simp; first | done | with_reducible rfl
                      try simp only [Act.put, List.setIfInBounds_toArray, List.set_cons_zero, List.set_cons_succ]
                      refine wpAnyH_take (i := 28) (oi := { dst := some 99, op := Op.move (Operand.tmp 5), type := 37, pos := "outright.go:66", after := #[{ on := 27, ground := Ground.guard }], guard := some (27, true) }) (v := undef) rfl (by kernel_rfl) (by kernel_rfl) (by kernel_rfl) (fun _ _ _ h => h) (Or.inr ⟨by rfl, rfl⟩) hHeld ?_
                      try simp only [Act.put, List.setIfInBounds_toArray, List.set_cons_zero, List.set_cons_succ]
                      refine wpAnyH_take (i := 29) (oi := { dst := some 100, op := Op.move (Operand.tmp 11), type := 3, pos := "outright.go:66", after := #[{ on := 27, ground := Ground.guard }], guard := some (27, true) }) (v := undef) rfl (by kernel_rfl) (by kernel_rfl) (by kernel_rfl) (fun _ _ _ h => h) (Or.inr ⟨by rfl, rfl⟩) hHeld ?_
                      try simp only [Act.put, List.setIfInBounds_toArray, List.set_cons_zero, List.set_cons_succ]
                      refine wpAnyH_take (i := 30) (oi := { dst := some 101, op := Op.indexAddr 37 (Operand.tmp 99) (Operand.tmp 100), type := 0, pos := "outright.go:66", after := #[{ on := 28, ground := Ground.data }, { on := 29, ground := Ground.data }, { on := 27, ground := Ground.guard }], guard := some (27, true) }) (v := undef) rfl (by kernel_rfl) (by kernel_rfl) (by kernel_rfl) (fun _ _ _ h => h) (Or.inr ⟨by rfl, rfl⟩) hHeld ?_
                      try simp only [Act.put, List.setIfInBounds_toArray, List.set_cons_zero, List.set_cons_succ]
                      refine wpAnyH_take (i := 31) (oi := { dst := some 102, op := Op.fieldAddr 24 (Operand.tmp 101) 0, type := 0, pos := "outright.go:66", after := #[{ on := 30, ground := Ground.data }, { on := 27, ground := Ground.guard }], guard := some (27, true) }) (v := undef) rfl (by kernel_rfl) (by kernel_rfl) (by kernel_rfl) (fun _ _ _ h => h) (Or.inr ⟨by rfl, rfl⟩) hHeld ?_
                      try simp only [Act.put, List.setIfInBounds_toArray, List.set_cons_zero, List.set_cons_succ]
                      refine wpAnyH_take (i := 32) (oi := { dst := some 103, op := Op.load 22 (Operand.tmp 102), type := 22, pos := "outright.go:66", after := #[{ on := 31, ground := Ground.data }, { on := 27, ground := Ground.guard }], guard := some (27, true) }) (v := undef) rfl (by kernel_rfl) (by kernel_rfl) (by kernel_rfl) (fun _ _ _ h => h) (Or.inr ⟨by rfl, rfl⟩) hHeld ?_
                      try simp only [Act.put, List.setIfInBounds_toArray, List.set_cons_zero, List.set_cons_succ]
                      refine wpAnyH_take (i := 33) (oi := { dst := some 104, op := Op.move (Operand.tmp 5), type := 37, pos := "outright.go:66", after := #[{ on := 27, ground := Ground.guard }], guard := some (27, true) }) (v := undef) rfl (by kernel_rfl) (by kernel_rfl) (by kernel_rfl) (fun _ _ _ h => h) (Or.inr ⟨by rfl, rfl⟩) hHeld ?_
                      try simp only [Act.put, List.setIfInBounds_toArray, List.set_cons_zero, List.set_cons_succ]
                      refine wpAnyH_take (i := 34) (oi := { dst := some 105, op := Op.move (Operand.tmp 10), type := 3, pos := "outright.go:66", after := #[{ on := 27, ground := Ground.guard }], guard := some (27, true) }) (v := undef) rfl (by kernel_rfl) (by kernel_rfl) (by kernel_rfl) (fun _ _ _ h => h) (Or.inr ⟨by rfl, rfl⟩) hHeld ?_
                      try simp only [Act.put, List.setIfInBounds_toArray, List.set_cons_zero, List.set_cons_succ]
                      refine wpAnyH_take (i := 35) (oi := { dst := some 106, op := Op.indexAddr 37 (Operand.tmp 104) (Operand.tmp 105), type := 0, pos := "outright.go:66", after := #[{ on := 33, ground := Ground.data }, { on := 34, ground := Ground.data }, { on := 27, ground := Ground.guard }], guard := some (27, true) }) (v := undef) rfl (by kernel_rfl) (by kernel_rfl) (by kernel_rfl) (fun _ _ _ h => h) (Or.inr ⟨by rfl, rfl⟩) hHeld ?_
                      try simp only [Act.put, List.setIfInBounds_toArray, List.set_cons_zero, List.set_cons_succ]
                      refine wpAnyH_take (i := 36) (oi := { dst := some 107, op := Op.fieldAddr 24 (Operand.tmp 106) 1, type := 0, pos := "outright.go:66", after := #[{ on := 35, ground := Ground.data }, { on := 27, ground := Ground.guard }], guard := some (27, true) }) (v := undef) rfl (by kernel_rfl) (by kernel_rfl) (by kernel_rfl) (fun _ _ _ h => h) (Or.inr ⟨by rfl, rfl⟩) hHeld ?_
                      try simp only [Act.put, List.setIfInBounds_toArray, List.set_cons_zero, List.set_cons_succ]
                      refine wpAnyH_take (i := 37) (oi := { dst := some 108, op := Op.load 3 (Operand.tmp 107), type := 3, pos := "outright.go:66", after := #[{ on := 36, ground := Ground.data }, { on := 27, ground := Ground.guard }], guard := some (27, true) }) (v := undef) rfl (by kernel_rfl) (by kernel_rfl) (by kernel_rfl) (fun _ _ _ h => h) (Or.inr ⟨by rfl, rfl⟩) hHeld ?_
                      try simp only [Act.put, List.setIfInBounds_toArray, List.set_cons_zero, List.set_cons_succ]
                      refine wpAnyH_take (i := 38) (oi := { dst := some 109, op := Op.binOp BinOp.sub 3 (Operand.tmp 108) (Operand.const (Value.int IntKind.i64 1)) 3, type := 3, pos := "outright.go:66", after := #[{ on := 37, ground := Ground.data }, { on := 27, ground := Ground.guard }], guard := some (27, true) }) (v := undef) rfl (by kernel_rfl) (by kernel_rfl) (by kernel_rfl) (fun _ _ _ h => h) (Or.inr ⟨by rfl, rfl⟩) hHeld ?_
                      try simp only [Act.put, List.setIfInBounds_toArray, List.set_cons_zero, List.set_cons_succ]
                      refine wpAnyH_take (i := 39) (oi := { dst := some 110, op := Op.call { callee := Callee.value (Operand.func 24), args := #[Operand.tmp 109], argTypes := #[3] }, type := 22, pos := "outright.go:66", after := #[{ on := 38, ground := Ground.data }, { on := 27, ground := Ground.chain }, { on := 27, ground := Ground.guard }], guard := some (27, true) }) (v := undef) rfl (by kernel_rfl) (by kernel_rfl) (by kernel_rfl) (fun _ _ _ h => h) (Or.inr ⟨by rfl, rfl⟩) hHeld ?_
                      try simp only [Act.put, List.setIfInBounds_toArray, List.set_cons_zero, List.set_cons_succ]
                      refine wpAnyH_take (i := 40) (oi := { dst := some 111, op := Op.binOp BinOp.and 22 (Operand.tmp 103) (Operand.tmp 110) 22, type := 22, pos := "outright.go:66", after := #[{ on := 32, ground := Ground.data }, { on := 39, ground := Ground.data }, { on := 27, ground := Ground.guard }], guard := some (27, true) }) (v := undef) rfl (by kernel_rfl) (by kernel_rfl) (by kernel_rfl) (fun _ _ _ h => h) (Or.inr ⟨by rfl, rfl⟩) hHeld ?_
                      try simp only [Act.put, List.setIfInBounds_toArray, List.set_cons_zero, List.set_cons_succ]
                      refine wpAnyH_take (i := 41) (oi := { dst := some 112, op := Op.move (Operand.tmp 5), type := 37, pos := "outright.go:66", after := #[{ on := 27, ground := Ground.guard }], guard := some (27, true) }) (v := undef) rfl (by kernel_rfl) (by kernel_rfl) (by kernel_rfl) (fun _ _ _ h => h) (Or.inr ⟨by rfl, rfl⟩) hHeld ?_
                      try simp only [Act.put, List.setIfInBounds_toArray, List.set_cons_zero, List.set_cons_succ]
                      refine wpAnyH_take (i := 42) (oi := { dst := some 113, op := Op.move (Operand.tmp 10), type := 3, pos := "outright.go:66", after := #[{ on := 27, ground := Ground.guard }], guard := some (27, true) }) (v := undef) rfl (by kernel_rfl) (by kernel_rfl) (by kernel_rfl) (fun _ _ _ h => h) (Or.inr ⟨by rfl, rfl⟩) hHeld ?_
                      try simp only [Act.put, List.setIfInBounds_toArray, List.set_cons_zero, List.set_cons_succ]
                      refine wpAnyH_take (i := 43) (oi := { dst := some 114, op := Op.indexAddr 37 (Operand.tmp 112) (Operand.tmp 113), type := 0, pos := "outright.go:66", after := #[{ on := 41, ground := Ground.data }, { on := 42, ground := Ground.data }, { on := 27, ground := Ground.guard }], guard := some (27, true) }) (v := undef) rfl (by kernel_rfl) (by kernel_rfl) (by kernel_rfl) (fun _ _ _ h => h) (Or.inr ⟨by rfl, rfl⟩) hHeld ?_
                      try simp only [Act.put, List.setIfInBounds_toArray, List.set_cons_zero, List.set_cons_succ]
                      refine wpAnyH_take (i := 44) (oi := { dst := some 115, op := Op.fieldAddr 24 (Operand.tmp 114) 0, type := 0, pos := "outright.go:66", after := #[{ on := 43, ground := Ground.data }, { on := 27, ground := Ground.guard }], guard := some (27, true) }) (v := undef) rfl (by kernel_rfl) (by kernel_rfl) (by kernel_rfl) (fun _ _ _ h => h) (Or.inr ⟨by rfl, rfl⟩) hHeld ?_
                      try simp only [Act.put, List.setIfInBounds_toArray, List.set_cons_zero, List.set_cons_succ]
                      refine wpAnyH_take (i := 45) (oi := { dst := some 116, op := Op.load 22 (Operand.tmp 115), type := 22, pos := "outright.go:66", after := #[{ on := 44, ground := Ground.data }, { on := 27, ground := Ground.guard }], guard := some (27, true) }) (v := undef) rfl (by kernel_rfl) (by kernel_rfl) (by kernel_rfl) (fun _ _ _ h => h) (Or.inr ⟨by rfl, rfl⟩) hHeld ?_
                      try simp only [Act.put, List.setIfInBounds_toArray, List.set_cons_zero, List.set_cons_succ]
                      refine wpAnyH_take (i := 46) (oi := { dst := some 117, op := Op.move (Operand.tmp 5), type := 37, pos := "outright.go:66", after := #[{ on := 27, ground := Ground.guard }], guard := some (27, true) }) (v := undef) rfl (by kernel_rfl) (by kernel_rfl) (by kernel_rfl) (fun _ _ _ h => h) (Or.inr ⟨by rfl, rfl⟩) hHeld ?_
                      try simp only [Act.put, List.setIfInBounds_toArray, List.set_cons_zero, List.set_cons_succ]
                      refine wpAnyH_take (i := 47) (oi := { dst := some 118, op := Op.move (Operand.tmp 10), type := 3, pos := "outright.go:66", after := #[{ on := 27, ground := Ground.guard }], guard := some (27, true) }) (v := undef) rfl (by kernel_rfl) (by kernel_rfl) (by kernel_rfl) (fun _ _ _ h => h) (Or.inr ⟨by rfl, rfl⟩) hHeld ?_
                      try simp only [Act.put, List.setIfInBounds_toArray, List.set_cons_zero, List.set_cons_succ]
                      refine wpAnyH_take (i := 48) (oi := { dst := some 119, op := Op.indexAddr 37 (Operand.tmp 117) (Operand.tmp 118), type := 0, pos := "outright.go:66", after := #[{ on := 46, ground := Ground.data }, { on := 47, ground := Ground.data }, { on := 27, ground := Ground.guard }], guard := some (27, true) }) (v := undef) rfl (by kernel_rfl) (by kernel_rfl) (by kernel_rfl) (fun _ _ _ h => h) (Or.inr ⟨by rfl, rfl⟩) hHeld ?_
                      try simp only [Act.put, List.setIfInBounds_toArray, List.set_cons_zero, List.set_cons_succ]
                      refine wpAnyH_take (i := 49) (oi := { dst := some 120, op := Op.fieldAddr 24 (Operand.tmp 119) 1, type := 0, pos := "outright.go:66", after := #[{ on := 48, ground := Ground.data }, { on := 27, ground := Ground.guard }], guard := some (27, true) }) (v := undef) rfl (by kernel_rfl) (by kernel_rfl) (by kernel_rfl) (fun _ _ _ h => h) (Or.inr ⟨by rfl, rfl⟩) hHeld ?_
                      try simp only [Act.put, List.setIfInBounds_toArray, List.set_cons_zero, List.set_cons_succ]
                      refine wpAnyH_take (i := 50) (oi := { dst := some 121, op := Op.load 3 (Operand.tmp 120), type := 3, pos := "outright.go:66", after := #[{ on := 49, ground := Ground.data }, { on := 27, ground := Ground.guard }], guard := some (27, true) }) (v := undef) rfl (by kernel_rfl) (by kernel_rfl) (by kernel_rfl) (fun _ _ _ h => h) (Or.inr ⟨by rfl, rfl⟩) hHeld ?_
                      try simp only [Act.put, List.setIfInBounds_toArray, List.set_cons_zero, List.set_cons_succ]
                      refine wpAnyH_take (i := 51) (oi := { dst := some 122, op := Op.binOp BinOp.sub 3 (Operand.tmp 121) (Operand.const (Value.int IntKind.i64 1)) 3, type := 3, pos := "outright.go:66", after := #[{ on := 50, ground := Ground.data }, { on := 27, ground := Ground.guard }], guard := some (27, true) }) (v := undef) rfl (by kernel_rfl) (by kernel_rfl) (by kernel_rfl) (fun _ _ _ h => h) (Or.inr ⟨by rfl, rfl⟩) hHeld ?_
                      try simp only [Act.put, List.setIfInBounds_toArray, List.set_cons_zero, List.set_cons_succ]
                      refine wpAnyH_take (i := 52) (oi := { dst := some 123, op := Op.call { callee := Callee.value (Operand.func 24), args := #[Operand.tmp 122], argTypes := #[3] }, type := 22, pos := "outright.go:66", after := #[{ on := 51, ground := Ground.data }, { on := 39, ground := Ground.chain }, { on := 27, ground := Ground.guard }], guard := some (27, true) }) (v := undef) rfl (by kernel_rfl) (by kernel_rfl) (by kernel_rfl) (fun _ _ _ h => h) (Or.inr ⟨by rfl, rfl⟩) hHeld ?_
                      try simp only [Act.put, List.setIfInBounds_toArray, List.set_cons_zero, List.set_cons_succ]
                      refine wpAnyH_take (i := 53) (oi := { dst := some 124, op := Op.binOp BinOp.and 22 (Operand.tmp 116) (Operand.tmp 123) 22, type := 22, pos := "outright.go:66", after := #[{ on := 45, ground := Ground.data }, { on := 52, ground := Ground.data }, { on := 27, ground := Ground.guard }], guard := some (27, true) }) (v := undef) rfl (by kernel_rfl) (by kernel_rfl) (by kernel_rfl) (fun _ _ _ h => h) (Or.inr ⟨by rfl, rfl⟩) hHeld ?_
                      try simp only [Act.put, List.setIfInBounds_toArray, List.set_cons_zero, List.set_cons_succ]
                      refine wpAnyH_take (i := 54) (oi := { dst := some 125, op := Op.binOp BinOp.eql 22 (Operand.tmp 111) (Operand.tmp 124) 22, type := 4, pos := "outright.go:66", after := #[{ on := 40, ground := Ground.data }, { on := 53, ground := Ground.data }, { on := 27, ground := Ground.guard }], guard := some (27, true) }) (v := undef) rfl (by kernel_rfl) (by kernel_rfl) (by kernel_rfl) (fun _ _ _ h => h) (Or.inr ⟨by rfl, rfl⟩) hHeld ?_
                      try simp only [Act.put, List.setIfInBounds_toArray, List.set_cons_zero, List.set_cons_succ]
                      refine wpAnyH_take (i := 55) (oi := { dst := some 126, op := Op.pick (Operand.tmp 98) (Operand.tmp 125) (Operand.const (Value.bool false)), type := 4, pos := "outright.go:66", after := #[{ on := 27, ground := Ground.data }, { on := 54, ground := Ground.data }, { on := 7, ground := Ground.guard }], guard := some (7, false) }) (v := ?_) rfl (by kernel_rfl) (by kernel_rfl) (by kernel_rfl) (fun _ _ _ h => h) (Or.inl ⟨by rfl, ?_⟩) hHeld ?_
                      rotate_left
                      · intro w hSw; (try dsimp only at hSw); go_simp; first | done | with_reducible rfl
                      try simp only [Act.put, List.setIfInBounds_toArray, List.set_cons_zero, List.set_cons_succ]
                      refine wpAnyH_take (i := 56) (oi := { dst := some 127, op := Op.pick (Operand.tmp 78) (Operand.const (Value.bool true)) (Operand.tmp 126), type := 4, pos := "outright.go:66", after := #[{ on := 7, ground := Ground.data }, { on := 55, ground := Ground.data }], guard := none }) (v := ?_) rfl (by kernel_rfl) (by kernel_rfl) (by kernel_rfl) (fun _ _ _ h => h) (Or.inl ⟨by rfl, ?_⟩) hHeld ?_
                      rotate_left
                      · intro w hSw; (try dsimp only at hSw); go_simp; first | done | with_reducible rfl
                      try simp only [Act.put, List.setIfInBounds_toArray, List.set_cons_zero, List.set_cons_succ]
                      refine wpAnyH_done (by kernel_rfl) ?_ _
                      clear hHeld
                      go_wp2_with fail
                      go_roundw
                      case rel => exact ⟨j + 1, by omega, by go_num, HBn.out.trans (((Below.refl w9.heap.size w9).drew).mono HBn.out.size)⟩
                      case measure => simp [intOf]; omega
                  · clear hps hla
                    go_wp2_with fail
                    refine wp_region_held_drew (S := fun w' => Below w9.heap.size w9 w') (by kernel_rfl) ((Below.refl _ _).drew) (fun hHeld => ?_)
                    refine wpAnyH_take (i := 0) (oi := { dst := some 71, op := Op.move (Operand.tmp 12), type := 22, pos := "outright.go:66", after := #[], guard := none }) (v := ?_) rfl (by kernel_rfl) (by kernel_rfl) (by kernel_rfl) (fun _ _ _ h => h) (Or.inl ⟨by rfl, ?_⟩) hHeld ?_
                    rotate_left
                    · intro w hSw; (try dsimp only at hSw); go_simp; first | done | with_reducible rfl
                    try simp only [Act.put, List.setIfInBounds_toArray, List.set_cons_zero, List.set_cons_succ]
                    refine wpAnyH_take (i := 1) (oi := { dst := some 72, op := Op.move (Operand.tmp 5), type := 37, pos := "outright.go:66", after := #[], guard := none }) (v := ?_) rfl (by kernel_rfl) (by kernel_rfl) (by kernel_rfl) (fun _ _ _ h => h) (Or.inl ⟨by rfl, ?_⟩) hHeld ?_
                    rotate_left
                    · intro w hSw; (try dsimp only at hSw); go_simp; first | done | with_reducible rfl
                    try simp only [Act.put, List.setIfInBounds_toArray, List.set_cons_zero, List.set_cons_succ]
                    refine wpAnyH_take (i := 2) (oi := { dst := some 73, op := Op.move (Operand.tmp 10), type := 3, pos := "outright.go:66", after := #[], guard := none }) (v := ?_) rfl (by kernel_rfl) (by kernel_rfl) (by kernel_rfl) (fun _ _ _ h => h) (Or.inl ⟨by rfl, ?_⟩) hHeld ?_
                    rotate_left
                    · intro w hSw; (try dsimp only at hSw); go_simp; first | done | with_reducible rfl
                    try simp only [Act.put, List.setIfInBounds_toArray, List.set_cons_zero, List.set_cons_succ]
                    refine wpAnyH_take (i := 3) (oi := { dst := some 74, op := Op.indexAddr 37 (Operand.tmp 72) (Operand.tmp 73), type := 0, pos := "outright.go:66", after := #[{ on := 1, ground := Ground.data }, { on := 2, ground := Ground.data }], guard := none }) (v := ?_) rfl (by kernel_rfl) (by kernel_rfl) (by kernel_rfl) (fun _ _ _ h => h) (Or.inl ⟨by rfl, ?_⟩) hHeld ?_
                    rotate_left
                    · intro w hSw; (try dsimp only at hSw); have h := hlt'; go_simp; first | done | with_reducible rfl
                    try simp only [Act.put, List.setIfInBounds_toArray, List.set_cons_zero, List.set_cons_succ]
                    refine wpAnyH_take (i := 4) (oi := { dst := some 75, op := Op.fieldAddr 24 (Operand.tmp 74) 0, type := 0, pos := "outright.go:66", after := #[{ on := 3, ground := Ground.data }], guard := none }) (v := ?_) rfl (by kernel_rfl) (by kernel_rfl) (by kernel_rfl) (fun _ _ _ h => h) (Or.inl ⟨by rfl, ?_⟩) hHeld ?_
                    rotate_left
                    · intro w hSw; (try dsimp only at hSw); go_simp; first | done | with_reducible rfl
                    try simp only [Act.put, List.setIfInBounds_toArray, List.set_cons_zero, List.set_cons_succ]
                    refine wpAnyH_take (i := 5) (oi := { dst := some 76, op := Op.load 22 (Operand.tmp 75), type := 22, pos := "outright.go:66", after := #[{ on := 4, ground := Ground.data }], guard := none }) (v := ?_) rfl (by kernel_rfl) (by kernel_rfl) (by kernel_rfl) (fun _ _ _ h => h) (Or.inl ⟨by rfl, ?_⟩) hHeld ?_
                    rotate_left
                    · intro w hSw; (try dsimp only at hSw); have e0 := (hSw.cell (p := ⟨bm, om + k * 2, none⟩) (Nat.lt_of_lt_of_le LD.out HBn.out.size)).trans ((HBn.out.cell (p := ⟨bm, om + k * 2, none⟩) LD.out).trans D0.out); have e1 := (hSw.cell (p := ⟨bm, om + k * 2 + 1, none⟩) (Nat.lt_of_lt_of_le LD.out HBn.out.size)).trans ((HBn.out.cell (p := ⟨bm, om + k * 2 + 1, none⟩) LD.out).trans D1.out); have e2 := (hSw.cell (p := ⟨bm, om + j * 2, none⟩) (Nat.lt_of_lt_of_le LD.out HBn.out.size)).trans ((HBn.out.cell (p := ⟨bm, om + j * 2, none⟩) LD.out).trans E0.out); have e3 := (hSw.cell (p := ⟨bm, om + j * 2 + 1, none⟩) (Nat.lt_of_lt_of_le LD.out HBn.out.size)).trans ((HBn.out.cell (p := ⟨bm, om + j * 2 + 1, none⟩) LD.out).trans E1.out); go_simp; first | done | with_reducible rfl
                    try simp only [Act.put, List.setIfInBounds_toArray, List.set_cons_zero, List.set_cons_succ]
                    refine wpAnyH_take (i := 6) (oi := { dst := some 77, op := Op.binOp BinOp.geq 22 (Operand.tmp 71) (Operand.tmp 76) 22, type := 4, pos := "outright.go:66", after := #[{ on := 0, ground := Ground.data }, { on := 5, ground := Ground.data }], guard := none }) (v := ?_) rfl (by kernel_rfl) (by kernel_rfl) (by kernel_rfl) (fun _ _ _ h => h) (Or.inl ⟨by rfl, ?_⟩) hHeld ?_
                    rotate_left
                    · intro w hSw; (try dsimp only at hSw); have h := HGQ.out; have h2 := HGN.out; go_simp; first | done | with_reducible rfl
                    try simp only [Act.put, List.setIfInBounds_toArray, List.set_cons_zero, List.set_cons_succ]
                    refine wpAnyH_take (i := 7) (oi := { dst := some 78, op := Op.move (Operand.tmp 77), type := 4, pos := "outright.go:66", after := #[{ on := 6, ground := Ground.data }], guard := none }) (v := ?_) rfl (by kernel_rfl) (by kernel_rfl) (by kernel_rfl) (fun _ _ _ h => h) (Or.inl ⟨by rfl, ?_⟩) hHeld ?_
                    rotate_left
                    · intro w hSw; (try dsimp only at hSw); go_simp; first | done | with_reducible rfl
                    try simp only [Act.put, List.setIfInBounds_toArray, List.set_cons_zero, List.set_cons_succ]
                    refine wpAnyH_take (i := 8) (oi := { dst := some 79, op := Op.move (Operand.tmp 5), type := 37, pos := "outright.go:66", after := #[{ on := 7, ground := Ground.guard }], guard := some (7, false) }) (v := ?_) rfl (by kernel_rfl) (by kernel_rfl) (by kernel_rfl) (fun _ _ _ h => h) (Or.inl ⟨by rfl, ?_⟩) hHeld ?_
                    rotate_left
                    · intro w hSw; (try dsimp only at hSw); go_simp; first | done | with_reducible rfl
                    try simp only [Act.put, List.setIfInBounds_toArray, List.set_cons_zero, List.set_cons_succ]
                    refine wpAnyH_take (i := 9) (oi := { dst := some 80, op := Op.move (Operand.tmp 11), type := 3, pos := "outright.go:66", after := #[{ on := 7, ground := Ground.guard }], guard := some (7, false) }) (v := ?_) rfl (by kernel_rfl) (by kernel_rfl) (by kernel_rfl) (fun _ _ _ h => h) (Or.inl ⟨by rfl, ?_⟩) hHeld ?_
                    rotate_left
                    · intro w hSw; (try dsimp only at hSw); go_simp; first | done | with_reducible rfl
                    try simp only [Act.put, List.setIfInBounds_toArray, List.set_cons_zero, List.set_cons_succ]
                    refine wpAnyH_take (i := 10) (oi := { dst := some 81, op := Op.indexAddr 37 (Operand.tmp 79) (Operand.tmp 80), type := 0, pos := "outright.go:66", after := #[{ on := 8, ground := Ground.data }, { on := 9, ground := Ground.data }, { on := 7, ground := Ground.guard }], guard := some (7, false) }) (v := ?_) rfl (by kernel_rfl) (by kernel_rfl) (by kernel_rfl) (fun _ _ _ h => h) (Or.inl ⟨by rfl, ?_⟩) hHeld ?_
                    rotate_left
                    · intro w hSw; (try dsimp only at hSw); have h := hjn; go_simp; first | done | with_reducible rfl
                    try simp only [Act.put, List.setIfInBounds_toArray, List.set_cons_zero, List.set_cons_succ]
                    refine wpAnyH_take (i := 11) (oi := { dst := some 82, op := Op.fieldAddr 24 (Operand.tmp 81) 1, type := 0, pos := "outright.go:66", after := #[{ on := 10, ground := Ground.data }, { on := 7, ground := Ground.guard }], guard := some (7, false) }) (v := ?_) rfl (by kernel_rfl) (by kernel_rfl) (by kernel_rfl) (fun _ _ _ h => h) (Or.inl ⟨by rfl, ?_⟩) hHeld ?_
                    rotate_left
                    · intro w hSw; (try dsimp only at hSw); go_simp; first | done | with_reducible rfl
                    try simp only [Act.put, List.setIfInBounds_toArray, List.set_cons_zero, List.set_cons_succ]
                    refine wpAnyH_take (i := 12) (oi := { dst := some 83, op := Op.load 3 (Operand.tmp 82), type := 3, pos := "outright.go:66", after := #[{ on := 11, ground := Ground.data }, { on := 7, ground := Ground.guard }], guard := some (7, false) }) (v := ?_) rfl (by kernel_rfl) (by kernel_rfl) (by kernel_rfl) (fun _ _ _ h => h) (Or.inl ⟨by rfl, ?_⟩) hHeld ?_
                    rotate_left
                    · intro w hSw; (try dsimp only at hSw); have e0 := (hSw.cell (p := ⟨bm, om + k * 2, none⟩) (Nat.lt_of_lt_of_le LD.out HBn.out.size)).trans ((HBn.out.cell (p := ⟨bm, om + k * 2, none⟩) LD.out).trans D0.out); have e1 := (hSw.cell (p := ⟨bm, om + k * 2 + 1, none⟩) (Nat.lt_of_lt_of_le LD.out HBn.out.size)).trans ((HBn.out.cell (p := ⟨bm, om + k * 2 + 1, none⟩) LD.out).trans D1.out); have e2 := (hSw.cell (p := ⟨bm, om + j * 2, none⟩) (Nat.lt_of_lt_of_le LD.out HBn.out.size)).trans ((HBn.out.cell (p := ⟨bm, om + j * 2, none⟩) LD.out).trans E0.out); have e3 := (hSw.cell (p := ⟨bm, om + j * 2 + 1, none⟩) (Nat.lt_of_lt_of_le LD.out HBn.out.size)).trans ((HBn.out.cell (p := ⟨bm, om + j * 2 + 1, none⟩) LD.out).trans E1.out); go_simp; first | done | with_reducible rfl
                    try simp only [Act.put, List.setIfInBounds_toArray, List.set_cons_zero, List.set_cons_succ]
                    refine wpAnyH_take (i := 13) (oi := { dst := some 84, op := Op.move (Operand.tmp 5), type := 37, pos := "outright.go:66", after := #[{ on := 7, ground := Ground.guard }], guard := some (7, false) }) (v := ?_) rfl (by kernel_rfl) (by kernel_rfl) (by kernel_rfl) (fun _ _ _ h => h) (Or.inl ⟨by rfl, ?_⟩) hHeld ?_
                    rotate_left
                    · intro w hSw; (try dsimp only at hSw); go_simp; first | done | with_reducible rfl
                    try simp only [Act.put, List.setIfInBounds_toArray, List.set_cons_zero, List.set_cons_succ]
                    refine wpAnyH_take (i := 14) (oi := { dst := some 85, op := Op.move (Operand.tmp 10), type := 3, pos := "outright.go:66", after := #[{ on := 7, ground := Ground.guard }], guard := some (7, false) }) (v := ?_) rfl (by kernel_rfl) (by kernel_rfl) (by kernel_rfl) (fun _ _ _ h => h) (Or.inl ⟨by rfl, ?_⟩) hHeld ?_
                    rotate_left
                    · intro w hSw; (try dsimp only at hSw); go_simp; first | done | with_reducible rfl
                    try simp only [Act.put, List.setIfInBounds_toArray, List.set_cons_zero, List.set_cons_succ]
                    refine wpAnyH_take (i := 15) (oi := { dst := some 86, op := Op.indexAddr 37 (Operand.tmp 84) (Operand.tmp 85), type := 0, pos := "outright.go:66", after := #[{ on := 13, ground := Ground.data }, { on := 14, ground := Ground.data }, { on := 7, ground := Ground.guard }], guard := some (7, false) }) (v := ?_) rfl (by kernel_rfl) (by kernel_rfl) (by kernel_rfl) (fun _ _ _ h => h) (Or.inl ⟨by rfl, ?_⟩) hHeld ?_
                    rotate_left
                    · intro w hSw; (try dsimp only at hSw); have h := hlt'; go_simp; first | done | with_reducible rfl
                    try simp only [Act.put, List.setIfInBounds_toArray, List.set_cons_zero, List.set_cons_succ]
                    refine wpAnyH_take (i := 16) (oi := { dst := some 87, op := Op.fieldAddr 24 (Operand.tmp 86) 1, type := 0, pos := "outright.go:66", after := #[{ on := 15, ground := Ground.data }, { on := 7, ground := Ground.guard }], guard := some (7, false) }) (v := ?_) rfl (by kernel_rfl) (by kernel_rfl) (by kernel_rfl) (fun _ _ _ h => h) (Or.inl ⟨by rfl, ?_⟩) hHeld ?_
                    rotate_left
                    · intro w hSw; (try dsimp only at hSw); go_simp; first | done | with_reducible rfl
                    try simp only [Act.put, List.setIfInBounds_toArray, List.set_cons_zero, List.set_cons_succ]
                    refine wpAnyH_take (i := 17) (oi := { dst := some 88, op := Op.load 3 (Operand.tmp 87), type := 3, pos := "outright.go:66", after := #[{ on := 16, ground := Ground.data }, { on := 7, ground := Ground.guard }], guard := some (7, false) }) (v := ?_) rfl (by kernel_rfl) (by kernel_rfl) (by kernel_rfl) (fun _ _ _ h => h) (Or.inl ⟨by rfl, ?_⟩) hHeld ?_
                    rotate_left
                    · intro w hSw; (try dsimp only at hSw); have e0 := (hSw.cell (p := ⟨bm, om + k * 2, none⟩) (Nat.lt_of_lt_of_le LD.out HBn.out.size)).trans ((HBn.out.cell (p := ⟨bm, om + k * 2, none⟩) LD.out).trans D0.out); have e1 := (hSw.cell (p := ⟨bm, om + k * 2 + 1, none⟩) (Nat.lt_of_lt_of_le LD.out HBn.out.size)).trans ((HBn.out.cell (p := ⟨bm, om + k * 2 + 1, none⟩) LD.out).trans D1.out); have e2 := (hSw.cell (p := ⟨bm, om + j * 2, none⟩) (Nat.lt_of_lt_of_le LD.out HBn.out.size)).trans ((HBn.out.cell (p := ⟨bm, om + j * 2, none⟩) LD.out).trans E0.out); have e3 := (hSw.cell (p := ⟨bm, om + j * 2 + 1, none⟩) (Nat.lt_of_lt_of_le LD.out HBn.out.size)).trans ((HBn.out.cell (p := ⟨bm, om + j * 2 + 1, none⟩) LD.out).trans E1.out); go_simp; first | done | with_reducible rfl
                    try simp only [Act.put, List.setIfInBounds_toArray, List.set_cons_zero, List.set_cons_succ]
                    refine wpAnyH_take (i := 18) (oi := { dst := some 89, op := Op.binOp BinOp.eql 3 (Operand.tmp 83) (Operand.tmp 88) 3, type := 4, pos := "outright.go:66", after := #[{ on := 12, ground := Ground.data }, { on := 17, ground := Ground.data }, { on := 7, ground := Ground.guard }], guard := some (7, false) }) (v := ?_) rfl (by kernel_rfl) (by kernel_rfl) (by kernel_rfl) (fun _ _ _ h => h) (Or.inl ⟨by rfl, ?_⟩) hHeld ?_
                    rotate_left
                    · intro w hSw; (try dsimp only at hSw); have h : (jb == ib) = false := (by simpa using he); go_simp; first | done | with_reducible rfl
                    try simp only [Act.put, List.setIfInBounds_toArray, List.set_cons_zero, List.set_cons_succ]
                    refine wpAnyH_take (i := 19) (oi := { dst := some 90, op := Op.move (Operand.tmp 89), type := 4, pos := "outright.go:66", after := #[{ on := 18, ground := Ground.data }, { on := 7, ground := Ground.chain }, { on := 7, ground := Ground.guard }], guard := some (7, false) }) (v := ?_) rfl (by kernel_rfl) (by kernel_rfl) (by kernel_rfl) (fun _ _ _ h => h) (Or.inl ⟨by rfl, ?_⟩) hHeld ?_
                    rotate_left
                    · intro w hSw; (try dsimp only at hSw); go_simp; first | done | with_reducible rfl
                    try simp only [Act.put, List.setIfInBounds_toArray, List.set_cons_zero, List.set_cons_succ]
                    refine wpAnyH_take (i := 20) (oi := { dst := some 91, op := Op.move (Operand.tmp 5), type := 37, pos := "outright.go:66", after := #[{ on := 19, ground := Ground.guard }], guard := some (19, true) }) (v := undef) rfl (by kernel_rfl) (by kernel_rfl) (by kernel_rfl) (fun _ _ _ h => h) (Or.inr ⟨by rfl, rfl⟩) hHeld ?_
                    try simp only [Act.put, List.setIfInBounds_toArray, List.set_cons_zero, List.set_cons_succ]
                    refine wpAnyH_take (i := 21) (oi := { dst := some 92, op := Op.move (Operand.tmp 10), type := 3, pos := "outright.go:66", after := #[{ on := 19, ground := Ground.guard }], guard := some (19, true) }) (v := undef) rfl (by kernel_rfl) (by kernel_rfl) (by kernel_rfl) (fun _ _ _ h => h) (Or.inr ⟨by rfl, rfl⟩) hHeld ?_
                    try simp only [Act.put, List.setIfInBounds_toArray, List.set_cons_zero, List.set_cons_succ]
                    refine wpAnyH_take (i := 22) (oi := { dst := some 93, op := Op.indexAddr 37 (Operand.tmp 91) (Operand.tmp 92), type := 0, pos := "outright.go:66", after := #[{ on := 20, ground := Ground.data }, { on := 21, ground := Ground.data }, { on := 19, ground := Ground.guard }], guard := some (19, true) }) (v := undef) rfl (by kernel_rfl) (by kernel_rfl) (by kernel_rfl) (fun _ _ _ h => h) (Or.inr ⟨by rfl, rfl⟩) hHeld ?_
                    try simp only [Act.put, List.setIfInBounds_toArray, List.set_cons_zero, List.set_cons_succ]
                    refine wpAnyH_take (i := 23) (oi := { dst := some 94, op := Op.fieldAddr 24 (Operand.tmp 93) 1, type := 0, pos := "outright.go:66", after := #[{ on := 22, ground := Ground.data }, { on := 19, ground := Ground.guard }], guard := some (19, true) }) (v := undef) rfl (by kernel_rfl) (by kernel_rfl) (by kernel_rfl) (fun _ _ _ h => h) (Or.inr ⟨by rfl, rfl⟩) hHeld ?_
                    try simp only [Act.put, List.setIfInBounds_toArray, List.set_cons_zero, List.set_cons_succ]
                    refine wpAnyH_take (i := 24) (oi := { dst := some 95, op := Op.load 3 (Operand.tmp 94), type := 3, pos := "outright.go:66", after := #[{ on := 23, ground := Ground.data }, { on := 19, ground := Ground.guard }], guard := some (19, true) }) (v := undef) rfl (by kernel_rfl) (by kernel_rfl) (by kernel_rfl) (fun _ _ _ h => h) (Or.inr ⟨by rfl, rfl⟩) hHeld ?_
                    try simp only [Act.put, List.setIfInBounds_toArray, List.set_cons_zero, List.set_cons_succ]
                    refine wpAnyH_take (i := 25) (oi := { dst := some 96, op := Op.binOp BinOp.gtr 3 (Operand.tmp 95) (Operand.const (Value.int IntKind.i64 0)) 3, type := 4, pos := "outright.go:66", after := #[{ on := 24, ground := Ground.data }, { on := 19, ground := Ground.guard }], guard := some (19, true) }) (v := undef) rfl (by kernel_rfl) (by kernel_rfl) (by kernel_rfl) (fun _ _ _ h => h) (Or.inr ⟨by rfl, rfl⟩) hHeld ?_
                    try simp only [Act.put, List.setIfInBounds_toArray, List.set_cons_zero, List.set_cons_succ]
                    refine wpAnyH_take (i := 26) (oi := { dst := some 97, op := Op.pick (Operand.tmp 90) (Operand.tmp 96) (Operand.const (Value.bool false)), type := 4, pos := "outright.go:66", after := #[{ on := 19, ground := Ground.data }, { on := 25, ground := Ground.data }, { on := 7, ground := Ground.guard }], guard := some (7, false) }) (v := ?_) rfl (by kernel_rfl) (by kernel_rfl) (by kernel_rfl) (fun _ _ _ h => h) (Or.inl ⟨by rfl, ?_⟩) hHeld ?_
                    rotate_left
                    · intro w hSw; (try dsimp only at hSw); go_simp; first | done | with_reducible rfl
                    try simp only [Act.put, List.setIfInBounds_toArray, List.set_cons_zero, List.set_cons_succ]
                    refine wpAnyH_take (i := 27) (oi := { dst := some 98, op := Op.move (Operand.tmp 97), type := 4, pos := "outright.go:66", after := #[{ on := 26, ground := Ground.data }, { on := 19, ground := Ground.chain }, { on := 7, ground := Ground.guard }], guard := some (7, false) }) (v := ?_) rfl (by kernel_rfl) (by kernel_rfl) (by kernel_rfl) (fun _ _ _ h => h) (Or.inl ⟨by rfl, ?_⟩) hHeld ?_
                    rotate_left
                    · intro w hSw; (try dsimp only at hSw); go_simp; first | done | with_reducible rfl
                    try simp only [Act.put, List.setIfInBounds_toArray, List.set_cons_zero, List.set_cons_succ]
                    refine wpAnyH_take (i := 28) (oi := { dst := some 99, op := Op.move (Operand.tmp 5), type := 37, pos := "outright.go:66", after := #[{ on := 27, ground := Ground.guard }], guard := some (27, true) }) (v := undef) rfl (by kernel_rfl) (by kernel_rfl) (by kernel_rfl) (fun _ _ _ h => h) (Or.inr ⟨by rfl, rfl⟩) hHeld ?_
                    try simp only [Act.put, List.setIfInBounds_toArray, List.set_cons_zero, List.set_cons_succ]
                    refine wpAnyH_take (i := 29) (oi := { dst := some 100, op := Op.move (Operand.tmp 11), type := 3, pos := "outright.go:66", after := #[{ on := 27, ground := Ground.guard }], guard := some (27, true) }) (v := undef) rfl (by kernel_rfl) (by kernel_rfl) (by kernel_rfl) (fun _ _ _ h => h) (Or.inr ⟨by rfl, rfl⟩) hHeld ?_
                    try simp only [Act.put, List.setIfInBounds_toArray, List.set_cons_zero, List.set_cons_succ]
                    refine wpAnyH_take (i := 30) (oi := { dst := some 101, op := Op.indexAddr 37 (Operand.tmp 99) (Operand.tmp 100), type := 0, pos := "outright.go:66", after := #[{ on := 28, ground := Ground.data }, { on := 29, ground := Ground.data }, { on := 27, ground := Ground.guard }], guard := some (27, true) }) (v := undef) rfl (by kernel_rfl) (by kernel_rfl) (by kernel_rfl) (fun _ _ _ h => h) (Or.inr ⟨by rfl, rfl⟩) hHeld ?_
                    try simp only [Act.put, List.setIfInBounds_toArray, List.set_cons_zero, List.set_cons_succ]
                    refine wpAnyH_take (i := 31) (oi := { dst := some 102, op := Op.fieldAddr 24 (Operand.tmp 101) 0, type := 0, pos := "outright.go:66", after := #[{ on := 30, ground := Ground.data }, { on := 27, ground := Ground.guard }], guard := some (27, true) }) (v := undef) rfl (by kernel_rfl) (by kernel_rfl) (by kernel_rfl) (fun _ _ _ h => h) (Or.inr ⟨by rfl, rfl⟩) hHeld ?_
                    try simp only [Act.put, List.setIfInBounds_toArray, List.set_cons_zero, List.set_cons_succ]
                    refine wpAnyH_take (i := 32) (oi := { dst := some 103, op := Op.load 22 (Operand.tmp 102), type := 22, pos := "outright.go:66", after := #[{ on := 31, ground := Ground.data }, { on := 27, ground := Ground.guard }], guard := some (27, true) }) (v := undef) rfl (by kernel_rfl) (by kernel_rfl) (by kernel_rfl) (fun _ _ _ h => h) (Or.inr ⟨by rfl, rfl⟩) hHeld ?_
                    try simp only [Act.put, List.setIfInBounds_toArray, List.set_cons_zero, List.set_cons_succ]
                    refine wpAnyH_take (i := 33) (oi := { dst := some 104, op := Op.move (Operand.tmp 5), type := 37, pos := "outright.go:66", after := #[{ on := 27, ground := Ground.guard }], guard := some (27, true) }) (v := undef) rfl (by kernel_rfl) (by kernel_rfl) (by kernel_rfl) (fun _ _ _ h => h) (Or.inr ⟨by rfl, rfl⟩) hHeld ?_
                    try simp only [Act.put, List.setIfInBounds_toArray, List.set_cons_zero, List.set_cons_succ]
                    refine wpAnyH_take (i := 34) (oi := { dst := some 105, op := Op.move (Operand.tmp 10), type := 3, pos := "outright.go:66", after := #[{ on := 27, ground := Ground.guard }], guard := some (27, true) }) (v := undef) rfl (by kernel_rfl) (by kernel_rfl) (by kernel_rfl) (fun _ _ _ h => h) (Or.inr ⟨by rfl, rfl⟩) hHeld ?_
                    try simp only [Act.put, List.setIfInBounds_toArray, List.set_cons_zero, List.set_cons_succ]
                    refine wpAnyH_take (i := 35) (oi := { dst := some 106, op := Op.indexAddr 37 (Operand.tmp 104) (Operand.tmp 105), type := 0, pos := "outright.go:66", after := #[{ on := 33, ground := Ground.data }, { on := 34, ground := Ground.data }, { on := 27, ground := Ground.guard }], guard := some (27, true) }) (v := undef) rfl (by kernel_rfl) (by kernel_rfl) (by kernel_rfl) (fun _ _ _ h => h) (Or.inr ⟨by rfl, rfl⟩) hHeld ?_
                    try simp only [Act.put, List.setIfInBounds_toArray, List.set_cons_zero, List.set_cons_succ]
                    refine wpAnyH_take (i := 36) (oi := { dst := some 107, op := Op.fieldAddr 24 (Operand.tmp 106) 1, type := 0, pos := "outright.go:66", after := #[{ on := 35, ground := Ground.data }, { on := 27, ground := Ground.guard }], guard := some (27, true) }) (v := undef) rfl (by kernel_rfl) (by kernel_rfl) (by kernel_rfl) (fun _ _ _ h => h) (Or.inr ⟨by rfl, rfl⟩) hHeld ?_
                    try simp only [Act.put, List.setIfInBounds_toArray, List.set_cons_zero, List.set_cons_succ]
                    refine wpAnyH_take (i := 37) (oi := { dst := some 108, op := Op.load 3 (Operand.tmp 107), type := 3, pos := "outright.go:66", after := #[{ on := 36, ground := Ground.data }, { on := 27, ground := Ground.guard }], guard := some (27, true) }) (v := undef) rfl (by kernel_rfl) (by kernel_rfl) (by kernel_rfl) (fun _ _ _ h => h) (Or.inr ⟨by rfl, rfl⟩) hHeld ?_
                    try simp only [Act.put, List.setIfInBounds_toArray, List.set_cons_zero, List.set_cons_succ]
                    refine wpAnyH_take (i := 38) (oi := { dst := some 109, op := Op.binOp BinOp.sub 3 (Operand.tmp 108) (Operand.const (Value.int IntKind.i64 1)) 3, type := 3, pos := "outright.go:66", after := #[{ on := 37, ground := Ground.data }, { on := 27, ground := Ground.guard }], guard := some (27, true) }) (v := undef) rfl (by kernel_rfl) (by kernel_rfl) (by kernel_rfl) (fun _ _ _ h => h) (Or.inr ⟨by rfl, rfl⟩) hHeld ?_
                    try simp only [Act.put, List.setIfInBounds_toArray, List.set_cons_zero, List.set_cons_succ]
                    refine wpAnyH_take (i := 39) (oi := { dst := some 110, op := Op.call { callee := Callee.value (Operand.func 24), args := #[Operand.tmp 109], argTypes := #[3] }, type := 22, pos := "outright.go:66", after := #[{ on := 38, ground := Ground.data }, { on := 27, ground := Ground.chain }, { on := 27, ground := Ground.guard }], guard := some (27, true) }) (v := undef) rfl (by kernel_rfl) (by kernel_rfl) (by kernel_rfl) (fun _ _ _ h => h) (Or.inr ⟨by rfl, rfl⟩) hHeld ?_
                    try simp only [Act.put, List.setIfInBounds_toArray, List.set_cons_zero, List.set_cons_succ]
                    refine wpAnyH_take (i := 40) (oi := { dst := some 111, op := Op.binOp BinOp.and 22 (Operand.tmp 103) (Operand.tmp 110) 22, type := 22, pos := "outright.go:66", after := #[{ on := 32, ground := Ground.data }, { on := 39, ground := Ground.data }, { on := 27, ground := Ground.guard }], guard := some (27, true) }) (v := undef) rfl (by kernel_rfl) (by kernel_rfl) (by kernel_rfl) (fun _ _ _ h => h) (Or.inr ⟨by rfl, rfl⟩) hHeld ?_
                    try simp only [Act.put, List.setIfInBounds_toArray, List.set_cons_zero, List.set_cons_succ]
                    refine wpAnyH_take (i := 41) (oi := { dst := some 112, op := Op.move (Operand.tmp 5), type := 37, pos := "outright.go:66", after := #[{ on := 27, ground := Ground.guard }], guard := some (27, true) }) (v := undef) rfl (by kernel_rfl) (by kernel_rfl) (by kernel_rfl) (fun _ _ _ h => h) (Or.inr ⟨by rfl, rfl⟩) hHeld ?_
                    try simp only [Act.put, List.setIfInBounds_toArray, List.set_cons_zero, List.set_cons_succ]
                    refine wpAnyH_take (i := 42) (oi := { dst := some 113, op := Op.move (Operand.tmp 10), type := 3, pos := "outright.go:66", after := #[{ on := 27, ground := Ground.guard }], guard := some (27, true) }) (v := undef) rfl (by kernel_rfl) (by kernel_rfl) (by kernel_rfl) (fun _ _ _ h => h) (Or.inr ⟨by rfl, rfl⟩) hHeld ?_
                    try simp only [Act.put, List.setIfInBounds_toArray, List.set_cons_zero, List.set_cons_succ]
                    refine wpAnyH_take (i := 43) (oi := { dst := some 114, op := Op.indexAddr 37 (Operand.tmp 112) (Operand.tmp 113), type := 0, pos := "outright.go:66", after := #[{ on := 41, ground := Ground.data }, { on := 42, ground := Ground.data }, { on := 27, ground := Ground.guard }], guard := some (27, true) }) (v := undef) rfl (by kernel_rfl) (by kernel_rfl) (by kernel_rfl) (fun _ _ _ h => h) (Or.inr ⟨by rfl, rfl⟩) hHeld ?_
                    try simp only [Act.put, List.setIfInBounds_toArray, List.set_cons_zero, List.set_cons_succ]
                    refine wpAnyH_take (i := 44) (oi := { dst := some 115, op := Op.fieldAddr 24 (Operand.tmp 114) 0, type := 0, pos := "outright.go:66", after := #[{ on := 43, ground := Ground.data }, { on := 27, ground := Ground.guard }], guard := some (27, true) }) (v := undef) rfl (by kernel_rfl) (by kernel_rfl) (by kernel_rfl) (fun _ _ _ h => h) (Or.inr ⟨by rfl, rfl⟩) hHeld ?_
                    try simp only [Act.put, List.setIfInBounds_toArray, List.set_cons_zero, List.set_cons_succ]
                    refine wpAnyH_take (i := 45) (oi := { dst := some 116, op := Op.load 22 (Operand.tmp 115), type := 22, pos := "outright.go:66", after := #[{ on := 44, ground := Ground.data }, { on := 27, ground := Ground.guard }], guard := some (27, true) }) (v := undef) rfl (by kernel_rfl) (by kernel_rfl) (by kernel_rfl) (fun _ _ _ h => h) (Or.inr ⟨by rfl, rfl⟩) hHeld ?_
                    try simp only [Act.put, List.setIfInBounds_toArray, List.set_cons_zero, List.set_cons_succ]
                    refine wpAnyH_take (i := 46) (oi := { dst := some 117, op := Op.move (Operand.tmp 5), type := 37, pos := "outright.go:66", after := #[{ on := 27, ground := Ground.guard }], guard := some (27, true) }) (v := undef) rfl (by kernel_rfl) (by kernel_rfl) (by kernel_rfl) (fun _ _ _ h => h) (Or.inr ⟨by rfl, rfl⟩) hHeld ?_
                    try simp only [Act.put, List.setIfInBounds_toArray, List.set_cons_zero, List.set_cons_succ]
                    refine wpAnyH_take (i := 47) (oi := { dst := some 118, op := Op.move (Operand.tmp 10), type := 3, pos := "outright.go:66", after := #[{ on := 27, ground := Ground.guard }], guard := some (27, true) }) (v := undef) rfl (by kernel_rfl) (by kernel_rfl) (by kernel_rfl) (fun _ _ _ h => h) (Or.inr ⟨by rfl, rfl⟩) hHeld ?_
                    try simp only [Act.put, List.setIfInBounds_toArray, List.set_cons_zero, List.set_cons_succ]
                    refine wpAnyH_take (i := 48) (oi := { dst := some 119, op := Op.indexAddr 37 (Operand.tmp 117) (Operand.tmp 118), type := 0, pos := "outright.go:66", after := #[{ on := 46, ground := Ground.data }, { on := 47, ground := Ground.data }, { on := 27, ground := Ground.guard }], guard := some (27, true) }) (v := undef) rfl (by kernel_rfl) (by kernel_rfl) (by kernel_rfl) (fun _ _ _ h => h) (Or.inr ⟨by rfl, rfl⟩) hHeld ?_
                    try simp only [Act.put, List.setIfInBounds_toArray, List.set_cons_zero, List.set_cons_succ]
                    refine wpAnyH_take (i := 49) (oi := { dst := some 120, op := Op.fieldAddr 24 (Operand.tmp 119) 1, type := 0, pos := "outright.go:66", after := #[{ on := 48, ground := Ground.data }, { on := 27, ground := Ground.guard }], guard := some (27, true) }) (v := undef) rfl (by kernel_rfl) (by kernel_rfl) (by kernel_rfl) (fun _ _ _ h => h) (Or.inr ⟨by rfl, rfl⟩) hHeld ?_
                    try simp only [Act.put, List.setIfInBounds_toArray, List.set_cons_zero, List.set_cons_succ]
                    refine wpAnyH_take (i := 50) (oi := { dst := some 121, op := Op.load 3 (Operand.tmp 120), type := 3, pos := "outright.go:66", after := #[{ on := 49, ground := Ground.data }, { on := 27, ground := Ground.guard }], guard := some (27, true) }) (v := undef) rfl (by kernel_rfl) (by kernel_rfl) (by kernel_rfl) (fun _ _ _ h => h) (Or.inr ⟨by rfl, rfl⟩) hHeld ?_
                    try simp only [Act.put, List.setIfInBounds_toArray, List.set_cons_zero, List.set_cons_succ]
                    refine wpAnyH_take (i := 51) (oi := { dst := some 122, op := Op.binOp BinOp.sub 3 (Operand.tmp 121) (Operand.const (Value.int IntKind.i64 1)) 3, type := 3, pos := "outright.go:66", after := #[{ on := 50, ground := Ground.data }, { on := 27, ground := Ground.guard }], guard := some (27, true) }) (v := undef) rfl (by kernel_rfl) (by kernel_rfl) (by kernel_rfl) (fun _ _ _ h => h) (Or.inr ⟨by rfl, rfl⟩) hHeld ?_
                    try simp only [Act.put, List.setIfInBounds_toArray, List.set_cons_zero, List.set_cons_succ]
                    refine wpAnyH_take (i := 52) (oi := { dst := some 123, op := Op.call { callee := Callee.value (Operand.func 24), args := #[Operand.tmp 122], argTypes := #[3] }, type := 22, pos := "outright.go:66", after := #[{ on := 51, ground := Ground.data }, { on := 39, ground := Ground.chain }, { on := 27, ground := Ground.guard }], guard := some (27, true) }) (v := undef) rfl (by kernel_rfl) (by kernel_rfl) (by kernel_rfl) (fun _ _ _ h => h) (Or.inr ⟨by rfl, rfl⟩) hHeld ?_
                    try simp only [Act.put, List.setIfInBounds_toArray, List.set_cons_zero, List.set_cons_succ]
                    refine wpAnyH_take (i := 53) (oi := { dst := some 124, op := Op.binOp BinOp.and 22 (Operand.tmp 116) (Operand.tmp 123) 22, type := 22, pos := "outright.go:66", after := #[{ on := 45, ground := Ground.data }, { on := 52, ground := Ground.data }, { on := 27, ground := Ground.guard }], guard := some (27, true) }) (v := undef) rfl (by kernel_rfl) (by kernel_rfl) (by kernel_rfl) (fun _ _ _ h => h) (Or.inr ⟨by rfl, rfl⟩) hHeld ?_
                    try simp only [Act.put, List.setIfInBounds_toArray, List.set_cons_zero, List.set_cons_succ]
                    refine wpAnyH_take (i := 54) (oi := { dst := some 125, op := Op.binOp BinOp.eql 22 (Operand.tmp 111) (Operand.tmp 124) 22, type := 4, pos := "outright.go:66", after := #[{ on := 40, ground := Ground.data }, { on := 53, ground := Ground.data }, { on := 27, ground := Ground.guard }], guard := some (27, true) }) (v := undef) rfl (by kernel_rfl) (by kernel_rfl) (by kernel_rfl) (fun _ _ _ h => h) (Or.inr ⟨by rfl, rfl⟩) hHeld ?_
                    try simp only [Act.put, List.setIfInBounds_toArray, List.set_cons_zero, List.set_cons_succ]
                    refine wpAnyH_take (i := 55) (oi := { dst := some 126, op := Op.pick (Operand.tmp 98) (Operand.tmp 125) (Operand.const (Value.bool false)), type := 4, pos := "outright.go:66", after := #[{ on := 27, ground := Ground.data }, { on := 54, ground := Ground.data }, { on := 7, ground := Ground.guard }], guard := some (7, false) }) (v := ?_) rfl (by kernel_rfl) (by kernel_rfl) (by kernel_rfl) (fun _ _ _ h => h) (Or.inl ⟨by rfl, ?_⟩) hHeld ?_
                    rotate_left
                    · intro w hSw; (try dsimp only at hSw); go_simp; first | done | with_reducible rfl
                    try simp only [Act.put, List.setIfInBounds_toArray, List.set_cons_zero, List.set_cons_succ]
                    refine wpAnyH_take (i := 56) (oi := { dst := some 127, op := Op.pick (Operand.tmp 78) (Operand.const (Value.bool true)) (Operand.tmp 126), type := 4, pos := "outright.go:66", after := #[{ on := 7, ground := Ground.data }, { on := 55, ground := Ground.data }], guard := none }) (v := ?_) rfl (by kernel_rfl) (by kernel_rfl) (by kernel_rfl) (fun _ _ _ h => h) (Or.inl ⟨by rfl, ?_⟩) hHeld ?_
                    rotate_left
                    · intro w hSw; (try dsimp only at hSw); go_simp; first | done | with_reducible rfl
                    try simp only [Act.put, List.setIfInBounds_toArray, List.set_cons_zero, List.set_cons_succ]
                    refine wpAnyH_done (by kernel_rfl) ?_ _
                    clear hHeld
                    go_wp2_with fail
                    go_roundw
                    case rel => exact ⟨j + 1, by omega, by go_num, HBn.out.trans (((Below.refl w9.heap.size w9).drew).mono HBn.out.size)⟩
                    case measure => simp [intOf]; omega
                · obtain rfl : j = k := by omega
                  have HBn := hide hB
                  clear hB
                  go_wp2_with fail
                  go_roundw
                  case rel => exact ⟨j + 1, true, by omega, by go_num, rfl, by rw [HAN.out]; try simp, HBn.out⟩
                  case measure => simp [intOf]; omega
            | false =>
              have c0 := (HBr.out.cell (p := ⟨bm, om + k * 2, none⟩) LD.out).trans D0.out
              have c1 := (HBr.out.cell (p := ⟨bm, om + k * 2 + 1, none⟩) LD.out).trans D1.out
              go_wp2_with fail
              refine (HIQ.out _).mono ?_
              rintro e w7 ⟨rfl, hB⟩
              have HB7 := hide (HBr.out.trans (hB.mono HBr.out.size))
              clear hB c0 c1 HBr
              have HBr := hide HB7.out
              clear HB7
              go_wp2_with fail
              go_loopw [11] (fun s11 W => ∃ j : Nat, j ≤ k ∧ s11 = .int .i64 j ∧ Below wb.heap.size wb W) (fun s11 _ => k - (intOf s11).toNat)
              case atStart => exact ⟨0, Nat.zero_le _, rfl, HBr.out⟩
              case round =>
                obtain ⟨j, hj, rfl, hB⟩ := hrel
                by_cases hjk : j < k
                · have hjk' : (j : Int) < (k : Int) := by omega
                  have hjn : (j : Int) < (n4 : Int) := by omega
                  obtain ⟨bm2, om2, hao2, _, hd0, hd1⟩ := HQ.out.at (k := j) (by omega)
                  injection hao2 with hao2
                  injection hao2 with q1 q2
                  subst q1 q2
                  have hjq : j < q.length := by rw [HN4.out]; omega
                  have hfj := HF1.out _ (mem_getD q j hjq)
                  have hpa := HPA.out j hjk
                  have hps := HPS.out j hjk
                  have HLJ := hide (fun W => last_any (q.getD j default) hfj.2 W)
                  rw [(mayB_iff _).2 hfj.1] at HLJ
                  simp only [if_true] at HLJ
                  generalize q.getD j default = e at *
                  obtain ⟨ja, jb⟩ := e
                  unfold Net.val at HLJ
                  unfold Below2 at hpa
                  dsimp only at HLJ hd0 hd1 hpa
                  have hpz := sz_pos jb
                  have hla : ja + (sz jb - 1) < ia := by omega
                  have hib := HIO.out.1.lo
                  have hib2 := HIO.out.1.hi
                  have hia := HIO.out.2
                  dsimp only at hib hib2 hia
                  have hjlt : ja < 4294967296 := hfj.2
                  generalize ja + (sz jb - 1) = lj at *
                  have E0 := hide hd0
                  have E1 := hide hd1
                  have HBn0 := hide hB
                  have c0 := (hB.cell (p := ⟨bm, om + j * 2, none⟩) LD.out).trans hd0
                  have c1 := (hB.cell (p := ⟨bm, om + j * 2 + 1, none⟩) LD.out).trans hd1
                  clear hd0 hd1 hB hfj hjq hpa hpz
                  go_wp2_with fail
                  refine (HLJ.out _).mono ?_
                  rintro e w9 ⟨rfl, hB⟩
                  have HBn := hide (HBn0.out.trans (hB.mono HBn0.out.size))
                  clear hB c0 c1 HBn0
                  have hgq : ¬ (ia : Int) ≤ (lj : Int) := by omega
                  have HGQ := hide (show decide ((ia : Int) ≤ (lj : Int)) = false by simpa using hgq)
                  have HGN := hide (show decide (ia ≤ lj) = false by simp; omega)
                  clear hgq
                  by_cases he : jb = ib
                  · subst he
                    by_cases hp : 0 < jb
                    · have hne : flo ja (jb - 1) ≠ flo ia (jb - 1) := fun h => hps ⟨rfl, hp, h⟩
                      have HA1 := hide (and_mask ja hjlt (jb - 1))
                      have HA2 := hide (and_mask ia hia (jb - 1))
                      have HMK := hide (fun W => mask_any (jb - 1) W)
                      generalize flo ja (jb - 1) = fj at *
                      generalize flo ia (jb - 1) = fi at *
                      generalize 4294967296 - sz (jb - 1) = mk at *
                      have HMS : Hid (∀ W : World, Calls Tryd.prog 24 #[.int .i64 (jb - 1)] W (fun e w' => e = .returned (.int .u32 (mk : Nat)) ∧ Below W.heap.size W w')) := hide (fun W => (HMK.out W).mono (by rintro e w' ⟨rfl, rfl⟩; exact ⟨rfl, Below.refl _ _⟩))
                      have hne' : ¬ (fj : Int) = (fi : Int) := by omega
                      have hsub : IntKind.i64.wrap (jb - 1) = jb - 1 := IntWalk.i64_in _ (by omega)
                      clear hne hps hla
                      go_wp2_with fail
                      refine wp_region_held_drew (S := fun w' => Below w9.heap.size w9 w') (by kernel_rfl) ((Below.refl _ _).drew) (fun hHeld => ?_)
                      refine wpAnyH_take (i := 0) (oi := { dst := some 71, op := Op.move (Operand.tmp 12), type := 22, pos := "outright.go:66", after := #[], guard := none }) (v := ?_) rfl (by kernel_rfl) (by kernel_rfl) (by kernel_rfl) (fun _ _ _ h => h) (Or.inl ⟨by rfl, ?_⟩) hHeld ?_
                      rotate_left
                      · intro w hSw; (try dsimp only at hSw); go_simp; first | done | with_reducible rfl
                      try simp only [Act.put, List.setIfInBounds_toArray, List.set_cons_zero, List.set_cons_succ]
                      refine wpAnyH_take (i := 1) (oi := { dst := some 72, op := Op.move (Operand.tmp 5), type := 37, pos := "outright.go:66", after := #[], guard := none }) (v := ?_) rfl (by kernel_rfl) (by kernel_rfl) (by kernel_rfl) (fun _ _ _ h => h) (Or.inl ⟨by rfl, ?_⟩) hHeld ?_
                      rotate_left
                      · intro w hSw; (try dsimp only at hSw); go_simp; first | done | with_reducible rfl
                      try simp only [Act.put, List.setIfInBounds_toArray, List.set_cons_zero, List.set_cons_succ]
                      refine wpAnyH_take (i := 2) (oi := { dst := some 73, op := Op.move (Operand.tmp 10), type := 3, pos := "outright.go:66", after := #[], guard := none }) (v := ?_) rfl (by kernel_rfl) (by kernel_rfl) (by kernel_rfl) (fun _ _ _ h => h) (Or.inl ⟨by rfl, ?_⟩) hHeld ?_
                      rotate_left
                      · intro w hSw; (try dsimp only at hSw); go_simp; first | done | with_reducible rfl
                      try simp only [Act.put, List.setIfInBounds_toArray, List.set_cons_zero, List.set_cons_succ]
                      refine wpAnyH_take (i := 3) (oi := { dst := some 74, op := Op.indexAddr 37 (Operand.tmp 72) (Operand.tmp 73), type := 0, pos := "outright.go:66", after := #[{ on := 1, ground := Ground.data }, { on := 2, ground := Ground.data }], guard := none }) (v := ?_) rfl (by kernel_rfl) (by kernel_rfl) (by kernel_rfl) (fun _ _ _ h => h) (Or.inl ⟨by rfl, ?_⟩) hHeld ?_
                      rotate_left
                      · intro w hSw; (try dsimp only at hSw); have h := hlt'; go_simp; first | done | with_reducible rfl
                      try simp only [Act.put, List.setIfInBounds_toArray, List.set_cons_zero, List.set_cons_succ]
                      refine wpAnyH_take (i := 4) (oi := { dst := some 75, op := Op.fieldAddr 24 (Operand.tmp 74) 0, type := 0, pos := "outright.go:66", after := #[{ on := 3, ground := Ground.data }], guard := none }) (v := ?_) rfl (by kernel_rfl) (by kernel_rfl) (by kernel_rfl) (fun _ _ _ h => h) (Or.inl ⟨by rfl, ?_⟩) hHeld ?_
                      rotate_left
                      · intro w hSw; (try dsimp only at hSw); go_simp; first | done | with_reducible rfl
                      try simp only [Act.put, List.setIfInBounds_toArray, List.set_cons_zero, List.set_cons_succ]
                      refine wpAnyH_take (i := 5) (oi := { dst := some 76, op := Op.load 22 (Operand.tmp 75), type := 22, pos := "outright.go:66", after := #[{ on := 4, ground := Ground.data }], guard := none }) (v := ?_) rfl (by kernel_rfl) (by kernel_rfl) (by kernel_rfl) (fun _ _ _ h => h) (Or.inl ⟨by rfl, ?_⟩) hHeld ?_
                      rotate_left
                      · intro w hSw; (try dsimp only at hSw); have e0 := (hSw.cell (p := ⟨bm, om + k * 2, none⟩) (Nat.lt_of_lt_of_le LD.out HBn.out.size)).trans ((HBn.out.cell (p := ⟨bm, om + k * 2, none⟩) LD.out).trans D0.out); have e1 := (hSw.cell (p := ⟨bm, om + k * 2 + 1, none⟩) (Nat.lt_of_lt_of_le LD.out HBn.out.size)).trans ((HBn.out.cell (p := ⟨bm, om + k * 2 + 1, none⟩) LD.out).trans D1.out); have e2 := (hSw.cell (p := ⟨bm, om + j * 2, none⟩) (Nat.lt_of_lt_of_le LD.out HBn.out.size)).trans ((HBn.out.cell (p := ⟨bm, om + j * 2, none⟩) LD.out).trans E0.out); have e3 := (hSw.cell (p := ⟨bm, om + j * 2 + 1, none⟩) (Nat.lt_of_lt_of_le LD.out HBn.out.size)).trans ((HBn.out.cell (p := ⟨bm, om + j * 2 + 1, none⟩) LD.out).trans E1.out); go_simp; first | done | with_reducible rfl
                      try simp only [Act.put, List.setIfInBounds_toArray, List.set_cons_zero, List.set_cons_succ]
                      refine wpAnyH_take (i := 6) (oi := { dst := some 77, op := Op.binOp BinOp.geq 22 (Operand.tmp 71) (Operand.tmp 76) 22, type := 4, pos := "outright.go:66", after := #[{ on := 0, ground := Ground.data }, { on := 5, ground := Ground.data }], guard := none }) (v := ?_) rfl (by kernel_rfl) (by kernel_rfl) (by kernel_rfl) (fun _ _ _ h => h) (Or.inl ⟨by rfl, ?_⟩) hHeld ?_
                      rotate_left
                      · intro w hSw; (try dsimp only at hSw); have h := HGQ.out; have h2 := HGN.out; go_simp; first | done | with_reducible rfl
                      try simp only [Act.put, List.setIfInBounds_toArray, List.set_cons_zero, List.set_cons_succ]
                      refine wpAnyH_take (i := 7) (oi := { dst := some 78, op := Op.move (Operand.tmp 77), type := 4, pos := "outright.go:66", after := #[{ on := 6, ground := Ground.data }], guard := none }) (v := ?_) rfl (by kernel_rfl) (by kernel_rfl) (by kernel_rfl) (fun _ _ _ h => h) (Or.inl ⟨by rfl, ?_⟩) hHeld ?_
                      rotate_left
                      · intro w hSw; (try dsimp only at hSw); go_simp; first | done | with_reducible rfl
                      try simp only [Act.put, List.setIfInBounds_toArray, List.set_cons_zero, List.set_cons_succ]
                      refine wpAnyH_take (i := 8) (oi := { dst := some 79, op := Op.move (Operand.tmp 5), type := 37, pos := "outright.go:66", after := #[{ on := 7, ground := Ground.guard }], guard := some (7, false) }) (v := ?_) rfl (by kernel_rfl) (by kernel_rfl) (by kernel_rfl) (fun _ _ _ h => h) (Or.inl ⟨by rfl, ?_⟩) hHeld ?_
                      rotate_left
                      · intro w hSw; (try dsimp only at hSw); go_simp; first | done | with_reducible rfl
                      try simp only [Act.put, List.setIfInBounds_toArray, List.set_cons_zero, List.set_cons_succ]
                      refine wpAnyH_take (i := 9) (oi := { dst := some 80, op := Op.move (Operand.tmp 11), type := 3, pos := "outright.go:66", after := #[{ on := 7, ground := Ground.guard }], guard := some (7, false) }) (v := ?_) rfl (by kernel_rfl) (by kernel_rfl) (by kernel_rfl) (fun _ _ _ h => h) (Or.inl ⟨by rfl, ?_⟩) hHeld ?_
                      rotate_left
                      · intro w hSw; (try dsimp only at hSw); go_simp; first | done | with_reducible rfl
                      try simp only [Act.put, List.setIfInBounds_toArray, List.set_cons_zero, List.set_cons_succ]
                      refine wpAnyH_take (i := 10) (oi := { dst := some 81, op := Op.indexAddr 37 (Operand.tmp 79) (Operand.tmp 80), type := 0, pos := "outright.go:66", after := #[{ on := 8, ground := Ground.data }, { on := 9, ground := Ground.data }, { on := 7, ground := Ground.guard }], guard := some (7, false) }) (v := ?_) rfl (by kernel_rfl) (by kernel_rfl) (by kernel_rfl) (fun _ _ _ h => h) (Or.inl ⟨by rfl, ?_⟩) hHeld ?_
                      rotate_left
                      · intro w hSw; (try dsimp only at hSw); have h := hjn; go_simp; first | done | with_reducible rfl
                      try simp only [Act.put, List.setIfInBounds_toArray, List.set_cons_zero, List.set_cons_succ]
                      refine wpAnyH_take (i := 11) (oi := { dst := some 82, op := Op.fieldAddr 24 (Operand.tmp 81) 1, type := 0, pos := "outright.go:66", after := #[{ on := 10, ground := Ground.data }, { on := 7, ground := Ground.guard }], guard := some (7, false) }) (v := ?_) rfl (by kernel_rfl) (by kernel_rfl) (by kernel_rfl) (fun _ _ _ h => h) (Or.inl ⟨by rfl, ?_⟩) hHeld ?_
                      rotate_left
                      · intro w hSw; (try dsimp only at hSw); go_simp; first | done | with_reducible rfl
                      try simp only [Act.put, List.setIfInBounds_toArray, List.set_cons_zero, List.set_cons_succ]
                      refine wpAnyH_take (i := 12) (oi := { dst := some 83, op := Op.load 3 (Operand.tmp 82), type := 3, pos := "outright.go:66", after := #[{ on := 11, ground := Ground.data }, { on := 7, ground := Ground.guard }], guard := some (7, false) }) (v := ?_) rfl (by kernel_rfl) (by kernel_rfl) (by kernel_rfl) (fun _ _ _ h => h) (Or.inl ⟨by rfl, ?_⟩) hHeld ?_
                      rotate_left
                      · intro w hSw; (try dsimp only at hSw); have e0 := (hSw.cell (p := ⟨bm, om + k * 2, none⟩) (Nat.lt_of_lt_of_le LD.out HBn.out.size)).trans ((HBn.out.cell (p := ⟨bm, om + k * 2, none⟩) LD.out).trans D0.out); have e1 := (hSw.cell (p := ⟨bm, om + k * 2 + 1, none⟩) (Nat.lt_of_lt_of_le LD.out HBn.out.size)).trans ((HBn.out.cell (p := ⟨bm, om + k * 2 + 1, none⟩) LD.out).trans D1.out); have e2 := (hSw.cell (p := ⟨bm, om + j * 2, none⟩) (Nat.lt_of_lt_of_le LD.out HBn.out.size)).trans ((HBn.out.cell (p := ⟨bm, om + j * 2, none⟩) LD.out).trans E0.out); have e3 := (hSw.cell (p := ⟨bm, om + j * 2 + 1, none⟩) (Nat.lt_of_lt_of_le LD.out HBn.out.size)).trans ((HBn.out.cell (p := ⟨bm, om + j * 2 + 1, none⟩) LD.out).trans E1.out); go_simp; first | done | with_reducible rfl
                      try simp only [Act.put, List.setIfInBounds_toArray, List.set_cons_zero, List.set_cons_succ]
                      refine wpAnyH_take (i := 13) (oi := { dst := some 84, op := Op.move (Operand.tmp 5), type := 37, pos := "outright.go:66", after := #[{ on := 7, ground := Ground.guard }], guard := some (7, false) }) (v := ?_) rfl (by kernel_rfl) (by kernel_rfl) (by kernel_rfl) (fun _ _ _ h => h) (Or.inl ⟨by rfl, ?_⟩) hHeld ?_
                      rotate_left
                      · intro w hSw; (try dsimp only at hSw); go_simp; first | done | with_reducible rfl
                      try simp only [Act.put, List.setIfInBounds_toArray, List.set_cons_zero, List.set_cons_succ]
                      refine wpAnyH_take (i := 14) (oi := { dst := some 85, op := Op.move (Operand.tmp 10), type := 3, pos := "outright.go:66", after := #[{ on := 7, ground := Ground.guard }], guard := some (7, false) }) (v := ?_) rfl (by kernel_rfl) (by kernel_rfl) (by kernel_rfl) (fun _ _ _ h => h) (Or.inl ⟨by rfl, ?_⟩) hHeld ?_
                      rotate_left
                      · intro w hSw; (try dsimp only at hSw); go_simp; first | done | with_reducible rfl
                      try simp only [Act.put, List.setIfInBounds_toArray, List.set_cons_zero, List.set_cons_succ]
                      refine wpAnyH_take (i := 15) (oi := { dst := some 86, op := Op.indexAddr 37 (Operand.tmp 84) (Operand.tmp 85), type := 0, pos := "outright.go:66", after := #[{ on := 13, ground := Ground.data }, { on := 14, ground := Ground.data }, { on := 7, ground := Ground.guard }], guard := some (7, false) }) (v := ?_) rfl (by kernel_rfl) (by kernel_rfl) (by kernel_rfl) (fun _ _ _ h => h) (Or.inl ⟨by rfl, ?_⟩) hHeld ?_
                      rotate_left
                      · intro w hSw; (try dsimp only at hSw); have h := hlt'; go_simp; first | done | with_reducible rfl
                      try simp only [Act.put, List.setIfInBounds_toArray, List.set_cons_zero, List.set_cons_succ]
                      refine wpAnyH_take (i := 16) (oi := { dst := some 87, op := Op.fieldAddr 24 (Operand.tmp 86) 1, type := 0, pos := "outright.go:66", after := #[{ on := 15, ground := Ground.data }, { on := 7, ground := Ground.guard }], guard := some (7, false) }) (v := ?_) rfl (by kernel_rfl) (by kernel_rfl) (by kernel_rfl) (fun _ _ _ h => h) (Or.inl ⟨by rfl, ?_⟩) hHeld ?_
                      rotate_left
                      · intro w hSw; (try dsimp only at hSw); go_simp; first | done | with_reducible rfl
                      try simp only [Act.put, List.setIfInBounds_toArray, List.set_cons_zero, List.set_cons_succ]
                      refine wpAnyH_take (i := 17) (oi := { dst := some 88, op := Op.load 3 (Operand.tmp 87), type := 3, pos := "outright.go:66", after := #[{ on := 16, ground := Ground.data }, { on := 7, ground := Ground.guard }], guard := some (7, false) }) (v := ?_) rfl (by kernel_rfl) (by kernel_rfl) (by kernel_rfl) (fun _ _ _ h => h) (Or.inl ⟨by rfl, ?_⟩) hHeld ?_
                      rotate_left
                      · intro w hSw; (try dsimp only at hSw); have e0 := (hSw.cell (p := ⟨bm, om + k * 2, none⟩) (Nat.lt_of_lt_of_le LD.out HBn.out.size)).trans ((HBn.out.cell (p := ⟨bm, om + k * 2, none⟩) LD.out).trans D0.out); have e1 := (hSw.cell (p := ⟨bm, om + k * 2 + 1, none⟩) (Nat.lt_of_lt_of_le LD.out HBn.out.size)).trans ((HBn.out.cell (p := ⟨bm, om + k * 2 + 1, none⟩) LD.out).trans D1.out); have e2 := (hSw.cell (p := ⟨bm, om + j * 2, none⟩) (Nat.lt_of_lt_of_le LD.out HBn.out.size)).trans ((HBn.out.cell (p := ⟨bm, om + j * 2, none⟩) LD.out).trans E0.out); have e3 := (hSw.cell (p := ⟨bm, om + j * 2 + 1, none⟩) (Nat.lt_of_lt_of_le LD.out HBn.out.size)).trans ((HBn.out.cell (p := ⟨bm, om + j * 2 + 1, none⟩) LD.out).trans E1.out); go_simp; first | done | with_reducible rfl
                      try simp only [Act.put, List.setIfInBounds_toArray, List.set_cons_zero, List.set_cons_succ]
                      refine wpAnyH_take (i := 18) (oi := { dst := some 89, op := Op.binOp BinOp.eql 3 (Operand.tmp 83) (Operand.tmp 88) 3, type := 4, pos := "outright.go:66", after := #[{ on := 12, ground := Ground.data }, { on := 17, ground := Ground.data }, { on := 7, ground := Ground.guard }], guard := some (7, false) }) (v := ?_) rfl (by kernel_rfl) (by kernel_rfl) (by kernel_rfl) (fun _ _ _ h => h) (Or.inl ⟨by rfl, ?_⟩) hHeld ?_
                      rotate_left
                      · intro w hSw; (try dsimp only at hSw); go_simp; first | done | with_reducible rfl
                      try simp only [Act.put, List.setIfInBounds_toArray, List.set_cons_zero, List.set_cons_succ]
                      refine wpAnyH_take (i := 19) (oi := { dst := some 90, op := Op.move (Operand.tmp 89), type := 4, pos := "outright.go:66", after := #[{ on := 18, ground := Ground.data }, { on := 7, ground := Ground.chain }, { on := 7, ground := Ground.guard }], guard := some (7, false) }) (v := ?_) rfl (by kernel_rfl) (by kernel_rfl) (by kernel_rfl) (fun _ _ _ h => h) (Or.inl ⟨by rfl, ?_⟩) hHeld ?_
                      rotate_left
                      · intro w hSw; (try dsimp only at hSw); go_simp; first | done | with_reducible rfl
                      try simp only [Act.put, List.setIfInBounds_toArray, List.set_cons_zero, List.set_cons_succ]
                      refine wpAnyH_take (i := 20) (oi := { dst := some 91, op := Op.move (Operand.tmp 5), type := 37, pos := "outright.go:66", after := #[{ on := 19, ground := Ground.guard }], guard := some (19, true) }) (v := ?_) rfl (by kernel_rfl) (by kernel_rfl) (by kernel_rfl) (fun _ _ _ h => h) (Or.inl ⟨by rfl, ?_⟩) hHeld ?_
                      rotate_left
                      · intro w hSw; (try dsimp only at hSw); go_simp; first | done | with_reducible rfl
                      try simp only [Act.put, List.setIfInBounds_toArray, List.set_cons_zero, List.set_cons_succ]
                      refine wpAnyH_take (i := 21) (oi := { dst := some 92, op := Op.move (Operand.tmp 10), type := 3, pos := "outright.go:66", after := #[{ on := 19, ground := Ground.guard }], guard := some (19, true) }) (v := ?_) rfl (by kernel_rfl) (by kernel_rfl) (by kernel_rfl) (fun _ _ _ h => h) (Or.inl ⟨by rfl, ?_⟩) hHeld ?_
                      rotate_left
                      · intro w hSw; (try dsimp only at hSw); go_simp; first | done | with_reducible rfl
                      try simp only [Act.put, List.setIfInBounds_toArray, List.set_cons_zero, List.set_cons_succ]
                      refine wpAnyH_take (i := 22) (oi := { dst := some 93, op := Op.indexAddr 37 (Operand.tmp 91) (Operand.tmp 92), type := 0, pos := "outright.go:66", after := #[{ on := 20, ground := Ground.data }, { on := 21, ground := Ground.data }, { on := 19, ground := Ground.guard }], guard := some (19, true) }) (v := ?_) rfl (by kernel_rfl) (by kernel_rfl) (by kernel_rfl) (fun _ _ _ h => h) (Or.inl ⟨by rfl, ?_⟩) hHeld ?_
                      rotate_left
                      · intro w hSw; (try dsimp only at hSw); have h := hlt'; go_simp; first | done | with_reducible rfl
                      try simp only [Act.put, List.setIfInBounds_toArray, List.set_cons_zero, List.set_cons_succ]
                      refine wpAnyH_take (i := 23) (oi := { dst := some 94, op := Op.fieldAddr 24 (Operand.tmp 93) 1, type := 0, pos := "outright.go:66", after := #[{ on := 22, ground := Ground.data }, { on := 19, ground := Ground.guard }], guard := some (19, true) }) (v := ?_) rfl (by kernel_rfl) (by kernel_rfl) (by kernel_rfl) (fun _ _ _ h => h) (Or.inl ⟨by rfl, ?_⟩) hHeld ?_
                      rotate_left
                      · intro w hSw; (try dsimp only at hSw); go_simp; first | done | with_reducible rfl
                      try simp only [Act.put, List.setIfInBounds_toArray, List.set_cons_zero, List.set_cons_succ]
                      refine wpAnyH_take (i := 24) (oi := { dst := some 95, op := Op.load 3 (Operand.tmp 94), type := 3, pos := "outright.go:66", after := #[{ on := 23, ground := Ground.data }, { on := 19, ground := Ground.guard }], guard := some (19, true) }) (v := ?_) rfl (by kernel_rfl) (by kernel_rfl) (by kernel_rfl) (fun _ _ _ h => h) (Or.inl ⟨by rfl, ?_⟩) hHeld ?_
                      rotate_left
                      · intro w hSw; (try dsimp only at hSw); have e0 := (hSw.cell (p := ⟨bm, om + k * 2, none⟩) (Nat.lt_of_lt_of_le LD.out HBn.out.size)).trans ((HBn.out.cell (p := ⟨bm, om + k * 2, none⟩) LD.out).trans D0.out); have e1 := (hSw.cell (p := ⟨bm, om + k * 2 + 1, none⟩) (Nat.lt_of_lt_of_le LD.out HBn.out.size)).trans ((HBn.out.cell (p := ⟨bm, om + k * 2 + 1, none⟩) LD.out).trans D1.out); have e2 := (hSw.cell (p := ⟨bm, om + j * 2, none⟩) (Nat.lt_of_lt_of_le LD.out HBn.out.size)).trans ((HBn.out.cell (p := ⟨bm, om + j * 2, none⟩) LD.out).trans E0.out); have e3 := (hSw.cell (p := ⟨bm, om + j * 2 + 1, none⟩) (Nat.lt_of_lt_of_le LD.out HBn.out.size)).trans ((HBn.out.cell (p := ⟨bm, om + j * 2 + 1, none⟩) LD.out).trans E1.out); go_simp; first | done | with_reducible rfl
                      try simp only [Act.put, List.setIfInBounds_toArray, List.set_cons_zero, List.set_cons_succ]
                      refine wpAnyH_take (i := 25) (oi := { dst := some 96, op := Op.binOp BinOp.gtr 3 (Operand.tmp 95) (Operand.const (Value.int IntKind.i64 0)) 3, type := 4, pos := "outright.go:66", after := #[{ on := 24, ground := Ground.data }, { on := 19, ground := Ground.guard }], guard := some (19, true) }) (v := ?_) rfl (by kernel_rfl) (by kernel_rfl) (by kernel_rfl) (fun _ _ _ h => h) (Or.inl ⟨by rfl, ?_⟩) hHeld ?_
                      rotate_left
                      · intro w hSw; (try dsimp only at hSw); have h : decide (0 < jb) = true := (by simpa using hp); go_simp; first | done | with_reducible rfl
                      try simp only [Act.put, List.setIfInBounds_toArray, List.set_cons_zero, List.set_cons_succ]
                      refine wpAnyH_take (i := 26) (oi := { dst := some 97, op := Op.pick (Operand.tmp 90) (Operand.tmp 96) (Operand.const (Value.bool false)), type := 4, pos := "outright.go:66", after := #[{ on := 19, ground := Ground.data }, { on := 25, ground := Ground.data }, { on := 7, ground := Ground.guard }], guard := some (7, false) }) (v := ?_) rfl (by kernel_rfl) (by kernel_rfl) (by kernel_rfl) (fun _ _ _ h => h) (Or.inl ⟨by rfl, ?_⟩) hHeld ?_
                      rotate_left
                      · intro w hSw; (try dsimp only at hSw); go_simp; first | done | with_reducible rfl
                      try simp only [Act.put, List.setIfInBounds_toArray, List.set_cons_zero, List.set_cons_succ]
                      refine wpAnyH_take (i := 27) (oi := { dst := some 98, op := Op.move (Operand.tmp 97), type := 4, pos := "outright.go:66", after := #[{ on := 26, ground := Ground.data }, { on := 19, ground := Ground.chain }, { on := 7, ground := Ground.guard }], guard := some (7, false) }) (v := ?_) rfl (by kernel_rfl) (by kernel_rfl) (by kernel_rfl) (fun _ _ _ h => h) (Or.inl ⟨by rfl, ?_⟩) hHeld ?_
                      rotate_left
                      · intro w hSw; (try dsimp only at hSw); go_simp; first | done | with_reducible rfl
                      try simp only [Act.put, List.setIfInBounds_toArray, List.set_cons_zero, List.set_cons_succ]
                      refine wpAnyH_take (i := 28) (oi := { dst := some 99, op := Op.move (Operand.tmp 5), type := 37, pos := "outright.go:66", after := #[{ on := 27, ground := Ground.guard }], guard := some (27, true) }) (v := ?_) rfl (by kernel_rfl) (by kernel_rfl) (by kernel_rfl) (fun _ _ _ h => h) (Or.inl ⟨by rfl, ?_⟩) hHeld ?_
                      rotate_left
                      · intro w hSw; (try dsimp only at hSw); go_simp; first | done | with_reducible rfl
                      try simp only [Act.put, List.setIfInBounds_toArray, List.set_cons_zero, List.set_cons_succ]
                      refine wpAnyH_take (i := 29) (oi := { dst := some 100, op := Op.move (Operand.tmp 11), type := 3, pos := "outright.go:66", after := #[{ on := 27, ground := Ground.guard }], guard := some (27, true) }) (v := ?_) rfl (by kernel_rfl) (by kernel_rfl) (by kernel_rfl) (fun _ _ _ h => h) (Or.inl ⟨by rfl, ?_⟩) hHeld ?_
                      rotate_left
                      · intro w hSw; (try dsimp only at hSw); go_simp; first | done | with_reducible rfl
                      try simp only [Act.put, List.setIfInBounds_toArray, List.set_cons_zero, List.set_cons_succ]
                      refine wpAnyH_take (i := 30) (oi := { dst := some 101, op := Op.indexAddr 37 (Operand.tmp 99) (Operand.tmp 100), type := 0, pos := "outright.go:66", after := #[{ on := 28, ground := Ground.data }, { on := 29, ground := Ground.data }, { on := 27, ground := Ground.guard }], guard := some (27, true) }) (v := ?_) rfl (by kernel_rfl) (by kernel_rfl) (by kernel_rfl) (fun _ _ _ h => h) (Or.inl ⟨by rfl, ?_⟩) hHeld ?_
                      rotate_left
                      · intro w hSw; (try dsimp only at hSw); have h := hjn; go_simp; first | done | with_reducible rfl
                      try simp only [Act.put, List.setIfInBounds_toArray, List.set_cons_zero, List.set_cons_succ]
                      refine wpAnyH_take (i := 31) (oi := { dst := some 102, op := Op.fieldAddr 24 (Operand.tmp 101) 0, type := 0, pos := "outright.go:66", after := #[{ on := 30, ground := Ground.data }, { on := 27, ground := Ground.guard }], guard := some (27, true) }) (v := ?_) rfl (by kernel_rfl) (by kernel_rfl) (by kernel_rfl) (fun _ _ _ h => h) (Or.inl ⟨by rfl, ?_⟩) hHeld ?_
                      rotate_left
                      · intro w hSw; (try dsimp only at hSw); go_simp; first | done | with_reducible rfl
                      try simp only [Act.put, List.setIfInBounds_toArray, List.set_cons_zero, List.set_cons_succ]
                      refine wpAnyH_take (i := 32) (oi := { dst := some 103, op := Op.load 22 (Operand.tmp 102), type := 22, pos := "outright.go:66", after := #[{ on := 31, ground := Ground.data }, { on := 27, ground := Ground.guard }], guard := some (27, true) }) (v := ?_) rfl (by kernel_rfl) (by kernel_rfl) (by kernel_rfl) (fun _ _ _ h => h) (Or.inl ⟨by rfl, ?_⟩) hHeld ?_
                      rotate_left
                      · intro w hSw; (try dsimp only at hSw); have e0 := (hSw.cell (p := ⟨bm, om + k * 2, none⟩) (Nat.lt_of_lt_of_le LD.out HBn.out.size)).trans ((HBn.out.cell (p := ⟨bm, om + k * 2, none⟩) LD.out).trans D0.out); have e1 := (hSw.cell (p := ⟨bm, om + k * 2 + 1, none⟩) (Nat.lt_of_lt_of_le LD.out HBn.out.size)).trans ((HBn.out.cell (p := ⟨bm, om + k * 2 + 1, none⟩) LD.out).trans D1.out); have e2 := (hSw.cell (p := ⟨bm, om + j * 2, none⟩) (Nat.lt_of_lt_of_le LD.out HBn.out.size)).trans ((HBn.out.cell (p := ⟨bm, om + j * 2, none⟩) LD.out).trans E0.out); have e3 := (hSw.cell (p := ⟨bm, om + j * 2 + 1, none⟩) (Nat.lt_of_lt_of_le LD.out HBn.out.size)).trans ((HBn.out.cell (p := ⟨bm, om + j * 2 + 1, none⟩) LD.out).trans E1.out); go_simp; first | done | with_reducible rfl
                      try simp only [Act.put, List.setIfInBounds_toArray, List.set_cons_zero, List.set_cons_succ]
                      refine wpAnyH_take (i := 33) (oi := { dst := some 104, op := Op.move (Operand.tmp 5), type := 37, pos := "outright.go:66", after := #[{ on := 27, ground := Ground.guard }], guard := some (27, true) }) (v := ?_) rfl (by kernel_rfl) (by kernel_rfl) (by kernel_rfl) (fun _ _ _ h => h) (Or.inl ⟨by rfl, ?_⟩) hHeld ?_
                      rotate_left
                      · intro w hSw; (try dsimp only at hSw); go_simp; first | done | with_reducible rfl
                      try simp only [Act.put, List.setIfInBounds_toArray, List.set_cons_zero, List.set_cons_succ]
                      refine wpAnyH_take (i := 34) (oi := { dst := some 105, op := Op.move (Operand.tmp 10), type := 3, pos := "outright.go:66", after := #[{ on := 27, ground := Ground.guard }], guard := some (27, true) }) (v := ?_) rfl (by kernel_rfl) (by kernel_rfl) (by kernel_rfl) (fun _ _ _ h => h) (Or.inl ⟨by rfl, ?_⟩) hHeld ?_
                      rotate_left
                      · intro w hSw; (try dsimp only at hSw); go_simp; first | done | with_reducible rfl
                      try simp only [Act.put, List.setIfInBounds_toArray, List.set_cons_zero, List.set_cons_succ]
                      refine wpAnyH_take (i := 35) (oi := { dst := some 106, op := Op.indexAddr 37 (Operand.tmp 104) (Operand.tmp 105), type := 0, pos := "outright.go:66", after := #[{ on := 33, ground := Ground.data }, { on := 34, ground := Ground.data }, { on := 27, ground := Ground.guard }], guard := some (27, true) }) (v := ?_) rfl (by kernel_rfl) (by kernel_rfl) (by kernel_rfl) (fun _ _ _ h => h) (Or.inl ⟨by rfl, ?_⟩) hHeld ?_
                      rotate_left
                      · intro w hSw; (try dsimp only at hSw); have h := hlt'; go_simp; first | done | with_reducible rfl
                      try simp only [Act.put, List.setIfInBounds_toArray, List.set_cons_zero, List.set_cons_succ]
                      refine wpAnyH_take (i := 36) (oi := { dst := some 107, op := Op.fieldAddr 24 (Operand.tmp 106) 1, type := 0, pos := "outright.go:66", after := #[{ on := 35, ground := Ground.data }, { on := 27, ground := Ground.guard }], guard := some (27, true) }) (v := ?_) rfl (by kernel_rfl) (by kernel_rfl) (by kernel_rfl) (fun _ _ _ h => h) (Or.inl ⟨by rfl, ?_⟩) hHeld ?_
                      rotate_left
                      · intro w hSw; (try dsimp only at hSw); go_simp; first | done | with_reducible rfl
                      try simp only [Act.put, List.setIfInBounds_toArray, List.set_cons_zero, List.set_cons_succ]
                      refine wpAnyH_take (i := 37) (oi := { dst := some 108, op := Op.load 3 (Operand.tmp 107), type := 3, pos := "outright.go:66", after := #[{ on := 36, ground := Ground.data }, { on := 27, ground := Ground.guard }], guard := some (27, true) }) (v := ?_) rfl (by kernel_rfl) (by kernel_rfl) (by kernel_rfl) (fun _ _ _ h => h) (Or.inl ⟨by rfl, ?_⟩) hHeld ?_
                      rotate_left
                      · intro w hSw; (try dsimp only at hSw); have e0 := (hSw.cell (p := ⟨bm, om + k * 2, none⟩) (Nat.lt_of_lt_of_le LD.out HBn.out.size)).trans ((HBn.out.cell (p := ⟨bm, om + k * 2, none⟩) LD.out).trans D0.out); have e1 := (hSw.cell (p := ⟨bm, om + k * 2 + 1, none⟩) (Nat.lt_of_lt_of_le LD.out HBn.out.size)).trans ((HBn.out.cell (p := ⟨bm, om + k * 2 + 1, none⟩) LD.out).trans D1.out); have e2 := (hSw.cell (p := ⟨bm, om + j * 2, none⟩) (Nat.lt_of_lt_of_le LD.out HBn.out.size)).trans ((HBn.out.cell (p := ⟨bm, om + j * 2, none⟩) LD.out).trans E0.out); have e3 := (hSw.cell (p := ⟨bm, om + j * 2 + 1, none⟩) (Nat.lt_of_lt_of_le LD.out HBn.out.size)).trans ((HBn.out.cell (p := ⟨bm, om + j * 2 + 1, none⟩) LD.out).trans E1.out); go_simp; first | done | with_reducible rfl
                      try simp only [Act.put, List.setIfInBounds_toArray, List.set_cons_zero, List.set_cons_succ]
                      refine wpAnyH_take (i := 38) (oi := { dst := some 109, op := Op.binOp BinOp.sub 3 (Operand.tmp 108) (Operand.const (Value.int IntKind.i64 1)) 3, type := 3, pos := "outright.go:66", after := #[{ on := 37, ground := Ground.data }, { on := 27, ground := Ground.guard }], guard := some (27, true) }) (v := ?_) rfl (by kernel_rfl) (by kernel_rfl) (by kernel_rfl) (fun _ _ _ h => h) (Or.inl ⟨by rfl, ?_⟩) hHeld ?_
                      rotate_left
                      · intro w hSw; (try dsimp only at hSw); have h := hsub; go_simp; first | done | with_reducible rfl
                      try simp only [Act.put, List.setIfInBounds_toArray, List.set_cons_zero, List.set_cons_succ]
                      refine wpAnyH_take (i := 41) (oi := { dst := some 112, op := Op.move (Operand.tmp 5), type := 37, pos := "outright.go:66", after := #[{ on := 27, ground := Ground.guard }], guard := some (27, true) }) (v := ?_) rfl (by kernel_rfl) (by kernel_rfl) (by kernel_rfl) (fun _ _ _ h => h) (Or.inl ⟨by rfl, ?_⟩) hHeld ?_
                      rotate_left
                      · intro w hSw; (try dsimp only at hSw); go_simp; first | done | with_reducible rfl
                      try simp only [Act.put, List.setIfInBounds_toArray, List.set_cons_zero, List.set_cons_succ]
                      refine wpAnyH_take (i := 42) (oi := { dst := some 113, op := Op.move (Operand.tmp 10), type := 3, pos := "outright.go:66", after := #[{ on := 27, ground := Ground.guard }], guard := some (27, true) }) (v := ?_) rfl (by kernel_rfl) (by kernel_rfl) (by kernel_rfl) (fun _ _ _ h => h) (Or.inl ⟨by rfl, ?_⟩) hHeld ?_
                      rotate_left
                      · intro w hSw; (try dsimp only at hSw); go_simp; first | done | with_reducible rfl
                      try simp only [Act.put, List.setIfInBounds_toArray, List.set_cons_zero, List.set_cons_succ]
                      refine wpAnyH_take (i := 43) (oi := { dst := some 114, op := Op.indexAddr 37 (Operand.tmp 112) (Operand.tmp 113), type := 0, pos := "outright.go:66", after := #[{ on := 41, ground := Ground.data }, { on := 42, ground := Ground.data }, { on := 27, ground := Ground.guard }], guard := some (27, true) }) (v := ?_) rfl (by kernel_rfl) (by kernel_rfl) (by kernel_rfl) (fun _ _ _ h => h) (Or.inl ⟨by rfl, ?_⟩) hHeld ?_
                      rotate_left
                      · intro w hSw; (try dsimp only at hSw); have h := hlt'; go_simp; first | done | with_reducible rfl
                      try simp only [Act.put, List.setIfInBounds_toArray, List.set_cons_zero, List.set_cons_succ]
                      refine wpAnyH_take (i := 44) (oi := { dst := some 115, op := Op.fieldAddr 24 (Operand.tmp 114) 0, type := 0, pos := "outright.go:66", after := #[{ on := 43, ground := Ground.data }, { on := 27, ground := Ground.guard }], guard := some (27, true) }) (v := ?_) rfl (by kernel_rfl) (by kernel_rfl) (by kernel_rfl) (fun _ _ _ h => h) (Or.inl ⟨by rfl, ?_⟩) hHeld ?_
                      rotate_left
                      · intro w hSw; (try dsimp only at hSw); go_simp; first | done | with_reducible rfl
                      try simp only [Act.put, List.setIfInBounds_toArray, List.set_cons_zero, List.set_cons_succ]
                      refine wpAnyH_take (i := 45) (oi := { dst := some 116, op := Op.load 22 (Operand.tmp 115), type := 22, pos := "outright.go:66", after := #[{ on := 44, ground := Ground.data }, { on := 27, ground := Ground.guard }], guard := some (27, true) }) (v := ?_) rfl (by kernel_rfl) (by kernel_rfl) (by kernel_rfl) (fun _ _ _ h => h) (Or.inl ⟨by rfl, ?_⟩) hHeld ?_
                      rotate_left
                      · intro w hSw; (try dsimp only at hSw); have e0 := (hSw.cell (p := ⟨bm, om + k * 2, none⟩) (Nat.lt_of_lt_of_le LD.out HBn.out.size)).trans ((HBn.out.cell (p := ⟨bm, om + k * 2, none⟩) LD.out).trans D0.out); have e1 := (hSw.cell (p := ⟨bm, om + k * 2 + 1, none⟩) (Nat.lt_of_lt_of_le LD.out HBn.out.size)).trans ((HBn.out.cell (p := ⟨bm, om + k * 2 + 1, none⟩) LD.out).trans D1.out); have e2 := (hSw.cell (p := ⟨bm, om + j * 2, none⟩) (Nat.lt_of_lt_of_le LD.out HBn.out.size)).trans ((HBn.out.cell (p := ⟨bm, om + j * 2, none⟩) LD.out).trans E0.out); have e3 := (hSw.cell (p := ⟨bm, om + j * 2 + 1, none⟩) (Nat.lt_of_lt_of_le LD.out HBn.out.size)).trans ((HBn.out.cell (p := ⟨bm, om + j * 2 + 1, none⟩) LD.out).trans E1.out); go_simp; first | done | with_reducible rfl
                      try simp only [Act.put, List.setIfInBounds_toArray, List.set_cons_zero, List.set_cons_succ]
                      refine wpAnyH_take (i := 46) (oi := { dst := some 117, op := Op.move (Operand.tmp 5), type := 37, pos := "outright.go:66", after := #[{ on := 27, ground := Ground.guard }], guard := some (27, true) }) (v := ?_) rfl (by kernel_rfl) (by kernel_rfl) (by kernel_rfl) (fun _ _ _ h => h) (Or.inl ⟨by rfl, ?_⟩) hHeld ?_
                      rotate_left
                      · intro w hSw; (try dsimp only at hSw); go_simp; first | done | with_reducible rfl
                      try simp only [Act.put, List.setIfInBounds_toArray, List.set_cons_zero, List.set_cons_succ]
                      refine wpAnyH_take (i := 47) (oi := { dst := some 118, op := Op.move (Operand.tmp 10), type := 3, pos := "outright.go:66", after := #[{ on := 27, ground := Ground.guard }], guard := some (27, true) }) (v := ?_) rfl (by kernel_rfl) (by kernel_rfl) (by kernel_rfl) (fun _ _ _ h => h) (Or.inl ⟨by rfl, ?_⟩) hHeld ?_
                      rotate_left
                      · intro w hSw; (try dsimp only at hSw); go_simp; first | done | with_reducible rfl
                      try simp only [Act.put, List.setIfInBounds_toArray, List.set_cons_zero, List.set_cons_succ]
                      refine wpAnyH_take (i := 48) (oi := { dst := some 119, op := Op.indexAddr 37 (Operand.tmp 117) (Operand.tmp 118), type := 0, pos := "outright.go:66", after := #[{ on := 46, ground := Ground.data }, { on := 47, ground := Ground.data }, { on := 27, ground := Ground.guard }], guard := some (27, true) }) (v := ?_) rfl (by kernel_rfl) (by kernel_rfl) (by kernel_rfl) (fun _ _ _ h => h) (Or.inl ⟨by rfl, ?_⟩) hHeld ?_
                      rotate_left
                      · intro w hSw; (try dsimp only at hSw); have h := hlt'; go_simp; first | done | with_reducible rfl
                      try simp only [Act.put, List.setIfInBounds_toArray, List.set_cons_zero, List.set_cons_succ]
                      refine wpAnyH_take (i := 49) (oi := { dst := some 120, op := Op.fieldAddr 24 (Operand.tmp 119) 1, type := 0, pos := "outright.go:66", after := #[{ on := 48, ground := Ground.data }, { on := 27, ground := Ground.guard }], guard := some (27, true) }) (v := ?_) rfl (by kernel_rfl) (by kernel_rfl) (by kernel_rfl) (fun _ _ _ h => h) (Or.inl ⟨by rfl, ?_⟩) hHeld ?_
                      rotate_left
                      · intro w hSw; (try dsimp only at hSw); go_simp; first | done | with_reducible rfl
                      try simp only [Act.put, List.setIfInBounds_toArray, List.set_cons_zero, List.set_cons_succ]
                      refine wpAnyH_take (i := 50) (oi := { dst := some 121, op := Op.load 3 (Operand.tmp 120), type := 3, pos := "outright.go:66", after := #[{ on := 49, ground := Ground.data }, { on := 27, ground := Ground.guard }], guard := some (27, true) }) (v := ?_) rfl (by kernel_rfl) (by kernel_rfl) (by kernel_rfl) (fun _ _ _ h => h) (Or.inl ⟨by rfl, ?_⟩) hHeld ?_
                      rotate_left
                      · intro w hSw; (try dsimp only at hSw); have e0 := (hSw.cell (p := ⟨bm, om + k * 2, none⟩) (Nat.lt_of_lt_of_le LD.out HBn.out.size)).trans ((HBn.out.cell (p := ⟨bm, om + k * 2, none⟩) LD.out).trans D0.out); have e1 := (hSw.cell (p := ⟨bm, om + k * 2 + 1, none⟩) (Nat.lt_of_lt_of_le LD.out HBn.out.size)).trans ((HBn.out.cell (p := ⟨bm, om + k * 2 + 1, none⟩) LD.out).trans D1.out); have e2 := (hSw.cell (p := ⟨bm, om + j * 2, none⟩) (Nat.lt_of_lt_of_le LD.out HBn.out.size)).trans ((HBn.out.cell (p := ⟨bm, om + j * 2, none⟩) LD.out).trans E0.out); have e3 := (hSw.cell (p := ⟨bm, om + j * 2 + 1, none⟩) (Nat.lt_of_lt_of_le LD.out HBn.out.size)).trans ((HBn.out.cell (p := ⟨bm, om + j * 2 + 1, none⟩) LD.out).trans E1.out); go_simp; first | done | with_reducible rfl
                      try simp only [Act.put, List.setIfInBounds_toArray, List.set_cons_zero, List.set_cons_succ]
                      refine wpAnyH_take (i := 51) (oi := { dst := some 122, op := Op.binOp BinOp.sub 3 (Operand.tmp 121) (Operand.const (Value.int IntKind.i64 1)) 3, type := 3, pos := "outright.go:66", after := #[{ on := 50, ground := Ground.data }, { on := 27, ground := Ground.guard }], guard := some (27, true) }) (v := ?_) rfl (by kernel_rfl) (by kernel_rfl) (by kernel_rfl) (fun _ _ _ h => h) (Or.inl ⟨by rfl, ?_⟩) hHeld ?_
                      rotate_left
                      · intro w hSw; (try dsimp only at hSw); have h := hsub; go_simp; first | done | with_reducible rfl
                      try simp only [Act.put, List.setIfInBounds_toArray, List.set_cons_zero, List.set_cons_succ]
                      refine wpAnyH_ready (rs := [39]) (by kernel_rfl) (by simp) ?_
                      refine AllReadyH.cons (o := { dst := some 110, op := Op.call { callee := Callee.value (Operand.func 24), args := #[Operand.tmp 109], argTypes := #[3] }, type := 22, pos := "outright.go:66", after := #[{ on := 38, ground := Ground.data }, { on := 27, ground := Ground.chain }, { on := 27, ground := Ground.guard }], guard := some (27, true) }) rfl (fun K hK => ?_) AllReadyH.nil
                      clear hHeld
                      go_simp
                      refine (HMS.out _).mono ?_
                      rintro e wr1 ⟨rfl, hB⟩
                      have HR1 := hide (((Below.refl w9.heap.size w9).drew).trans (hB.mono ((Below.refl w9.heap.size w9).drew).size))
                      clear hB
                      refine hK.out _ _ (HR1.out) (fun hHeld => ?_)
                      clear hK K
                      try simp only [Act.put, List.setIfInBounds_toArray, List.set_cons_zero, List.set_cons_succ]
                      refine wpAnyH_take (i := 40) (oi := { dst := some 111, op := Op.binOp BinOp.and 22 (Operand.tmp 103) (Operand.tmp 110) 22, type := 22, pos := "outright.go:66", after := #[{ on := 32, ground := Ground.data }, { on := 39, ground := Ground.data }, { on := 27, ground := Ground.guard }], guard := some (27, true) }) (v := ?_) rfl (by kernel_rfl) (by kernel_rfl) (by kernel_rfl) (fun _ _ _ h => h) (Or.inl ⟨by rfl, ?_⟩) hHeld ?_
                      rotate_left
                      · intro w hSw; (try dsimp only at hSw); have h := HA1.out; go_simp; first | done | with_reducible rfl
                      try simp only [Act.put, List.setIfInBounds_toArray, List.set_cons_zero, List.set_cons_succ]
                      refine wpAnyH_ready (rs := [52]) (by kernel_rfl) (by simp) ?_
                      refine AllReadyH.cons (o := { dst := some 123, op := Op.call { callee := Callee.value (Operand.func 24), args := #[Operand.tmp 122], argTypes := #[3] }, type := 22, pos := "outright.go:66", after := #[{ on := 51, ground := Ground.data }, { on := 39, ground := Ground.chain }, { on := 27, ground := Ground.guard }], guard := some (27, true) }) rfl (fun K hK => ?_) AllReadyH.nil
                      clear hHeld
                      go_simp
                      refine (HMS.out _).mono ?_
                      rintro e wr2 ⟨rfl, hB⟩
                      have HR2 := hide (HR1.out.trans (hB.mono HR1.out.size))
                      clear hB
                      refine hK.out _ _ (HR2.out) (fun hHeld => ?_)
                      clear hK K
                      try simp only [Act.put, List.setIfInBounds_toArray, List.set_cons_zero, List.set_cons_succ]
                      refine wpAnyH_take (i := 53) (oi := { dst := some 124, op := Op.binOp BinOp.and 22 (Operand.tmp 116) (Operand.tmp 123) 22, type := 22, pos := "outright.go:66", after := #[{ on := 45, ground := Ground.data }, { on := 52, ground := Ground.data }, { on := 27, ground := Ground.guard }], guard := some (27, true) }) (v := ?_) rfl (by kernel_rfl) (by kernel_rfl) (by kernel_rfl) (fun _ _ _ h => h) (Or.inl ⟨by rfl, ?_⟩) hHeld ?_
                      rotate_left
                      · intro w hSw; (try dsimp only at hSw); have h := HA2.out; go_simp; first | done | with_reducible rfl
                      try simp only [Act.put, List.setIfInBounds_toArray, List.set_cons_zero, List.set_cons_succ]
                      refine wpAnyH_take (i := 54) (oi := { dst := some 125, op := Op.binOp BinOp.eql 22 (Operand.tmp 111) (Operand.tmp 124) 22, type := 4, pos := "outright.go:66", after := #[{ on := 40, ground := Ground.data }, { on := 53, ground := Ground.data }, { on := 27, ground := Ground.guard }], guard := some (27, true) }) (v := ?_) rfl (by kernel_rfl) (by kernel_rfl) (by kernel_rfl) (fun _ _ _ h => h) (Or.inl ⟨by rfl, ?_⟩) hHeld ?_
                      rotate_left
                      · intro w hSw; (try dsimp only at hSw); have h := hne'; have h2 : (fj == fi) = false := (by simp; omega); go_simp; first | done | with_reducible rfl
                      try simp only [Act.put, List.setIfInBounds_toArray, List.set_cons_zero, List.set_cons_succ]
                      refine wpAnyH_take (i := 55) (oi := { dst := some 126, op := Op.pick (Operand.tmp 98) (Operand.tmp 125) (Operand.const (Value.bool false)), type := 4, pos := "outright.go:66", after := #[{ on := 27, ground := Ground.data }, { on := 54, ground := Ground.data }, { on := 7, ground := Ground.guard }], guard := some (7, false) }) (v := ?_) rfl (by kernel_rfl) (by kernel_rfl) (by kernel_rfl) (fun _ _ _ h => h) (Or.inl ⟨by rfl, ?_⟩) hHeld ?_
                      rotate_left
                      · intro w hSw; (try dsimp only at hSw); go_simp; first | done | with_reducible rfl
                      try simp only [Act.put, List.setIfInBounds_toArray, List.set_cons_zero, List.set_cons_succ]
                      refine wpAnyH_take (i := 56) (oi := { dst := some 127, op := Op.pick (Operand.tmp 78) (Operand.const (Value.bool true)) (Operand.tmp 126), type := 4, pos := "outright.go:66", after := #[{ on := 7, ground := Ground.data }, { on := 55, ground := Ground.data }], guard := none }) (v := ?_) rfl (by kernel_rfl) (by kernel_rfl) (by kernel_rfl) (fun _ _ _ h => h) (Or.inl ⟨by rfl, ?_⟩) hHeld ?_
                      rotate_left
                      · intro w hSw; (try dsimp only at hSw); go_simp; first | done | with_reducible rfl
                      try simp only [Act.put, List.setIfInBounds_toArray, List.set_cons_zero, List.set_cons_succ]
                      refine wpAnyH_done (by kernel_rfl) ?_ _
                      clear hHeld
                      go_wp2_with fail
                      go_roundw
                      case rel => exact ⟨j + 1, by omega, by go_num, HBn.out.trans (HR2.out.mono HBn.out.size)⟩
                      case measure => simp [intOf]; omega
                    · clear hps hla
                      go_wp2_with fail
                      refine wp_region_held_drew (S := fun w' => Below w9.heap.size w9 w') (by kernel_rfl) ((Below.refl _ _).drew) (fun hHeld => ?_)
                      refine wpAnyH_take (i := 0) (oi := { dst := some 71, op := Op.move (Operand.tmp 12), type := 22, pos := "outright.go:66", after := #[], guard := none }) (v := ?_) rfl (by kernel_rfl) (by kernel_rfl) (by kernel_rfl) (fun _ _ _ h => h) (Or.inl ⟨by rfl, ?_⟩) hHeld ?_
                      rotate_left
                      · intro w hSw; (try dsimp only at hSw); go_simp; first | done | with_reducible rfl
                      try simp only [Act.put, List.setIfInBounds_toArray, List.set_cons_zero, List.set_cons_succ]
                      refine wpAnyH_take (i := 1) (oi := { dst := some 72, op := Op.move (Operand.tmp 5), type := 37, pos := "outright.go:66", after := #[], guard := none }) (v := ?_) rfl (by kernel_rfl) (by kernel_rfl) (by kernel_rfl) (fun _ _ _ h => h) (Or.inl ⟨by rfl, ?_⟩) hHeld ?_
                      rotate_left
                      · intro w hSw; (try dsimp only at hSw); go_simp; first | done | with_reducible rfl
                      try simp only [Act.put, List.setIfInBounds_toArray, List.set_cons_zero, List.set_cons_succ]
                      refine wpAnyH_take (i := 2) (oi := { dst := some 73, op := Op.move (Operand.tmp 10), type := 3, pos := "outright.go:66", after := #[], guard := none }) (v := ?_) rfl (by kernel_rfl) (by kernel_rfl) (by kernel_rfl) (fun _ _ _ h => h) (Or.inl ⟨by rfl, ?_⟩) hHeld ?_
                      rotate_left
                      · intro w hSw; (try dsimp only at hSw); go_simp; first | done | with_reducible rfl
                      try simp only [Act.put, List.setIfInBounds_toArray, List.set_cons_zero, List.set_cons_succ]
                      refine wpAnyH_take (i := 3) (oi := { dst := some 74, op := Op.indexAddr 37 (Operand.tmp 72) (Operand.tmp 73), type := 0, pos := "outright.go:66", after := #[{ on := 1, ground := Ground.data }, { on := 2, ground := Ground.data }], guard := none }) (v := ?_) rfl (by kernel_rfl) (by kernel_rfl) (by kernel_rfl) (fun _ _ _ h => h) (Or.inl ⟨by rfl, ?_⟩) hHeld ?_
                      rotate_left
                      · intro w hSw; (try dsimp only at hSw); have h := hlt'; go_simp; first | done | with_reducible rfl
                      try simp only [Act.put, List.setIfInBounds_toArray, List.set_cons_zero, List.set_cons_succ]
                      refine wpAnyH_take (i := 4) (oi := { dst := some 75, op := Op.fieldAddr 24 (Operand.tmp 74) 0, type := 0, pos := "outright.go:66", after := #[{ on := 3, ground := Ground.data }], guard := none }) (v := ?_) rfl (by kernel_rfl) (by kernel_rfl) (by kernel_rfl) (fun _ _ _ h => h) (Or.inl ⟨by rfl, ?_⟩) hHeld ?_
                      rotate_left
                      · intro w hSw; (try dsimp only at hSw); go_simp; first | done | with_reducible rfl
                      try simp only [Act.put, List.setIfInBounds_toArray, List.set_cons_zero, List.set_cons_succ]
                      refine wpAnyH_take (i := 5) (oi := { dst := some 76, op := Op.load 22 (Operand.tmp 75), type := 22, pos := "outright.go:66", after := #[{ on := 4, ground := Ground.data }], guard := none }) (v := ?_) rfl (by kernel_rfl) (by kernel_rfl) (by kernel_rfl) (fun _ _ _ h => h) (Or.inl ⟨by rfl, ?_⟩) hHeld ?_
                      rotate_left
                      · intro w hSw; (try dsimp only at hSw); have e0 := (hSw.cell (p := ⟨bm, om + k * 2, none⟩) (Nat.lt_of_lt_of_le LD.out HBn.out.size)).trans ((HBn.out.cell (p := ⟨bm, om + k * 2, none⟩) LD.out).trans D0.out); have e1 := (hSw.cell (p := ⟨bm, om + k * 2 + 1, none⟩) (Nat.lt_of_lt_of_le LD.out HBn.out.size)).trans ((HBn.out.cell (p := ⟨bm, om + k * 2 + 1, none⟩) LD.out).trans D1.out); have e2 := (hSw.cell (p := ⟨bm, om + j * 2, none⟩) (Nat.lt_of_lt_of_le LD.out HBn.out.size)).trans ((HBn.out.cell (p := ⟨bm, om + j * 2, none⟩) LD.out).trans E0.out); have e3 := (hSw.cell (p := ⟨bm, om + j * 2 + 1, none⟩) (Nat.lt_of_lt_of_le LD.out HBn.out.size)).trans ((HBn.out.cell (p := ⟨bm, om + j * 2 + 1, none⟩) LD.out).trans E1.out); go_simp; first | done | with_reducible rfl
                      try simp only [Act.put, List.setIfInBounds_toArray, List.set_cons_zero, List.set_cons_succ]
                      refine wpAnyH_take (i := 6) (oi := { dst := some 77, op := Op.binOp BinOp.geq 22 (Operand.tmp 71) (Operand.tmp 76) 22, type := 4, pos := "outright.go:66", after := #[{ on := 0, ground := Ground.data }, { on := 5, ground := Ground.data }], guard := none }) (v := ?_) rfl (by kernel_rfl) (by kernel_rfl) (by kernel_rfl) (fun _ _ _ h => h) (Or.inl ⟨by rfl, ?_⟩) hHeld ?_
                      rotate_left
                      · intro w hSw; (try dsimp only at hSw); have h := HGQ.out; have h2 := HGN.out; go_simp; first | done | with_reducible rfl
                      try simp only [Act.put, List.setIfInBounds_toArray, List.set_cons_zero, List.set_cons_succ]
                      refine wpAnyH_take (i := 7) (oi := { dst := some 78, op := Op.move (Operand.tmp 77), type := 4, pos := "outright.go:66", after := #[{ on := 6, ground := Ground.data }], guard := none }) (v := ?_) rfl (by kernel_rfl) (by kernel_rfl) (by kernel_rfl) (fun _ _ _ h => h) (Or.inl ⟨by rfl, ?_⟩) hHeld ?_
                      rotate_left
                      · intro w hSw; (try dsimp only at hSw); go_simp; first | done | with_reducible rfl
                      try simp only [Act.put, List.setIfInBounds_toArray, List.set_cons_zero, List.set_cons_succ]
                      refine wpAnyH_take (i := 8) (oi := { dst := some 79, op := Op.move (Operand.tmp 5), type := 37, pos := "outright.go:66", after := #[{ on := 7, ground := Ground.guard }], guard := some (7, false) }) (v := ?_) rfl (by kernel_rfl) (by kernel_rfl) (by kernel_rfl) (fun _ _ _ h => h) (Or.inl ⟨by rfl, ?_⟩) hHeld ?_
                      rotate_left
                      · intro w hSw; (try dsimp only at hSw); go_simp; first | done | with_reducible rfl
                      try simp only [Act.put, List.setIfInBounds_toArray, List.set_cons_zero, List.set_cons_succ]
                      refine wpAnyH_take (i := 9) (oi := { dst := some 80, op := Op.move (Operand.tmp 11), type := 3, pos := "outright.go:66", after := #[{ on := 7, ground := Ground.guard }], guard := some (7, false) }) (v := ?_) rfl (by kernel_rfl) (by kernel_rfl) (by kernel_rfl) (fun _ _ _ h => h) (Or.inl ⟨by rfl, ?_⟩) hHeld ?_
                      rotate_left
                      · intro w hSw; (try dsimp only at hSw); go_simp; first | done | with_reducible rfl
                      try simp only [Act.put, List.setIfInBounds_toArray, List.set_cons_zero, List.set_cons_succ]
                      refine wpAnyH_take (i := 10) (oi := { dst := some 81, op := Op.indexAddr 37 (Operand.tmp 79) (Operand.tmp 80), type := 0, pos := "outright.go:66", after := #[{ on := 8, ground := Ground.data }, { on := 9, ground := Ground.data }, { on := 7, ground := Ground.guard }], guard := some (7, false) }) (v := ?_) rfl (by kernel_rfl) (by kernel_rfl) (by kernel_rfl) (fun _ _ _ h => h) (Or.inl ⟨by rfl, ?_⟩) hHeld ?_
                      rotate_left
                      · intro w hSw; (try dsimp only at hSw); have h := hjn; go_simp; first | done | with_reducible rfl
                      try simp only [Act.put, List.setIfInBounds_toArray, List.set_cons_zero, List.set_cons_succ]
                      refine wpAnyH_take (i := 11) (oi := { dst := some 82, op := Op.fieldAddr 24 (Operand.tmp 81) 1, type := 0, pos := "outright.go:66", after := #[{ on := 10, ground := Ground.data }, { on := 7, ground := Ground.guard }], guard := some (7, false) }) (v := ?_) rfl (by kernel_rfl) (by kernel_rfl) (by kernel_rfl) (fun _ _ _ h => h) (Or.inl ⟨by rfl, ?_⟩) hHeld ?_
                      rotate_left
                      · intro w hSw; (try dsimp only at hSw); go_simp; first | done | with_reducible rfl
                      try simp only [Act.put, List.setIfInBounds_toArray, List.set_cons_zero, List.set_cons_succ]
                      refine wpAnyH_take (i := 12) (oi := { dst := some 83, op := Op.load 3 (Operand.tmp 82), type := 3, pos := "outright.go:66", after := #[{ on := 11, ground := Ground.data }, { on := 7, ground := Ground.guard }], guard := some (7, false) }) (v := ?_) rfl (by kernel_rfl) (by kernel_rfl) (by kernel_rfl) (fun _ _ _ h => h) (Or.inl ⟨by rfl, ?_⟩) hHeld ?_
                      rotate_left
                      · intro w hSw; (try dsimp only at hSw); have e0 := (hSw.cell (p := ⟨bm, om + k * 2, none⟩) (Nat.lt_of_lt_of_le LD.out HBn.out.size)).trans ((HBn.out.cell (p := ⟨bm, om + k * 2, none⟩) LD.out).trans D0.out); have e1 := (hSw.cell (p := ⟨bm, om + k * 2 + 1, none⟩) (Nat.lt_of_lt_of_le LD.out HBn.out.size)).trans ((HBn.out.cell (p := ⟨bm, om + k * 2 + 1, none⟩) LD.out).trans D1.out); have e2 := (hSw.cell (p := ⟨bm, om + j * 2, none⟩) (Nat.lt_of_lt_of_le LD.out HBn.out.size)).trans ((HBn.out.cell (p := ⟨bm, om + j * 2, none⟩) LD.out).trans E0.out); have e3 := (hSw.cell (p := ⟨bm, om + j * 2 + 1, none⟩) (Nat.lt_of_lt_of_le LD.out HBn.out.size)).trans ((HBn.out.cell (p := ⟨bm, om + j * 2 + 1, none⟩) LD.out).trans E1.out); go_simp; first | done | with_reducible rfl
                      try simp only [Act.put, List.setIfInBounds_toArray, List.set_cons_zero, List.set_cons_succ]
                      refine wpAnyH_take (i := 13) (oi := { dst := some 84, op := Op.move (Operand.tmp 5), type := 37, pos := "outright.go:66", after := #[{ on := 7, ground := Ground.guard }], guard := some (7, false) }) (v := ?_) rfl (by kernel_rfl) (by kernel_rfl) (by kernel_rfl) (fun _ _ _ h => h) (Or.inl ⟨by rfl, ?_⟩) hHeld ?_
                      rotate_left
                      · intro w hSw; (try dsimp only at hSw); go_simp; first | done | with_reducible rfl
                      try simp only [Act.put, List.setIfInBounds_toArray, List.set_cons_zero, List.set_cons_succ]
                      refine wpAnyH_take (i := 14) (oi := { dst := some 85, op := Op.move (Operand.tmp 10), type := 3, pos := "outright.go:66", after := #[{ on := 7, ground := Ground.guard }], guard := some (7, false) }) (v := ?_) rfl (by kernel_rfl) (by kernel_rfl) (by kernel_rfl) (fun _ _ _ h => h) (Or.inl ⟨by rfl, ?_⟩) hHeld ?_
                      rotate_left
                      · intro w hSw; (try dsimp only at hSw); go_simp; first | done | with_reducible rfl
                      try simp only [Act.put, List.setIfInBounds_toArray, List.set_cons_zero, List.set_cons_succ]
                      refine wpAnyH_take (i := 15) (oi := { dst := some 86, op := Op.indexAddr 37 (Operand.tmp 84) (Operand.tmp 85), type := 0, pos := "outright.go:66", after := #[{ on := 13, ground := Ground.data }, { on := 14, ground := Ground.data }, { on := 7, ground := Ground.guard }], guard := some (7, false) }) (v := ?_) rfl (by kernel_rfl) (by kernel_rfl) (by kernel_rfl) (fun _ _ _ h => h) (Or.inl ⟨by rfl, ?_⟩) hHeld ?_
                      rotate_left
                      · intro w hSw; (try dsimp only at hSw); have h := hlt'; go_simp; first | done | with_reducible rfl
                      try simp only [Act.put, List.setIfInBounds_toArray, List.set_cons_zero, List.set_cons_succ]
                      refine wpAnyH_take (i := 16) (oi := { dst := some 87, op := Op.fieldAddr 24 (Operand.tmp 86) 1, type := 0, pos := "outright.go:66", after := #[{ on := 15, ground := Ground.data }, { on := 7, ground := Ground.guard }], guard := some (7, false) }) (v := ?_) rfl (by kernel_rfl) (by kernel_rfl) (by kernel_rfl) (fun _ _ _ h => h) (Or.inl ⟨by rfl, ?_⟩) hHeld ?_
                      rotate_left
                      · intro w hSw; (try dsimp only at hSw); go_simp; first | done | with_reducible rfl
                      try simp only [Act.put, List.setIfInBounds_toArray, List.set_cons_zero, List.set_cons_succ]
                      refine wpAnyH_take (i := 17) (oi := { dst := some 88, op := Op.load 3 (Operand.tmp 87), type := 3, pos := "outright.go:66", after := #[{ on := 16, ground := Ground.data }, { on := 7, ground := Ground.guard }], guard := some (7, false) }) (v := ?_) rfl (by kernel_rfl) (by kernel_rfl) (by kernel_rfl) (fun _ _ _ h => h) (Or.inl ⟨by rfl, ?_⟩) hHeld ?_
                      rotate_left
                      · intro w hSw; (try dsimp only at hSw); have e0 := (hSw.cell (p := ⟨bm, om + k * 2, none⟩) (Nat.lt_of_lt_of_le LD.out HBn.out.size)).trans ((HBn.out.cell (p := ⟨bm, om + k * 2, none⟩) LD.out).trans D0.out); have e1 := (hSw.cell (p := ⟨bm, om + k * 2 + 1, none⟩) (Nat.lt_of_lt_of_le LD.out HBn.out.size)).trans ((HBn.out.cell (p := ⟨bm, om + k * 2 + 1, none⟩) LD.out).trans D1.out); have e2 := (hSw.cell (p := ⟨bm, om + j * 2, none⟩) (Nat.lt_of_lt_of_le LD.out HBn.out.size)).trans ((HBn.out.cell (p := ⟨bm, om + j * 2, none⟩) LD.out).trans E0.out); have e3 := (hSw.cell (p := ⟨bm, om + j * 2 + 1, none⟩) (Nat.lt_of_lt_of_le LD.out HBn.out.size)).trans ((HBn.out.cell (p := ⟨bm, om + j * 2 + 1, none⟩) LD.out).trans E1.out); go_simp; first | done | with_reducible rfl
                      try simp only [Act.put, List.setIfInBounds_toArray, List.set_cons_zero, List.set_cons_succ]
                      refine wpAnyH_take (i := 18) (oi := { dst := some 89, op := Op.binOp BinOp.eql 3 (Operand.tmp 83) (Operand.tmp 88) 3, type := 4, pos := "outright.go:66", after := #[{ on := 12, ground := Ground.data }, { on := 17, ground := Ground.data }, { on := 7, ground := Ground.guard }], guard := some (7, false) }) (v := ?_) rfl (by kernel_rfl) (by kernel_rfl) (by kernel_rfl) (fun _ _ _ h => h) (Or.inl ⟨by rfl, ?_⟩) hHeld ?_
                      rotate_left
                      · intro w hSw; (try dsimp only at hSw); go_simp; first | done | with_reducible rfl
                      try simp only [Act.put, List.setIfInBounds_toArray, List.set_cons_zero, List.set_cons_succ]
                      refine wpAnyH_take (i := 19) (oi := { dst := some 90, op := Op.move (Operand.tmp 89), type := 4, pos := "outright.go:66", after := #[{ on := 18, ground := Ground.data }, { on := 7, ground := Ground.chain }, { on := 7, ground := Ground.guard }], guard := some (7, false) }) (v := ?_) rfl (by kernel_rfl) (by kernel_rfl) (by kernel_rfl) (fun _ _ _ h => h) (Or.inl ⟨by rfl, ?_⟩) hHeld ?_
                      rotate_left
                      · intro w hSw; (try dsimp only at hSw); go_simp; first | done | with_reducible rfl
                      try simp only [Act.put, List.setIfInBounds_toArray, List.set_cons_zero, List.set_cons_succ]
                      refine wpAnyH_take (i := 20) (oi := { dst := some 91, op := Op.move (Operand.tmp 5), type := 37, pos := "outright.go:66", after := #[{ on := 19, ground := Ground.guard }], guard := some (19, true) }) (v := ?_) rfl (by kernel_rfl) (by kernel_rfl) (by kernel_rfl) (fun _ _ _ h => h) (Or.inl ⟨by rfl, ?_⟩) hHeld ?_
                      rotate_left
                      · intro w hSw; (try dsimp only at hSw); go_simp; first | done | with_reducible rfl
                      try simp only [Act.put, List.setIfInBounds_toArray, List.set_cons_zero, List.set_cons_succ]
                      refine wpAnyH_take (i := 21) (oi := { dst := some 92, op := Op.move (Operand.tmp 10), type := 3, pos := "outright.go:66", after := #[{ on := 19, ground := Ground.guard }], guard := some (19, true) }) (v := ?_) rfl (by kernel_rfl) (by kernel_rfl) (by kernel_rfl) (fun _ _ _ h => h) (Or.inl ⟨by rfl, ?_⟩) hHeld ?_
                      rotate_left
                      · intro w hSw; (try dsimp only at hSw); go_simp; first | done | with_reducible rfl
                      try simp only [Act.put, List.setIfInBounds_toArray, List.set_cons_zero, List.set_cons_succ]
                      refine wpAnyH_take (i := 22) (oi := { dst := some 93, op := Op.indexAddr 37 (Operand.tmp 91) (Operand.tmp 92), type := 0, pos := "outright.go:66", after := #[{ on := 20, ground := Ground.data }, { on := 21, ground := Ground.data }, { on := 19, ground := Ground.guard }], guard := some (19, true) }) (v := ?_) rfl (by kernel_rfl) (by kernel_rfl) (by kernel_rfl) (fun _ _ _ h => h) (Or.inl ⟨by rfl, ?_⟩) hHeld ?_
                      rotate_left
                      · intro w hSw; (try dsimp only at hSw); have h := hlt'; go_simp; first | done | with_reducible rfl
                      try simp only [Act.put, List.setIfInBounds_toArray, List.set_cons_zero, List.set_cons_succ]
                      refine wpAnyH_take (i := 23) (oi := { dst := some 94, op := Op.fieldAddr 24 (Operand.tmp 93) 1, type := 0, pos := "outright.go:66", after := #[{ on := 22, ground := Ground.data }, { on := 19, ground := Ground.guard }], guard := some (19, true) }) (v := ?_) rfl (by kernel_rfl) (by kernel_rfl) (by kernel_rfl) (fun _ _ _ h => h) (Or.inl ⟨by rfl, ?_⟩) hHeld ?_
                      rotate_left
                      · intro w hSw; (try dsimp only at hSw); go_simp; first | done | with_reducible rfl
                      try simp only [Act.put, List.setIfInBounds_toArray, List.set_cons_zero, List.set_cons_succ]
                      refine wpAnyH_take (i := 24) (oi := { dst := some 95, op := Op.load 3 (Operand.tmp 94), type := 3, pos := "outright.go:66", after := #[{ on := 23, ground := Ground.data }, { on := 19, ground := Ground.guard }], guard := some (19, true) }) (v := ?_) rfl (by kernel_rfl) (by kernel_rfl) (by kernel_rfl) (fun _ _ _ h => h) (Or.inl ⟨by rfl, ?_⟩) hHeld ?_
                      rotate_left
                      · intro w hSw; (try dsimp only at hSw); have e0 := (hSw.cell (p := ⟨bm, om + k * 2, none⟩) (Nat.lt_of_lt_of_le LD.out HBn.out.size)).trans ((HBn.out.cell (p := ⟨bm, om + k * 2, none⟩) LD.out).trans D0.out); have e1 := (hSw.cell (p := ⟨bm, om + k * 2 + 1, none⟩) (Nat.lt_of_lt_of_le LD.out HBn.out.size)).trans ((HBn.out.cell (p := ⟨bm, om + k * 2 + 1, none⟩) LD.out).trans D1.out); have e2 := (hSw.cell (p := ⟨bm, om + j * 2, none⟩) (Nat.lt_of_lt_of_le LD.out HBn.out.size)).trans ((HBn.out.cell (p := ⟨bm, om + j * 2, none⟩) LD.out).trans E0.out); have e3 := (hSw.cell (p := ⟨bm, om + j * 2 + 1, none⟩) (Nat.lt_of_lt_of_le LD.out HBn.out.size)).trans ((HBn.out.cell (p := ⟨bm, om + j * 2 + 1, none⟩) LD.out).trans E1.out); go_simp; first | done | with_reducible rfl
                      try simp only [Act.put, List.setIfInBounds_toArray, List.set_cons_zero, List.set_cons_succ]
                      refine wpAnyH_take (i := 25) (oi := { dst := some 96, op := Op.binOp BinOp.gtr 3 (Operand.tmp 95) (Operand.const (Value.int IntKind.i64 0)) 3, type := 4, pos := "outright.go:66", after := #[{ on := 24, ground := Ground.data }, { on := 19, ground := Ground.guard }], guard := some (19, true) }) (v := ?_) rfl (by kernel_rfl) (by kernel_rfl) (by kernel_rfl) (fun _ _ _ h => h) (Or.inl ⟨by rfl, ?_⟩) hHeld ?_
                      rotate_left
                      · intro w hSw; (try dsimp only at hSw); have h : decide (0 < jb) = false := (by simpa using hp); go_simp; first | done | with_reducible rfl
                      try simp only [Act.put, List.setIfInBounds_toArray, List.set_cons_zero, List.set_cons_succ]
                      refine wpAnyH_take (i := 26) (oi := { dst := some 97, op := Op.pick (Operand.tmp 90) (Operand.tmp 96) (Operand.const (Value.bool false)), type := 4, pos := "outright.go:66", after := #[{ on := 19, ground := Ground.data }, { on := 25, ground := Ground.data }, { on := 7, ground := Ground.guard }], guard := some (7, false) }) (v := ?_) rfl (by kernel_rfl) (by kernel_rfl) (by kernel_rfl) (fun _ _ _ h => h) (Or.inl ⟨by rfl, ?_⟩) hHeld ?_
                      rotate_left
                      · intro w hSw; (try dsimp only at hSw); go_simp; first | done | with_reducible rfl
                      try simp only [Act.put, List.setIfInBounds_toArray, List.set_cons_zero, List.set_cons_succ]
                      refine wpAnyH_take (i := 27) (oi := { dst := some 98, op := Op.move (Operand.tmp 97), type := 4, pos := "outright.go:66", after := #[{ on := 26, ground := Ground.data }, { on := 19, ground := Ground.chain }, { on := 7, ground := Ground.guard }], guard := some (7, false) }) (v := ?_) rfl (by kernel_rfl) (by kernel_rfl) (by kernel_rfl) (fun _ _ _ h => h) (Or.inl ⟨by rfl, ?_⟩) hHeld ?_
                      rotate_left
                      · intro w hSw; (try dsimp only at hSw); go_simp; first | done | with_reducible rfl
                      try simp only [Act.put, List.setIfInBounds_toArray, List.set_cons_zero, List.set_cons_succ]
                      refine wpAnyH_take (i := 28) (oi := { dst := some 99, op := Op.move (Operand.tmp 5), type := 37, pos := "outright.go:66", after := #[{ on := 27, ground := Ground.guard }], guard := some (27, true) }) (v := undef) rfl (by kernel_rfl) (by kernel_rfl) (by kernel_rfl) (fun _ _ _ h => h) (Or.inr ⟨by rfl, rfl⟩) hHeld ?_
                      try simp only [Act.put, List.setIfInBounds_toArray, List.set_cons_zero, List.set_cons_succ]
                      refine wpAnyH_take (i := 29) (oi := { dst := some 100, op := Op.move (Operand.tmp 11), type := 3, pos := "outright.go:66", after := #[{ on := 27, ground := Ground.guard }], guard := some (27, true) }) (v := undef) rfl (by kernel_rfl) (by kernel_rfl) (by kernel_rfl) (fun _ _ _ h => h) (Or.inr ⟨by rfl, rfl⟩) hHeld ?_
                      try simp only [Act.put, List.setIfInBounds_toArray, List.set_cons_zero, List.set_cons_succ]
                      refine wpAnyH_take (i := 30) (oi := { dst := some 101, op := Op.indexAddr 37 (Operand.tmp 99) (Operand.tmp 100), type := 0, pos := "outright.go:66", after := #[{ on := 28, ground := Ground.data }, { on := 29, ground := Ground.data }, { on := 27, ground := Ground.guard }], guard := some (27, true) }) (v := undef) rfl (by kernel_rfl) (by kernel_rfl) (by kernel_rfl) (fun _ _ _ h => h) (Or.inr ⟨by rfl, rfl⟩) hHeld ?_
                      try simp only [Act.put, List.setIfInBounds_toArray, List.set_cons_zero, List.set_cons_succ]
                      refine wpAnyH_take (i := 31) (oi := { dst := some 102, op := Op.fieldAddr 24 (Operand.tmp 101) 0, type := 0, pos := "outright.go:66", after := #[{ on := 30, ground := Ground.data }, { on := 27, ground := Ground.guard }], guard := some (27, true) }) (v := undef) rfl (by kernel_rfl) (by kernel_rfl) (by kernel_rfl) (fun _ _ _ h => h) (Or.inr ⟨by rfl, rfl⟩) hHeld ?_
                      try simp only [Act.put, List.setIfInBounds_toArray, List.set_cons_zero, List.set_cons_succ]
                      refine wpAnyH_take (i := 32) (oi := { dst := some 103, op := Op.load 22 (Operand.tmp 102), type := 22, pos := "outright.go:66", after := #[{ on := 31, ground := Ground.data }, { on := 27, ground := Ground.guard }], guard := some (27, true) }) (v := undef) rfl (by kernel_rfl) (by kernel_rfl) (by kernel_rfl) (fun _ _ _ h => h) (Or.inr ⟨by rfl, rfl⟩) hHeld ?_
                      try simp only [Act.put, List.setIfInBounds_toArray, List.set_cons_zero, List.set_cons_succ]
                      refine wpAnyH_take (i := 33) (oi := { dst := some 104, op := Op.move (Operand.tmp 5), type := 37, pos := "outright.go:66", after := #[{ on := 27, ground := Ground.guard }], guard := some (27, true) }) (v := undef) rfl (by kernel_rfl) (by kernel_rfl) (by kernel_rfl) (fun _ _ _ h => h) (Or.inr ⟨by rfl, rfl⟩) hHeld ?_
                      try simp only [Act.put, List.setIfInBounds_toArray, List.set_cons_zero, List.set_cons_succ]
                      refine wpAnyH_take (i := 34) (oi := { dst := some 105, op := Op.move (Operand.tmp 10), type := 3, pos := "outright.go:66", after := #[{ on := 27, ground := Ground.guard }], guard := some (27, true) }) (v := undef) rfl (by kernel_rfl) (by kernel_rfl) (by kernel_rfl) (fun _ _ _ h => h) (Or.inr ⟨by rfl, rfl⟩) hHeld ?_
                      try simp only [Act.put, List.setIfInBounds_toArray, List.set_cons_zero, List.set_cons_succ]
                      refine wpAnyH_take (i := 35) (oi := { dst := some 106, op := Op.indexAddr 37 (Operand.tmp 104) (Operand.tmp 105), type := 0, pos := "outright.go:66", after := #[{ on := 33, ground := Ground.data }, { on := 34, ground := Ground.data }, { on := 27, ground := Ground.guard }], guard := some (27, true) }) (v := undef) rfl (by kernel_rfl) (by kernel_rfl) (by kernel_rfl) (fun _ _ _ h => h) (Or.inr ⟨by rfl, rfl⟩) hHeld ?_
                      try simp only [Act.put, List.setIfInBounds_toArray, List.set_cons_zero, List.set_cons_succ]
                      refine wpAnyH_take (i := 36) (oi := { dst := some 107, op := Op.fieldAddr 24 (Operand.tmp 106) 1, type := 0, pos := "outright.go:66", after := #[{ on := 35, ground := Ground.data }, { on := 27, ground := Ground.guard }], guard := some (27, true) }) (v := undef) rfl (by kernel_rfl) (by kernel_rfl) (by kernel_rfl) (fun _ _ _ h => h) (Or.inr ⟨by rfl, rfl⟩) hHeld ?_
                      try simp only [Act.put, List.setIfInBounds_toArray, List.set_cons_zero, List.set_cons_succ]
                      refine wpAnyH_take (i := 37) (oi := { dst := some 108, op := Op.load 3 (Operand.tmp 107), type := 3, pos := "outright.go:66", after := #[{ on := 36, ground := Ground.data }, { on := 27, ground := Ground.guard }], guard := some (27, true) }) (v := undef) rfl (by kernel_rfl) (by kernel_rfl) (by kernel_rfl) (fun _ _ _ h => h) (Or.inr ⟨by rfl, rfl⟩) hHeld ?_
                      try simp only [Act.put, List.setIfInBounds_toArray, List.set_cons_zero, List.set_cons_succ]
                      refine wpAnyH_take (i := 38) (oi := { dst := some 109, op := Op.binOp BinOp.sub 3 (Operand.tmp 108) (Operand.const (Value.int IntKind.i64 1)) 3, type := 3, pos := "outright.go:66", after := #[{ on := 37, ground := Ground.data }, { on := 27, ground := Ground.guard }], guard := some (27, true) }) (v := undef) rfl (by kernel_rfl) (by kernel_rfl) (by kernel_rfl) (fun _ _ _ h => h) (Or.inr ⟨by rfl, rfl⟩) hHeld ?_
                      try simp only [Act.put, List.setIfInBounds_toArray, List.set_cons_zero, List.set_cons_succ]
                      refine wpAnyH_take (i := 39) (oi := { dst := some 110, op := Op.call { callee := Callee.value (Operand.func 24), args := #[Operand.tmp 109], argTypes := #[3] }, type := 22, pos := "outright.go:66", after := #[{ on := 38, ground := Ground.data }, { on := 27, ground := Ground.chain }, { on := 27, ground := Ground.guard }], guard := some (27, true) }) (v := undef) rfl (by kernel_rfl) (by kernel_rfl) (by kernel_rfl) (fun _ _ _ h => h) (Or.inr ⟨by rfl, rfl⟩) hHeld ?_
                      try simp only [Act.put, List.setIfInBounds_toArray, List.set_cons_zero, List.set_cons_succ]
                      refine wpAnyH_take (i := 40) (oi := { dst := some 111, op := Op.binOp BinOp.and 22 (Operand.tmp 103) (Operand.tmp 110) 22, type := 22, pos := "outright.go:66", after := #[{ on := 32, ground := Ground.data }, { on := 39, ground := Ground.data }, { on := 27, ground := Ground.guard }], guard := some (27, true) }) (v := undef) rfl (by kernel_rfl) (by kernel_rfl) (by kernel_rfl) (fun _ _ _ h => h) (Or.inr ⟨by rfl, rfl⟩) hHeld ?_
                      try simp only [Act.put, List.setIfInBounds_toArray, List.set_cons_zero, List.set_cons_succ]
                      refine wpAnyH_take (i := 41) (oi := { dst := some 112, op := Op.move (Operand.tmp 5), type := 37, pos := "outright.go:66", after := #[{ on := 27, ground := Ground.guard }], guard := some (27, true) }) (v := undef) rfl (by kernel_rfl) (by kernel_rfl) (by kernel_rfl) (fun _ _ _ h => h) (Or.inr ⟨by rfl, rfl⟩) hHeld ?_
                      try simp only [Act.put, List.setIfInBounds_toArray, List.set_cons_zero, List.set_cons_succ]
                      refine wpAnyH_take (i := 42) (oi := { dst := some 113, op := Op.move (Operand.tmp 10), type := 3, pos := "outright.go:66", after := #[{ on := 27, ground := Ground.guard }], guard := some (27, true) }) (v := undef) rfl (by kernel_rfl) (by kernel_rfl) (by kernel_rfl) (fun _ _ _ h => h) (Or.inr ⟨by rfl, rfl⟩) hHeld ?_
                      try simp only [Act.put, List.setIfInBounds_toArray, List.set_cons_zero, List.set_cons_succ]
                      refine wpAnyH_take (i := 43) (oi := { dst := some 114, op := Op.indexAddr 37 (Operand.tmp 112) (Operand.tmp 113), type := 0, pos := "outright.go:66", after := #[{ on := 41, ground := Ground.data }, { on := 42, ground := Ground.data }, { on := 27, ground := Ground.guard }], guard := some (27, true) }) (v := undef) rfl (by kernel_rfl) (by kernel_rfl) (by kernel_rfl) (fun _ _ _ h => h) (Or.inr ⟨by rfl, rfl⟩) hHeld ?_
                      try simp only [Act.put, List.setIfInBounds_toArray, List.set_cons_zero, List.set_cons_succ]
                      refine wpAnyH_take (i := 44) (oi := { dst := some 115, op := Op.fieldAddr 24 (Operand.tmp 114) 0, type := 0, pos := "outright.go:66", after := #[{ on := 43, ground := Ground.data }, { on := 27, ground := Ground.guard }], guard := some (27, true) }) (v := undef) rfl (by kernel_rfl) (by kernel_rfl) (by kernel_rfl) (fun _ _ _ h => h) (Or.inr ⟨by rfl, rfl⟩) hHeld ?_
                      try simp only [Act.put, List.setIfInBounds_toArray, List.set_cons_zero, List.set_cons_succ]
                      refine wpAnyH_take (i := 45) (oi := { dst := some 116, op := Op.load 22 (Operand.tmp 115), type := 22, pos := "outright.go:66", after := #[{ on := 44, ground := Ground.data }, { on := 27, ground := Ground.guard }], guard := some (27, true) }) (v := undef) rfl (by kernel_rfl) (by kernel_rfl) (by kernel_rfl) (fun _ _ _ h => h) (Or.inr ⟨by rfl, rfl⟩) hHeld ?_
                      try simp only [Act.put, List.setIfInBounds_toArray, List.set_cons_zero, List.set_cons_succ]
                      refine wpAnyH_take (i := 46) (oi := { dst := some 117, op := Op.move (Operand.tmp 5), type := 37, pos := "outright.go:66", after := #[{ on := 27, ground := Ground.guard }], guard := some (27, true) }) (v := undef) rfl (by kernel_rfl) (by kernel_rfl) (by kernel_rfl) (fun _ _ _ h => h) (Or.inr ⟨by rfl, rfl⟩) hHeld ?_
                      try simp only [Act.put, List.setIfInBounds_toArray, List.set_cons_zero, List.set_cons_succ]
                      refine wpAnyH_take (i := 47) (oi := { dst := some 118, op := Op.move (Operand.tmp 10), type := 3, pos := "outright.go:66", after := #[{ on := 27, ground := Ground.guard }], guard := some (27, true) }) (v := undef) rfl (by kernel_rfl) (by kernel_rfl) (by kernel_rfl) (fun _ _ _ h => h) (Or.inr ⟨by rfl, rfl⟩) hHeld ?_
                      try simp only [Act.put, List.setIfInBounds_toArray, List.set_cons_zero, List.set_cons_succ]
                      refine wpAnyH_take (i := 48) (oi := { dst := some 119, op := Op.indexAddr 37 (Operand.tmp 117) (Operand.tmp 118), type := 0, pos := "outright.go:66", after := #[{ on := 46, ground := Ground.data }, { on := 47, ground := Ground.data }, { on := 27, ground := Ground.guard }], guard := some (27, true) }) (v := undef) rfl (by kernel_rfl) (by kernel_rfl) (by kernel_rfl) (fun _ _ _ h => h) (Or.inr ⟨by rfl, rfl⟩) hHeld ?_
                      try simp only [Act.put, List.setIfInBounds_toArray, List.set_cons_zero, List.set_cons_succ]
                      refine wpAnyH_take (i := 49) (oi := { dst := some 120, op := Op.fieldAddr 24 (Operand.tmp 119) 1, type := 0, pos := "outright.go:66", after := #[{ on := 48, ground := Ground.data }, { on := 27, ground := Ground.guard }], guard := some (27, true) }) (v := undef) rfl (by kernel_rfl) (by kernel_rfl) (by kernel_rfl) (fun _ _ _ h => h) (Or.inr ⟨by rfl, rfl⟩) hHeld ?_
                      try simp only [Act.put, List.setIfInBounds_toArray, List.set_cons_zero, List.set_cons_succ]
                      refine wpAnyH_take (i := 50) (oi := { dst := some 121, op := Op.load 3 (Operand.tmp 120), type := 3, pos := "outright.go:66", after := #[{ on := 49, ground := Ground.data }, { on := 27, ground := Ground.guard }], guard := some (27, true) }) (v := undef) rfl (by kernel_rfl) (by kernel_rfl) (by kernel_rfl) (fun _ _ _ h => h) (Or.inr ⟨by rfl, rfl⟩) hHeld ?_
                      try simp only [Act.put, List.setIfInBounds_toArray, List.set_cons_zero, List.set_cons_succ]
                      refine wpAnyH_take (i := 51) (oi := { dst := some 122, op := Op.binOp BinOp.sub 3 (Operand.tmp 121) (Operand.const (Value.int IntKind.i64 1)) 3, type := 3, pos := "outright.go:66", after := #[{ on := 50, ground := Ground.data }, { on := 27, ground := Ground.guard }], guard := some (27, true) }) (v := undef) rfl (by kernel_rfl) (by kernel_rfl) (by kernel_rfl) (fun _ _ _ h => h) (Or.inr ⟨by rfl, rfl⟩) hHeld ?_
                      try simp only [Act.put, List.setIfInBounds_toArray, List.set_cons_zero, List.set_cons_succ]
                      refine wpAnyH_take (i := 52) (oi := { dst := some 123, op := Op.call { callee := Callee.value (Operand.func 24), args := #[Operand.tmp 122], argTypes := #[3] }, type := 22, pos := "outright.go:66", after := #[{ on := 51, ground := Ground.data }, { on := 39, ground := Ground.chain }, { on := 27, ground := Ground.guard }], guard := some (27, true) }) (v := undef) rfl (by kernel_rfl) (by kernel_rfl) (by kernel_rfl) (fun _ _ _ h => h) (Or.inr ⟨by rfl, rfl⟩) hHeld ?_
                      try simp only [Act.put, List.setIfInBounds_toArray, List.set_cons_zero, List.set_cons_succ]
                      refine wpAnyH_take (i := 53) (oi := { dst := some 124, op := Op.binOp BinOp.and 22 (Operand.tmp 116) (Operand.tmp 123) 22, type := 22, pos := "outright.go:66", after := #[{ on := 45, ground := Ground.data }, { on := 52, ground := Ground.data }, { on := 27, ground := Ground.guard }], guard := some (27, true) }) (v := undef) rfl (by kernel_rfl) (by kernel_rfl) (by kernel_rfl) (fun _ _ _ h => h) (Or.inr ⟨by rfl, rfl⟩) hHeld ?_
                      try simp only [Act.put, List.setIfInBounds_toArray, List.set_cons_zero, List.set_cons_succ]
                      refine wpAnyH_take (i := 54) (oi := { dst := some 125, op := Op.binOp BinOp.eql 22 (Operand.tmp 111) (Operand.tmp 124) 22, type := 4, pos := "outright.go:66", after := #[{ on := 40, ground := Ground.data }, { on := 53, ground := Ground.data }, { on := 27, ground := Ground.guard }], guard := some (27, true) }) (v := undef) rfl (by kernel_rfl) (by kernel_rfl) (by kernel_rfl) (fun _ _ _ h => h) (Or.inr ⟨by rfl, rfl⟩) hHeld ?_
                      try simp only [Act.put, List.setIfInBounds_toArray, List.set_cons_zero, List.set_cons_succ]
                      refine wpAnyH_take (i := 55) (oi := { dst := some 126, op := Op.pick (Operand.tmp 98) (Operand.tmp 125) (Operand.const (Value.bool false)), type := 4, pos := "outright.go:66", after := #[{ on := 27, ground := Ground.data }, { on := 54, ground := Ground.data }, { on := 7, ground := Ground.guard }], guard := some (7, false) }) (v := ?_) rfl (by kernel_rfl) (by kernel_rfl) (by kernel_rfl) (fun _ _ _ h => h) (Or.inl ⟨by rfl, ?_⟩) hHeld ?_
                      rotate_left
                      · intro w hSw; (try dsimp only at hSw); go_simp; first | done | with_reducible rfl
                      try simp only [Act.put, List.setIfInBounds_toArray, List.set_cons_zero, List.set_cons_succ]
                      refine wpAnyH_take (i := 56) (oi := { dst := some 127, op := Op.pick (Operand.tmp 78) (Operand.const (Value.bool true)) (Operand.tmp 126), type := 4, pos := "outright.go:66", after := #[{ on := 7, ground := Ground.data }, { on := 55, ground := Ground.data }], guard := none }) (v := ?_) rfl (by kernel_rfl) (by kernel_rfl) (by kernel_rfl) (fun _ _ _ h => h) (Or.inl ⟨by rfl, ?_⟩) hHeld ?_
                      rotate_left
                      · intro w hSw; (try dsimp only at hSw); go_simp; first | done | with_reducible rfl
                      try simp only [Act.put, List.setIfInBounds_toArray, List.set_cons_zero, List.set_cons_succ]
                      refine wpAnyH_done (by kernel_rfl) ?_ _
                      clear hHeld
                      go_wp2_with fail
                      go_roundw
                      case rel => exact ⟨j + 1, by omega, by go_num, HBn.out.trans (((Below.refl w9.heap.size w9).drew).mono HBn.out.size)⟩
                      case measure => simp [intOf]; omega
                  · clear hps hla
                    go_wp2_with fail
                    refine wp_region_held_drew (S := fun w' => Below w9.heap.size w9 w') (by kernel_rfl) ((Below.refl _ _).drew) (fun hHeld => ?_)
                    refine wpAnyH_take (i := 0) (oi := { dst := some 71, op := Op.move (Operand.tmp 12), type := 22, pos := "outright.go:66", after := #[], guard := none }) (v := ?_) rfl (by kernel_rfl) (by kernel_rfl) (by kernel_rfl) (fun _ _ _ h => h) (Or.inl ⟨by rfl, ?_⟩) hHeld ?_
                    rotate_left
                    · intro w hSw; (try dsimp only at hSw); go_simp; first | done | with_reducible rfl
                    try simp only [Act.put, List.setIfInBounds_toArray, List.set_cons_zero, List.set_cons_succ]
                    refine wpAnyH_take (i := 1) (oi := { dst := some 72, op := Op.move (Operand.tmp 5), type := 37, pos := "outright.go:66", after := #[], guard := none }) (v := ?_) rfl (by kernel_rfl) (by kernel_rfl) (by kernel_rfl) (fun _ _ _ h => h) (Or.inl ⟨by rfl, ?_⟩) hHeld ?_
                    rotate_left
                    · intro w hSw; (try dsimp only at hSw); go_simp; first | done | with_reducible rfl
                    try simp only [Act.put, List.setIfInBounds_toArray, List.set_cons_zero, List.set_cons_succ]
                    refine wpAnyH_take (i := 2) (oi := { dst := some 73, op := Op.move (Operand.tmp 10), type := 3, pos := "outright.go:66", after := #[], guard := none }) (v := ?_) rfl (by kernel_rfl) (by kernel_rfl) (by kernel_rfl) (fun _ _ _ h => h) (Or.inl ⟨by rfl, ?_⟩) hHeld ?_
                    rotate_left
                    · intro w hSw; (try dsimp only at hSw); go_simp; first | done | with_reducible rfl
                    try simp only [Act.put, List.setIfInBounds_toArray, List.set_cons_zero, List.set_cons_succ]
                    refine wpAnyH_take (i := 3) (oi := { dst := some 74, op := Op.indexAddr 37 (Operand.tmp 72) (Operand.tmp 73), type := 0, pos := "outright.go:66", after := #[{ on := 1, ground := Ground.data }, { on := 2, ground := Ground.data }], guard := none }) (v := ?_) rfl (by kernel_rfl) (by kernel_rfl) (by kernel_rfl) (fun _ _ _ h => h) (Or.inl ⟨by rfl, ?_⟩) hHeld ?_
                    rotate_left
                    · intro w hSw; (try dsimp only at hSw); have h := hlt'; go_simp; first | done | with_reducible rfl
                    try simp only [Act.put, List.setIfInBounds_toArray, List.set_cons_zero, List.set_cons_succ]
                    refine wpAnyH_take (i := 4) (oi := { dst := some 75, op := Op.fieldAddr 24 (Operand.tmp 74) 0, type := 0, pos := "outright.go:66", after := #[{ on := 3, ground := Ground.data }], guard := none }) (v := ?_) rfl (by kernel_rfl) (by kernel_rfl) (by kernel_rfl) (fun _ _ _ h => h) (Or.inl ⟨by rfl, ?_⟩) hHeld ?_
                    rotate_left
                    · intro w hSw; (try dsimp only at hSw); go_simp; first | done | with_reducible rfl
                    try simp only [Act.put, List.setIfInBounds_toArray, List.set_cons_zero, List.set_cons_succ]
                    refine wpAnyH_take (i := 5) (oi := { dst := some 76, op := Op.load 22 (Operand.tmp 75), type := 22, pos := "outright.go:66", after := #[{ on := 4, ground := Ground.data }], guard := none }) (v := ?_) rfl (by kernel_rfl) (by kernel_rfl) (by kernel_rfl) (fun _ _ _ h => h) (Or.inl ⟨by rfl, ?_⟩) hHeld ?_
                    rotate_left
                    · intro w hSw; (try dsimp only at hSw); have e0 := (hSw.cell (p := ⟨bm, om + k * 2, none⟩) (Nat.lt_of_lt_of_le LD.out HBn.out.size)).trans ((HBn.out.cell (p := ⟨bm, om + k * 2, none⟩) LD.out).trans D0.out); have e1 := (hSw.cell (p := ⟨bm, om + k * 2 + 1, none⟩) (Nat.lt_of_lt_of_le LD.out HBn.out.size)).trans ((HBn.out.cell (p := ⟨bm, om + k * 2 + 1, none⟩) LD.out).trans D1.out); have e2 := (hSw.cell (p := ⟨bm, om + j * 2, none⟩) (Nat.lt_of_lt_of_le LD.out HBn.out.size)).trans ((HBn.out.cell (p := ⟨bm, om + j * 2, none⟩) LD.out).trans E0.out); have e3 := (hSw.cell (p := ⟨bm, om + j * 2 + 1, none⟩) (Nat.lt_of_lt_of_le LD.out HBn.out.size)).trans ((HBn.out.cell (p := ⟨bm, om + j * 2 + 1, none⟩) LD.out).trans E1.out); go_simp; first | done | with_reducible rfl
                    try simp only [Act.put, List.setIfInBounds_toArray, List.set_cons_zero, List.set_cons_succ]
                    refine wpAnyH_take (i := 6) (oi := { dst := some 77, op := Op.binOp BinOp.geq 22 (Operand.tmp 71) (Operand.tmp 76) 22, type := 4, pos := "outright.go:66", after := #[{ on := 0, ground := Ground.data }, { on := 5, ground := Ground.data }], guard := none }) (v := ?_) rfl (by kernel_rfl) (by kernel_rfl) (by kernel_rfl) (fun _ _ _ h => h) (Or.inl ⟨by rfl, ?_⟩) hHeld ?_
                    rotate_left
                    · intro w hSw; (try dsimp only at hSw); have h := HGQ.out; have h2 := HGN.out; go_simp; first | done | with_reducible rfl
                    try simp only [Act.put, List.setIfInBounds_toArray, List.set_cons_zero, List.set_cons_succ]
                    refine wpAnyH_take (i := 7) (oi := { dst := some 78, op := Op.move (Operand.tmp 77), type := 4, pos := "outright.go:66", after := #[{ on := 6, ground := Ground.data }], guard := none }) (v := ?_) rfl (by kernel_rfl) (by kernel_rfl) (by kernel_rfl) (fun _ _ _ h => h) (Or.inl ⟨by rfl, ?_⟩) hHeld ?_
                    rotate_left
                    · intro w hSw; (try dsimp only at hSw); go_simp; first | done | with_reducible rfl
                    try simp only [Act.put, List.setIfInBounds_toArray, List.set_cons_zero, List.set_cons_succ]
                    refine wpAnyH_take (i := 8) (oi := { dst := some 79, op := Op.move (Operand.tmp 5), type := 37, pos := "outright.go:66", after := #[{ on := 7, ground := Ground.guard }], guard := some (7, false) }) (v := ?_) rfl (by kernel_rfl) (by kernel_rfl) (by kernel_rfl) (fun _ _ _ h => h) (Or.inl ⟨by rfl, ?_⟩) hHeld ?_
                    rotate_left
                    · intro w hSw; (try dsimp only at hSw); go_simp; first | done | with_reducible rfl
                    try simp only [Act.put, List.setIfInBounds_toArray, List.set_cons_zero, List.set_cons_succ]
                    refine wpAnyH_take (i := 9) (oi := { dst := some 80, op := Op.move (Operand.tmp 11), type := 3, pos := "outright.go:66", after := #[{ on := 7, ground := Ground.guard }], guard := some (7, false) }) (v := ?_) rfl (by kernel_rfl) (by kernel_rfl) (by kernel_rfl) (fun _ _ _ h => h) (Or.inl ⟨by rfl, ?_⟩) hHeld ?_
                    rotate_left
                    · intro w hSw; (try dsimp only at hSw); go_simp; first | done | with_reducible rfl
                    try simp only [Act.put, List.setIfInBounds_toArray, List.set_cons_zero, List.set_cons_succ]
                    refine wpAnyH_take (i := 10) (oi := { dst := some 81, op := Op.indexAddr 37 (Operand.tmp 79) (Operand.tmp 80), type := 0, pos := "outright.go:66", after := #[{ on := 8, ground := Ground.data }, { on := 9, ground := Ground.data }, { on := 7, ground := Ground.guard }], guard := some (7, false) }) (v := ?_) rfl (by kernel_rfl) (by kernel_rfl) (by kernel_rfl) (fun _ _ _ h => h) (Or.inl ⟨by rfl, ?_⟩) hHeld ?_
                    rotate_left
                    · intro w hSw; (try dsimp only at hSw); have h := hjn; go_simp; first | done | with_reducible rfl
                    try simp only [Act.put, List.setIfInBounds_toArray, List.set_cons_zero, List.set_cons_succ]
                    refine wpAnyH_take (i := 11) (oi := { dst := some 82, op := Op.fieldAddr 24 (Operand.tmp 81) 1, type := 0, pos := "outright.go:66", after := #[{ on := 10, ground := Ground.data }, { on := 7, ground := Ground.guard }], guard := some (7, false) }) (v := ?_) rfl (by kernel_rfl) (by kernel_rfl) (by kernel_rfl) (fun _ _ _ h => h) (Or.inl ⟨by rfl, ?_⟩) hHeld ?_
                    rotate_left
                    · intro w hSw; (try dsimp only at hSw); go_simp; first | done | with_reducible rfl
                    try simp only [Act.put, List.setIfInBounds_toArray, List.set_cons_zero, List.set_cons_succ]
                    refine wpAnyH_take (i := 12) (oi := { dst := some 83, op := Op.load 3 (Operand.tmp 82), type := 3, pos := "outright.go:66", after := #[{ on := 11, ground := Ground.data }, { on := 7, ground := Ground.guard }], guard := some (7, false) }) (v := ?_) rfl (by kernel_rfl) (by kernel_rfl) (by kernel_rfl) (fun _ _ _ h => h) (Or.inl ⟨by rfl, ?_⟩) hHeld ?_
                    rotate_left
                    · intro w hSw; (try dsimp only at hSw); have e0 := (hSw.cell (p := ⟨bm, om + k * 2, none⟩) (Nat.lt_of_lt_of_le LD.out HBn.out.size)).trans ((HBn.out.cell (p := ⟨bm, om + k * 2, none⟩) LD.out).trans D0.out); have e1 := (hSw.cell (p := ⟨bm, om + k * 2 + 1, none⟩) (Nat.lt_of_lt_of_le LD.out HBn.out.size)).trans ((HBn.out.cell (p := ⟨bm, om + k * 2 + 1, none⟩) LD.out).trans D1.out); have e2 := (hSw.cell (p := ⟨bm, om + j * 2, none⟩) (Nat.lt_of_lt_of_le LD.out HBn.out.size)).trans ((HBn.out.cell (p := ⟨bm, om + j * 2, none⟩) LD.out).trans E0.out); have e3 := (hSw.cell (p := ⟨bm, om + j * 2 + 1, none⟩) (Nat.lt_of_lt_of_le LD.out HBn.out.size)).trans ((HBn.out.cell (p := ⟨bm, om + j * 2 + 1, none⟩) LD.out).trans E1.out); go_simp; first | done | with_reducible rfl
                    try simp only [Act.put, List.setIfInBounds_toArray, List.set_cons_zero, List.set_cons_succ]
                    refine wpAnyH_take (i := 13) (oi := { dst := some 84, op := Op.move (Operand.tmp 5), type := 37, pos := "outright.go:66", after := #[{ on := 7, ground := Ground.guard }], guard := some (7, false) }) (v := ?_) rfl (by kernel_rfl) (by kernel_rfl) (by kernel_rfl) (fun _ _ _ h => h) (Or.inl ⟨by rfl, ?_⟩) hHeld ?_
                    rotate_left
                    · intro w hSw; (try dsimp only at hSw); go_simp; first | done | with_reducible rfl
                    try simp only [Act.put, List.setIfInBounds_toArray, List.set_cons_zero, List.set_cons_succ]
                    refine wpAnyH_take (i := 14) (oi := { dst := some 85, op := Op.move (Operand.tmp 10), type := 3, pos := "outright.go:66", after := #[{ on := 7, ground := Ground.guard }], guard := some (7, false) }) (v := ?_) rfl (by kernel_rfl) (by kernel_rfl) (by kernel_rfl) (fun _ _ _ h => h) (Or.inl ⟨by rfl, ?_⟩) hHeld ?_
                    rotate_left
                    · intro w hSw; (try dsimp only at hSw); go_simp; first | done | with_reducible rfl
                    try simp only [Act.put, List.setIfInBounds_toArray, List.set_cons_zero, List.set_cons_succ]
                    refine wpAnyH_take (i := 15) (oi := { dst := some 86, op := Op.indexAddr 37 (Operand.tmp 84) (Operand.tmp 85), type := 0, pos := "outright.go:66", after := #[{ on := 13, ground := Ground.data }, { on := 14, ground := Ground.data }, { on := 7, ground := Ground.guard }], guard := some (7, false) }) (v := ?_) rfl (by kernel_rfl) (by kernel_rfl) (by kernel_rfl) (fun _ _ _ h => h) (Or.inl ⟨by rfl, ?_⟩) hHeld ?_
                    rotate_left
                    · intro w hSw; (try dsimp only at hSw); have h := hlt'; go_simp; first | done | with_reducible rfl
                    try simp only [Act.put, List.setIfInBounds_toArray, List.set_cons_zero, List.set_cons_succ]
                    refine wpAnyH_take (i := 16) (oi := { dst := some 87, op := Op.fieldAddr 24 (Operand.tmp 86) 1, type := 0, pos := "outright.go:66", after := #[{ on := 15, ground := Ground.data }, { on := 7, ground := Ground.guard }], guard := some (7, false) }) (v := ?_) rfl (by kernel_rfl) (by kernel_rfl) (by kernel_rfl) (fun _ _ _ h => h) (Or.inl ⟨by rfl, ?_⟩) hHeld ?_
                    rotate_left
                    · intro w hSw; (try dsimp only at hSw); go_simp; first | done | with_reducible rfl
                    try simp only [Act.put, List.setIfInBounds_toArray, List.set_cons_zero, List.set_cons_succ]
                    refine wpAnyH_take (i := 17) (oi := { dst := some 88, op := Op.load 3 (Operand.tmp 87), type := 3, pos := "outright.go:66", after := #[{ on := 16, ground := Ground.data }, { on := 7, ground := Ground.guard }], guard := some (7, false) }) (v := ?_) rfl (by kernel_rfl) (by kernel_rfl) (by kernel_rfl) (fun _ _ _ h => h) (Or.inl ⟨by rfl, ?_⟩) hHeld ?_
                    rotate_left
                    · intro w hSw; (try dsimp only at hSw); have e0 := (hSw.cell (p := ⟨bm, om + k * 2, none⟩) (Nat.lt_of_lt_of_le LD.out HBn.out.size)).trans ((HBn.out.cell (p := ⟨bm, om + k * 2, none⟩) LD.out).trans D0.out); have e1 := (hSw.cell (p := ⟨bm, om + k * 2 + 1, none⟩) (Nat.lt_of_lt_of_le LD.out HBn.out.size)).trans ((HBn.out.cell (p := ⟨bm, om + k * 2 + 1, none⟩) LD.out).trans D1.out); have e2 := (hSw.cell (p := ⟨bm, om + j * 2, none⟩) (Nat.lt_of_lt_of_le LD.out HBn.out.size)).trans ((HBn.out.cell (p := ⟨bm, om + j * 2, none⟩) LD.out).trans E0.out); have e3 := (hSw.cell (p := ⟨bm, om + j * 2 + 1, none⟩) (Nat.lt_of_lt_of_le LD.out HBn.out.size)).trans ((HBn.out.cell (p := ⟨bm, om + j * 2 + 1, none⟩) LD.out).trans E1.out); go_simp; first | done | with_reducible rfl
                    try simp only [Act.put, List.setIfInBounds_toArray, List.set_cons_zero, List.set_cons_succ]
                    refine wpAnyH_take (i := 18) (oi := { dst := some 89, op := Op.binOp BinOp.eql 3 (Operand.tmp 83) (Operand.tmp 88) 3, type := 4, pos := "outright.go:66", after := #[{ on := 12, ground := Ground.data }, { on := 17, ground := Ground.data }, { on := 7, ground := Ground.guard }], guard := some (7, false) }) (v := ?_) rfl (by kernel_rfl) (by kernel_rfl) (by kernel_rfl) (fun _ _ _ h => h) (Or.inl ⟨by rfl, ?_⟩) hHeld ?_
                    rotate_left
                    · intro w hSw; (try dsimp only at hSw); have h : (jb == ib) = false := (by simpa using he); go_simp; first | done | with_reducible rfl
                    try simp only [Act.put, List.setIfInBounds_toArray, List.set_cons_zero, List.set_cons_succ]
                    refine wpAnyH_take (i := 19) (oi := { dst := some 90, op := Op.move (Operand.tmp 89), type := 4, pos := "outright.go:66", after := #[{ on := 18, ground := Ground.data }, { on := 7, ground := Ground.chain }, { on := 7, ground := Ground.guard }], guard := some (7, false) }) (v := ?_) rfl (by kernel_rfl) (by kernel_rfl) (by kernel_rfl) (fun _ _ _ h => h) (Or.inl ⟨by rfl, ?_⟩) hHeld ?_
                    rotate_left
                    · intro w hSw; (try dsimp only at hSw); go_simp; first | done | with_reducible rfl
                    try simp only [Act.put, List.setIfInBounds_toArray, List.set_cons_zero, List.set_cons_succ]
                    refine wpAnyH_take (i := 20) (oi := { dst := some 91, op := Op.move (Operand.tmp 5), type := 37, pos := "outright.go:66", after := #[{ on := 19, ground := Ground.guard }], guard := some (19, true) }) (v := undef) rfl (by kernel_rfl) (by kernel_rfl) (by kernel_rfl) (fun _ _ _ h => h) (Or.inr ⟨by rfl, rfl⟩) hHeld ?_
                    try simp only [Act.put, List.setIfInBounds_toArray, List.set_cons_zero, List.set_cons_succ]
                    refine wpAnyH_take (i := 21) (oi := { dst := some 92, op := Op.move (Operand.tmp 10), type := 3, pos := "outright.go:66", after := #[{ on := 19, ground := Ground.guard }], guard := some (19, true) }) (v := undef) rfl (by kernel_rfl) (by kernel_rfl) (by kernel_rfl) (fun _ _ _ h => h) (Or.inr ⟨by rfl, rfl⟩) hHeld ?_
                    try simp only [Act.put, List.setIfInBounds_toArray, List.set_cons_zero, List.set_cons_succ]
                    refine wpAnyH_take (i := 22) (oi := { dst := some 93, op := Op.indexAddr 37 (Operand.tmp 91) (Operand.tmp 92), type := 0, pos := "outright.go:66", after := #[{ on := 20, ground := Ground.data }, { on := 21, ground := Ground.data }, { on := 19, ground := Ground.guard }], guard := some (19, true) }) (v := undef) rfl (by kernel_rfl) (by kernel_rfl) (by kernel_rfl) (fun _ _ _ h => h) (Or.inr ⟨by rfl, rfl⟩) hHeld ?_
                    try simp only [Act.put, List.setIfInBounds_toArray, List.set_cons_zero, List.set_cons_succ]
                    refine wpAnyH_take (i := 23) (oi := { dst := some 94, op := Op.fieldAddr 24 (Operand.tmp 93) 1, type := 0, pos := "outright.go:66", after := #[{ on := 22, ground := Ground.data }, { on := 19, ground := Ground.guard }], guard := some (19, true) }) (v := undef) rfl (by kernel_rfl) (by kernel_rfl) (by kernel_rfl) (fun _ _ _ h => h) (Or.inr ⟨by rfl, rfl⟩) hHeld ?_
                    try simp only [Act.put, List.setIfInBounds_toArray, List.set_cons_zero, List.set_cons_succ]
                    refine wpAnyH_take (i := 24) (oi := { dst := some 95, op := Op.load 3 (Operand.tmp 94), type := 3, pos := "outright.go:66", after := #[{ on := 23, ground := Ground.data }, { on := 19, ground := Ground.guard }], guard := some (19, true) }) (v := undef) rfl (by kernel_rfl) (by kernel_rfl) (by kernel_rfl) (fun _ _ _ h => h) (Or.inr ⟨by rfl, rfl⟩) hHeld ?_
                    try simp only [Act.put, List.setIfInBounds_toArray, List.set_cons_zero, List.set_cons_succ]
                    refine wpAnyH_take (i := 25) (oi := { dst := some 96, op := Op.binOp BinOp.gtr 3 (Operand.tmp 95) (Operand.const (Value.int IntKind.i64 0)) 3, type := 4, pos := "outright.go:66", after := #[{ on := 24, ground := Ground.data }, { on := 19, ground := Ground.guard }], guard := some (19, true) }) (v := undef) rfl (by kernel_rfl) (by kernel_rfl) (by kernel_rfl) (fun _ _ _ h => h) (Or.inr ⟨by rfl, rfl⟩) hHeld ?_
                    try simp only [Act.put, List.setIfInBounds_toArray, List.set_cons_zero, List.set_cons_succ]
                    refine wpAnyH_take (i := 26) (oi := { dst := some 97, op := Op.pick (Operand.tmp 90) (Operand.tmp 96) (Operand.const (Value.bool false)), type := 4, pos := "outright.go:66", after := #[{ on := 19, ground := Ground.data }, { on := 25, ground := Ground.data }, { on := 7, ground := Ground.guard }], guard := some (7, false) }) (v := ?_) rfl (by kernel_rfl) (by kernel_rfl) (by kernel_rfl) (fun _ _ _ h => h) (Or.inl ⟨by rfl, ?_⟩) hHeld ?_
                    rotate_left
                    · intro w hSw; (try dsimp only at hSw); go_simp; first | done | with_reducible rfl
                    try simp only [Act.put, List.setIfInBounds_toArray, List.set_cons_zero, List.set_cons_succ]
                    refine wpAnyH_take (i := 27) (oi := { dst := some 98, op := Op.move (Operand.tmp 97), type := 4, pos := "outright.go:66", after := #[{ on := 26, ground := Ground.data }, { on := 19, ground := Ground.chain }, { on := 7, ground := Ground.guard }], guard := some (7, false) }) (v := ?_) rfl (by kernel_rfl) (by kernel_rfl) (by kernel_rfl) (fun _ _ _ h => h) (Or.inl ⟨by rfl, ?_⟩) hHeld ?_
                    rotate_left
                    · intro w hSw; (try dsimp only at hSw); go_simp; first | done | with_reducible rfl
                    try simp only [Act.put, List.setIfInBounds_toArray, List.set_cons_zero, List.set_cons_succ]
                    refine wpAnyH_take (i := 28) (oi := { dst := some 99, op := Op.move (Operand.tmp 5), type := 37, pos := "outright.go:66", after := #[{ on := 27, ground := Ground.guard }], guard := some (27, true) }) (v := undef) rfl (by kernel_rfl) (by kernel_rfl) (by kernel_rfl) (fun _ _ _ h => h) (Or.inr ⟨by rfl, rfl⟩) hHeld ?_
                    try simp only [Act.put, List.setIfInBounds_toArray, List.set_cons_zero, List.set_cons_succ]
                    refine wpAnyH_take (i := 29) (oi := { dst := some 100, op := Op.move (Operand.tmp 11), type := 3, pos := "outright.go:66", after := #[{ on := 27, ground := Ground.guard }], guard := some (27, true) }) (v := undef) rfl (by kernel_rfl) (by kernel_rfl) (by kernel_rfl) (fun _ _ _ h => h) (Or.inr ⟨by rfl, rfl⟩) hHeld ?_
                    try simp only [Act.put, List.setIfInBounds_toArray, List.set_cons_zero, List.set_cons_succ]
                    refine wpAnyH_take (i := 30) (oi := { dst := some 101, op := Op.indexAddr 37 (Operand.tmp 99) (Operand.tmp 100), type := 0, pos := "outright.go:66", after := #[{ on := 28, ground := Ground.data }, { on := 29, ground := Ground.data }, { on := 27, ground := Ground.guard }], guard := some (27, true) }) (v := undef) rfl (by kernel_rfl) (by kernel_rfl) (by kernel_rfl) (fun _ _ _ h => h) (Or.inr ⟨by rfl, rfl⟩) hHeld ?_
                    try simp only [Act.put, List.setIfInBounds_toArray, List.set_cons_zero, List.set_cons_succ]
                    refine wpAnyH_take (i := 31) (oi := { dst := some 102, op := Op.fieldAddr 24 (Operand.tmp 101) 0, type := 0, pos := "outright.go:66", after := #[{ on := 30, ground := Ground.data }, { on := 27, ground := Ground.guard }], guard := some (27, true) }) (v := undef) rfl (by kernel_rfl) (by kernel_rfl) (by kernel_rfl) (fun _ _ _ h => h) (Or.inr ⟨by rfl, rfl⟩) hHeld ?_
                    try simp only [Act.put, List.setIfInBounds_toArray, List.set_cons_zero, List.set_cons_succ]
                    refine wpAnyH_take (i := 32) (oi := { dst := some 103, op := Op.load 22 (Operand.tmp 102), type := 22, pos := "outright.go:66", after := #[{ on := 31, ground := Ground.data }, { on := 27, ground := Ground.guard }], guard := some (27, true) }) (v := undef) rfl (by kernel_rfl) (by kernel_rfl) (by kernel_rfl) (fun _ _ _ h => h) (Or.inr ⟨by rfl, rfl⟩) hHeld ?_
                    try simp only [Act.put, List.setIfInBounds_toArray, List.set_cons_zero, List.set_cons_succ]
                    refine wpAnyH_take (i := 33) (oi := { dst := some 104, op := Op.move (Operand.tmp 5), type := 37, pos := "outright.go:66", after := #[{ on := 27, ground := Ground.guard }], guard := some (27, true) }) (v := undef) rfl (by kernel_rfl) (by kernel_rfl) (by kernel_rfl) (fun _ _ _ h => h) (Or.inr ⟨by rfl, rfl⟩) hHeld ?_
                    try simp only [Act.put, List.setIfInBounds_toArray, List.set_cons_zero, List.set_cons_succ]
                    refine wpAnyH_take (i := 34) (oi := { dst := some 105, op := Op.move (Operand.tmp 10), type := 3, pos := "outright.go:66", after := #[{ on := 27, ground := Ground.guard }], guard := some (27, true) }) (v := undef) rfl (by kernel_rfl) (by kernel_rfl) (by kernel_rfl) (fun _ _ _ h => h) (Or.inr ⟨by rfl, rfl⟩) hHeld ?_
                    try simp only [Act.put, List.setIfInBounds_toArray, List.set_cons_zero, List.set_cons_succ]
                    refine wpAnyH_take (i := 35) (oi := { dst := some 106, op := Op.indexAddr 37 (Operand.tmp 104) (Operand.tmp 105), type := 0, pos := "outright.go:66", after := #[{ on := 33, ground := Ground.data }, { on := 34, ground := Ground.data }, { on := 27, ground := Ground.guard }], guard := some (27, true) }) (v := undef) rfl (by kernel_rfl) (by kernel_rfl) (by kernel_rfl) (fun _ _ _ h => h) (Or.inr ⟨by rfl, rfl⟩) hHeld ?_
                    try simp only [Act.put, List.setIfInBounds_toArray, List.set_cons_zero, List.set_cons_succ]
                    refine wpAnyH_take (i := 36) (oi := { dst := some 107, op := Op.fieldAddr 24 (Operand.tmp 106) 1, type := 0, pos := "outright.go:66", after := #[{ on := 35, ground := Ground.data }, { on := 27, ground := Ground.guard }], guard := some (27, true) }) (v := undef) rfl (by kernel_rfl) (by kernel_rfl) (by kernel_rfl) (fun _ _ _ h => h) (Or.inr ⟨by rfl, rfl⟩) hHeld ?_
                    try simp only [Act.put, List.setIfInBounds_toArray, List.set_cons_zero, List.set_cons_succ]
                    refine wpAnyH_take (i := 37) (oi := { dst := some 108, op := Op.load 3 (Operand.tmp 107), type := 3, pos := "outright.go:66", after := #[{ on := 36, ground := Ground.data }, { on := 27, ground := Ground.guard }], guard := some (27, true) }) (v := undef) rfl (by kernel_rfl) (by kernel_rfl) (by kernel_rfl) (fun _ _ _ h => h) (Or.inr ⟨by rfl, rfl⟩) hHeld ?_
                    try simp only [Act.put, List.setIfInBounds_toArray, List.set_cons_zero, List.set_cons_succ]
                    refine wpAnyH_take (i := 38) (oi := { dst := some 109, op := Op.binOp BinOp.sub 3 (Operand.tmp 108) (Operand.const (Value.int IntKind.i64 1)) 3, type := 3, pos := "outright.go:66", after := #[{ on := 37, ground := Ground.data }, { on := 27, ground := Ground.guard }], guard := some (27, true) }) (v := undef) rfl (by kernel_rfl) (by kernel_rfl) (by kernel_rfl) (fun _ _ _ h => h) (Or.inr ⟨by rfl, rfl⟩) hHeld ?_
                    try simp only [Act.put, List.setIfInBounds_toArray, List.set_cons_zero, List.set_cons_succ]
                    refine wpAnyH_take (i := 39) (oi := { dst := some 110, op := Op.call { callee := Callee.value (Operand.func 24), args := #[Operand.tmp 109], argTypes := #[3] }, type := 22, pos := "outright.go:66", after := #[{ on := 38, ground := Ground.data }, { on := 27, ground := Ground.chain }, { on := 27, ground := Ground.guard }], guard := some (27, true) }) (v := undef) rfl (by kernel_rfl) (by kernel_rfl) (by kernel_rfl) (fun _ _ _ h => h) (Or.inr ⟨by rfl, rfl⟩) hHeld ?_
                    try simp only [Act.put, List.setIfInBounds_toArray, List.set_cons_zero, List.set_cons_succ]
                    refine wpAnyH_take (i := 40) (oi := { dst := some 111, op := Op.binOp BinOp.and 22 (Operand.tmp 103) (Operand.tmp 110) 22, type := 22, pos := "outright.go:66", after := #[{ on := 32, ground := Ground.data }, { on := 39, ground := Ground.data }, { on := 27, ground := Ground.guard }], guard := some (27, true) }) (v := undef) rfl (by kernel_rfl) (by kernel_rfl) (by kernel_rfl) (fun _ _ _ h => h) (Or.inr ⟨by rfl, rfl⟩) hHeld ?_
                    try simp only [Act.put, List.setIfInBounds_toArray, List.set_cons_zero, List.set_cons_succ]
                    refine wpAnyH_take (i := 41) (oi := { dst := some 112, op := Op.move (Operand.tmp 5), type := 37, pos := "outright.go:66", after := #[{ on := 27, ground := Ground.guard }], guard := some (27, true) }) (v := undef) rfl (by kernel_rfl) (by kernel_rfl) (by kernel_rfl) (fun _ _ _ h => h) (Or.inr ⟨by rfl, rfl⟩) hHeld ?_
                    try simp only [Act.put, List.setIfInBounds_toArray, List.set_cons_zero, List.set_cons_succ]
                    refine wpAnyH_take (i := 42) (oi := { dst := some 113, op := Op.move (Operand.tmp 10), type := 3, pos := "outright.go:66", after := #[{ on := 27, ground := Ground.guard }], guard := some (27, true) }) (v := undef) rfl (by kernel_rfl) (by kernel_rfl) (by kernel_rfl) (fun _ _ _ h => h) (Or.inr ⟨by rfl, rfl⟩) hHeld ?_
                    try simp only [Act.put, List.setIfInBounds_toArray, List.set_cons_zero, List.set_cons_succ]
                    refine wpAnyH_take (i := 43) (oi := { dst := some 114, op := Op.indexAddr 37 (Operand.tmp 112) (Operand.tmp 113), type := 0, pos := "outright.go:66", after := #[{ on := 41, ground := Ground.data }, { on := 42, ground := Ground.data }, { on := 27, ground := Ground.guard }], guard := some (27, true) }) (v := undef) rfl (by kernel_rfl) (by kernel_rfl) (by kernel_rfl) (fun _ _ _ h => h) (Or.inr ⟨by rfl, rfl⟩) hHeld ?_
                    try simp only [Act.put, List.setIfInBounds_toArray, List.set_cons_zero, List.set_cons_succ]
                    refine wpAnyH_take (i := 44) (oi := { dst := some 115, op := Op.fieldAddr 24 (Operand.tmp 114) 0, type := 0, pos := "outright.go:66", after := #[{ on := 43, ground := Ground.data }, { on := 27, ground := Ground.guard }], guard := some (27, true) }) (v := undef) rfl (by kernel_rfl) (by kernel_rfl) (by kernel_rfl) (fun _ _ _ h => h) (Or.inr ⟨by rfl, rfl⟩) hHeld ?_
                    try simp only [Act.put, List.setIfInBounds_toArray, List.set_cons_zero, List.set_cons_succ]
                    refine wpAnyH_take (i := 45) (oi := { dst := some 116, op := Op.load 22 (Operand.tmp 115), type := 22, pos := "outright.go:66", after := #[{ on := 44, ground := Ground.data }, { on := 27, ground := Ground.guard }], guard := some (27, true) }) (v := undef) rfl (by kernel_rfl) (by kernel_rfl) (by kernel_rfl) (fun _ _ _ h => h) (Or.inr ⟨by rfl, rfl⟩) hHeld ?_
                    try simp only [Act.put, List.setIfInBounds_toArray, List.set_cons_zero, List.set_cons_succ]
                    refine wpAnyH_take (i := 46) (oi := { dst := some 117, op := Op.move (Operand.tmp 5), type := 37, pos := "outright.go:66", after := #[{ on := 27, ground := Ground.guard }], guard := some (27, true) }) (v := undef) rfl (by kernel_rfl) (by kernel_rfl) (by kernel_rfl) (fun _ _ _ h => h) (Or.inr ⟨by rfl, rfl⟩) hHeld ?_
                    try simp only [Act.put, List.setIfInBounds_toArray, List.set_cons_zero, List.set_cons_succ]
                    refine wpAnyH_take (i := 47) (oi := { dst := some 118, op := Op.move (Operand.tmp 10), type := 3, pos := "outright.go:66", after := #[{ on := 27, ground := Ground.guard }], guard := some (27, true) }) (v := undef) rfl (by kernel_rfl) (by kernel_rfl) (by kernel_rfl) (fun _ _ _ h => h) (Or.inr ⟨by rfl, rfl⟩) hHeld ?_
                    try simp only [Act.put, List.setIfInBounds_toArray, List.set_cons_zero, List.set_cons_succ]
                    refine wpAnyH_take (i := 48) (oi := { dst := some 119, op := Op.indexAddr 37 (Operand.tmp 117) (Operand.tmp 118), type := 0, pos := "outright.go:66", after := #[{ on := 46, ground := Ground.data }, { on := 47, ground := Ground.data }, { on := 27, ground := Ground.guard }], guard := some (27, true) }) (v := undef) rfl (by kernel_rfl) (by kernel_rfl) (by kernel_rfl) (fun _ _ _ h => h) (Or.inr ⟨by rfl, rfl⟩) hHeld ?_
                    try simp only [Act.put, List.setIfInBounds_toArray, List.set_cons_zero, List.set_cons_succ]
                    refine wpAnyH_take (i := 49) (oi := { dst := some 120, op := Op.fieldAddr 24 (Operand.tmp 119) 1, type := 0, pos := "outright.go:66", after := #[{ on := 48, ground := Ground.data }, { on := 27, ground := Ground.guard }], guard := some (27, true) }) (v := undef) rfl (by kernel_rfl) (by kernel_rfl) (by kernel_rfl) (fun _ _ _ h => h) (Or.inr ⟨by rfl, rfl⟩) hHeld ?_
                    try simp only [Act.put, List.setIfInBounds_toArray, List.set_cons_zero, List.set_cons_succ]
                    refine wpAnyH_take (i := 50) (oi := { dst := some 121, op := Op.load 3 (Operand.tmp 120), type := 3, pos := "outright.go:66", after := #[{ on := 49, ground := Ground.data }, { on := 27, ground := Ground.guard }], guard := some (27, true) }) (v := undef) rfl (by kernel_rfl) (by kernel_rfl) (by kernel_rfl) (fun _ _ _ h => h) (Or.inr ⟨by rfl, rfl⟩) hHeld ?_
                    try simp only [Act.put, List.setIfInBounds_toArray, List.set_cons_zero, List.set_cons_succ]
                    refine wpAnyH_take (i := 51) (oi := { dst := some 122, op := Op.binOp BinOp.sub 3 (Operand.tmp 121) (Operand.const (Value.int IntKind.i64 1)) 3, type := 3, pos := "outright.go:66", after := #[{ on := 50, ground := Ground.data }, { on := 27, ground := Ground.guard }], guard := some (27, true) }) (v := undef) rfl (by kernel_rfl) (by kernel_rfl) (by kernel_rfl) (fun _ _ _ h => h) (Or.inr ⟨by rfl, rfl⟩) hHeld ?_
                    try simp only [Act.put, List.setIfInBounds_toArray, List.set_cons_zero, List.set_cons_succ]
                    refine wpAnyH_take (i := 52) (oi := { dst := some 123, op := Op.call { callee := Callee.value (Operand.func 24), args := #[Operand.tmp 122], argTypes := #[3] }, type := 22, pos := "outright.go:66", after := #[{ on := 51, ground := Ground.data }, { on := 39, ground := Ground.chain }, { on := 27, ground := Ground.guard }], guard := some (27, true) }) (v := undef) rfl (by kernel_rfl) (by kernel_rfl) (by kernel_rfl) (fun _ _ _ h => h) (Or.inr ⟨by rfl, rfl⟩) hHeld ?_
                    try simp only [Act.put, List.setIfInBounds_toArray, List.set_cons_zero, List.set_cons_succ]
                    refine wpAnyH_take (i := 53) (oi := { dst := some 124, op := Op.binOp BinOp.and 22 (Operand.tmp 116) (Operand.tmp 123) 22, type := 22, pos := "outright.go:66", after := #[{ on := 45, ground := Ground.data }, { on := 52, ground := Ground.data }, { on := 27, ground := Ground.guard }], guard := some (27, true) }) (v := undef) rfl (by kernel_rfl) (by kernel_rfl) (by kernel_rfl) (fun _ _ _ h => h) (Or.inr ⟨by rfl, rfl⟩) hHeld ?_
                    try simp only [Act.put, List.setIfInBounds_toArray, List.set_cons_zero, List.set_cons_succ]
                    refine wpAnyH_take (i := 54) (oi := { dst := some 125, op := Op.binOp BinOp.eql 22 (Operand.tmp 111) (Operand.tmp 124) 22, type := 4, pos := "outright.go:66", after := #[{ on := 40, ground := Ground.data }, { on := 53, ground := Ground.data }, { on := 27, ground := Ground.guard }], guard := some (27, true) }) (v := undef) rfl (by kernel_rfl) (by kernel_rfl) (by kernel_rfl) (fun _ _ _ h => h) (Or.inr ⟨by rfl, rfl⟩) hHeld ?_
                    try simp only [Act.put, List.setIfInBounds_toArray, List.set_cons_zero, List.set_cons_succ]
                    refine wpAnyH_take (i := 55) (oi := { dst := some 126, op := Op.pick (Operand.tmp 98) (Operand.tmp 125) (Operand.const (Value.bool false)), type := 4, pos := "outright.go:66", after := #[{ on := 27, ground := Ground.data }, { on := 54, ground := Ground.data }, { on := 7, ground := Ground.guard }], guard := some (7, false) }) (v := ?_) rfl (by kernel_rfl) (by kernel_rfl) (by kernel_rfl) (fun _ _ _ h => h) (Or.inl ⟨by rfl, ?_⟩) hHeld ?_
                    rotate_left
                    · intro w hSw; (try dsimp only at hSw); go_simp; first | done | with_reducible rfl
                    try simp only [Act.put, List.setIfInBounds_toArray, List.set_cons_zero, List.set_cons_succ]
                    refine wpAnyH_take (i := 56) (oi := { dst := some 127, op := Op.pick (Operand.tmp 78) (Operand.const (Value.bool true)) (Operand.tmp 126), type := 4, pos := "outright.go:66", after := #[{ on := 7, ground := Ground.data }, { on := 55, ground := Ground.data }], guard := none }) (v := ?_) rfl (by kernel_rfl) (by kernel_rfl) (by kernel_rfl) (fun _ _ _ h => h) (Or.inl ⟨by rfl, ?_⟩) hHeld ?_
                    rotate_left
                    · intro w hSw; (try dsimp only at hSw); go_simp; first | done | with_reducible rfl
                    try simp only [Act.put, List.setIfInBounds_toArray, List.set_cons_zero, List.set_cons_succ]
                    refine wpAnyH_done (by kernel_rfl) ?_ _
                    clear hHeld
                    go_wp2_with fail
                    go_roundw
                    case rel => exact ⟨j + 1, by omega, by go_num, HBn.out.trans (((Below.refl w9.heap.size w9).drew).mono HBn.out.size)⟩
                    case measure => simp [intOf]; omega
                · obtain rfl : j = k := by omega
                  have HBn := hide hB
                  clear hB
                  go_wp2_with fail
                  go_roundw
                  case rel => exact ⟨j + 1, iy, by omega, by go_num, rfl, by rw [HAN.out]; try simp, HBn.out⟩
                  case measure => simp [intOf]; omega
          · obtain rfl : k = n4 := by omega
            have hyb : y = b := by
              rw [hy, List.take_of_length_le (by rw [HN4.out]; exact Nat.le_refl _), HBX.out, ← HALL.out]
              rfl
            subst hyb
            have HBr := hide hB
            clear hy hB
            go_wp2_with fail
            refine (HMQ.out _ _ (HQ.out.below HBr.out)).mono ?_
            rintro e wa ⟨va, rfl, hR, hB⟩
            have HBa := hide (HBr.out.trans (hB.mono HBr.out.size))
            have HVa := hide hR.cAt
            clear hR hB
            go_wp2_with fail
            refine (same_self _ _ _ _ HVa.out (HQ.out.below HBa.out) (by rw [HN4.out]; omega)).mono ?_
            rintro e wc ⟨rfl, hB⟩
            have HBc := hide (HBa.out.trans (hB.mono HBa.out.size))
            clear hB
            go_wp2_with fail
            refine (HMB.out _ _ (HBACK.out.cAt.below HBc.out)).mono ?_
            rintro e wd ⟨vd, rfl, hR, hB⟩
            have HBd := hide (HBc.out.trans (hB.mono HBc.out.size))
            have HVd := hide hR.cAt
            clear hR hB
            go_wp2_with fail
            refine (same_self _ _ _ _ HVd.out (HQ.out.below HBd.out) (by rw [HN4.out]; omega)).mono ?_
            rintro e we ⟨rfl, hB⟩
            have HBe := hide (HB2.out.trans ((HBd.out.trans (hB.mono HBd.out.size)).mono HB2.out.size))
            clear hB
            go_wp2_with fail
            refine (awake_any _ (HE.out.below HBe.out)).mono ?_
            rintro e wf ⟨rfl, hB⟩
            have HBf := hide (HBe.out.trans (hB.mono HBe.out.size))
            clear hB
            go_wp2_with fail
            go_ret
            exact ⟨rfl, HBf.out⟩
end Go.Proofs.YtgikkjjnoakhdaaDoor
