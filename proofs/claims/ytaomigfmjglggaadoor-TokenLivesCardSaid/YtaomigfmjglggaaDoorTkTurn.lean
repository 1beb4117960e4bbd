/- Rotate and Retire of token. -/
import Derived.Test.YtaomigfmjglggaaDoorTkV
import Derived.Test.YtaomigfmjglggaaDoorCdWr
namespace Go.Proofs.YtaomigfmjglggaaDoor
open Go.RowKit

theorem RBox.setN {W : World} {g : Nat} {rv : Value} {o n : Nat} (h : RBox W g rv o n) (m : Nat) : RBox (W.setCell ⟨g, 2, none⟩ (.int .u64 m)) g rv o m := by
  unfold RBox
  rw [heap_setCell_same W g 2 _ _ _ h]
  rfl
theorem RBox.setO {W : World} {g : Nat} {rv : Value} {o n : Nat} (h : RBox W g rv o n) (m : Nat) : RBox (W.setCell ⟨g, 1, none⟩ (.int .u64 m)) g rv m n := by
  unfold RBox
  rw [heap_setCell_same W g 1 _ _ _ h]
  rfl
theorem RBox.setV {W : World} {g : Nat} {rv : Value} {o n : Nat} (h : RBox W g rv o n) (v : Value) : RBox (W.setCell ⟨g, 0, none⟩ v) g v o n := by
  unfold RBox
  rw [heap_setCell_same W g 0 _ _ _ h]
  rfl
theorem RBox.free {W : World} {g : Nat} {rv : Value} {o n : Nat} (h : RBox W g rv o n) (i : Nat) : W.frozen? ⟨g, i, none⟩ = false := by
  have h2 : W.heap[g]? = _ := h
  simp [World.frozen?, h2]
theorem RBox.heap {W : World} {g : Nat} {rv : Value} {o n : Nat} (h : RBox W g rv o n) : W.heap[g]? = some (.cells (ringA rv o n) 25 (0, 0)) := h
theorem RBox.row {W : World} {g : Nat} {rv rv' : Value} {o n o' n' : Nat} (h : RBox W g rv o n) : RBox (W.setRow g (ringA rv' o' n')) g rv' o' n' := setRow_heap W g _ _ _ (0, 0) h
theorem RBox.other {W : World} {g : Nat} {rv : Value} {o n : Nat} (h : RBox W g rv o n) (p : Addr) (v : Value) (hp : g ≠ p.block) : RBox (W.setCell p v) g rv o n := (heap_setCell_other W p g v hp).trans h
theorem sizeRg : (Tryd.prog.info? 25).map (·.size) = some 3 := by kernel_rfl
theorem results_rg2 {fn : Func} {p q : Tmp} (h : fn.results = #[.cell p 25, .tmp q]) (tmps : Array Value) (w : World) (g : Nat) (hp : tmps.getD p undef = .pointer (some ⟨g, 0, none⟩)) (v : Value) (hq : tmps.getD q undef = v) (rv : Value) (o n : Nat) (ht : RBox w g rv o n) :
    (results fn tmps).run Tryd.prog w = .ok (.tuple #[.agg (ringA rv o n), v]) w := by
  have hp' : tmps[p]?.getD undef = .pointer (some ⟨g, 0, none⟩) := by simpa using hp
  have hq' : tmps[q]?.getD undef = v := by simpa using hq
  have hl := run_loadVar_row w g _ _ _ (0, 0) _ ht.heap Tryd.underlying25 rfl sizeRg
  simp [results, h, hp', hq', asAddr, hl]
section
variable {ops : Array Oper} {rest : List Oper} {op : Oper} {a : Act} {w : World} {Q : Exit → Act → World → Prop}
theorem wpList_store_rg (hgd : op.guard = none) (x y : Operand) (ho : op.op = .store 25 x y) (g : Nat) (v : Value) (o n : Nat) (hx : a.eval x = .pointer (some ⟨g, 0, none⟩)) (hy : a.eval y = .agg (ringA v o n)) (hv : v.oneCell' = true) (rv : Value) (o' n' : Nat) (ht : RBox w g rv o' n')
    (h : wpList Tryd.prog ops Q rest (a.put op.dst undef) (w.setRow g (ringA v o n))) : wpList Tryd.prog ops Q (op :: rest) a w :=
  wpList_store_row hgd _ x y ho g _ hx hy _ _ ht.heap sizeRg rfl (all_oneCell_toArray (cs := [v, .int .u64 o, .int .u64 n]) (by intro u hu; simp at hu; rcases hu with rfl | rfl | rfl; exact hv; rfl; rfl)) h
end

set_option maxRecDepth 100000 in
theorem rot1_any (rv : Value) (o n g : Nat) (w : World) (h : RBox w g rv o n) (hn : n + 1 < 18446744073709551616) :
    Calls Tryd.prog 32 #[.pointer (some ⟨g, 0, none⟩)] w (fun e w' => e = .returned (.tuple #[]) ∧ w' = w.setCell ⟨g, 2, none⟩ (.int .u64 (n + 1 : Nat))) := by
  have c2 := h.c2
  have hf := h.free 2
  have hw : IntKind.u64.wrap ((n : Int) + 1) = ((n + 1 : Nat) : Int) := by rw [IntWalk.u64_in _ (by omega)]; omega
  clear h
  go_enter Tryd.func32, Tryd.ntmps32
  go_wp2_with fail
  first | go_end0 | refine bodyPost_ret (results_none rfl _ _ _) rfl ?_
  exact ⟨rfl, rfl⟩
set_option maxRecDepth 100000 in
theorem ret1_any (rv : Value) (o n g : Nat) (w : World) (h : RBox w g rv o n) (hn : o + 1 < 18446744073709551616) :
    Calls Tryd.prog 33 #[.pointer (some ⟨g, 0, none⟩)] w (fun e w' => e = .returned (.tuple #[]) ∧ w' = w.setCell ⟨g, 1, none⟩ (.int .u64 (o + 1 : Nat))) := by
  have c2 := h.c1
  have hf := h.free 1
  have hw : IntKind.u64.wrap ((o : Int) + 1) = ((o + 1 : Nat) : Int) := by rw [IntWalk.u64_in _ (by omega)]; omega
  clear h
  go_enter Tryd.func33, Tryd.ntmps33
  go_wp2_with fail
  first | go_end0 | refine bodyPost_ret (results_none rfl _ _ _) rfl ?_
  exact ⟨rfl, rfl⟩

/-- What a ring's turning answers: o2 and n2 are the oldest and the newest of the turned one. -/
structure Turned (W0 : World) (k : List Int) (o n o2 n2 : Nat) (e : Ending) (w' : World) (v : Value) (a b : Nat) (err : Int) : Prop where
  ret : e = .returned (.tuple #[.agg (ringA v a b), .int .i64 err])
  below : Below W0.heap.size W0 w'
  how : (mayR k.length o n = false ∧ v = .slice none 0 0 ∧ a = 0 ∧ b = 0 ∧ err = 1) ∨ (mayR k.length o n = true ∧ mayR k.length o2 n2 = false ∧ v = .slice none 0 0 ∧ a = 0 ∧ b = 0 ∧ err = 3) ∨
    (mayR k.length o n = true ∧ mayR k.length o2 n2 = true ∧ a = o2 ∧ b = n2 ∧ err = 0 ∧ Row w' W0.heap.size v k)
theorem mayR_most {m o n : Nat} (h : mayR m o n = true) : n ≤ 4611686018427387903 ∧ o ≤ n := by
  simp only [mayR, Bool.and_eq_true, decide_eq_true_eq] at h
  exact ⟨h.2, h.1.2⟩
theorem slice_one (ao : Option Addr) (n c : Nat) : (Value.slice ao n c).oneCell' = true := rfl
theorem Row.one {W : World} {B : Nat} {v : Value} {xs : List Int} (h : Row W B v xs) : v.oneCell' = true := by
  obtain ⟨ao, cap, rfl⟩ := h.slAt.len
  rfl

theorem keep_two (w5 : World) (B g0 g1 : Nat) (v : Value) (cs : Array Value) (h0 : g0 < B) (h1 : g1 < B) : Keep (fun k => k < B) w5 ((w5.setCell ⟨g0, 0, none⟩ v).setRow g1 cs) := by
  have hb := below_setRow (((Below.refl 0 w5).setCell (p := ⟨g0, 0, none⟩) (Nat.zero_le _) v)) (g := g1) (Nat.zero_le _) cs
  refine ⟨hb.os, hb.tape, hb.output, hb.size, fun k _ hf => ?_⟩
  rw [_root_.Go.setRow_other _ _ k cs (by intro e; exact hf (by omega))]
  exact heap_setCell_other w5 ⟨g0, 0, none⟩ k v (by intro e; exact hf (by rw [e]; exact h0))

set_option maxRecDepth 100000 in
set_option maxHeartbeats 1000000 in
theorem turnN_any (k : List Int) (rv : Value) (o n : Nat) (w : World) (hk : SlAt w rv k) :
    Calls Tryd.prog 31 #[.agg (ringA rv o n), .func (.func 32) #[] #[]] w (fun e w' => ∃ v a b err, Turned w k o n (o) (n + 1) e w' v a b err) := by
  obtain ⟨ra, rc, rfl⟩ := hk.len
  have HK := hide hk
  have HB := hide (((Below.refl w.heap.size w).alloc (Nat.le_refl _) (.cells #[.slice ra k.length rc, .int .u64 o, .int .u64 n] 25)).alloc (by simp) (.cells #[.slice none 0 0, .int .u64 0, .int .u64 0] 25))
  have HR := hide (show RBox ((w.alloc (.cells #[.slice ra k.length rc, .int .u64 o, .int .u64 n] 25)).alloc (.cells #[.slice none 0 0, .int .u64 0, .int .u64 0] 25)) w.heap.size (.slice ra k.length rc) o n from (RBox.new w (.slice ra k.length rc) o n).alloc _)
  have hz : RBox ((w.alloc (.cells #[.slice ra k.length rc, .int .u64 o, .int .u64 n] 25)).alloc (.cells #[.slice none 0 0, .int .u64 0, .int .u64 0] 25)) (w.heap.size + 1) (.slice none 0 0) 0 0 := by
    have h := heap_alloc_new (w.alloc (.cells #[.slice ra k.length rc, .int .u64 o, .int .u64 n] 25)) (.cells #[.slice none 0 0, .int .u64 0, .int .u64 0] 25)
    rw [show (w.alloc (.cells #[.slice ra k.length rc, .int .u64 o, .int .u64 n] 25)).heap.size = w.heap.size + 1 from by simp] at h
    exact h
  have HZ := hide hz
  have HC1 := hide (fun W => ring_any ra k.length rc o n W)
  have HC2 := hide (fun W => ring_any ra k.length rc (o) (n + 1) W)
  have HLN := hide (fun h : mayR k.length o n = true => And.intro (mayR_most h) (mayR_len h))
  have HTP := hide (fun (e : Ending) (w' : World) (v : Value) (a b : Nat) (err : Int) (h1 : _) (h2 : _) (h3 : _) => (⟨h1, h2, h3⟩ : Turned w k o n (o) (n + 1) e w' v a b err))
  clear hk hz
  generalize mayR k.length o n = MR at *
  generalize mayR k.length (o) (n + 1) = MN at *
  generalize hq : k.length = q at *
  have HQ := hide hq
  clear hq
  have c0 := HR.out.c0
  have c1 := HR.out.c1
  have c2 := HR.out.c2
  unfold ringA at HC1 HC2 ⊢
  by_cases g0 : MR = false
  · subst g0
    go_enter Tryd.func31, Tryd.ntmps31
    go_wp2_with (first | (go_at_call 13; refine (HC1.out _).mono ?_; rintro e w2 ⟨rfl, hB2⟩; have HR2 := hide (HR.out.next hB2); have HZ2 := hide (HZ.out.next hB2); have HB2 := hide (HB.out.trans (hB2.mono HB.out.size)); clear c0 c1 c2 hB2 HR HZ HB HC1) | (refine wpList_store_rg rfl (.tmp 4) (.tmp 9) rfl (w.heap.size + 1) (.slice none 0 0) 0 0 rfl rfl rfl _ _ _ HZ2.out ?_))
    exact bodyPost_ret (results_rg2 rfl _ _ (w.heap.size + 1) rfl _ rfl (.slice none 0 0) 0 0 HZ2.out.row) rfl ⟨_, _, _, _, HTP.out _ _ _ _ _ _ rfl (below_setRow HB2.out (by omega) _) (by simp)⟩
  obtain rfl : MR = true := by simpa using g0
  have hn : n + 1 < 18446744073709551616 := by have := (HLN.out (by first | rfl | trivial)).1; omega
  have hcl := hide (fun W (h : RBox W w.heap.size (.slice ra q rc) o n) => rot1_any (.slice ra q rc) o n w.heap.size W h hn)
  clear hn g0
  by_cases g1 : MN = false
  · subst g1
    go_enter Tryd.func31, Tryd.ntmps31
    go_wp2_with (first | (go_at_call 13; refine (HC1.out _).mono ?_; rintro e w2 ⟨rfl, hB2⟩; have HR2 := hide (HR.out.next hB2); have HZ2 := hide (HZ.out.next hB2); have HB2 := hide (HB.out.trans (hB2.mono HB.out.size)); clear c0 c1 c2 hB2 HR HZ HB HC1) | (go_at_call 32; refine (hcl.out _ HR2.out).mono ?_; rintro e w3 ⟨rfl, hw3⟩; have HR3 := hide (show RBox w3 w.heap.size (.slice ra q rc) (o) (n + 1) from by rw [hw3]; exact HR2.out.setN _); have HZ3 := hide (show RBox w3 (w.heap.size + 1) (.slice none 0 0) 0 0 from by rw [hw3]; exact HZ2.out.other _ _ (by simp)); have HB3 := hide (show Below w.heap.size w w3 from by rw [hw3]; exact HB2.out.setCell (Nat.le_refl _) _); have d0 := HR3.out.c0; have d1 := HR3.out.c1; have d2 := HR3.out.c2; clear hw3 hcl HR2 HZ2 HB2) | (go_at_call 13; refine (HC2.out _).mono ?_; rintro e w4 ⟨rfl, hB4⟩; have HR4 := hide (HR3.out.next hB4); have HZ4 := hide (HZ3.out.next hB4); have HB4 := hide (HB3.out.trans (hB4.mono HB3.out.size)); have e0 := HR4.out.c0; clear d0 d1 d2 hB4 HR3 HZ3 HB3 HC2) | (refine wpList_store_rg rfl (.tmp 4) (.tmp 15) rfl (w.heap.size + 1) (.slice none 0 0) 0 0 rfl rfl rfl _ _ _ HZ4.out ?_))
    exact bodyPost_ret (results_rg2 rfl _ _ (w.heap.size + 1) rfl _ rfl (.slice none 0 0) 0 0 HZ4.out.row) rfl ⟨_, _, _, _, HTP.out _ _ _ _ _ _ rfl (below_setRow HB4.out (by omega) _) (by simp)⟩
  obtain rfl : MN = true := by simpa using g1
  clear g1
  go_enter Tryd.func31, Tryd.ntmps31
  go_wp2_with (first | (go_at_call 13; refine (HC1.out _).mono ?_; rintro e w2 ⟨rfl, hB2⟩; have HR2 := hide (HR.out.next hB2); have HZ2 := hide (HZ.out.next hB2); have HB2 := hide (HB.out.trans (hB2.mono HB.out.size)); clear c0 c1 c2 hB2 HR HZ HB HC1) | (go_at_call 32; refine (hcl.out _ HR2.out).mono ?_; rintro e w3 ⟨rfl, hw3⟩; have HR3 := hide (show RBox w3 w.heap.size (.slice ra q rc) (o) (n + 1) from by rw [hw3]; exact HR2.out.setN _); have HZ3 := hide (show RBox w3 (w.heap.size + 1) (.slice none 0 0) 0 0 from by rw [hw3]; exact HZ2.out.other _ _ (by simp)); have HB3 := hide (show Below w.heap.size w w3 from by rw [hw3]; exact HB2.out.setCell (Nat.le_refl _) _); have d0 := HR3.out.c0; have d1 := HR3.out.c1; have d2 := HR3.out.c2; clear hw3 hcl HR2 HZ2 HB2) | (go_at_call 13; refine (HC2.out _).mono ?_; rintro e w4 ⟨rfl, hB4⟩; have HR4 := hide (HR3.out.next hB4); have HZ4 := hide (HZ3.out.next hB4); have HB4 := hide (HB3.out.trans (hB4.mono HB3.out.size)); have e0 := HR4.out.c0; clear d0 d1 d2 hB4 HR3 HZ3 HB3 HC2) | (go_at_call 46; refine (clone_any (.slice ra q rc) k _ (HK.out.below HB4.out) (by have := (HLN.out (by first | rfl | trivial)).2; have := HQ.out; omega)).mono ?_; rintro e w5 ⟨vc, rfl, hrow, hB5⟩; obtain ⟨vao, vcp, hvc⟩ := hrow.slAt.len; obtain ⟨vn, hvn⟩ : ∃ vn, vn = k.length := ⟨_, rfl⟩; rw [← hvn] at hvc; subst hvc; clear hvn; have HR5 := hide (HR4.out.next hB5); have HZ5 := hide (HZ4.out.next hB5); have HB5 := hide (HB4.out.trans (hB5.mono HB4.out.size)); have HROW := hide hrow; have HGE := hide (fun (kk : Nat) (h : (Value.slice vao vn vcp).ownBlock = some kk) => hrow.ge h); have HL4 := hide (show w.heap.size + 1 < w4.heap.size from HZ4.out.lt); have HONE := hide hrow.one; have f0 := HR5.out.free 0; have f1 := HR5.out.c0; have HR6 := hide (HR5.out.setV (.slice vao vn vcp)); have HZ6 := hide (HZ5.out.other ⟨w.heap.size, 0, none⟩ (.slice vao vn vcp) (by simp)); have HB6 := hide (HB5.out.setCell (p := ⟨w.heap.size, 0, none⟩) (Nat.le_refl _) (.slice vao vn vcp)); have HB4S := hide HB4.out.size; have g0 := HR6.out.c0; have g1 := HR6.out.c1; have g2 := HR6.out.c2; clear e0 hrow hB5 HR4 HZ4 HR5 HZ5 HB5) | (refine wpList_store_rg rfl (.tmp 4) (.tmp 20) rfl (w.heap.size + 1) (.slice vao vn vcp) (o) (n + 1) rfl rfl HONE.out _ _ _ HZ6.out ?_))
  refine bodyPost_ret (results_rg2 rfl _ _ (w.heap.size + 1) rfl _ rfl (.slice vao vn vcp) (o) (n + 1) HZ6.out.row) rfl ⟨_, _, _, _, HTP.out _ _ _ _ _ _ rfl (below_setRow HB6.out (by omega) _) ?_⟩
  have hrow := HROW.out.keep (keep_two w5 w4.heap.size w.heap.size (w.heap.size + 1) (.slice vao vn vcp) (ringA (.slice vao vn vcp) (o) (n + 1)) (by have := HL4.out; omega) HL4.out) (fun kk e h => by have := HGE.out kk e; omega)
  have hrow2 := hrow.base HB4S.out
  simp
  exact hrow2

set_option maxRecDepth 100000 in
set_option maxHeartbeats 1000000 in
theorem turnO_any (k : List Int) (rv : Value) (o n : Nat) (w : World) (hk : SlAt w rv k) :
    Calls Tryd.prog 31 #[.agg (ringA rv o n), .func (.func 33) #[] #[]] w (fun e w' => ∃ v a b err, Turned w k o n (o + 1) (n) e w' v a b err) := by
  obtain ⟨ra, rc, rfl⟩ := hk.len
  have HK := hide hk
  have HB := hide (((Below.refl w.heap.size w).alloc (Nat.le_refl _) (.cells #[.slice ra k.length rc, .int .u64 o, .int .u64 n] 25)).alloc (by simp) (.cells #[.slice none 0 0, .int .u64 0, .int .u64 0] 25))
  have HR := hide (show RBox ((w.alloc (.cells #[.slice ra k.length rc, .int .u64 o, .int .u64 n] 25)).alloc (.cells #[.slice none 0 0, .int .u64 0, .int .u64 0] 25)) w.heap.size (.slice ra k.length rc) o n from (RBox.new w (.slice ra k.length rc) o n).alloc _)
  have hz : RBox ((w.alloc (.cells #[.slice ra k.length rc, .int .u64 o, .int .u64 n] 25)).alloc (.cells #[.slice none 0 0, .int .u64 0, .int .u64 0] 25)) (w.heap.size + 1) (.slice none 0 0) 0 0 := by
    have h := heap_alloc_new (w.alloc (.cells #[.slice ra k.length rc, .int .u64 o, .int .u64 n] 25)) (.cells #[.slice none 0 0, .int .u64 0, .int .u64 0] 25)
    rw [show (w.alloc (.cells #[.slice ra k.length rc, .int .u64 o, .int .u64 n] 25)).heap.size = w.heap.size + 1 from by simp] at h
    exact h
  have HZ := hide hz
  have HC1 := hide (fun W => ring_any ra k.length rc o n W)
  have HC2 := hide (fun W => ring_any ra k.length rc (o + 1) (n) W)
  have HLN := hide (fun h : mayR k.length o n = true => And.intro (mayR_most h) (mayR_len h))
  have HTP := hide (fun (e : Ending) (w' : World) (v : Value) (a b : Nat) (err : Int) (h1 : _) (h2 : _) (h3 : _) => (⟨h1, h2, h3⟩ : Turned w k o n (o + 1) (n) e w' v a b err))
  clear hk hz
  generalize mayR k.length o n = MR at *
  generalize mayR k.length (o + 1) (n) = MN at *
  generalize hq : k.length = q at *
  have HQ := hide hq
  clear hq
  have c0 := HR.out.c0
  have c1 := HR.out.c1
  have c2 := HR.out.c2
  unfold ringA at HC1 HC2 ⊢
  by_cases g0 : MR = false
  · subst g0
    go_enter Tryd.func31, Tryd.ntmps31
    go_wp2_with (first | (go_at_call 13; refine (HC1.out _).mono ?_; rintro e w2 ⟨rfl, hB2⟩; have HR2 := hide (HR.out.next hB2); have HZ2 := hide (HZ.out.next hB2); have HB2 := hide (HB.out.trans (hB2.mono HB.out.size)); clear c0 c1 c2 hB2 HR HZ HB HC1) | (refine wpList_store_rg rfl (.tmp 4) (.tmp 9) rfl (w.heap.size + 1) (.slice none 0 0) 0 0 rfl rfl rfl _ _ _ HZ2.out ?_))
    exact bodyPost_ret (results_rg2 rfl _ _ (w.heap.size + 1) rfl _ rfl (.slice none 0 0) 0 0 HZ2.out.row) rfl ⟨_, _, _, _, HTP.out _ _ _ _ _ _ rfl (below_setRow HB2.out (by omega) _) (by simp)⟩
  obtain rfl : MR = true := by simpa using g0
  have hn : o + 1 < 18446744073709551616 := by have := (HLN.out (by first | rfl | trivial)).1; omega
  have hcl := hide (fun W (h : RBox W w.heap.size (.slice ra q rc) o n) => ret1_any (.slice ra q rc) o n w.heap.size W h hn)
  clear hn g0
  by_cases g1 : MN = false
  · subst g1
    go_enter Tryd.func31, Tryd.ntmps31
    go_wp2_with (first | (go_at_call 13; refine (HC1.out _).mono ?_; rintro e w2 ⟨rfl, hB2⟩; have HR2 := hide (HR.out.next hB2); have HZ2 := hide (HZ.out.next hB2); have HB2 := hide (HB.out.trans (hB2.mono HB.out.size)); clear c0 c1 c2 hB2 HR HZ HB HC1) | (go_at_call 33; refine (hcl.out _ HR2.out).mono ?_; rintro e w3 ⟨rfl, hw3⟩; have HR3 := hide (show RBox w3 w.heap.size (.slice ra q rc) (o + 1) (n) from by rw [hw3]; exact HR2.out.setO _); have HZ3 := hide (show RBox w3 (w.heap.size + 1) (.slice none 0 0) 0 0 from by rw [hw3]; exact HZ2.out.other _ _ (by simp)); have HB3 := hide (show Below w.heap.size w w3 from by rw [hw3]; exact HB2.out.setCell (Nat.le_refl _) _); have d0 := HR3.out.c0; have d1 := HR3.out.c1; have d2 := HR3.out.c2; clear hw3 hcl HR2 HZ2 HB2) | (go_at_call 13; refine (HC2.out _).mono ?_; rintro e w4 ⟨rfl, hB4⟩; have HR4 := hide (HR3.out.next hB4); have HZ4 := hide (HZ3.out.next hB4); have HB4 := hide (HB3.out.trans (hB4.mono HB3.out.size)); have e0 := HR4.out.c0; clear d0 d1 d2 hB4 HR3 HZ3 HB3 HC2) | (refine wpList_store_rg rfl (.tmp 4) (.tmp 15) rfl (w.heap.size + 1) (.slice none 0 0) 0 0 rfl rfl rfl _ _ _ HZ4.out ?_))
    exact bodyPost_ret (results_rg2 rfl _ _ (w.heap.size + 1) rfl _ rfl (.slice none 0 0) 0 0 HZ4.out.row) rfl ⟨_, _, _, _, HTP.out _ _ _ _ _ _ rfl (below_setRow HB4.out (by omega) _) (by simp)⟩
  obtain rfl : MN = true := by simpa using g1
  clear g1
  go_enter Tryd.func31, Tryd.ntmps31
  go_wp2_with (first | (go_at_call 13; refine (HC1.out _).mono ?_; rintro e w2 ⟨rfl, hB2⟩; have HR2 := hide (HR.out.next hB2); have HZ2 := hide (HZ.out.next hB2); have HB2 := hide (HB.out.trans (hB2.mono HB.out.size)); clear c0 c1 c2 hB2 HR HZ HB HC1) | (go_at_call 33; refine (hcl.out _ HR2.out).mono ?_; rintro e w3 ⟨rfl, hw3⟩; have HR3 := hide (show RBox w3 w.heap.size (.slice ra q rc) (o + 1) (n) from by rw [hw3]; exact HR2.out.setO _); have HZ3 := hide (show RBox w3 (w.heap.size + 1) (.slice none 0 0) 0 0 from by rw [hw3]; exact HZ2.out.other _ _ (by simp)); have HB3 := hide (show Below w.heap.size w w3 from by rw [hw3]; exact HB2.out.setCell (Nat.le_refl _) _); have d0 := HR3.out.c0; have d1 := HR3.out.c1; have d2 := HR3.out.c2; clear hw3 hcl HR2 HZ2 HB2) | (go_at_call 13; refine (HC2.out _).mono ?_; rintro e w4 ⟨rfl, hB4⟩; have HR4 := hide (HR3.out.next hB4); have HZ4 := hide (HZ3.out.next hB4); have HB4 := hide (HB3.out.trans (hB4.mono HB3.out.size)); have e0 := HR4.out.c0; clear d0 d1 d2 hB4 HR3 HZ3 HB3 HC2) | (go_at_call 46; refine (clone_any (.slice ra q rc) k _ (HK.out.below HB4.out) (by have := (HLN.out (by first | rfl | trivial)).2; have := HQ.out; omega)).mono ?_; rintro e w5 ⟨vc, rfl, hrow, hB5⟩; obtain ⟨vao, vcp, hvc⟩ := hrow.slAt.len; obtain ⟨vn, hvn⟩ : ∃ vn, vn = k.length := ⟨_, rfl⟩; rw [← hvn] at hvc; subst hvc; clear hvn; have HR5 := hide (HR4.out.next hB5); have HZ5 := hide (HZ4.out.next hB5); have HB5 := hide (HB4.out.trans (hB5.mono HB4.out.size)); have HROW := hide hrow; have HGE := hide (fun (kk : Nat) (h : (Value.slice vao vn vcp).ownBlock = some kk) => hrow.ge h); have HL4 := hide (show w.heap.size + 1 < w4.heap.size from HZ4.out.lt); have HONE := hide hrow.one; have f0 := HR5.out.free 0; have f1 := HR5.out.c0; have HR6 := hide (HR5.out.setV (.slice vao vn vcp)); have HZ6 := hide (HZ5.out.other ⟨w.heap.size, 0, none⟩ (.slice vao vn vcp) (by simp)); have HB6 := hide (HB5.out.setCell (p := ⟨w.heap.size, 0, none⟩) (Nat.le_refl _) (.slice vao vn vcp)); have HB4S := hide HB4.out.size; have g0 := HR6.out.c0; have g1 := HR6.out.c1; have g2 := HR6.out.c2; clear e0 hrow hB5 HR4 HZ4 HR5 HZ5 HB5) | (refine wpList_store_rg rfl (.tmp 4) (.tmp 20) rfl (w.heap.size + 1) (.slice vao vn vcp) (o + 1) (n) rfl rfl HONE.out _ _ _ HZ6.out ?_))
  refine bodyPost_ret (results_rg2 rfl _ _ (w.heap.size + 1) rfl _ rfl (.slice vao vn vcp) (o + 1) (n) HZ6.out.row) rfl ⟨_, _, _, _, HTP.out _ _ _ _ _ _ rfl (below_setRow HB6.out (by omega) _) ?_⟩
  have hrow := HROW.out.keep (keep_two w5 w4.heap.size w.heap.size (w.heap.size + 1) (.slice vao vn vcp) (ringA (.slice vao vn vcp) (o + 1) (n)) (by have := HL4.out; omega) HL4.out) (fun kk e h => by have := HGE.out kk e; omega)
  have hrow2 := hrow.base HB4S.out
  simp
  exact hrow2

theorem Turned.slice {W0 : World} {k : List Int} {o n o2 n2 : Nat} {e : Ending} {w' : World} {v : Value} {a b : Nat} {err : Int} (h : Turned W0 k o n o2 n2 e w' v a b err) : ∃ va vl vc, v = .slice va vl vc := by
  rcases h.how with ⟨_, h, _⟩ | ⟨_, _, h, _⟩ | ⟨_, _, _, _, _, h⟩
  · exact ⟨_, _, _, h⟩
  · exact ⟨_, _, _, h⟩
  · obtain ⟨ao, c, h⟩ := h.slAt.len
    exact ⟨_, _, _, h⟩

set_option maxRecDepth 100000 in
set_option maxHeartbeats 1000000 in
theorem rotate_any (k : List Int) (rv : Value) (o n : Nat) (w : World) (hk : SlAt w rv k) :
    Calls Tryd.prog 18 #[.agg (ringA rv o n)] w (fun e w' => ∃ v a b err, Turned w k o n (o) (n + 1) e w' v a b err) := by
  obtain ⟨ra, rc, rfl⟩ := hk.len
  have HB := hide (((Below.refl w.heap.size w).alloc (Nat.le_refl _) (.cells #[.slice ra k.length rc, .int .u64 o, .int .u64 n] 25)).alloc (by simp) (.cells #[.slice none 0 0, .int .u64 0, .int .u64 0] 25))
  have hz : RBox ((w.alloc (.cells #[.slice ra k.length rc, .int .u64 o, .int .u64 n] 25)).alloc (.cells #[.slice none 0 0, .int .u64 0, .int .u64 0] 25)) (w.heap.size + 1) (.slice none 0 0) 0 0 := by
    have h := heap_alloc_new (w.alloc (.cells #[.slice ra k.length rc, .int .u64 o, .int .u64 n] 25)) (.cells #[.slice none 0 0, .int .u64 0, .int .u64 0] 25)
    rw [show (w.alloc (.cells #[.slice ra k.length rc, .int .u64 o, .int .u64 n] 25)).heap.size = w.heap.size + 1 from by simp] at h
    exact h
  have HZ := hide hz
  have HC := hide (turnN_any k (.slice ra k.length rc) o n _ (hk.below HB.out))
  clear hk hz
  generalize k.length = q at *
  unfold ringA at HC ⊢
  go_enter Tryd.func18, Tryd.ntmps18
  go_wp2_with fail
  refine HC.out.mono ?_
  rintro e w2 ⟨v, a, b, err, h⟩
  obtain ⟨va, vl, vc, rfl⟩ := h.slice
  obtain ⟨rfl, hB, how⟩ := h
  have HZ2 := hide (HZ.out.next hB)
  have HB2 := hide (HB.out.trans (hB.mono HB.out.size))
  have HHOW := hide how
  have HL := hide HZ.out.lt
  have HS := hide HB.out.size
  clear how hB HC HZ HB
  go_wp2_with (refine wpList_store_rg rfl (.tmp 2) (.tmp 6) rfl (w.heap.size + 1) (.slice va vl vc) a b rfl rfl rfl _ _ _ HZ2.out ?_)
  refine bodyPost_ret (results_rg2 rfl _ _ (w.heap.size + 1) rfl _ rfl (.slice va vl vc) a b HZ2.out.row) rfl ⟨_, _, _, _, ⟨rfl, below_setRow HB2.out (by omega) _, ?_⟩⟩
  rcases HHOW.out with h | h | ⟨h1, h2, h3, h4, h5, h6⟩
  · exact .inl h
  · exact .inr (.inl h)
  · exact .inr (.inr ⟨h1, h2, h3, h4, h5, ownsRow_base (ownsRow_setRow h6 HL.out _) HS.out⟩)

set_option maxRecDepth 100000 in
set_option maxHeartbeats 1000000 in
theorem retire_any (k : List Int) (rv : Value) (o n : Nat) (w : World) (hk : SlAt w rv k) :
    Calls Tryd.prog 19 #[.agg (ringA rv o n)] w (fun e w' => ∃ v a b err, Turned w k o n (o + 1) (n) e w' v a b err) := by
  obtain ⟨ra, rc, rfl⟩ := hk.len
  have HB := hide (((Below.refl w.heap.size w).alloc (Nat.le_refl _) (.cells #[.slice ra k.length rc, .int .u64 o, .int .u64 n] 25)).alloc (by simp) (.cells #[.slice none 0 0, .int .u64 0, .int .u64 0] 25))
  have hz : RBox ((w.alloc (.cells #[.slice ra k.length rc, .int .u64 o, .int .u64 n] 25)).alloc (.cells #[.slice none 0 0, .int .u64 0, .int .u64 0] 25)) (w.heap.size + 1) (.slice none 0 0) 0 0 := by
    have h := heap_alloc_new (w.alloc (.cells #[.slice ra k.length rc, .int .u64 o, .int .u64 n] 25)) (.cells #[.slice none 0 0, .int .u64 0, .int .u64 0] 25)
    rw [show (w.alloc (.cells #[.slice ra k.length rc, .int .u64 o, .int .u64 n] 25)).heap.size = w.heap.size + 1 from by simp] at h
    exact h
  have HZ := hide hz
  have HC := hide (turnO_any k (.slice ra k.length rc) o n _ (hk.below HB.out))
  clear hk hz
  generalize k.length = q at *
  unfold ringA at HC ⊢
  go_enter Tryd.func19, Tryd.ntmps19
  go_wp2_with fail
  refine HC.out.mono ?_
  rintro e w2 ⟨v, a, b, err, h⟩
  obtain ⟨va, vl, vc, rfl⟩ := h.slice
  obtain ⟨rfl, hB, how⟩ := h
  have HZ2 := hide (HZ.out.next hB)
  have HB2 := hide (HB.out.trans (hB.mono HB.out.size))
  have HHOW := hide how
  have HL := hide HZ.out.lt
  have HS := hide HB.out.size
  clear how hB HC HZ HB
  go_wp2_with (refine wpList_store_rg rfl (.tmp 2) (.tmp 6) rfl (w.heap.size + 1) (.slice va vl vc) a b rfl rfl rfl _ _ _ HZ2.out ?_)
  refine bodyPost_ret (results_rg2 rfl _ _ (w.heap.size + 1) rfl _ rfl (.slice va vl vc) a b HZ2.out.row) rfl ⟨_, _, _, _, ⟨rfl, below_setRow HB2.out (by omega) _, ?_⟩⟩
  rcases HHOW.out with h | h | ⟨h1, h2, h3, h4, h5, h6⟩
  · exact .inl h
  · exact .inr (.inl h)
  · exact .inr (.inr ⟨h1, h2, h3, h4, h5, ownsRow_base (ownsRow_setRow h6 HL.out _) HS.out⟩)

end Go.Proofs.YtaomigfmjglggaaDoor
