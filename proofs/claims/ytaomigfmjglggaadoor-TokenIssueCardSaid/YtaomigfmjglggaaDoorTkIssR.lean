/- Issue: the document's. -/
import Derived.Test.YtaomigfmjglggaaDoorTkIss
import Derived.Test.YtaomigfmjglggaaDoorTkSignR
namespace Go.Proofs.YtaomigfmjglggaaDoor
open Go.RowKit

section
variable {ops : Array Oper} {rest : List Oper} {op : Oper} {a : Act} {w : World} {Q : Exit → Act → World → Prop}
theorem wpList_store_mac (hgd : op.guard = none) (x y : Operand) (ho : op.op = .store 29 x y) (g : Nat) (hx : a.eval x = .pointer (some ⟨g, 8, none⟩)) (m : List Int) (hy : a.eval y = .agg (cellsOf .u8 m)) (t : Tk) (hm : t.mac.length = 32) (hl : m.length = 32) (ht : TBox w g t)
    (h : wpList Tryd.prog ops Q rest (a.put op.dst undef) (w.setCells g 8 (m.map (.int .u8)))) : wpList Tryd.prog ops Q (op :: rest) a w :=
  wpList_store_mid hgd _ x y ho g 8 (cellsOf .u8 m) hx hy (ht.there hm 8 _ (by rw [size_cellsOf, hl]; omega)) (sz36 _ hl) (oneCell_cellsOf _ _) (by rw [toArray_cellsOf]; exact h)
end

set_option maxRecDepth 100000 in
set_option maxHeartbeats 2000000 in
theorem issueR_any (k : List Int) (rv : Value) (o n : Nat) (ns sa : ByteArray) (uid : Nat) (host : Int) (addr now : Nat) (w : World) (hi : IssOk ns sa uid host addr now n) (ht : Tab w) (hk : SlAt w rv k) (hkb : ∀ x ∈ k, 0 ≤ x ∧ x < 256) :
    Calls Tryd.prog 21 #[.agg (ringA rv o n), .agg #[.string ns, .string sa], .int .u64 uid, .int .i64 host, .int .u32 addr, .int .u64 now] w (fun e w' => e = .returned (.tuple #[.agg (tkA (issT k o n ns sa uid host addr now)), .int .i64 (issE k o n ns sa uid host addr now)]) ∧ Below w.heap.size w w') := by
  obtain ⟨ra, rc, rfl⟩ := hk.len
  have HT := hide ht
  have HK := hide hk
  have HCS1 := hide (fun W => strClone_any ns (Nat.le_trans hi.ns (by omega)) W)
  have HCS2 := hide (fun W => strClone_any sa (Nat.le_trans hi.sa (by omega)) W)
  have HIT : issT k o n ns sa uid host addr now = if mayR k.length o n = true ∧ mayT (tok0 n ns sa uid host addr now) = true then signT k (tok0 n ns sa uid host addr now) else tk0 := rfl
  have HIE : issE k o n ns sa uid host addr now = if mayR k.length o n = true ∧ mayT (tok0 n ns sa uid host addr now) = true then 0 else 1 := rfl
  rw [HIT, HIE]
  clear HIT HIE
  have HOK := hide hi.tok
  have hw200 : IntKind.u64.wrap ((now : Int) + 200) = (((now + 200) % 18446744073709551616 : Nat) : Int) := by
    rw [IntKind.wrap_u64]; omega
  have hbt := fun w => run_build_tk ns sa uid host addr now ((now + 200) % 18446744073709551616) n w
  rw [show (⟨ns, sa, uid, host, addr, now, (now + 200) % 18446744073709551616, n, List.replicate 32 0⟩ : Tk) = tok0 n ns sa uid host addr now from rfl] at hbt
  have hnm : (tok0 n ns sa uid host addr now).ns = ns ∧ (tok0 n ns sa uid host addr now).sa = sa := ⟨rfl, rfl⟩
  generalize tok0 n ns sa uid host addr now = T0 at *
  generalize (now + 200) % 18446744073709551616 = til at *
  have HM0 := hide HOK.out.mac
  have HNM := hide hnm
  replace hbt := hide hbt
  have HC1 := hide (fun W => ringR_any ra k.length rc o n W)
  have HC2 := hide (fun W => tmayR_any T0 HOK.out W)
  have HLN := hide (fun h : mayR k.length o n = true => mayR_len h)
  have HC3 := hide (fun W (hB : Below w.heap.size w W) (hm : mayT T0 = true) (hl : k.length ≤ 64) => sign_any k (.slice ra k.length rc) o n T0 W hm HOK.out (HK.out.below hB) hkb hl)
  generalize mayR k.length o n = MR at *
  generalize mayT T0 = MT at *
  obtain ⟨T2, hT2⟩ : ∃ T2, signT k T0 = T2 := ⟨_, rfl⟩
  have HM2 : Hid (T2.mac.length = 32) := hide (by rw [← hT2, signT_mac]; exact length_sigS k T0)
  have hST : ({ T0 with mac := sigS k T0 } : Tk) = T2 := by rw [← hT2]; unfold signT; generalize sigS k T0 = SG; rfl
  have HSL := hide (length_sigS k T0)
  try rw [hT2] at HC3
  rw [hT2]
  clear hi ht hk hnm hT2
  generalize hq : k.length = q at *
  clear hq
  have HA := hide (((((Below.refl w.heap.size w).alloc (Nat.le_refl _) (.cells #[.slice ra q rc, .int .u64 o, .int .u64 n] 25)).alloc (by simp) (.cells #[.string ns, .string sa] 27)).alloc (by simp; omega) (.cells (tkA tk0) 31)).alloc (by simp; omega) (.cells (tkA tk0) 31))
  obtain ⟨W0, hW0⟩ : ∃ W0, W0 = (((w.alloc (.cells #[.slice ra q rc, .int .u64 o, .int .u64 n] 25)).alloc (.cells #[.string ns, .string sa] 27)).alloc (.cells (tkA tk0) 31)).alloc (.cells (tkA tk0) 31) := ⟨_, rfl⟩
  have hr : RBox W0 w.heap.size (.slice ra q rc) o n := by rw [hW0]; exact (((RBox.new w (.slice ra q rc) o n).alloc _).alloc _).alloc _
  have hn : NBox W0 (w.heap.size + 1) ns sa := by
    have h := NBox.new (w.alloc (.cells #[.slice ra q rc, .int .u64 o, .int .u64 n] 25)) ns sa
    rw [show (w.alloc (.cells #[.slice ra q rc, .int .u64 o, .int .u64 n] 25)).heap.size = w.heap.size + 1 from by simp] at h
    rw [hW0]
    exact (h.next ((Below.refl _ _).alloc (Nat.le_refl _) _)).next ((Below.refl _ _).alloc (Nat.le_refl _) _)
  have hz : TBox W0 (w.heap.size + 1 + 1) tk0 := by
    have h := TBox.new ((w.alloc (.cells #[.slice ra q rc, .int .u64 o, .int .u64 n] 25)).alloc (.cells #[.string ns, .string sa] 27)) tk0
    rw [show ((w.alloc (.cells #[.slice ra q rc, .int .u64 o, .int .u64 n] 25)).alloc (.cells #[.string ns, .string sa] 27)).heap.size = w.heap.size + 1 + 1 from by simp] at h
    rw [hW0]
    exact h.alloc _
  have hx : TBox W0 (w.heap.size + 1 + 1 + 1) tk0 := by
    have h := TBox.new (((w.alloc (.cells #[.slice ra q rc, .int .u64 o, .int .u64 n] 25)).alloc (.cells #[.string ns, .string sa] 27)).alloc (.cells (tkA tk0) 31)) tk0
    rw [show (((w.alloc (.cells #[.slice ra q rc, .int .u64 o, .int .u64 n] 25)).alloc (.cells #[.string ns, .string sa] 27)).alloc (.cells (tkA tk0) 31)).heap.size = w.heap.size + 1 + 1 + 1 from by simp] at h
    rw [hW0]
    exact h
  have hs0 : W0.heap.size = w.heap.size + 1 + 1 + 1 + 1 := by rw [hW0]; simp
  rw [← hW0] at HA
  have hs1 : (W0.setRow (w.heap.size + 1 + 1 + 1) (tkA T0)).heap.size = w.heap.size + 1 + 1 + 1 + 1 := by rw [size_setRow, hs0]
  have HS1 := hide hs1
  have HR := hide (show RBox (W0.setRow (w.heap.size + 1 + 1 + 1) (tkA T0)) w.heap.size (.slice ra q rc) o n from (_root_.Go.setRow_other _ _ _ _ (by omega)).trans hr)
  have HN := hide (show NBox (W0.setRow (w.heap.size + 1 + 1 + 1) (tkA T0)) (w.heap.size + 1) ns sa from (_root_.Go.setRow_other _ _ _ _ (by omega)).trans hn)
  have HZ := hide (show TBox (W0.setRow (w.heap.size + 1 + 1 + 1) (tkA T0)) (w.heap.size + 1 + 1) tk0 from (_root_.Go.setRow_other _ _ _ _ (by omega)).trans hz)
  have HX := hide (hx.row (u := T0))
  have HB := hide (below_setRow HA.out (g := w.heap.size + 1 + 1 + 1) (by omega) (tkA T0))
  have HX0 := hide hx
  clear hr hn hz hx hs0 hs1 HA
  have n0 : (w.alloc (.cells #[.slice ra q rc, .int .u64 o, .int .u64 n] 25)).cell? ⟨w.heap.size, 2, none⟩ = (w.alloc (.cells #[.slice ra q rc, .int .u64 o, .int .u64 n] 25)).cell? ⟨w.heap.size, 2, none⟩ := rfl
  clear n0
  rw [hW0] at HR HN HZ HX HB HX0 HS1
  clear hW0
  have c0 := HR.out.c0
  have c1 := HR.out.c1
  have c2 := HR.out.c2
  unfold ringA at *
  by_cases g0 : MR = false
  · subst g0
    simp only [Bool.false_eq_true, false_and, if_false]
    go_enter Tryd.func21, Tryd.ntmps21
    go_wp2_with (first | (refine wpList_build_tk0 rfl rfl ?_) | (refine wpList_build_tk rfl (.tmp 15) (.tmp 16) (.tmp 17) (.tmp 18) (.tmp 19) (.tmp 21) (.tmp 23) rfl (.agg #[.string ns, .string sa]) (.int .u64 uid) (.int .i64 host) (.int .u32 addr) (.int .u64 now) (.int .u64 til) (.int .u64 n) (.agg (tkA T0)) rfl rfl rfl rfl rfl rfl rfl hbt.out ?_) | (refine wpList_alloc_tk_at rfl rfl (w.heap.size + 1 + 1) (size_alloc2 w _ _) ?_) | (refine wpList_alloc_tk_at rfl rfl (w.heap.size + 1 + 1 + 1) (size_alloc3 w _ _ _) ?_) | (refine wpList_store_tk rfl (.tmp 14) (.tmp 24) rfl (w.heap.size + 1 + 1 + 1) T0 rfl rfl tk0 tk0_len HM0.out HX0.out ?_) | (go_at_call 14; refine (HC1.out _).mono ?_; rintro e w2 ⟨rfl, hB2⟩; have HR2 := hide (HR.out.next hB2); have HN2 := hide (HN.out.next hB2); have HX2 := hide (HX.out.next hB2); have HZ2 := hide (HZ.out.next hB2); have HB2 := hide (HB.out.trans (hB2.mono HB.out.size)); clear c0 c1 c2 hB2 HR HX HZ HN HB HC1) | (refine wpList_store_tk rfl (.tmp 12) (.tmp 33) rfl (w.heap.size + 1 + 1) tk0 rfl rfl tk0 tk0_len tk0_len HZ2.out ?_))
    exact bodyPost_ret (results_tk2 rfl _ _ (w.heap.size + 1 + 1) rfl _ rfl tk0 tk0_len (HZ2.out.row (u := tk0))) rfl ⟨rfl, below_setRow HB2.out (by omega) _⟩
  by_cases g1 : MT = false
  · subst g1
    try obtain rfl : MR = true := by simpa using g0
    simp only [Bool.false_eq_true, and_false, if_false]
    go_enter Tryd.func21, Tryd.ntmps21
    go_wp2_with (first | (refine wpList_build_tk0 rfl rfl ?_) | (refine wpList_build_tk rfl (.tmp 15) (.tmp 16) (.tmp 17) (.tmp 18) (.tmp 19) (.tmp 21) (.tmp 23) rfl (.agg #[.string ns, .string sa]) (.int .u64 uid) (.int .i64 host) (.int .u32 addr) (.int .u64 now) (.int .u64 til) (.int .u64 n) (.agg (tkA T0)) rfl rfl rfl rfl rfl rfl rfl hbt.out ?_) | (refine wpList_alloc_tk_at rfl rfl (w.heap.size + 1 + 1) (size_alloc2 w _ _) ?_) | (refine wpList_alloc_tk_at rfl rfl (w.heap.size + 1 + 1 + 1) (size_alloc3 w _ _ _) ?_) | (refine wpList_store_tk rfl (.tmp 14) (.tmp 24) rfl (w.heap.size + 1 + 1 + 1) T0 rfl rfl tk0 tk0_len HM0.out HX0.out ?_) | (go_at_call 14; refine (HC1.out _).mono ?_; rintro e w2 ⟨rfl, hB2⟩; have HR2 := hide (HR.out.next hB2); have HN2 := hide (HN.out.next hB2); have HX2 := hide (HX.out.next hB2); have HZ2 := hide (HZ.out.next hB2); have HB2 := hide (HB.out.trans (hB2.mono HB.out.size)); clear c0 c1 c2 hB2 HR HX HZ HN HB HC1) | (go_at_call 16; refine (HC2.out _).mono ?_; rintro e w3 ⟨rfl, hB3⟩; have HR3 := hide (HR2.out.next hB3); have HN3 := hide (HN2.out.next hB3); have HX3 := hide (HX2.out.next hB3); have HZ3 := hide (HZ2.out.next hB3); have HB3 := hide (HB2.out.trans (hB3.mono HB2.out.size)); have c30 := HR3.out.c0; have c31 := HR3.out.c1; have c32 := HR3.out.c2; clear hB3 HR2 HX2 HZ2 HN2 HB2 HC2) | (refine wpList_load_tk_w (by rfl) (.tmp 14) rfl (w.heap.size + 1 + 1 + 1) rfl T0 HM0.out HX2.out ?_) | (refine wpList_store_tk rfl (.tmp 12) (.tmp 33) rfl (w.heap.size + 1 + 1) tk0 rfl rfl tk0 tk0_len tk0_len HZ3.out ?_))
    exact bodyPost_ret (results_tk2 rfl _ _ (w.heap.size + 1 + 1) rfl _ rfl tk0 tk0_len (HZ3.out.row (u := tk0))) rfl ⟨rfl, below_setRow HB3.out (by omega) _⟩
  try obtain rfl : MR = true := by simpa using g0
  try obtain rfl : MT = true := by simpa using g1
  simp only [and_self, if_true]
  go_enter Tryd.func21, Tryd.ntmps21
  go_wp2_with (first | (refine wpList_build_tk0 rfl rfl ?_) | (refine wpList_build_tk rfl (.tmp 15) (.tmp 16) (.tmp 17) (.tmp 18) (.tmp 19) (.tmp 21) (.tmp 23) rfl (.agg #[.string ns, .string sa]) (.int .u64 uid) (.int .i64 host) (.int .u32 addr) (.int .u64 now) (.int .u64 til) (.int .u64 n) (.agg (tkA T0)) rfl rfl rfl rfl rfl rfl rfl hbt.out ?_) | (refine wpList_alloc_tk_at rfl rfl (w.heap.size + 1 + 1) (size_alloc2 w _ _) ?_) | (refine wpList_alloc_tk_at rfl rfl (w.heap.size + 1 + 1 + 1) (size_alloc3 w _ _ _) ?_) | (refine wpList_store_tk rfl (.tmp 14) (.tmp 24) rfl (w.heap.size + 1 + 1 + 1) T0 rfl rfl tk0 tk0_len HM0.out HX0.out ?_) | (go_at_call 14; refine (HC1.out _).mono ?_; rintro e w2 ⟨rfl, hB2⟩; have HR2 := hide (HR.out.next hB2); have HN2 := hide (HN.out.next hB2); have HX2 := hide (HX.out.next hB2); have HZ2 := hide (HZ.out.next hB2); have HB2 := hide (HB.out.trans (hB2.mono HB.out.size)); clear c0 c1 c2 hB2 HR HX HZ HN HB HC1) | (go_at_call 16; refine (HC2.out _).mono ?_; rintro e w3 ⟨rfl, hB3⟩; have HR3 := hide (HR2.out.next hB3); have HN3 := hide (HN2.out.next hB3); have HX3 := hide (HX2.out.next hB3); have HZ3 := hide (HZ2.out.next hB3); have HB3 := hide (HB2.out.trans (hB3.mono HB2.out.size)); have c30 := HR3.out.c0; have c31 := HR3.out.c1; have c32 := HR3.out.c2; clear hB3 HR2 HX2 HZ2 HN2 HB2 HC2) | (refine wpList_load_tk_w (by rfl) (.tmp 14) rfl (w.heap.size + 1 + 1 + 1) rfl T0 HM0.out HX2.out ?_) | (refine wpList_load_tk rfl (.tmp 14) rfl (w.heap.size + 1 + 1 + 1) rfl T0 HM0.out HX3.out ?_))
  refine (HC3.out _ HB3.out (by first | rfl | trivial) (HLN.out (by first | rfl | trivial))).mono ?_
  rintro e w8 ⟨rfl, hB⟩
  have hx9 := (HX3.out.next hB).setMac HM0.out (sigS k T0) HSL.out
  rw [hST] at hx9
  have HX8 := hide (HX3.out.next hB)
  have HX9 := hide hx9
  have HZ8 := hide (show TBox (w8.setCells (w.heap.size + 1 + 1 + 1) 8 ((sigS k T0).map (.int .u8))) (w.heap.size + 1 + 1) tk0 from (setCells_other _ (by omega)).trans (HZ3.out.next hB))
  have HB8 := hide (below_setCells (HB3.out.trans (hB.mono HB3.out.size)) (g := w.heap.size + 1 + 1 + 1) (o := 8) (by omega) ((sigS k T0).map (.int .u8)))
  clear hB hx9 hST c30 c31 c32 HR3 HN3 HX3 HZ3 HB3
  generalize sigS k T0 = SG at HX9 HZ8 HB8 HSL ⊢
  go_wp2_with (first | (refine wpList_store_mac rfl (.tmp 37) (.tmp 36) rfl (w.heap.size + 1 + 1 + 1) rfl SG rfl T0 HM0.out HSL.out HX8.out ?_) | (refine wpList_load_tk rfl (.tmp 14) rfl (w.heap.size + 1 + 1 + 1) rfl T2 HM2.out HX9.out ?_) | (refine wpList_store_tk rfl (.tmp 12) (.tmp 38) rfl (w.heap.size + 1 + 1) T2 rfl rfl tk0 tk0_len HM2.out HZ8.out ?_))
  exact bodyPost_ret (results_tk2 rfl _ _ (w.heap.size + 1 + 1) rfl _ rfl T2 HM2.out (HZ8.out.row (u := T2))) rfl ⟨rfl, below_setRow HB8.out (by omega) _⟩

end Go.Proofs.YtaomigfmjglggaaDoor
