/- Issue of token: what it builds. -/
import Derived.Test.YtaomigfmjglggaaDoorTkV
namespace Go.Proofs.YtaomigfmjglggaaDoor
open Go.RowKit

theorem run_build_tk (ns sa : ByteArray) (uid : Nat) (host : Int) (addr born til key : Nat) (w : World) : (Instr.build 31 #[(0, .agg #[.string ns, .string sa]), (1, .int .u64 uid), (2, .int .i64 host), (3, .int .u32 addr), (4, .int .u64 born), (5, .int .u64 til), (6, .int .u64 key)]).run Tryd.prog w =
    .ok (.agg (tkA ⟨ns, sa, uid, host, addr, born, til, key, List.replicate 32 0⟩)) w := by kernel_rfl
theorem run_build_tk0 (w : World) : (Instr.build 31 #[]).run Tryd.prog w = .ok (.agg (tkA tk0)) w := by kernel_rfl
theorem size_alloc2 (w : World) (a b : Obj) : ((w.alloc a).alloc b).heap.size = w.heap.size + 1 + 1 := by simp
theorem size_alloc3 (w : World) (a b c : Obj) : (((w.alloc a).alloc b).alloc c).heap.size = w.heap.size + 1 + 1 + 1 := by simp
section
variable {ops : Array Oper} {rest : List Oper} {op : Oper} {a : Act} {w : World} {Q : Exit → Act → World → Prop}
theorem wpList_build_tk (hgd : op.guard = none) (x0 x1 x2 x3 x4 x5 x6 : Operand) (ho : op.op = .build 31 #[(0, x0), (1, x1), (2, x2), (3, x3), (4, x4), (5, x5), (6, x6)]) (v0 v1 v2 v3 v4 v5 v6 V : Value)
    (h0 : a.eval x0 = v0) (h1 : a.eval x1 = v1) (h2 : a.eval x2 = v2) (h3 : a.eval x3 = v3) (h4 : a.eval x4 = v4) (h5 : a.eval x5 = v5) (h6 : a.eval x6 = v6)
    (hv : ∀ w, (Instr.build 31 #[(0, v0), (1, v1), (2, v2), (3, v3), (4, v4), (5, v5), (6, v6)]).run Tryd.prog w = .ok V w)
    (h : wpList Tryd.prog ops Q rest (a.put op.dst V) w) : wpList Tryd.prog ops Q (op :: rest) a w := by
  refine wpList_plain hgd fun K hK => ?_
  unfold Oper.wp execOp
  simp [ho, h0, h1, h2, h3, h4, h5, h6, hv]
  exact hK _ _ h
theorem wpList_alloc_tk_at (hgd : op.guard = none) (ho : op.op = .alloc 31) (g : Nat) (hg : w.heap.size = g)
    (h : wpList Tryd.prog ops Q rest (a.put op.dst (.pointer (some ⟨g, 0, none⟩))) (w.alloc (.cells (tkA tk0) 31))) : wpList Tryd.prog ops Q (op :: rest) a w :=
  wpList_alloc_tk hgd ho (by rw [hg]; exact h)
theorem wpList_build_tk0 (hgd : op.guard = none) (ho : op.op = .build 31 #[])
    (h : wpList Tryd.prog ops Q rest (a.put op.dst (.agg (tkA tk0))) w) : wpList Tryd.prog ops Q (op :: rest) a w := by
  refine wpList_plain hgd fun K hK => ?_
  unfold Oper.wp execOp
  simp [ho, run_build_tk0]
  exact hK _ _ h
end
theorem TBox.setNm {W : World} {g : Nat} {t : Tk} (h : TBox W g t) (hm : t.mac.length = 32) : TBox (W.setCells g 0 [.string t.ns, .string t.sa]) g t := by
  unfold TBox
  rw [heap_setCells g _ _ 0 W _ h (by rw [tkA_size t hm]; simp)]
  congr 2
theorem results_tk2 {fn : Func} {p q : Tmp} (h : fn.results = #[.cell p 31, .tmp q]) (tmps : Array Value) (w : World) (g : Nat) (hp : tmps.getD p undef = .pointer (some ⟨g, 0, none⟩)) (v : Value) (hq : tmps.getD q undef = v) (t : Tk) (hm : t.mac.length = 32) (ht : TBox w g t) :
    (results fn tmps).run Tryd.prog w = .ok (.tuple #[.agg (tkA t), v]) w := by
  have hp' : tmps[p]?.getD undef = .pointer (some ⟨g, 0, none⟩) := by simpa using hp
  have hq' : tmps[q]?.getD undef = v := by simpa using hq
  have hl := run_loadVar_row w g _ _ _ (0, 0) _ ht.heap Tryd.underlying31 rfl (szTk t hm)
  simp [results, h, hp', hq', asAddr, hl]
theorem untuple_tk (t : Tk) (v : Value) (w : World) : (Instr.extract (.tuple #[.agg (tkA t), v]) 0).run Tryd.prog w = .ok (.agg (tkA t)) w := by simp [Instr.extract]

/-- The token that Issue would sign. -/
def tok0 (n : Nat) (ns sa : ByteArray) (uid : Nat) (host : Int) (addr now : Nat) : Tk := ⟨ns, sa, uid, host, addr, now, (now + 200) % 18446744073709551616, n, List.replicate 32 0⟩
/-- What Issue answers. -/
def issT (k : List Int) (o n : Nat) (ns sa : ByteArray) (uid : Nat) (host : Int) (addr now : Nat) : Tk := if mayR k.length o n = true ∧ mayT (tok0 n ns sa uid host addr now) = true then signT k (tok0 n ns sa uid host addr now) else tk0
def issE (k : List Int) (o n : Nat) (ns sa : ByteArray) (uid : Nat) (host : Int) (addr now : Nat) : Int := if mayR k.length o n = true ∧ mayT (tok0 n ns sa uid host addr now) = true then 0 else 1
/-- What Issue is handed. -/
structure IssOk (ns sa : ByteArray) (uid : Nat) (host : Int) (addr now n : Nat) : Prop where
  ns : ns.size ≤ 140737488355328
  sa : sa.size ≤ 140737488355328
  uid : uid < 18446744073709551616
  host1 : -9223372036854775808 ≤ host
  host2 : host < 9223372036854775808
  addr : addr < 4294967296
  now : now < 18446744073709551616
  n : n < 18446744073709551616
theorem IssOk.tok {ns sa : ByteArray} {uid : Nat} {host : Int} {addr now n : Nat} (h : IssOk ns sa uid host addr now n) : (tok0 n ns sa uid host addr now).ok :=
  ⟨h.ns, h.sa, h.uid, h.host1, h.host2, h.addr, h.now, Nat.mod_lt _ (by omega), h.n, rfl, fun x hx => by rw [List.eq_of_mem_replicate hx]; omega⟩
theorem signT_ok {t : Tk} (h : t.ok) (k : List Int) : (signT k t).ok :=
  by
    have h1 := length_sigS k t
    have h2 := sigS_range k t
    unfold signT
    generalize sigS k t = R at *
    exact ⟨h.ns, h.sa, h.uid, h.host1, h.host2, h.addr, h.born, h.til, h.key, h1, h2⟩

set_option maxRecDepth 100000 in
set_option maxHeartbeats 2000000 in
theorem issue_any (k : List Int) (rv : Value) (o n : Nat) (ns sa : ByteArray) (uid : Nat) (host : Int) (addr now : Nat) (w : World) (hi : IssOk ns sa uid host addr now n) (ht : Tab w) (hk : SlAt w rv k) :
    Calls Tryd.prog 20 #[.agg (ringA rv o n), .agg #[.string ns, .string sa], .int .u64 uid, .int .i64 host, .int .u32 addr, .int .u64 now] w (fun e w' => e = .returned (.tuple #[.agg (tkA (issT k o n ns sa uid host addr now)), .int .i64 (issE k o n ns sa uid host addr now)]) ∧ Below w.heap.size w w') := by
  obtain ⟨ra, rc, rfl⟩ := hk.len
  have HT := hide ht
  have HK := hide hk
  have HCS1 := hide (fun W => strClone_any ns (Nat.le_trans hi.ns (by omega)) W)
  have HCS2 := hide (fun W => strClone_any sa (Nat.le_trans hi.sa (by omega)) W)
  have HIT : issT k o n ns sa uid host addr now = if mayR k.length o n = true ∧ mayT (tok0 n ns sa uid host addr now) = true then signT k (tok0 n ns sa uid host addr now) else tk0 := rfl
  have HIE : issE k o n ns sa uid host addr now = if mayR k.length o n = true ∧ mayT (tok0 n ns sa uid host addr now) = true then 0 else 1 := rfl
  rw [HIT, HIE]
  clear HIT HIE
  have HOK := hide hi.tok
  have hw200 : IntKind.u64.wrap ((now : Int) + 200) = (((now + 200) % 18446744073709551616 : Nat) : Int) := by
    rw [IntKind.wrap_u64]; omega
  have hbt := fun w => run_build_tk ns sa uid host addr now ((now + 200) % 18446744073709551616) n w
  rw [show (⟨ns, sa, uid, host, addr, now, (now + 200) % 18446744073709551616, n, List.replicate 32 0⟩ : Tk) = tok0 n ns sa uid host addr now from rfl] at hbt
  have hnm : (tok0 n ns sa uid host addr now).ns = ns ∧ (tok0 n ns sa uid host addr now).sa = sa := ⟨rfl, rfl⟩
  generalize tok0 n ns sa uid host addr now = T0 at *
  generalize (now + 200) % 18446744073709551616 = til at *
  have HM0 := hide HOK.out.mac
  have HNM := hide hnm
  replace hbt := hide hbt
  have HC1 := hide (fun W => ring_any ra k.length rc o n W)
  have HC2 := hide (fun W => tmay_any T0 HOK.out W)
  have HLN := hide (fun h : mayR k.length o n = true => mayR_len h)
  have HC3 := hide (fun W (hB : Below w.heap.size w W) (hm : mayT T0 = true) (hl : k.length ≤ 64) => signed_any k (.slice ra k.length rc) o n T0 W hm HOK.out (HT.out.below hB HT.out.two) (HK.out.below hB) hl)
  generalize mayR k.length o n = MR at *
  generalize mayT T0 = MT at *
  obtain ⟨T2, hT2⟩ : ∃ T2, signT k T0 = T2 := ⟨_, rfl⟩
  have HM2 : Hid (T2.mac.length = 32) := hide (by rw [← hT2, signT_mac]; exact length_sigS k T0)
  try rw [hT2] at HC3
  rw [hT2]
  clear hi ht hk hnm hT2
  generalize hq : k.length = q at *
  clear hq
  have HA := hide (((((Below.refl w.heap.size w).alloc (Nat.le_refl _) (.cells #[.slice ra q rc, .int .u64 o, .int .u64 n] 25)).alloc (by simp) (.cells #[.string ns, .string sa] 27)).alloc (by simp; omega) (.cells (tkA tk0) 31)).alloc (by simp; omega) (.cells (tkA tk0) 31))
  obtain ⟨W0, hW0⟩ : ∃ W0, W0 = (((w.alloc (.cells #[.slice ra q rc, .int .u64 o, .int .u64 n] 25)).alloc (.cells #[.string ns, .string sa] 27)).alloc (.cells (tkA tk0) 31)).alloc (.cells (tkA tk0) 31) := ⟨_, rfl⟩
  have hr : RBox W0 w.heap.size (.slice ra q rc) o n := by rw [hW0]; exact (((RBox.new w (.slice ra q rc) o n).alloc _).alloc _).alloc _
  have hn : NBox W0 (w.heap.size + 1) ns sa := by
    have h := NBox.new (w.alloc (.cells #[.slice ra q rc, .int .u64 o, .int .u64 n] 25)) ns sa
    rw [show (w.alloc (.cells #[.slice ra q rc, .int .u64 o, .int .u64 n] 25)).heap.size = w.heap.size + 1 from by simp] at h
    rw [hW0]
    exact (h.next ((Below.refl _ _).alloc (Nat.le_refl _) _)).next ((Below.refl _ _).alloc (Nat.le_refl _) _)
  have hz : TBox W0 (w.heap.size + 1 + 1) tk0 := by
    have h := TBox.new ((w.alloc (.cells #[.slice ra q rc, .int .u64 o, .int .u64 n] 25)).alloc (.cells #[.string ns, .string sa] 27)) tk0
    rw [show ((w.alloc (.cells #[.slice ra q rc, .int .u64 o, .int .u64 n] 25)).alloc (.cells #[.string ns, .string sa] 27)).heap.size = w.heap.size + 1 + 1 from by simp] at h
    rw [hW0]
    exact h.alloc _
  have hx : TBox W0 (w.heap.size + 1 + 1 + 1) tk0 := by
    have h := TBox.new (((w.alloc (.cells #[.slice ra q rc, .int .u64 o, .int .u64 n] 25)).alloc (.cells #[.string ns, .string sa] 27)).alloc (.cells (tkA tk0) 31)) tk0
    rw [show (((w.alloc (.cells #[.slice ra q rc, .int .u64 o, .int .u64 n] 25)).alloc (.cells #[.string ns, .string sa] 27)).alloc (.cells (tkA tk0) 31)).heap.size = w.heap.size + 1 + 1 + 1 from by simp] at h
    rw [hW0]
    exact h
  have hs0 : W0.heap.size = w.heap.size + 1 + 1 + 1 + 1 := by rw [hW0]; simp
  rw [← hW0] at HA
  have hs1 : (W0.setRow (w.heap.size + 1 + 1 + 1) (tkA T0)).heap.size = w.heap.size + 1 + 1 + 1 + 1 := by rw [size_setRow, hs0]
  have HS1 := hide hs1
  have HR := hide (show RBox (W0.setRow (w.heap.size + 1 + 1 + 1) (tkA T0)) w.heap.size (.slice ra q rc) o n from (_root_.Go.setRow_other _ _ _ _ (by omega)).trans hr)
  have HN := hide (show NBox (W0.setRow (w.heap.size + 1 + 1 + 1) (tkA T0)) (w.heap.size + 1) ns sa from (_root_.Go.setRow_other _ _ _ _ (by omega)).trans hn)
  have HZ := hide (show TBox (W0.setRow (w.heap.size + 1 + 1 + 1) (tkA T0)) (w.heap.size + 1 + 1) tk0 from (_root_.Go.setRow_other _ _ _ _ (by omega)).trans hz)
  have HX := hide (hx.row (u := T0))
  have HB := hide (below_setRow HA.out (g := w.heap.size + 1 + 1 + 1) (by omega) (tkA T0))
  have HX0 := hide hx
  clear hr hn hz hx hs0 hs1 HA
  have n0 : (w.alloc (.cells #[.slice ra q rc, .int .u64 o, .int .u64 n] 25)).cell? ⟨w.heap.size, 2, none⟩ = (w.alloc (.cells #[.slice ra q rc, .int .u64 o, .int .u64 n] 25)).cell? ⟨w.heap.size, 2, none⟩ := rfl
  clear n0
  rw [hW0] at HR HN HZ HX HB HX0 HS1
  clear hW0
  have c0 := HR.out.c0
  have c1 := HR.out.c1
  have c2 := HR.out.c2
  unfold ringA at *
  by_cases g0 : MR = false
  · subst g0
    simp only [Bool.false_eq_true, false_and, if_false]
    go_enter Tryd.func20, Tryd.ntmps20
    go_wp2_with (first | (refine wpList_build_tk0 rfl rfl ?_) | (refine wpList_build_tk rfl (.tmp 15) (.tmp 16) (.tmp 17) (.tmp 18) (.tmp 19) (.tmp 21) (.tmp 23) rfl (.agg #[.string ns, .string sa]) (.int .u64 uid) (.int .i64 host) (.int .u32 addr) (.int .u64 now) (.int .u64 til) (.int .u64 n) (.agg (tkA T0)) rfl rfl rfl rfl rfl rfl rfl hbt.out ?_) | (refine wpList_alloc_tk_at rfl rfl (w.heap.size + 1 + 1) (size_alloc2 w _ _) ?_) | (refine wpList_alloc_tk_at rfl rfl (w.heap.size + 1 + 1 + 1) (size_alloc3 w _ _ _) ?_) | (refine wpList_store_tk rfl (.tmp 14) (.tmp 24) rfl (w.heap.size + 1 + 1 + 1) T0 rfl rfl tk0 tk0_len HM0.out HX0.out ?_) | (go_at_call 13; refine (HC1.out _).mono ?_; rintro e w2 ⟨rfl, hB2⟩; have HR2 := hide (HR.out.next hB2); have HN2 := hide (HN.out.next hB2); have HX2 := hide (HX.out.next hB2); have HZ2 := hide (HZ.out.next hB2); have HB2 := hide (HB.out.trans (hB2.mono HB.out.size)); clear c0 c1 c2 hB2 HR HX HZ HN HB HC1) | (refine wpList_store_tk rfl (.tmp 12) (.tmp 33) rfl (w.heap.size + 1 + 1) tk0 rfl rfl tk0 tk0_len tk0_len HZ2.out ?_))
    exact bodyPost_ret (results_tk2 rfl _ _ (w.heap.size + 1 + 1) rfl _ rfl tk0 tk0_len (HZ2.out.row (u := tk0))) rfl ⟨rfl, below_setRow HB2.out (by omega) _⟩
  by_cases g1 : MT = false
  · subst g1
    try obtain rfl : MR = true := by simpa using g0
    simp only [Bool.false_eq_true, and_false, if_false]
    go_enter Tryd.func20, Tryd.ntmps20
    go_wp2_with (first | (refine wpList_build_tk0 rfl rfl ?_) | (refine wpList_build_tk rfl (.tmp 15) (.tmp 16) (.tmp 17) (.tmp 18) (.tmp 19) (.tmp 21) (.tmp 23) rfl (.agg #[.string ns, .string sa]) (.int .u64 uid) (.int .i64 host) (.int .u32 addr) (.int .u64 now) (.int .u64 til) (.int .u64 n) (.agg (tkA T0)) rfl rfl rfl rfl rfl rfl rfl hbt.out ?_) | (refine wpList_alloc_tk_at rfl rfl (w.heap.size + 1 + 1) (size_alloc2 w _ _) ?_) | (refine wpList_alloc_tk_at rfl rfl (w.heap.size + 1 + 1 + 1) (size_alloc3 w _ _ _) ?_) | (refine wpList_store_tk rfl (.tmp 14) (.tmp 24) rfl (w.heap.size + 1 + 1 + 1) T0 rfl rfl tk0 tk0_len HM0.out HX0.out ?_) | (go_at_call 13; refine (HC1.out _).mono ?_; rintro e w2 ⟨rfl, hB2⟩; have HR2 := hide (HR.out.next hB2); have HN2 := hide (HN.out.next hB2); have HX2 := hide (HX.out.next hB2); have HZ2 := hide (HZ.out.next hB2); have HB2 := hide (HB.out.trans (hB2.mono HB.out.size)); clear c0 c1 c2 hB2 HR HX HZ HN HB HC1) | (go_at_call 15; refine (HC2.out _).mono ?_; rintro e w3 ⟨rfl, hB3⟩; have HR3 := hide (HR2.out.next hB3); have HN3 := hide (HN2.out.next hB3); have HX3 := hide (HX2.out.next hB3); have HZ3 := hide (HZ2.out.next hB3); have HB3 := hide (HB2.out.trans (hB3.mono HB2.out.size)); clear hB3 HR2 HX2 HZ2 HN2 HB2 HC2) | (refine wpList_load_tk_w (by rfl) (.tmp 14) rfl (w.heap.size + 1 + 1 + 1) rfl T0 HM0.out HX2.out ?_) | (refine wpList_store_tk rfl (.tmp 12) (.tmp 33) rfl (w.heap.size + 1 + 1) tk0 rfl rfl tk0 tk0_len tk0_len HZ3.out ?_))
    exact bodyPost_ret (results_tk2 rfl _ _ (w.heap.size + 1 + 1) rfl _ rfl tk0 tk0_len (HZ3.out.row (u := tk0))) rfl ⟨rfl, below_setRow HB3.out (by omega) _⟩
  try obtain rfl : MR = true := by simpa using g0
  try obtain rfl : MT = true := by simpa using g1
  simp only [and_self, if_true]
  go_enter Tryd.func20, Tryd.ntmps20
  go_wp2_with (first | (refine wpList_build_tk0 rfl rfl ?_) | (refine wpList_build_tk rfl (.tmp 15) (.tmp 16) (.tmp 17) (.tmp 18) (.tmp 19) (.tmp 21) (.tmp 23) rfl (.agg #[.string ns, .string sa]) (.int .u64 uid) (.int .i64 host) (.int .u32 addr) (.int .u64 now) (.int .u64 til) (.int .u64 n) (.agg (tkA T0)) rfl rfl rfl rfl rfl rfl rfl hbt.out ?_) | (refine wpList_alloc_tk_at rfl rfl (w.heap.size + 1 + 1) (size_alloc2 w _ _) ?_) | (refine wpList_alloc_tk_at rfl rfl (w.heap.size + 1 + 1 + 1) (size_alloc3 w _ _ _) ?_) | (refine wpList_store_tk rfl (.tmp 14) (.tmp 24) rfl (w.heap.size + 1 + 1 + 1) T0 rfl rfl tk0 tk0_len HM0.out HX0.out ?_) | (go_at_call 13; refine (HC1.out _).mono ?_; rintro e w2 ⟨rfl, hB2⟩; have HR2 := hide (HR.out.next hB2); have HN2 := hide (HN.out.next hB2); have HX2 := hide (HX.out.next hB2); have HZ2 := hide (HZ.out.next hB2); have HB2 := hide (HB.out.trans (hB2.mono HB.out.size)); clear c0 c1 c2 hB2 HR HX HZ HN HB HC1) | (go_at_call 15; refine (HC2.out _).mono ?_; rintro e w3 ⟨rfl, hB3⟩; have HR3 := hide (HR2.out.next hB3); have HN3 := hide (HN2.out.next hB3); have HX3 := hide (HX2.out.next hB3); have HZ3 := hide (HZ2.out.next hB3); have HB3 := hide (HB2.out.trans (hB3.mono HB2.out.size)); clear hB3 HR2 HX2 HZ2 HN2 HB2 HC2) | (refine wpList_load_tk_w (by rfl) (.tmp 14) rfl (w.heap.size + 1 + 1 + 1) rfl T0 HM0.out HX2.out ?_))
  have HR4 := hide HR3.out.drew
  have HN4 := hide (HN3.out.next (Below.refl _ _).drew)
  have HX4 := hide HX3.out.drew
  have HZ4 := hide HZ3.out.drew
  have HB4 := hide HB3.out.drew
  refine wp_region_held_drew (S := fun w' => NBox w' (w.heap.size + 1) ns sa ∧ TBox w' (w.heap.size + 1 + 1 + 1) T0) (by kernel_rfl) ⟨HN3.out.next (Below.refl _ _).drew, HX3.out.drew⟩ (fun hHeld => ?_)
  refine wpAnyH_take (i := 0) (oi := { dst := some 34, op := Op.fieldAddr 27 (Operand.tmp 7) 0, type := 0, pos := "token.go:38", after := #[], guard := none }) (v := ?_) rfl (by kernel_rfl) (by kernel_rfl) (by kernel_rfl) (fun _ _ _ h => h) (Or.inl ⟨by rfl, ?_⟩) hHeld ?_
  rotate_left
  · intro w hSw; (try dsimp only at hSw); go_simp; first | done | with_reducible rfl
  try simp only [Act.put, List.setIfInBounds_toArray, List.set_cons_zero, List.set_cons_succ]
  refine wpAnyH_take (i := 1) (oi := { dst := some 35, op := Op.load 9 (Operand.tmp 34), type := 9, pos := "token.go:38", after := #[{ on := 0, ground := Ground.data }], guard := none }) (v := ?_) rfl (by kernel_rfl) (by kernel_rfl) (by kernel_rfl) (fun _ _ _ h => h) (Or.inl ⟨by rfl, ?_⟩) hHeld ?_
  rotate_left
  · intro w hSw; (try dsimp only at hSw); have e0 := hSw.1.c0; have e1 := hSw.1.c1; go_simp; first | done | with_reducible rfl
  try simp only [Act.put, List.setIfInBounds_toArray, List.set_cons_zero, List.set_cons_succ]
  refine wpAnyH_take (i := 3) (oi := { dst := some 37, op := Op.fieldAddr 27 (Operand.tmp 7) 1, type := 0, pos := "token.go:38", after := #[], guard := none }) (v := ?_) rfl (by kernel_rfl) (by kernel_rfl) (by kernel_rfl) (fun _ _ _ h => h) (Or.inl ⟨by rfl, ?_⟩) hHeld ?_
  rotate_left
  · intro w hSw; (try dsimp only at hSw); go_simp; first | done | with_reducible rfl
  try simp only [Act.put, List.setIfInBounds_toArray, List.set_cons_zero, List.set_cons_succ]
  refine wpAnyH_take (i := 4) (oi := { dst := some 38, op := Op.load 9 (Operand.tmp 37), type := 9, pos := "token.go:38", after := #[{ on := 3, ground := Ground.data }], guard := none }) (v := ?_) rfl (by kernel_rfl) (by kernel_rfl) (by kernel_rfl) (fun _ _ _ h => h) (Or.inl ⟨by rfl, ?_⟩) hHeld ?_
  rotate_left
  · intro w hSw; (try dsimp only at hSw); have e0 := hSw.1.c0; have e1 := hSw.1.c1; go_simp; first | done | with_reducible rfl
  try simp only [Act.put, List.setIfInBounds_toArray, List.set_cons_zero, List.set_cons_succ]
  refine wpAnyH_ready (rs := [2]) (by kernel_rfl) (by simp) ?_
  refine AllReadyH.cons (o := { dst := some 36, op := Op.call { callee := Callee.value (Operand.func 34), args := #[Operand.tmp 35], argTypes := #[9] }, type := 9, pos := "token.go:38", after := #[{ on := 1, ground := Ground.data }], guard := none }) rfl (fun K hK => ?_) AllReadyH.nil
  clear hHeld
  go_simp
  refine (HCS1.out _).mono ?_
  rintro e w5 ⟨rfl, hB⟩
  have HR5 := hide (HR4.out.next hB)
  have HN5 := hide (HN4.out.next hB)
  have HX5 := hide (HX4.out.next hB)
  have HZ5 := hide (HZ4.out.next hB)
  have HB5 := hide (HB4.out.trans (hB.mono HB4.out.size))
  clear hB HR4 HN4 HX4 HZ4 HB4
  refine hK.out _ _ (⟨HN5.out, HX5.out⟩) (fun hHeld => ?_)
  clear hK K
  try simp only [Act.put, List.setIfInBounds_toArray, List.set_cons_zero, List.set_cons_succ]
  refine wpAnyH_ready (rs := [5]) (by kernel_rfl) (by simp) ?_
  refine AllReadyH.cons (o := { dst := some 39, op := Op.call { callee := Callee.value (Operand.func 34), args := #[Operand.tmp 38], argTypes := #[9] }, type := 9, pos := "token.go:38", after := #[{ on := 4, ground := Ground.data }, { on := 2, ground := Ground.chain }], guard := none }) rfl (fun K hK => ?_) AllReadyH.nil
  clear hHeld
  go_simp
  refine (HCS2.out _).mono ?_
  rintro e w6 ⟨rfl, hB⟩
  have HR6 := hide (HR5.out.next hB)
  have HN6 := hide (HN5.out.next hB)
  have HX6 := hide (HX5.out.next hB)
  have HZ6 := hide (HZ5.out.next hB)
  have HB6 := hide (HB5.out.trans (hB.mono HB5.out.size))
  clear hB HR5 HN5 HX5 HZ5 HB5
  refine hK.out _ _ (⟨HN6.out, HX6.out⟩) (fun hHeld => ?_)
  clear hK K
  try simp only [Act.put, List.setIfInBounds_toArray, List.set_cons_zero, List.set_cons_succ]
  refine wpAnyH_take (i := 6) (oi := { dst := some 40, op := Op.build 27 #[(0, Operand.tmp 36), (1, Operand.tmp 39)], type := 27, pos := "token.go:38", after := #[{ on := 2, ground := Ground.data }, { on := 5, ground := Ground.data }], guard := none }) (v := ?_) rfl (by kernel_rfl) (by kernel_rfl) (by kernel_rfl) (fun _ _ _ h => h) (Or.inl ⟨by rfl, ?_⟩) hHeld ?_
  rotate_left
  · intro w hSw; (try dsimp only at hSw); go_simp; first | done | with_reducible rfl
  try simp only [Act.put, List.setIfInBounds_toArray, List.set_cons_zero, List.set_cons_succ]
  refine wpAnyH_take (i := 7) (oi := { dst := some 41, op := Op.fieldAddr 31 (Operand.tmp 14) 0, type := 0, pos := "token.go:38", after := #[{ on := 0, ground := Ground.phase }, { on := 1, ground := Ground.phase }, { on := 2, ground := Ground.phase }, { on := 3, ground := Ground.phase }, { on := 4, ground := Ground.phase }, { on := 5, ground := Ground.phase }, { on := 6, ground := Ground.phase }], guard := none }) (v := ?_) rfl (by kernel_rfl) (by kernel_rfl) (by kernel_rfl) (fun _ _ _ h => h) (Or.inl ⟨by rfl, ?_⟩) hHeld ?_
  rotate_left
  · intro w hSw; (try dsimp only at hSw); go_simp; first | done | with_reducible rfl
  try simp only [Act.put, List.setIfInBounds_toArray, List.set_cons_zero, List.set_cons_succ]
  refine wpAnyH_ready (rs := [8]) (by kernel_rfl) (by simp) ?_
  refine AllReadyH.cons (o := { dst := none, op := Op.store 27 (Operand.tmp 41) (Operand.tmp 40), type := 0, pos := "token.go:38", after := #[{ on := 7, ground := Ground.data }, { on := 6, ground := Ground.data }, { on := 5, ground := Ground.chain }, { on := 0, ground := Ground.phase }, { on := 1, ground := Ground.phase }, { on := 2, ground := Ground.phase }, { on := 3, ground := Ground.phase }, { on := 4, ground := Ground.phase }, { on := 5, ground := Ground.phase }, { on := 6, ground := Ground.phase }], guard := none }) rfl (fun K hK => ?_) AllReadyH.nil
  clear hHeld
  rw [if_pos (by rfl)]
  refine wp_store_mid _ _ _ rfl (w.heap.size + 1 + 1 + 1) 0 #[.string ns, .string sa] rfl rfl (HX6.out.there HM0.out 0 _ (by simp)) (by kernel_rfl) (by simp [Value.oneCell']) ?_
  have HX7 : Hid (TBox (w6.setCells (w.heap.size + 1 + 1 + 1) 0 [.string ns, .string sa]) (w.heap.size + 1 + 1 + 1) T0) := hide (by have h := HX6.out.setNm HM0.out; rw [HNM.out.1, HNM.out.2] at h; exact h)
  have HR7 : Hid (RBox (w6.setCells (w.heap.size + 1 + 1 + 1) 0 [.string ns, .string sa]) w.heap.size (.slice ra q rc) o n) := hide ((setCells_other _ (by omega)).trans HR6.out)
  have HN7 : Hid (NBox (w6.setCells (w.heap.size + 1 + 1 + 1) 0 [.string ns, .string sa]) (w.heap.size + 1) ns sa) := hide ((setCells_other _ (by omega)).trans HN6.out)
  have HZ7 : Hid (TBox (w6.setCells (w.heap.size + 1 + 1 + 1) 0 [.string ns, .string sa]) (w.heap.size + 1 + 1) tk0) := hide ((setCells_other _ (by omega)).trans HZ6.out)
  have HB7 := hide (below_setCells HB6.out (g := w.heap.size + 1 + 1 + 1) (o := 0) (by omega) [.string ns, .string sa])
  rw [show (#[Value.string ns, .string sa] : Array Value).toList = [.string ns, .string sa] from rfl]
  generalize w6.setCells (w.heap.size + 1 + 1 + 1) 0 [.string ns, .string sa] = w7 at HX7 HR7 HN7 HZ7 HB7 ⊢
  clear HR6 HN6 HX6 HZ6 HB6
  refine hK.out _ _ (⟨HN7.out, HX7.out⟩) (fun hHeld => ?_)
  clear hK K
  try simp only [Act.put]
  refine wpAnyH_done (by kernel_rfl) ?_ _
  clear hHeld
  have c0 := HR7.out.c0
  have c1 := HR7.out.c1
  have c2 := HR7.out.c2
  go_wp2_with (refine wpList_load_tk rfl (.tmp 14) rfl (w.heap.size + 1 + 1 + 1) rfl T0 HM0.out HX7.out ?_)
  refine (HC3.out _ HB7.out (by first | rfl | trivial) (HLN.out (by first | rfl | trivial))).mono ?_
  rintro e w8 ⟨rfl, hB⟩
  have HZ8 := hide (HZ7.out.next hB)
  have HB8 := hide (HB7.out.trans (hB.mono HB7.out.size))
  clear hB c0 c1 c2 HR7 HN7 HX7 HZ7 HB7
  go_wp2_with (refine wpList_store_tk rfl (.tmp 12) (.tmp 44) rfl (w.heap.size + 1 + 1) T2 rfl rfl tk0 tk0_len HM2.out HZ8.out ?_)
  exact bodyPost_ret (results_tk2 rfl _ _ (w.heap.size + 1 + 1) rfl _ rfl T2 HM2.out (HZ8.out.row (u := T2))) rfl ⟨rfl, below_setRow HB8.out (by omega) _⟩

end Go.Proofs.YtaomigfmjglggaaDoor
