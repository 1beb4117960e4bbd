/- The chapter's example, reckoned: the macs of two tokens are unlike. The law's own function awake of layer 6: it answers true. -/
import Derived.Test.YtaomigfmjglggaaDoorTkIss
import Derived.Test.YtaomigfmjglggaaDoorFrame
namespace Go.Proofs.YtaomigfmjglggaaDoor
open Go.RowKit

def exT : Tk := tok0 1 ⟨#[115, 104, 111, 112]⟩ ⟨#[119, 101, 98]⟩ 7 2 167772167 5
def exU : Tk := { exT with uid := 8 }
set_option maxRecDepth 100000 in
theorem ex_key : derS [107] caB 1 = [84, 17, 64, 187, 71, 32, 75, 195, 108, 248, 68, 159, 172, 251, 203, 190, 16, 144, 36, 138, 136, 22, 113, 66, 10, 220, 24, 197, 135, 96, 15, 29] := by decide +kernel
theorem ex_said : saidS exT = [1, 4, 115, 104, 111, 112, 3, 119, 101, 98, 7, 2, 7, 0, 0, 10, 5, 205, 1, 1] := by decide +kernel
theorem ex_said2 : saidS exU = [1, 4, 115, 104, 111, 112, 3, 119, 101, 98, 8, 2, 7, 0, 0, 10, 5, 205, 1, 1] := by decide +kernel
set_option maxRecDepth 100000 in
theorem ex_mac : nth (macS [84, 17, 64, 187, 71, 32, 75, 195, 108, 248, 68, 159, 172, 251, 203, 190, 16, 144, 36, 138, 136, 22, 113, 66, 10, 220, 24, 197, 135, 96, 15, 29] [1, 4, 115, 104, 111, 112, 3, 119, 101, 98, 7, 2, 7, 0, 0, 10, 5, 205, 1, 1]) 0 = 19 := by decide +kernel
set_option maxRecDepth 100000 in
theorem ex_mac2 : nth (macS [84, 17, 64, 187, 71, 32, 75, 195, 108, 248, 68, 159, 172, 251, 203, 190, 16, 144, 36, 138, 136, 22, 113, 66, 10, 220, 24, 197, 135, 96, 15, 29] [1, 4, 115, 104, 111, 112, 3, 119, 101, 98, 8, 2, 7, 0, 0, 10, 5, 205, 1, 1]) 0 = 100 := by decide +kernel
theorem ex_sig : sigS [107] exT ≠ sigS [107] exU := by
  intro h
  rw [sigS, sigS, show exT.key = 1 from rfl, show exU.key = 1 from rfl, ex_key, ex_said, ex_said2] at h
  have h2 := ex_mac
  rw [h, ex_mac2] at h2
  exact absurd h2 (by decide)
theorem ex_may : mayT exT = true := by decide +kernel
theorem ex_mayU : mayT exU = true := by decide +kernel
end Go.Proofs.YtaomigfmjglggaaDoor
namespace Go.Proofs.YtaomigfmjglggaaDoor
open Go.RowKit

theorem said_mac (t : Tk) (m : List Int) : saidS { t with mac := m } = saidS t := rfl
theorem sigS_mac (k : List Int) (t : Tk) (m : List Int) : sigS k { t with mac := m } = sigS k t := by
  unfold sigS
  rw [said_mac]
theorem mayT_mac (t : Tk) (m : List Int) : mayT { t with mac := m } = mayT t := rfl
theorem signT_some (k : List Int) (t : Tk) : ∃ m : List Int, signT k t = { t with mac := m } ∧ m.length = 32 ∧ (∀ x ∈ m, 0 ≤ x ∧ x < 256) ∧ sigS k t = m := by
  refine ⟨sigS k t, ?_, length_sigS k t, sigS_range k t, rfl⟩
  unfold signT
  generalize sigS k t = R
  rfl
theorem okS_mac (k : List Int) (t : Tk) (m : List Int) : okS k { t with mac := m } = (sigS k t == m) := by
  unfold okS
  rw [sigS_mac]
theorem ver_case {k : List Int} {o n : Nat} {t : Tk} {now : Nat} (h1 : mayR k.length o n = true) (h2 : mayT t = true) : verS k o n t now = if o ≤ t.key ∧ t.key ≤ n ∧ okS k t = true then (if t.born ≤ now ∧ now < t.til then 0 else 9) else 7 := by
  unfold verS
  rw [if_pos ⟨h1, h2⟩]
def shopB : ByteArray := ⟨#[115, 104, 111, 112]⟩
def webB : ByteArray := ⟨#[119, 101, 98]⟩

theorem ex_ver : ∃ T U : Tk, issT [107] 1 1 shopB webB 7 2 167772167 5 = T ∧ issE [107] 1 1 shopB webB 7 2 167772167 5 = 0 ∧ T.mac.length = 32 ∧ U.mac.length = 32 ∧ (tkC T).set 2 (.int .u64 8) = tkC U ∧ T.ok ∧ U.ok ∧ T.til = 205 ∧ T.key = 1 ∧
    verS [107] 1 1 T 204 = 0 ∧ verS [107] 1 1 T 205 = 9 ∧ verS [107] 1 1 U 5 = 7 ∧ freshB T 104 = true ∧ freshB T 105 = false := by
  have hr : mayR [107].length 1 1 = true := by decide
  have hm : mayT (tok0 1 shopB webB 7 2 167772167 5) = true := ex_may
  obtain ⟨m, h1, h2, h3, h4⟩ := signT_some [107] exT
  have hok : (tok0 1 shopB webB 7 2 167772167 5).ok := IssOk.tok ⟨by decide, by decide, by decide, by decide, by decide, by decide, by decide, by decide⟩
  have hokT : okS [107] { exT with mac := m } = true := by rw [okS_mac, h4, beq_self_eq_true]
  have hU : okS [107] { exU with mac := m } = false := by
    rw [okS_mac, ← h4]
    exact beq_eq_false_iff_ne.2 (fun e => ex_sig e.symm)
  have v1 : ∀ now, verS [107] 1 1 { exT with mac := m } now = if 5 ≤ now ∧ now < 205 then 0 else 9 := fun now => by
    rw [ver_case hr (by rw [mayT_mac]; exact ex_may), hokT]
    rfl
  have v2 : ∀ now, verS [107] 1 1 { exU with mac := m } now = 7 := fun now => by
    rw [ver_case hr (by rw [mayT_mac]; exact ex_mayU), hU]
    rfl
  refine ⟨{ exT with mac := m }, { exU with mac := m }, ?_, ?_, h2, h2, rfl, ⟨hok.ns, hok.sa, hok.uid, hok.host1, hok.host2, hok.addr, hok.born, hok.til, hok.key, h2, h3⟩,
    ⟨hok.ns, hok.sa, by show 8 < _; omega, hok.host1, hok.host2, hok.addr, hok.born, hok.til, hok.key, h2, h3⟩, rfl, rfl, v1 204, v1 205, v2 5, rfl, rfl⟩
  · unfold issT
    rw [if_pos ⟨hr, hm⟩]
    exact h1
  · unfold issE
    rw [if_pos ⟨hr, hm⟩]

theorem run_storeVar_u64 (w : World) (b o : Nat) (n : Int) (ht : w.there b o 1) : (storeVar 23 ⟨b, o, none⟩ (.int .u64 n)).run Tryd.prog w = .ok () (w.setCell ⟨b, o, none⟩ (.int .u64 n)) := by
  have h := run_storeCells_cells (P := Tryd.prog) b o [.int .u64 n] 0 w (fun j hj => by simpa using (ht j (by simpa using hj)).1) (fun j hj => by simpa using (ht j (by simpa using hj)).2) (fun v hv => by simp at hv; rw [hv]; rfl)
  obtain ⟨i, hi, hs⟩ := Option.map_eq_some_iff.1 (show (Tryd.prog.info? 23).map (·.size) = some 1 by kernel_rfl)
  simp only [Nat.add_zero] at h
  simp [storeVar, sizeOf, typeInfo, hi, hs, Value.cells, h, World.setCells]
theorem wpList_store_uid {ops : Array Oper} {rest : List Oper} {op : Oper} {a : Act} {w : World} {Q : Exit → Act → World → Prop} (hgd : op.guard = none) (x y : Operand) (ho : op.op = .store 23 x y) (g : Nat) (hx : a.eval x = .pointer (some ⟨g, 2, none⟩)) (n : Int) (hy : a.eval y = .int .u64 n) (t : Tk) (ht : TBox w g t) (Post : World → Prop) (hp : Post (w.setCell ⟨g, 2, none⟩ (.int .u64 n)))
    (h : ∀ w', Post w' → wpList Tryd.prog ops Q rest (a.put op.dst undef) w') : wpList Tryd.prog ops Q (op :: rest) a w := by
  refine wpList_plain hgd fun K hK => ?_
  have hth : w.there g 2 1 := fun j hj => by
    obtain rfl : j = 0 := by omega
    exact ⟨by rw [ht.c2]; rfl, ht.free 2⟩
  unfold Oper.wp execOp
  simp only [ho, hx, hy, Instr.storeAt, Instr.sureAddr, Sem.run_bind, Sem.run_pure, Result.andThen_ok, run_storeVar_u64 w g 2 n hth]
  exact hK _ _ (h _ hp)
/-- What is known of memory when the example's tokens are there. -/
structure AwkW (w w2 : World) (T U : Tk) (W : World) : Prop where
  r : RBox W (w.heap.size + 1) (.slice (some ⟨w.heap.size, 0, none⟩) 1 1) 1 1
  x : TBox W w2.heap.size T
  y : TBox W (w2.heap.size + 1) U
  s : SlAt W (.slice (some ⟨w.heap.size, 0, none⟩) 1 1) [107]
  b : Below w.heap.size w W
theorem sizeRing : (Tryd.prog.info? 25).map (·.size) = some 3 := by kernel_rfl
set_option maxRecDepth 100000 in
set_option maxHeartbeats 2000000 in
theorem awake_any (w : World) (ht : Tab w) : Calls Tryd.prog 12 #[] w (LawPost w) := by
  have HT := hide ht
  obtain ⟨T, U, hT, hE, hTm, hUm, hTU, hTo, hUo, htil, hkey, hv1, hv2, hv3, hf1, hf2⟩ := ex_ver
  have HTo := hide hTo
  have HUo := hide hUo
  have HTm := hide hTm
  have HUm := hide hUm
  have HTU := hide hTU
  have HTK := hide (And.intro htil hkey)
  have kc := fun (w : World) (C : Array Value) (n c g : Nat) (hg : g = w.heap.size) => Joins.run_convert_bytes_const_at (P := Tryd.prog) w 22 5 C n c g hg Tryd.underlying22 Tryd.underlying5
  have HB0 := hide (((Below.refl w.heap.size w).alloc (Nat.le_refl _) (.cells #[.int .u8 107] 5)).alloc (by simp) (.cells #[.slice none 0 0, .int .u64 0, .int .u64 0] 25))
  clear hTo hUo hTm hUm hTU htil hkey
  go_enter Tryd.func12, Tryd.ntmps12
  go_wp2_with fail
  clear kc
  have hb1 : Below w.heap.size w ((w.alloc (.cells #[.int .u8 107] 5 (1, 2))).alloc (.cells #[.slice (some ⟨w.heap.size, 0, none⟩) 1 1, .int .u64 1, .int .u64 1] 25)) := ((Below.refl _ _).alloc (Nat.le_refl _) _).alloc (by simp) _
  have hr1 : RBox ((w.alloc (.cells #[.int .u8 107] 5 (1, 2))).alloc (.cells #[.slice (some ⟨w.heap.size, 0, none⟩) 1 1, .int .u64 1, .int .u64 1] 25)) (w.heap.size + 1) (.slice (some ⟨w.heap.size, 0, none⟩) 1 1) 1 1 := by
    have h := heap_alloc_new (w.alloc (.cells #[.int .u8 107] 5 (1, 2))) (.cells #[.slice (some ⟨w.heap.size, 0, none⟩) 1 1, .int .u64 1, .int .u64 1] 25)
    rw [show (w.alloc (.cells #[.int .u8 107] 5 (1, 2))).heap.size = w.heap.size + 1 from by simp] at h
    exact h
  have hs1 : SlAt ((w.alloc (.cells #[.int .u8 107] 5 (1, 2))).alloc (.cells #[.slice (some ⟨w.heap.size, 0, none⟩) 1 1, .int .u64 1, .int .u64 1] 25)) (.slice (some ⟨w.heap.size, 0, none⟩) 1 1) [107] := slAt_lit (xs := [107]) (fr := (1, 2)) ((Below.heap_alloc _ _ _ (by simp)).trans (heap_alloc_new w _)) (Nat.le_refl _)
  obtain ⟨w1, hw1⟩ : ∃ w1, w1 = ((w.alloc (.cells #[.int .u8 107] 5 (1, 2))).alloc (.cells #[.slice (some ⟨w.heap.size, 0, none⟩) 1 1, .int .u64 1, .int .u64 1] 25)) := ⟨_, rfl⟩
  rw [← hw1] at hb1 hr1 hs1 ⊢
  clear hw1
  have hC := issue_any [107] (.slice (some ⟨w.heap.size, 0, none⟩) 1 1) 1 1 shopB webB 7 2 167772167 5 w1 ⟨by decide, by decide, by decide, by decide, by decide, by decide, by decide, by decide⟩ (HT.out.below hb1 HT.out.two) hs1
  rw [hT, hE] at hC
  clear hT hE HB0
  have HV1 := hide (fun (W : World) (hb : Below w.heap.size w W) (hs : SlAt W (.slice (some ⟨w.heap.size, 0, none⟩) 1 1) [107]) => (show _ from by have h := verify_any [107] (.slice (some ⟨w.heap.size, 0, none⟩) 1 1) 1 1 T 204 W HTo.out (HT.out.below hb HT.out.two) hs; rw [hv1] at h; exact h))
  have HV2 := hide (fun (W : World) (hb : Below w.heap.size w W) (hs : SlAt W (.slice (some ⟨w.heap.size, 0, none⟩) 1 1) [107]) => (show _ from by have h := verify_any [107] (.slice (some ⟨w.heap.size, 0, none⟩) 1 1) 1 1 T 205 W HTo.out (HT.out.below hb HT.out.two) hs; rw [hv2] at h; exact h))
  have HV3 := hide (fun (W : World) (hb : Below w.heap.size w W) (hs : SlAt W (.slice (some ⟨w.heap.size, 0, none⟩) 1 1) [107]) => (show _ from by have h := verify_any [107] (.slice (some ⟨w.heap.size, 0, none⟩) 1 1) 1 1 U 5 W HUo.out (HT.out.below hb HT.out.two) hs; rw [hv3] at h; exact h))
  have HF1 := hide (fun W => (show _ from by have h := fresh_any T HTo.out 104 (by decide) W; rw [hf1] at h; exact h))
  have HF2 := hide (fun W => (show _ from by have h := fresh_any T HTo.out 105 (by decide) W; rw [hf2] at h; exact h))
  clear hv1 hv2 hv3 hf1 hf2
  refine hC.mono ?_
  rintro e w2 ⟨rfl, hB2⟩
  have hr2 := hr1.next hB2
  have hs2 := hs1.below hB2
  have hb2 := hb1.trans (hB2.mono hb1.size)
  have hlt := hr2.lt
  clear hC hr1 hs1 hb1 hB2
  have hx3 : TBox ((w2.alloc (.cells (tkA tk0) 31)).setRow w2.heap.size (tkA T)) w2.heap.size T := (TBox.new w2 tk0).row
  have hz3 : ((w2.alloc (.cells (tkA tk0) 31)).setRow w2.heap.size (tkA T)).heap.size = w2.heap.size + 1 := by rw [size_setRow]; simp
  have hB3 : Below w2.heap.size w2 ((w2.alloc (.cells (tkA tk0) 31)).setRow w2.heap.size (tkA T)) := below_setRow ((Below.refl _ _).alloc (Nat.le_refl _) _) (Nat.le_refl _) _
  have HX3 := hide hx3
  have HZ3 := hide hz3
  have hy3 : TBox (((w2.alloc (.cells (tkA tk0) 31)).setRow w2.heap.size (tkA T)).alloc (.cells (tkA tk0) 31)) (w2.heap.size + 1) tk0 := by have h := TBox.new ((w2.alloc (.cells (tkA tk0) 31)).setRow w2.heap.size (tkA T)) tk0; rw [hz3] at h; exact h
  have HY3 := hide hy3
  have hx4 : TBox ((((w2.alloc (.cells (tkA tk0) 31)).setRow w2.heap.size (tkA T)).alloc (.cells (tkA tk0) 31)).setRow (w2.heap.size + 1) (tkA T)) w2.heap.size T := (_root_.Go.setRow_other _ _ _ _ (by omega)).trans (hx3.alloc _)
  have hy4 : TBox ((((w2.alloc (.cells (tkA tk0) 31)).setRow w2.heap.size (tkA T)).alloc (.cells (tkA tk0) 31)).setRow (w2.heap.size + 1) (tkA T)) (w2.heap.size + 1) T := hy3.row
  have hB4 : Below w2.heap.size w2 ((((w2.alloc (.cells (tkA tk0) 31)).setRow w2.heap.size (tkA T)).alloc (.cells (tkA tk0) 31)).setRow (w2.heap.size + 1) (tkA T)) := below_setRow (hB3.alloc hB3.size _) (by omega) _
  have HY4 := hide hy4
  have HST := hide (show AwkW w w2 T U ((((((w2.alloc (.cells (tkA tk0) 31)).setRow w2.heap.size (tkA T)).alloc (.cells (tkA tk0) 31)).setRow (w2.heap.size + 1) (tkA T)).setCell ⟨w2.heap.size + 1, 2, none⟩ (.int .u64 8))) from ⟨hr2.next (hB4.setCell (by show w2.heap.size ≤ w2.heap.size + 1; omega) _), (heap_setCell_other _ _ _ _ (by simp)).trans hx4, hy4.setC 2 _ HTU.out, hs2.below (hB4.setCell (by show w2.heap.size ≤ w2.heap.size + 1; omega) _), hb2.trans ((hB4.setCell (by show w2.heap.size ≤ w2.heap.size + 1; omega) _).mono hb2.size)⟩)
  clear hx3 hz3 hB3 hy3 hx4 hy4 hB4 hr2 hs2 hb2 hlt
  go_wp2_with (first | (refine wpList_alloc_tk_at rfl rfl (w2.heap.size + 1) HZ3.out ?_) | (refine wpList_alloc_tk rfl rfl ?_) | (refine wpList_store_tk rfl (.tmp 2) (.tmp 12) rfl w2.heap.size T rfl rfl tk0 tk0_len HTm.out (TBox.new _ _) ?_) | (refine wpList_load_tk rfl (.tmp 2) rfl w2.heap.size rfl T HTm.out HX3.out ?_) | (refine wpList_store_uid rfl (.tmp 15) _ rfl (w2.heap.size + 1) rfl 8 rfl T HY4.out (AwkW w w2 T U) HST.out ?_; intro w5 hp; have HR5 := hide hp.r; have HX5 := hide hp.x; have HY5 := hide hp.y; have HS5 := hide hp.s; have HB5 := hide hp.b; have p0 := HR5.out.c0; have p1 := HR5.out.c1; have p2 := HR5.out.c2; have p6 := HX5.out.c6; have p7 := HX5.out.c7; rw [HTK.out.1] at p6; rw [HTK.out.2] at p7; clear hp HST HY4) | (refine wpList_store_tk rfl (.tmp 4) (.tmp 14) rfl (w2.heap.size + 1) T rfl rfl tk0 tk0_len HTm.out HY3.out ?_) | (refine wpList_load_tk_w (by rfl) (.tmp 2) rfl w2.heap.size rfl T HTm.out HX5.out ?_) | (go_at_call 22; refine (HV1.out _ HB5.out HS5.out).mono ?_; rintro e w6 ⟨rfl, hB⟩; have HR6 := hide (HR5.out.next hB); have HX6 := hide (HX5.out.next hB); have HY6 := hide (HY5.out.next hB); have HS6 := hide (HS5.out.below hB); have HB6 := hide (HB5.out.trans (hB.mono HB5.out.size)); clear p0 p1 p2 p6 p7 hB HR5 HX5 HY5 HS5 HB5; have q0 := HR6.out.c0; have q1 := HR6.out.c1; have q2 := HR6.out.c2; have q6 := HX6.out.c6; have q7 := HX6.out.c7; rw [HTK.out.1] at q6; rw [HTK.out.2] at q7; clear HV1) | (refine wpList_load_tk_w (by rfl) (.tmp 2) rfl w2.heap.size rfl T HTm.out HX6.out ?_) | (go_at_call 22; refine (HV2.out _ HB6.out HS6.out).mono ?_; rintro e w7 ⟨rfl, hB⟩; have HR7 := hide (HR6.out.next hB); have HX7 := hide (HX6.out.next hB); have HY7 := hide (HY6.out.next hB); have HS7 := hide (HS6.out.below hB); have HB7 := hide (HB6.out.trans (hB.mono HB6.out.size)); clear q0 q1 q2 q6 q7 hB HR6 HX6 HY6 HS6 HB6; have r0 := HR7.out.c0; have r1 := HR7.out.c1; have r2 := HR7.out.c2; have r6 := HX7.out.c6; have r7 := HX7.out.c7; rw [HTK.out.1] at r6; rw [HTK.out.2] at r7; clear HV2) | (refine wpList_load_tk_w (by rfl) (.tmp 4) rfl (w2.heap.size + 1) rfl U HUm.out HY7.out ?_) | (go_at_call 22; refine (HV3.out _ HB7.out HS7.out).mono ?_; rintro e w8 ⟨rfl, hB⟩; have HR8 := hide (HR7.out.next hB); have HX8 := hide (HX7.out.next hB); have HY8 := hide (HY7.out.next hB); have HS8 := hide (HS7.out.below hB); have HB8 := hide (HB7.out.trans (hB.mono HB7.out.size)); clear r0 r1 r2 r6 r7 hB HR7 HX7 HY7 HS7 HB7; have s0 := HR8.out.c0; have s1 := HR8.out.c1; have s2 := HR8.out.c2; have s6 := HX8.out.c6; have s7 := HX8.out.c7; rw [HTK.out.1] at s6; rw [HTK.out.2] at s7; clear HV3) | (refine wpList_load_tk_w (by rfl) (.tmp 2) rfl w2.heap.size rfl T HTm.out HX8.out ?_) | (go_at_call 17; refine (HF1.out _).mono ?_; rintro e w9 ⟨rfl, hB⟩; have HR9 := hide (HR8.out.next hB); have HX9 := hide (HX8.out.next hB); have HY9 := hide (HY8.out.next hB); have HS9 := hide (HS8.out.below hB); have HB9 := hide (HB8.out.trans (hB.mono HB8.out.size)); clear s0 s1 s2 s6 s7 hB HR8 HX8 HY8 HS8 HB8; have t0 := HR9.out.c0; have t1 := HR9.out.c1; have t2 := HR9.out.c2; have t6 := HX9.out.c6; have t7 := HX9.out.c7; rw [HTK.out.1] at t6; rw [HTK.out.2] at t7; clear HF1) | (refine wpList_load_tk_w (by rfl) (.tmp 2) rfl w2.heap.size rfl T HTm.out HX9.out ?_) | (go_at_call 17; refine (HF2.out _).mono ?_; rintro e w10 ⟨rfl, hB⟩; have HR10 := hide (HR9.out.next hB); have HX10 := hide (HX9.out.next hB); have HY10 := hide (HY9.out.next hB); have HS10 := hide (HS9.out.below hB); have HB10 := hide (HB9.out.trans (hB.mono HB9.out.size)); clear t0 t1 t2 t6 t7 hB HR9 HX9 HY9 HS9 HB9; have u0 := HR10.out.c0; have u1 := HR10.out.c1; have u2 := HR10.out.c2; have u6 := HX10.out.c6; have u7 := HX10.out.c7; rw [HTK.out.1] at u6; rw [HTK.out.2] at u7; clear HF2))
  go_ret
  exact ⟨rfl, HB10.out⟩
end Go.Proofs.YtaomigfmjglggaaDoor
