/- The document's All: the messages that stand whole in bytes. -/
import Derived.Test.YtafmgoekgijfgaaGreatDoorBRqRMes
namespace Go.Proofs.YtafmgoekgijfgaaGreatDoor
open Go.RowKit Go.Lib

/-- What it answers. -/
def AllPost (w : World) (b : List UInt8) (e : Ending) (w' : World) : Prop := ∃ (wa : Option Addr) (wn wc : Nat), e = .returned (.tuple #[.slice wa wn wc, .bool (rowP b).2.1, .int .i64 ((rowP b).2.2 : Nat)]) ∧ RawsAt 33 w' (.slice wa wn wc) (rowP b).1 ∧ Below w.heap.size w w'
theorem AllPost.of {w w' : World} {b : List UInt8} {xs : List Rw} {i : Bool} {c : Nat} {wa : Option Addr} {wn wc : Nat} (h : rowP b = (xs, i, c)) (hr : RawsRow 33 w' w.heap.size (.slice wa wn wc) xs) (hb : Below w.heap.size w w') : AllPost w b (.returned (.tuple #[.slice wa wn wc, .bool i, .int .i64 (c : Int)])) w' := by
 unfold AllPost
 rw [h]
 exact ⟨wa, wn, wc, rfl, hr.at, hb⟩
set_option maxRecDepth 100000 in
/-- A message more. -/
theorem push_msg (W W1 : World) (B : Nat) (ao : Option Addr) (m c : Nat) (xs : List Rw) (h : RawsRow 33 W B (.slice ao m c) xs) (hB : B ≤ W.heap.size) (hb : Below W.heap.size W W1) (x : Rw) (ha : Option Addr) (hc : Nat) (ba : Option Addr) (bc : Nat) (g1 : GRow KH W1 W.heap.size (.slice ha x.heads.length hc) x.heads) (g2 : GRow KB W1 W.heap.size (.slice ba x.body.length bc) x.body) (hl : xs.length ≤ 900000) :
   ∃ a' m' c' w', (Builtin.append_ #[60, 60] 60 #[.slice ao m c, .slice (some ⟨W1.heap.size + 1, 0, none⟩) 1 1]).run Tryz.prog ((W1.alloc (rawC (bo x.start) (.slice ha x.heads.length hc) (.slice ba x.body.length bc))).alloc (rawC (bo x.start) (.slice ha x.heads.length hc) (.slice ba x.body.length bc))) = .ok (.slice a' m' c') w' ∧ RawsRow 33 w' B (.slice a' m' c') (xs ++ [x]) ∧ Below B W w' := by
 obtain ⟨o, ho⟩ : ∃ o, o = rawC (bo x.start) (.slice ha x.heads.length hc) (.slice ba x.body.length bc) := ⟨_, rfl⟩
 have z2 := (Below.refl W1.heap.size W1).alloc (Nat.le_refl _) o
 have z3 := z2.alloc z2.size o
 have hb3 := hb.trans (z3.mono hb.size)
 let rv : RV := ⟨bo x.start, ⟨ha, x.heads.length, hc⟩, ⟨ba, x.body.length, bc⟩⟩
 have hrow := h.below hb3
 have hsz : (W1.alloc o).heap.size = W1.heap.size + 1 := by simp
 have hs0 := GRow.lit (K := KR 33) (W1.alloc o) 0 [rv] (Nat.zero_le _) (show 1 ≤ maxLen by decide)
 have hs1 : GAt (KR 33) ((W1.alloc o).alloc o) (.slice (some ⟨W1.heap.size + 1, 0, none⟩) 1 1) [rv] := by
   rw [hsz] at hs0
   rw [ho]
   rw [ho] at hs0
   exact hs0.gAt
 have hr1 : RawAt ((W1.alloc o).alloc o) rv x := ⟨rfl, g1.gAt.below z3, g2.gAt.below z3⟩
 obtain ⟨lr, q1, _, _⟩ := h
 have hlt : ∀ k, (Value.slice ao m c).ownBlock = some k → k < W.heap.size := fun k hk => q1.lt hk
 have hge : ∀ k, (Value.slice ao m c).ownBlock = some k → B ≤ k := fun k hk => q1.ge hk
 have hoff : ∀ r ∈ [rv], RawLt ((W1.alloc o).alloc o) r ∧ RawOff (ownF (.slice ao m c)) r := by
   intro r hr
   rw [List.mem_singleton.1 hr]
   refine ⟨⟨fun k hk => Nat.lt_of_lt_of_le (g1.lt hk) z3.size, fun k hk => Nat.lt_of_lt_of_le (g2.lt hk) z3.size⟩, fun k hk hF => ?_, fun k hk hF => ?_⟩
   · have := g1.ge hk
     have := hlt k hF
     omega
   · have := g2.ge hk
     have := hlt k hF
     omega
 obtain ⟨v', w', e1, e2, e3, _⟩ := push_raws (P := Tryz.prog) (t := 33) 60 Tryz.underlying60 (by kernel_rfl) ((W1.alloc o).alloc o) B (.slice ao m c) xs hrow _ [rv] [x] hs1 (RawsOf.one hr1) hoff (by simp only [List.length_cons, List.length_nil]; omega) (Nat.le_trans hB hb3.size)
 obtain ⟨a', c', ev⟩ := e2.at.len
 subst ev
 rw [ho] at e1
 exact ⟨a', _, c', w', e1, e2, e3.through (hb3.mono hB) hge (Nat.le_trans hB hb3.size)⟩
theorem row_more {b : List UInt8} (h : b ≠ []) (hm : mesP b = .more) : rowP b = ([], false, 0) := by rw [rowP_fin h, hm]; rfl
theorem row_bad {b : List UInt8} {c : Nat} (h : b ≠ []) (hm : mesP b = .bad c) : rowP b = ([], false, c) := by rw [rowP_fin h, hm]; rfl
theorem row_msg {b q : List UInt8} {x : Rw} (h : b ≠ []) (hm : mesP b = .msg x q) : rowP b = (x :: (rowP q).1, (rowP q).2) := by rw [rowP_fin h, hm]; rfl
theorem AllPost.len {k n : Nat} {b : List UInt8} (hn : b.length = n) {xs : List Rw} (h : rowP b = (xs ++ (rowP (b.drop k)).1, (rowP (b.drop k)).2)) : xs.length ≤ n := by
 have := row_len b.length b (Nat.le_refl _)
 rw [h] at this
 simp only [List.length_append] at this
 omega
set_option maxRecDepth 100000 in
set_option maxHeartbeats 4000000 in
theorem rall_any (vo : Option Addr) (vc n : Nat) (b : List UInt8) (hbn : b.length = n) (w : World) (gv : GAt KB w (.slice vo n vc) b) (hbl : n ≤ 200000) :
   Calls Tryz.prog 38 #[.slice vo n vc] w (AllPost w b) := by
 have HN := hideL hbn
 have LM := hideL (fun (k : Nat) (hk : k ≤ n) (W : World) (hb : Below w.heap.size w W) => rmes_any vo vc n b hbn k W (gv.below hb) hk hbl)
 have HBL := hideL hbl
 have H0 : HidL (rowP b = ([] ++ (rowP (b.drop 0)).1, (rowP (b.drop 0)).2)) := ⟨rfl⟩
 clear gv hbn hbl
 go_enter Tryz.func38, Tryz.ntmps38
 go_wp2_with fail
 go_loopw [5, 6] (fun r i wr => ∃ (k : Nat) (ao : Option Addr) (m c : Nat) (xs : List Rw), i = .int .i64 k ∧ k ≤ n ∧ r = .slice ao m c ∧ HidL (RawsRow 33 wr w.heap.size (.slice ao m c) xs) ∧ HidL (Below w.heap.size w wr) ∧ HidL (rowP b = (xs ++ (rowP (b.drop k)).1, (rowP (b.drop k)).2))) (fun _ i _ => n - (RowKit.intOf i).toNat)
 case atStart => exact ⟨0, none, 0, 0, [], rfl, Nat.zero_le _, rfl, ⟨RawsRow.nil _ _ _⟩, ⟨Below.refl _ _⟩, H0⟩
 case round =>
   obtain ⟨k, ao, m, c, xs, rfl, hk, rfl, HR, HB, HE⟩ := hrel
   clear H0
   obtain ⟨W, rfl⟩ : ∃ W, W = wr := ⟨_, rfl⟩
   by_cases hlt : k < n
   · have hlt' : (k : Int) < (n : Int) := by omega
     have hne : b.drop k ≠ [] := fun e => by
       have := congrArg List.length e
       rw [List.length_drop, HN.out] at this
       simp at this
       omega
     have LM1 := LM.out k hk W HB.out
     cases hm : mesP (b.drop k) with
     | more =>
       rw [hm] at LM1
       unfold MesPost at LM1
       simp only [msgA] at LM1
       have HF := hideL (show rowP b = (xs, false, 0) from by rw [HE.out, row_more hne hm, List.append_nil])
       have LM2 := hideL LM1
       clear LM1 hm hne HE
       go_wp2_with (go_at_call 71; (with_reducible refine LM2.out.mono ?_); rintro e w1 ⟨⟨s, ha, hn, hc, ba, bn, bc, rfl⟩, hB⟩; have hz2 := (Below.refl w1.heap.size w1).alloc (Nat.le_refl _) (rawC s (.slice ha hn hc) (.slice ba bn bc)); have hz3 := hB.trans (hz2.mono hB.size); have HB1 := hideL (HB.out.trans (hz3.mono HB.out.size)); have HR1 := hideL (HR.out.below hz3); clear hB hz2 hz3)
       exact bodyPost_ret (v := .tuple #[.slice ao m c, .bool false, .int .i64 0]) (by simp [results, Tryz.results38, go_sem]) rfl (AllPost.of HF.out HR1.out HB1.out)
     | bad ec =>
       rw [hm] at LM1
       unfold MesPost at LM1
       simp only [msgA] at LM1
       have HF := hideL (show rowP b = (xs, false, ec) from by rw [HE.out, row_bad hne hm, List.append_nil])
       have LM2 := hideL LM1
       clear LM1 hm hne HE
       go_wp2_with (go_at_call 71; (with_reducible refine LM2.out.mono ?_); rintro e w1 ⟨⟨s, ha, hn, hc, ba, bn, bc, rfl⟩, hB⟩; have hz2 := (Below.refl w1.heap.size w1).alloc (Nat.le_refl _) (rawC s (.slice ha hn hc) (.slice ba bn bc)); have hz3 := hB.trans (hz2.mono hB.size); have HB1 := hideL (HB.out.trans (hz3.mono HB.out.size)); have HR1 := hideL (HR.out.below hz3); clear hB hz2 hz3)
       exact bodyPost_ret (v := .tuple #[.slice ao m c, .bool false, .int .i64 ec]) (by simp [results, Tryz.results38, go_sem]) rfl (AllPost.of HF.out HR1.out HB1.out)
     | msg x q =>
       rw [hm] at LM1
       unfold MesPost at LM1
       simp only [msgA] at LM1
       obtain ⟨p1, p2, p3⟩ := mes_at hm
       rw [HN.out] at p1 p2 p3
       have hxl := AllPost.len HN.out HE.out
       have HF := hideL (show rowP b = (xs ++ [x] ++ (rowP (b.drop (n - q.length))).1, (rowP (b.drop (n - q.length))).2) from by rw [HE.out, row_msg hne hm, ← p3, List.append_assoc, List.singleton_append])
       obtain ⟨j, hj⟩ : ∃ j, n - q.length = j := ⟨_, rfl⟩
       simp only [hj] at LM1
       rw [hj] at p1 p2 HF
       have HP := hideL (fun (w1 : World) (hb : Below W.heap.size W w1) (ha : Option Addr) (hc : Nat) (ba : Option Addr) (bc : Nat) (g1 : GRow KH w1 W.heap.size (.slice ha x.heads.length hc) x.heads) (g2 : GRow KB w1 W.heap.size (.slice ba x.body.length bc) x.body) => push_msg W w1 w.heap.size ao m c xs HR.out HB.out.size hb x ha hc ba bc g1 g2 (by have := HBL.out; omega))
       have LM2 := hideL LM1
       clear LM1 hm hne HE p3 hj hxl HR
       go_wp2_with (first
         | (go_at_call 71; (with_reducible refine LM2.out.mono ?_); rintro e w1 ⟨⟨ha, hc, ba, bc, rfl, g1, g2⟩, hB⟩
            have xq := QBox.new w1 (bo x.start) (.slice ha x.heads.length hc) (.slice ba x.body.length bc)
            have x0 := xq.c0
            have x1 := xq.c1
            have x2 := xq.c2
            obtain ⟨na, nm, nc, w4, q1, r1, b1⟩ := HP.out w1 hB ha hc ba bc g1 g2
            have Q1 := hideL q1
            have HR4 := hideL r1
            have HB4 := hideL (HB.out.trans b1)
            clear q1 r1 b1 g1 g2 hB xq)
         | (at_builtin; refine wpList_append_runP rfl (.tmp 27) (.tmp 29) 60 60 60 rfl rfl _ _ _ w4 rfl rfl Q1.out ?_))
       go_roundw
       case rel => exact ⟨j, na, nm, nc, xs ++ [x], by go_num, p2, rfl, HR4, HB4, HF⟩
       case measure => simp [RowKit.intOf]; omega
   · obtain rfl : k = n := by omega
     have hlt' : ¬ (k : Int) < (k : Int) := by omega
     have HF := hideL (show rowP b = (xs, true, 0) from by rw [HE.out, List.drop_of_length_le (by rw [HN.out]; exact Nat.le_refl _), rowP_nil, List.append_nil])
     clear HE
     go_wp2_with fail
     exact bodyPost_ret (v := .tuple #[.slice ao m c, .bool true, .int .i64 0]) (by simp [results, Tryz.results38, go_sem]) rfl (AllPost.of HF.out HR.out HB.out)
end Go.Proofs.YtafmgoekgijfgaaGreatDoor
