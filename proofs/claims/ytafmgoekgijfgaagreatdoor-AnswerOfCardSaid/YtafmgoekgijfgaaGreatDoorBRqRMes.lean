/- The document's Message. -/
import Derived.Test.YtafmgoekgijfgaaGreatDoorBRqM2
import Derived.Test.YtafmgoekgijfgaaGreatDoorBRqRChu
import Derived.Test.YtafmgoekgijfgaaGreatDoorBHdRefM
import Derived.Test.YtafmgoekgijfgaaGreatDoorBHdRefR
import Derived.Test.YtafmgoekgijfgaaGreatDoorBRqOwn
namespace Go.Proofs.YtafmgoekgijfgaaGreatDoor
open Go.RowKit Go.Lib

theorem mes_stop {b : List UInt8} {e : Nat} (hl : lstop (rdlP 0 b) e) : mesP b = stopM e := by
 unfold mesP
 rcases hl with ⟨h1, rfl⟩ | ⟨h1, h2⟩
 · rw [h1]; rfl
 · rw [h1]; unfold stopM; rw [if_neg h2]
theorem mes_line {b t r : List UInt8} (h : rdlP 0 b = .line t r) : mesP b = heaP t [] r := by unfold mesP; rw [h]
theorem hea_stop {s b : List UInt8} {h : List Hd} {e : Nat} (hl : lstop (rdlP 0 b) e) : heaP s h b = stopM e := by
 rw [heaP_eq]
 rcases hl with ⟨h1, rfl⟩ | ⟨h1, h2⟩
 · rw [h1]; rfl
 · rw [h1]; unfold stopM; rw [if_neg h2]
theorem hea_end {s b r : List UInt8} {h : List Hd} (hl : rdlP 0 b = .line [] r) : heaP s h b = bodP s h r := by
 rw [heaP_eq, hl]
 simp only
 rw [if_pos trivial]
theorem hea_bad {s b t r n v : List UInt8} {h : List Hd} {c : Nat} (hl : rdlP 0 b = .line t r) (ht : t ≠ []) (hr : readP t = (c, n, v)) (hc : c ≠ 0) : heaP s h b = stopM c := by
 rw [heaP_eq, hl]
 simp only
 rw [if_neg ht, hr]
 cases c with
 | zero => exact absurd rfl hc
 | succ c => rfl
theorem hea_full {s b t r n v : List UInt8} {h : List Hd} (hl : rdlP 0 b = .line t r) (ht : t ≠ []) (hr : readP t = (0, n, v)) (hc : h.length = 24) : heaP s h b = stopM 3 := by
 rw [heaP_eq, hl]
 simp only
 rw [if_neg ht, hr]
 simp only
 rw [if_pos hc]
 rfl
theorem hea_more {s b t r n v : List UInt8} {h : List Hd} (hl : rdlP 0 b = .line t r) (ht : t ≠ []) (hr : readP t = (0, n, v)) (hc : h.length ≠ 24) : heaP s h b = heaP s (h ++ [⟨bo n, bo v⟩]) r := by
 rw [heaP_eq, hl]
 simp only
 rw [if_neg ht, hr]
 simp only
 rw [if_neg hc]
theorem bod_bad {s b : List UInt8} {h : List Hd} {e : Nat} {f : Bd} (hf : framP h = (e, f)) (he : e ≠ 0) : bodP s h b = stopM e := by
 unfold bodP
 rw [hf]
 cases e with
 | zero => exact absurd rfl he
 | succ e => rfl
theorem bod_chu {s b : List UInt8} {h : List Hd} {f : Bd} (hf : framP h = (0, f)) (hc : f.chunked = 1) : bodP s h b = chuP s h [] b := by
 unfold bodP
 rw [hf]
 simp only
 rw [if_pos hc]
theorem bod_more {s b : List UInt8} {h : List Hd} {f : Bd} (hf : framP h = (0, f)) (hc : f.chunked ≠ 1) (hl : b.length < f.len) : bodP s h b = stopM 0 := by
 unfold bodP
 rw [hf]
 simp only
 rw [if_neg hc, if_pos hl]
 rfl
theorem bod_msg {s b : List UInt8} {h : List Hd} {f : Bd} (hf : framP h = (0, f)) (hc : f.chunked ≠ 1) (hl : ¬ b.length < f.len) : bodP s h b = .msg ⟨s, h, b.take f.len⟩ (b.drop f.len) := by
 unfold bodP
 rw [hf]
 simp only
 rw [if_neg hc, if_neg hl]
theorem mayH_oneM {l : List Hd} {t n v : List UInt8} (hm : mayH l = true) (hr : readP t = (0, n, v)) (hk : l.length ≠ 24) : mayH (l ++ [⟨bo n, bo v⟩]) = true := by
 obtain ⟨g1, g2⟩ := readP_ok hr
 unfold mayH at hm ⊢
 simp only [Bool.and_eq_true, decide_eq_true_eq] at hm ⊢
 refine ⟨?_, by simp; omega⟩
 rw [List.all_append, hm.1]
 simp [goodP, bo_list, g1, g2]
theorem mayH_lenM {l : List Hd} (hm : mayH l = true) : l.length ≤ 24 := by
 unfold mayH at hm
 simp only [Bool.and_eq_true, decide_eq_true_eq] at hm
 exact hm.2
/-- What it answers. -/
def MesPost (w : World) (n : Nat) (R : MR) (e : Ending) (w' : World) : Prop := (match R with
 | .more => ∃ s ha hn hc ba bn bc, e = .returned (msgA s ha hn hc ba bn bc 0 false 0)
 | .bad c => ∃ s ha hn hc ba bn bc, e = .returned (msgA s ha hn hc ba bn bc 0 false c)
 | .msg x q => ∃ ha hc ba bc, e = .returned (msgA (bo x.start) ha x.heads.length hc ba x.body.length bc ((n - q.length : Nat) : Int) true 0) ∧ GRow KH w' w.heap.size (.slice ha x.heads.length hc) x.heads ∧ GRow KB w' w.heap.size (.slice ba x.body.length bc) x.body) ∧ Below w.heap.size w w'
theorem MesPost.stop {w w' : World} {n c : Nat} (s : ByteArray) (ha : Option Addr) (hn hc : Nat) (ba : Option Addr) (bn bc : Nat) (hb : Below w.heap.size w w') : MesPost w n (stopM c) (.returned (msgA s ha hn hc ba bn bc 0 false c)) w' := by
 unfold MesPost stopM
 refine ⟨?_, hb⟩
 by_cases h : c = 0
 · subst h; exact ⟨_, _, _, _, _, _, _, rfl⟩
 · rw [if_neg h]; exact ⟨_, _, _, _, _, _, _, rfl⟩
theorem MesPost.whole {w w' : World} {n : Nat} {t body q : List UInt8} {h : List Hd} (ha : Option Addr) (hc : Nat) (ba : Option Addr) (bc k : Nat) (hk : n - q.length = k) (hh : GRow KH w' w.heap.size (.slice ha h.length hc) h) (hr : GRow KB w' w.heap.size (.slice ba body.length bc) body) (hb : Below w.heap.size w w') : MesPost w n (.msg ⟨t, h, body⟩ q) (.returned (msgA (bo t) ha h.length hc ba body.length bc (k : Int) true 0)) w' := by
 subst hk
 exact ⟨⟨_, _, _, _, rfl, hh, hr⟩, hb⟩
theorem MPost.out {w w' : World} {s : ByteArray} {ha : Option Addr} {hn hc n : Nat} {R : MR} {e : Ending} (h : MPost w s ha hn hc n R e w') : ∃ ba bn bc at_ ok, ∃ c : Nat, e = .returned (.tuple #[.agg #[.string s, .slice ha hn hc, .slice ba bn bc], .int .i64 at_, .bool ok, .int .i64 (c : Int)]) ∧ Below w.heap.size w w' ∧ ((((R = .more ∧ c = 0) ∨ R = .bad c) ∧ at_ = 0 ∧ ok = false) ∨ ∃ x q, R = .msg x q ∧ bn = x.body.length ∧ at_ = ((n - q.length : Nat) : Int) ∧ ok = true ∧ c = 0 ∧ GRow KB w' w.heap.size (.slice ba x.body.length bc) x.body) := by
 obtain ⟨h, hb⟩ := h
 cases R with
 | more => obtain ⟨ba, bn, bc, rfl⟩ := h; exact ⟨_, _, _, _, _, _, rfl, hb, .inl ⟨.inl ⟨rfl, rfl⟩, rfl, rfl⟩⟩
 | bad c => obtain ⟨ba, bn, bc, rfl⟩ := h; exact ⟨_, _, _, _, _, _, rfl, hb, .inl ⟨.inr rfl, rfl, rfl⟩⟩
 | msg x q => obtain ⟨ba, bc, rfl, hr⟩ := h; exact ⟨_, _, _, _, _, _, rfl, hb, .inr ⟨x, q, rfl, rfl, rfl, rfl, rfl, hr⟩⟩
theorem push_hL (W : World) (B : Nat) (a : Option Addr) (c : Nat) (l : List Hd) (h : GRow KH W B (.slice a l.length c) l) (x : Hd) (hl : l.length ≤ 1000000) (hB : B ≤ W.heap.size) :
   ∃ a' c' w', (Builtin.append_ #[24, 24] 24 #[.slice a l.length c, .slice (some ⟨W.heap.size, 0, none⟩) 1 1]).run Tryz.prog (W.alloc (.cells #[.string x.n, .string x.v] 83)) = .ok (.slice a' (l ++ [x]).length c') w' ∧ GRow KH w' B (.slice a' (l ++ [x]).length c') (l ++ [x]) ∧ Below B W w' := by
 obtain ⟨⟨a', n', c'⟩, w', h1, h2, h3⟩ := push_hK W B _ l h x hl hB
 have e := h2.gAt.le.1
 change n' = _ at e
 subst e
 exact ⟨a', c', w', h1, h2, h3.below (fun k hk => h.ge hk) hB⟩
theorem GRow.setH {W : World} {B g i : Nat} {v u : Value} {l : List Hd} (h : GRow KH W B v l) (hg : g < B) : GRow KH (W.setCell ⟨g, i, none⟩ u) B v l := h.keep (Keep.set (F := fun k => k = g) W ⟨g, i, none⟩ u rfl) (fun k hk he => by have := h.ge hk; omega)
theorem GRow.rowH {W : World} {B g : Nat} {v : Value} {l : List Hd} (h : GRow KH W B v l) (hg : g < B) (cs : Array Value) : GRow KH (W.setRow g cs) B v l := h.keep (F := fun k => k = g) ⟨rfl, rfl, rfl, by rw [size_setRow]; exact Nat.le_refl _, fun j _ hj => setRow_other W g j cs hj⟩ (fun k hk he => by have := h.ge hk; omega)
theorem GRow.rowB {W : World} {B g : Nat} {v : Value} {l : List UInt8} (h : GRow KB W B v l) (hg : g < B) (cs : Array Value) : GRow KB (W.setRow g cs) B v l := h.keep (F := fun k => k = g) ⟨rfl, rfl, rfl, by rw [size_setRow]; exact Nat.le_refl _, fun j _ hj => setRow_other W g j cs hj⟩ (fun k hk he => by have := h.ge hk; omega)
theorem QBox.put0 {W : World} {g : Nat} {s s' : ByteArray} {h b : Value} (q : QBox W g s h b) : QBox (W.setCell ⟨g, 0, none⟩ (.string s')) g s' h b := heap_setCell_same W g 0 _ _ (.string s') q
theorem QBox.put1 {W : World} {g : Nat} {s : ByteArray} {h h' b : Value} (q : QBox W g s h b) : QBox (W.setCell ⟨g, 1, none⟩ h') g s h' b := heap_setCell_same W g 1 _ _ h' q
theorem BBox.otherR {W : World} {g k : Nat} {a b c : Int} (q : BBox W g a b c) (hne : g ≠ k) {cs : Array Value} : BBox (W.setRow k cs) g a b c := (setRow_other W k g cs hne).trans q
set_option maxRecDepth 100000 in
set_option maxHeartbeats 8000000 in
theorem rmes_any (vo : Option Addr) (vc n : Nat) (b : List UInt8) (hbn : b.length = n) (k : Nat) (w : World) (gv : GAt KB w (.slice vo n vc) b) (hk : k ≤ n) (hbl : n ≤ 200000) :
   Calls Tryz.prog 71 #[.slice vo n vc, .int .i64 k] w (MesPost w n (mesP (b.drop k))) := by
 obtain ⟨R, hR⟩ : ∃ R, mesP (b.drop k) = R := ⟨_, rfl⟩
 rw [hR]
 have HE0 := hideL hR
 have HV := hideL gv
 have hvc := gv.le.2
 have HN := hideL hbn
 have LL := hideL (fun (j : Nat) (hj : j ≤ n) (W : World) (hb : Below w.heap.size w W) => rline_N vo vc b hbn j W (gv.below hb) hj (by omega))
 have LF := hideL rfault_any
 have LR := hideL readR_any
 have LFR := hideL framingR_any
 have LC := hideL (fun (j : Nat) (hj : j ≤ n) (s : ByteArray) (ha : Option Addr) (hn hc : Nat) (st : List UInt8) (hd : List Hd) (W : World) (hb : Below w.heap.size w W) => rchu_any vo vc n b hbn j s ha hn hc st hd W (gv.below hb) hj hbl)
 have HY0 := hideL ((QBox.new w ⟨#[]⟩ (.slice none 0 0) (.slice none 0 0)).next ((Below.refl _ _).alloc (Nat.le_refl _) (rawC ⟨#[]⟩ (.slice none 0 0) (.slice none 0 0))))
 have HX0 := hideL (QBox.new (w.alloc (rawC ⟨#[]⟩ (.slice none 0 0) (.slice none 0 0))) ⟨#[]⟩ (.slice none 0 0) (.slice none 0 0))
 have HB0 := hideL (((Below.refl w.heap.size w).alloc (Nat.le_refl _) (rawC ⟨#[]⟩ (.slice none 0 0) (.slice none 0 0))).alloc ((Below.refl w.heap.size w).alloc (Nat.le_refl _) (rawC ⟨#[]⟩ (.slice none 0 0) (.slice none 0 0))).size (rawC ⟨#[]⟩ (.slice none 0 0) (.slice none 0 0)))
 have HG0 := hideL (show w.heap.size < (w.alloc (rawC ⟨#[]⟩ (.slice none 0 0) (.slice none 0 0))).heap.size from (QBox.new w ⟨#[]⟩ (.slice none 0 0) (.slice none 0 0)).lt)
 have hsz : (w.alloc (rawC ⟨#[]⟩ (.slice none 0 0) (.slice none 0 0))).heap.size = w.heap.size + 1 := by simp
 rw [hsz] at HG0 HX0
 have HG1 := hideL HX0.out.lt
 clear gv hbn hR hsz
 go_enter Tryz.func71, Tryz.ntmps71
 go_upto_region 2 with fail
 generalize (w.alloc (rawC ⟨#[]⟩ (.slice none 0 0) (.slice none 0 0))).alloc (rawC ⟨#[]⟩ (.slice none 0 0) (.slice none 0 0)) = W0 at *
 generalize w.heap.size + 1 = g8 at *
 rcases lin_cut b k with ⟨how, ec, h1, h2, h3, h4⟩ | ⟨t, r, hl⟩
 · have hR : stopM ec = R := (mes_stop h4).symm.trans HE0.out
   subst hR
   have LL1 := LL.out k hk W0 HB0.out
   rw [h2] at LL1
   have LFh := fun W => LF.out how W
   rw [h3] at LFh
   have i1 : ((how : Int) != 1) = true := by rw [bne_iff_ne]; omega
   have LL2 := hideL LL1
   clear h1 h2 h3 h4 HE0 LL1
   go_upto_region 4 with (first
     | (go_at_call 113; (with_reducible refine (LL2.out).mono ?_); rintro e w1 ⟨rfl, hB⟩
        have hz3 := hB
        have HX1 := hideL (HX0.out.next hz3)
        have HY1 := hideL (HY0.out.next hz3)
        have HB1 := hideL (HB0.out.trans (hz3.mono HB0.out.size))
        have x0 := HX1.out.c0
        have x1 := HX1.out.c1
        have x2 := HX1.out.c2
        have xf0 := HX1.out.fz 0
        have xf1 := HX1.out.fz 1
        have xf2 := HX1.out.fz 2
        have y0 := HY1.out.fz 0
        have y1 := HY1.out.fz 1
        have y2 := HY1.out.fz 2
        have z0 := HY1.out.c0
        have z1 := HY1.out.c1
        have z2 := HY1.out.c2
        clear hB hz3))
   clear x0 x1 x2 xf0 xf1 xf2 y0 y1 y2 z0 z1 z2
   refine wp_region_held_drew (S := fun w' => QBox w' g8 ⟨#[]⟩ (.slice none 0 0) (.slice none 0 0) ∧ Below w.heap.size w w') (by kernel_rfl) ⟨HX1.out.drew, HB1.out.drew⟩ (fun hHeld => ?_)
   refine tm 0 (v := ?_) rfl hHeld ?_ ?_
   rotate_left
   · intro w hSw; (try dsimp only at hSw); have q0 := hSw.1.c0; have q1 := hSw.1.c1; have q2 := hSw.1.c2; go_simp; first | done | with_reducible rfl
   try simp only [pA, pB, pC, pD]
   refine tl 1 rfl hHeld ?_
   try simp only [pA, pB, pC, pD]
   refine wpAnyH_ready (rs := [2]) (by kernel_rfl) (by simp) ?_
   refine aC rfl (fun K hK => ?_)
   clear hHeld
   go_simp
   refine (LFh _).mono ?_
   rintro e V ⟨rfl, rfl⟩
   refine hK.out _ _ (⟨HX1.out.drew, HB1.out.drew⟩) (fun hHeld => ?_)
   clear hK K
   try simp only [pA, pB, pC, pD]
   refine wpAnyH_ready (rs := [3]) (by kernel_rfl) (by simp) ?_
   refine aC rfl (fun K hK => ?_)
   clear hHeld
   rw [if_pos (by rfl)]
   refine wp_store_row _ _ _ rfl w.heap.size #[.string ⟨#[]⟩, .slice none 0 0, .slice none 0 0] rfl rfl _ _ HY1.out.drew sizeRw rfl (oneRw _ _ _ _ _ _ _) ?_
   have HR := hideL (HY1.out.drew.put (s' := ⟨#[]⟩) (h' := .slice none 0 0) (b' := .slice none 0 0))
   have HBF := hideL (below_setRow HB1.out.drew (Nat.le_refl _) #[.string ⟨#[]⟩, .slice none 0 0, .slice none 0 0])
   refine hK.out _ _ (⟨QBox.otherR HX1.out.drew (by have := HG0.out; omega), HBF.out⟩) (fun hHeld => ?_)
   clear hK K
   try simp only [Act.put]
   refine tl 4 rfl hHeld ?_
   try simp only [pA, pB, pC, pD]
   refine tl 5 rfl hHeld ?_
   try simp only [pA, pB, pC, pD]
   refine tl 6 rfl hHeld ?_
   try simp only [pA, pB, pC, pD]
   refine wpAnyH_done (by kernel_rfl) ?_ _
   clear hHeld
   go_wp2_with fail
   have r0 := HR.out.c0
   have r1 := HR.out.c1
   have r2 := HR.out.c2
   exact bodyPost_ret (v := msgA ⟨#[]⟩ none 0 0 none 0 0 0 false ec) (by simp [results, Tryz.results71, go_sem, r0, r1, r2, msgA]) rfl (MesPost.stop _ _ _ _ _ _ _ HBF.out)
 · obtain ⟨hp1, hp2, _, hp4, hp5⟩ := rw_room HN.out hl (m := 0)
   have LL1 := LL.out k hk W0 HB0.out
   rw [linA_line hl] at LL1
   obtain ⟨j, hj⟩ : ∃ j, k + t.length + 2 = j := ⟨_, rfl⟩
   rw [hj] at LL1 hp1 hp2 hp4
   have HE1 := hideL ((show heaP t [] (b.drop j) = R from by rw [← hp4]; exact (mes_line hl).symm.trans HE0.out))
   have LL2 := hideL LL1
   clear LL1 hj hl hp2 hp4 hp5 HE0
   go_wp2_with (first
     | (go_at_call 113; (with_reducible refine (LL2.out).mono ?_); rintro e w1 ⟨rfl, hB⟩
        have hz3 := hB
        have HX1 := hideL (HX0.out.next hz3)
        have HY1 := hideL (HY0.out.next hz3)
        have HB1 := hideL (HB0.out.trans (hz3.mono HB0.out.size))
        have x0 := HX1.out.c0
        have x1 := HX1.out.c1
        have x2 := HX1.out.c2
        have xf0 := HX1.out.fz 0
        have xf1 := HX1.out.fz 1
        have xf2 := HX1.out.fz 2
        have y0 := HY1.out.fz 0
        have y1 := HY1.out.fz 1
        have y2 := HY1.out.fz 2
        have z0 := HY1.out.c0
        have z1 := HY1.out.c1
        have z2 := HY1.out.c2
        clear hB hz3))
   clear x0 x1 x2 xf0 xf1 xf2 y0 y1 y2 z0 z1 z2
   have HX2 := hideL (HX1.out.put0 (s' := bo t))
   have HY2 := hideL (HY1.out.other (k := g8) (o := 0) (v := .string (bo t)) (by have := HG0.out; omega))
   have HB2 := hideL (HB1.out.setCell (p := ⟨g8, 0, none⟩) (Nat.le_of_lt HG0.out) (.string (bo t)))
   have HG2 := hideL (show g8 < (w1.setCell ⟨g8, 0, none⟩ (.string (bo t))).heap.size from HX2.out.lt)
   generalize w1.setCell ⟨g8, 0, none⟩ (.string (bo t)) = W2 at *
   clear HX1 HY1 HB1 LL2 HX0 HY0 HB0 HG1
   have HG1 := HG2
   go_loopw [10] (fun i wr => ∃ (k' : Nat) (hs : List Hd) (ha : Option Addr) (hc : Nat), i = .int .i64 k' ∧ k' ≤ n ∧ HidL (QBox wr g8 (bo t) (.slice ha hs.length hc) (.slice none 0 0)) ∧ HidL (QBox wr w.heap.size ⟨#[]⟩ (.slice none 0 0) (.slice none 0 0)) ∧ HidL (GRow KH wr W2.heap.size (.slice ha hs.length hc) hs) ∧ HidL (Below w.heap.size w wr) ∧ HidL (W2.heap.size ≤ wr.heap.size) ∧ HidL (heaP t hs (b.drop k') = R) ∧ HidL (mayH hs = true)) (fun i _ => n - (RowKit.intOf i).toNat)
   case atStart => exact ⟨j, [], none, 0, rfl, hp1, HX2, HY2, ⟨GRow.nil _ _⟩, HB2, ⟨Nat.le_refl _⟩, HE1, ⟨by decide⟩⟩
   case round =>
     obtain ⟨k', hs, ha, hc, rfl, hk', HX, HY, HA, HB, HW, HE, HM⟩ := hrel
     clear HX2 HY2 HB2 HE1
     obtain ⟨W, rfl⟩ : ∃ W, W = wr := ⟨_, rfl⟩
     have h24 := mayH_lenM HM.out
     have x0 := HX.out.c0
     have x1 := HX.out.c1
     have x2 := HX.out.c2
     rcases lin_cut b k' with ⟨how, ec, h1, h2, h3, h4⟩ | ⟨u, r, hl⟩
     · have hR : stopM ec = R := (hea_stop h4).symm.trans HE.out
       subst hR
       have LL1 := LL.out k' hk' W HB.out
       rw [h2] at LL1
       have LFh := fun W => LF.out how W
       rw [h3] at LFh
       have i1 : ((how : Int) != 1) = true := by rw [bne_iff_ne]; omega
       have LL2 := hideL LL1
       clear h1 h2 h3 h4 HE LL1
       go_upto_region 9 with (first
     | (go_at_call 113; (with_reducible refine (LL2.out).mono ?_); rintro e w1 ⟨rfl, hB⟩
        have hz3 := hB
        have HX1 := hideL (HX.out.next hz3)
        have HY1 := hideL (HY.out.next hz3)
        have HB1 := hideL (HB.out.trans (hz3.mono HB.out.size))
        have HA1 := hideL (HA.out.below hz3)
        have HW1 := hideL (Nat.le_trans HW.out hz3.size)
        have x0 := HX1.out.c0
        have x1 := HX1.out.c1
        have x2 := HX1.out.c2
        have xf0 := HX1.out.fz 0
        have xf1 := HX1.out.fz 1
        have xf2 := HX1.out.fz 2
        have y0 := HY1.out.fz 0
        have y1 := HY1.out.fz 1
        have y2 := HY1.out.fz 2
        have z0 := HY1.out.c0
        have z1 := HY1.out.c1
        have z2 := HY1.out.c2
        clear hB hz3))
       clear x0 x1 x2 xf0 xf1 xf2 y0 y1 y2 z0 z1 z2
       refine wp_region_held_drew (S := fun w' => QBox w' g8 (bo t) (.slice ha hs.length hc) (.slice none 0 0) ∧ Below w.heap.size w w') (by kernel_rfl) ⟨HX1.out.drew, HB1.out.drew⟩ (fun hHeld => ?_)
       refine tm 0 (v := ?_) rfl hHeld ?_ ?_
       rotate_left
       · intro w hSw; (try dsimp only at hSw); have q0 := hSw.1.c0; have q1 := hSw.1.c1; have q2 := hSw.1.c2; go_simp; first | done | with_reducible rfl
       try simp only [pA, pB, pC, pD]
       refine tl 1 rfl hHeld ?_
       try simp only [pA, pB, pC, pD]
       refine wpAnyH_ready (rs := [2]) (by kernel_rfl) (by simp) ?_
       refine aC rfl (fun K hK => ?_)
       clear hHeld
       go_simp
       refine (LFh _).mono ?_
       rintro e V ⟨rfl, rfl⟩
       refine hK.out _ _ (⟨HX1.out.drew, HB1.out.drew⟩) (fun hHeld => ?_)
       clear hK K
       try simp only [pA, pB, pC, pD]
       refine wpAnyH_ready (rs := [3]) (by kernel_rfl) (by simp) ?_
       refine aC rfl (fun K hK => ?_)
       clear hHeld
       rw [if_pos (by rfl)]
       refine wp_store_row _ _ _ rfl w.heap.size #[.string (bo t), .slice ha hs.length hc, .slice none 0 0] rfl rfl _ _ HY1.out.drew sizeRw rfl (oneRw _ _ _ _ _ _ _) ?_
       have HR := hideL (HY1.out.drew.put (s' := (bo t)) (h' := .slice ha hs.length hc) (b' := .slice none 0 0))
       have HBF := hideL (below_setRow HB1.out.drew (Nat.le_refl _) #[.string (bo t), .slice ha hs.length hc, .slice none 0 0])
       refine hK.out _ _ (⟨QBox.otherR HX1.out.drew (by have := HG0.out; omega), HBF.out⟩) (fun hHeld => ?_)
       clear hK K
       try simp only [Act.put]
       refine tl 4 rfl hHeld ?_
       try simp only [pA, pB, pC, pD]
       refine tl 5 rfl hHeld ?_
       try simp only [pA, pB, pC, pD]
       refine tl 6 rfl hHeld ?_
       try simp only [pA, pB, pC, pD]
       refine wpAnyH_done (by kernel_rfl) ?_ _
       clear hHeld
       go_wp2_with fail
       have r0 := HR.out.c0
       have r1 := HR.out.c1
       have r2 := HR.out.c2
       exact bodyPost_ret (v := msgA (bo t) ha hs.length hc none 0 0 0 false ec) (by simp [results, Tryz.results71, go_sem, r0, r1, r2, msgA]) rfl (MesPost.stop _ _ _ _ _ _ _ HBF.out)
     · obtain ⟨hp1, hp2, _, hp4, hp5⟩ := rw_room HN.out hl (m := 0)
       have LL1 := LL.out k' hk' W HB.out
       rw [linA_line hl] at LL1
       obtain ⟨j, hj⟩ : ∃ j, k' + u.length + 2 = j := ⟨_, rfl⟩
       rw [hj] at LL1 hp1 hp2 hp4
       have hkj : k' < j := by omega
       have LL2 := hideL LL1
       clear LL1 hj
       by_cases hu : u = []
       · have i5 : (bo u).toList.isEmpty = true := by rw [ByteArray.toList_eq, bo_list, hu]; rfl
         have hR1 : bodP t hs (b.drop j) = R := by rw [← hp4]; exact (hea_end (by rw [hl, hu])).symm.trans HE.out
         have hlj : (b.drop j).length = n - j := by rw [List.length_drop, HN.out]
         obtain ⟨⟨fe, ⟨fc, fh, fl⟩⟩, hfr⟩ : ∃ x, framP hs = x := ⟨_, rfl⟩
         have LF1 := fun (W : World) (g : GAt KH W (.slice ha hs.length hc) hs) => LFR.out _ hs W g (good_fits HM.out) (by omega)
         rw [hfr] at LF1
         simp only [frA, bdV] at LF1
         have LF2 := hideL LF1
         clear LF1 hl hp2 hp4 hp5 HE hu
         by_cases he : fe = 0
         case neg =>
           have hR : stopM fe = R := (bod_bad hfr he).symm.trans hR1
           subst hR
           have i6 : ((fe : Int) != 0) = true := by rw [bne_iff_ne]; omega
           clear hR1 hfr he hlj
           go_wp2_with (first
     | (go_at_call 113; (with_reducible refine (LL2.out).mono ?_); rintro e w1 ⟨rfl, hB⟩
        have hz3 := hB
        have HX1 := hideL (HX.out.next hz3)
        have HY1 := hideL (HY.out.next hz3)
        have HB1 := hideL (HB.out.trans (hz3.mono HB.out.size))
        have HA1 := hideL (HA.out.below hz3)
        have HW1 := hideL (Nat.le_trans HW.out hz3.size)
        have x0 := HX1.out.c0
        have x1 := HX1.out.c1
        have x2 := HX1.out.c2
        have xf0 := HX1.out.fz 0
        have xf1 := HX1.out.fz 1
        have xf2 := HX1.out.fz 2
        have y0 := HY1.out.fz 0
        have y1 := HY1.out.fz 1
        have y2 := HY1.out.fz 2
        have z0 := HY1.out.c0
        have z1 := HY1.out.c1
        have z2 := HY1.out.c2
        have LF3 := hideL (LF2.out _ HA1.out.gAt)
        clear hB hz3)
     | (go_at_call 56; (with_reducible refine (LF3.out).mono ?_); rintro e w2 ⟨rfl, hB⟩
        have hz2 := (Below.refl w2.heap.size w2).alloc (Nat.le_refl _) (.cells #[.int .i64 fc, .int .i64 fh, .int .i64 fl] 79)
        have hz3 := hB.trans (hz2.mono hB.size)
        have HX2 := hideL (HX1.out.next hz3)
        have HY2 := hideL (HY1.out.next hz3)
        have HB2 := hideL (HB1.out.trans (hz3.mono HB1.out.size))
        have HA2 := hideL (HA1.out.below hz3)
        have HW2 := hideL (Nat.le_trans HW1.out hz3.size)
        have x0 := HX2.out.c0
        have x1 := HX2.out.c1
        have x2 := HX2.out.c2
        have xf0 := HX2.out.fz 0
        have xf1 := HX2.out.fz 1
        have xf2 := HX2.out.fz 2
        have y0 := HY2.out.fz 0
        have y1 := HY2.out.fz 1
        have y2 := HY2.out.fz 2
        have z0 := HY2.out.c0
        have z1 := HY2.out.c1
        have z2 := HY2.out.c2
        have HF2 := hideL ((BBox.new w2 fc fh fl))
        have HWF := hideL (Nat.le_trans HW1.out hB.size)
        have f0 := HF2.out.c0
        have f2 := HF2.out.c2
        clear hB hz3 hz2))
           clear x0 x1 x2 xf0 xf1 xf2 y0 y1 y2 z0 z1 z2 f0 f2
           have HR := hideL (HY2.out.st (bo t) (.slice ha hs.length hc) (.slice none 0 0))
           have HBF := hideL (((HB2.out.setCell (p := ⟨w.heap.size, 0, none⟩) (Nat.le_refl _) (.string (bo t))).setCell (p := ⟨w.heap.size, 1, none⟩) (Nat.le_refl _) (.slice ha hs.length hc)).setCell (p := ⟨w.heap.size, 2, none⟩) (Nat.le_refl _) (.slice none 0 0))
           generalize (World.setCell (World.setCell (World.setCell (w2.alloc (.cells #[.int .i64 fc, .int .i64 fh, .int .i64 fl] 79)) ⟨w.heap.size, 0, none⟩ (.string (bo t))) ⟨w.heap.size, 1, none⟩ (.slice ha hs.length hc)) ⟨w.heap.size, 2, none⟩ (.slice none 0 0)) = WF at *
           have r0 := HR.out.c0
           have r1 := HR.out.c1
           have r2 := HR.out.c2
           exact bodyPost_ret (v := msgA (bo t) ha hs.length hc none 0 0 0 false fe) (by simp [results, Tryz.results71, go_sem, r0, r1, r2, msgA]) rfl (MesPost.stop _ _ _ _ _ _ _ HBF.out)
         subst he
         by_cases hch : fc = 1
         · have hR2 := (bod_chu hfr hch).symm.trans hR1
           have i6 : ((fc : Int) == 1) = true := by rw [beq_iff_eq]; omega
           have LC1 := hideL (fun (W : World) (hb : Below w.heap.size w W) => LC.out j hp1 (bo t) ha hs.length hc t hs W hb)
           have HKP := hideL (chuP_kept _ (b.drop j) (Nat.le_refl _) t hs [] (by simp))
           rw [hR2] at LC1 HKP
           clear hR1 hR2 hfr hlj LC hch
           go_wp2_with (first
     | (go_at_call 113; (with_reducible refine (LL2.out).mono ?_); rintro e w1 ⟨rfl, hB⟩
        have hz3 := hB
        have HX1 := hideL (HX.out.next hz3)
        have HY1 := hideL (HY.out.next hz3)
        have HB1 := hideL (HB.out.trans (hz3.mono HB.out.size))
        have HA1 := hideL (HA.out.below hz3)
        have HW1 := hideL (Nat.le_trans HW.out hz3.size)
        have x0 := HX1.out.c0
        have x1 := HX1.out.c1
        have x2 := HX1.out.c2
        have xf0 := HX1.out.fz 0
        have xf1 := HX1.out.fz 1
        have xf2 := HX1.out.fz 2
        have y0 := HY1.out.fz 0
        have y1 := HY1.out.fz 1
        have y2 := HY1.out.fz 2
        have z0 := HY1.out.c0
        have z1 := HY1.out.c1
        have z2 := HY1.out.c2
        have LF3 := hideL (LF2.out _ HA1.out.gAt)
        clear hB hz3)
     | (go_at_call 56; (with_reducible refine (LF3.out).mono ?_); rintro e w2 ⟨rfl, hB⟩
        have hz2 := (Below.refl w2.heap.size w2).alloc (Nat.le_refl _) (.cells #[.int .i64 fc, .int .i64 fh, .int .i64 fl] 79)
        have hz3 := hB.trans (hz2.mono hB.size)
        have HX2 := hideL (HX1.out.next hz3)
        have HY2 := hideL (HY1.out.next hz3)
        have HB2 := hideL (HB1.out.trans (hz3.mono HB1.out.size))
        have HA2 := hideL (HA1.out.below hz3)
        have HW2 := hideL (Nat.le_trans HW1.out hz3.size)
        have x0 := HX2.out.c0
        have x1 := HX2.out.c1
        have x2 := HX2.out.c2
        have xf0 := HX2.out.fz 0
        have xf1 := HX2.out.fz 1
        have xf2 := HX2.out.fz 2
        have y0 := HY2.out.fz 0
        have y1 := HY2.out.fz 1
        have y2 := HY2.out.fz 2
        have z0 := HY2.out.c0
        have z1 := HY2.out.c1
        have z2 := HY2.out.c2
        have HF2 := hideL ((BBox.new w2 fc fh fl))
        have HWF := hideL (Nat.le_trans HW1.out hB.size)
        have f0 := HF2.out.c0
        have f2 := HF2.out.c2
        have LC2 := hideL (LC1.out _ HB2.out)
        clear hB hz3 hz2)
     | (go_at_call 116; (with_reducible refine (LC2.out).mono ?_); rintro e w3 hP
        obtain ⟨ba, bn, bc, at3, ok3, c3, rfl, hB, hP2⟩ := MPost.out hP
        have hz3 := hB
        have HX3 := hideL (HX2.out.next hz3)
        have HY3 := hideL (HY2.out.next hz3)
        have HB3 := hideL (HB2.out.trans (hz3.mono HB2.out.size))
        have HA3 := hideL (HA2.out.below hz3)
        have HW3 := hideL (Nat.le_trans HW2.out hz3.size)
        have x0 := HX3.out.c0
        have x1 := HX3.out.c1
        have x2 := HX3.out.c2
        have xf0 := HX3.out.fz 0
        have xf1 := HX3.out.fz 1
        have xf2 := HX3.out.fz 2
        have y0 := HY3.out.fz 0
        have y1 := HY3.out.fz 1
        have y2 := HY3.out.fz 2
        have z0 := HY3.out.c0
        have z1 := HY3.out.c1
        have z2 := HY3.out.c2
        have HP3 := hideL hP2
        clear hP hP2
        clear hB hz3))
           clear x0 x1 x2 xf0 xf1 xf2 y0 y1 y2 z0 z1 z2 f0 f2
           have HR := hideL (HY3.out.st (bo t) (.slice ha hs.length hc) (.slice ba bn bc))
           have HBF := hideL (((HB3.out.setCell (p := ⟨w.heap.size, 0, none⟩) (Nat.le_refl _) (.string (bo t))).setCell (p := ⟨w.heap.size, 1, none⟩) (Nat.le_refl _) (.slice ha hs.length hc)).setCell (p := ⟨w.heap.size, 2, none⟩) (Nat.le_refl _) (.slice ba bn bc))
           have HAF := hideL (GRow.base (((HA3.out.setH (g := w.heap.size) (i := 0) (u := .string (bo t)) (Nat.lt_trans HG0.out HG1.out)).setH (g := w.heap.size) (i := 1) (u := .slice ha hs.length hc) (Nat.lt_trans HG0.out HG1.out)).setH (g := w.heap.size) (i := 2) (u := .slice ba bn bc) (Nat.lt_trans HG0.out HG1.out)) (Nat.le_of_lt (Nat.lt_trans HG0.out HG1.out)))
           have HRF := hideL (fun {l : List UInt8} {B : Nat} {v : Value} (hgB : w.heap.size < B) (h : GRow KB w3 B v l) => GRow.base (((h.setB (g := w.heap.size) (i := 0) (u := .string (bo t)) hgB).setB (g := w.heap.size) (i := 1) (u := .slice ha hs.length hc) hgB).setB (g := w.heap.size) (i := 2) (u := .slice ba bn bc) hgB) (Nat.le_of_lt hgB))
           generalize (World.setCell (World.setCell (World.setCell w3 ⟨w.heap.size, 0, none⟩ (.string (bo t))) ⟨w.heap.size, 1, none⟩ (.slice ha hs.length hc)) ⟨w.heap.size, 2, none⟩ (.slice ba bn bc)) = WF at *
           have r0 := HR.out.c0
           have r1 := HR.out.c1
           have r2 := HR.out.c2
           have hpo : MesPost w n R (.returned (msgA (bo t) ha hs.length hc ba bn bc at3 ok3 c3)) WF := by
             rcases HP3.out with ⟨⟨rfl, rfl⟩ | rfl, rfl, rfl⟩ | ⟨x, q, rfl, rfl, rfl, rfl, rfl, hr⟩
             · exact ⟨⟨_, _, _, _, _, _, _, rfl⟩, HBF.out⟩
             · exact ⟨⟨_, _, _, _, _, _, _, rfl⟩, HBF.out⟩
             · obtain ⟨xs, xh, xb⟩ := x
               obtain ⟨e1, e2, _⟩ := HKP.out _ _ rfl
               simp only at e1 e2
               subst e1 e2
               exact MesPost.whole _ _ _ _ _ rfl HAF.out (HRF.out (Nat.lt_of_lt_of_le (Nat.lt_trans HG0.out HG1.out) (Nat.le_trans HW2.out (Nat.le_refl _))) hr) HBF.out
           exact bodyPost_ret (v := msgA (bo t) ha hs.length hc ba bn bc at3 ok3 c3) (by simp [results, Tryz.results71, go_sem, r0, r1, r2, msgA]) rfl hpo
         · have i6 : ((fc : Int) == 1) = false := by rw [beq_eq_false_iff_ne]; omega
           have hw1 : IntKind.i64.wrap ((n : Int) - (j : Int)) = (n : Int) - (j : Int) := by rw [IntWalk.i64_in _ (by omega)]
           have hfl := framP_le hfr
           simp only at hfl
           by_cases hsh : n - j < fl
           · have hR : stopM 0 = R := (bod_more hfr hch (by rw [hlj]; exact hsh)).symm.trans hR1
             subst hR
             have i7 : (n : Int) - (j : Int) < (fl : Int) := by omega
             clear hR1 hfr hlj hch hsh hfl
             go_wp2_with (first
     | (go_at_call 113; (with_reducible refine (LL2.out).mono ?_); rintro e w1 ⟨rfl, hB⟩
        have hz3 := hB
        have HX1 := hideL (HX.out.next hz3)
        have HY1 := hideL (HY.out.next hz3)
        have HB1 := hideL (HB.out.trans (hz3.mono HB.out.size))
        have HA1 := hideL (HA.out.below hz3)
        have HW1 := hideL (Nat.le_trans HW.out hz3.size)
        have x0 := HX1.out.c0
        have x1 := HX1.out.c1
        have x2 := HX1.out.c2
        have xf0 := HX1.out.fz 0
        have xf1 := HX1.out.fz 1
        have xf2 := HX1.out.fz 2
        have y0 := HY1.out.fz 0
        have y1 := HY1.out.fz 1
        have y2 := HY1.out.fz 2
        have z0 := HY1.out.c0
        have z1 := HY1.out.c1
        have z2 := HY1.out.c2
        have LF3 := hideL (LF2.out _ HA1.out.gAt)
        clear hB hz3)
     | (go_at_call 56; (with_reducible refine (LF3.out).mono ?_); rintro e w2 ⟨rfl, hB⟩
        have hz2 := (Below.refl w2.heap.size w2).alloc (Nat.le_refl _) (.cells #[.int .i64 fc, .int .i64 fh, .int .i64 fl] 79)
        have hz3 := hB.trans (hz2.mono hB.size)
        have HX2 := hideL (HX1.out.next hz3)
        have HY2 := hideL (HY1.out.next hz3)
        have HB2 := hideL (HB1.out.trans (hz3.mono HB1.out.size))
        have HA2 := hideL (HA1.out.below hz3)
        have HW2 := hideL (Nat.le_trans HW1.out hz3.size)
        have x0 := HX2.out.c0
        have x1 := HX2.out.c1
        have x2 := HX2.out.c2
        have xf0 := HX2.out.fz 0
        have xf1 := HX2.out.fz 1
        have xf2 := HX2.out.fz 2
        have y0 := HY2.out.fz 0
        have y1 := HY2.out.fz 1
        have y2 := HY2.out.fz 2
        have z0 := HY2.out.c0
        have z1 := HY2.out.c1
        have z2 := HY2.out.c2
        have HF2 := hideL ((BBox.new w2 fc fh fl))
        have HWF := hideL (Nat.le_trans HW1.out hB.size)
        have f0 := HF2.out.c0
        have f2 := HF2.out.c2
        clear hB hz3 hz2))
             clear x0 x1 x2 xf0 xf1 xf2 y0 y1 y2 z0 z1 z2 f0 f2
             have HR := hideL (HY2.out.st (bo t) (.slice ha hs.length hc) (.slice none 0 0))
             have HBF := hideL (((HB2.out.setCell (p := ⟨w.heap.size, 0, none⟩) (Nat.le_refl _) (.string (bo t))).setCell (p := ⟨w.heap.size, 1, none⟩) (Nat.le_refl _) (.slice ha hs.length hc)).setCell (p := ⟨w.heap.size, 2, none⟩) (Nat.le_refl _) (.slice none 0 0))
             generalize (World.setCell (World.setCell (World.setCell (w2.alloc (.cells #[.int .i64 fc, .int .i64 fh, .int .i64 fl] 79)) ⟨w.heap.size, 0, none⟩ (.string (bo t))) ⟨w.heap.size, 1, none⟩ (.slice ha hs.length hc)) ⟨w.heap.size, 2, none⟩ (.slice none 0 0)) = WF at *
             have r0 := HR.out.c0
             have r1 := HR.out.c1
             have r2 := HR.out.c2
             exact bodyPost_ret (v := msgA (bo t) ha hs.length hc none 0 0 0 false 0) (by simp [results, Tryz.results71, go_sem, r0, r1, r2, msgA]) rfl (MesPost.stop _ _ _ _ _ _ _ HBF.out)
           · have hR := (bod_msg hfr hch (by rw [hlj]; exact hsh)).symm.trans hR1
             subst hR
             have i7 : ¬ (n : Int) - (j : Int) < (fl : Int) := by omega
             have hw2 : IntKind.i64.wrap ((j : Int) + (fl : Int)) = (j : Int) + (fl : Int) := by rw [IntWalk.i64_in _ (by omega)]
             have hcut := fun w => run_cut_lh (P := Tryz.prog) Tryz.underlying22 sizeB vo n vc j fl (by omega) w
             have HPC := hideL (HV.out.piece (lo := j) (m := fl) (by omega))
             have HQ := hideL (show n - ((b.drop j).drop fl).length = j + fl by rw [List.length_drop, hlj]; omega)
             have HBL := hideL (show ((b.drop j).take fl).length ≤ 1000000 by rw [List.length_take]; omega)
             generalize (b.drop j).take fl = bx at *
             clear hR1 hfr hlj hch hsh
             go_upto_region 25 with (first
     | (go_at_call 113; (with_reducible refine (LL2.out).mono ?_); rintro e w1 ⟨rfl, hB⟩
        have hz3 := hB
        have HX1 := hideL (HX.out.next hz3)
        have HY1 := hideL (HY.out.next hz3)
        have HB1 := hideL (HB.out.trans (hz3.mono HB.out.size))
        have HA1 := hideL (HA.out.below hz3)
        have HW1 := hideL (Nat.le_trans HW.out hz3.size)
        have x0 := HX1.out.c0
        have x1 := HX1.out.c1
        have x2 := HX1.out.c2
        have xf0 := HX1.out.fz 0
        have xf1 := HX1.out.fz 1
        have xf2 := HX1.out.fz 2
        have y0 := HY1.out.fz 0
        have y1 := HY1.out.fz 1
        have y2 := HY1.out.fz 2
        have z0 := HY1.out.c0
        have z1 := HY1.out.c1
        have z2 := HY1.out.c2
        have LF3 := hideL (LF2.out _ HA1.out.gAt)
        clear hB hz3)
     | (go_at_call 56; (with_reducible refine (LF3.out).mono ?_); rintro e w2 ⟨rfl, hB⟩
        have hz2 := (Below.refl w2.heap.size w2).alloc (Nat.le_refl _) (.cells #[.int .i64 fc, .int .i64 fh, .int .i64 fl] 79)
        have hz3 := hB.trans (hz2.mono hB.size)
        have HX2 := hideL (HX1.out.next hz3)
        have HY2 := hideL (HY1.out.next hz3)
        have HB2 := hideL (HB1.out.trans (hz3.mono HB1.out.size))
        have HA2 := hideL (HA1.out.below hz3)
        have HW2 := hideL (Nat.le_trans HW1.out hz3.size)
        have x0 := HX2.out.c0
        have x1 := HX2.out.c1
        have x2 := HX2.out.c2
        have xf0 := HX2.out.fz 0
        have xf1 := HX2.out.fz 1
        have xf2 := HX2.out.fz 2
        have y0 := HY2.out.fz 0
        have y1 := HY2.out.fz 1
        have y2 := HY2.out.fz 2
        have z0 := HY2.out.c0
        have z1 := HY2.out.c1
        have z2 := HY2.out.c2
        have HF2 := hideL ((BBox.new w2 fc fh fl))
        have HWF := hideL (Nat.le_trans HW1.out hB.size)
        have f0 := HF2.out.c0
        have f2 := HF2.out.c2
        obtain ⟨na, nc, w5, q1, r1, b1⟩ := cat_ch _ (w2.alloc (.cells #[.int .i64 fc, .int .i64 fh, .int .i64 fl] 79)).heap.size _ _ (GRow.lit (K := KB) (w2.alloc (.cells #[.int .i64 fc, .int .i64 fh, .int .i64 fl] 79)) (w2.alloc (.cells #[.int .i64 fc, .int .i64 fh, .int .i64 fl] 79)).heap.size [] (Nat.le_refl _) (by decide)) _ _ (HPC.out.below (HB2.out.alloc HB2.out.size (.cells #[] 5))) (by have := HBL.out; simpa using this) (by simp)
        rw [List.nil_append] at q1 r1
        rw [show (w2.alloc (.cells #[.int .i64 fc, .int .i64 fh, .int .i64 fl] 79)).heap.size = w2.heap.size + 1 from by simp] at q1
        have Q1 := hideL q1
        have hz5 := ((Below.refl _ _).alloc (Nat.le_refl _) (.cells #[] 5)).trans b1
        have HX5 := hideL (HX2.out.next hz5)
        have HY5 := hideL (HY2.out.next hz5)
        have HF5 := hideL (HF2.out.next hz5)
        have HA5 := hideL (HA2.out.below hz5)
        have HB5 := hideL (HB2.out.trans (hz5.mono HB2.out.size))
        have HR5 := hideL (r1.base HB2.out.size)
        have HR6 := hideL (r1.base (Nat.le_trans HW2.out (Nat.le_refl _)))
        have x5 := HX5.out.c2
        have xf5 := HX5.out.fz 2
        clear q1 r1 b1 hz5
        clear hB hz3 hz2)
     | (at_builtin; refine wpList_append_runP rfl (.tmp 94) (.tmp 101) 22 22 22 rfl rfl _ _ _ w5 rfl rfl Q1.out ?_))
             have HX6 := hideL (HX5.out.put2 (b' := .slice na bx.length nc))
             have HY6 := hideL (HY5.out.other (k := g8) (o := 2) (v := .slice na bx.length nc) (by have := HG0.out; omega))
             have HF6 := hideL (show BBox (w5.setCell ⟨g8, 2, none⟩ (.slice na bx.length nc)) w2.heap.size fc fh fl from (heap_setCell_other w5 ⟨g8, 2, none⟩ w2.heap.size (.slice na bx.length nc) (by have := HG1.out; have := HWF.out; simp only; omega)).trans HF5.out)
             have HB6 := hideL (HB5.out.setCell (p := ⟨g8, 2, none⟩) (Nat.le_of_lt HG0.out) (.slice na bx.length nc))
             have HA6 := hideL (HA5.out.setH (g := g8) (i := 2) (u := .slice na bx.length nc) HG1.out)
             have HR7 := hideL (HR6.out.setB (g := g8) (i := 2) (u := .slice na bx.length nc) HG1.out)
             clear x0 x1 x2 xf0 xf1 xf2 y0 y1 y2 z0 z1 z2 f0 f2 x5 xf5
             generalize w5.setCell ⟨g8, 2, none⟩ (.slice na bx.length nc) = w6 at *
             refine wp_region_held_drew (S := fun w' => QBox w' g8 (bo t) (.slice ha hs.length hc) (.slice na bx.length nc) ∧ BBox w' w2.heap.size fc fh fl) (by kernel_rfl) ⟨HX6.out.drew, HF6.out.drew⟩ (fun hHeld => ?_)
             refine tm 0 (v := ?_) rfl hHeld ?_ ?_
             rotate_left
             · intro w hSw; (try dsimp only at hSw); have q0 := hSw.1.c0; have q1 := hSw.1.c1; have q2 := hSw.1.c2; have q3 := hSw.2.c2; go_simp; first | done | with_reducible rfl
             try simp only [pA, pB, pC, pD]
             refine tl 1 rfl hHeld ?_
             try simp only [pA, pB, pC, pD]
             refine tl 2 rfl hHeld ?_
             try simp only [pA, pB, pC, pD]
             refine tm 3 (v := ?_) rfl hHeld ?_ ?_
             rotate_left
             · intro w hSw; (try dsimp only at hSw); have q0 := hSw.1.c0; have q1 := hSw.1.c1; have q2 := hSw.1.c2; have q3 := hSw.2.c2; go_simp; first | done | with_reducible rfl
             try simp only [pA, pB, pC, pD]
             refine tl 4 rfl hHeld ?_
             try simp only [pA, pB, pC, pD]
             refine wpAnyH_ready (rs := [5]) (by kernel_rfl) (by simp) ?_
             refine aC rfl (fun K hK => ?_)
             clear hHeld
             rw [if_pos (by rfl)]
             refine wp_store_row _ _ _ rfl w.heap.size #[.string (bo t), .slice ha hs.length hc, .slice na bx.length nc] rfl rfl _ _ HY6.out.drew sizeRw rfl (oneRw _ _ _ _ _ _ _) ?_
             have HR := hideL (HY6.out.drew.put (s' := bo t) (h' := .slice ha hs.length hc) (b' := .slice na bx.length nc))
             have HBF := hideL (below_setRow HB6.out.drew (Nat.le_refl _) #[.string (bo t), .slice ha hs.length hc, .slice na bx.length nc])
             have HAF := hideL ((GRow.rowH HA6.out.drew (Nat.lt_trans HG0.out HG1.out) #[.string (bo t), .slice ha hs.length hc, .slice na bx.length nc]).base (Nat.le_of_lt (Nat.lt_trans HG0.out HG1.out)))
             have HRF := hideL ((GRow.rowB HR7.out.drew (Nat.lt_trans HG0.out HG1.out) #[.string (bo t), .slice ha hs.length hc, .slice na bx.length nc]).base (Nat.le_of_lt (Nat.lt_trans HG0.out HG1.out)))
             refine hK.out _ _ (⟨QBox.otherR HX6.out.drew (by have := HG0.out; omega), BBox.otherR HF6.out.drew (by have := HG0.out; have := HG1.out; have := HWF.out; omega)⟩) (fun hHeld => ?_)
             clear hK K
             try simp only [Act.put]
             refine tl 6 rfl hHeld ?_
             try simp only [pA, pB, pC, pD]
             refine tl 7 rfl hHeld ?_
             try simp only [pA, pB, pC, pD]
             refine tl 8 rfl hHeld ?_
             try simp only [pA, pB, pC, pD]
             refine wpAnyH_done (by kernel_rfl) ?_ _
             clear hHeld
             go_wp2_with fail
             have r0 := HR.out.c0
             have r1 := HR.out.c1
             have r2 := HR.out.c2
             have hq : ((j : Int) + (fl : Int)) = ((j + fl : Nat) : Int) := by omega
             exact bodyPost_ret (v := msgA (bo t) ha hs.length hc na bx.length nc ((j + fl : Nat) : Int) true 0) (by simp [results, Tryz.results71, go_sem, r0, r1, r2, msgA]) rfl (MesPost.whole _ _ _ _ _ HQ.out HAF.out HRF.out HBF.out)
       · have i5 : (bo u).toList.isEmpty = false := by rw [ByteArray.toList_eq, bo_list, List.isEmpty_eq_false_iff]; exact hu
         obtain ⟨⟨re, rn, rv⟩, hrd⟩ : ∃ x, readP u = x := ⟨_, rfl⟩
         have LR1 := fun (W : World) => LR.out (bo u) (by rw [bo_size]; omega) W
         rw [bo_list, hrd] at LR1
         simp only [readA] at LR1
         have LR2 := hideL LR1
         clear LR1
         by_cases he : re = 0
         case neg =>
           have hR : stopM re = R := (hea_bad hl hu hrd he).symm.trans HE.out
           subst hR
           have i6 : ((re : Int) != 0) = true := by rw [bne_iff_ne]; omega
           clear hl hp2 hp4 hp5 HE hu hrd he
           go_wp2_with (first
     | (go_at_call 113; (with_reducible refine (LL2.out).mono ?_); rintro e w1 ⟨rfl, hB⟩
        have hz3 := hB
        have HX1 := hideL (HX.out.next hz3)
        have HY1 := hideL (HY.out.next hz3)
        have HB1 := hideL (HB.out.trans (hz3.mono HB.out.size))
        have HA1 := hideL (HA.out.below hz3)
        have HW1 := hideL (Nat.le_trans HW.out hz3.size)
        have x0 := HX1.out.c0
        have x1 := HX1.out.c1
        have x2 := HX1.out.c2
        have xf0 := HX1.out.fz 0
        have xf1 := HX1.out.fz 1
        have xf2 := HX1.out.fz 2
        have y0 := HY1.out.fz 0
        have y1 := HY1.out.fz 1
        have y2 := HY1.out.fz 2
        have z0 := HY1.out.c0
        have z1 := HY1.out.c1
        have z2 := HY1.out.c2
        clear hB hz3)
     | (go_at_call 115; (with_reducible refine (LR2.out _).mono ?_); rintro e w2 ⟨rfl, hB⟩
        have hz2 := (Below.refl w2.heap.size w2).alloc (Nat.le_refl _) (.cells #[.string (bo rn), .string (bo rv)] 83)
        have hz3 := hB.trans (hz2.mono hB.size)
        have HX2 := hideL (HX1.out.next hz3)
        have HY2 := hideL (HY1.out.next hz3)
        have HB2 := hideL (HB1.out.trans (hz3.mono HB1.out.size))
        have HA2 := hideL (HA1.out.below hz3)
        have HW2 := hideL (Nat.le_trans HW1.out hz3.size)
        have x0 := HX2.out.c0
        have x1 := HX2.out.c1
        have x2 := HX2.out.c2
        have xf0 := HX2.out.fz 0
        have xf1 := HX2.out.fz 1
        have xf2 := HX2.out.fz 2
        have y0 := HY2.out.fz 0
        have y1 := HY2.out.fz 1
        have y2 := HY2.out.fz 2
        have z0 := HY2.out.c0
        have z1 := HY2.out.c1
        have z2 := HY2.out.c2
        have HD2 := hideL (HBox.new w2 (bo rn) (bo rv))
        have d0 := HD2.out.c0
        have d1 := HD2.out.c1
        clear hB hz3 hz2))
           clear x0 x1 x2 xf0 xf1 xf2 y0 y1 y2 z0 z1 z2 d0 d1
           have HR := hideL (HY2.out.st (bo t) (.slice ha hs.length hc) (.slice none 0 0))
           have HBF := hideL (((HB2.out.setCell (p := ⟨w.heap.size, 0, none⟩) (Nat.le_refl _) (.string (bo t))).setCell (p := ⟨w.heap.size, 1, none⟩) (Nat.le_refl _) (.slice ha hs.length hc)).setCell (p := ⟨w.heap.size, 2, none⟩) (Nat.le_refl _) (.slice none 0 0))
           generalize (World.setCell (World.setCell (World.setCell (w2.alloc (.cells #[.string (bo rn), .string (bo rv)] 83)) ⟨w.heap.size, 0, none⟩ (.string (bo t))) ⟨w.heap.size, 1, none⟩ (.slice ha hs.length hc)) ⟨w.heap.size, 2, none⟩ (.slice none 0 0)) = WF at *
           have r0 := HR.out.c0
           have r1 := HR.out.c1
           have r2 := HR.out.c2
           exact bodyPost_ret (v := msgA (bo t) ha hs.length hc none 0 0 0 false re) (by simp [results, Tryz.results71, go_sem, r0, r1, r2, msgA]) rfl (MesPost.stop _ _ _ _ _ _ _ HBF.out)
         subst he
         by_cases h24e : hs.length = 24
         · have hR : stopM 3 = R := (hea_full hl hu hrd h24e).symm.trans HE.out
           subst hR
           have i7 : ((hs.length : Int) == 24) = true := by rw [beq_iff_eq]; omega
           clear hl hp2 hp4 hp5 HE hu hrd h24e
           go_wp2_with (first
     | (go_at_call 113; (with_reducible refine (LL2.out).mono ?_); rintro e w1 ⟨rfl, hB⟩
        have hz3 := hB
        have HX1 := hideL (HX.out.next hz3)
        have HY1 := hideL (HY.out.next hz3)
        have HB1 := hideL (HB.out.trans (hz3.mono HB.out.size))
        have HA1 := hideL (HA.out.below hz3)
        have HW1 := hideL (Nat.le_trans HW.out hz3.size)
        have x0 := HX1.out.c0
        have x1 := HX1.out.c1
        have x2 := HX1.out.c2
        have xf0 := HX1.out.fz 0
        have xf1 := HX1.out.fz 1
        have xf2 := HX1.out.fz 2
        have y0 := HY1.out.fz 0
        have y1 := HY1.out.fz 1
        have y2 := HY1.out.fz 2
        have z0 := HY1.out.c0
        have z1 := HY1.out.c1
        have z2 := HY1.out.c2
        clear hB hz3)
     | (go_at_call 115; (with_reducible refine (LR2.out _).mono ?_); rintro e w2 ⟨rfl, hB⟩
        have hz2 := (Below.refl w2.heap.size w2).alloc (Nat.le_refl _) (.cells #[.string (bo rn), .string (bo rv)] 83)
        have hz3 := hB.trans (hz2.mono hB.size)
        have HX2 := hideL (HX1.out.next hz3)
        have HY2 := hideL (HY1.out.next hz3)
        have HB2 := hideL (HB1.out.trans (hz3.mono HB1.out.size))
        have HA2 := hideL (HA1.out.below hz3)
        have HW2 := hideL (Nat.le_trans HW1.out hz3.size)
        have x0 := HX2.out.c0
        have x1 := HX2.out.c1
        have x2 := HX2.out.c2
        have xf0 := HX2.out.fz 0
        have xf1 := HX2.out.fz 1
        have xf2 := HX2.out.fz 2
        have y0 := HY2.out.fz 0
        have y1 := HY2.out.fz 1
        have y2 := HY2.out.fz 2
        have z0 := HY2.out.c0
        have z1 := HY2.out.c1
        have z2 := HY2.out.c2
        have HD2 := hideL (HBox.new w2 (bo rn) (bo rv))
        have d0 := HD2.out.c0
        have d1 := HD2.out.c1
        clear hB hz3 hz2))
           clear x0 x1 x2 xf0 xf1 xf2 y0 y1 y2 z0 z1 z2 d0 d1
           have HR := hideL (HY2.out.st (bo t) (.slice ha hs.length hc) (.slice none 0 0))
           have HBF := hideL (((HB2.out.setCell (p := ⟨w.heap.size, 0, none⟩) (Nat.le_refl _) (.string (bo t))).setCell (p := ⟨w.heap.size, 1, none⟩) (Nat.le_refl _) (.slice ha hs.length hc)).setCell (p := ⟨w.heap.size, 2, none⟩) (Nat.le_refl _) (.slice none 0 0))
           generalize (World.setCell (World.setCell (World.setCell (w2.alloc (.cells #[.string (bo rn), .string (bo rv)] 83)) ⟨w.heap.size, 0, none⟩ (.string (bo t))) ⟨w.heap.size, 1, none⟩ (.slice ha hs.length hc)) ⟨w.heap.size, 2, none⟩ (.slice none 0 0)) = WF at *
           have r0 := HR.out.c0
           have r1 := HR.out.c1
           have r2 := HR.out.c2
           exact bodyPost_ret (v := msgA (bo t) ha hs.length hc none 0 0 0 false 3) (by simp [results, Tryz.results71, go_sem, r0, r1, r2, msgA]) rfl (MesPost.stop _ _ _ _ _ _ _ HBF.out)
         · have HE3 := hideL (show heaP t (hs ++ [⟨bo rn, bo rv⟩]) (b.drop j) = R from by rw [← hp4]; exact (hea_more hl hu hrd h24e).symm.trans HE.out)
           have HM3 := hideL (mayH_oneM HM.out hrd h24e)
           have i7 : ((hs.length : Int) == 24) = false := by rw [beq_eq_false_iff_ne]; omega
           have HLE := hideL (show hs.length ≤ 1000000 by omega)
           clear hl hp2 hp4 hp5 HE hu hrd h24e h24
           go_wp2_with (first
     | (go_at_call 113; (with_reducible refine (LL2.out).mono ?_); rintro e w1 ⟨rfl, hB⟩
        have hz3 := hB
        have HX1 := hideL (HX.out.next hz3)
        have HY1 := hideL (HY.out.next hz3)
        have HB1 := hideL (HB.out.trans (hz3.mono HB.out.size))
        have HA1 := hideL (HA.out.below hz3)
        have HW1 := hideL (Nat.le_trans HW.out hz3.size)
        have x0 := HX1.out.c0
        have x1 := HX1.out.c1
        have x2 := HX1.out.c2
        have xf0 := HX1.out.fz 0
        have xf1 := HX1.out.fz 1
        have xf2 := HX1.out.fz 2
        have y0 := HY1.out.fz 0
        have y1 := HY1.out.fz 1
        have y2 := HY1.out.fz 2
        have z0 := HY1.out.c0
        have z1 := HY1.out.c1
        have z2 := HY1.out.c2
        clear hB hz3)
     | (go_at_call 115; (with_reducible refine (LR2.out _).mono ?_); rintro e w2 ⟨rfl, hB⟩
        have hz2 := (Below.refl w2.heap.size w2).alloc (Nat.le_refl _) (.cells #[.string (bo rn), .string (bo rv)] 83)
        have hz3 := hB.trans (hz2.mono hB.size)
        have HX2 := hideL (HX1.out.next hz3)
        have HY2 := hideL (HY1.out.next hz3)
        have HB2 := hideL (HB1.out.trans (hz3.mono HB1.out.size))
        have HA2 := hideL (HA1.out.below hz3)
        have HW2 := hideL (Nat.le_trans HW1.out hz3.size)
        have x0 := HX2.out.c0
        have x1 := HX2.out.c1
        have x2 := HX2.out.c2
        have xf0 := HX2.out.fz 0
        have xf1 := HX2.out.fz 1
        have xf2 := HX2.out.fz 2
        have y0 := HY2.out.fz 0
        have y1 := HY2.out.fz 1
        have y2 := HY2.out.fz 2
        have z0 := HY2.out.c0
        have z1 := HY2.out.c1
        have z2 := HY2.out.c2
        have HD2 := hideL (HBox.new w2 (bo rn) (bo rv))
        have d0 := HD2.out.c0
        have d1 := HD2.out.c1
        obtain ⟨na, nc, w5, q1, r1, b1⟩ := push_hL (w2.alloc (.cells #[.string (bo rn), .string (bo rv)] 83)) W2.heap.size _ _ _ HA2.out ⟨bo rn, bo rv⟩ HLE.out HW2.out
        rw [show (w2.alloc (.cells #[.string (bo rn), .string (bo rv)] 83)).heap.size = w2.heap.size + 1 from by simp] at q1
        dsimp only at q1
        rw [show (hs ++ [(⟨bo rn, bo rv⟩ : Hd)]).length = hs.length + 1 from by simp] at q1 r1
        have Q1 := hideL q1
        have HX5 := hideL (HX2.out.nextB b1 HG1.out)
        have HY5 := hideL (HY2.out.nextB b1 (Nat.lt_trans HG0.out HG1.out))
        have HA5 := hideL r1
        have HB5 := hideL (HB2.out.trans (b1.mono (Nat.le_of_lt (Nat.lt_trans HG0.out HG1.out))))
        have HW5 := hideL (Nat.le_trans HW2.out b1.size)
        have x5 := HX5.out.c1
        have xf5 := HX5.out.fz 1
        clear q1 r1 b1
        clear hB hz3 hz2)
     | (at_builtin; refine wpList_append_runP rfl (.tmp 60) (.tmp 62) 24 24 24 rfl rfl _ _ _ w5 rfl rfl Q1.out ?_))
           have HX6 := hideL (HX5.out.put1 (h' := .slice na (hs.length + 1) nc))
           have HY6 := hideL (HY5.out.other (k := g8) (o := 1) (v := .slice na (hs.length + 1) nc) (by have := HG0.out; omega))
           have HB6 := hideL (HB5.out.setCell (p := ⟨g8, 1, none⟩) (Nat.le_of_lt HG0.out) (.slice na (hs.length + 1) nc))
           have HA6 := hideL (HA5.out.setH (g := g8) (i := 1) (u := .slice na (hs.length + 1) nc) HG1.out)
           have HW6 := hideL (Nat.le_trans HW5.out (show w5.heap.size ≤ (w5.setCell ⟨g8, 1, none⟩ (.slice na (hs.length + 1) nc)).heap.size from by simp))
           have hlen : (hs ++ [(⟨bo rn, bo rv⟩ : Hd)]).length = hs.length + 1 := by simp
           refine ⟨⟨j, hs ++ [⟨bo rn, bo rv⟩], na, nc, by go_num, hp1, ?_, HY6, ?_, HB6, HW6, HE3, HM3⟩, by simp [RowKit.intOf]; omega⟩
           · rw [hlen]; exact HX6
           · rw [hlen]; exact HA6
end Go.Proofs.YtafmgoekgijfgaaGreatDoor
