/- The document's chunks. -/
import Derived.Test.YtafmgoekgijfgaaGreatDoorBRqM2
import Derived.Test.YtafmgoekgijfgaaGreatDoorBRqLine
import Derived.Test.YtafmgoekgijfgaaGreatDoorBRqBrow
namespace Go.Proofs.YtafmgoekgijfgaaGreatDoor
open Go.RowKit Go.Lib

/-- Where a line stops short: no whole one, or none. -/
def lstop (x : LR) (e : Nat) : Prop := (x = .more ∧ e = 0) ∨ (x = .bad e ∧ e ≠ 0)
def stopM (e : Nat) : MR := if e = 0 then .more else .bad e
theorem rdl_bad : ∀ (b : List UInt8) (n e : Nat), rdlP n b = .bad e → e = 2 ∨ e = 6
 | [], n, e, h => by rw [rdlP_nil] at h; cases h
 | c :: b, n, e, h => by
   by_cases h10 : c = 10
   · subst h10; rw [rdlP_lf] at h; injection h with h; exact .inl h.symm
   by_cases h13 : c = 13
   · subst h13
     cases b with
     | nil => rw [rdlP_cr] at h; cases h
     | cons d r =>
       by_cases hd : d = 10
       · subst hd; rw [rdlP_end] at h; cases h
       · rw [rdlP_odd _ hd] at h; injection h with h; exact .inl h.symm
   by_cases hn : 578 ≤ n
   · rw [rdlP_long ⟨h10, h13⟩ hn] at h; injection h with h; exact .inr h.symm
   · rw [rdlP_one ⟨h10, h13⟩ (by omega)] at h
     cases hx : rdlP (n + 1) b with
     | more => rw [hx] at h; cases h
     | bad e' => rw [hx] at h; injection h with h; subst h; exact rdl_bad b (n + 1) _ hx
     | line s r => rw [hx] at h; cases h
theorem lin_cut (b : List UInt8) (k : Nat) : (∃ how e : Nat, how ≠ 1 ∧ linA b k = .tuple #[.string ⟨#[]⟩, .int .i64 0, .int .i64 how] ∧ (if how = 2 then 2 else if how = 3 then 6 else 0) = e ∧ lstop (rdlP 0 (b.drop k)) e) ∨ ∃ s r, rdlP 0 (b.drop k) = .line s r := by
 cases h : rdlP 0 (b.drop k) with
 | more => exact .inl ⟨0, 0, by decide, linA_more h, rfl, .inl ⟨rfl, rfl⟩⟩
 | bad e =>
   rcases rdl_bad _ _ _ h with rfl | rfl
   · exact .inl ⟨2, 2, by decide, linA_two h, rfl, .inr ⟨rfl, by decide⟩⟩
   · exact .inl ⟨3, 6, by decide, linA_six h, rfl, .inr ⟨rfl, by decide⟩⟩
 | line s r => exact .inr ⟨s, r, rfl⟩
theorem chu_stop {s body b : List UInt8} {h : List Hd} {e : Nat} (hl : lstop (rdlP 0 b) e) : chuP s h body b = stopM e := by
 rw [chuP_eq]
 rcases hl with ⟨h1, rfl⟩ | ⟨h1, h2⟩
 · rw [h1]; rfl
 · rw [h1]; unfold stopM; rw [if_neg h2]
theorem chu_none {s body b t r : List UInt8} {h : List Hd} (hl : rdlP 0 b = .line t r) (hs : sizeP t = none) : chuP s h body b = stopM 2 := by
 rw [chuP_eq, hl]
 simp only [hs]
 rfl
theorem chu_big {s body b t r : List UInt8} {h : List Hd} {n : Nat} (hl : rdlP 0 b = .line t r) (hs : sizeP t = some n) (hn : 0 < n ∧ 1024 < body.length + n) : chuP s h body b = stopM 6 := by
 rw [chuP_eq, hl]
 simp only [hs]
 rw [if_pos hn]
 rfl
theorem chu_more {s body b t r : List UInt8} {h : List Hd} {n : Nat} (hl : rdlP 0 b = .line t r) (hs : sizeP t = some n) (hn : ¬ (0 < n ∧ 1024 < body.length + n)) (hr : r.length < n) : chuP s h body b = stopM 0 := by
 rw [chuP_eq, hl]
 simp only [hs]
 rw [if_neg hn, if_pos hr]
 rfl
theorem chu_stop2 {s body b t r : List UInt8} {h : List Hd} {n e : Nat} (hl : rdlP 0 b = .line t r) (hs : sizeP t = some n) (hn : ¬ (0 < n ∧ 1024 < body.length + n)) (hr : ¬ r.length < n) (h2 : lstop (rdlP 0 (r.drop n)) e) : chuP s h body b = stopM e := by
 rw [chuP_eq, hl]
 simp only [hs]
 rw [if_neg hn, if_neg hr]
 rcases h2 with ⟨h1, rfl⟩ | ⟨h1, h2⟩
 · rw [h1]; rfl
 · rw [h1]; unfold stopM; rw [if_neg h2]
theorem chu_two {s body b t r u q : List UInt8} {h : List Hd} {n : Nat} (hl : rdlP 0 b = .line t r) (hs : sizeP t = some n) (hn : ¬ (0 < n ∧ 1024 < body.length + n)) (hr : ¬ r.length < n) (h2 : rdlP 0 (r.drop n) = .line u q) :
   chuP s h body b = if u ≠ [] then .bad 2 else if n = 0 then .msg ⟨s, h, body⟩ q else chuP s h (body ++ r.take n) q := by
 rw [chuP_eq, hl]
 simp only [hs]
 rw [if_neg hn, if_neg hr, h2]
theorem sizA_some {s : List UInt8} {n : Nat} (h : sizeP s = some n) : sizA s = (n : Int) := by unfold sizA; rw [h]
theorem hexV_lt16 {c : UInt8} {d : Nat} (h : hexV c = some d) : d < 16 := by
 revert h
 have key : ∀ (c : Fin 256) (d : Nat), hexV (UInt8.ofNat c.val) = some d → d < 16 := by
   intro c d hd
   have h2 : ∀ c : Fin 256, (hexV (UInt8.ofNat c.val)).getD 0 < 16 := by decide +kernel
   have := h2 c
   rw [hd] at this
   exact this
 have e : UInt8.ofNat c.toNat = c := by simp
 intro h
 exact key ⟨c.toNat, c.toNat_lt⟩ d (by rw [e]; exact h)
theorem sizeN_lt : ∀ (s : List UInt8) (n m : Nat), sizeN n s = some m → m < (n + 1) * 16 ^ s.length
 | [], n, m, h => by rw [sizeN] at h; injection h with h; subst h; simp
 | c :: r, n, m, h => by
   cases hc : hexV c with
   | none => rw [sizeN_none hc] at h; cases h
   | some d =>
     rw [sizeN_some hc] at h
     have h1 := sizeN_lt r _ m h
     have h2 := hexV_lt16 hc
     rw [List.length_cons, Nat.pow_succ]
     have h3 : (n * 16 + d + 1) * 16 ^ r.length ≤ ((n + 1) * 16) * 16 ^ r.length := Nat.mul_le_mul_right _ (by omega)
     rw [Nat.mul_assoc, Nat.mul_comm 16] at h3
     omega
theorem sizeP_lt {s : List UInt8} {m : Nat} (h : sizeP s = some m) : m < 65536 := by
 unfold sizeP at h
 by_cases hc : s = [] ∨ 4 < s.length ∨ (1 < s.length ∧ s.head? = some 48)
 · rw [if_pos hc] at h; cases h
 · rw [if_neg hc] at h
   have h1 := sizeN_lt s 0 m h
   have h2 : 16 ^ s.length ≤ 16 ^ 4 := Nat.pow_le_pow_right (by omega) (by omega)
   omega
theorem QBox.put2 {W : World} {g : Nat} {s : ByteArray} {h b b' : Value} (q : QBox W g s h b) : QBox (W.setCell ⟨g, 2, none⟩ b') g s h b' := heap_setCell_same W g 2 _ _ b' q
theorem GRow.setB {W : World} {B g i : Nat} {v u : Value} {l : List UInt8} (h : GRow KB W B v l) (hg : g < B) : GRow KB (W.setCell ⟨g, i, none⟩ u) B v l := h.keep (Keep.set (F := fun k => k = g) W ⟨g, i, none⟩ u rfl) (fun k hk he => by have := h.ge hk; omega)
def msgA (s : ByteArray) (ha : Option Addr) (hn hc : Nat) (ba : Option Addr) (bn bc : Nat) (at_ : Int) (ok : Bool) (c : Nat) : Value := .tuple #[.agg #[.string s, .slice ha hn hc, .slice ba bn bc], .int .i64 at_, .bool ok, .int .i64 (c : Int)]
/-- What it answers: the message so far, where the next one begins, whether it is whole, the fault. -/
def MPost (w : World) (s : ByteArray) (ha : Option Addr) (hn hc n : Nat) (R : MR) (e : Ending) (w' : World) : Prop := (match R with
 | .more => ∃ ba bn bc, e = .returned (msgA s ha hn hc ba bn bc 0 false 0)
 | .bad c => ∃ ba bn bc, e = .returned (msgA s ha hn hc ba bn bc 0 false c)
 | .msg x q => ∃ ba bc, e = .returned (msgA s ha hn hc ba x.body.length bc ((n - q.length : Nat) : Int) true 0) ∧ GRow KB w' w.heap.size (.slice ba x.body.length bc) x.body) ∧ Below w.heap.size w w'
theorem MPost.stop {w w' : World} {s : ByteArray} {ha : Option Addr} {hn hc n : Nat} {c : Nat} (ba : Option Addr) (bn bc : Nat) (hb : Below w.heap.size w w') : MPost w s ha hn hc n (stopM c) (.returned (msgA s ha hn hc ba bn bc 0 false c)) w' := by
 unfold MPost stopM
 refine ⟨?_, hb⟩
 by_cases h : c = 0
 · subst h; exact ⟨_, _, _, rfl⟩
 · rw [if_neg h]; exact ⟨_, _, _, rfl⟩
theorem MPost.whole {w w' : World} {s : ByteArray} {ha : Option Addr} {hn hc n : Nat} {x : Rw} {q : List UInt8} (ba : Option Addr) (bc k : Nat) (hk : n - q.length = k) (hr : GRow KB w' w.heap.size (.slice ba x.body.length bc) x.body) (hb : Below w.heap.size w w') : MPost w s ha hn hc n (.msg x q) (.returned (msgA s ha hn hc ba x.body.length bc (k : Int) true 0)) w' := by
 subst hk
 exact ⟨⟨_, _, rfl, hr⟩, hb⟩
theorem rline_N {n : Nat} (vo : Option Addr) (vc : Nat) (b : List UInt8) (hn : b.length = n) (k : Nat) (w : World) (gv : GAt KB w (.slice vo n vc) b) (hk : k ≤ n) (hbl : n ≤ 1000000) : Calls Tryz.prog 113 #[.slice vo n vc, .int .i64 k] w (fun e w' => e = .returned (linA b k) ∧ Below w.heap.size w w') := by
 subst hn
 exact rline_any vo vc b k w gv hk hbl
theorem sizeRw {s : ByteArray} {h b : Value} : (Tryz.prog.info? 33).map (·.size) = some (#[Value.string s, h, b] : Array Value).size := by kernel_rfl
theorem oneRw (s : ByteArray) (ha : Option Addr) (hn hc : Nat) (ba : Option Addr) (bn bc : Nat) : (#[Value.string s, .slice ha hn hc, .slice ba bn bc] : Array Value).all (·.oneCell') = true := by simp [Value.oneCell']
theorem QBox.put {W : World} {g : Nat} {s s' : ByteArray} {h b h' b' : Value} (q : QBox W g s h b) : QBox (W.setRow g #[.string s', h', b']) g s' h' b' := setRow_heap _ _ _ _ _ (0, 0) q
theorem QBox.new (w : World) (s : ByteArray) (h b : Value) : QBox (w.alloc (rawC s h b)) w.heap.size s h b := heap_alloc_new w _
theorem rw_room {b s r : List UInt8} {k n m : Nat} (hn : b.length = n) (h : rdlP 0 (b.drop k) = .line s r) : k + s.length + 2 ≤ n ∧ r.length = n - (k + s.length + 2) ∧ r.drop m = b.drop (k + s.length + 2 + m) ∧ r = b.drop (k + s.length + 2) ∧ s.length ≤ 578 := by
 obtain ⟨h1, h2, _, h4⟩ := rdl_at h
 refine ⟨by omega, ?_, ?_, h2, h4⟩
 · rw [h2, List.length_drop]; omega
 · rw [h2, List.drop_drop]
theorem cat_ch (W : World) (B : Nat) (v : Value) (l : List UInt8) (h : GRow KB W B v l) (sv : Value) (m : List UInt8) (hs : GAt KB W sv m) (hl : l.length + m.length ≤ 1000000) (hB : B ≤ W.heap.size) :
   ∃ a c w', (Builtin.append_ #[22, 22] 22 #[v, sv]).run Tryz.prog W = .ok (.slice a (l ++ m).length c) w' ∧ GRow KB w' B (.slice a (l ++ m).length c) (l ++ m) ∧ Below B W w' := by
 have hm : (1000000 : Nat) ≤ maxLen := by decide
 obtain ⟨v', w', h1, h2, h3, _⟩ := append_g (K := KB) (P := Tryz.prog) 22 (.int .u8 0) 1 Tryz.underlying22 infoB rfl W B v l h sv m hs (by omega) (by omega) hB
 obtain ⟨a, c, e⟩ := h2.gAt.len
 subst e
 exact ⟨a, c, w', h1, h2, h3.below (fun k hk => h.ge hk) hB⟩
theorem wp_append_runC {P : Program} {o : Oper} {a : Act} {w : World} {K : Act → World → Prop} {Q : Exit → Act → World → Prop} (s x : Operand) (t tn ty : TypeId) (hop : o.op = Op.call { callee := Callee.builtin Builtin.append, args := #[s, x], argTypes := #[t, tn] })
   (hty : o.type = ty) (vs vx v : Value) (w' : World) (hs : a.eval s = vs) (hx : a.eval x = vx) (hrun : (Builtin.append_ #[t, tn] ty #[vs, vx]).run P w = .ok v w')
   (h : K (a.put o.dst v) w') : o.wp P a w K Q := by
 subst hty
 unfold Oper.wp
 simp [execOp, hop, resolve, invoke, builtin, hs, hx, hrun, Result.andThen]
 exact h
theorem QBox.otherR {W : World} {g k : Nat} {s : ByteArray} {h b : Value} (q : QBox W g s h b) (hne : g ≠ k) {cs : Array Value} : QBox (W.setRow k cs) g s h b := (setRow_other W k g cs hne).trans q
set_option maxRecDepth 100000 in
set_option maxHeartbeats 8000000 in
theorem rchu_any (vo : Option Addr) (vc n : Nat) (b : List UInt8) (hbn : b.length = n) (k : Nat) (s : ByteArray) (ha : Option Addr) (hn hc : Nat) (st : List UInt8) (hd : List Hd) (w : World) (gv : GAt KB w (.slice vo n vc) b) (hk : k ≤ n) (hbl : n ≤ 200000) :
   Calls Tryz.prog 116 #[.slice vo n vc, .int .i64 k, .agg #[.string s, .slice ha hn hc, .slice none 0 0]] w (MPost w s ha hn hc n (chuP st hd [] (b.drop k))) := by
 obtain ⟨R, hR⟩ : ∃ R, chuP st hd [] (b.drop k) = R := ⟨_, rfl⟩
 rw [hR]
 have HE0 := hideL hR
 have HV := hideL gv
 have hvc := gv.le.2
 have HN := hideL hbn
 have LL := hideL (fun (j : Nat) (hj : j ≤ n) (W : World) (hb : Below w.heap.size w W) => rline_N vo vc b hbn j W (gv.below hb) hj (by omega))
 have LF := hideL rfault_any
 have LS := hideL rsize_any
 have HX0 := hideL (((QBox.new w s (.slice ha hn hc) (.slice none 0 0))).next ((Below.refl _ _).alloc (Nat.le_refl _) (rawC ⟨#[]⟩ (.slice none 0 0) (.slice none 0 0))))
 have HY0 := hideL (QBox.new (w.alloc (rawC s (.slice ha hn hc) (.slice none 0 0))) ⟨#[]⟩ (.slice none 0 0) (.slice none 0 0))
 have HB0 := hideL (((Below.refl w.heap.size w).alloc (Nat.le_refl _) (rawC s (.slice ha hn hc) (.slice none 0 0))).alloc ((Below.refl w.heap.size w).alloc (Nat.le_refl _) (rawC s (.slice ha hn hc) (.slice none 0 0))).size (rawC ⟨#[]⟩ (.slice none 0 0) (.slice none 0 0)))
 have HG0 := hideL (show w.heap.size < (w.alloc (rawC s (.slice ha hn hc) (.slice none 0 0))).heap.size from (QBox.new w s (.slice ha hn hc) (.slice none 0 0)).lt)
 have hsz : (w.alloc (rawC s (.slice ha hn hc) (.slice none 0 0))).heap.size = w.heap.size + 1 := by simp
 rw [hsz] at HG0 HY0
 have HG1 := hideL HY0.out.lt
 clear gv hbn hR hsz
 go_enter Tryz.func116, Tryz.ntmps116
 go_wp2_with fail
 generalize (w.alloc (rawC s (.slice ha hn hc) (.slice none 0 0))).alloc (rawC ⟨#[]⟩ (.slice none 0 0) (.slice none 0 0)) = W0 at *
 generalize w.heap.size + 1 = g6 at *
 go_loopw [1] (fun i wr => ∃ (k' : Nat) (body : List UInt8) (ba : Option Addr) (bc : Nat), i = .int .i64 k' ∧ k' ≤ n ∧ HidL (QBox wr w.heap.size s (.slice ha hn hc) (.slice ba body.length bc)) ∧ HidL (QBox wr g6 ⟨#[]⟩ (.slice none 0 0) (.slice none 0 0)) ∧ HidL (GRow KB wr W0.heap.size (.slice ba body.length bc) body) ∧ HidL (Below w.heap.size w wr) ∧ HidL (W0.heap.size ≤ wr.heap.size) ∧ HidL (chuP st hd body (b.drop k') = R) ∧ body.length ≤ 1024) (fun i _ => n - (RowKit.intOf i).toNat)
 case atStart => exact ⟨k, [], none, 0, rfl, hk, HX0, HY0, ⟨GRow.nil _ _⟩, HB0, ⟨Nat.le_refl _⟩, HE0, by decide⟩
 case round =>
   obtain ⟨k', body, ba, bc, rfl, hk', HX, HY, HA, HB, HW, HE, hb1⟩ := hrel
   clear HX0 HY0 HB0 HE0
   obtain ⟨W, rfl⟩ : ∃ W, W = wr := ⟨_, rfl⟩
   have x0 := HX.out.c0
   have x1 := HX.out.c1
   have x2 := HX.out.c2
   rcases lin_cut b k' with ⟨how, ec, h1, h2, h3, h4⟩ | ⟨t, r, hl⟩
   · have hR : stopM ec = R := (chu_stop h4).symm.trans HE.out
     subst hR
     have LL1 := LL.out k' hk' W HB.out
     rw [h2] at LL1
     have LFh := fun W => LF.out how W
     rw [h3] at LFh
     have i1 : ((how : Int) != 1) = true := by rw [bne_iff_ne]; omega
     have LL2 := hideL LL1
     clear h1 h2 h3 h4 HE LL1
     go_upto_region 3 with (first
     | (go_at_call 113; (with_reducible refine (LL2.out).mono ?_); rintro e w1 ⟨rfl, hB⟩
        have HX1 := hideL (HX.out.next hB)
        have HY1 := hideL (HY.out.next hB)
        have HA1 := hideL (HA.out.below hB)
        have HB1 := hideL (HB.out.trans (hB.mono HB.out.size))
        have HW1 := hideL (Nat.le_trans HW.out hB.size)
        have x0 := HX1.out.c0
        have x1 := HX1.out.c1
        have x2 := HX1.out.c2
        have y0 := HY1.out.fz 0
        have y1 := HY1.out.fz 1
        have y2 := HY1.out.fz 2
        have z0 := HY1.out.c0
        have z1 := HY1.out.c1
        have z2 := HY1.out.c2
        clear hB))
     clear x0 x1 x2 y0 y1 y2 z0 z1 z2
     refine wp_region_held_drew (S := fun w' => QBox w' w.heap.size s (.slice ha hn hc) (.slice ba body.length bc) ∧ Below w.heap.size w w') (by kernel_rfl) ⟨HX1.out.drew, HB1.out.drew⟩ (fun hHeld => ?_)
     refine tm 0 (v := ?_) rfl hHeld ?_ ?_
     rotate_left
     · intro w hSw; (try dsimp only at hSw); have q0 := hSw.1.c0; have q1 := hSw.1.c1; have q2 := hSw.1.c2; go_simp; first | done | with_reducible rfl
     try simp only [pA, pB, pC, pD]
     refine tl 1 rfl hHeld ?_
     try simp only [pA, pB, pC, pD]
     refine wpAnyH_ready (rs := [2]) (by kernel_rfl) (by simp) ?_
     refine aC rfl (fun K hK => ?_)
     clear hHeld
     go_simp
     refine (LFh _).mono ?_
     rintro e V ⟨rfl, rfl⟩
     refine hK.out _ _ (⟨HX1.out.drew, HB1.out.drew⟩) (fun hHeld => ?_)
     clear hK K
     try simp only [pA, pB, pC, pD]
     refine wpAnyH_ready (rs := [3]) (by kernel_rfl) (by simp) ?_
     refine aC rfl (fun K hK => ?_)
     clear hHeld
     rw [if_pos (by rfl)]
     refine wp_store_row _ _ _ rfl g6 #[.string s, .slice ha hn hc, .slice ba body.length bc] rfl rfl _ _ HY1.out.drew sizeRw rfl (oneRw _ _ _ _ _ _ _) ?_
     have HR := hideL (HY1.out.drew.put (s' := s) (h' := .slice ha hn hc) (b' := .slice ba body.length bc))
     have HBF := hideL (below_setRow HB1.out.drew (Nat.le_of_lt HG0.out) #[.string s, .slice ha hn hc, .slice ba body.length bc])
     refine hK.out _ _ (⟨QBox.otherR HX1.out.drew (by have := HG0.out; omega), HBF.out⟩) (fun hHeld => ?_)
     clear hK K
     try simp only [Act.put]
     refine tl 4 rfl hHeld ?_
     try simp only [pA, pB, pC, pD]
     refine tl 5 rfl hHeld ?_
     try simp only [pA, pB, pC, pD]
     refine tl 6 rfl hHeld ?_
     try simp only [pA, pB, pC, pD]
     refine wpAnyH_done (by kernel_rfl) ?_ _
     clear hHeld
     go_wp2_with fail
     have r0 := HR.out.c0
     have r1 := HR.out.c1
     have r2 := HR.out.c2
     exact bodyPost_ret (v := msgA s ha hn hc ba body.length bc 0 false ec) (by simp [results, Tryz.results116, go_sem, r0, r1, r2, msgA]) rfl (MPost.stop _ _ _ HBF.out)
   · obtain ⟨hp1, hp2, _, hp4, hp5⟩ := rw_room HN.out hl (m := 0)
     have LL1 := LL.out k' hk' W HB.out
     rw [linA_line hl] at LL1
     obtain ⟨j, hj⟩ : ∃ j, k' + t.length + 2 = j := ⟨_, rfl⟩
     rw [hj] at LL1 hp1 hp2 hp4
     have hkj : k' < j := by omega
     have LL2 := hideL LL1
     have LS1 := fun W => LS.out (bo t) (by rw [bo_size]; omega) W
     rw [bo_list] at LS1
     clear LL1 hj
     cases hs : sizeP t with
     | none =>
       have hR : stopM 2 = R := (chu_none hl hs).symm.trans HE.out
       subst hR
       rw [sizA_none hs] at LS1
       have LS2 := hideL LS1
       clear LS1 HE hl hs hp1 hp2 hp4 hp5 hkj
       go_wp2_with (first
     | (go_at_call 113; (with_reducible refine (LL2.out).mono ?_); rintro e w1 ⟨rfl, hB⟩
        have HX1 := hideL (HX.out.next hB)
        have HY1 := hideL (HY.out.next hB)
        have HA1 := hideL (HA.out.below hB)
        have HB1 := hideL (HB.out.trans (hB.mono HB.out.size))
        have HW1 := hideL (Nat.le_trans HW.out hB.size)
        have x0 := HX1.out.c0
        have x1 := HX1.out.c1
        have x2 := HX1.out.c2
        have y0 := HY1.out.fz 0
        have y1 := HY1.out.fz 1
        have y2 := HY1.out.fz 2
        have z0 := HY1.out.c0
        have z1 := HY1.out.c1
        have z2 := HY1.out.c2
        clear hB)
     | (go_at_call 161; (with_reducible refine (LS2.out _).mono ?_); rintro e w2 ⟨rfl, hB⟩
        have HX2 := hideL (HX1.out.next hB)
        have HY2 := hideL (HY1.out.next hB)
        have HA2 := hideL (HA1.out.below hB)
        have HB2 := hideL (HB1.out.trans (hB.mono HB1.out.size))
        have HW2 := hideL (Nat.le_trans HW1.out hB.size)
        have x0 := HX2.out.c0
        have x1 := HX2.out.c1
        have x2 := HX2.out.c2
        have y0 := HY2.out.fz 0
        have y1 := HY2.out.fz 1
        have y2 := HY2.out.fz 2
        have z0 := HY2.out.c0
        have z1 := HY2.out.c1
        have z2 := HY2.out.c2
        clear hB))
       clear x0 x1 x2 y0 y1 y2 z0 z1 z2
       have HR := hideL (HY2.out.st s (.slice ha hn hc) (.slice ba body.length bc))
       have HBF := hideL (((HB2.out.setCell (p := ⟨g6, 0, none⟩) (Nat.le_of_lt HG0.out) (.string s)).setCell (p := ⟨g6, 1, none⟩) (Nat.le_of_lt HG0.out) (.slice ha hn hc)).setCell (p := ⟨g6, 2, none⟩) (Nat.le_of_lt HG0.out) (.slice ba body.length bc))
       generalize (World.setCell (World.setCell (World.setCell w2 ⟨g6, 0, none⟩ (.string s)) ⟨g6, 1, none⟩ (.slice ha hn hc)) ⟨g6, 2, none⟩ (.slice ba body.length bc)) = WF at *
       have r0 := HR.out.c0
       have r1 := HR.out.c1
       have r2 := HR.out.c2
       exact bodyPost_ret (v := msgA s ha hn hc ba body.length bc 0 false 2) (by simp [results, Tryz.results116, go_sem, r0, r1, r2, msgA]) rfl (MPost.stop _ _ _ HBF.out)
     | some m =>
       have hm := sizeP_lt hs
       rw [sizA_some hs] at LS1
       have LS2 := hideL LS1
       have i0 : ¬ ((m : Int) < 0) := by omega
       have hw0 : IntKind.i64.wrap ((body.length : Int) + (m : Int)) = (body.length : Int) + (m : Int) := by rw [IntWalk.i64_in _ (by omega)]
       have hw1 : IntKind.i64.wrap ((n : Int) - (j : Int)) = (n : Int) - (j : Int) := by rw [IntWalk.i64_in _ (by omega)]
       have hw2 : IntKind.i64.wrap ((j : Int) + (m : Int)) = (j : Int) + (m : Int) := by rw [IntWalk.i64_in _ (by omega)]
       clear LS1
       by_cases hbig : 0 < m ∧ 1024 < body.length + m
       · have hR : stopM 6 = R := (chu_big hl hs hbig).symm.trans HE.out
         subst hR
         have i1 : (0 : Int) < (m : Int) := by omega
         have i2 : (1024 : Int) < (body.length : Int) + (m : Int) := by omega
         clear HE hl hs hp1 hp2 hp4 hp5 hkj hbig
         go_wp2_with (first
     | (go_at_call 113; (with_reducible refine (LL2.out).mono ?_); rintro e w1 ⟨rfl, hB⟩
        have HX1 := hideL (HX.out.next hB)
        have HY1 := hideL (HY.out.next hB)
        have HA1 := hideL (HA.out.below hB)
        have HB1 := hideL (HB.out.trans (hB.mono HB.out.size))
        have HW1 := hideL (Nat.le_trans HW.out hB.size)
        have x0 := HX1.out.c0
        have x1 := HX1.out.c1
        have x2 := HX1.out.c2
        have y0 := HY1.out.fz 0
        have y1 := HY1.out.fz 1
        have y2 := HY1.out.fz 2
        have z0 := HY1.out.c0
        have z1 := HY1.out.c1
        have z2 := HY1.out.c2
        clear hB)
     | (go_at_call 161; (with_reducible refine (LS2.out _).mono ?_); rintro e w2 ⟨rfl, hB⟩
        have HX2 := hideL (HX1.out.next hB)
        have HY2 := hideL (HY1.out.next hB)
        have HA2 := hideL (HA1.out.below hB)
        have HB2 := hideL (HB1.out.trans (hB.mono HB1.out.size))
        have HW2 := hideL (Nat.le_trans HW1.out hB.size)
        have x0 := HX2.out.c0
        have x1 := HX2.out.c1
        have x2 := HX2.out.c2
        have y0 := HY2.out.fz 0
        have y1 := HY2.out.fz 1
        have y2 := HY2.out.fz 2
        have z0 := HY2.out.c0
        have z1 := HY2.out.c1
        have z2 := HY2.out.c2
        clear hB))
         clear x0 x1 x2 y0 y1 y2 z0 z1 z2
         have HR := hideL (HY2.out.st s (.slice ha hn hc) (.slice ba body.length bc))
         have HBF := hideL (((HB2.out.setCell (p := ⟨g6, 0, none⟩) (Nat.le_of_lt HG0.out) (.string s)).setCell (p := ⟨g6, 1, none⟩) (Nat.le_of_lt HG0.out) (.slice ha hn hc)).setCell (p := ⟨g6, 2, none⟩) (Nat.le_of_lt HG0.out) (.slice ba body.length bc))
         generalize (World.setCell (World.setCell (World.setCell w2 ⟨g6, 0, none⟩ (.string s)) ⟨g6, 1, none⟩ (.slice ha hn hc)) ⟨g6, 2, none⟩ (.slice ba body.length bc)) = WF at *
         have r0 := HR.out.c0
         have r1 := HR.out.c1
         have r2 := HR.out.c2
         exact bodyPost_ret (v := msgA s ha hn hc ba body.length bc 0 false 6) (by simp [results, Tryz.results116, go_sem, r0, r1, r2, msgA]) rfl (MPost.stop _ _ _ HBF.out)
       by_cases hle : r.length < m
       · have hR : stopM 0 = R := (chu_more hl hs hbig hle).symm.trans HE.out
         subst hR
         have i1 : (0 : Int) < (m : Int) := by omega
         have i2 : ¬ (1024 : Int) < (body.length : Int) + (m : Int) := by omega
         have i3 : (n : Int) - (j : Int) < (m : Int) := by omega
         clear HE hl hs hp1 hp2 hp4 hp5 hkj hbig hle
         go_wp2_with (first
     | (go_at_call 113; (with_reducible refine (LL2.out).mono ?_); rintro e w1 ⟨rfl, hB⟩
        have HX1 := hideL (HX.out.next hB)
        have HY1 := hideL (HY.out.next hB)
        have HA1 := hideL (HA.out.below hB)
        have HB1 := hideL (HB.out.trans (hB.mono HB.out.size))
        have HW1 := hideL (Nat.le_trans HW.out hB.size)
        have x0 := HX1.out.c0
        have x1 := HX1.out.c1
        have x2 := HX1.out.c2
        have y0 := HY1.out.fz 0
        have y1 := HY1.out.fz 1
        have y2 := HY1.out.fz 2
        have z0 := HY1.out.c0
        have z1 := HY1.out.c1
        have z2 := HY1.out.c2
        clear hB)
     | (go_at_call 161; (with_reducible refine (LS2.out _).mono ?_); rintro e w2 ⟨rfl, hB⟩
        have HX2 := hideL (HX1.out.next hB)
        have HY2 := hideL (HY1.out.next hB)
        have HA2 := hideL (HA1.out.below hB)
        have HB2 := hideL (HB1.out.trans (hB.mono HB1.out.size))
        have HW2 := hideL (Nat.le_trans HW1.out hB.size)
        have x0 := HX2.out.c0
        have x1 := HX2.out.c1
        have x2 := HX2.out.c2
        have y0 := HY2.out.fz 0
        have y1 := HY2.out.fz 1
        have y2 := HY2.out.fz 2
        have z0 := HY2.out.c0
        have z1 := HY2.out.c1
        have z2 := HY2.out.c2
        clear hB))
         clear x0 x1 x2 y0 y1 y2 z0 z1 z2
         have HR := hideL (HY2.out.st s (.slice ha hn hc) (.slice ba body.length bc))
         have HBF := hideL (((HB2.out.setCell (p := ⟨g6, 0, none⟩) (Nat.le_of_lt HG0.out) (.string s)).setCell (p := ⟨g6, 1, none⟩) (Nat.le_of_lt HG0.out) (.slice ha hn hc)).setCell (p := ⟨g6, 2, none⟩) (Nat.le_of_lt HG0.out) (.slice ba body.length bc))
         generalize (World.setCell (World.setCell (World.setCell w2 ⟨g6, 0, none⟩ (.string s)) ⟨g6, 1, none⟩ (.slice ha hn hc)) ⟨g6, 2, none⟩ (.slice ba body.length bc)) = WF at *
         have r0 := HR.out.c0
         have r1 := HR.out.c1
         have r2 := HR.out.c2
         exact bodyPost_ret (v := msgA s ha hn hc ba body.length bc 0 false 0) (by simp [results, Tryz.results116, go_sem, r0, r1, r2, msgA]) rfl (MPost.stop _ _ _ HBF.out)
       have i3 : ¬ (n : Int) - (j : Int) < (m : Int) := by omega
       have hjm : j + m ≤ n := by omega
       have HPC := hideL (HV.out.piece (lo := j) (m := m) hjm)
       have hcut := fun w => run_cut_lh (P := Tryz.prog) Tryz.underlying22 sizeB vo n vc j m (by omega) w
       have hrt : r.take m = (b.drop j).take m := by rw [hp4]
       have hrd : r.drop m = b.drop (j + m) := by rw [hp4, List.drop_drop]
       have hnl : body.length + ((b.drop j).take m).length ≤ 1000000 := by rw [List.length_take]; omega
       have LM1 := fun (W : World) (hb : Below w.heap.size w W) => LL.out (j + m) hjm W hb
       have hcj : ((j + m : Nat) : Int) = (j : Int) + (m : Int) := by omega
       rw [hcj] at LM1
       obtain ⟨bx, hbx⟩ : ∃ x, body ++ (b.drop j).take m = x := ⟨_, rfl⟩
       have HBX := hideL hbx
       have HNL := hideL hnl
       by_cases hz : 0 < m
       · have i1 : (0 : Int) < (m : Int) := by omega
         have i2 : ¬ (1024 : Int) < (body.length : Int) + (m : Int) := by omega
         go_upto_region 11 with (first
     | (go_at_call 113; (with_reducible refine (LL2.out).mono ?_); rintro e w1 ⟨rfl, hB⟩
        have HX1 := hideL (HX.out.next hB)
        have HY1 := hideL (HY.out.next hB)
        have HA1 := hideL (HA.out.below hB)
        have HB1 := hideL (HB.out.trans (hB.mono HB.out.size))
        have HW1 := hideL (Nat.le_trans HW.out hB.size)
        have x0 := HX1.out.c0
        have x1 := HX1.out.c1
        have x2 := HX1.out.c2
        have y0 := HY1.out.fz 0
        have y1 := HY1.out.fz 1
        have y2 := HY1.out.fz 2
        have z0 := HY1.out.c0
        have z1 := HY1.out.c1
        have z2 := HY1.out.c2
        clear hB)
     | (go_at_call 161; (with_reducible refine (LS2.out _).mono ?_); rintro e w2 ⟨rfl, hB⟩
        have HX2 := hideL (HX1.out.next hB)
        have HY2 := hideL (HY1.out.next hB)
        have HA2 := hideL (HA1.out.below hB)
        have HB2 := hideL (HB1.out.trans (hB.mono HB1.out.size))
        have HW2 := hideL (Nat.le_trans HW1.out hB.size)
        have x0 := HX2.out.c0
        have x1 := HX2.out.c1
        have x2 := HX2.out.c2
        have y0 := HY2.out.fz 0
        have y1 := HY2.out.fz 1
        have y2 := HY2.out.fz 2
        have z0 := HY2.out.c0
        have z1 := HY2.out.c1
        have z2 := HY2.out.c2
        clear hB))
         clear x0 x1 x2 y0 y1 y2 z0 z1 z2
         refine wp_region_held_drew (S := fun _ => True) (by kernel_rfl) trivial (fun hHeld => ?_)
         refine tl 0 rfl hHeld ?_
         try simp only [pA, pB, pC, pD]
         refine tl 2 rfl hHeld ?_
         try simp only [pA, pB, pC, pD]
         refine tl 3 rfl hHeld ?_
         try simp only [pA, pB, pC, pD]
         refine tl 4 rfl hHeld ?_
         try simp only [pA, pB, pC, pD]
         refine tl 5 rfl hHeld ?_
         try simp only [pA, pB, pC, pD]
         refine tl 6 rfl hHeld ?_
         try simp only [pA, pB, pC, pD]
         refine tl 7 rfl hHeld ?_
         try simp only [pA, pB, pC, pD]
         refine wpAnyH_ready (rs := [1]) (by kernel_rfl) (by simp) ?_
         refine aC rfl (fun K hK => ?_)
         clear hHeld
         rw [if_pos (by rfl)]
         have q2 := HX2.out.c2
         go_simp
         refine hK.out _ _ (trivial) (fun hHeld => ?_)
         clear hK K
         try simp only [pA, pB, pC, pD]
         refine wpAnyH_ready (rs := [8]) (by kernel_rfl) (by simp) ?_
         refine aC rfl (fun K hK => ?_)
         clear hHeld
         rw [if_pos (by rfl)]
         obtain ⟨na, nc, w5, q1, r1, b1⟩ := cat_ch _ _ _ _ HA2.out.drew _ _ (HPC.out.below HB2.out.drew) HNL.out HW2.out
         refine wp_append_runC _ _ _ _ _ rfl rfl _ _ _ w5 rfl rfl q1 ?_
         rw [HBX.out] at r1 ⊢
         have HX5 := hideL (HX2.out.drew.nextB b1 (Nat.lt_trans HG0.out HG1.out))
         have HY5 := hideL (HY2.out.drew.nextB b1 HG1.out)
         have HA5 := hideL r1
         have HB5 := hideL (HB2.out.drew.trans (b1.mono (Nat.le_of_lt (Nat.lt_trans HG0.out HG1.out))))
         have HW5 := hideL (Nat.le_trans HW2.out b1.size)
         clear q1 r1 b1
         refine hK.out _ _ (trivial) (fun hHeld => ?_)
         clear hK K
         try simp only [pA, pB, pC, pD]
         refine tl 9 rfl hHeld ?_
         try simp only [pA, pB, pC, pD]
         refine wpAnyH_ready (rs := [10]) (by kernel_rfl) (by simp) ?_
         refine aC rfl (fun K hK => ?_)
         clear hHeld
         rw [if_pos (by rfl)]
         have f2 := HX5.out.fz 2
         have q3 := HX5.out.c2
         go_simp
         refine hK.out _ _ (trivial) (fun hHeld => ?_)
         clear hK K
         try simp only [Act.put]
         refine wpAnyH_done (by kernel_rfl) ?_ _
         clear hHeld f2 q2 q3
         have HX6 := hideL (HX5.out.put2 (b' := .slice na bx.length nc))
         have HY6 := hideL (HY5.out.other (k := w.heap.size) (o := 2) (v := .slice na bx.length nc) (by have := HG0.out; omega))
         have HA6 := hideL (HA5.out.setB (g := w.heap.size) (i := 2) (u := .slice na bx.length nc) (Nat.lt_trans HG0.out HG1.out))
         have HB6 := hideL (HB5.out.setCell (p := ⟨w.heap.size, 2, none⟩) (Nat.le_refl _) (.slice na bx.length nc))
         have HW6 := hideL (Nat.le_trans HW5.out (show w5.heap.size ≤ (w5.setCell ⟨w.heap.size, 2, none⟩ (.slice na bx.length nc)).heap.size from by simp))
         generalize (w5.setCell ⟨w.heap.size, 2, none⟩ (.slice na bx.length nc)) = w6 at *
         clear HX5 HY5 HA5 HB5 HW5 HPC
         have x0 := HX6.out.c0
         have x1 := HX6.out.c1
         have x2 := HX6.out.c2
         rcases lin_cut b (j + m) with ⟨how, ec, h1, h2, h3, h4⟩ | ⟨u, q, hl2⟩
         · have hR : stopM ec = R := (chu_stop2 hl hs hbig hle (by rw [hrd]; exact h4)).symm.trans HE.out
           subst hR
           have LM2 := LM1 w6 HB6.out
           rw [h2] at LM2
           have LM3 := hideL LM2
           have LFh := fun W => LF.out how W
           rw [h3] at LFh
           have i4 : ((how : Int) != 1) = true := by rw [bne_iff_ne]; omega
           clear h1 h2 h3 h4 HE LM1 LM2 hrt hrd hl hs hp1 hp2 hp4 hp5 hbig hle hbx hnl
           go_upto_region 14 with (first
     | (go_at_call 113; (with_reducible refine (LM3.out).mono ?_); rintro e w7 ⟨rfl, hB⟩
        have HX7 := hideL (HX6.out.next hB)
        have HY7 := hideL (HY6.out.next hB)
        have HA7 := hideL (HA6.out.below hB)
        have HB7 := hideL (HB6.out.trans (hB.mono HB6.out.size))
        have HW7 := hideL (Nat.le_trans HW6.out hB.size)
        have x0 := HX7.out.c0
        have x1 := HX7.out.c1
        have x2 := HX7.out.c2
        have y0 := HY7.out.fz 0
        have y1 := HY7.out.fz 1
        have y2 := HY7.out.fz 2
        have z0 := HY7.out.c0
        have z1 := HY7.out.c1
        have z2 := HY7.out.c2
        clear hB))
           clear x0 x1 x2 y0 y1 y2 z0 z1 z2
           refine wp_region_held_drew (S := fun w' => QBox w' w.heap.size s (.slice ha hn hc) (.slice na bx.length nc) ∧ Below w.heap.size w w') (by kernel_rfl) ⟨HX7.out.drew, HB7.out.drew⟩ (fun hHeld => ?_)
           refine tm 0 (v := ?_) rfl hHeld ?_ ?_
           rotate_left
           · intro w hSw; (try dsimp only at hSw); have q0 := hSw.1.c0; have q1 := hSw.1.c1; have q2 := hSw.1.c2; go_simp; first | done | with_reducible rfl
           try simp only [pA, pB, pC, pD]
           refine tl 1 rfl hHeld ?_
           try simp only [pA, pB, pC, pD]
           refine wpAnyH_ready (rs := [2]) (by kernel_rfl) (by simp) ?_
           refine aC rfl (fun K hK => ?_)
           clear hHeld
           go_simp
           refine (LFh _).mono ?_
           rintro e V ⟨rfl, rfl⟩
           refine hK.out _ _ (⟨HX7.out.drew, HB7.out.drew⟩) (fun hHeld => ?_)
           clear hK K
           try simp only [pA, pB, pC, pD]
           refine wpAnyH_ready (rs := [3]) (by kernel_rfl) (by simp) ?_
           refine aC rfl (fun K hK => ?_)
           clear hHeld
           rw [if_pos (by rfl)]
           refine wp_store_row _ _ _ rfl g6 #[.string s, .slice ha hn hc, .slice na bx.length nc] rfl rfl _ _ HY7.out.drew sizeRw rfl (oneRw _ _ _ _ _ _ _) ?_
           have HR := hideL (HY7.out.drew.put (s' := s) (h' := .slice ha hn hc) (b' := .slice na bx.length nc))
           have HBF := hideL (below_setRow HB7.out.drew (Nat.le_of_lt HG0.out) #[.string s, .slice ha hn hc, .slice na bx.length nc])
           refine hK.out _ _ (⟨QBox.otherR HX7.out.drew (by have := HG0.out; omega), HBF.out⟩) (fun hHeld => ?_)
           clear hK K
           try simp only [Act.put]
           refine tl 4 rfl hHeld ?_
           try simp only [pA, pB, pC, pD]
           refine tl 5 rfl hHeld ?_
           try simp only [pA, pB, pC, pD]
           refine tl 6 rfl hHeld ?_
           try simp only [pA, pB, pC, pD]
           refine wpAnyH_done (by kernel_rfl) ?_ _
           clear hHeld
           go_wp2_with fail
           have r0 := HR.out.c0
           have r1 := HR.out.c1
           have r2 := HR.out.c2
           exact bodyPost_ret (v := msgA s ha hn hc na bx.length nc 0 false ec) (by simp [results, Tryz.results116, go_sem, r0, r1, r2, msgA]) rfl (MPost.stop _ _ _ HBF.out)
         · obtain ⟨hv1, hv2, _, hv4, hv5⟩ := rw_room HN.out hl2 (m := 0)
           have hR := (chu_two hl hs hbig hle (by rw [hrd]; exact hl2)).symm.trans HE.out
           have LM2 := LM1 w6 HB6.out
           rw [linA_line hl2] at LM2
           have LM3 := hideL LM2
           obtain ⟨j2, hj2⟩ : ∃ x, j + m + u.length + 2 = x := ⟨_, rfl⟩
           rw [hj2] at LM3 hv1 hv2 hv4
           by_cases hu : u = []
           · rw [if_neg (by simp [hu])] at hR
             rw [if_neg (by omega), hrt, hbx, hv4] at hR
             have HE7 := hideL hR
             have hbl7 : bx.length ≤ 1024 := by rw [← hbx, List.length_append, List.length_take]; omega
             have i4 : ((m : Int) == 0) = false := by rw [beq_eq_false_iff_ne]; omega
             have i5 : (bo u).toList.isEmpty = true := by rw [ByteArray.toList_eq, bo_list, hu]; rfl
             have hkk : k' < j2 := by omega
             clear hR HE LM1 LM2 hrt hrd hl hs hp1 hp2 hp4 hp5 hbig hle hbx hnl hl2 hv2 hv4 hv5 hj2 hu
             go_wp2_with (first
     | (go_at_call 113; (with_reducible refine (LM3.out).mono ?_); rintro e w7 ⟨rfl, hB⟩
        have HX7 := hideL (HX6.out.next hB)
        have HY7 := hideL (HY6.out.next hB)
        have HA7 := hideL (HA6.out.below hB)
        have HB7 := hideL (HB6.out.trans (hB.mono HB6.out.size))
        have HW7 := hideL (Nat.le_trans HW6.out hB.size)
        have x0 := HX7.out.c0
        have x1 := HX7.out.c1
        have x2 := HX7.out.c2
        have y0 := HY7.out.fz 0
        have y1 := HY7.out.fz 1
        have y2 := HY7.out.fz 2
        have z0 := HY7.out.c0
        have z1 := HY7.out.c1
        have z2 := HY7.out.c2
        clear hB))
             exact ⟨⟨j2, bx, na, nc, by go_num, hv1, HX7, HY7, HA7, HB7, HW7, HE7, hbl7⟩, by simp [RowKit.intOf]; omega⟩
           · rw [if_pos hu] at hR
             have hR2 : stopM 2 = R := hR
             subst hR2
             have i5 : (bo u).toList.isEmpty = false := by rw [ByteArray.toList_eq, bo_list, List.isEmpty_eq_false_iff]; exact hu
             clear hR HE LM1 LM2 hrt hrd hl hs hp1 hp2 hp4 hp5 hbig hle hbx hnl hl2 hv2 hv4 hv5 hj2 hu
             go_wp2_with (first
     | (go_at_call 113; (with_reducible refine (LM3.out).mono ?_); rintro e w7 ⟨rfl, hB⟩
        have HX7 := hideL (HX6.out.next hB)
        have HY7 := hideL (HY6.out.next hB)
        have HA7 := hideL (HA6.out.below hB)
        have HB7 := hideL (HB6.out.trans (hB.mono HB6.out.size))
        have HW7 := hideL (Nat.le_trans HW6.out hB.size)
        have x0 := HX7.out.c0
        have x1 := HX7.out.c1
        have x2 := HX7.out.c2
        have y0 := HY7.out.fz 0
        have y1 := HY7.out.fz 1
        have y2 := HY7.out.fz 2
        have z0 := HY7.out.c0
        have z1 := HY7.out.c1
        have z2 := HY7.out.c2
        clear hB))
             clear x0 x1 x2 y0 y1 y2 z0 z1 z2
             have HR := hideL (HY7.out.st s (.slice ha hn hc) (.slice na bx.length nc))
             have HBF := hideL (((HB7.out.setCell (p := ⟨g6, 0, none⟩) (Nat.le_of_lt HG0.out) (.string s)).setCell (p := ⟨g6, 1, none⟩) (Nat.le_of_lt HG0.out) (.slice ha hn hc)).setCell (p := ⟨g6, 2, none⟩) (Nat.le_of_lt HG0.out) (.slice na bx.length nc))
             generalize (World.setCell (World.setCell (World.setCell w7 ⟨g6, 0, none⟩ (.string s)) ⟨g6, 1, none⟩ (.slice ha hn hc)) ⟨g6, 2, none⟩ (.slice na bx.length nc)) = WF at *
             have r0 := HR.out.c0
             have r1 := HR.out.c1
             have r2 := HR.out.c2
             exact bodyPost_ret (v := msgA s ha hn hc na bx.length nc 0 false 2) (by simp [results, Tryz.results116, go_sem, r0, r1, r2, msgA]) rfl (MPost.stop _ _ _ HBF.out)
       · have i1 : ¬ (0 : Int) < (m : Int) := by omega
         go_upto_region 11 with (first
     | (go_at_call 113; (with_reducible refine (LL2.out).mono ?_); rintro e w1 ⟨rfl, hB⟩
        have HX1 := hideL (HX.out.next hB)
        have HY1 := hideL (HY.out.next hB)
        have HA1 := hideL (HA.out.below hB)
        have HB1 := hideL (HB.out.trans (hB.mono HB.out.size))
        have HW1 := hideL (Nat.le_trans HW.out hB.size)
        have x0 := HX1.out.c0
        have x1 := HX1.out.c1
        have x2 := HX1.out.c2
        have y0 := HY1.out.fz 0
        have y1 := HY1.out.fz 1
        have y2 := HY1.out.fz 2
        have z0 := HY1.out.c0
        have z1 := HY1.out.c1
        have z2 := HY1.out.c2
        clear hB)
     | (go_at_call 161; (with_reducible refine (LS2.out _).mono ?_); rintro e w2 ⟨rfl, hB⟩
        have HX2 := hideL (HX1.out.next hB)
        have HY2 := hideL (HY1.out.next hB)
        have HA2 := hideL (HA1.out.below hB)
        have HB2 := hideL (HB1.out.trans (hB.mono HB1.out.size))
        have HW2 := hideL (Nat.le_trans HW1.out hB.size)
        have x0 := HX2.out.c0
        have x1 := HX2.out.c1
        have x2 := HX2.out.c2
        have y0 := HY2.out.fz 0
        have y1 := HY2.out.fz 1
        have y2 := HY2.out.fz 2
        have z0 := HY2.out.c0
        have z1 := HY2.out.c1
        have z2 := HY2.out.c2
        clear hB))
         clear x0 x1 x2 y0 y1 y2 z0 z1 z2
         refine wp_region_held_drew (S := fun _ => True) (by kernel_rfl) trivial (fun hHeld => ?_)
         refine tl 0 rfl hHeld ?_
         try simp only [pA, pB, pC, pD]
         refine tl 2 rfl hHeld ?_
         try simp only [pA, pB, pC, pD]
         refine tl 3 rfl hHeld ?_
         try simp only [pA, pB, pC, pD]
         refine tl 4 rfl hHeld ?_
         try simp only [pA, pB, pC, pD]
         refine tl 5 rfl hHeld ?_
         try simp only [pA, pB, pC, pD]
         refine tl 6 rfl hHeld ?_
         try simp only [pA, pB, pC, pD]
         refine tl 7 rfl hHeld ?_
         try simp only [pA, pB, pC, pD]
         refine wpAnyH_ready (rs := [1]) (by kernel_rfl) (by simp) ?_
         refine aC rfl (fun K hK => ?_)
         clear hHeld
         rw [if_pos (by rfl)]
         have q2 := HX2.out.c2
         go_simp
         refine hK.out _ _ (trivial) (fun hHeld => ?_)
         clear hK K
         try simp only [pA, pB, pC, pD]
         refine wpAnyH_ready (rs := [8]) (by kernel_rfl) (by simp) ?_
         refine aC rfl (fun K hK => ?_)
         clear hHeld
         rw [if_pos (by rfl)]
         obtain ⟨na, nc, w5, q1, r1, b1⟩ := cat_ch _ _ _ _ HA2.out.drew _ _ (HPC.out.below HB2.out.drew) HNL.out HW2.out
         refine wp_append_runC _ _ _ _ _ rfl rfl _ _ _ w5 rfl rfl q1 ?_
         rw [HBX.out] at r1 ⊢
         have HX5 := hideL (HX2.out.drew.nextB b1 (Nat.lt_trans HG0.out HG1.out))
         have HY5 := hideL (HY2.out.drew.nextB b1 HG1.out)
         have HA5 := hideL r1
         have HB5 := hideL (HB2.out.drew.trans (b1.mono (Nat.le_of_lt (Nat.lt_trans HG0.out HG1.out))))
         have HW5 := hideL (Nat.le_trans HW2.out b1.size)
         clear q1 r1 b1
         refine hK.out _ _ (trivial) (fun hHeld => ?_)
         clear hK K
         try simp only [pA, pB, pC, pD]
         refine tl 9 rfl hHeld ?_
         try simp only [pA, pB, pC, pD]
         refine wpAnyH_ready (rs := [10]) (by kernel_rfl) (by simp) ?_
         refine aC rfl (fun K hK => ?_)
         clear hHeld
         rw [if_pos (by rfl)]
         have f2 := HX5.out.fz 2
         have q3 := HX5.out.c2
         go_simp
         refine hK.out _ _ (trivial) (fun hHeld => ?_)
         clear hK K
         try simp only [Act.put]
         refine wpAnyH_done (by kernel_rfl) ?_ _
         clear hHeld f2 q2 q3
         have HX6 := hideL (HX5.out.put2 (b' := .slice na bx.length nc))
         have HY6 := hideL (HY5.out.other (k := w.heap.size) (o := 2) (v := .slice na bx.length nc) (by have := HG0.out; omega))
         have HA6 := hideL (HA5.out.setB (g := w.heap.size) (i := 2) (u := .slice na bx.length nc) (Nat.lt_trans HG0.out HG1.out))
         have HB6 := hideL (HB5.out.setCell (p := ⟨w.heap.size, 2, none⟩) (Nat.le_refl _) (.slice na bx.length nc))
         have HW6 := hideL (Nat.le_trans HW5.out (show w5.heap.size ≤ (w5.setCell ⟨w.heap.size, 2, none⟩ (.slice na bx.length nc)).heap.size from by simp))
         generalize (w5.setCell ⟨w.heap.size, 2, none⟩ (.slice na bx.length nc)) = w6 at *
         clear HX5 HY5 HA5 HB5 HW5 HPC
         have x0 := HX6.out.c0
         have x1 := HX6.out.c1
         have x2 := HX6.out.c2
         rcases lin_cut b (j + m) with ⟨how, ec, h1, h2, h3, h4⟩ | ⟨u, q, hl2⟩
         · have hR : stopM ec = R := (chu_stop2 hl hs hbig hle (by rw [hrd]; exact h4)).symm.trans HE.out
           subst hR
           have LM2 := LM1 w6 HB6.out
           rw [h2] at LM2
           have LM3 := hideL LM2
           have LFh := fun W => LF.out how W
           rw [h3] at LFh
           have i4 : ((how : Int) != 1) = true := by rw [bne_iff_ne]; omega
           clear h1 h2 h3 h4 HE LM1 LM2 hrt hrd hl hs hp1 hp2 hp4 hp5 hbig hle hbx hnl
           go_upto_region 14 with (first
     | (go_at_call 113; (with_reducible refine (LM3.out).mono ?_); rintro e w7 ⟨rfl, hB⟩
        have HX7 := hideL (HX6.out.next hB)
        have HY7 := hideL (HY6.out.next hB)
        have HA7 := hideL (HA6.out.below hB)
        have HB7 := hideL (HB6.out.trans (hB.mono HB6.out.size))
        have HW7 := hideL (Nat.le_trans HW6.out hB.size)
        have x0 := HX7.out.c0
        have x1 := HX7.out.c1
        have x2 := HX7.out.c2
        have y0 := HY7.out.fz 0
        have y1 := HY7.out.fz 1
        have y2 := HY7.out.fz 2
        have z0 := HY7.out.c0
        have z1 := HY7.out.c1
        have z2 := HY7.out.c2
        clear hB))
           clear x0 x1 x2 y0 y1 y2 z0 z1 z2
           refine wp_region_held_drew (S := fun w' => QBox w' w.heap.size s (.slice ha hn hc) (.slice na bx.length nc) ∧ Below w.heap.size w w') (by kernel_rfl) ⟨HX7.out.drew, HB7.out.drew⟩ (fun hHeld => ?_)
           refine tm 0 (v := ?_) rfl hHeld ?_ ?_
           rotate_left
           · intro w hSw; (try dsimp only at hSw); have q0 := hSw.1.c0; have q1 := hSw.1.c1; have q2 := hSw.1.c2; go_simp; first | done | with_reducible rfl
           try simp only [pA, pB, pC, pD]
           refine tl 1 rfl hHeld ?_
           try simp only [pA, pB, pC, pD]
           refine wpAnyH_ready (rs := [2]) (by kernel_rfl) (by simp) ?_
           refine aC rfl (fun K hK => ?_)
           clear hHeld
           go_simp
           refine (LFh _).mono ?_
           rintro e V ⟨rfl, rfl⟩
           refine hK.out _ _ (⟨HX7.out.drew, HB7.out.drew⟩) (fun hHeld => ?_)
           clear hK K
           try simp only [pA, pB, pC, pD]
           refine wpAnyH_ready (rs := [3]) (by kernel_rfl) (by simp) ?_
           refine aC rfl (fun K hK => ?_)
           clear hHeld
           rw [if_pos (by rfl)]
           refine wp_store_row _ _ _ rfl g6 #[.string s, .slice ha hn hc, .slice na bx.length nc] rfl rfl _ _ HY7.out.drew sizeRw rfl (oneRw _ _ _ _ _ _ _) ?_
           have HR := hideL (HY7.out.drew.put (s' := s) (h' := .slice ha hn hc) (b' := .slice na bx.length nc))
           have HBF := hideL (below_setRow HB7.out.drew (Nat.le_of_lt HG0.out) #[.string s, .slice ha hn hc, .slice na bx.length nc])
           refine hK.out _ _ (⟨QBox.otherR HX7.out.drew (by have := HG0.out; omega), HBF.out⟩) (fun hHeld => ?_)
           clear hK K
           try simp only [Act.put]
           refine tl 4 rfl hHeld ?_
           try simp only [pA, pB, pC, pD]
           refine tl 5 rfl hHeld ?_
           try simp only [pA, pB, pC, pD]
           refine tl 6 rfl hHeld ?_
           try simp only [pA, pB, pC, pD]
           refine wpAnyH_done (by kernel_rfl) ?_ _
           clear hHeld
           go_wp2_with fail
           have r0 := HR.out.c0
           have r1 := HR.out.c1
           have r2 := HR.out.c2
           exact bodyPost_ret (v := msgA s ha hn hc na bx.length nc 0 false ec) (by simp [results, Tryz.results116, go_sem, r0, r1, r2, msgA]) rfl (MPost.stop _ _ _ HBF.out)
         · obtain ⟨hv1, hv2, _, hv4, hv5⟩ := rw_room HN.out hl2 (m := 0)
           have hR := (chu_two hl hs hbig hle (by rw [hrd]; exact hl2)).symm.trans HE.out
           have LM2 := LM1 w6 HB6.out
           rw [linA_line hl2] at LM2
           have LM3 := hideL LM2
           obtain ⟨j2, hj2⟩ : ∃ x, j + m + u.length + 2 = x := ⟨_, rfl⟩
           rw [hj2] at LM3 hv1 hv2 hv4
           by_cases hu : u = []
           · rw [if_neg (by simp [hu])] at hR
             have hm0 : m = 0 := by omega
             rw [if_pos hm0] at hR
             subst hR
             have hbe : bx = body := by rw [← hbx, hm0, List.take_zero, List.append_nil]
             have hq : n - q.length = j2 := by omega
             subst hbe
             have i4 : ((m : Int) == 0) = true := by rw [hm0]; rfl
             have i5 : (bo u).toList.isEmpty = true := by rw [ByteArray.toList_eq, bo_list, hu]; rfl
             clear HE LM1 LM2 hrt hrd hl hs hp1 hp2 hp4 hp5 hbig hle hbx hnl hl2 hv2 hv4 hv5 hj2 hu HBX HNL HX HA hb1 hm0
             go_wp2_with (first
     | (go_at_call 113; (with_reducible refine (LM3.out).mono ?_); rintro e w7 ⟨rfl, hB⟩
        have HX7 := hideL (HX6.out.next hB)
        have HY7 := hideL (HY6.out.next hB)
        have HA7 := hideL (HA6.out.below hB)
        have HB7 := hideL (HB6.out.trans (hB.mono HB6.out.size))
        have HW7 := hideL (Nat.le_trans HW6.out hB.size)
        have x0 := HX7.out.c0
        have x1 := HX7.out.c1
        have x2 := HX7.out.c2
        have y0 := HY7.out.fz 0
        have y1 := HY7.out.fz 1
        have y2 := HY7.out.fz 2
        have z0 := HY7.out.c0
        have z1 := HY7.out.c1
        have z2 := HY7.out.c2
        clear hB))
             clear x0 x1 x2 y0 y1 y2 z0 z1 z2
             have HR := hideL (HY7.out.st s (.slice ha hn hc) (.slice na bx.length nc))
             have HBF := hideL (((HB7.out.setCell (p := ⟨g6, 0, none⟩) (Nat.le_of_lt HG0.out) (.string s)).setCell (p := ⟨g6, 1, none⟩) (Nat.le_of_lt HG0.out) (.slice ha hn hc)).setCell (p := ⟨g6, 2, none⟩) (Nat.le_of_lt HG0.out) (.slice na bx.length nc))
             have HAF := hideL (GRow.base (((HA7.out.setB (g := g6) (i := 0) (u := .string s) HG1.out).setB (g := g6) (i := 1) (u := .slice ha hn hc) HG1.out).setB (g := g6) (i := 2) (u := .slice na bx.length nc) HG1.out) (Nat.le_of_lt (Nat.lt_trans HG0.out HG1.out)))
             generalize (World.setCell (World.setCell (World.setCell w7 ⟨g6, 0, none⟩ (.string s)) ⟨g6, 1, none⟩ (.slice ha hn hc)) ⟨g6, 2, none⟩ (.slice na bx.length nc)) = WF at *
             have r0 := HR.out.c0
             have r1 := HR.out.c1
             have r2 := HR.out.c2
             exact bodyPost_ret (v := msgA s ha hn hc na bx.length nc (j2 : Int) true 0) (by simp [results, Tryz.results116, go_sem, r0, r1, r2, msgA]) rfl (MPost.whole _ _ _ hq HAF.out HBF.out)
           · rw [if_pos hu] at hR
             have hR2 : stopM 2 = R := hR
             subst hR2
             have i5 : (bo u).toList.isEmpty = false := by rw [ByteArray.toList_eq, bo_list, List.isEmpty_eq_false_iff]; exact hu
             clear hR HE LM1 LM2 hrt hrd hl hs hp1 hp2 hp4 hp5 hbig hle hbx hnl hl2 hv2 hv4 hv5 hj2 hu
             go_wp2_with (first
     | (go_at_call 113; (with_reducible refine (LM3.out).mono ?_); rintro e w7 ⟨rfl, hB⟩
        have HX7 := hideL (HX6.out.next hB)
        have HY7 := hideL (HY6.out.next hB)
        have HA7 := hideL (HA6.out.below hB)
        have HB7 := hideL (HB6.out.trans (hB.mono HB6.out.size))
        have HW7 := hideL (Nat.le_trans HW6.out hB.size)
        have x0 := HX7.out.c0
        have x1 := HX7.out.c1
        have x2 := HX7.out.c2
        have y0 := HY7.out.fz 0
        have y1 := HY7.out.fz 1
        have y2 := HY7.out.fz 2
        have z0 := HY7.out.c0
        have z1 := HY7.out.c1
        have z2 := HY7.out.c2
        clear hB))
             clear x0 x1 x2 y0 y1 y2 z0 z1 z2
             have HR := hideL (HY7.out.st s (.slice ha hn hc) (.slice na bx.length nc))
             have HBF := hideL (((HB7.out.setCell (p := ⟨g6, 0, none⟩) (Nat.le_of_lt HG0.out) (.string s)).setCell (p := ⟨g6, 1, none⟩) (Nat.le_of_lt HG0.out) (.slice ha hn hc)).setCell (p := ⟨g6, 2, none⟩) (Nat.le_of_lt HG0.out) (.slice na bx.length nc))
             generalize (World.setCell (World.setCell (World.setCell w7 ⟨g6, 0, none⟩ (.string s)) ⟨g6, 1, none⟩ (.slice ha hn hc)) ⟨g6, 2, none⟩ (.slice na bx.length nc)) = WF at *
             have r0 := HR.out.c0
             have r1 := HR.out.c1
             have r2 := HR.out.c2
             exact bodyPost_ret (v := msgA s ha hn hc na bx.length nc 0 false 2) (by simp [results, Tryz.results116, go_sem, r0, r1, r2, msgA]) rfl (MPost.stop _ _ _ HBF.out)
end Go.Proofs.YtafmgoekgijfgaaGreatDoor
