/- The document's Of of answers. The document's Of of answers: 4. The document's Of of answers: 5. -/
import Derived.Test.YtafmgoekgijfgaaGreatDoorBAnOf
import Derived.Test.YtafmgoekgijfgaaGreatDoorBAnRMay
import Derived.Test.YtafmgoekgijfgaaGreatDoorBRqRMes
import Derived.StillTailTactics
namespace Go.Proofs.YtafmgoekgijfgaaGreatDoor
open Go.RowKit Go.Lib

def AROfPost (w : World) (x : Rw) (e : Ending) (w' : World) : Prop := (∃ (c : Int) (ha : Option Addr) (hn hc : Nat) (ba : Option Addr) (bn bc : Nat), e = .returned (.tuple #[.agg #[.int .i64 c, .slice ha hn hc, .slice ba bn bc], .bool (ofAP x).isSome]) ∧ AnsAt w' ⟨c, ⟨ha, hn, hc⟩, ⟨ba, bn, bc⟩⟩ ((ofAP x).getD an0) ∧ AnsGe w.heap.size ⟨c, ⟨ha, hn, hc⟩, ⟨ba, bn, bc⟩⟩) ∧ Below w.heap.size w w'
theorem AROfPost.no {w w' : World} {x : Rw} (h : ofAP x = none) (hB : Below w.heap.size w w') : AROfPost w x (.returned (.tuple #[.agg #[.int .i64 0, .slice none 0 0, .slice none 0 0], .bool false])) w' := by
  unfold AROfPost
  rw [h]
  exact ⟨⟨0, none, 0, 0, none, 0, 0, rfl, AnsAt.zero w', AnsGe.zero _⟩, hB⟩
theorem AROfPost.yes {w w' : World} {x : Rw} {a : An} {c : Int} {ha : Option Addr} {hn hc : Nat} {ba : Option Addr} {bn bc : Nat} (h : ofAP x = some a) (h1 : AnsAt w' ⟨c, ⟨ha, hn, hc⟩, ⟨ba, bn, bc⟩⟩ a) (h2 : AnsGe w.heap.size ⟨c, ⟨ha, hn, hc⟩, ⟨ba, bn, bc⟩⟩) (hB : Below w.heap.size w w') : AROfPost w x (.returned (.tuple #[.agg #[.int .i64 c, .slice ha hn hc, .slice ba bn bc], .bool true])) w' := by
  unfold AROfPost
  rw [h]
  exact ⟨⟨c, ha, hn, hc, ba, bn, bc, rfl, h1, h2⟩, hB⟩
theorem cod_no {s : List UInt8} (h : ¬ (s.take 9 = verL ∧ 13 ≤ s.length ∧ s[12]? = some 32 ∧ ((s.drop 9).take 3).all digB = true ∧ (s.drop 13).all priB = true)) : codP s = none := by
  unfold codP
  rw [if_neg (fun k => h ⟨k.1, k.2.1, k.2.2.1, k.2.2.2.1, k.2.2.2.2.1⟩)]
theorem ofA_no {x : Rw} (h : ¬ (x.start.take 9 = verL ∧ 13 ≤ x.start.length ∧ x.start[12]? = some 32 ∧ ((x.start.drop 9).take 3).all digB = true ∧ (x.start.drop 13).all priB = true)) : ofAP x = none := ofA_none (cod_no h)
theorem ofA_yes {x : Rw} (h : x.start.take 9 = verL ∧ 13 ≤ x.start.length ∧ x.start[12]? = some 32 ∧ ((x.start.drop 9).take 3).all digB = true ∧ (x.start.drop 13).all priB = true) {N : Nat} (hN : numN 0 ((x.start.drop 9).take 3) = N) : ofAP x = if mayAB ⟨N, x.heads, x.body⟩ = true then some ⟨N, x.heads, x.body⟩ else none := by
  subst hN
  cases hc : codB (numN 0 ((x.start.drop 9).take 3)) with
  | true =>
    rw [ofA_cod (show codP x.start = some _ from by unfold codP; rw [if_pos ⟨h.1, h.2.1, h.2.2.1, h.2.2.2.1, h.2.2.2.2, hc⟩]), may_cod hc]
  | false =>
    rw [ofA_none (show codP x.start = none from by unfold codP; rw [if_neg (fun k => by rw [k.2.2.2.2.2] at hc; cases hc)]), if_neg (by unfold mayAB; rw [hc, Bool.false_and]; decide)]
theorem numN_snoc (l : List UInt8) (c : UInt8) : ∀ n, numN n (l ++ [c]) = numN n l * 10 + (c.toNat - 48) := by
  induction l with
  | nil => intro n; rw [List.nil_append, numN_cons, numN_nil, numN_nil, addN_eq]
  | cons d r ih => intro n; rw [List.cons_append, numN_cons, numN_cons, ih]
theorem bo_exA (s : ByteArray) (j i : Nat) : s.extract j i = bo ((s.data.toList.drop j).take (i - j)) := bytes_ext (by rw [ex_list, bo_list])
theorem takeA_snoc {L : List UInt8} {k : Nat} (h : k < L.length) : L.take (k + 1) = L.take k ++ [L[k]] := by rw [List.take_add_one, List.getElem?_eq_getElem h]; rfl
theorem drop_snoc {L : List UInt8} {j k : Nat} (hj : j ≤ k) (h : k < L.length) : (L.drop j).take (k + 1 - j) = (L.drop j).take (k - j) ++ [L[k]] := by
  have h1 : k - j < (L.drop j).length := by rw [List.length_drop]; omega
  rw [show k + 1 - j = (k - j) + 1 from by omega, takeA_snoc h1, List.getElem_drop]
  congr 3
  omega
theorem dig_not {c : UInt8} (h : c.toNat < 48 ∨ 57 < c.toNat) : digB c = false := decide_eq_false (by omega)
theorem dig_yes {c : UInt8} (h1 : ¬ c.toNat < 48) (h2 : ¬ 57 < c.toNat) : digB c = true := decide_eq_true (by omega)
theorem pri_not {c : UInt8} (h : c.toNat < 32 ∨ 126 < c.toNat) : priB c = false := decide_eq_false (by omega)
theorem pri_yes {c : UInt8} (h1 : ¬ c.toNat < 32) (h2 : ¬ 126 < c.toNat) : priB c = true := decide_eq_true (by omega)
theorem all_bad {p : UInt8 → Bool} {L : List UInt8} {j n k : Nat} (hj : j ≤ k) (hn : k < j + n) (h : k < L.length) (hp : p L[k] = false) : ((L.drop j).take n).all p = false := by
  rw [List.all_eq_false]
  refine ⟨L[k], ?_, by rw [hp]; decide⟩
  have h1 : k - j < ((L.drop j).take n).length := by rw [List.length_take, List.length_drop]; omega
  have := List.getElem_mem h1
  rw [List.getElem_take, List.getElem_drop] at this
  rwa [show L[k] = L[j + (k - j)]'(by omega) from by congr 1; omega]
/-- How far a number of k digits goes. -/
def far (k N : Nat) : Prop := (k = 9 ∧ N < 1) ∨ (k = 10 ∧ N < 10) ∨ (k = 11 ∧ N < 100) ∨ (k = 12 ∧ N < 1000)
/-- What stands while the first line is read. -/
structure OfSA (w : World) (s : ByteArray) (h b : Value) (W : World) : Prop where
  raw : QBox W w.heap.size s h b
  res : ABox W (w.heap.size + 1) 0 (.slice none 0 0) (.slice none 0 0)
  be : Below w.heap.size w W
theorem OfSA.first (w : World) (s : ByteArray) (h b : Value) : OfSA w s h b ((w.alloc (rawC s h b)).alloc (anC 0 (.slice none 0 0) (.slice none 0 0))) := by
  have hb1 := (Below.refl w.heap.size w).alloc (Nat.le_refl _) (rawC s h b)
  have hq : QBox (w.alloc (rawC s h b)) w.heap.size s h b := heap_alloc_new w _
  have hb2 := (Below.refl (w.alloc (rawC s h b)).heap.size (w.alloc (rawC s h b))).alloc (Nat.le_refl _) (anC 0 (.slice none 0 0) (.slice none 0 0))
  have hx := ABox.new (w.alloc (rawC s h b)) 0 (.slice none 0 0) (.slice none 0 0)
  rw [World.size_alloc] at hx
  exact ⟨hq.next hb2, hx, hb1.trans (hb2.mono hb1.size)⟩
theorem OfSA.next {w W W' : World} {s : ByteArray} {h b : Value} (o : OfSA w s h b W) (hb : Below W.heap.size W W') : OfSA w s h b W' := ⟨o.raw.next hb, o.res.next hb, o.be.trans (hb.mono o.be.size)⟩
theorem OfSA.room {w W : World} {s : ByteArray} {h b : Value} (o : OfSA w s h b W) : w.heap.size + 2 ≤ W.heap.size := by have := o.res.lt; omega
theorem sizeAn {c : Int} {h b : Value} : (Tryz.prog.info? 49).map (·.size) = some (#[Value.int .i64 c, h, b] : Array Value).size := by kernel_rfl
theorem oneAn (c : Int) (ha : Option Addr) (hn hc : Nat) (ba : Option Addr) (bn bc : Nat) : (#[Value.int .i64 c, .slice ha hn hc, .slice ba bn bc] : Array Value).all (·.oneCell') = true := by simp [Value.oneCell']
theorem ABox.put {W : World} {g : Nat} {c : Int} {h b : Value} (q : ABox W g c h b) (c' : Int) (h' b' : Value) : ABox (W.setRow g #[.int .i64 c', h', b']) g c' h' b' := setRow_heap _ _ _ _ _ (0, 0) q
theorem keep_setRow (W : World) (g : Nat) (cs : Array Value) : Keep (fun k => k = g) W (W.setRow g cs) :=
  ⟨rfl, rfl, rfl, by simp [World.setRow], fun k _ hf => setRow_other W g k cs (fun e => hf e)⟩
theorem wp_alloc_a {op : Oper} {a : Act} {w : World} {K : Act → World → Prop} {Q : Exit → Act → World → Prop} (ho : op.op = .alloc 49)
    (h : K (a.put op.dst (.pointer (some ⟨w.heap.size, 0, none⟩))) (w.alloc (anC 0 (.slice none 0 0) (.slice none 0 0)))) : Oper.wp Tryz.prog op a w K Q := by
  unfold Oper.wp execOp
  simp [ho, Instr.alloc, newVar, Value.cells]
  exact h
theorem head_keep (W : World) (B : Nat) (v : Value) (l : List Hd) (h : GRow KH W B v l) (sv : Value) (m : List Hd) (hs : GAt KH W sv m) (hl : l.length + m.length ≤ 1000000) (hB : B ≤ W.heap.size) :
    ∃ a n c w', (Builtin.append_ #[24, 24] 24 #[v, sv]).run Tryz.prog W = .ok (.slice a n c) w' ∧ GRow KH w' B (.slice a n c) (l ++ m) ∧ Keep (fun k => v.ownBlock = some k) W w' ∧ ((Value.slice a n c).ownBlock = v.ownBlock ∨ (Value.slice a n c).ownBlock = some W.heap.size) := by
  have hm : (1000000 : Nat) ≤ maxLen := by decide
  obtain ⟨v', w', h1, h2, h3, h4⟩ := append_g (K := KH) (P := Tryz.prog) 24 (.agg #[.string ByteArray.empty, .string ByteArray.empty]) 32 Tryz.underlying24 infoH rfl W B v l h sv m hs (by omega) (by omega) hB
  obtain ⟨a, c, e⟩ := h2.gAt.len
  subst e
  exact ⟨a, _, c, w', h1, h2, h3, h4⟩
theorem byte_keep (W : World) (B : Nat) (v : Value) (l : List UInt8) (h : GRow KB W B v l) (sv : Value) (m : List UInt8) (hs : GAt KB W sv m) (hl : l.length + m.length ≤ 1000000) (hB : B ≤ W.heap.size) :
    ∃ a n c w', (Builtin.append_ #[22, 22] 22 #[v, sv]).run Tryz.prog W = .ok (.slice a n c) w' ∧ GRow KB w' B (.slice a n c) (l ++ m) ∧ Keep (fun k => v.ownBlock = some k) W w' ∧ ((Value.slice a n c).ownBlock = v.ownBlock ∨ (Value.slice a n c).ownBlock = some W.heap.size) := by
  have hm : (1000000 : Nat) ≤ maxLen := by decide
  obtain ⟨v', w', h1, h2, h3, h4⟩ := append_g (K := KB) (P := Tryz.prog) 22 (.int .u8 0) 1 Tryz.underlying22 infoB rfl W B v l h sv m hs (by omega) (by omega) hB
  obtain ⟨a, c, e⟩ := h2.gAt.len
  subst e
  exact ⟨a, _, c, w', h1, h2, h3, h4⟩
/-- A row that grew lies off a block that stood elsewhere. -/
theorem own_off {v v' : Value} {gA g n : Nat} (h : v'.ownBlock = v.ownBlock ∨ v'.ownBlock = some n) (hv : v.ownBlock = some gA) (h1 : gA ≠ g) (h2 : g < n) : ∀ q, v'.ownBlock = some q → q ≠ g := by
  intro q hq e
  subst e
  rcases h with h | h
  · rw [h, hv] at hq
    injection hq with hq
    exact h1 hq
  · rw [h] at hq
    injection hq with hq
    omega
set_option maxRecDepth 100000 in
set_option maxHeartbeats 4000000 in
theorem arof_1 (s : ByteArray) (ha : Option Addr) (hn hc : Nat) (ba : Option Addr) (bn bc : Nat) (x : Rw) (w0 : World) (hr : RawAt w0 ⟨s, ⟨ha, hn, hc⟩, ⟨ba, bn, bc⟩⟩ x) (_hs0 : s.size ≤ 900000) (h13 : x.start.length < 13) :
    Calls Tryz.prog 34 #[.agg #[.string s, .slice ha hn hc, .slice ba bn bc]] w0 (AROfPost w0 x) := by
  obtain ⟨hst, gh, gb⟩ := hr
  simp only [Sl.v] at hst gh gb
  have HO := hideL (OfSA.first w0 s (.slice ha hn hc) (.slice ba bn bc))
  have hz := size_list s
  rw [hst] at hz
  have c0 := HO.out.raw.c0
  have HNO := hideL (ofA_no (x := x) (fun k => by have := k.2.1; omega))
  have i1 : (s.size : Int) < 13 := by omega
  clear hst gh gb hz h13
  have q0 := HO.out.res.c0
  have q1 := HO.out.res.c1
  have q2 := HO.out.res.c2
  have z0 := HO.out.res.fz 0
  have z1 := HO.out.res.fz 1
  have z2 := HO.out.res.fz 2
  go_enter Tryz.func34, Tryz.ntmps34
  go_upto_region 2 with fail
  generalize (w0.alloc (rawC s (.slice ha hn hc) (.slice ba bn bc))).alloc (anC 0 (.slice none 0 0) (.slice none 0 0)) = W0 at *
  go_wp2_with fail
  exact bodyPost_ret (v := .tuple #[.agg #[.int .i64 0, .slice none 0 0, .slice none 0 0], .bool false]) (by
    have hy := HO.out.res.st 0 (.slice none 0 0) (.slice none 0 0)
    have r0 := hy.c0
    have r1 := hy.c1
    have r2 := hy.c2
    simp [results, Tryz.results34, go_sem, r0, r1, r2]) rfl (AROfPost.no HNO.out (below_st3 HO.out.be (Nat.le_succ _)))
set_option maxRecDepth 100000 in
set_option maxHeartbeats 4000000 in
theorem arof_2 (s : ByteArray) (ha : Option Addr) (hn hc : Nat) (ba : Option Addr) (bn bc : Nat) (x : Rw) (w0 : World) (hr : RawAt w0 ⟨s, ⟨ha, hn, hc⟩, ⟨ba, bn, bc⟩⟩ x) (hs0 : s.size ≤ 900000) (h13 : ¬ x.start.length < 13) (hv : x.start.take 9 ≠ verL) :
    Calls Tryz.prog 34 #[.agg #[.string s, .slice ha hn hc, .slice ba bn bc]] w0 (AROfPost w0 x) := by
  obtain ⟨hst, gh, gb⟩ := hr
  simp only [Sl.v] at hst gh gb
  have HO := hideL (OfSA.first w0 s (.slice ha hn hc) (.slice ba bn bc))
  have hz := size_list s
  rw [hst] at hz
  have c0 := HO.out.raw.c0
  have HNO := hideL (ofA_no (x := x) (fun k => hv k.1))
  have i1 : ¬ (s.size : Int) < 13 := by omega
  have i1d : decide ((s.size : Int) < 13) = false := decide_eq_false i1
  have b1 : (9 : Int) ≤ (s.size : Int) := by omega
  have b2 : 9 ≤ s.size := by omega
  obtain ⟨T, hT⟩ : ∃ T, bo (x.start.take 9) = T := ⟨_, rfl⟩
  have e2 : s.extract 0 9 = T := by rw [bo_exA, hst, List.drop_zero, hT]
  have e8 : (T.toList == [72, 84, 84, 80, 47, 49, 46, 49, 32]) = false := by
    have := eqs_false (s := T) (t := ⟨#[72, 84, 84, 80, 47, 49, 46, 49, 32]⟩) (fun e => hv (by have := congrArg (fun b : ByteArray => b.data.toList) (hT.trans e); rw [bo_list] at this; exact this))
    rwa [ByteArray.toList_eq ⟨#[72, 84, 84, 80, 47, 49, 46, 49, 32]⟩] at this
  clear hst gh gb hz hs0 h13 hT hv
  have q0 := HO.out.res.c0
  have q1 := HO.out.res.c1
  have q2 := HO.out.res.c2
  have z0 := HO.out.res.fz 0
  have z1 := HO.out.res.fz 1
  have z2 := HO.out.res.fz 2
  go_enter Tryz.func34, Tryz.ntmps34
  go_upto_region 2 with fail
  generalize (w0.alloc (rawC s (.slice ha hn hc) (.slice ba bn bc))).alloc (anC 0 (.slice none 0 0) (.slice none 0 0)) = W0 at *
  go_wp2_with fail
  exact bodyPost_ret (v := .tuple #[.agg #[.int .i64 0, .slice none 0 0, .slice none 0 0], .bool false]) (by
    have hy := HO.out.res.st 0 (.slice none 0 0) (.slice none 0 0)
    have r0 := hy.c0
    have r1 := hy.c1
    have r2 := hy.c2
    simp [results, Tryz.results34, go_sem, r0, r1, r2]) rfl (AROfPost.no HNO.out (below_st3 HO.out.be (Nat.le_succ _)))
set_option maxRecDepth 100000 in
set_option maxHeartbeats 4000000 in
theorem arof_3 (s : ByteArray) (ha : Option Addr) (hn hc : Nat) (ba : Option Addr) (bn bc : Nat) (x : Rw) (w0 : World) (hr : RawAt w0 ⟨s, ⟨ha, hn, hc⟩, ⟨ba, bn, bc⟩⟩ x) (hs0 : s.size ≤ 900000) (h13 : ¬ x.start.length < 13) (hv : x.start.take 9 = verL) (h12 : x.start[12]? ≠ some 32) :
    Calls Tryz.prog 34 #[.agg #[.string s, .slice ha hn hc, .slice ba bn bc]] w0 (AROfPost w0 x) := by
  obtain ⟨hst, gh, gb⟩ := hr
  simp only [Sl.v] at hst gh gb
  have HO := hideL (OfSA.first w0 s (.slice ha hn hc) (.slice ba bn bc))
  have hz := size_list s
  rw [hst] at hz
  have c0 := HO.out.raw.c0
  have HNO := hideL (ofA_no (x := x) (fun k => h12 k.2.2.1))
  have i1 : ¬ (s.size : Int) < 13 := by omega
  have i1d : decide ((s.size : Int) < 13) = false := decide_eq_false i1
  have b1 : (9 : Int) ≤ (s.size : Int) := by omega
  have b2 : 9 ≤ s.size := by omega
  obtain ⟨T, hT⟩ : ∃ T, bo (x.start.take 9) = T := ⟨_, rfl⟩
  have e2 : s.extract 0 9 = T := by rw [bo_exA, hst, List.drop_zero, hT]
  have e8 : (T.toList == [72, 84, 84, 80, 47, 49, 46, 49, 32]) = true := by
    have := eqs_true (s := T) (t := ⟨#[72, 84, 84, 80, 47, 49, 46, 49, 32]⟩) (by rw [← hT, hv]; rfl)
    rwa [ByteArray.toList_eq ⟨#[72, 84, 84, 80, 47, 49, 46, 49, 32]⟩] at this
  have b3 : (12 : Int) < (s.size : Int) := by omega
  have b4 : 12 < s.size := by omega
  have hx12 : x.start[12]? = some s[12] := by
    rw [← hst, List.getElem?_eq_getElem (by rw [hst]; omega)]
    rfl
  have i32 : ((s[12].toNat : Int) == 32) = false := by
    rw [beq_eq_false_iff_ne]
    intro e
    exact h12 (hx12.trans (congrArg some (UInt8.toNat_inj.1 (show s[12].toNat = (32 : UInt8).toNat from by have : (32 : UInt8).toNat = 32 := rfl; omega))))
  clear hst gh gb hz hs0 h13 hT hv h12 hx12
  have q0 := HO.out.res.c0
  have q1 := HO.out.res.c1
  have q2 := HO.out.res.c2
  have z0 := HO.out.res.fz 0
  have z1 := HO.out.res.fz 1
  have z2 := HO.out.res.fz 2
  go_enter Tryz.func34, Tryz.ntmps34
  go_upto_region 2 with fail
  generalize (w0.alloc (rawC s (.slice ha hn hc) (.slice ba bn bc))).alloc (anC 0 (.slice none 0 0) (.slice none 0 0)) = W0 at *
  go_wp2_with fail
  exact bodyPost_ret (v := .tuple #[.agg #[.int .i64 0, .slice none 0 0, .slice none 0 0], .bool false]) (by
    have hy := HO.out.res.st 0 (.slice none 0 0) (.slice none 0 0)
    have r0 := hy.c0
    have r1 := hy.c1
    have r2 := hy.c2
    simp [results, Tryz.results34, go_sem, r0, r1, r2]) rfl (AROfPost.no HNO.out (below_st3 HO.out.be (Nat.le_succ _)))

end Go.Proofs.YtafmgoekgijfgaaGreatDoor
namespace Go.Proofs.YtafmgoekgijfgaaGreatDoor
open Go.RowKit Go.Lib

set_option maxRecDepth 100000 in
set_option maxHeartbeats 4000000 in
theorem arof_4 (s : ByteArray) (ha : Option Addr) (hn hc : Nat) (ba : Option Addr) (bn bc : Nat) (x : Rw) (w0 : World) (hr : RawAt w0 ⟨s, ⟨ha, hn, hc⟩, ⟨ba, bn, bc⟩⟩ x) (hs0 : s.size ≤ 900000) (h13 : ¬ x.start.length < 13) (hv : x.start.take 9 = verL) (h12 : x.start[12]? = some 32) (hdg : ((x.start.drop 9).take 3).all digB = false) :
    Calls Tryz.prog 34 #[.agg #[.string s, .slice ha hn hc, .slice ba bn bc]] w0 (AROfPost w0 x) := by
  obtain ⟨hst, gh, gb⟩ := hr
  simp only [Sl.v] at hst gh gb
  have HO := hideL (OfSA.first w0 s (.slice ha hn hc) (.slice ba bn bc))
  have hz := size_list s
  rw [hst] at hz
  have c0 := HO.out.raw.c0
  have HNO := hideL (ofA_no (x := x) (fun k => by rw [hdg] at k; exact absurd k.2.2.2.1 (by decide)))
  have i1 : ¬ (s.size : Int) < 13 := by omega
  have i1d : decide ((s.size : Int) < 13) = false := decide_eq_false i1
  have b1 : (9 : Int) ≤ (s.size : Int) := by omega
  have b2 : 9 ≤ s.size := by omega
  obtain ⟨T, hT⟩ : ∃ T, bo (x.start.take 9) = T := ⟨_, rfl⟩
  have e2 : s.extract 0 9 = T := by rw [bo_exA, hst, List.drop_zero, hT]
  have e8 : (T.toList == [72, 84, 84, 80, 47, 49, 46, 49, 32]) = true := by
    have := eqs_true (s := T) (t := ⟨#[72, 84, 84, 80, 47, 49, 46, 49, 32]⟩) (by rw [← hT, hv]; rfl)
    rwa [ByteArray.toList_eq ⟨#[72, 84, 84, 80, 47, 49, 46, 49, 32]⟩] at this
  have b3 : (12 : Int) < (s.size : Int) := by omega
  have b4 : 12 < s.size := by omega
  have hx12 : x.start[12]? = some s[12] := by
    rw [← hst, List.getElem?_eq_getElem (by rw [hst]; omega)]
    rfl
  have i32 : ((s[12].toNat : Int) == 32) = true := by
    have e : s[12] = 32 := Option.some.inj (hx12.symm.trans h12)
    rw [e]
    rfl
  have HS := hideL (show s.data.toList.length = s.size from size_list s)
  have HS13 := hideL (show 13 ≤ s.size by omega)
  have HDG := hideL hdg
  have HST := hideL hst
  have HSZ := hideL hs0
  have GH := hideL gh
  have GB := hideL gb
  clear hst gh gb hz hs0 h13 hT hv h12 hx12
  go_enter Tryz.func34, Tryz.ntmps34
  go_wp2_with fail
  generalize (w0.alloc (rawC s (.slice ha hn hc) (.slice ba bn bc))).alloc (anC 0 (.slice none 0 0) (.slice none 0 0)) = W0 at *
  clear i1d b1 b2 e2 e8 c0
  go_loopw [5, 6] (fun n i wr => ∃ (k N : Nat), n = .int .i64 N ∧ i = .int .i64 k ∧ 9 ≤ k ∧ k ≤ 12 ∧ HidL (far k N) ∧ HidL (numN 0 ((s.data.toList.drop 9).take (k - 9)) = N) ∧ HidL (((s.data.toList.drop 9).take (k - 9)).all digB = true) ∧ HidL (OfSA w0 s (.slice ha hn hc) (.slice ba bn bc) wr)) (fun _ i _ => 12 - (RowKit.intOf i).toNat)
  case atStart => exact ⟨9, 0, rfl, rfl, by omega, by omega, ⟨.inl ⟨rfl, by omega⟩⟩, ⟨rfl⟩, ⟨rfl⟩, HO⟩
  case round =>
    obtain ⟨k, N, rfl, rfl, hk9, hk12, HF, HN, HD, HO⟩ := hrel
    obtain ⟨W, rfl⟩ : ∃ W, W = wr := ⟨_, rfl⟩
    by_cases hk : k < 12
    · have h1 : (k : Int) < 12 := by omega
      have h2 : (k : Int) < (s.size : Int) := by have := HS13.out; omega
      have h2' : k < s.size := by omega
      have hkl : k < s.data.toList.length := by rw [HS.out]; exact h2'
      have hget : s.data.toList[k] = s[k] := rfl
      have h3 : s[k].toNat < 256 := s[k].toNat_lt
      by_cases h48 : s[k].toNat < 48
      · have i48 : (s[k].toNat : Int) < 48 := by omega
        have hbd := dig_not (.inl h48)
        rw [← hget] at hbd
        have HBD := hideL (all_bad (n := 3) hk9 (by omega) hkl hbd)
        clear h48 hget hbd HF HN HD
        clear HBD
        have q0 := HO.out.res.c0
        have q1 := HO.out.res.c1
        have q2 := HO.out.res.c2
        have z0 := HO.out.res.fz 0
        have z1 := HO.out.res.fz 1
        have z2 := HO.out.res.fz 2
        go_wp2_with fail
        exact bodyPost_ret (v := .tuple #[.agg #[.int .i64 0, .slice none 0 0, .slice none 0 0], .bool false]) (by
          have hy := HO.out.res.st 0 (.slice none 0 0) (.slice none 0 0)
          have r0 := hy.c0
          have r1 := hy.c1
          have r2 := hy.c2
          simp [results, Tryz.results34, go_sem, r0, r1, r2]) rfl (AROfPost.no HNO.out (below_st3 HO.out.be (Nat.le_succ _)))
      have i48 : ¬ (s[k].toNat : Int) < 48 := by omega
      have i48d : decide ((s[k].toNat : Int) < 48) = false := decide_eq_false i48
      by_cases h57 : 57 < s[k].toNat
      · have i57 : (57 : Int) < (s[k].toNat : Int) := by omega
        have hbd := dig_not (.inr h57)
        rw [← hget] at hbd
        have HBD := hideL (all_bad (n := 3) hk9 (by omega) hkl hbd)
        clear h48 h57 hget hbd HF HN HD
        clear HBD
        have q0 := HO.out.res.c0
        have q1 := HO.out.res.c1
        have q2 := HO.out.res.c2
        have z0 := HO.out.res.fz 0
        have z1 := HO.out.res.fz 1
        have z2 := HO.out.res.fz 2
        go_wp2_with fail
        exact bodyPost_ret (v := .tuple #[.agg #[.int .i64 0, .slice none 0 0, .slice none 0 0], .bool false]) (by
          have hy := HO.out.res.st 0 (.slice none 0 0) (.slice none 0 0)
          have r0 := hy.c0
          have r1 := hy.c1
          have r2 := hy.c2
          simp [results, Tryz.results34, go_sem, r0, r1, r2]) rfl (AROfPost.no HNO.out (below_st3 HO.out.be (Nat.le_succ _)))
      have i57 : ¬ (57 : Int) < (s[k].toNat : Int) := by omega
      have i57d : decide ((57 : Int) < (s[k].toNat : Int)) = false := decide_eq_false i57
      have hN : N < 1000 := by have := HF.out; unfold far at this; omega
      obtain ⟨N2, hN2⟩ : ∃ n, N * 10 + (s[k].toNat - 48) = n := ⟨_, rfl⟩
      have HF2 : HidL (far (k + 1) N2) := ⟨by have := HF.out; unfold far at this ⊢; omega⟩
      have hsn := drop_snoc hk9 hkl
      rw [hget] at hsn
      have HN2 : HidL (numN 0 ((s.data.toList.drop 9).take (k + 1 - 9)) = N2) := ⟨by rw [hsn, numN_snoc, HN.out]; exact hN2⟩
      have HD2 : HidL (((s.data.toList.drop 9).take (k + 1 - 9)).all digB = true) := ⟨by rw [hsn, List.all_append, HD.out, List.all_cons, dig_yes h48 h57]; rfl⟩
      have v1 : IntKind.i64.wrap ((N : Int) * 10) = (N : Int) * 10 := by rw [IntWalk.i64_in _ (by omega)]
      have v2 : IntKind.i64.wrap ((N : Int) * 10 + (s[k].toNat : Int)) = (N : Int) * 10 + (s[k].toNat : Int) := by rw [IntWalk.i64_in _ (by omega)]
      have v3 : IntKind.i64.wrap ((N : Int) * 10 + (s[k].toNat : Int) - 48) = (N2 : Int) := by rw [IntWalk.i64_in _ (by omega)]; omega
      have v4 : IntKind.i64.wrap ((k : Int) + 1) = (k : Int) + 1 := by rw [IntWalk.i64_in _ (by omega)]
      have v5 : IntKind.i64.wrap (s[k].toNat : Int) = (s[k].toNat : Int) := by rw [IntWalk.i64_in _ (by omega)]
      clear hsn hN2 hget h48 h57 HF HN HD
      go_wp2_with fail
      go_roundw
      case rel => exact ⟨k + 1, N2, rfl, by go_num, by omega, by omega, HF2, HN2, HD2, HO⟩
      case measure => simp [RowKit.intOf]; omega
    · obtain rfl : k = 12 := by omega
      have h1 : ¬ ((12 : Nat) : Int) < 12 := by omega
      have h1' : ¬ (12 : Int) < 12 := by omega
      have hN : N < 1000 := by have := HF.out; unfold far at this; omega
      have := HD.out
      rw [HST.out, HDG.out] at this
      cases this

end Go.Proofs.YtafmgoekgijfgaaGreatDoor
namespace Go.Proofs.YtafmgoekgijfgaaGreatDoor
open Go.RowKit Go.Lib

set_option maxRecDepth 100000 in
set_option maxHeartbeats 4000000 in
theorem arof_5 (s : ByteArray) (ha : Option Addr) (hn hc : Nat) (ba : Option Addr) (bn bc : Nat) (x : Rw) (w0 : World) (hr : RawAt w0 ⟨s, ⟨ha, hn, hc⟩, ⟨ba, bn, bc⟩⟩ x) (hs0 : s.size ≤ 900000) (h13 : ¬ x.start.length < 13) (hv : x.start.take 9 = verL) (h12 : x.start[12]? = some 32) (hdg : ((x.start.drop 9).take 3).all digB = true) (hpp : (x.start.drop 13).all priB = false) :
    Calls Tryz.prog 34 #[.agg #[.string s, .slice ha hn hc, .slice ba bn bc]] w0 (AROfPost w0 x) := by
  obtain ⟨hst, gh, gb⟩ := hr
  simp only [Sl.v] at hst gh gb
  have HO := hideL (OfSA.first w0 s (.slice ha hn hc) (.slice ba bn bc))
  have hz := size_list s
  rw [hst] at hz
  have c0 := HO.out.raw.c0
  have HNO := hideL (ofA_no (x := x) (fun k => by rw [hpp] at k; exact absurd k.2.2.2.2 (by decide)))
  have i1 : ¬ (s.size : Int) < 13 := by omega
  have i1d : decide ((s.size : Int) < 13) = false := decide_eq_false i1
  have b1 : (9 : Int) ≤ (s.size : Int) := by omega
  have b2 : 9 ≤ s.size := by omega
  obtain ⟨T, hT⟩ : ∃ T, bo (x.start.take 9) = T := ⟨_, rfl⟩
  have e2 : s.extract 0 9 = T := by rw [bo_exA, hst, List.drop_zero, hT]
  have e8 : (T.toList == [72, 84, 84, 80, 47, 49, 46, 49, 32]) = true := by
    have := eqs_true (s := T) (t := ⟨#[72, 84, 84, 80, 47, 49, 46, 49, 32]⟩) (by rw [← hT, hv]; rfl)
    rwa [ByteArray.toList_eq ⟨#[72, 84, 84, 80, 47, 49, 46, 49, 32]⟩] at this
  have b3 : (12 : Int) < (s.size : Int) := by omega
  have b4 : 12 < s.size := by omega
  have hx12 : x.start[12]? = some s[12] := by
    rw [← hst, List.getElem?_eq_getElem (by rw [hst]; omega)]
    rfl
  have i32 : ((s[12].toNat : Int) == 32) = true := by
    have e : s[12] = 32 := Option.some.inj (hx12.symm.trans h12)
    rw [e]
    rfl
  have HS := hideL (show s.data.toList.length = s.size from size_list s)
  have HS13 := hideL (show 13 ≤ s.size by omega)
  have HDG := hideL hdg
  have HPP := hideL hpp
  have HST := hideL hst
  have HSZ := hideL hs0
  have GH := hideL gh
  have GB := hideL gb
  clear hst gh gb hz hs0 h13 hT hv h12 hx12
  go_enter Tryz.func34, Tryz.ntmps34
  go_wp2_with fail
  generalize (w0.alloc (rawC s (.slice ha hn hc) (.slice ba bn bc))).alloc (anC 0 (.slice none 0 0) (.slice none 0 0)) = W0 at *
  clear i1d b1 b2 e2 e8 c0
  go_loopw [5, 6] (fun n i wr => ∃ (k N : Nat), n = .int .i64 N ∧ i = .int .i64 k ∧ 9 ≤ k ∧ k ≤ 12 ∧ HidL (far k N) ∧ HidL (numN 0 ((s.data.toList.drop 9).take (k - 9)) = N) ∧ HidL (((s.data.toList.drop 9).take (k - 9)).all digB = true) ∧ HidL (OfSA w0 s (.slice ha hn hc) (.slice ba bn bc) wr)) (fun _ i _ => 12 - (RowKit.intOf i).toNat)
  case atStart => exact ⟨9, 0, rfl, rfl, by omega, by omega, ⟨.inl ⟨rfl, by omega⟩⟩, ⟨rfl⟩, ⟨rfl⟩, HO⟩
  case round =>
    obtain ⟨k, N, rfl, rfl, hk9, hk12, HF, HN, HD, HO⟩ := hrel
    obtain ⟨W, rfl⟩ : ∃ W, W = wr := ⟨_, rfl⟩
    by_cases hk : k < 12
    · have h1 : (k : Int) < 12 := by omega
      have h2 : (k : Int) < (s.size : Int) := by have := HS13.out; omega
      have h2' : k < s.size := by omega
      have hkl : k < s.data.toList.length := by rw [HS.out]; exact h2'
      have hget : s.data.toList[k] = s[k] := rfl
      have h3 : s[k].toNat < 256 := s[k].toNat_lt
      by_cases h48 : s[k].toNat < 48
      · have i48 : (s[k].toNat : Int) < 48 := by omega
        have hbd := dig_not (.inl h48)
        rw [← hget] at hbd
        have HBD := hideL (all_bad (n := 3) hk9 (by omega) hkl hbd)
        clear h48 hget hbd HF HN HD
        have := HBD.out
        rw [HST.out, HDG.out] at this
        cases this
      have i48 : ¬ (s[k].toNat : Int) < 48 := by omega
      have i48d : decide ((s[k].toNat : Int) < 48) = false := decide_eq_false i48
      by_cases h57 : 57 < s[k].toNat
      · have i57 : (57 : Int) < (s[k].toNat : Int) := by omega
        have hbd := dig_not (.inr h57)
        rw [← hget] at hbd
        have HBD := hideL (all_bad (n := 3) hk9 (by omega) hkl hbd)
        clear h48 h57 hget hbd HF HN HD
        have := HBD.out
        rw [HST.out, HDG.out] at this
        cases this
      have i57 : ¬ (57 : Int) < (s[k].toNat : Int) := by omega
      have i57d : decide ((57 : Int) < (s[k].toNat : Int)) = false := decide_eq_false i57
      have hN : N < 1000 := by have := HF.out; unfold far at this; omega
      obtain ⟨N2, hN2⟩ : ∃ n, N * 10 + (s[k].toNat - 48) = n := ⟨_, rfl⟩
      have HF2 : HidL (far (k + 1) N2) := ⟨by have := HF.out; unfold far at this ⊢; omega⟩
      have hsn := drop_snoc hk9 hkl
      rw [hget] at hsn
      have HN2 : HidL (numN 0 ((s.data.toList.drop 9).take (k + 1 - 9)) = N2) := ⟨by rw [hsn, numN_snoc, HN.out]; exact hN2⟩
      have HD2 : HidL (((s.data.toList.drop 9).take (k + 1 - 9)).all digB = true) := ⟨by rw [hsn, List.all_append, HD.out, List.all_cons, dig_yes h48 h57]; rfl⟩
      have v1 : IntKind.i64.wrap ((N : Int) * 10) = (N : Int) * 10 := by rw [IntWalk.i64_in _ (by omega)]
      have v2 : IntKind.i64.wrap ((N : Int) * 10 + (s[k].toNat : Int)) = (N : Int) * 10 + (s[k].toNat : Int) := by rw [IntWalk.i64_in _ (by omega)]
      have v3 : IntKind.i64.wrap ((N : Int) * 10 + (s[k].toNat : Int) - 48) = (N2 : Int) := by rw [IntWalk.i64_in _ (by omega)]; omega
      have v4 : IntKind.i64.wrap ((k : Int) + 1) = (k : Int) + 1 := by rw [IntWalk.i64_in _ (by omega)]
      have v5 : IntKind.i64.wrap (s[k].toNat : Int) = (s[k].toNat : Int) := by rw [IntWalk.i64_in _ (by omega)]
      clear hsn hN2 hget h48 h57 HF HN HD
      go_wp2_with fail
      go_roundw
      case rel => exact ⟨k + 1, N2, rfl, by go_num, by omega, by omega, HF2, HN2, HD2, HO⟩
      case measure => simp [RowKit.intOf]; omega
    · obtain rfl : k = 12 := by omega
      have h1 : ¬ ((12 : Nat) : Int) < 12 := by omega
      have h1' : ¬ (12 : Int) < 12 := by omega
      have hN : N < 1000 := by have := HF.out; unfold far at this; omega
      have HNN := HN
      clear HF HN HD
      go_wp2_with fail
      go_loopw [7] (fun i wr => ∃ k : Nat, i = .int .i64 k ∧ 13 ≤ k ∧ k ≤ s.size ∧ HidL (((s.data.toList.drop 13).take (k - 13)).all priB = true) ∧ HidL (OfSA w0 s (.slice ha hn hc) (.slice ba bn bc) wr)) (fun i _ => s.size - (RowKit.intOf i).toNat)
      case atStart => exact ⟨13, rfl, by omega, HS13.out, ⟨rfl⟩, HO⟩
      case round =>
        obtain ⟨k, rfl, hk13, hks, HP, HO⟩ := hrel
        obtain ⟨W2, rfl⟩ : ∃ W, W = wr := ⟨_, rfl⟩
        by_cases hk : k < s.size
        · have h2 : (k : Int) < (s.size : Int) := by omega
          have hkl : k < s.data.toList.length := by rw [HS.out]; exact hk
          have hget : s.data.toList[k] = s[k] := rfl
          have h3 : s[k].toNat < 256 := s[k].toNat_lt
          have HZ := hideL (show s.size ≤ 900000 from HSZ.out)
          by_cases h32 : s[k].toNat < 32
          · have i32 : (s[k].toNat : Int) < 32 := by omega
            have hbd := pri_not (.inl h32)
            rw [← hget] at hbd
            have HBD := hideL (all_bad (n := s.size - 13) hk13 (by omega) hkl hbd)
            clear h32 hget hbd HP
            clear HBD
            have q0 := HO.out.res.c0
            have q1 := HO.out.res.c1
            have q2 := HO.out.res.c2
            have z0 := HO.out.res.fz 0
            have z1 := HO.out.res.fz 1
            have z2 := HO.out.res.fz 2
            go_wp2_with fail
            exact bodyPost_ret (v := .tuple #[.agg #[.int .i64 0, .slice none 0 0, .slice none 0 0], .bool false]) (by
              have hy := HO.out.res.st 0 (.slice none 0 0) (.slice none 0 0)
              have r0 := hy.c0
              have r1 := hy.c1
              have r2 := hy.c2
              simp [results, Tryz.results34, go_sem, r0, r1, r2]) rfl (AROfPost.no HNO.out (below_st3 HO.out.be (Nat.le_succ _)))
          have i32 : ¬ (s[k].toNat : Int) < 32 := by omega
          have i32d : decide ((s[k].toNat : Int) < 32) = false := decide_eq_false i32
          by_cases h126 : 126 < s[k].toNat
          · have i126 : (126 : Int) < (s[k].toNat : Int) := by omega
            have hbd := pri_not (.inr h126)
            rw [← hget] at hbd
            have HBD := hideL (all_bad (n := s.size - 13) hk13 (by omega) hkl hbd)
            clear h32 h126 hget hbd HP
            clear HBD
            have q0 := HO.out.res.c0
            have q1 := HO.out.res.c1
            have q2 := HO.out.res.c2
            have z0 := HO.out.res.fz 0
            have z1 := HO.out.res.fz 1
            have z2 := HO.out.res.fz 2
            go_wp2_with fail
            exact bodyPost_ret (v := .tuple #[.agg #[.int .i64 0, .slice none 0 0, .slice none 0 0], .bool false]) (by
              have hy := HO.out.res.st 0 (.slice none 0 0) (.slice none 0 0)
              have r0 := hy.c0
              have r1 := hy.c1
              have r2 := hy.c2
              simp [results, Tryz.results34, go_sem, r0, r1, r2]) rfl (AROfPost.no HNO.out (below_st3 HO.out.be (Nat.le_succ _)))
          have i126 : ¬ (126 : Int) < (s[k].toNat : Int) := by omega
          have i126d : decide ((126 : Int) < (s[k].toNat : Int)) = false := decide_eq_false i126
          have hsn := drop_snoc hk13 hkl
          rw [hget] at hsn
          have HP2 : HidL (((s.data.toList.drop 13).take (k + 1 - 13)).all priB = true) := ⟨by rw [hsn, List.all_append, HP.out, List.all_cons, pri_yes h32 h126]; rfl⟩
          have v4 : IntKind.i64.wrap ((k : Int) + 1) = (k : Int) + 1 := by rw [IntWalk.i64_in _ (by have := HZ.out; omega)]
          clear hsn hget h32 h126 HP
          go_wp2_with fail
          go_roundw
          case rel => exact ⟨k + 1, by go_num, by omega, by omega, HP2, HO⟩
          case measure => simp [RowKit.intOf]; omega
        · obtain rfl : k = s.size := by omega
          have h2 : ¬ (s.size : Int) < (s.size : Int) := by omega
          have hpr : (s.data.toList.drop 13).all priB = true := by
            have := HP.out
            rwa [List.take_of_length_le (by rw [List.length_drop, HS.out]; exact Nat.le_refl _)] at this
          have HPR := hideL hpr
          clear hpr HP hk
          have := HPR.out
          rw [HST.out, HPP.out] at this
          cases this

end Go.Proofs.YtafmgoekgijfgaaGreatDoor
