/- The law's own function long. What a law's arguments are: a token, a ring. What the laws of layer 6 share: the memory of a ring and a token that were handed in. -/
import Derived.Test.YtaomigfmjglggaaDoorTkSd
import Derived.WalkSpells
import Derived.WalkLawsBesides
import Derived.IntWalk
import Derived.Test.YtaomigfmjglggaaDoorTkA
import Derived.Test.YtaomigfmjglggaaDoorArgs
import Derived.Test.YtaomigfmjglggaaDoorFrame
import Derived.Deep.Slices
import Derived.ChangeSlices
import Derived.OpenShut
import Derived.Test.YtaomigfmjglggaaDoorTkAwkM
namespace Go.Proofs.YtaomigfmjglggaaDoor
open Go.RowKit

def longB (m : Nat) (t : Tk) : Bool := decide (300 < m) || (decide (300 < t.ns.size) || decide (300 < t.sa.size))
theorem longB_not {m : Nat} {t : Tk} (h : longB m t = false) : m ≤ 300 ∧ t.ns.size ≤ 300 ∧ t.sa.size ≤ 300 := by
  simp only [longB, Bool.or_eq_false_iff, decide_eq_false_iff_not] at h
  omega
set_option maxRecDepth 100000 in
set_option maxHeartbeats 1000000 in
theorem long_any (ao : Option Addr) (m c o n : Nat) (t : Tk) (w : World) : Calls Tryd.prog 11 #[.agg (ringA (.slice ao m c) o n), .agg (tkA t)] w (fun e w' => e = .returned (.bool (longB m t)) ∧ Below w.heap.size w w') := by
  have HB := hide (((Below.refl w.heap.size w).alloc (Nat.le_refl _) (.cells (ringA (.slice ao m c) o n) 25)).alloc (by simp) (.cells (tkA t) 31))
  have hx := TBox.new (w.alloc (.cells (ringA (.slice ao m c) o n) 25)) t
  rw [show (w.alloc (.cells (ringA (.slice ao m c) o n) 25)).heap.size = w.heap.size + 1 from by simp] at hx
  have d0 := hx.c0
  have d1 := hx.c1
  clear hx
  have HR : Hid (longB m t = (decide (300 < m) || (decide (300 < t.ns.size) || decide (300 < t.sa.size)))) := hide rfl
  generalize longB m t = R at *
  generalize t.ns = ns at *
  generalize t.sa = sa at *
  generalize tkA t = TA at *
  unfold ringA at *
  by_cases h0 : 300 < m
  · rw [show R = true from by rw [HR.out, decide_eq_true h0]; rfl]
    clear HR
    go_enter Tryd.func11, Tryd.ntmps11
    go_wp2_with fail
    go_ret
    exact ⟨by first | rfl | (simp; omega), HB.out⟩
  · by_cases h1 : 300 < ns.size
    · rw [show R = true from by rw [HR.out, decide_eq_true h1]; simp]
      clear HR
      go_enter Tryd.func11, Tryd.ntmps11
      go_wp2_with fail
      go_ret
      exact ⟨by first | rfl | (simp; omega), HB.out⟩
    · have hx : decide ((300 : Int) < (sa.size : Int)) = R := by
        rw [HR.out, decide_eq_false h0, decide_eq_false h1, Bool.false_or, Bool.false_or, decide_eq_decide]
        omega
      clear HR
      go_enter Tryd.func11, Tryd.ntmps11
      go_wp2_with fail
      go_ret
      exact ⟨by first | rfl | (simp; omega), HB.out⟩
end Go.Proofs.YtaomigfmjglggaaDoor
namespace Go.Proofs.YtaomigfmjglggaaDoor
open Go.ChangeShapes Go.WideShapes Go.ChangeAt Go.RowKit

/-- What is known of a token that is handed in. -/
structure Tk.pre (t : Tk) : Prop where
  ns : t.ns.size ≤ maxLen
  sa : t.sa.size ≤ maxLen
  uid : t.uid < 18446744073709551616
  host1 : -9223372036854775808 ≤ t.host
  host2 : t.host < 9223372036854775808
  addr : t.addr < 4294967296
  born : t.born < 18446744073709551616
  til : t.til < 18446744073709551616
  key : t.key < 18446744073709551616
  mac : t.mac.length = 32
  byte : ∀ x ∈ t.mac, 0 ≤ x ∧ x < 256
theorem Tk.pre.ok {t : Tk} (h : t.pre) (h1 : t.ns.size ≤ 300) (h2 : t.sa.size ≤ 300) : t.ok := ⟨by omega, by omega, h.uid, h.host1, h.host2, h.addr, h.born, h.til, h.key, h.mac, h.byte⟩

set_option maxRecDepth 100000 in
theorem name_of_trodT {H : Type} {enc : TypeId × Value → H} {W : World} {base : Nat} {sp : Nat → Bool} {held : Bool} {n : Nat} {cs : List Value} {x : DataW H × List MemPlace} (h : DataW.trod enc Tryd.prog W base sp held n 27 cs = some x) : ∃ a b : ByteArray, a.size ≤ maxLen ∧ b.size ≤ maxLen ∧ cs = [.string a, .string b] := by
  have hu := Tryd.underlying27
  obtain ⟨xs, k, _, _, hlen, hxl, hf⟩ := DataW.trod_struct hu h
  rw [show Tryd.prog.cellsOf 27 = 2 by kernel_rfl] at hlen
  match cs, hlen with
  | [c0, c1], _ =>
    match xs, hxl with
    | [y0, y1], _ =>
      have g0 := hf 0 _ rfl
      have g1 := hf 1 _ rfl
      simp only [List.getElem?_cons_zero, List.getElem?_cons_succ] at g0 g1
      obtain ⟨a0, e0, _, w0⟩ := DataW.trod_string Tryd.underlying9 g0
      obtain ⟨a1, e1, _, w1⟩ := DataW.trod_string Tryd.underlying9 g1
      injection e0 with e0
      injection e1 with e1
      subst e0 e1
      exact ⟨a0, a1, w0, w1, rfl⟩

theorem bytes_of_trodT {H : Type} {enc : TypeId × Value → H} {W : World} {base : Nat} {sp : Nat → Bool} {held : Bool} {m : Nat} {cs : List Value} {x : DataW H × List MemPlace} (h : DataW.trod enc Tryd.prog W base sp held m 29 cs = some x) (hl : cs.length = 32) :
    ∃ l : List Int, l.length = 32 ∧ (∀ x ∈ l, 0 ≤ x ∧ x < 256) ∧ cs = l.map (.int .u8) := by
  obtain ⟨xs, k, _, _, _, hxl, hf⟩ := DataW.trod_array Tryd.underlying29 h
  have hc : Tryd.prog.cellsOf 5 = 1 := by kernel_rfl
  have hall : ∀ i, i < 32 → ∃ a : Int, cs[i]? = some (.int .u8 a) ∧ 0 ≤ a ∧ a < 256 := by
    intro i hi
    have g := hf i hi
    rw [hc, Nat.mul_one, List.getElem?_eq_getElem (by omega), List.drop_eq_getElem_cons (by omega)] at g
    simp only [List.take_succ_cons, List.take_zero] at g
    obtain ⟨a, e, _, w0⟩ := DataW.trod_int Tryd.underlying5 g
    injection e with e
    simp [Lit.wf, IntKind.min, IntKind.max, IntKind.signed, IntKind.bits] at w0
    exact ⟨a, by rw [List.getElem?_eq_getElem (by omega), e], by omega, by omega⟩
  refine ⟨cs.map (fun v => match v with | .int _ a => a | _ => 0), by simp [hl], ?_, ?_⟩
  · intro x hx
    obtain ⟨v, hv, rfl⟩ := List.mem_map.1 hx
    obtain ⟨i, hi, rfl⟩ := List.getElem_of_mem hv
    obtain ⟨a, ha, h0, h1⟩ := hall i (by omega)
    rw [List.getElem?_eq_getElem hi] at ha
    injection ha with ha
    rw [ha]
    exact ⟨h0, h1⟩
  · rw [List.map_map]
    apply List.ext_getElem?
    intro i
    rcases Nat.lt_or_ge i 32 with hi | hi
    · obtain ⟨a, ha, _⟩ := hall i hi
      rw [List.getElem?_map, ha]; rfl
    · rw [List.getElem?_eq_none (by omega), List.getElem?_eq_none (by simp; omega)]

set_option maxRecDepth 100000 in
theorem tok_of_trod {H : Type} {enc : TypeId × Value → H} {W : World} {base : Nat} {sp : Nat → Bool} {held : Bool} {n : Nat} {cs : List Value} {x : DataW H × List MemPlace} (h : DataW.trod enc Tryd.prog W base sp held n 31 cs = some x) : ∃ t : Tk, t.pre ∧ cs = tkC t := by
  have hu := Tryd.underlying31
  obtain ⟨xs, k, _, _, hlen, hxl, hf⟩ := DataW.trod_struct hu h
  rw [show Tryd.prog.cellsOf 31 = 40 by kernel_rfl] at hlen
  match xs, hxl with
  | [y0, y1, y2, y3, y4, y5, y6, y7], _ =>
    have g0 := hf 0 _ rfl
    have g1 := hf 1 _ rfl
    have g2 := hf 2 _ rfl
    have g3 := hf 3 _ rfl
    have g4 := hf 4 _ rfl
    have g5 := hf 5 _ rfl
    have g6 := hf 6 _ rfl
    have g7 := hf 7 ⟨"Mac", 29, 8, false, "", "", 80⟩ rfl
    have ci : Tryd.prog.cellsOf 3 = 1 := by kernel_rfl
    have cu : Tryd.prog.cellsOf 23 = 1 := by kernel_rfl
    have c3 : Tryd.prog.cellsOf 28 = 1 := by kernel_rfl
    have cn : Tryd.prog.cellsOf 27 = 2 := by kernel_rfl
    have cm : Tryd.prog.cellsOf 29 = 32 := by kernel_rfl
    match cs, hlen with
    | c0 :: c1 :: c2 :: c3' :: c4 :: c5 :: c6 :: c7 :: rest, hlen =>
      simp only [cm, List.drop_zero, List.drop_succ_cons, List.getElem?_cons_zero, List.getElem?_cons_succ] at g0 g1 g2 g3 g4 g5 g6 g7
      have hr : rest.length = 32 := by simpa using hlen
      rw [List.take_of_length_le (by omega)] at g7
      obtain ⟨a, b, w0, w0', e0⟩ := name_of_trodT g0
      obtain ⟨a1, e1, _, w1⟩ := DataW.trod_int Tryd.underlying23 g1
      obtain ⟨a2, e2, _, w2⟩ := DataW.trod_int Tryd.underlying3 g2
      obtain ⟨a3, e3, _, w3⟩ := DataW.trod_int Tryd.underlying28 g3
      obtain ⟨a4, e4, _, w4⟩ := DataW.trod_int Tryd.underlying23 g4
      obtain ⟨a5, e5, _, w5⟩ := DataW.trod_int Tryd.underlying23 g5
      obtain ⟨a6, e6, _, w6⟩ := DataW.trod_int Tryd.underlying23 g6
      obtain ⟨l, hl, hb, e7⟩ := bytes_of_trodT g7 hr
      injection e0 with e0 e0'
      injection e0' with e0'
      injection e1 with e1
      injection e2 with e2
      injection e3 with e3
      injection e4 with e4
      injection e5 with e5
      injection e6 with e6
      subst e0 e0' e1 e2 e3 e4 e5 e6 e7
      simp [Lit.wf, IntKind.min, IntKind.max, IntKind.signed, IntKind.bits] at w1 w2 w3 w4 w5 w6
      refine ⟨⟨a, b, a1.toNat, a2, a3.toNat, a4.toNat, a5.toNat, a6.toNat, l⟩, ⟨w0, w0', by show a1.toNat < _; omega, by show _ ≤ a2; omega, by show a2 < _; omega, by show a3.toNat < _; omega, by show a4.toNat < _; omega, by show a5.toNat < _; omega, by show a6.toNat < _; omega, hl, hb⟩, ?_⟩
      simp only [tkC]
      rw [show ((a1.toNat : Nat) : Int) = a1 by omega, show ((a3.toNat : Nat) : Int) = a3 by omega, show ((a4.toNat : Nat) : Int) = a4 by omega, show ((a5.toNat : Nat) : Int) = a5 by omega, show ((a6.toNat : Nat) : Int) = a6 by omega]

set_option maxRecDepth 100000 in
theorem arg_tok {H : Type} {enc : TypeId × Value → H} {W : World} {r : Reach} {base : Nat} {v : Value} {d : DataW H} {p : List MemPlace} (hval : Value.okWide Tryd.prog W r base 31 v)
    (h0 : DataW.Trod enc Tryd.prog W 0 (fun _ => true) true 31 v d p) : ∃ t : Tk, v = .agg (tkA t) ∧ t.pre := by
  obtain ⟨cs, rfl, h2⟩ := okWide_struct Tryd.underlying31 hval
  obtain ⟨fuel, hf⟩ := h0
  obtain ⟨c, h3, h4⟩ := tok_of_trod hf
  refine ⟨c, ?_, h3⟩
  rw [tkA, ← h4]
  rfl

theorem bytes_cellT {H : Type} {enc : TypeId × Value → H} {W : World} {fuel : Nat} {c : Value} {x : DataW H × List MemPlace} (hf : DataW.trod enc Tryd.prog W 0 (fun _ => true) true fuel 22 [c] = some x) :
    ∃ xs : List Int, SlAt W c xs ∧ (∀ x ∈ xs, 0 ≤ x ∧ x < 256) ∧ xs.length ≤ maxLen := by
  rcases open_ints Tryd.underlying22 Tryd.underlying5 Tryd.cells5 hf with ⟨hcs, hx⟩ | ⟨a, len, cap, zs, hcs, _, hl, hm, hz, hx, hcell, hwz⟩
  · simp at hcs
    subst hcs
    exact ⟨[], ⟨none, 0, rfl, fun _ => ⟨rfl, rfl⟩, Nat.le_refl _, fun ad h => by cases h⟩, (fun x h => by cases h), by simp⟩
  · simp at hcs
    subst hcs
    simp only [if_true] at hz
    have hlen : (zs.take len).length = len := by simp; omega
    refine ⟨zs.take len, ⟨some a, cap, by rw [hlen], (fun h => by cases h), by rw [hlen]; exact hl, fun ad had i hi => ?_⟩, fun x hx => byte_bounds (hwz x (List.mem_of_mem_take hx)), by rw [hlen]; omega⟩
    cases had
    rw [hlen] at hi
    have hc := hcell i (by omega)
    have hc0 := hcell 0 (by omega)
    have hs : a.spot = none := by
      have := World.cell?_spot hc0
      simpa [Addr.add] using this
    refine ⟨hs, ?_, ?_⟩
    · rcases Nat.lt_or_ge a.block W.heap.size with h | h
      · exact h
      · have hb : (a.add i).block = a.block := by unfold Addr.add; split <;> rfl
        simp [World.cell?, hb, Array.getElem?_eq_none h] at hc
    · rw [hc]
      simp [nth, List.getD, hi]

set_option maxRecDepth 100000 in
theorem arg_ring {H : Type} {enc : TypeId × Value → H} {W : World} {r : Reach} {base : Nat} {v : Value} {d : DataW H} {p : List MemPlace} (hval : Value.okWide Tryd.prog W r base 25 v)
    (h0 : DataW.Trod enc Tryd.prog W 0 (fun _ => true) true 25 v d p) : ∃ (rv : Value) (k : List Int) (o n : Nat), v = .agg (ringA rv o n) ∧ SlAt W rv k ∧ (∀ x ∈ k, 0 ≤ x ∧ x < 256) ∧ k.length ≤ maxLen ∧ o < 18446744073709551616 ∧ n < 18446744073709551616 := by
  obtain ⟨cs, rfl, h2⟩ := okWide_struct Tryd.underlying25 hval
  obtain ⟨fuel, hf⟩ := h0
  obtain ⟨xs, k, hk, _, hlen, hxl, hf⟩ := DataW.trod_struct Tryd.underlying25 hf
  rw [show Tryd.prog.cellsOf 25 = 3 by kernel_rfl] at hlen
  obtain ⟨l⟩ := cs
  simp only [Value.cells] at hlen hf
  match l, hlen with
  | [c0, c1, c2], _ =>
    match xs, hxl with
    | [y0, y1, y2], _ =>
      have g0 := hf 0 _ rfl
      have g1 := hf 1 _ rfl
      have g2 := hf 2 _ rfl
      have cu : Tryd.prog.cellsOf 23 = 1 := by kernel_rfl
      have cb : Tryd.prog.cellsOf 22 = 1 := by kernel_rfl
      simp only [List.getElem?_cons_zero, List.getElem?_cons_succ] at g0 g1 g2
      obtain ⟨ks, q1, q2, q3⟩ := bytes_cellT g0
      obtain ⟨a1, e1, _, w1⟩ := DataW.trod_int Tryd.underlying23 g1
      obtain ⟨a2, e2, _, w2⟩ := DataW.trod_int Tryd.underlying23 g2
      injection e1 with e1
      injection e2 with e2
      subst e1 e2
      simp [Lit.wf, IntKind.min, IntKind.max, IntKind.signed, IntKind.bits] at w1 w2
      refine ⟨c0, ks, a1.toNat, a2.toNat, ?_, q1, q2, q3, by omega, by omega⟩
      simp only [ringA]
      rw [show ((a1.toNat : Nat) : Int) = a1 by omega, show ((a2.toNat : Nat) : Int) = a2 by omega]
end Go.Proofs.YtaomigfmjglggaaDoor
namespace Go.Proofs.YtaomigfmjglggaaDoor
open Go.RowKit

/-- The ring and the token that were handed in lie in boxes; what was there is there. -/
structure LW (w : World) (rv : Value) (k : List Int) (o n : Nat) (t : Tk) (W : World) : Prop where
  r : RBox W w.heap.size rv o n
  x : TBox W (w.heap.size + 1) t
  s : SlAt W rv k
  b : Below w.heap.size w W
theorem LW.next {w : World} {rv : Value} {k : List Int} {o n : Nat} {t : Tk} {W W' : World} (h : LW w rv k o n t W) (hb : Below W.heap.size W W') : LW w rv k o n t W' := ⟨h.r.next hb, h.x.next hb, h.s.below hb, h.b.trans (hb.mono h.b.size)⟩
theorem LW.first (w : World) (rv : Value) (k : List Int) (o n : Nat) (t : Tk) (hk : SlAt w rv k) : LW w rv k o n t ((w.alloc (.cells (ringA rv o n) 25)).alloc (.cells (tkA t) 31)) := by
  have hx := TBox.new (w.alloc (.cells (ringA rv o n) 25)) t
  rw [show (w.alloc (.cells (ringA rv o n) 25)).heap.size = w.heap.size + 1 from by simp] at hx
  have hb : Below w.heap.size w ((w.alloc (.cells (ringA rv o n) 25)).alloc (.cells (tkA t) 31)) := ((Below.refl w.heap.size w).alloc (Nat.le_refl _) _).alloc (by simp) _
  exact ⟨(RBox.new w rv o n).alloc _, hx, hk.below hb, hb⟩
theorem below_pair (w3 : World) (t u : Tk) : Below w3.heap.size w3 ((w3.alloc (.cells (tkA t) 31)).setRow w3.heap.size (tkA u)) := below_setRow ((Below.refl _ _).alloc (Nat.le_refl _) _) (Nat.le_refl _) _
theorem wpList_store_tk_new {ops : Array Oper} {rest : List Oper} {op : Oper} {a : Act} {w : World} {Q : Exit → Act → World → Prop} (hgd : op.guard = none) (x y : Operand) (ho : op.op = .store 31 x y) (g : Nat) (u : Tk) (hx : a.eval x = .pointer (some ⟨g, 0, none⟩)) (hy : a.eval y = .agg (tkA u)) (t : Tk) (hm : t.mac.length = 32) (hu : u.mac.length = 32) (ht : TBox w g t)
    (Post : World → Prop) (hp : Post (w.setRow g (tkA u))) (h : ∀ w', Post w' → wpList Tryd.prog ops Q rest (a.put op.dst undef) w') : wpList Tryd.prog ops Q (op :: rest) a w :=
  wpList_store_tk hgd x y ho g u hx hy t hm hu ht (h _ hp)
theorem issT_len (k : List Int) (o n : Nat) (ns sa : ByteArray) (uid : Nat) (host : Int) (addr now : Nat) : (issT k o n ns sa uid host addr now).mac.length = 32 := by
  unfold issT
  split
  · rw [signT_mac]; exact length_sigS _ _
  · exact tk0_len
theorem tk0_ok : tk0.ok := ⟨by decide, by decide, by decide, by decide, by decide, by decide, by decide, by decide, by decide, rfl, fun x hx => by rw [List.eq_of_mem_replicate (n := 32) hx]; omega⟩
theorem issT_ok {k : List Int} {o n : Nat} {ns sa : ByteArray} {uid : Nat} {host : Int} {addr now : Nat} (h : IssOk ns sa uid host addr now n) : (issT k o n ns sa uid host addr now).ok := by
  unfold issT
  split
  · exact signT_ok h.tok k
  · exact tk0_ok
theorem Tk.pre.iss {t : Tk} (h : t.pre) (h1 : t.ns.size ≤ 300) (h2 : t.sa.size ≤ 300) {now n : Nat} (hn : now < 18446744073709551616) (hnn : n < 18446744073709551616) : IssOk t.ns t.sa t.uid t.host t.addr now n := ⟨by omega, by omega, h.uid, h.host1, h.host2, h.addr, hn, hnn⟩
end Go.Proofs.YtaomigfmjglggaaDoor
