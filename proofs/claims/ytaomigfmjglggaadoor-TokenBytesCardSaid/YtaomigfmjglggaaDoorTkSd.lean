/- What is said of a token: the program's. Tokens' boxes, read and written; rows that grow by a string. The document's short numbers, behind bytes. What is said of a token: the document's. -/
import Derived.Test.YtaomigfmjglggaaDoorTkA
import Derived.Test.YtaomigfmjglggaaDoorCdRdr
import Derived.Test.YtaomigfmjglggaaDoorBase
import Derived.Test.YtaomigfmjglggaaDoorSumW
import Derived.Lib.AppendStr
import Derived.Laws.IdiomCopy
import Derived.Test.YtaomigfmjglggaaDoorCdWr
import Derived.Test.YtaomigfmjglggaaDoorMacR
namespace Go.Proofs.YtaomigfmjglggaaDoor
open Go.RowKit

/-- What is said of a token. -/
def saidS (t : Tk) : List Int := ((((([] ++ [1]) ++ textS t.ns) ++ textS t.sa) ++ putS [t.uid, t.host.toNat]) ++ u32S t.addr) ++ putS [t.born, t.til, t.key]
theorem textS_len (s : ByteArray) : (textS s).length ≤ 10 + s.size := by
  have := uintS_len s.size
  rw [textS, List.length_append, length_bytesOf]
  omega
theorem u32S_len (x : Nat) : (u32S x).length = 4 := length_u32T x 4
theorem mayT_parts {t : Tk} (h : mayT t = true) : t.ns.size ≤ 20 ∧ t.sa.size ≤ 20 ∧ 1 ≤ t.ns.size ∧ 1 ≤ t.sa.size ∧ (1 ≤ t.uid ∧ t.uid ≤ most) ∧ (1 ≤ t.host ∧ t.host ≤ 9) ∧ t.born < t.til ∧ t.til ≤ most ∧ 1 ≤ t.key ∧ t.key ≤ most := by
  unfold mayT mayN cntB at h
  simp only [Bool.and_eq_true, decide_eq_true_eq] at h
  obtain ⟨⟨⟨⟨⟨⟨h1, h2⟩, h3, h4⟩, h5, h6⟩, h7⟩, h8⟩, h9, h10⟩ := h
  have a1 := labelS_len h1
  have a2 := labelS_len h2
  rw [size_list] at a1 a2
  exact ⟨a1.2, a2.2, a1.1, a2.1, ⟨h3, h4⟩, ⟨h5, h6⟩, h7, h8, h9, h10⟩
theorem saidS_len {t : Tk} (h : mayT t = true) : (saidS t).length ≤ 200 := by
  obtain ⟨h1, h2, _⟩ := mayT_parts h
  have a1 := textS_len t.ns
  have a2 := textS_len t.sa
  have a3 := putS_len [t.uid, t.host.toNat]
  have a4 := putS_len [t.born, t.til, t.key]
  simp only [saidS, List.length_append, u32S_len, List.length_cons, List.length_nil] at *
  omega

set_option maxRecDepth 100000 in
set_option maxHeartbeats 2000000 in
theorem said_any (t : Tk) (hm : mayT t = true) (w : World) (ht : Tab w) : Calls Tryd.prog 38 #[.agg (tkA t)] w (fun e w' => ∃ v, e = .returned v ∧ Row w' w.heap.size v (saidS t) ∧ Below w.heap.size w w') := by
  have HT := hide ht
  have hw2 := ht.two
  have HS : Hid (saidS t = ((((([] ++ [1]) ++ textS t.ns) ++ textS t.sa) ++ putS [t.uid, t.host.toNat]) ++ u32S t.addr) ++ putS [t.born, t.til, t.key]) := hide rfl
  have HL := hide (saidS_len hm)
  have L1 := hide (textS_len t.ns)
  have L2 := hide (textS_len t.sa)
  have L3 := hide (putS_len [t.uid, t.host.toNat])
  have HBX := hide (TBox.new w t)
  have HC0 := hide ((Below.refl w.heap.size w).alloc (Nat.le_refl _) (.cells (tkA t) 31))
  have HP := hide (mayT_parts hm)
  obtain ⟨ns, sa, uid, host, addr, born, til, key, mac⟩ := t
  have h1 := HP.out.2.2.2.2.2.1.1
  have h2 := HP.out.2.2.2.2.2.1.2
  dsimp only at h1 h2
  obtain ⟨hh, rfl⟩ : ∃ hh : Nat, host = (hh : Nat) := ⟨host.toNat, by omega⟩
  have hwh : IntKind.u64.wrap (hh : Int) = hh := IntWalk.u64_in _ (by omega)
  dsimp only at HS L1 L2 L3
  rw [Int.toNat_natCast] at HS L3
  clear h1 h2
  generalize saidS ⟨ns, sa, uid, (hh : Nat), addr, born, til, key, mac⟩ = R at HS HL ⊢
  obtain ⟨W0, hW0⟩ : ∃ W0, W0 = w.alloc (.cells (tkA ⟨ns, sa, uid, (hh : Nat), addr, born, til, key, mac⟩) 31) := ⟨_, rfl⟩
  have hs0 : w.heap.size + 1 = W0.heap.size := by rw [hW0]; simp
  rw [← hW0] at HBX HC0
  have HD0 := hide (Below.refl W0.heap.size W0)
  clear ht hm
  generalize hTA : tkA ⟨ns, sa, uid, (hh : Nat), addr, born, til, key, mac⟩ = TA at hW0 ⊢
  clear hTA
  go_enter Tryd.func38, Tryd.ntmps38
  go_wp2_with fail
  rw [← hW0]
  clear hW0
  refine (newWriter_iv W0).mono ?_
  rintro e W1 ⟨gw, rfl, hB, hN⟩
  have hs1 := hB.size
  have Hw1 := hide hN
  have HD1 := hide hB
  have HX1 := hide (HBX.out.next hB)
  clear hB hN HBX HD0
  go_wp2_with fail
  refine (u8_any 1 W1 _ (iv _ W1.heap.size) _ _ Hw1.out (by simp)).mono ?_
  intro e W2 hp
  obtain ⟨rfl, hs2, hK, hN⟩ := hp.iv rfl (by omega)
  clear hp
  have Hw2 := hide hN
  have HD2 := hide (hK.through HD1.out (fun k h => by simp only [iv] at h; omega) (by omega))
  have HX2 := hide (HX1.out.keep hK (fun h => by have := HC0.out; simp only [iv] at h; omega))
  clear hN hK Hw1 HD1 HX1
  have x0 := HX2.out.c0
  go_wp2_with fail
  clear x0
  refine (text_any ns W2 _ (iv _ W2.heap.size) _ _ (HT.out.below (HC0.out.trans (HD2.out.mono HC0.out.size)) HT.out.two) (by omega) Hw2.out (by have := HP.out.1; simp; omega) (by have := HP.out.1; unfold maxLen; omega)).mono ?_
  intro e W3 hp
  obtain ⟨rfl, hs3, hK, hN⟩ := hp.iv rfl (by omega)
  clear hp
  have Hw3 := hide hN
  have HD3 := hide (hK.through HD2.out (fun k h => by simp only [iv] at h; omega) (by omega))
  have HX3 := hide (HX2.out.keep hK (fun h => by have := HC0.out; simp only [iv] at h; omega))
  clear hN hK Hw2 HD2 HX2
  have x1 := HX3.out.c1
  go_wp2_with fail
  clear x1
  refine (text_any sa W3 _ (iv _ W3.heap.size) _ _ (HT.out.below (HC0.out.trans (HD3.out.mono HC0.out.size)) HT.out.two) (by omega) Hw3.out (by have := HP.out.1; have := HP.out.2.1; have := L1.out; (try dsimp only at *); simp; omega) (by have := HP.out.2.1; unfold maxLen; omega)).mono ?_
  intro e W4 hp
  obtain ⟨rfl, hs4, hK, hN⟩ := hp.iv rfl (by omega)
  clear hp
  have Hw4 := hide hN
  have HD4 := hide (hK.through HD3.out (fun k h => by simp only [iv] at h; omega) (by omega))
  have HX4 := hide (HX3.out.keep hK (fun h => by have := HC0.out; simp only [iv] at h; omega))
  clear hN hK Hw3 HD3 HX3
  have x2 := HX4.out.c2
  have x3 := HX4.out.c3
  go_wp2_with fail
  clear x2 x3
  refine (put_lit [uid, hh] W4 _ _ _ (HT.out.below (HC0.out.trans (HD4.out.mono HC0.out.size)) HT.out.two) (by omega) Hw4.out (by have h1 := HP.out; unfold most at h1; (try dsimp only at h1); intro x hx; simp at hx; omega) (by have := HP.out.1; have := HP.out.2.1; have := L1.out; have := L2.out; (try dsimp only at *); simp; omega)).mono ?_
  intro e W5 hp
  obtain ⟨rfl, hs5, hK, hN⟩ := hp.iv rfl (by omega)
  clear hp
  have Hw5 := hide hN
  have HD5 := hide (hK.through HD4.out (fun k h => by simp only [iv] at h; omega) (by omega))
  have HX5 := hide (HX4.out.keep hK (fun h => by have := HC0.out; simp only [iv] at h; omega))
  clear hN hK Hw4 HD4 HX4
  have x4 := HX5.out.c4
  go_wp2_with fail
  clear x4
  refine (u32_any addr W5 _ (iv _ W5.heap.size) _ _ (HT.out.below (HC0.out.trans (HD5.out.mono HC0.out.size)) HT.out.two) Hw5.out (by have := HP.out.1; have := HP.out.2.1; have := L1.out; have := L2.out; have := L3.out; (try dsimp only at *); simp at *; omega)).mono ?_
  intro e W6 hp
  obtain ⟨rfl, hs6, hK, hN⟩ := hp.iv rfl (by omega)
  clear hp
  have Hw6 := hide hN
  have HD6 := hide (hK.through HD5.out (fun k h => by simp only [iv] at h; omega) (by omega))
  have HX6 := hide (HX5.out.keep hK (fun h => by have := HC0.out; simp only [iv] at h; omega))
  clear hN hK Hw5 HD5 HX5
  have x5 := HX6.out.c5
  have x6 := HX6.out.c6
  have x7 := HX6.out.c7
  go_wp2_with fail
  clear x5 x6 x7
  refine (put_lit [born, til, key] W6 _ _ _ (HT.out.below (HC0.out.trans (HD6.out.mono HC0.out.size)) HT.out.two) (by omega) Hw6.out (by have h1 := HP.out; unfold most at h1; (try dsimp only at h1); intro x hx; simp at hx; omega) (by have := HP.out.1; have := HP.out.2.1; have := L1.out; have := L2.out; have := L3.out; have := u32S_len addr; (try dsimp only at *); simp at *; omega)).mono ?_
  intro e W7 hp
  obtain ⟨rfl, hs7, hK, hN⟩ := hp.iv rfl (by omega)
  clear hp
  have Hw7 := hide hN
  have HD7 := hide (hK.through HD6.out (fun k h => by simp only [iv] at h; omega) (by omega))
  have HX7 := hide (HX6.out.keep hK (fun h => by have := HC0.out; simp only [iv] at h; omega))
  clear hN hK Hw6 HD6 HX6
  rw [← HS.out] at Hw7
  go_wp2_with fail
  refine (bytes_any W7 _ _ _ _ Hw7.out (by have := HL.out; omega)).mono ?_
  rintro e W8 ⟨v, rfl, hR, hB⟩
  have HR := hide (hR.base (show w.heap.size ≤ _ by omega))
  have HF := hide ((HC0.out.trans (HD7.out.mono HC0.out.size)).trans (hB.mono (by omega)))
  clear hR hB Hw7 HD7 HX7
  go_wp2_with fail
  go_ret
  exact ⟨_, rfl, HR.out, HF.out⟩
end Go.Proofs.YtaomigfmjglggaaDoor
namespace Go.Proofs.YtaomigfmjglggaaDoor
open Go.RowKit Go.Lib

theorem heap_setCells (g : Nat) (t : TypeId) : ∀ (vs : List Value) (o : Nat) (w : World) (cs : Array Value), w.heap[g]? = some (.cells cs t (0, 0)) → o + vs.length ≤ cs.size →
    (w.setCells g o vs).heap[g]? = some (.cells (cs.toList.take o ++ vs ++ cs.toList.drop (o + vs.length)).toArray t (0, 0))
  | [], o, w, cs, h, _ => by simp [World.setCells, h]
  | v :: r, o, w, cs, h, hl => by
    rw [World.setCells]
    have h1 : (w.setCell ⟨g, o, none⟩ v).heap[g]? = some (.cells (cs.setIfInBounds o v) t (0, 0)) := heap_setCell_same w g o cs t v h
    simp only [List.length_cons] at hl
    rw [heap_setCells g t r (o + 1) _ _ h1 (by simp; omega)]
    congr 2
    apply Array.ext'
    have ho : o < cs.toList.length := by rw [Array.length_toList]; omega
    simp only [Array.toList_setIfInBounds, List.length_cons]
    have e1 : (cs.toList.set o v).take (o + 1) = cs.toList.take o ++ [v] := by
      rw [List.take_succ_eq_append_getElem (by rw [List.length_set]; exact ho), List.take_set_of_le (Nat.le_refl _), List.getElem_set_self]
    have e2 : (cs.toList.set o v).drop (o + 1 + r.length) = cs.toList.drop (o + (r.length + 1)) := by
      rw [List.drop_set_of_lt (by omega), show o + 1 + r.length = o + (r.length + 1) by omega]
    rw [e1, e2]
    simp

theorem setCells_other {w : World} {g o : Nat} {vs : List Value} (k : Nat) (h : k ≠ g) : (w.setCells g o vs).heap[k]? = w.heap[k]? := by
  induction vs generalizing w o with
  | nil => rfl
  | cons v r ih => rw [World.setCells, ih]; exact heap_setCell_other w ⟨g, o, none⟩ k v h
theorem setCells_size {w : World} {g o : Nat} {vs : List Value} : (w.setCells g o vs).heap.size = w.heap.size := by
  induction vs generalizing w o with
  | nil => rfl
  | cons v r ih => rw [World.setCells, ih]; simp [World.setCell]
theorem below_setCells {B : Nat} {a w : World} (h : Below B a w) {g o : Nat} (hg : B ≤ g) (vs : List Value) : Below B a (w.setCells g o vs) := by
  induction vs generalizing w o with
  | nil => exact h
  | cons v r ih => rw [World.setCells]; exact ih (h.setCell (p := ⟨g, o, none⟩) hg v)

theorem sz32l (l : List Int) (h : l.length = 32) : (Tryd.prog.info? 29).map (·.size) = some (l.map (Value.int .u8)).length := by rw [List.length_map, h]; exact size36
theorem agg_mac (l : List Int) : Value.agg (l.map (Value.int .u8)).toArray = .agg (cellsOf .u8 l) := by rw [← toArray_cellsOf]
theorem TBox.range {W : World} {g : Nat} {t : Tk} (h : TBox W g t) : W.rangeAt g 0 (tkC t) := fun j v hv => by
  rw [h.cell (0 + j), Nat.zero_add]; exact hv
theorem tkC_len {t : Tk} (h : t.mac.length = 32) : (tkC t).length = 40 := by simp [tkC, h]
theorem TBox.setMac {W : World} {g : Nat} {t : Tk} (h : TBox W g t) (hm : t.mac.length = 32) (m : List Int) (hl : m.length = 32) : TBox (W.setCells g 8 (m.map (.int .u8))) g { t with mac := m } := by
  unfold TBox
  rw [heap_setCells g _ _ 8 W _ h (by rw [tkA_size t hm, List.length_map, hl]; omega)]
  congr 2
  apply Array.ext'
  simp [tkA, tkC, hl, hm]
theorem TBox.there {W : World} {g : Nat} {t : Tk} (h : TBox W g t) (hm : t.mac.length = 32) (o n : Nat) (ho : o + n ≤ 40) : W.there g o n := fun j hj => by
  refine ⟨?_, ?_⟩
  · rw [h.cell (o + j), List.getElem?_eq_getElem (by rw [tkC_len hm]; omega)]; rfl
  · have h2 : W.heap[g]? = _ := h
    simp [World.frozen?, h2]
theorem TBox.setC {W : World} {g : Nat} {t u : Tk} (h : TBox W g t) (i : Nat) (v : Value) (he : (tkC t).set i v = tkC u) : TBox (W.setCell ⟨g, i, none⟩ v) g u := by
  unfold TBox
  rw [heap_setCell_same W g i _ _ v h]
  congr 2
  apply Array.ext'
  simp [tkA, he]
theorem TBox.free {W : World} {g : Nat} {t : Tk} (h : TBox W g t) (i : Nat) : W.frozen? ⟨g, i, none⟩ = false := by
  have h2 : W.heap[g]? = _ := h
  simp [World.frozen?, h2]
theorem TBox.heap {W : World} {g : Nat} {t : Tk} (h : TBox W g t) : W.heap[g]? = some (.cells (tkA t) 31 (0, 0)) := h
theorem TBox.row {W : World} {g : Nat} {t u : Tk} (h : TBox W g t) : TBox (W.setRow g (tkA u)) g u := setRow_heap W g _ _ _ (0, 0) h

section
variable {ops : Array Oper} {rest : List Oper} {op : Oper} {a : Act} {w : World} {Q : Exit → Act → World → Prop}
theorem wpList_load_tk (hgd : op.guard = none) (x : Operand) (ho : op.op = .load 31 x) (g : Nat) (hx : a.eval x = .pointer (some ⟨g, 0, none⟩)) (t : Tk) (hm : t.mac.length = 32) (ht : TBox w g t)
    (h : wpList Tryd.prog ops Q rest (a.put op.dst (.agg (tkA t))) w) : wpList Tryd.prog ops Q (op :: rest) a w :=
  wpList_load_row hgd _ x ho g hx _ _ (0, 0) _ ht.heap Tryd.underlying31 rfl (szTk t hm) h
theorem wpList_load_tk_w (hw : Region.wanted op (yielded ops a.tmps) = true) (x : Operand) (ho : op.op = .load 31 x) (g : Nat) (hx : a.eval x = .pointer (some ⟨g, 0, none⟩)) (t : Tk) (hm : t.mac.length = 32) (ht : TBox w g t)
    (h : wpList Tryd.prog ops Q rest (a.put op.dst (.agg (tkA t))) w) : wpList Tryd.prog ops Q (op :: rest) a w :=
  wpList_load_row_w hw _ x ho g hx _ _ (0, 0) _ ht.heap Tryd.underlying31 rfl (szTk t hm) h
theorem wpList_load_mac (hgd : op.guard = none) (x : Operand) (ho : op.op = .load 29 x) (g : Nat) (hx : a.eval x = .pointer (some ⟨g, 8, none⟩)) (t : Tk) (hm : t.mac.length = 32) (ht : TBox w g t)
    (h : wpList Tryd.prog ops Q rest (a.put op.dst (.agg (cellsOf .u8 t.mac))) w) : wpList Tryd.prog ops Q (op :: rest) a w :=
  wpList_load_mid hgd _ x ho g 8 hx _ _ ht.mac Tryd.underlying29 rfl (sz32l _ hm) (by rw [agg_mac]; exact h)
theorem wpList_store_tk (hgd : op.guard = none) (x y : Operand) (ho : op.op = .store 31 x y) (g : Nat) (u : Tk) (hx : a.eval x = .pointer (some ⟨g, 0, none⟩)) (hy : a.eval y = .agg (tkA u)) (t : Tk) (hm : t.mac.length = 32) (hu : u.mac.length = 32) (ht : TBox w g t)
    (h : wpList Tryd.prog ops Q rest (a.put op.dst undef) (w.setRow g (tkA u))) : wpList Tryd.prog ops Q (op :: rest) a w :=
  wpList_store_row hgd _ x y ho g _ hx hy _ _ ht.heap (szTk u hu) (tkA_same hm hu) (tkA_one u) h
theorem wpList_alloc_tk (hgd : op.guard = none) (ho : op.op = .alloc 31)
    (h : wpList Tryd.prog ops Q rest (a.put op.dst (.pointer (some ⟨w.heap.size, 0, none⟩))) (w.alloc (.cells (tkA tk0) 31))) : wpList Tryd.prog ops Q (op :: rest) a w :=
  wpList_alloc_row hgd _ ho (tkA tk0) zeroTk h
end
theorem results_tk {fn : Func} {p : Tmp} (h : fn.results = #[.cell p 31]) (tmps : Array Value) (w : World) (g : Nat) (hp : tmps.getD p undef = .pointer (some ⟨g, 0, none⟩)) (t : Tk) (hm : t.mac.length = 32) (ht : TBox w g t) :
    (results fn tmps).run Tryd.prog w = .ok (.agg (tkA t)) w := results_cell_row h tmps w g _ _ (0, 0) _ hp ht.heap Tryd.underlying31 rfl (szTk t hm)

theorem yields_tk {ops : Array Oper} {S : World → Prop} {op : Oper} {a : Act} (hw : Region.wanted op (yielded ops a.tmps) = true) (x : Operand) (ho : op.op = .load 31 x)
    (g : Nat) (hx : a.eval x = .pointer (some ⟨g, 0, none⟩)) (t : Tk) (hm : t.mac.length = 32) (hS : ∀ w, S w → TBox w g t) : YieldsIf Tryd.prog ops S op (.agg (tkA t)) a :=
  yieldsIf_load_mid hw _ x ho g 0 hx (tkC t) _ (fun w h => (hS w h).range) Tryd.underlying31 rfl (by rw [tkC_len hm]; exact sizeTk)
theorem yields_mac {ops : Array Oper} {S : World → Prop} {op : Oper} {a : Act} (hw : Region.wanted op (yielded ops a.tmps) = true) (x : Operand) (ho : op.op = .load 29 x)
    (g : Nat) (hx : a.eval x = .pointer (some ⟨g, 8, none⟩)) (t : Tk) (hm : t.mac.length = 32) (hS : ∀ w, S w → TBox w g t) : YieldsIf Tryd.prog ops S op (.agg (cellsOf .u8 t.mac)) a :=
  yieldsIf_load_mid hw _ x ho g 8 hx (t.mac.map (.int .u8)) _ (fun w h => (hS w h).mac) Tryd.underlying29 rfl (by rw [List.length_map, hm]; exact size36)

theorem strCells_bytes (s : ByteArray) : strCells s = (bytesOf s).map (.int .u8) := by
  simp [strCells, bytesOf]
/-- An append, by a string, to a row of the call's own. -/
theorem append_rowS (W : World) (B : Nat) (v : Value) (xs : List Int) (h : Row W B v xs) (s : ByteArray) (hb : xs.length + s.size ≤ 140737488355328) (hB : B ≤ W.heap.size) :
    ∃ v' w', (Builtin.append_ #[22, 9] 22 #[v, .string s]).run Tryd.prog W = .ok v' w' ∧ Row w' B v' (xs ++ bytesOf s) ∧ Below B W w' := by
  obtain ⟨i0, hi, hz0, hz1, hz2⟩ := info_parts Tryd.info5
  obtain ⟨v', w', hrun, hown, hgr, _⟩ := run_append_own_string (P := Tryd.prog) W B 22 9 22 5 i0 Tryd.underlying22 Tryd.underlying9 hi hz0 hz1 hz2 v xs.length _ h s (by unfold maxLen; omega) hb hB
  refine ⟨v', w', hrun, ?_, (Below.refl B W).grown hgr hB (fun k hk => h.ge hk)⟩
  unfold Row
  rw [List.length_append, length_bytesOf, List.map_append, ← strCells_bytes]
  exact hown
/-- An append, by what reads as bytes, to a row of the call's own. -/
theorem append_rowB (W : World) (B : Nat) (v : Value) (xs : List Int) (h : Row W B v xs) (sv : Value) (ys : List Int) (hs : SlAt W sv ys) (hb : xs.length + ys.length ≤ 140737488355328) (hB : B ≤ W.heap.size) :
    ∃ v' w', (Builtin.append_ #[22, 22] 22 #[v, sv]).run Tryd.prog W = .ok v' w' ∧ Row w' B v' (xs ++ ys) ∧ Below B W w' := by
  obtain ⟨v', w', hrun, hrow, hp⟩ := append_row W B v xs h sv ys hs hb hB
  exact ⟨v', w', hrun, hrow, hp.below _ _ (Below.refl _ _) hB (fun k hk => h.ge hk)⟩
end Go.Proofs.YtaomigfmjglggaaDoor
namespace Go.Proofs.YtaomigfmjglggaaDoor
open Go.RowKit

theorem pow7s (k : Nat) : 2 ^ (7 * (k + 1)) = 2 ^ (7 * k) * 128 := by rw [Nat.mul_add, Nat.pow_add]
theorem uintS_lows (x : Nat) : ∀ k, k ≤ 9 → (∀ j, j < k → 128 ≤ x / 2 ^ (7 * j)) → uintS x = lowB x k ++ uintF (9 - k) (x / 2 ^ (7 * k))
  | 0, _, _ => by simp [uintS, lowB]
  | k + 1, hk, h => by
    rw [uintS_lows x k (by omega) (fun j hj => h j (by omega)), show 9 - k = (9 - (k + 1)) + 1 by omega, uintF_step _ x k (h k (by omega)), lowB_succ, List.append_assoc]
    rfl
theorem and127s (x : Nat) (h : x < 18446744073709551616) : bits BinOp.and IntKind.u64 (x : Int) 127 = ((x % 128 : Nat) : Int) := by
  have := (bits_nat .u64 64 (by decide) wraps_u64 x 127 (by omega) (by omega)).1
  rw [show ((127 : Nat) : Int) = 127 from rfl] at this
  rw [this]
  congr 1
  exact Nat.and_two_pow_sub_one_eq_mod x 7
theorem or128s (x : Nat) (h : x < 128) : bits BinOp.or IntKind.u64 (x : Int) 128 = ((x + 128 : Nat) : Int) := by
  have := (bits_nat .u64 64 (by decide) wraps_u64 x 128 (by omega) (by omega)).2
  rw [show ((128 : Nat) : Int) = 128 from rfl] at this
  rw [this]
  congr 1
  have h2 : 128 + x = 128 ||| x := by simpa using Nat.two_pow_add_eq_or_of_lt (i := 7) h 1
  rw [Nat.or_comm, ← h2, Nat.add_comm]
theorem fdiv7s (y : Nat) : (y : Int).fdiv (2 ^ min (Int.toNat 7) IntKind.u64.bits) = ((y / 128 : Nat) : Int) := by
  rw [show (2 : Int) ^ min (Int.toNat 7) IntKind.u64.bits = 128 by decide, Int.fdiv_eq_ediv_of_nonneg _ (by omega)]
  rfl
theorem pow7_hi (k : Nat) (h : 9 ≤ k) : 9223372036854775808 ≤ 2 ^ (7 * k) := by
  have := Nat.pow_le_pow_right (n := 2) (by omega) (show 63 ≤ 7 * k by omega)
  omega
theorem low_k {x k : Nat} (hx : x < 18446744073709551616) (h : 128 ≤ x / 2 ^ (7 * k)) : k ≤ 8 := by
  rcases Nat.lt_or_ge 8 k with hk | hk
  · have h1 := pow7_hi k hk
    have h2 := Nat.div_le_div_left h1 (by omega) (a := x)
    omega
  · exact hk

set_option maxRecDepth 100000 in
set_option maxHeartbeats 1000000 in
theorem short_any (bv : Value) (xs : List Int) (x : Nat) (w : World) (B : Nat) (hx : x < 18446744073709551616) (hr : Row w B bv xs) (hl : xs.length ≤ 1000000) (hB : B ≤ w.heap.size) :
    Calls Tryd.prog 59 #[bv, .int .u64 x] w (fun e w' => ∃ v, e = .returned v ∧ Row w' B v (xs ++ uintS x) ∧ Below B w w') := by
  have HB := hide hB
  have HR := hide hr
  clear hr
  go_enter Tryd.func59, Tryd.ntmps59
  go_wp2_with fail
  go_loopw [0, 1] (fun b n wr => ∃ k : Nat, k ≤ 9 ∧ n = .int .u64 ((x / 2 ^ (7 * k) : Nat)) ∧ (∀ j, j < k → 128 ≤ x / 2 ^ (7 * j)) ∧ Row wr B b (xs ++ lowB x k) ∧ Below B w wr)
    (fun _ n _ => (intOf n).toNat)
  case atStart => exact ⟨0, by omega, by simp, fun j h => absurd h (Nat.not_lt_zero j), by simpa [lowB] using HR.out, Below.refl _ _⟩
  case round =>
    obtain ⟨k, hk, rfl, hlow, hrow, hbel⟩ := hrel
    have hyx : x / 2 ^ (7 * k) ≤ x := Nat.div_le_self _ _
    have hnext : x / 2 ^ (7 * (k + 1)) = x / 2 ^ (7 * k) / 128 := by rw [pow7s, Nat.div_div_eq_div_mul]
    have hlen : Hid ((xs ++ lowB x k).length = xs.length + k) := hide (by rw [List.length_append, length_lowB])
    obtain ⟨q, hq⟩ : ∃ q, q = (xs ++ lowB x k).length := ⟨_, rfl⟩
    obtain ⟨a6, c6, hv⟩ := hrow.slAt.len
    rw [← hq] at hv
    subst hv
    have HQ := hide hq
    clear hq
    by_cases hlt : 128 ≤ x / 2 ^ (7 * k)
    · have hk8 := low_k hx hlt
      have hsucc := lowB_succ x k
      have hlow2 : Hid (∀ j, j < k + 1 → 128 ≤ x / 2 ^ (7 * j)) := hide (fun j hj => by
        rcases Nat.lt_succ_iff_lt_or_eq.1 hj with h | rfl
        · exact hlow j h
        · exact hlt)
      obtain ⟨y, hy⟩ : ∃ y, x / 2 ^ (7 * k) = y := ⟨_, rfl⟩
      rw [hy] at hyx hnext hsucc hlt ⊢
      have HY := hide hy
      have HN := hide hnext
      have hs := Nat.le_trans HB.out hbel.size
      obtain ⟨v2, w2, hrun, hrow2, hp⟩ := append_row _ _ _ _ (hrow.alloc (.cells #[.int .u8 ((y % 128 + 128 : Nat))] 5)) (.slice (some ⟨wr.heap.size, 0, none⟩) 1 1) [((y % 128 + 128 : Nat) : Int)] (slAt_blkN (Blk.new wr 5 .u8 [((y % 128 + 128 : Nat) : Int)]) rfl) (by rw [hlen.out]; simp; omega) (by simp; omega)
      rw [List.append_assoc, ← hsucc] at hrow2
      have HB2 : Hid (Below B w w2) := hide (hp.below _ _ (hbel.alloc hs _) (by simp; omega) (fun x hx => hrow.ge hx))
      have HR2 := hide hrow2
      have ho : bits BinOp.or IntKind.u64 ((y : Int) % 128) 128 = ((y % 128 + 128 : Nat) : Int) := by
        have := or128s (y % 128) (by omega)
        rwa [show ((y % 128 : Nat) : Int) = (y : Int) % 128 from by omega] at this
      have ha : bits BinOp.and IntKind.u64 (y : Int) 127 = (y : Int) % 128 := by
        rw [and127s y (by omega)]; omega
      have hfd := fdiv7s y
      have hlt2 : decide ((128 : Int) ≤ (y : Int)) = true := decide_eq_true (by omega)
      clear hrow hbel hy hnext hsucc hrow2 hp hlow hlen
      obtain ⟨z, hz⟩ : ∃ z, z = y % 128 + 128 := ⟨_, rfl⟩
      have hc : (z : Int) % 256 = (z : Int) := by omega
      rw [← hz] at ho hrun
      clear hz
      go_wp2_with (first
        | (at_builtin; with_reducible refine wpList_append_run rfl (.tmp 7) (.tmp 12) 22 22 22 rfl rfl (.slice a6 q c6) (.slice (some ⟨wr.heap.size, 0, none⟩) 1 1) v2 w2 rfl rfl hrun ?_))
      go_roundw
      case rel => exact ⟨k + 1, by omega, by rw [HN.out]; go_num, hlow2.out, HR2.out, HB2.out⟩
      case measure => simp [intOf]; omega
    · have hk9 := hk
      have he := uintS_lows x k hk hlow
      rw [uintF_end _ _ (by omega)] at he
      obtain ⟨y, hy⟩ : ∃ y, x / 2 ^ (7 * k) = y := ⟨_, rfl⟩
      rw [hy] at hyx hnext he hlt ⊢
      have hs := Nat.le_trans HB.out hbel.size
      obtain ⟨v2, w2, hrun, hrow2, hp⟩ := append_row _ _ _ _ (hrow.alloc (.cells #[.int .u8 (y : Nat)] 5)) (.slice (some ⟨wr.heap.size, 0, none⟩) 1 1) [((y : Nat) : Int)] (slAt_blkN (Blk.new wr 5 .u8 [((y : Nat) : Int)]) rfl) (by rw [hlen.out]; simp; omega) (by simp; omega)
      rw [List.append_assoc, ← he] at hrow2
      have HB2 : Hid (Below B w w2) := hide (hp.below _ _ (hbel.alloc hs _) (by simp; omega) (fun x hx => hrow.ge hx))
      have HR2 := hide hrow2
      have hc : (y : Int) % 256 = (y : Int) := by omega
      clear hrow hbel hy hnext he hrow2 hp hlow hlen
      go_wp2_with (first
        | (at_builtin; with_reducible refine wpList_append_run rfl (.tmp 16) (.tmp 19) 22 22 22 rfl rfl (.slice a6 q c6) (.slice (some ⟨wr.heap.size, 0, none⟩) 1 1) v2 w2 rfl rfl hrun ?_))
      go_ret
      exact ⟨_, rfl, HR2.out, HB2.out⟩
end Go.Proofs.YtaomigfmjglggaaDoor
namespace Go.Proofs.YtaomigfmjglggaaDoor
open Go.RowKit

theorem TBox.below {B : Nat} {W W' : World} {g : Nat} {t : Tk} (h : TBox W g t) (hb : Below B W W') (hg : g < B) : TBox W' g t := (hb.block g hg).trans h
theorem row_lit (W : World) (xs : List Int) (_ : xs.length ≤ 1000) : Row (W.alloc (.cells (cellsOf .u8 xs) 5)) W.heap.size (.slice (some ⟨W.heap.size, 0, none⟩) xs.length xs.length) xs :=
  ⟨by simp, .inr ⟨W.heap.size, xs.length, cellsOf .u8 xs, rfl, Nat.le_refl _, heap_alloc_new _ _, Nat.le_refl _, by unfold maxLen; omega, by simp [size_cellsOf], by rw [toArray_cellsOf, Nat.mul_one, List.take_of_length_le (by simp)]⟩⟩
theorem u32_four (x : Nat) (_ : x < 4294967296) : u32S x = [(x : Int) % 256, (x : Int) / 256 % 256, (x : Int) / 65536 % 256, (x : Int) / 16777216 % 256] := by
  simp [u32S, u32T, List.range_succ]
set_option maxRecDepth 100000 in
set_option maxHeartbeats 4000000 in
theorem saidR_any (t : Tk) (hk : t.ok) (hm : mayT t = true) (w : World) : Calls Tryd.prog 39 #[.agg (tkA t)] w (fun e w' => ∃ v, e = .returned v ∧ Row w' (w.heap.size + 1) v (saidS t) ∧ Below (w.heap.size + 1) (w.alloc (.cells (tkA t) 31)) w') := by
  have HS : Hid (saidS t = ((((([] ++ [1]) ++ textS t.ns) ++ textS t.sa) ++ putS [t.uid, t.host.toNat]) ++ u32S t.addr) ++ putS [t.born, t.til, t.key]) := hide rfl
  have hL1 := uintS_len t.ns.size
  have hL2 := uintS_len t.sa.size
  have hL3 := uintS_len t.uid
  have hL4 := uintS_len t.host.toNat
  have hL5 := uintS_len t.born
  have hL6 := uintS_len t.til
  have HL := hide (And.intro hL1 (And.intro hL2 (And.intro hL3 (And.intro hL4 (And.intro hL5 hL6)))))
  clear hL1 hL2 hL3 hL4 hL5 hL6
  have HX0 := hide (TBox.new w t)
  obtain ⟨h1, h2, g1, g2, h3, h4, g3, g4, g5⟩ := mayT_parts hm
  clear g1 g2 g3 g4 g5
  obtain ⟨ns, sa, uid, host, addr, born, til, key, mac⟩ := t
  have h5 := hk.uid
  have h6 := hk.addr
  have h7 := hk.born
  have h8 := hk.til
  have h9 := hk.key
  dsimp only at h1 h2 h3 h4 h5 h6 h7 h8 h9 HS HL
  obtain ⟨hh, rfl⟩ : ∃ hh : Nat, host = (hh : Nat) := ⟨host.toNat, by omega⟩
  have hwh : IntKind.u64.wrap (hh : Int) = hh := IntWalk.u64_in _ (by omega)
  have hw1 : IntKind.u64.wrap (ns.size : Int) = ns.size := IntWalk.u64_in _ (by omega)
  have hw2 : IntKind.u64.wrap (sa.size : Int) = sa.size := IntWalk.u64_in _ (by omega)
  rw [Int.toNat_natCast] at HS HL
  have HU := hide (u32_four addr h6)
  rw [HU.out] at HS
  have HH := hide (And.intro h1 (And.intro h2 (And.intro h4.2 (And.intro h5 (And.intro h7 (And.intro h8 h9))))))
  clear hk hm h1 h2 h3 h4 h5 h6 h7 h8 h9
  generalize saidS ⟨ns, sa, uid, (hh : Nat), addr, born, til, key, mac⟩ = R at HS ⊢
  generalize hTA : tkA ⟨ns, sa, uid, (hh : Nat), addr, born, til, key, mac⟩ = TA at HX0 ⊢
  clear hTA
  obtain ⟨W0, hW0⟩ : ∃ W0, W0 = w.alloc (.cells TA 31) := ⟨_, rfl⟩
  have hs0 : w.heap.size + 1 = W0.heap.size := by rw [hW0]; simp
  rw [← hW0] at HX0 ⊢
  have HB0 := hide (Below.refl (w.heap.size + 1) W0)
  generalize hT : (⟨ns, sa, uid, (hh : Nat), addr, born, til, key, mac⟩ : Tk) = T at HX0
  have HW0 := hide hW0
  have HS0 := hide hs0
  clear hW0 hs0
  go_enter Tryd.func39, Tryd.ntmps39
  go_wp2_with fail
  have hW0 := HW0.out
  have hs0 := HS0.out
  clear HW0 HS0
  have ez : (w.alloc (.cells TA 31)).heap.size = w.heap.size + 1 := by simp
  try rw [ez]
  clear ez
  rw [← hW0]
  clear hW0
  have HR1 := hide (row_lit W0 [1] (by simp))
  rw [show cellsOf .u8 [1] = #[.int .u8 1] from rfl] at HR1
  have HB1 := hide (HB0.out.alloc (by omega) (.cells #[.int .u8 1] 5))
  have HX1 := hide (HX0.out.alloc (.cells #[.int .u8 1] 5))
  rw [show ([1] : List Int).length = 1 from rfl, ← hs0] at HR1
  try rw [← hs0]
  obtain ⟨W1, hW1⟩ : ∃ W1, W1 = W0.alloc (.cells #[.int .u8 1] 5) := ⟨_, rfl⟩
  have hs1 : w.heap.size + 1 ≤ W1.heap.size := by rw [hW1]; have := hs0; simp; omega
  rw [← hW1] at HR1 HB1 HX1 ⊢
  clear hW1 HB0 HX0 hs0
  refine wp_region_held_drew (S := fun w' => TBox w' w.heap.size T) (by kernel_rfl) HX1.out.drew (fun hHeld => ?_)
  refine wpAnyH_take (i := 0) (oi := { dst := some 5, op := Op.move (Operand.tmp 3), type := 22, pos := "ref.go:34", after := #[], guard := none }) (v := ?_) rfl (by kernel_rfl) (by kernel_rfl) (by kernel_rfl) (fun _ _ _ h => h) (Or.inl ⟨by rfl, ?_⟩) hHeld ?_
  rotate_left
  · intro w hSw; (try dsimp only at hSw); go_simp; first | done | with_reducible rfl
  try simp only [Act.put, List.setIfInBounds_toArray, List.set_cons_zero, List.set_cons_succ]
  refine wpAnyH_take (i := 1) (oi := { dst := some 6, op := Op.fieldAddr 31 (Operand.tmp 1) 0, type := 0, pos := "ref.go:34", after := #[], guard := none }) (v := ?_) rfl (by kernel_rfl) (by kernel_rfl) (by kernel_rfl) (fun _ _ _ h => h) (Or.inl ⟨by rfl, ?_⟩) hHeld ?_
  rotate_left
  · intro w hSw; (try dsimp only at hSw); go_simp; first | done | with_reducible rfl
  try simp only [Act.put, List.setIfInBounds_toArray, List.set_cons_zero, List.set_cons_succ]
  refine wpAnyH_take (i := 2) (oi := { dst := some 7, op := Op.fieldAddr 27 (Operand.tmp 6) 0, type := 0, pos := "ref.go:34", after := #[{ on := 1, ground := Ground.data }], guard := none }) (v := ?_) rfl (by kernel_rfl) (by kernel_rfl) (by kernel_rfl) (fun _ _ _ h => h) (Or.inl ⟨by rfl, ?_⟩) hHeld ?_
  rotate_left
  · intro w hSw; (try dsimp only at hSw); go_simp; first | done | with_reducible rfl
  try simp only [Act.put, List.setIfInBounds_toArray, List.set_cons_zero, List.set_cons_succ]
  refine wpAnyH_take (i := 3) (oi := { dst := some 8, op := Op.load 9 (Operand.tmp 7), type := 9, pos := "ref.go:34", after := #[{ on := 2, ground := Ground.data }], guard := none }) (v := ?_) rfl (by kernel_rfl) (by kernel_rfl) (by kernel_rfl) (fun _ _ _ h => h) (Or.inl ⟨by rfl, ?_⟩) hHeld ?_
  rotate_left
  · intro w hSw; (try dsimp only at hSw); have e0 := hSw.c0; rw [← hT] at e0; dsimp only at e0; go_simp; first | done | with_reducible rfl
  try simp only [Act.put, List.setIfInBounds_toArray, List.set_cons_zero, List.set_cons_succ]
  refine wpAnyH_take (i := 4) (oi := { dst := some 9, op := Op.call { callee := Callee.builtin Builtin.len, args := #[Operand.tmp 8], argTypes := #[9] }, type := 3, pos := "ref.go:34", after := #[{ on := 3, ground := Ground.data }], guard := none }) (v := ?_) rfl (by kernel_rfl) (by kernel_rfl) (by kernel_rfl) (fun _ _ _ h => h) (Or.inl ⟨by rfl, ?_⟩) hHeld ?_
  rotate_left
  · intro w hSw; (try dsimp only at hSw); go_simp; first | done | with_reducible rfl
  try simp only [Act.put, List.setIfInBounds_toArray, List.set_cons_zero, List.set_cons_succ]
  refine wpAnyH_take (i := 5) (oi := { dst := some 10, op := Op.convert 3 23 (Operand.tmp 9), type := 23, pos := "ref.go:34", after := #[{ on := 4, ground := Ground.data }], guard := none }) (v := ?_) rfl (by kernel_rfl) (by kernel_rfl) (by kernel_rfl) (fun _ _ _ h => h) (Or.inl ⟨by rfl, ?_⟩) hHeld ?_
  rotate_left
  · intro w hSw; (try dsimp only at hSw); go_simp; first | done | with_reducible rfl
  try simp only [Act.put, List.setIfInBounds_toArray, List.set_cons_zero, List.set_cons_succ]
  refine wpAnyH_take (i := 7) (oi := { dst := some 12, op := Op.fieldAddr 31 (Operand.tmp 1) 0, type := 0, pos := "ref.go:34", after := #[], guard := none }) (v := ?_) rfl (by kernel_rfl) (by kernel_rfl) (by kernel_rfl) (fun _ _ _ h => h) (Or.inl ⟨by rfl, ?_⟩) hHeld ?_
  rotate_left
  · intro w hSw; (try dsimp only at hSw); go_simp; first | done | with_reducible rfl
  try simp only [Act.put, List.setIfInBounds_toArray, List.set_cons_zero, List.set_cons_succ]
  refine wpAnyH_take (i := 8) (oi := { dst := some 13, op := Op.fieldAddr 27 (Operand.tmp 12) 0, type := 0, pos := "ref.go:34", after := #[{ on := 7, ground := Ground.data }], guard := none }) (v := ?_) rfl (by kernel_rfl) (by kernel_rfl) (by kernel_rfl) (fun _ _ _ h => h) (Or.inl ⟨by rfl, ?_⟩) hHeld ?_
  rotate_left
  · intro w hSw; (try dsimp only at hSw); go_simp; first | done | with_reducible rfl
  try simp only [Act.put, List.setIfInBounds_toArray, List.set_cons_zero, List.set_cons_succ]
  refine wpAnyH_take (i := 9) (oi := { dst := some 14, op := Op.load 9 (Operand.tmp 13), type := 9, pos := "ref.go:34", after := #[{ on := 8, ground := Ground.data }], guard := none }) (v := ?_) rfl (by kernel_rfl) (by kernel_rfl) (by kernel_rfl) (fun _ _ _ h => h) (Or.inl ⟨by rfl, ?_⟩) hHeld ?_
  rotate_left
  · intro w hSw; (try dsimp only at hSw); have e0 := hSw.c0; rw [← hT] at e0; dsimp only at e0; go_simp; first | done | with_reducible rfl
  try simp only [Act.put, List.setIfInBounds_toArray, List.set_cons_zero, List.set_cons_succ]
  refine wpAnyH_ready (rs := [6]) (by kernel_rfl) (by simp) ?_
  refine AllReadyH.cons (o := { dst := some 11, op := Op.call { callee := Callee.value (Operand.func 59), args := #[Operand.tmp 5, Operand.tmp 10], argTypes := #[22, 23] }, type := 22, pos := "ref.go:34", after := #[{ on := 0, ground := Ground.data }, { on := 5, ground := Ground.data }], guard := none }) rfl (fun K hK => ?_) AllReadyH.nil
  clear hHeld
  go_simp
  refine (short_any (.slice (some ⟨w.heap.size + 1, 0, none⟩) 1 1) ([1]) ns.size _ (w.heap.size + 1) (by have := HH.out; omega) HR1.out.drew (by have := HL.out; have := HH.out; simp at * <;> omega) hs1).mono ?_
  rintro e W2 ⟨v2, rfl, hR, hB⟩
  have HR2 := hide hR
  have HX2 := hide (HX1.out.drew.below hB (Nat.lt_succ_self _))
  have HB2 := hide (HB1.out.drew.trans hB)
  have hs2 := Nat.le_trans hs1 hB.size
  clear hR hB HR1 HX1 HB1
  refine hK.out _ _ (HX2.out) (fun hHeld => ?_)
  clear hK K
  try simp only [Act.put, List.setIfInBounds_toArray, List.set_cons_zero, List.set_cons_succ]
  refine wpAnyH_ready (rs := [10]) (by kernel_rfl) (by simp) ?_
  refine AllReadyH.cons (o := { dst := some 15, op := Op.call { callee := Callee.builtin Builtin.append, args := #[Operand.tmp 11, Operand.tmp 14], argTypes := #[22, 9] }, type := 22, pos := "ref.go:34", after := #[{ on := 6, ground := Ground.data }, { on := 9, ground := Ground.data }, { on := 6, ground := Ground.chain }], guard := none }) rfl (fun K hK => ?_) AllReadyH.nil
  clear hHeld
  rw [if_pos (by rfl)]
  obtain ⟨v3, W3, hrun, hR, hB⟩ := append_rowS W2 (w.heap.size + 1) v2 _ HR2.out ns (by have := HL.out; have := HH.out; simp at * <;> omega) hs2
  refine wp_append_run _ _ _ _ _ rfl rfl v2 (.string ns) v3 W3 rfl rfl hrun ?_
  have HR3 := hide hR
  have HX3 := hide (HX2.out.below hB (Nat.lt_succ_self _))
  have HB3 := hide (HB2.out.trans hB)
  have hs3 := Nat.le_trans hs2 hB.size
  clear hR hB hrun HR2 HX2 HB2
  refine hK.out _ _ (HX3.out) (fun hHeld => ?_)
  clear hK K
  try simp only [Act.put, List.setIfInBounds_toArray, List.set_cons_zero, List.set_cons_succ]
  refine wpAnyH_take (i := 11) (oi := { dst := some 3, op := Op.assign (Operand.tmp 15), type := 22, pos := "ref.go:34", after := #[{ on := 10, ground := Ground.data }, { on := 10, ground := Ground.chain }, { on := 0, ground := Ground.phase }, { on := 1, ground := Ground.phase }, { on := 2, ground := Ground.phase }, { on := 3, ground := Ground.phase }, { on := 4, ground := Ground.phase }, { on := 5, ground := Ground.phase }, { on := 6, ground := Ground.phase }, { on := 7, ground := Ground.phase }, { on := 8, ground := Ground.phase }, { on := 9, ground := Ground.phase }, { on := 10, ground := Ground.phase }], guard := none }) (v := ?_) rfl (by kernel_rfl) (by kernel_rfl) (by kernel_rfl) (fun _ _ _ h => h) (Or.inl ⟨by rfl, ?_⟩) hHeld ?_
  rotate_left
  · intro w hSw; (try dsimp only at hSw); go_simp; first | done | with_reducible rfl
  try simp only [Act.put, List.setIfInBounds_toArray, List.set_cons_zero, List.set_cons_succ]
  refine wpAnyH_done (by kernel_rfl) ?_ _
  clear hHeld
  go_wp2_with fail
  refine wp_region_held_drew (S := fun w' => TBox w' w.heap.size T) (by kernel_rfl) HX3.out.drew (fun hHeld => ?_)
  refine wpAnyH_take (i := 0) (oi := { dst := some 16, op := Op.move (Operand.tmp 3), type := 22, pos := "ref.go:35", after := #[], guard := none }) (v := ?_) rfl (by kernel_rfl) (by kernel_rfl) (by kernel_rfl) (fun _ _ _ h => h) (Or.inl ⟨by rfl, ?_⟩) hHeld ?_
  rotate_left
  · intro w hSw; (try dsimp only at hSw); go_simp; first | done | with_reducible rfl
  try simp only [Act.put, List.setIfInBounds_toArray, List.set_cons_zero, List.set_cons_succ]
  refine wpAnyH_take (i := 1) (oi := { dst := some 17, op := Op.fieldAddr 31 (Operand.tmp 1) 0, type := 0, pos := "ref.go:35", after := #[], guard := none }) (v := ?_) rfl (by kernel_rfl) (by kernel_rfl) (by kernel_rfl) (fun _ _ _ h => h) (Or.inl ⟨by rfl, ?_⟩) hHeld ?_
  rotate_left
  · intro w hSw; (try dsimp only at hSw); go_simp; first | done | with_reducible rfl
  try simp only [Act.put, List.setIfInBounds_toArray, List.set_cons_zero, List.set_cons_succ]
  refine wpAnyH_take (i := 2) (oi := { dst := some 18, op := Op.fieldAddr 27 (Operand.tmp 17) 1, type := 0, pos := "ref.go:35", after := #[{ on := 1, ground := Ground.data }], guard := none }) (v := ?_) rfl (by kernel_rfl) (by kernel_rfl) (by kernel_rfl) (fun _ _ _ h => h) (Or.inl ⟨by rfl, ?_⟩) hHeld ?_
  rotate_left
  · intro w hSw; (try dsimp only at hSw); go_simp; first | done | with_reducible rfl
  try simp only [Act.put, List.setIfInBounds_toArray, List.set_cons_zero, List.set_cons_succ]
  refine wpAnyH_take (i := 3) (oi := { dst := some 19, op := Op.load 9 (Operand.tmp 18), type := 9, pos := "ref.go:35", after := #[{ on := 2, ground := Ground.data }], guard := none }) (v := ?_) rfl (by kernel_rfl) (by kernel_rfl) (by kernel_rfl) (fun _ _ _ h => h) (Or.inl ⟨by rfl, ?_⟩) hHeld ?_
  rotate_left
  · intro w hSw; (try dsimp only at hSw); have e0 := hSw.c1; rw [← hT] at e0; dsimp only at e0; go_simp; first | done | with_reducible rfl
  try simp only [Act.put, List.setIfInBounds_toArray, List.set_cons_zero, List.set_cons_succ]
  refine wpAnyH_take (i := 4) (oi := { dst := some 20, op := Op.call { callee := Callee.builtin Builtin.len, args := #[Operand.tmp 19], argTypes := #[9] }, type := 3, pos := "ref.go:35", after := #[{ on := 3, ground := Ground.data }], guard := none }) (v := ?_) rfl (by kernel_rfl) (by kernel_rfl) (by kernel_rfl) (fun _ _ _ h => h) (Or.inl ⟨by rfl, ?_⟩) hHeld ?_
  rotate_left
  · intro w hSw; (try dsimp only at hSw); go_simp; first | done | with_reducible rfl
  try simp only [Act.put, List.setIfInBounds_toArray, List.set_cons_zero, List.set_cons_succ]
  refine wpAnyH_take (i := 5) (oi := { dst := some 21, op := Op.convert 3 23 (Operand.tmp 20), type := 23, pos := "ref.go:35", after := #[{ on := 4, ground := Ground.data }], guard := none }) (v := ?_) rfl (by kernel_rfl) (by kernel_rfl) (by kernel_rfl) (fun _ _ _ h => h) (Or.inl ⟨by rfl, ?_⟩) hHeld ?_
  rotate_left
  · intro w hSw; (try dsimp only at hSw); go_simp; first | done | with_reducible rfl
  try simp only [Act.put, List.setIfInBounds_toArray, List.set_cons_zero, List.set_cons_succ]
  refine wpAnyH_take (i := 7) (oi := { dst := some 23, op := Op.fieldAddr 31 (Operand.tmp 1) 0, type := 0, pos := "ref.go:35", after := #[], guard := none }) (v := ?_) rfl (by kernel_rfl) (by kernel_rfl) (by kernel_rfl) (fun _ _ _ h => h) (Or.inl ⟨by rfl, ?_⟩) hHeld ?_
  rotate_left
  · intro w hSw; (try dsimp only at hSw); go_simp; first | done | with_reducible rfl
  try simp only [Act.put, List.setIfInBounds_toArray, List.set_cons_zero, List.set_cons_succ]
  refine wpAnyH_take (i := 8) (oi := { dst := some 24, op := Op.fieldAddr 27 (Operand.tmp 23) 1, type := 0, pos := "ref.go:35", after := #[{ on := 7, ground := Ground.data }], guard := none }) (v := ?_) rfl (by kernel_rfl) (by kernel_rfl) (by kernel_rfl) (fun _ _ _ h => h) (Or.inl ⟨by rfl, ?_⟩) hHeld ?_
  rotate_left
  · intro w hSw; (try dsimp only at hSw); go_simp; first | done | with_reducible rfl
  try simp only [Act.put, List.setIfInBounds_toArray, List.set_cons_zero, List.set_cons_succ]
  refine wpAnyH_take (i := 9) (oi := { dst := some 25, op := Op.load 9 (Operand.tmp 24), type := 9, pos := "ref.go:35", after := #[{ on := 8, ground := Ground.data }], guard := none }) (v := ?_) rfl (by kernel_rfl) (by kernel_rfl) (by kernel_rfl) (fun _ _ _ h => h) (Or.inl ⟨by rfl, ?_⟩) hHeld ?_
  rotate_left
  · intro w hSw; (try dsimp only at hSw); have e0 := hSw.c1; rw [← hT] at e0; dsimp only at e0; go_simp; first | done | with_reducible rfl
  try simp only [Act.put, List.setIfInBounds_toArray, List.set_cons_zero, List.set_cons_succ]
  refine wpAnyH_ready (rs := [6]) (by kernel_rfl) (by simp) ?_
  refine AllReadyH.cons (o := { dst := some 22, op := Op.call { callee := Callee.value (Operand.func 59), args := #[Operand.tmp 16, Operand.tmp 21], argTypes := #[22, 23] }, type := 22, pos := "ref.go:35", after := #[{ on := 0, ground := Ground.data }, { on := 5, ground := Ground.data }], guard := none }) rfl (fun K hK => ?_) AllReadyH.nil
  clear hHeld
  go_simp
  refine (short_any v3 (([1]) ++ uintS ns.size ++ bytesOf ns) sa.size _ (w.heap.size + 1) (by have := HH.out; omega) HR3.out.drew (by have := HL.out; have := HH.out; simp [length_bytesOf] at * <;> omega) hs3).mono ?_
  rintro e W4 ⟨v4, rfl, hR, hB⟩
  have HR4 := hide hR
  have HX4 := hide (HX3.out.drew.below hB (Nat.lt_succ_self _))
  have HB4 := hide (HB3.out.drew.trans hB)
  have hs4 := Nat.le_trans hs3 hB.size
  clear hR hB HR3 HX3 HB3
  refine hK.out _ _ (HX4.out) (fun hHeld => ?_)
  clear hK K
  try simp only [Act.put, List.setIfInBounds_toArray, List.set_cons_zero, List.set_cons_succ]
  refine wpAnyH_ready (rs := [10]) (by kernel_rfl) (by simp) ?_
  refine AllReadyH.cons (o := { dst := some 26, op := Op.call { callee := Callee.builtin Builtin.append, args := #[Operand.tmp 22, Operand.tmp 25], argTypes := #[22, 9] }, type := 22, pos := "ref.go:35", after := #[{ on := 6, ground := Ground.data }, { on := 9, ground := Ground.data }, { on := 6, ground := Ground.chain }], guard := none }) rfl (fun K hK => ?_) AllReadyH.nil
  clear hHeld
  rw [if_pos (by rfl)]
  obtain ⟨v5, W5, hrun, hR, hB⟩ := append_rowS W4 (w.heap.size + 1) v4 _ HR4.out sa (by have := HL.out; have := HH.out; simp [length_bytesOf] at * <;> omega) hs4
  refine wp_append_run _ _ _ _ _ rfl rfl v4 (.string sa) v5 W5 rfl rfl hrun ?_
  have HR5 := hide hR
  have HX5 := hide (HX4.out.below hB (Nat.lt_succ_self _))
  have HB5 := hide (HB4.out.trans hB)
  have hs5 := Nat.le_trans hs4 hB.size
  clear hR hB hrun HR4 HX4 HB4
  refine hK.out _ _ (HX5.out) (fun hHeld => ?_)
  clear hK K
  try simp only [Act.put, List.setIfInBounds_toArray, List.set_cons_zero, List.set_cons_succ]
  refine wpAnyH_take (i := 11) (oi := { dst := some 3, op := Op.assign (Operand.tmp 26), type := 22, pos := "ref.go:35", after := #[{ on := 10, ground := Ground.data }, { on := 10, ground := Ground.chain }, { on := 0, ground := Ground.phase }, { on := 1, ground := Ground.phase }, { on := 2, ground := Ground.phase }, { on := 3, ground := Ground.phase }, { on := 4, ground := Ground.phase }, { on := 5, ground := Ground.phase }, { on := 6, ground := Ground.phase }, { on := 7, ground := Ground.phase }, { on := 8, ground := Ground.phase }, { on := 9, ground := Ground.phase }, { on := 10, ground := Ground.phase }], guard := none }) (v := ?_) rfl (by kernel_rfl) (by kernel_rfl) (by kernel_rfl) (fun _ _ _ h => h) (Or.inl ⟨by rfl, ?_⟩) hHeld ?_
  rotate_left
  · intro w hSw; (try dsimp only at hSw); go_simp; first | done | with_reducible rfl
  try simp only [Act.put, List.setIfInBounds_toArray, List.set_cons_zero, List.set_cons_succ]
  refine wpAnyH_done (by kernel_rfl) ?_ _
  clear hHeld
  have e0 := HX5.out.c2
  rw [← hT] at e0
  dsimp only at e0
  go_wp2_with fail
  clear e0
  refine (short_any v5 ((([1]) ++ uintS ns.size ++ bytesOf ns) ++ uintS sa.size ++ bytesOf sa) uid _ (w.heap.size + 1) (by have := HH.out; omega) HR5.out (by have := HL.out; have := HH.out; simp [length_bytesOf] at * <;> omega) hs5).mono ?_
  rintro e W6 ⟨v6, rfl, hR, hB⟩
  have HR6 := hide hR
  have HX6 := hide (HX5.out.below hB (Nat.lt_succ_self _))
  have HB6 := hide (HB5.out.trans hB)
  have hs6 := Nat.le_trans hs5 hB.size
  clear hR hB HR5 HX5 HB5
  have e0 := HX6.out.c3
  rw [← hT] at e0
  dsimp only at e0
  go_wp2_with fail
  clear e0
  refine (short_any v6 (((([1]) ++ uintS ns.size ++ bytesOf ns) ++ uintS sa.size ++ bytesOf sa) ++ uintS uid) hh _ (w.heap.size + 1) (by have := HH.out; omega) HR6.out (by have := HL.out; have := HH.out; simp [length_bytesOf] at * <;> omega) hs6).mono ?_
  rintro e W7 ⟨v7, rfl, hR, hB⟩
  have HR7 := hide hR
  have HX7 := hide (HX6.out.below hB (Nat.lt_succ_self _))
  have HB7 := hide (HB6.out.trans hB)
  have hs7 := Nat.le_trans hs6 hB.size
  clear hR hB HR6 HX6 HB6
  have e0 := HX7.out.c4
  rw [← hT] at e0
  dsimp only at e0
  obtain ⟨v8, W8, hrun, hR, hB⟩ := append_rowB (W7.alloc (.cells #[.int .u8 ((addr : Int) % 256), .int .u8 ((addr : Int) / 256 % 256), .int .u8 ((addr : Int) / 65536 % 256), .int .u8 ((addr : Int) / 16777216 % 256)] 5)) (w.heap.size + 1) v7 _ (HR7.out.alloc _) (.slice (some ⟨W7.heap.size, 0, none⟩) 4 4) [(addr : Int) % 256, (addr : Int) / 256 % 256, (addr : Int) / 65536 % 256, (addr : Int) / 16777216 % 256] (slAt_lit (xs := [(addr : Int) % 256, (addr : Int) / 256 % 256, (addr : Int) / 65536 % 256, (addr : Int) / 16777216 % 256]) (heap_alloc_new _ _) (Nat.le_refl _)) (by have := HL.out; have := HH.out; simp [length_bytesOf] at * <;> omega) (by simp; omega)
  have HR8 := hide hR
  have HB8 := hide ((HB7.out.alloc hs7 _).trans hB)
  have HX8 := hide ((HX7.out.alloc _).below hB (Nat.lt_succ_self _))
  have hs8 : w.heap.size + 1 ≤ W8.heap.size := by have := hB.size; simp at this; omega
  have HRUN := hide hrun
  clear hR hB hrun HR7 HX7 HB7
  have q1 : (addr : Int).fdiv (2 ^ min (Int.toNat 8) IntKind.u32.bits) = (addr : Int) / 256 := by rw [show (2 : Int) ^ min (Int.toNat 8) IntKind.u32.bits = 256 by decide, Int.fdiv_eq_ediv_of_nonneg _ (by omega)]
  have q2 : (addr : Int).fdiv (2 ^ min (Int.toNat 16) IntKind.u32.bits) = (addr : Int) / 65536 := by rw [show (2 : Int) ^ min (Int.toNat 16) IntKind.u32.bits = 65536 by decide, Int.fdiv_eq_ediv_of_nonneg _ (by omega)]
  have q3 : (addr : Int).fdiv (2 ^ min (Int.toNat 24) IntKind.u32.bits) = (addr : Int) / 16777216 := by rw [show (2 : Int) ^ min (Int.toNat 24) IntKind.u32.bits = 16777216 by decide, Int.fdiv_eq_ediv_of_nonneg _ (by omega)]
  have f0 := HX8.out.c5
  rw [← hT] at f0
  dsimp only at f0
  go_wp2_with (first | (at_builtin; refine wpList_append_run rfl (.tmp 36) (.tmp 52) 22 22 22 rfl rfl v7 (.slice (some ⟨W7.heap.size, 0, none⟩) 4 4) v8 W8 rfl rfl HRUN.out ?_))
  clear e0 f0 q1 q2 q3 HRUN
  refine (short_any v8 (((((([1]) ++ uintS ns.size ++ bytesOf ns) ++ uintS sa.size ++ bytesOf sa) ++ uintS uid) ++ uintS hh) ++ [(addr : Int) % 256, (addr : Int) / 256 % 256, (addr : Int) / 65536 % 256, (addr : Int) / 16777216 % 256]) born _ (w.heap.size + 1) (by have := HH.out; omega) HR8.out (by have := HL.out; have := HH.out; simp [length_bytesOf] at * <;> omega) hs8).mono ?_
  rintro e W9 ⟨v9, rfl, hR, hB⟩
  have HR9 := hide hR
  have HX9 := hide (HX8.out.below hB (Nat.lt_succ_self _))
  have HB9 := hide (HB8.out.trans hB)
  have hs9 := Nat.le_trans hs8 hB.size
  clear hR hB HR8 HX8 HB8
  have e0 := HX9.out.c6
  rw [← hT] at e0
  dsimp only at e0
  go_wp2_with fail
  clear e0
  refine (short_any v9 ((((((([1]) ++ uintS ns.size ++ bytesOf ns) ++ uintS sa.size ++ bytesOf sa) ++ uintS uid) ++ uintS hh) ++ [(addr : Int) % 256, (addr : Int) / 256 % 256, (addr : Int) / 65536 % 256, (addr : Int) / 16777216 % 256]) ++ uintS born) til _ (w.heap.size + 1) (by have := HH.out; omega) HR9.out (by have := HL.out; have := HH.out; simp [length_bytesOf] at * <;> omega) hs9).mono ?_
  rintro e W10 ⟨v10, rfl, hR, hB⟩
  have HR10 := hide hR
  have HX10 := hide (HX9.out.below hB (Nat.lt_succ_self _))
  have HB10 := hide (HB9.out.trans hB)
  have hs10 := Nat.le_trans hs9 hB.size
  clear hR hB HR9 HX9 HB9
  have e0 := HX10.out.c7
  rw [← hT] at e0
  dsimp only at e0
  go_wp2_with fail
  clear e0
  refine (short_any v10 (((((((([1]) ++ uintS ns.size ++ bytesOf ns) ++ uintS sa.size ++ bytesOf sa) ++ uintS uid) ++ uintS hh) ++ [(addr : Int) % 256, (addr : Int) / 256 % 256, (addr : Int) / 65536 % 256, (addr : Int) / 16777216 % 256]) ++ uintS born) ++ uintS til) key _ (w.heap.size + 1) (by have := HH.out; omega) HR10.out (by have := HL.out; have := HH.out; simp [length_bytesOf] at * <;> omega) hs10).mono ?_
  rintro e W11 ⟨v11, rfl, hR, hB⟩
  have HR11 := hide hR
  have HX11 := hide (HX10.out.below hB (Nat.lt_succ_self _))
  have HB11 := hide (HB10.out.trans hB)
  have hs11 := Nat.le_trans hs10 hB.size
  clear hR hB HR10 HX10 HB10
  go_wp2_with fail
  go_ret
  refine ⟨_, rfl, ?_, HB11.out⟩
  have h := HR11.out
  rw [HS.out]
  simpa [textS, putS, List.append_assoc] using h
end Go.Proofs.YtaomigfmjglggaaDoor
