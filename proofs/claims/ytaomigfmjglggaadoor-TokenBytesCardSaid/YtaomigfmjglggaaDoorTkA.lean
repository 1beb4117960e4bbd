/- Tokens and rings in plain words, and in boxes. Whether tokens and rings may be, whether a token is fresh: the program's, the document's. -/
import Derived.Test.YtaomigfmjglggaaDoorProg
import Derived.Test.YtaomigfmjglggaaDoorBase
import Derived.Test.YtaomigfmjglggaaDoorNmMayP
import Derived.Deep.MidRow
import Derived.WalkKit
import Derived.WalkSpells
import Derived.WalkLawsBesides
import Derived.IntWalk
namespace Go.Proofs.YtaomigfmjglggaaDoor
open Go.RowKit

structure Tk where
  ns : ByteArray
  sa : ByteArray
  uid : Nat
  host : Int
  addr : Nat
  born : Nat
  til : Nat
  key : Nat
  mac : List Int

def tkC (t : Tk) : List Value := .string t.ns :: .string t.sa :: .int .u64 t.uid :: .int .i64 t.host :: .int .u32 t.addr :: .int .u64 t.born :: .int .u64 t.til :: .int .u64 t.key :: t.mac.map (.int .u8)
/-- A token's cells. -/
def tkA (t : Tk) : Array Value := (tkC t).toArray
theorem tkA_size (t : Tk) (h : t.mac.length = 32) : (tkA t).size = 40 := by simp [tkA, tkC, h]
theorem tkA_one (t : Tk) : (tkA t).all (·.oneCell') = true := by
  simp [tkA, tkC, Value.oneCell']
theorem sizeTk : (Tryd.prog.info? 31).map (·.size) = some 40 := by kernel_rfl
theorem szTk (t : Tk) (h : t.mac.length = 32) : (Tryd.prog.info? 31).map (·.size) = some (tkA t).size := by rw [tkA_size t h]; exact sizeTk
def tk0 : Tk := ⟨default, default, 0, 0, 0, 0, 0, 0, List.replicate 32 0⟩
theorem tk0_len : tk0.mac.length = 32 := rfl
theorem tkA_same {a b : Tk} (ha : a.mac.length = 32) (hb : b.mac.length = 32) : (tkA a).size = (tkA b).size := by rw [tkA_size a ha, tkA_size b hb]
theorem zeroTk (w : World) : (zeroValue 31).run Tryd.prog w = .ok (.agg (tkA tk0)) w := by kernel_rfl

/-- A box that holds a token. -/
def TBox (W : World) (g : Nat) (t : Tk) : Prop := W.heap[g]? = some (.cells (tkA t) 31 (0, 0))
theorem TBox.lt {W : World} {g : Nat} {t : Tk} (h : TBox W g t) : g < W.heap.size := (Array.getElem?_eq_some_iff.1 h).1
theorem TBox.new (w : World) (t : Tk) : TBox (w.alloc (.cells (tkA t) 31)) w.heap.size t := heap_alloc_new w _
theorem TBox.next {W W' : World} {g : Nat} {t : Tk} (h : TBox W g t) (hb : Below W.heap.size W W') : TBox W' g t := (hb.block g h.lt).trans h
theorem TBox.alloc {W : World} {g : Nat} {t : Tk} (h : TBox W g t) (o : Obj) : TBox (W.alloc o) g t := h.next ((Below.refl _ _).alloc (Nat.le_refl _) o)
theorem TBox.drew {W : World} {g : Nat} {t : Tk} (h : TBox W g t) : TBox W.drew g t := h
theorem TBox.kept {W W' : World} {g k : Nat} {t : Tk} (h : TBox W g t) (hk : ∀ j, j ≠ k → W'.heap[j]? = W.heap[j]?) (hne : g ≠ k) : TBox W' g t := (hk g hne).trans h
theorem TBox.keep {F : Nat → Prop} {W W' : World} {g : Nat} {t : Tk} (h : TBox W g t) (hk : Keep F W W') (hf : ¬ F g) : TBox W' g t := (hk.block g h.lt hf).trans h
theorem TBox.cell {W : World} {g : Nat} {t : Tk} (h : TBox W g t) (i : Nat) : W.cell? ⟨g, i, none⟩ = (tkC t)[i]? := by
  rw [cell_of_row W g i _ _ _ h]
  simp [tkA]
theorem TBox.c0 {W : World} {g : Nat} {t : Tk} (h : TBox W g t) : W.cell? ⟨g, 0, none⟩ = some (.string t.ns) := h.cell 0
theorem TBox.c1 {W : World} {g : Nat} {t : Tk} (h : TBox W g t) : W.cell? ⟨g, 1, none⟩ = some (.string t.sa) := h.cell 1
theorem TBox.c2 {W : World} {g : Nat} {t : Tk} (h : TBox W g t) : W.cell? ⟨g, 2, none⟩ = some (.int .u64 t.uid) := h.cell 2
theorem TBox.c3 {W : World} {g : Nat} {t : Tk} (h : TBox W g t) : W.cell? ⟨g, 3, none⟩ = some (.int .i64 t.host) := h.cell 3
theorem TBox.c4 {W : World} {g : Nat} {t : Tk} (h : TBox W g t) : W.cell? ⟨g, 4, none⟩ = some (.int .u32 t.addr) := h.cell 4
theorem TBox.c5 {W : World} {g : Nat} {t : Tk} (h : TBox W g t) : W.cell? ⟨g, 5, none⟩ = some (.int .u64 t.born) := h.cell 5
theorem TBox.c6 {W : World} {g : Nat} {t : Tk} (h : TBox W g t) : W.cell? ⟨g, 6, none⟩ = some (.int .u64 t.til) := h.cell 6
theorem TBox.c7 {W : World} {g : Nat} {t : Tk} (h : TBox W g t) : W.cell? ⟨g, 7, none⟩ = some (.int .u64 t.key) := h.cell 7
theorem TBox.mac {W : World} {g : Nat} {t : Tk} (h : TBox W g t) : W.rangeAt g 8 (t.mac.map (.int .u8)) := fun j v hv => by
  rw [h.cell (8 + j)]
  simpa [tkC, show 8 + j = j + 1 + 1 + 1 + 1 + 1 + 1 + 1 + 1 by omega] using hv
/-- A token is what a Go program may hold. -/
structure Tk.ok (t : Tk) : Prop where
  ns : t.ns.size ≤ 140737488355328
  sa : t.sa.size ≤ 140737488355328
  uid : t.uid < 18446744073709551616
  host1 : -9223372036854775808 ≤ t.host
  host2 : t.host < 9223372036854775808
  addr : t.addr < 4294967296
  born : t.born < 18446744073709551616
  til : t.til < 18446744073709551616
  key : t.key < 18446744073709551616
  mac : t.mac.length = 32
  byte : ∀ x ∈ t.mac, 0 ≤ x ∧ x < 256

def most : Nat := 4611686018427387903
def cntB (x : Nat) : Bool := decide (1 ≤ x) && decide (x ≤ most)
def Tk.nm (t : Tk) : Nm := ⟨t.ns, t.sa⟩
/-- May a token be? -/
def mayT (t : Tk) : Bool := mayN t.nm && cntB t.uid && (decide (1 ≤ t.host) && decide (t.host ≤ 9)) && decide (t.born < t.til) && decide (t.til ≤ most) && cntB t.key

/-- A ring's value. -/
def ringA (rv : Value) (o n : Nat) : Array Value := #[rv, .int .u64 o, .int .u64 n]
def mayR (m o n : Nat) : Bool := decide (1 ≤ m) && decide (m ≤ 64) && decide (1 ≤ o) && decide (o ≤ n) && decide (n ≤ most)
end Go.Proofs.YtaomigfmjglggaaDoor
namespace Go.Proofs.YtaomigfmjglggaaDoor
open Go.RowKit

theorem cnt_true {x : Nat} (h1 : 1 ≤ x) (h2 : x ≤ most) : cntB x = true := by simp [cntB, h1, h2]
theorem cnt_lo {x : Nat} (h1 : ¬ 1 ≤ x) : cntB x = false := by simp [cntB, h1]
theorem cnt_hi {x : Nat} (h1 : ¬ x ≤ most) : cntB x = false := by simp [cntB, h1]
theorem ret_bool {a b : Bool} (h : a = b) : Ending.returned (.bool a) = Ending.returned (.bool b) := by rw [h]

set_option maxRecDepth 100000 in
theorem count_any (x : Nat) (w : World) : Calls Tryd.prog 29 #[.int .u64 x] w (fun e w' => e = .returned (.bool (cntB x)) ∧ Below w.heap.size w w') := by
  by_cases h1 : 1 ≤ x
  · have hx : decide ((x : Int) ≤ 4611686018427387903) = cntB x := by
      unfold cntB most
      rw [decide_eq_true h1, Bool.true_and, decide_eq_decide]
      omega
    go_enter Tryd.func29, Tryd.ntmps29
    go_wp2_with fail
    go_ret
    exact ⟨rfl, Below.refl _ _⟩
  · rw [cnt_lo h1]
    go_enter Tryd.func29, Tryd.ntmps29
    go_wp2_with fail
    go_ret
    exact ⟨rfl, Below.refl _ _⟩

set_option maxRecDepth 100000 in
set_option maxHeartbeats 400000 in
theorem ring_any (ao : Option Addr) (m c o n : Nat) (w : World) : Calls Tryd.prog 13 #[.agg (ringA (.slice ao m c) o n)] w (fun e w' => e = .returned (.bool (mayR m o n)) ∧ Below w.heap.size w w') := by
  have HB := hide ((Below.refl w.heap.size w).alloc (Nat.le_refl _) (.cells (ringA (.slice ao m c) o n) 25))
  unfold ringA at HB ⊢
  by_cases h0 : 1 ≤ m
  rotate_left
  · rw [show mayR m o n = false from by unfold mayR; simp; omega]
    go_enter Tryd.func13, Tryd.ntmps13
    go_wp2_with fail
    go_ret
    exact ⟨by first | rfl | (refine ret_bool ?_; simp; omega), HB.out⟩
  by_cases h1 : m ≤ 64
  rotate_left
  · rw [show mayR m o n = false from by unfold mayR; simp; omega]
    go_enter Tryd.func13, Tryd.ntmps13
    go_wp2_with fail
    go_ret
    exact ⟨by first | rfl | (refine ret_bool ?_; simp; omega), HB.out⟩
  by_cases h2 : 1 ≤ o
  rotate_left
  · rw [show mayR m o n = false from by unfold mayR; simp; omega]
    go_enter Tryd.func13, Tryd.ntmps13
    go_wp2_with fail
    go_ret
    exact ⟨by first | rfl | (refine ret_bool ?_; simp; omega), HB.out⟩
  by_cases h3 : o ≤ n
  rotate_left
  · rw [show mayR m o n = false from by unfold mayR; simp; omega]
    go_enter Tryd.func13, Tryd.ntmps13
    go_wp2_with fail
    go_ret
    exact ⟨by first | rfl | (refine ret_bool ?_; simp; omega), HB.out⟩
  have hx : decide ((n : Int) ≤ 4611686018427387903) = mayR m o n := by
    unfold mayR most
    rw [decide_eq_true h0, decide_eq_true h1, decide_eq_true h2, decide_eq_true h3, decide_eq_decide.2 (show (n : Int) ≤ 4611686018427387903 ↔ n ≤ 4611686018427387903 from by omega)]
    rfl
  go_enter Tryd.func13, Tryd.ntmps13
  go_wp2_with fail
  go_ret
  exact ⟨rfl, HB.out⟩

set_option maxRecDepth 100000 in
set_option maxHeartbeats 400000 in
theorem ringR_any (ao : Option Addr) (m c o n : Nat) (w : World) : Calls Tryd.prog 14 #[.agg (ringA (.slice ao m c) o n)] w (fun e w' => e = .returned (.bool (mayR m o n)) ∧ Below w.heap.size w w') := by
  have HB := hide ((Below.refl w.heap.size w).alloc (Nat.le_refl _) (.cells (ringA (.slice ao m c) o n) 25))
  unfold ringA at HB ⊢
  by_cases h0 : 1 ≤ m
  rotate_left
  · rw [show mayR m o n = false from by unfold mayR; simp; omega]
    go_enter Tryd.func14, Tryd.ntmps14
    go_wp2_with fail
    go_ret
    exact ⟨by first | rfl | (refine ret_bool ?_; simp; omega), HB.out⟩
  by_cases h1 : m ≤ 64
  rotate_left
  · rw [show mayR m o n = false from by unfold mayR; simp; omega]
    go_enter Tryd.func14, Tryd.ntmps14
    go_wp2_with fail
    go_ret
    exact ⟨by first | rfl | (refine ret_bool ?_; simp; omega), HB.out⟩
  by_cases h2 : 1 ≤ o
  rotate_left
  · rw [show mayR m o n = false from by unfold mayR; simp; omega]
    go_enter Tryd.func14, Tryd.ntmps14
    go_wp2_with fail
    go_ret
    exact ⟨by first | rfl | (refine ret_bool ?_; simp; omega), HB.out⟩
  by_cases h3 : o ≤ n
  rotate_left
  · rw [show mayR m o n = false from by unfold mayR; simp; omega]
    go_enter Tryd.func14, Tryd.ntmps14
    go_wp2_with fail
    go_ret
    exact ⟨by first | rfl | (refine ret_bool ?_; simp; omega), HB.out⟩
  have hx : decide ((n : Int) ≤ 4611686018427387903) = mayR m o n := by
    unfold mayR most
    rw [decide_eq_true h0, decide_eq_true h1, decide_eq_true h2, decide_eq_true h3, decide_eq_decide.2 (show (n : Int) ≤ 4611686018427387903 ↔ n ≤ 4611686018427387903 from by omega)]
    rfl
  go_enter Tryd.func14, Tryd.ntmps14
  go_wp2_with fail
  go_ret
  exact ⟨rfl, HB.out⟩

set_option maxRecDepth 100000 in
set_option maxHeartbeats 1000000 in
theorem tmay_any (t : Tk) (ht : t.ok) (w : World) : Calls Tryd.prog 15 #[.agg (tkA t)] w (fun e w' => e = .returned (.bool (mayT t)) ∧ Below w.heap.size w w') := by
  have HM := hide (may_any t.nm (Nat.le_trans ht.ns (by omega)) (Nat.le_trans ht.sa (by omega)))
  have HB := hide ((Below.refl w.heap.size w).alloc (Nat.le_refl _) (.cells (tkA t) 31))
  have HT := hide (TBox.new w t)
  have HR : Hid (mayT t = (mayN t.nm && cntB t.uid && (decide (1 ≤ t.host) && decide (t.host ≤ 9)) && decide (t.born < t.til) && decide (t.til ≤ most) && cntB t.key)) := hide rfl
  have d0 := HT.out.c0
  have d1 := HT.out.c1
  obtain ⟨ns, sa, uid, host, addr, born, til, key, mac⟩ := t
  clear ht
  dsimp only [Tk.nm] at *
  generalize mayT ⟨ns, sa, uid, host, addr, born, til, key, mac⟩ = R at HR ⊢
  generalize mayN ⟨ns, sa⟩ = B0 at HR HM
  generalize tkA ⟨ns, sa, uid, host, addr, born, til, key, mac⟩ = TA at HB HT d0 d1 ⊢
  have HC1 := hide (count_any uid)
  have HC2 := hide (count_any key)
  by_cases h0 : B0 = true
  rotate_left
  · replace h0 : B0 = false := by simpa using h0
    rw [show R = false from by rw [HR.out, h0]; simp]
    rw [h0] at HM
    try rw [h0] at HM
    clear h0
    clear HR
    go_enter Tryd.func15, Tryd.ntmps15
    go_wp2_with (first | (go_at_call 28; refine (HM.out _).mono ?_; rintro e w2 ⟨rfl, hB2⟩; have HT2 := hide (HT.out.next hB2); have HB2 := hide (HB.out.trans (hB2.mono HB.out.size)); have e2 := HT2.out.c2; have e3 := HT2.out.c3; have e5 := HT2.out.c5; have e6 := HT2.out.c6; have e7 := HT2.out.c7; clear d0 d1 HT HB hB2) | (go_at_call 29; refine (HC1.out _).mono ?_; rintro e w3 ⟨rfl, hB3⟩; have HT3 := hide (HT2.out.next hB3); have HB3 := hide (HB2.out.trans (hB3.mono HB2.out.size)); have f3 := HT3.out.c3; have f5 := HT3.out.c5; have f6 := HT3.out.c6; have f7 := HT3.out.c7; clear e2 e3 e5 e6 e7 HT2 HB2 hB3 HC1) | (go_at_call 29; refine (HC2.out _).mono ?_; rintro e w4 ⟨rfl, hB4⟩; have HB4 := hide (HB3.out.trans (hB4.mono HB3.out.size)); clear f3 f5 f6 f7 HT3 HB3 hB4 HC2))
    go_ret
    exact ⟨by first | rfl | (refine ret_bool ?_; simp; omega), HB2.out⟩
  by_cases h1 : cntB uid = true
  rotate_left
  · replace h1 : cntB uid = false := by simpa using h1
    rw [show R = false from by rw [HR.out, h1]; simp]
    rw [h1] at HC1
    try rw [h0] at HM
    clear h0
    clear h1
    clear HR
    go_enter Tryd.func15, Tryd.ntmps15
    go_wp2_with (first | (go_at_call 28; refine (HM.out _).mono ?_; rintro e w2 ⟨rfl, hB2⟩; have HT2 := hide (HT.out.next hB2); have HB2 := hide (HB.out.trans (hB2.mono HB.out.size)); have e2 := HT2.out.c2; have e3 := HT2.out.c3; have e5 := HT2.out.c5; have e6 := HT2.out.c6; have e7 := HT2.out.c7; clear d0 d1 HT HB hB2) | (go_at_call 29; refine (HC1.out _).mono ?_; rintro e w3 ⟨rfl, hB3⟩; have HT3 := hide (HT2.out.next hB3); have HB3 := hide (HB2.out.trans (hB3.mono HB2.out.size)); have f3 := HT3.out.c3; have f5 := HT3.out.c5; have f6 := HT3.out.c6; have f7 := HT3.out.c7; clear e2 e3 e5 e6 e7 HT2 HB2 hB3 HC1) | (go_at_call 29; refine (HC2.out _).mono ?_; rintro e w4 ⟨rfl, hB4⟩; have HB4 := hide (HB3.out.trans (hB4.mono HB3.out.size)); clear f3 f5 f6 f7 HT3 HB3 hB4 HC2))
    go_ret
    exact ⟨by first | rfl | (refine ret_bool ?_; simp; omega), HB3.out⟩
  by_cases h2 : 1 ≤ host
  rotate_left
  · rw [show R = false from by rw [HR.out]; simp [cntB, most]; omega]
    try rw [h0] at HM
    try rw [h1] at HC1
    clear h0
    clear h1
    clear HR
    go_enter Tryd.func15, Tryd.ntmps15
    go_wp2_with (first | (go_at_call 28; refine (HM.out _).mono ?_; rintro e w2 ⟨rfl, hB2⟩; have HT2 := hide (HT.out.next hB2); have HB2 := hide (HB.out.trans (hB2.mono HB.out.size)); have e2 := HT2.out.c2; have e3 := HT2.out.c3; have e5 := HT2.out.c5; have e6 := HT2.out.c6; have e7 := HT2.out.c7; clear d0 d1 HT HB hB2) | (go_at_call 29; refine (HC1.out _).mono ?_; rintro e w3 ⟨rfl, hB3⟩; have HT3 := hide (HT2.out.next hB3); have HB3 := hide (HB2.out.trans (hB3.mono HB2.out.size)); have f3 := HT3.out.c3; have f5 := HT3.out.c5; have f6 := HT3.out.c6; have f7 := HT3.out.c7; clear e2 e3 e5 e6 e7 HT2 HB2 hB3 HC1) | (go_at_call 29; refine (HC2.out _).mono ?_; rintro e w4 ⟨rfl, hB4⟩; have HB4 := hide (HB3.out.trans (hB4.mono HB3.out.size)); clear f3 f5 f6 f7 HT3 HB3 hB4 HC2))
    go_ret
    exact ⟨by first | rfl | (refine ret_bool ?_; simp; omega), HB3.out⟩
  by_cases h3 : host ≤ 9
  rotate_left
  · rw [show R = false from by rw [HR.out]; simp [cntB, most]; omega]
    try rw [h0] at HM
    try rw [h1] at HC1
    clear h0
    clear h1
    clear HR
    go_enter Tryd.func15, Tryd.ntmps15
    go_wp2_with (first | (go_at_call 28; refine (HM.out _).mono ?_; rintro e w2 ⟨rfl, hB2⟩; have HT2 := hide (HT.out.next hB2); have HB2 := hide (HB.out.trans (hB2.mono HB.out.size)); have e2 := HT2.out.c2; have e3 := HT2.out.c3; have e5 := HT2.out.c5; have e6 := HT2.out.c6; have e7 := HT2.out.c7; clear d0 d1 HT HB hB2) | (go_at_call 29; refine (HC1.out _).mono ?_; rintro e w3 ⟨rfl, hB3⟩; have HT3 := hide (HT2.out.next hB3); have HB3 := hide (HB2.out.trans (hB3.mono HB2.out.size)); have f3 := HT3.out.c3; have f5 := HT3.out.c5; have f6 := HT3.out.c6; have f7 := HT3.out.c7; clear e2 e3 e5 e6 e7 HT2 HB2 hB3 HC1) | (go_at_call 29; refine (HC2.out _).mono ?_; rintro e w4 ⟨rfl, hB4⟩; have HB4 := hide (HB3.out.trans (hB4.mono HB3.out.size)); clear f3 f5 f6 f7 HT3 HB3 hB4 HC2))
    go_ret
    exact ⟨by first | rfl | (refine ret_bool ?_; simp; omega), HB3.out⟩
  by_cases h4 : born < til
  rotate_left
  · rw [show R = false from by rw [HR.out]; simp [cntB, most]; omega]
    try rw [h0] at HM
    try rw [h1] at HC1
    clear h0
    clear h1
    clear HR
    go_enter Tryd.func15, Tryd.ntmps15
    go_wp2_with (first | (go_at_call 28; refine (HM.out _).mono ?_; rintro e w2 ⟨rfl, hB2⟩; have HT2 := hide (HT.out.next hB2); have HB2 := hide (HB.out.trans (hB2.mono HB.out.size)); have e2 := HT2.out.c2; have e3 := HT2.out.c3; have e5 := HT2.out.c5; have e6 := HT2.out.c6; have e7 := HT2.out.c7; clear d0 d1 HT HB hB2) | (go_at_call 29; refine (HC1.out _).mono ?_; rintro e w3 ⟨rfl, hB3⟩; have HT3 := hide (HT2.out.next hB3); have HB3 := hide (HB2.out.trans (hB3.mono HB2.out.size)); have f3 := HT3.out.c3; have f5 := HT3.out.c5; have f6 := HT3.out.c6; have f7 := HT3.out.c7; clear e2 e3 e5 e6 e7 HT2 HB2 hB3 HC1) | (go_at_call 29; refine (HC2.out _).mono ?_; rintro e w4 ⟨rfl, hB4⟩; have HB4 := hide (HB3.out.trans (hB4.mono HB3.out.size)); clear f3 f5 f6 f7 HT3 HB3 hB4 HC2))
    go_ret
    exact ⟨by first | rfl | (refine ret_bool ?_; simp; omega), HB3.out⟩
  by_cases h5 : til ≤ 4611686018427387903
  rotate_left
  · rw [show R = false from by rw [HR.out, decide_eq_false (show ¬ til ≤ most from h5)]; simp]
    try rw [h0] at HM
    try rw [h1] at HC1
    clear h0
    clear h1
    clear HR
    go_enter Tryd.func15, Tryd.ntmps15
    go_wp2_with (first | (go_at_call 28; refine (HM.out _).mono ?_; rintro e w2 ⟨rfl, hB2⟩; have HT2 := hide (HT.out.next hB2); have HB2 := hide (HB.out.trans (hB2.mono HB.out.size)); have e2 := HT2.out.c2; have e3 := HT2.out.c3; have e5 := HT2.out.c5; have e6 := HT2.out.c6; have e7 := HT2.out.c7; clear d0 d1 HT HB hB2) | (go_at_call 29; refine (HC1.out _).mono ?_; rintro e w3 ⟨rfl, hB3⟩; have HT3 := hide (HT2.out.next hB3); have HB3 := hide (HB2.out.trans (hB3.mono HB2.out.size)); have f3 := HT3.out.c3; have f5 := HT3.out.c5; have f6 := HT3.out.c6; have f7 := HT3.out.c7; clear e2 e3 e5 e6 e7 HT2 HB2 hB3 HC1) | (go_at_call 29; refine (HC2.out _).mono ?_; rintro e w4 ⟨rfl, hB4⟩; have HB4 := hide (HB3.out.trans (hB4.mono HB3.out.size)); clear f3 f5 f6 f7 HT3 HB3 hB4 HC2))
    go_ret
    exact ⟨by first | rfl | (refine ret_bool ?_; simp; omega), HB3.out⟩
  rw [show R = cntB key from by rw [HR.out, h0, h1, decide_eq_true h2, decide_eq_true h3, decide_eq_true h4, decide_eq_true (show til ≤ most from h5)]; rfl]
  try rw [h0] at HM
  try rw [h1] at HC1
  clear h0
  clear h1
  clear HR
  go_enter Tryd.func15, Tryd.ntmps15
  go_wp2_with (first | (go_at_call 28; refine (HM.out _).mono ?_; rintro e w2 ⟨rfl, hB2⟩; have HT2 := hide (HT.out.next hB2); have HB2 := hide (HB.out.trans (hB2.mono HB.out.size)); have e2 := HT2.out.c2; have e3 := HT2.out.c3; have e5 := HT2.out.c5; have e6 := HT2.out.c6; have e7 := HT2.out.c7; clear d0 d1 HT HB hB2) | (go_at_call 29; refine (HC1.out _).mono ?_; rintro e w3 ⟨rfl, hB3⟩; have HT3 := hide (HT2.out.next hB3); have HB3 := hide (HB2.out.trans (hB3.mono HB2.out.size)); have f3 := HT3.out.c3; have f5 := HT3.out.c5; have f6 := HT3.out.c6; have f7 := HT3.out.c7; clear e2 e3 e5 e6 e7 HT2 HB2 hB3 HC1) | (go_at_call 29; refine (HC2.out _).mono ?_; rintro e w4 ⟨rfl, hB4⟩; have HB4 := hide (HB3.out.trans (hB4.mono HB3.out.size)); clear f3 f5 f6 f7 HT3 HB3 hB4 HC2))
  go_ret
  exact ⟨by first | rfl | (refine ret_bool ?_; simp; omega), HB4.out⟩

set_option maxRecDepth 100000 in
set_option maxHeartbeats 1000000 in
theorem tmayR_any (t : Tk) (ht : t.ok) (w : World) : Calls Tryd.prog 16 #[.agg (tkA t)] w (fun e w' => e = .returned (.bool (mayT t)) ∧ Below w.heap.size w w') := by
  have HM := hide (mayNR_any t.nm (Nat.le_trans ht.ns (by omega)) (Nat.le_trans ht.sa (by omega)))
  have HB := hide ((Below.refl w.heap.size w).alloc (Nat.le_refl _) (.cells (tkA t) 31))
  have HT := hide (TBox.new w t)
  have HR : Hid (mayT t = (mayN t.nm && cntB t.uid && (decide (1 ≤ t.host) && decide (t.host ≤ 9)) && decide (t.born < t.til) && decide (t.til ≤ most) && cntB t.key)) := hide rfl
  have d0 := HT.out.c0
  have d1 := HT.out.c1
  obtain ⟨ns, sa, uid, host, addr, born, til, key, mac⟩ := t
  clear ht
  dsimp only [Tk.nm] at *
  generalize mayT ⟨ns, sa, uid, host, addr, born, til, key, mac⟩ = R at HR ⊢
  generalize mayN ⟨ns, sa⟩ = B0 at HR HM
  generalize tkA ⟨ns, sa, uid, host, addr, born, til, key, mac⟩ = TA at HB HT d0 d1 ⊢
  by_cases h0 : B0 = true
  rotate_left
  · replace h0 : B0 = false := by simpa using h0
    rw [show R = false from by rw [HR.out, h0]; simp]
    rw [h0] at HM
    try rw [h0] at HM
    clear h0
    clear HR
    go_enter Tryd.func16, Tryd.ntmps16
    go_wp2_with ((go_at_call 30; refine (HM.out _).mono ?_; rintro e w2 ⟨rfl, hB2⟩; have HT2 := hide (HT.out.next hB2); have HB2 := hide (HB.out.trans (hB2.mono HB.out.size)); have e2 := HT2.out.c2; have e3 := HT2.out.c3; have e5 := HT2.out.c5; have e6 := HT2.out.c6; have e7 := HT2.out.c7; clear d0 d1 HT HB hB2))
    go_ret
    exact ⟨by first | rfl | (refine ret_bool ?_; simp; omega), HB2.out⟩
  by_cases h1 : 0 < uid
  rotate_left
  · rw [show R = false from by rw [HR.out]; simp [cntB, most]; omega]
    try rw [h0] at HM
    clear h0
    clear HR
    go_enter Tryd.func16, Tryd.ntmps16
    go_wp2_with ((go_at_call 30; refine (HM.out _).mono ?_; rintro e w2 ⟨rfl, hB2⟩; have HT2 := hide (HT.out.next hB2); have HB2 := hide (HB.out.trans (hB2.mono HB.out.size)); have e2 := HT2.out.c2; have e3 := HT2.out.c3; have e5 := HT2.out.c5; have e6 := HT2.out.c6; have e7 := HT2.out.c7; clear d0 d1 HT HB hB2))
    go_ret
    exact ⟨by first | rfl | (refine ret_bool ?_; simp; omega), HB2.out⟩
  by_cases h2 : uid ≤ 4611686018427387903
  rotate_left
  · rw [show R = false from by rw [HR.out, cnt_hi (show ¬ uid ≤ most from h2)]; simp]
    try rw [h0] at HM
    clear h0
    clear HR
    go_enter Tryd.func16, Tryd.ntmps16
    go_wp2_with ((go_at_call 30; refine (HM.out _).mono ?_; rintro e w2 ⟨rfl, hB2⟩; have HT2 := hide (HT.out.next hB2); have HB2 := hide (HB.out.trans (hB2.mono HB.out.size)); have e2 := HT2.out.c2; have e3 := HT2.out.c3; have e5 := HT2.out.c5; have e6 := HT2.out.c6; have e7 := HT2.out.c7; clear d0 d1 HT HB hB2))
    go_ret
    exact ⟨by first | rfl | (refine ret_bool ?_; simp; omega), HB2.out⟩
  by_cases h3 : 0 < host
  rotate_left
  · rw [show R = false from by rw [HR.out]; simp [cntB, most]; omega]
    try rw [h0] at HM
    clear h0
    clear HR
    go_enter Tryd.func16, Tryd.ntmps16
    go_wp2_with ((go_at_call 30; refine (HM.out _).mono ?_; rintro e w2 ⟨rfl, hB2⟩; have HT2 := hide (HT.out.next hB2); have HB2 := hide (HB.out.trans (hB2.mono HB.out.size)); have e2 := HT2.out.c2; have e3 := HT2.out.c3; have e5 := HT2.out.c5; have e6 := HT2.out.c6; have e7 := HT2.out.c7; clear d0 d1 HT HB hB2))
    go_ret
    exact ⟨by first | rfl | (refine ret_bool ?_; simp; omega), HB2.out⟩
  by_cases h4 : host ≤ 9
  rotate_left
  · rw [show R = false from by rw [HR.out]; simp [cntB, most]; omega]
    try rw [h0] at HM
    clear h0
    clear HR
    go_enter Tryd.func16, Tryd.ntmps16
    go_wp2_with ((go_at_call 30; refine (HM.out _).mono ?_; rintro e w2 ⟨rfl, hB2⟩; have HT2 := hide (HT.out.next hB2); have HB2 := hide (HB.out.trans (hB2.mono HB.out.size)); have e2 := HT2.out.c2; have e3 := HT2.out.c3; have e5 := HT2.out.c5; have e6 := HT2.out.c6; have e7 := HT2.out.c7; clear d0 d1 HT HB hB2))
    go_ret
    exact ⟨by first | rfl | (refine ret_bool ?_; simp; omega), HB2.out⟩
  by_cases h5 : born < til
  rotate_left
  · rw [show R = false from by rw [HR.out]; simp [cntB, most]; omega]
    try rw [h0] at HM
    clear h0
    clear HR
    go_enter Tryd.func16, Tryd.ntmps16
    go_wp2_with ((go_at_call 30; refine (HM.out _).mono ?_; rintro e w2 ⟨rfl, hB2⟩; have HT2 := hide (HT.out.next hB2); have HB2 := hide (HB.out.trans (hB2.mono HB.out.size)); have e2 := HT2.out.c2; have e3 := HT2.out.c3; have e5 := HT2.out.c5; have e6 := HT2.out.c6; have e7 := HT2.out.c7; clear d0 d1 HT HB hB2))
    go_ret
    exact ⟨by first | rfl | (refine ret_bool ?_; simp; omega), HB2.out⟩
  by_cases h6 : til ≤ 4611686018427387903
  rotate_left
  · rw [show R = false from by rw [HR.out, decide_eq_false (show ¬ til ≤ most from h6)]; simp]
    try rw [h0] at HM
    clear h0
    clear HR
    go_enter Tryd.func16, Tryd.ntmps16
    go_wp2_with ((go_at_call 30; refine (HM.out _).mono ?_; rintro e w2 ⟨rfl, hB2⟩; have HT2 := hide (HT.out.next hB2); have HB2 := hide (HB.out.trans (hB2.mono HB.out.size)); have e2 := HT2.out.c2; have e3 := HT2.out.c3; have e5 := HT2.out.c5; have e6 := HT2.out.c6; have e7 := HT2.out.c7; clear d0 d1 HT HB hB2))
    go_ret
    exact ⟨by first | rfl | (refine ret_bool ?_; simp; omega), HB2.out⟩
  by_cases h7 : 0 < key
  rotate_left
  · rw [show R = false from by rw [HR.out]; simp [cntB, most]; omega]
    try rw [h0] at HM
    clear h0
    clear HR
    go_enter Tryd.func16, Tryd.ntmps16
    go_wp2_with ((go_at_call 30; refine (HM.out _).mono ?_; rintro e w2 ⟨rfl, hB2⟩; have HT2 := hide (HT.out.next hB2); have HB2 := hide (HB.out.trans (hB2.mono HB.out.size)); have e2 := HT2.out.c2; have e3 := HT2.out.c3; have e5 := HT2.out.c5; have e6 := HT2.out.c6; have e7 := HT2.out.c7; clear d0 d1 HT HB hB2))
    go_ret
    exact ⟨by first | rfl | (refine ret_bool ?_; simp; omega), HB2.out⟩
  have hx : decide ((key : Int) ≤ 4611686018427387903) = R := by
    rw [HR.out, h0, show cntB uid = true from cnt_true h1 h2, decide_eq_true (show 1 ≤ host from by omega), decide_eq_true h4, decide_eq_true h5, decide_eq_true (show til ≤ most from h6), cntB, decide_eq_true (show 1 ≤ key from h7), most, decide_eq_decide.2 (show (key : Int) ≤ 4611686018427387903 ↔ key ≤ 4611686018427387903 from by omega)]
    rfl
  try rw [h0] at HM
  clear h0
  clear HR
  go_enter Tryd.func16, Tryd.ntmps16
  go_wp2_with ((go_at_call 30; refine (HM.out _).mono ?_; rintro e w2 ⟨rfl, hB2⟩; have HT2 := hide (HT.out.next hB2); have HB2 := hide (HB.out.trans (hB2.mono HB.out.size)); have e2 := HT2.out.c2; have e3 := HT2.out.c3; have e5 := HT2.out.c5; have e6 := HT2.out.c6; have e7 := HT2.out.c7; clear d0 d1 HT HB hB2))
  go_ret
  exact ⟨by first | rfl | (refine ret_bool ?_; simp; omega), HB2.out⟩

end Go.Proofs.YtaomigfmjglggaaDoor
