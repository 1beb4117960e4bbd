/- ParseNet, of the program and of the document; MayPort. -/
import Derived.Test.YtgikkjjnoakhdaaDoorAdParse
import Derived.Test.YtgikkjjnoakhdaaDoorAdRefI
import Derived.Test.YtgikkjjnoakhdaaDoorAdHalf
namespace Go.Proofs.YtgikkjjnoakhdaaDoor
open Go.RowKit Go.Lib

def pnet (x y : Option Nat) : Option Net := match x, y with
  | some a, some b => if mayB ⟨a, b⟩ = true then some ⟨a, b⟩ else none
  | _, _ => none
theorem pnet_left (y : Option Nat) : pnet none y = none := rfl
theorem pnet_right (x : Option Nat) : pnet x none = none := by cases x <;> rfl
theorem pnet_both (a b : Nat) : pnet (some a) (some b) = if mayB ⟨a, b⟩ = true then some ⟨a, b⟩ else none := rfl
theorem num_slash {l : List UInt8} (h : (47 : UInt8) ∈ l) : numS 32 l = none := by
  cases hn : numS 32 l with
  | none => rfl
  | some n =>
    have := ((numS_iff _ _ _).1 hn).2
    rw [this] at h
    exact absurd h (decDigits_not n 47 (by decide))
theorem cutL_two {c : UInt8} {l : List UInt8} (h : c ∈ l) : 2 ≤ (cutL c l).length := by
  rcases split_at c l with h1 | ⟨p, r, rfl, hp⟩
  · exact absurd h h1
  · rw [cutL_hit c r p hp]
    have := List.length_pos_iff.2 (cutL_ne c r)
    simp
    omega
theorem parseNet_cut (l : List UInt8) : parseNetS l = pnet (parseS (Lib.cut l [47]).1) (numS 32 (Lib.cut l [47]).2.1) := by
  rcases split_at 47 l with h | ⟨p, r, rfl, hp⟩
  · rw [cut_miss 47 l h]
    unfold parseNetS
    rw [cutL_one 47 l h]
    show none = pnet (parseS l) (numS 32 [])
    rw [num_empty, pnet_right]
  · rw [cut_hit 47 p r hp]
    dsimp only
    by_cases hr : (47 : UInt8) ∈ r
    · rw [num_slash hr, pnet_right]
      unfold parseNetS
      rw [cutL_hit 47 r p hp]
      have h2 := cutL_two hr
      match hc : cutL 47 r with
      | [] => rfl
      | [a] => rw [hc] at h2; simp at h2
      | a :: b :: m => rfl
    · unfold parseNetS
      rw [cutL_hit 47 r p hp, cutL_one 47 r hr]
      rfl
theorem cut_le (l : List UInt8) : (Lib.cut l [47]).1.length ≤ l.length ∧ (Lib.cut l [47]).2.1.length ≤ l.length := by
  rcases split_at 47 l with h | ⟨p, r, rfl, hp⟩
  · rw [cut_miss 47 l h]
    simp
  · rw [cut_hit 47 p r hp]
    simp
    omega

/-- What ParseNet answers. -/
def PNetPost (w : World) (r : Option Net) (e : Ending) (w' : World) : Prop := e = .returned (.tuple #[(r.getD ⟨0, 0⟩).val, .int .i64 (if r.isSome = true then 0 else 2)]) ∧ Below w.heap.size w w'
theorem pnet_zero : (Net.val ⟨0, 0⟩) = .agg #[.int .u32 0, .int .i64 0] := rfl

theorem BoxAt.zero (w : World) : BoxAt (w.alloc (.cells #[.int .u32 0, .int .i64 0] 24)) w.heap.size 0 0 := BoxAt.new w 0 0

set_option maxRecDepth 100000 in
set_option maxHeartbeats 1000000 in
theorem parseNet_any (s : ByteArray) (hs : s.size < 100000) (w : World) (hE : Env w) : Calls Tryd.prog 13 #[.string s] w (PNetPost w (parseNetS s.data.toList)) := by
  have hsz : s.data.toList.length = s.size := by rw [Array.length_toList]; rfl
  have HCUT := hide (fun W hE => cut_any s (by omega) W hE)
  rw [parseNet_cut]
  have hle := cut_le s.data.toList
  generalize (Lib.cut s.data.toList [47]).1 = h at *
  generalize (Lib.cut s.data.toList [47]).2.1 = t at *
  generalize (Lib.cut s.data.toList [47]).2.2 = f at *
  have HPA := hide (fun W hE => parse_any ⟨h.toArray⟩ (by show h.toArray.size < 100000; simp; omega) W hE)
  have HNU := hide (fun W => number_b ⟨t.toArray⟩ 32 (by omega) (by show t.toArray.size ≤ 9223372036854775807; simp; omega) rfl W)
  have e1 : (⟨h.toArray⟩ : ByteArray).data.toList = h := by simp
  have e2 : (⟨t.toArray⟩ : ByteArray).data.toList = t := by simp
  rw [e1] at HPA
  rw [e2] at HNU
  have HLT := hide (fun a (ha : parseS h = some a) => (print_parse h a ha).2)
  generalize parseS h = x at *
  generalize numS 32 t = y at *
  unfold ParPost at HPA
  unfold PNetPost
  cases x with
  | none =>
    rw [pnet_left]
    have HPA : Hid (∀ W : World, Env W → Calls Tryd.prog 11 #[.string ⟨h.toArray⟩] W (fun e w' => e = .returned (.tuple #[.int .u32 0, .int .i64 2]) ∧ Below W.heap.size W w')) := hide HPA.out
    obtain ⟨z, hz⟩ : ∃ z, y.getD 0 = z := ⟨_, rfl⟩
    obtain ⟨ok, hok⟩ : ∃ z, y.isSome = z := ⟨_, rfl⟩
    rw [hz, hok] at HNU
    clear hz hok
    have HNU : Hid (∀ W : World, Calls Tryd.prog 36 #[.string ⟨t.toArray⟩, .int .i64 32] W (fun e w' => e = .returned (.tuple #[.int .i64 (z : Nat), .bool ok]) ∧ Below W.heap.size W w')) := hide HNU.out
    have HE := hide hE
    have HX0 := hide (BoxAt.zero w)
    have HBX := hide ((Below.refl w.heap.size w).alloc (Nat.le_refl _) (.cells #[.int .u32 0, .int .i64 0] 24))
    clear hle e1 e2 hE hsz HLT
    go_enter Tryd.func13, Tryd.ntmps13
    go_wp2_with fail
    generalize w.alloc (.cells #[.int .u32 0, .int .i64 0] 24) = W1 at *
    obtain ⟨g, hg⟩ : ∃ g, w.heap.size = g := ⟨_, rfl⟩
    rw [hg] at HX0 ⊢
    have HG := hide hg
    clear hg
    refine (HCUT.out _ (HE.out.below HBX.out)).mono ?_
    rintro e w2 ⟨rfl, hB⟩
    have HX2 := hide (HX0.out.below_b hB)
    have HB2 := hide (HBX.out.trans (hB.mono HBX.out.size))
    clear hB HBX HX0
    go_wp2_with fail
    refine (HPA.out _ (HE.out.below HB2.out)).mono ?_
    rintro e w3 ⟨rfl, hB⟩
    have HX3 := hide (HX2.out.below_b hB)
    have HB3 := hide (HB2.out.trans (hB.mono HB2.out.size))
    clear hB HB2 HX2
    go_wp2_with fail
    refine (HNU.out _).mono ?_
    rintro e w4 ⟨rfl, hB⟩
    have HX4 := hide (HX3.out.below_b hB)
    have HB4 := hide (HB3.out.trans (hB.mono HB3.out.size))
    clear hB HB3 HX3
    have hx5 := (HX4.out.below_b ((Below.refl w4.heap.size w4).alloc (Nat.le_refl _) (.cells #[.int .u32 0, .int .i64 (z : Nat)] 24)))
    have HY5 : Hid (BoxAt (w4.alloc (.cells #[.int .u32 0, .int .i64 (z : Nat)] 24)) w4.heap.size 0 (z : Nat)) := hide (BoxAt.new w4 0 (z : Nat))
    have HB5 := hide (HB4.out.alloc HB4.out.size (.cells #[.int .u32 0, .int .i64 (z : Nat)] 24))
    have d0 : (w4.alloc (.cells #[.int .u32 0, .int .i64 (z : Nat)] 24)).cell? ⟨g, 0, none⟩ = some (.int .u32 0) := hx5.c0
    have d1 : (w4.alloc (.cells #[.int .u32 0, .int .i64 (z : Nat)] 24)).cell? ⟨g, 1, none⟩ = some (.int .i64 0) := hx5.c1
    have f0 := hx5.frozen 0
    have f1 := hx5.frozen 1
    have HX5 := hide hx5
    clear hx5
    go_wp2_with fail
    have HXF : Hid (BoxAt (((w4.alloc (.cells #[.int .u32 0, .int .i64 (z : Nat)] 24)).setCell ⟨g, 0, none⟩ (.int .u32 0)).setCell ⟨g, 1, none⟩ (.int .i64 0)) g 0 0) := hide (HX5.out.st 0 0)
    have HBF := hide ((HB5.out.setCell (p := ⟨g, 0, none⟩) (Nat.le_of_eq HG.out) (.int .u32 0)).setCell (p := ⟨g, 1, none⟩) (Nat.le_of_eq HG.out) (.int .i64 0))
    clear d0 d1 f0 f1
    generalize ((w4.alloc (.cells #[.int .u32 0, .int .i64 (z : Nat)] 24)).setCell ⟨g, 0, none⟩ (.int .u32 0)).setCell ⟨g, 1, none⟩ (.int .i64 0) = WF at *
    have r0 : WF.cell? ⟨g, 0, none⟩ = some (.int .u32 0) := HXF.out.c0
    have r1 : WF.cell? ⟨g, 1, none⟩ = some (.int .i64 0) := HXF.out.c1
    exact bodyPost_ret (v := .tuple #[.agg #[.int .u32 0, .int .i64 0], .int .i64 2]) (by simp [results, Tryd.results13, go_sem, r0, r1]) rfl ⟨rfl, HBF.out⟩
  | some a =>
    cases y with
    | none =>
      rw [pnet_right]
      have HPA : Hid (∀ W : World, Env W → Calls Tryd.prog 11 #[.string ⟨h.toArray⟩] W (fun e w' => e = .returned (.tuple #[.int .u32 (a : Nat), .int .i64 0]) ∧ Below W.heap.size W w')) := hide HPA.out
      have HNU : Hid (∀ W : World, Calls Tryd.prog 36 #[.string ⟨t.toArray⟩, .int .i64 32] W (fun e w' => e = .returned (.tuple #[.int .i64 0, .bool false]) ∧ Below W.heap.size W w')) := hide HNU.out
      have HE := hide hE
      have HX0 := hide (BoxAt.zero w)
      have HBX := hide ((Below.refl w.heap.size w).alloc (Nat.le_refl _) (.cells #[.int .u32 0, .int .i64 0] 24))
      clear hle e1 e2 hE hsz HLT
      go_enter Tryd.func13, Tryd.ntmps13
      go_wp2_with fail
      generalize w.alloc (.cells #[.int .u32 0, .int .i64 0] 24) = W1 at *
      obtain ⟨g, hg⟩ : ∃ g, w.heap.size = g := ⟨_, rfl⟩
      rw [hg] at HX0 ⊢
      have HG := hide hg
      clear hg
      refine (HCUT.out _ (HE.out.below HBX.out)).mono ?_
      rintro e w2 ⟨rfl, hB⟩
      have HX2 := hide (HX0.out.below_b hB)
      have HB2 := hide (HBX.out.trans (hB.mono HBX.out.size))
      clear hB HBX HX0
      go_wp2_with fail
      refine (HPA.out _ (HE.out.below HB2.out)).mono ?_
      rintro e w3 ⟨rfl, hB⟩
      have HX3 := hide (HX2.out.below_b hB)
      have HB3 := hide (HB2.out.trans (hB.mono HB2.out.size))
      clear hB HB2 HX2
      go_wp2_with fail
      refine (HNU.out _).mono ?_
      rintro e w4 ⟨rfl, hB⟩
      have HX4 := hide (HX3.out.below_b hB)
      have HB4 := hide (HB3.out.trans (hB.mono HB3.out.size))
      clear hB HB3 HX3
      have hx5 := (HX4.out.below_b ((Below.refl w4.heap.size w4).alloc (Nat.le_refl _) (.cells #[.int .u32 (a : Nat), .int .i64 0] 24)))
      have HY5 : Hid (BoxAt (w4.alloc (.cells #[.int .u32 (a : Nat), .int .i64 0] 24)) w4.heap.size a 0) := hide (BoxAt.new w4 a 0)
      have HB5 := hide (HB4.out.alloc HB4.out.size (.cells #[.int .u32 (a : Nat), .int .i64 0] 24))
      have d0 : (w4.alloc (.cells #[.int .u32 (a : Nat), .int .i64 0] 24)).cell? ⟨g, 0, none⟩ = some (.int .u32 0) := hx5.c0
      have d1 : (w4.alloc (.cells #[.int .u32 (a : Nat), .int .i64 0] 24)).cell? ⟨g, 1, none⟩ = some (.int .i64 0) := hx5.c1
      have f0 := hx5.frozen 0
      have f1 := hx5.frozen 1
      have HX5 := hide hx5
      clear hx5
      go_wp2_with fail
      have HXF : Hid (BoxAt (((w4.alloc (.cells #[.int .u32 (a : Nat), .int .i64 0] 24)).setCell ⟨g, 0, none⟩ (.int .u32 0)).setCell ⟨g, 1, none⟩ (.int .i64 0)) g 0 0) := hide (HX5.out.st 0 0)
      have HBF := hide ((HB5.out.setCell (p := ⟨g, 0, none⟩) (Nat.le_of_eq HG.out) (.int .u32 0)).setCell (p := ⟨g, 1, none⟩) (Nat.le_of_eq HG.out) (.int .i64 0))
      clear d0 d1 f0 f1
      generalize ((w4.alloc (.cells #[.int .u32 (a : Nat), .int .i64 0] 24)).setCell ⟨g, 0, none⟩ (.int .u32 0)).setCell ⟨g, 1, none⟩ (.int .i64 0) = WF at *
      have r0 : WF.cell? ⟨g, 0, none⟩ = some (.int .u32 0) := HXF.out.c0
      have r1 : WF.cell? ⟨g, 1, none⟩ = some (.int .i64 0) := HXF.out.c1
      exact bodyPost_ret (v := .tuple #[.agg #[.int .u32 0, .int .i64 0], .int .i64 2]) (by simp [results, Tryd.results13, go_sem, r0, r1]) rfl ⟨rfl, HBF.out⟩
    | some b =>
      rw [pnet_both]
      cases hm : mayB ⟨a, b⟩ with
      | false =>
        rw [if_neg (by simp)]
        have HPA : Hid (∀ W : World, Env W → Calls Tryd.prog 11 #[.string ⟨h.toArray⟩] W (fun e w' => e = .returned (.tuple #[.int .u32 (a : Nat), .int .i64 0]) ∧ Below W.heap.size W w')) := hide HPA.out
        have HNU : Hid (∀ W : World, Calls Tryd.prog 36 #[.string ⟨t.toArray⟩, .int .i64 32] W (fun e w' => e = .returned (.tuple #[.int .i64 (b : Nat), .bool true]) ∧ Below W.heap.size W w')) := hide HNU.out
        have ha := HLT.out a rfl
        have HM := hide (fun W => may_any ⟨a, b⟩ ha W)
        unfold Net.val at HM
        rw [hm] at HM
        clear hm ha
        have HE := hide hE
        have HX0 := hide (BoxAt.zero w)
        have HBX := hide ((Below.refl w.heap.size w).alloc (Nat.le_refl _) (.cells #[.int .u32 0, .int .i64 0] 24))
        clear hle e1 e2 hE hsz HLT
        go_enter Tryd.func13, Tryd.ntmps13
        go_wp2_with fail
        generalize w.alloc (.cells #[.int .u32 0, .int .i64 0] 24) = W1 at *
        obtain ⟨g, hg⟩ : ∃ g, w.heap.size = g := ⟨_, rfl⟩
        rw [hg] at HX0 ⊢
        have HG := hide hg
        clear hg
        refine (HCUT.out _ (HE.out.below HBX.out)).mono ?_
        rintro e w2 ⟨rfl, hB⟩
        have HX2 := hide (HX0.out.below_b hB)
        have HB2 := hide (HBX.out.trans (hB.mono HBX.out.size))
        clear hB HBX HX0
        go_wp2_with fail
        refine (HPA.out _ (HE.out.below HB2.out)).mono ?_
        rintro e w3 ⟨rfl, hB⟩
        have HX3 := hide (HX2.out.below_b hB)
        have HB3 := hide (HB2.out.trans (hB.mono HB2.out.size))
        clear hB HB2 HX2
        go_wp2_with fail
        refine (HNU.out _).mono ?_
        rintro e w4 ⟨rfl, hB⟩
        have HX4 := hide (HX3.out.below_b hB)
        have HB4 := hide (HB3.out.trans (hB.mono HB3.out.size))
        clear hB HB3 HX3
        have hx5 := (HX4.out.below_b ((Below.refl w4.heap.size w4).alloc (Nat.le_refl _) (.cells #[.int .u32 (a : Nat), .int .i64 (b : Nat)] 24)))
        have HY5 : Hid (BoxAt (w4.alloc (.cells #[.int .u32 (a : Nat), .int .i64 (b : Nat)] 24)) w4.heap.size a (b : Nat)) := hide (BoxAt.new w4 a (b : Nat))
        have HB5 := hide (HB4.out.alloc HB4.out.size (.cells #[.int .u32 (a : Nat), .int .i64 (b : Nat)] 24))
        have d0 : (w4.alloc (.cells #[.int .u32 (a : Nat), .int .i64 (b : Nat)] 24)).cell? ⟨g, 0, none⟩ = some (.int .u32 0) := hx5.c0
        have d1 : (w4.alloc (.cells #[.int .u32 (a : Nat), .int .i64 (b : Nat)] 24)).cell? ⟨g, 1, none⟩ = some (.int .i64 0) := hx5.c1
        have f0 := hx5.frozen 0
        have f1 := hx5.frozen 1
        have HX5 := hide hx5
        clear hx5
        have HL4 := hide HX4.out.lt
        go_wp2_with fail
        refine (HM.out _).mono ?_
        rintro e w5 ⟨rfl, hB⟩
        clear d0 d1 f0 f1
        have HX6 := hide (HX5.out.below_b hB)
        have HY6 := hide (HY5.out.below_b hB)
        have HB6 := hide (HB5.out.trans (hB.mono HB5.out.size))
        clear hB
        have d0 : w5.cell? ⟨g, 0, none⟩ = some (.int .u32 0) := HX6.out.c0
        have d1 : w5.cell? ⟨g, 1, none⟩ = some (.int .i64 0) := HX6.out.c1
        have f0 := HX6.out.frozen 0
        have f1 := HX6.out.frozen 1
        go_wp2_with fail
        have HXF : Hid (BoxAt ((w5.setCell ⟨g, 0, none⟩ (.int .u32 0)).setCell ⟨g, 1, none⟩ (.int .i64 0)) g 0 0) := hide (HX6.out.st 0 0)
        have HBF := hide ((HB6.out.setCell (p := ⟨g, 0, none⟩) (Nat.le_of_eq HG.out) (.int .u32 0)).setCell (p := ⟨g, 1, none⟩) (Nat.le_of_eq HG.out) (.int .i64 0))
        clear d0 d1 f0 f1
        generalize (w5.setCell ⟨g, 0, none⟩ (.int .u32 0)).setCell ⟨g, 1, none⟩ (.int .i64 0) = WF at *
        have r0 : WF.cell? ⟨g, 0, none⟩ = some (.int .u32 0) := HXF.out.c0
        have r1 : WF.cell? ⟨g, 1, none⟩ = some (.int .i64 0) := HXF.out.c1
        exact bodyPost_ret (v := .tuple #[.agg #[.int .u32 0, .int .i64 0], .int .i64 2]) (by simp [results, Tryd.results13, go_sem, r0, r1]) rfl ⟨rfl, HBF.out⟩
      | true =>
        rw [if_pos rfl]
        have HPA : Hid (∀ W : World, Env W → Calls Tryd.prog 11 #[.string ⟨h.toArray⟩] W (fun e w' => e = .returned (.tuple #[.int .u32 (a : Nat), .int .i64 0]) ∧ Below W.heap.size W w')) := hide HPA.out
        have HNU : Hid (∀ W : World, Calls Tryd.prog 36 #[.string ⟨t.toArray⟩, .int .i64 32] W (fun e w' => e = .returned (.tuple #[.int .i64 (b : Nat), .bool true]) ∧ Below W.heap.size W w')) := hide HNU.out
        have ha := HLT.out a rfl
        have HM := hide (fun W => may_any ⟨a, b⟩ ha W)
        unfold Net.val at HM
        rw [hm] at HM
        clear hm ha
        have HE := hide hE
        have HX0 := hide (BoxAt.zero w)
        have HBX := hide ((Below.refl w.heap.size w).alloc (Nat.le_refl _) (.cells #[.int .u32 0, .int .i64 0] 24))
        clear hle e1 e2 hE hsz HLT
        go_enter Tryd.func13, Tryd.ntmps13
        go_wp2_with fail
        generalize w.alloc (.cells #[.int .u32 0, .int .i64 0] 24) = W1 at *
        obtain ⟨g, hg⟩ : ∃ g, w.heap.size = g := ⟨_, rfl⟩
        rw [hg] at HX0 ⊢
        have HG := hide hg
        clear hg
        refine (HCUT.out _ (HE.out.below HBX.out)).mono ?_
        rintro e w2 ⟨rfl, hB⟩
        have HX2 := hide (HX0.out.below_b hB)
        have HB2 := hide (HBX.out.trans (hB.mono HBX.out.size))
        clear hB HBX HX0
        go_wp2_with fail
        refine (HPA.out _ (HE.out.below HB2.out)).mono ?_
        rintro e w3 ⟨rfl, hB⟩
        have HX3 := hide (HX2.out.below_b hB)
        have HB3 := hide (HB2.out.trans (hB.mono HB2.out.size))
        clear hB HB2 HX2
        go_wp2_with fail
        refine (HNU.out _).mono ?_
        rintro e w4 ⟨rfl, hB⟩
        have HX4 := hide (HX3.out.below_b hB)
        have HB4 := hide (HB3.out.trans (hB.mono HB3.out.size))
        clear hB HB3 HX3
        have hx5 := (HX4.out.below_b ((Below.refl w4.heap.size w4).alloc (Nat.le_refl _) (.cells #[.int .u32 (a : Nat), .int .i64 (b : Nat)] 24)))
        have HY5 : Hid (BoxAt (w4.alloc (.cells #[.int .u32 (a : Nat), .int .i64 (b : Nat)] 24)) w4.heap.size a (b : Nat)) := hide (BoxAt.new w4 a (b : Nat))
        have HB5 := hide (HB4.out.alloc HB4.out.size (.cells #[.int .u32 (a : Nat), .int .i64 (b : Nat)] 24))
        have d0 : (w4.alloc (.cells #[.int .u32 (a : Nat), .int .i64 (b : Nat)] 24)).cell? ⟨g, 0, none⟩ = some (.int .u32 0) := hx5.c0
        have d1 : (w4.alloc (.cells #[.int .u32 (a : Nat), .int .i64 (b : Nat)] 24)).cell? ⟨g, 1, none⟩ = some (.int .i64 0) := hx5.c1
        have f0 := hx5.frozen 0
        have f1 := hx5.frozen 1
        have HX5 := hide hx5
        clear hx5
        have HL4 := hide HX4.out.lt
        go_wp2_with fail
        refine (HM.out _).mono ?_
        rintro e w5 ⟨rfl, hB⟩
        clear d0 d1 f0 f1
        have HX6 := hide (HX5.out.below_b hB)
        have HY6 := hide (HY5.out.below_b hB)
        have HB6 := hide (HB5.out.trans (hB.mono HB5.out.size))
        clear hB
        have d0 : w5.cell? ⟨g, 0, none⟩ = some (.int .u32 0) := HX6.out.c0
        have d1 : w5.cell? ⟨g, 1, none⟩ = some (.int .i64 0) := HX6.out.c1
        have f0 := HX6.out.frozen 0
        have f1 := HX6.out.frozen 1
        have y0 := HY6.out.c0
        have y1 := HY6.out.c1
        go_wp2_with fail
        have HXF : Hid (BoxAt ((w5.setCell ⟨g, 0, none⟩ (.int .u32 (a : Nat))).setCell ⟨g, 1, none⟩ (.int .i64 (b : Nat))) g a (b : Nat)) := hide (HX6.out.st a (b : Nat))
        have HBF := hide ((HB6.out.setCell (p := ⟨g, 0, none⟩) (Nat.le_of_eq HG.out) (.int .u32 (a : Nat))).setCell (p := ⟨g, 1, none⟩) (Nat.le_of_eq HG.out) (.int .i64 (b : Nat)))
        clear d0 d1 f0 f1
        generalize (w5.setCell ⟨g, 0, none⟩ (.int .u32 (a : Nat))).setCell ⟨g, 1, none⟩ (.int .i64 (b : Nat)) = WF at *
        have r0 : WF.cell? ⟨g, 0, none⟩ = some (.int .u32 (a : Nat)) := HXF.out.c0
        have r1 : WF.cell? ⟨g, 1, none⟩ = some (.int .i64 (b : Nat)) := HXF.out.c1
        exact bodyPost_ret (v := .tuple #[.agg #[.int .u32 (a : Nat), .int .i64 (b : Nat)], .int .i64 0]) (by simp [results, Tryd.results13, go_sem, r0, r1]) rfl ⟨rfl, HBF.out⟩
end Go.Proofs.YtgikkjjnoakhdaaDoor
