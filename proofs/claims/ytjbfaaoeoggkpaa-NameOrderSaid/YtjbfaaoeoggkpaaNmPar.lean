/- Parse of the program. -/
import Derived.Test.YtjbfaaoeoggkpaaNmOwn
import Derived.Test.YtjbfaaoeoggkpaaNmCutP
namespace Go.Proofs.Ytjbfaaoeoggkpaa
open Go.RowKit Go.Lib

/-- What strings.Cut asks of the library's own variable. -/
def Env (w : World) : Prop := ∃ m, w.cell? ⟨0, 0, none⟩ = some (.int .i64 m)
theorem cell_lt {w : World} {p : Addr} {v : Value} (h : w.cell? p = some v) : p.block < w.heap.size := by
  apply Classical.byContradiction
  intro hn
  have : w.heap[p.block]? = none := Array.getElem?_eq_none (by omega)
  simp [World.cell?, this] at h
theorem Env.below {w w' : World} (h : Env w) (hb : Below w.heap.size w w') : Env w' := by
  obtain ⟨m, hm⟩ := h
  exact ⟨m, (hb.cell (cell_lt hm)).trans hm⟩
theorem cutpre_any (s : ByteArray) (W : World) : Calls Try.prog 24 #[.string s, .string ⟨#[115, 112, 105, 102, 102, 101, 58, 47, 47, 109, 101, 115, 104, 47, 110, 115, 47]⟩] W (fun e w' => e = .returned (.tuple #[.string ⟨(Lib.trimPrefix s.data.toList preS).toArray⟩, .bool (Lib.hasPrefix s.data.toList preS)]) ∧ w' = W) := Any.strings_CutPrefix Try.lays103 s _ W
theorem cut_any (s : ByteArray) (hs : s.size < 4294967281) (W : World) (hE : Env W) : Calls Try.prog 25 #[.string s, .string ⟨#[47, 115, 97, 47]⟩] W (fun e w' => e = .returned (.tuple #[.string ⟨(Lib.cut s.data.toList midS).1.toArray⟩, .string ⟨(Lib.cut s.data.toList midS).2.1.toArray⟩, .bool (Lib.cut s.data.toList midS).2.2]) ∧ Below W.heap.size W w') := by
  obtain ⟨m, hm⟩ := hE
  have h := Any.strings_Cut Try.lays145 s ⟨#[47, 115, 97, 47]⟩ m W hs hm
  refine h.mono ?_
  rintro e w' ⟨rfl, n, rfl⟩
  exact ⟨rfl, below_drewN5 W n⟩

def parP (r : Option Nm) : Value := .tuple #[.agg #[.string (r.getD default).ns, .string (r.getD default).sa], .int .i64 (if r.isSome = true then 0 else 2)]

set_option maxRecDepth 100000 in
set_option maxHeartbeats 400000 in
theorem parse_any (s : ByteArray) (hs : s.size ≤ 100000) (w : World) (hE : Env w) : Calls Try.prog 17 #[.string s] w (fun e w' => e = .returned (parP (parN s)) ∧ Below w.heap.size w w') := by
  have hsz := size_list s
  have LP := hideL (fun W => cutpre_any s W)
  have HX := hideL (NBox.new w (⟨#[]⟩ : ByteArray) (⟨#[]⟩ : ByteArray))
  have HB := hideL ((Below.refl w.heap.size w).alloc (Nat.le_refl _) (.cells #[.string (⟨#[]⟩ : ByteArray), .string (⟨#[]⟩ : ByteArray)] 23))
  cases hp : Lib.hasPrefix s.data.toList preS with
  | false =>
    rw [parN_none (pre_not hp)]
    rw [hp] at LP
    generalize (Lib.trimPrefix s.data.toList preS).toArray = tp at LP
    clear hp hE
    have f0 := HX.out.frozen 0
    have f1 := HX.out.frozen 1
    have c0 := HX.out.c0
    have c1 := HX.out.c1
    go_enter Try.func17, Try.ntmps17
    go_wp2_with (go_at_call 24; refine (LP.out _).mono ?_; rintro e w2 ⟨rfl, rfl⟩)
    have HXF := HX
    have HBF := HB
    generalize (w.alloc (.cells #[.string (⟨#[]⟩ : ByteArray), .string (⟨#[]⟩ : ByteArray)] 23)) = WF at *
    clear f0 f1 c0 c1
    have r0 := HXF.out.c0
    have r1 := HXF.out.c1
    exact bodyPost_ret (v := parP none) (by simp [results, Try.results17, go_sem, r0, r1]; rfl) rfl ⟨rfl, HBF.out⟩
  | true =>
    rw [hp] at LP
    have ht : Lib.trimPrefix s.data.toList preS = s.data.toList.drop 17 := by unfold Lib.trimPrefix; rw [hp]; rfl
    rw [ht] at LP
    have HE := hideL (hE.below HB.out)
    obtain ⟨r, hr⟩ : ∃ r : ByteArray, (⟨(s.data.toList.drop 17).toArray⟩ : ByteArray) = r := ⟨_, rfl⟩
    have hrl : r.data.toList = s.data.toList.drop 17 := by rw [← hr]
    rw [hr] at LP
    have hrs : r.size ≤ 100000 := by rw [← size_list, hrl, List.length_drop, hsz]; omega
    have LC := hideL (fun W (hE : Env W) => cut_any r (by omega) W hE)
    have hsm := @cut_size r.data.toList
    have hsome := fun a b f h => @cut_some s.data.toList a b f hp h
    have hnone := fun a b f h => @cut_none s.data.toList a b f h
    rw [← hrl] at hsome hnone
    obtain ⟨⟨a, b, f⟩, hc⟩ : ∃ c, Lib.cut r.data.toList midS = c := ⟨_, rfl⟩
    rw [hc] at LC hsm hsome hnone
    dsimp only at LC hsm
    obtain ⟨h1, h2⟩ := hsm
    rw [size_list] at h1 h2
    replace hsome := hsome a b f rfl
    replace hnone := hnone a b f rfl
    obtain ⟨x, hx⟩ : ∃ x : ByteArray, (⟨a.toArray⟩ : ByteArray) = x := ⟨_, rfl⟩
    obtain ⟨y, hy⟩ : ∃ x : ByteArray, (⟨b.toArray⟩ : ByteArray) = x := ⟨_, rfl⟩
    have hxl : a = x.data.toList := by rw [← hx]
    have hyl : b = y.data.toList := by rw [← hy]
    rw [hx, hy] at LC
    rw [hxl] at h1 hsome hnone
    rw [hyl] at h2 hsome hnone
    rw [size_list] at h1 h2
    have LM := hideL (may_any ⟨x, y⟩ (by show x.size ≤ _; omega) (by show y.size ≤ _; omega))
    have LO := hideL (own_any ⟨x, y⟩ (by show x.size ≤ _; omega) (by show y.size ≤ _; omega))
    clear hx hy hxl hyl hc hr hrl h1 h2 hrs ht hp hE
    unfold mayN at LM
    dsimp only at LM LO
    obtain ⟨m, hm⟩ : ∃ m, (labelS x.data.toList && labelS y.data.toList) = m := ⟨_, rfl⟩
    rw [hm] at LM hsome hnone
    clear hm
    obtain ⟨V, hV⟩ : ∃ v, parN s = v := ⟨_, rfl⟩
    have hv : V = if m = true then some ⟨x, y⟩ else none := by
      rw [← hV]
      cases m with
      | true => exact parN_some (hsome rfl)
      | false => exact parN_none (hnone rfl)
    rw [hV]
    clear hV hsome hnone a b
    cases m with
    | false =>
      obtain rfl : V = none := hv
      clear LO
      go_enter Try.func17, Try.ntmps17
      go_wp2_with (first
        | (go_at_call 24; with_reducible refine (LP.out _).mono ?_; rintro e w2 ⟨rfl, rfl⟩)
        | (go_at_call 25; with_reducible refine (LC.out _ HE.out).mono ?_; rintro e w2 ⟨rfl, hB2⟩; have HX2 := hideL ((HX.out.next hB2).next ((Below.refl _ _).alloc (Nat.le_refl _) (.cells #[.string x, .string y] 23))); have HN2 := hideL (NBox.new w2 x y); have HW2 := hideL ((HB.out.trans (hB2.mono HB.out.size)).alloc (Nat.le_trans HB.out.size hB2.size) (.cells #[.string x, .string y] 23)))
        | (go_at_call 11; with_reducible refine (LM.out _).mono ?_; rintro e w3 ⟨rfl, hB3⟩; have HX3 := hideL (HX2.out.next hB3); have c0 := HX3.out.c0; have c1 := HX3.out.c1; have f0 := HX3.out.frozen 0; have f1 := HX3.out.frozen 1; have HW3 := hideL (HW2.out.trans (hB3.mono HW2.out.size))))
      have HXF := hideL (HX3.out.st (⟨#[]⟩ : ByteArray) (⟨#[]⟩ : ByteArray))
      have HBF := hideL ((HW3.out.setCell (p := ⟨w.heap.size, 0, none⟩) (Nat.le_refl _) (.string (⟨#[]⟩ : ByteArray))).setCell (p := ⟨w.heap.size, 1, none⟩) (Nat.le_refl _) (.string (⟨#[]⟩ : ByteArray)))
      clear c0 c1 f0 f1 hB2 hB3 HX2 HX3
      generalize (w3.setCell ⟨w.heap.size, 0, none⟩ (.string (⟨#[]⟩ : ByteArray))).setCell ⟨w.heap.size, 1, none⟩ (.string (⟨#[]⟩ : ByteArray)) = WF at *
      have r0 := HXF.out.c0
      have r1 := HXF.out.c1
      exact bodyPost_ret (v := parP none) (by simp [results, Try.results17, go_sem, r0, r1]; rfl) rfl ⟨rfl, HBF.out⟩
    | true =>
      obtain rfl : V = some ⟨x, y⟩ := hv
      go_enter Try.func17, Try.ntmps17
      go_wp2_with (first
        | (go_at_call 24; with_reducible refine (LP.out _).mono ?_; rintro e w2 ⟨rfl, rfl⟩)
        | (go_at_call 25; with_reducible refine (LC.out _ HE.out).mono ?_; rintro e w2 ⟨rfl, hB2⟩; have HX2 := hideL ((HX.out.next hB2).next ((Below.refl _ _).alloc (Nat.le_refl _) (.cells #[.string x, .string y] 23))); have HN2 := hideL (NBox.new w2 x y); have HW2 := hideL ((HB.out.trans (hB2.mono HB.out.size)).alloc (Nat.le_trans HB.out.size hB2.size) (.cells #[.string x, .string y] 23)))
        | (go_at_call 11; with_reducible refine (LM.out _).mono ?_; rintro e w4 ⟨rfl, hB4⟩; have HX4 := hideL (HX2.out.next hB4); have HN4 := hideL (HN2.out.next hB4); have n0 := HN4.out.c0; have n1 := HN4.out.c1; have HW4 := hideL (HW2.out.trans (hB4.mono HW2.out.size)))
        | (go_at_call 26; with_reducible refine (LO.out _).mono ?_; rintro e w3 ⟨rfl, hB3⟩; have HX3 := hideL (HX4.out.next hB3); have c0 := HX3.out.c0; have c1 := HX3.out.c1; have f0 := HX3.out.frozen 0; have f1 := HX3.out.frozen 1; have HW3 := hideL (HW4.out.trans (hB3.mono HW4.out.size))))
      have HXF := hideL (HX3.out.st x y)
      have HBF := hideL ((HW3.out.setCell (p := ⟨w.heap.size, 0, none⟩) (Nat.le_refl _) (.string x)).setCell (p := ⟨w.heap.size, 1, none⟩) (Nat.le_refl _) (.string y))
      clear c0 c1 f0 f1 hB2 hB3 HX2 HX3
      generalize (w3.setCell ⟨w.heap.size, 0, none⟩ (.string x)).setCell ⟨w.heap.size, 1, none⟩ (.string y) = WF at *
      have r0 := HXF.out.c0
      have r1 := HXF.out.c1
      exact bodyPost_ret (v := parP (some ⟨x, y⟩)) (by simp [results, Try.results17, go_sem, r0, r1]; rfl) rfl ⟨rfl, HBF.out⟩
end Go.Proofs.Ytjbfaaoeoggkpaa
