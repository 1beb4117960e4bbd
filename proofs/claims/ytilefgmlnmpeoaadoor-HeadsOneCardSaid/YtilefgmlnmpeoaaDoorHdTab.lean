/- kept: the headers that any function value says stay, in memory of their own; the three function values of the package. -/
import Derived.Test.YtilefgmlnmpeoaaDoorHdOwn
namespace Go.Proofs.YtilefgmlnmpeoaaDoor
open Go.RowKit Go.Lib

/-- What is asked of a function value that says which headers stay: paid from the world w on. -/
def PredH (g : Nat) (lb : Array Value) (p : Hd → Bool) (w : World) : Prop :=
  ∀ (W : World) (h : Hd), h.n.size ≤ 1000000 ∧ h.v.size ≤ 1000000 → Below w.heap.size w W → Calls Tryd.prog g (#[hdV h] ++ lb) W (fun e w' => e = .returned (.bool (p h)) ∧ Below W.heap.size W w')
set_option maxRecDepth 100000 in
set_option maxHeartbeats 1000000 in
theorem kept_any (g : Nat) (lb : Array Value) (eg : ∀ args w, (callFunc g args).run Tryd.prog w = .ok (.enter g args) w) (p : Hd → Bool) (v : Value) (l : List Hd) (w : World) (hv : GAt KH w v l) (hf : Fits l) (hl : l.length ≤ 1000) (hp : PredH g lb p w) :
    Calls Tryd.prog 43 #[v, .func (.func g) #[] lb] w (fun e w' => ∃ r, e = .returned r ∧ GRow KH w' w.heap.size r (l.filter p) ∧ Below w.heap.size w w') := by
  have HF := hideL hf
  have HP := hideL hp
  obtain ⟨ao, cap, rfl⟩ := hv.len
  obtain ⟨n, hn⟩ : ∃ n, l.length = n := ⟨_, rfl⟩
  rw [hn] at hv hl ⊢
  have HN := hideL hn
  have HV := hideL hv
  clear hv hn hf hp
  go_enter Tryd.func43, Tryd.ntmps43
  go_wp2_with fail
  go_loopw [5, 10] (fun r i wr => ∃ k : Nat, k ≤ n ∧ i = .int .i64 k ∧ HidL (GRow KH wr w.heap.size r ((l.take k).filter p)) ∧ HidL (Below w.heap.size w wr)) (fun _ i _ => n - (RowKit.intOf i).toNat)
  case atStart => exact ⟨0, Nat.zero_le _, rfl, ⟨GRow.nil _ _⟩, ⟨Below.refl _ _⟩⟩
  case round =>
    obtain ⟨k, hk, rfl, HR, HB⟩ := hrel
    obtain ⟨W, rfl⟩ : ∃ W, W = wr := ⟨_, rfl⟩
    by_cases hlt : k < n
    · have hlt' : (k : Int) < (n : Int) := by omega
      obtain ⟨b, o, hao, hbl, hcell⟩ := HV.out.at (k := k) hlt
      subst hao
      have hkl : k < l.length := by rw [HN.out]; exact hlt
      have htk : l.take (k + 1) = l.take k ++ [l.getD k KH.dft] := by
        rw [List.take_add_one, List.getElem?_eq_getElem hkl]
        simp [List.getD, hkl]
      have hfit := HF.out.get hkl
      generalize l.getD k KH.dft = x at *
      have hfl : (l.take (k + 1)).filter p = (l.take k).filter p ++ (if p x then [x] else []) := by
        rw [htk, List.filter_append]
        congr 1
        cases hpx : p x <;> simp [hpx]
      have hlen : ((l.take k).filter p).length ≤ 1000 := Nat.le_trans (List.length_filter_le _ _) (by rw [List.length_take]; omega)
      have LC := hideL (fun (W : World) (hb : Below w.heap.size w W) => HP.out W x hfit hb)
      have LO := hideL (fun W => own_any x hfit W)
      generalize (l.take k).filter p = done at *
      have HFL := hideL hfl
      clear hfl htk
      obtain ⟨a, c⟩ := x
      simp only [hdV] at LC LO
      have d0 : W.cell? ⟨b, o + k * 2, none⟩ = some (.string a) := (HB.out.cell (p := ⟨b, o + k * 2, none⟩) hbl).trans (hcell 0 (by decide))
      have d1 : W.cell? ⟨b, o + k * 2 + 1, none⟩ = some (.string c) := (HB.out.cell (p := ⟨b, o + k * 2 + 1, none⟩) hbl).trans (hcell 1 (by decide))
      clear hcell hbl
      obtain ⟨y, hy⟩ : ∃ y, p ⟨a, c⟩ = y := ⟨_, rfl⟩
      rw [hy] at HFL LC
      clear hy
      have HBx := hideL ((Below.refl W.heap.size W).alloc (Nat.le_refl _) (.cells #[.string a, .string c] 23))
      have HX := hideL (HBox.new W a c)
      cases y
      · go_wp2_with (go_at_fn g; refine (LC.out _ (HB.out.trans (HBx.out.mono HB.out.size))).mono ?_; rintro e w2 ⟨rfl, hB2⟩)
        have HFN := HFL.out
        rw [if_neg (by decide), List.append_nil] at HFN
        go_roundw
        case rel =>
          refine ⟨k + 1, by omega, by go_num, ⟨?_⟩, ⟨HB.out.trans ((HBx.out.trans (hB2.mono HBx.out.size)).mono HB.out.size)⟩⟩
          rw [HFN]
          exact (HR.out.alloc _).below hB2
        case measure => simp [RowKit.intOf]; omega
      · go_wp2_with (first
          | (go_at_fn g; refine (LC.out _ (HB.out.trans (HBx.out.mono HB.out.size))).mono ?_; rintro e w2 ⟨rfl, hB2⟩; have c0 := (HX.out.next hB2).c0; have c1 := (HX.out.next hB2).c1; have HB2 := hideL hB2; clear hB2)
          | (go_at_call 40; refine (LO.out _).mono ?_; rintro e w3 ⟨rfl, hB3⟩
             have HB3 := hideL (HB.out.trans ((HBx.out.trans ((HB2.out.trans (hB3.mono HB2.out.size)).mono HBx.out.size)).mono HB.out.size))
             obtain ⟨v4, w4, hrun, hR4, hB4⟩ := push_h w3 w.heap.size u5 done (((HR.out.alloc _).below HB2.out).below hB3) ⟨a, c⟩ (by omega) HB3.out.size
             have HRUN := hideL hrun
             have HR4 := hideL hR4
             have HB4 := hideL (HB3.out.trans hB4)
             clear hrun hR4 hB4 hB3)
          | (at_builtin; refine wpList_append_runP rfl (.tmp 17) (.tmp 20) 24 24 24 rfl rfl _ _ v4 w4 rfl rfl HRUN.out ?_))
        have HFN := HFL.out
        rw [if_pos trivial] at HFN
        go_roundw
        case rel =>
          refine ⟨k + 1, by omega, by go_num, ⟨?_⟩, HB4⟩
          rw [HFN]
          exact HR4.out
        case measure => simp [RowKit.intOf]; omega
    · obtain rfl : k = n := by omega
      have hlt' : ¬ (k : Int) < (k : Int) := by omega
      have HR2 := HR.out
      rw [List.take_of_length_le (by rw [HN.out]; omega)] at HR2
      have HRX := hideL HR2
      clear HR HR2
      go_wp2_with fail
      go_ret
      exact ⟨_, rfl, HRX.out, HB.out⟩
theorem PredH.later {g : Nat} {lb : Array Value} {p : Hd → Bool} {w W : World} (h : PredH g lb p w) (hb : Below w.heap.size w W) : PredH g lb p W :=
  fun W' x hx hb' => h W' x hx (hb.trans (hb'.mono hb.size))
set_option maxRecDepth 100000 in
/-- The name that stands in a box. -/
theorem isName_pred (w : World) (b : Nat) (name : ByteArray) (hx : SBox w b name) : PredH 44 #[.pointer (some ⟨b, 0, none⟩)] (fun h => decide (h.n = name)) w := by
  intro W h _ hb
  obtain ⟨n, v⟩ := h
  have HB := hideL ((Below.refl W.heap.size W).alloc (Nat.le_refl _) (.cells #[.string n, .string v] 23))
  have hy : SBox W b name := hx.next hb
  have c0 := (hy.next HB.out).c0
  clear hx hy
  simp only [hdV]
  rw [← eqs_dec]
  show Calls Tryd.prog 44 #[.agg #[.string n, .string v], .pointer (some ⟨b, 0, none⟩)] W _
  generalize hE : (n.toList == name.toList) = E
  go_enter Tryd.func44, Tryd.ntmps44
  go_wp2_with fail
  go_ret
  exact ⟨rfl, HB.out⟩
set_option maxRecDepth 100000 in
theorem notName_pred (w : World) (b : Nat) (name : ByteArray) (hx : SBox w b name) : PredH 46 #[.pointer (some ⟨b, 0, none⟩)] (fun h => !decide (h.n = name)) w := by
  intro W h _ hb
  obtain ⟨n, v⟩ := h
  have HB := hideL ((Below.refl W.heap.size W).alloc (Nat.le_refl _) (.cells #[.string n, .string v] 23))
  have hy : SBox W b name := hx.next hb
  have c0 := (hy.next HB.out).c0
  clear hx hy
  simp only [hdV]
  rw [← eqs_dec]
  show Calls Tryd.prog 46 #[.agg #[.string n, .string v], .pointer (some ⟨b, 0, none⟩)] W _
  generalize hE : (n.toList == name.toList) = E
  have hE2 : (n.toList != name.toList) = !E := by rw [bne, hE]
  go_enter Tryd.func46, Tryd.ntmps46
  go_wp2_with fail
  go_ret
  exact ⟨rfl, HB.out⟩
set_option maxRecDepth 100000 in
theorem allStay_pred (w : World) : PredH 45 #[] (fun _ => true) w := by
  intro W h _ _
  obtain ⟨n, v⟩ := h
  have HB := hideL ((Below.refl W.heap.size W).alloc (Nat.le_refl _) (.cells #[.string n, .string v] 23))
  simp only [hdV]
  show Calls Tryd.prog 45 #[.agg #[.string n, .string v]] W _
  go_enter Tryd.func45, Tryd.ntmps45
  go_wp2_with fail
  go_ret
  exact ⟨rfl, HB.out⟩
end Go.Proofs.YtilefgmlnmpeoaaDoor
