/- Package code: a reader's Err, Fail, Left, End, and take at each of its types. -/
import Derived.Test.YtdlhengfhmkpdaaDoorCdPut
namespace Go.Proofs.YtdlhengfhmkpdaaDoor
open Go.RowKit

theorem Rd.cells {W : World} {B g : Nat} {F : Nat → Prop} {bs : List Int} {st : Bool} (h : Rd W B F g bs st) : ∃ ao cap, W.heap[g]? = some (.cells #[.slice ao bs.length cap, .bool st] 84 (0, 0)) ∧ SlAt W (.slice ao bs.length cap) bs ∧ (∀ k, (Value.slice ao bs.length cap).ownBlock = some k → F k ∧ k ≠ g) ∧
    W.cell? ⟨g, 0, none⟩ = some (.slice ao bs.length cap) ∧ W.cell? ⟨g, 1, none⟩ = some (.bool st) ∧ W.frozen? ⟨g, 0, none⟩ = false ∧ W.frozen? ⟨g, 1, none⟩ = false := by
  obtain ⟨v, hg, hs, hv⟩ := h.shape
  obtain ⟨ao, cap, rfl⟩ := hs.len
  exact ⟨ao, cap, hg, hs, hv, (cell_of_row W g 0 _ _ _ hg).trans rfl, (cell_of_row W g 1 _ _ _ hg).trans rfl, frozen_of_row W g 0 _ _ hg, frozen_of_row W g 1 _ _ hg⟩

def errOf (st : Bool) : Int := if st then 2 else 0

set_option maxRecDepth 100000 in
theorem err_nil (W : World) : Calls Tryd.prog 26 #[.pointer none] W (fun e w' => e = .returned (.int .i64 2) ∧ w' = W) := by
  go_enter Tryd.func26, Tryd.ntmps26
  go_wp2_with fail
  go_ret
  exact ⟨rfl, rfl⟩

set_option maxRecDepth 100000 in
theorem err_any (W : World) (B : Nat) (F : Nat → Prop) (g : Nat) (bs : List Int) (st : Bool) (h : Rd W B F g bs st) :
    Calls Tryd.prog 26 #[.pointer (some ⟨g, 0, none⟩)] W (fun e w' => e = .returned (.int .i64 (errOf st)) ∧ w' = W) := by
  obtain ⟨ao, cap, hg, hs, hv, c0, c1, f0, f1⟩ := h.cells
  clear h hg hs hv
  cases st <;>
  · go_enter Tryd.func26, Tryd.ntmps26
    go_wp2_with fail
    go_ret
    exact ⟨rfl, rfl⟩

set_option maxRecDepth 100000 in
theorem left_nil (W : World) : Calls Tryd.prog 25 #[.pointer none] W (fun e w' => e = .returned (.int .i64 0) ∧ w' = W) := by
  go_enter Tryd.func25, Tryd.ntmps25
  go_wp2_with fail
  go_ret
  exact ⟨rfl, rfl⟩

set_option maxRecDepth 100000 in
theorem left_any (W : World) (B : Nat) (F : Nat → Prop) (g : Nat) (bs : List Int) (st : Bool) (h : Rd W B F g bs st) :
    Calls Tryd.prog 25 #[.pointer (some ⟨g, 0, none⟩)] W (fun e w' => e = .returned (.int .i64 bs.length) ∧ w' = W) := by
  obtain ⟨ao, cap, hg, hs, hv, c0, c1, f0, f1⟩ := h.cells
  clear h hg hs hv
  go_enter Tryd.func25, Tryd.ntmps25
  go_wp2_with fail
  go_ret
  exact ⟨rfl, rfl⟩

set_option maxRecDepth 100000 in
theorem fail_nil (W : World) : Calls Tryd.prog 24 #[.pointer none] W (fun e w' => e = .returned (.tuple #[]) ∧ w' = W) := by
  go_enter Tryd.func24, Tryd.ntmps24
  go_wp2_with fail
  first | go_end0 | refine bodyPost_ret (results_none rfl _ _ _) rfl ?_
  exact ⟨rfl, rfl⟩

theorem Rd.stop {W : World} {B g : Nat} {F : Nat → Prop} {bs : List Int} {st : Bool} (h : Rd W B F g bs st) : Rd (W.setCell ⟨g, 1, none⟩ (.bool true)) B F g bs true ∧ Keep F W (W.setCell ⟨g, 1, none⟩ (.bool true)) := by
  have hk : Keep (fun k => k = g) W (W.setCell ⟨g, 1, none⟩ (.bool true)) := Keep.set _ _ _ rfl
  obtain ⟨v, hg, hs, hv⟩ := h.shape
  refine ⟨⟨h.own, fun k hk => by simpa using h.ge k hk, v, ?_, hs.keep hk (fun k e => (hv k e).2), hv⟩, hk.mono (fun x e => .inl (e ▸ h.own))⟩
  rw [heap_setCell_same _ g 1 _ _ _ hg]
  rfl

theorem Rd.took {W : World} {B g : Nat} {F : Nat → Prop} {bs rest : List Int} {st : Bool} {sv : Value} (h : Rd W B F g bs st) (hs : SlAt W sv rest) (ho : ∀ k, sv.ownBlock = some k → F k ∧ k ≠ g) : Rd (W.setCell ⟨g, 0, none⟩ sv) B F g rest st ∧ Keep F W (W.setCell ⟨g, 0, none⟩ sv) := by
  have hk : Keep (fun k => k = g) W (W.setCell ⟨g, 0, none⟩ sv) := Keep.set _ _ _ rfl
  obtain ⟨v, hg, _, _⟩ := h.shape
  refine ⟨⟨h.own, fun k hk => by simpa using h.ge k hk, sv, ?_, hs.keep hk (fun k e => (ho k e).2), ho⟩, hk.mono (fun x e => .inl (e ▸ h.own))⟩
  rw [heap_setCell_same _ g 0 _ _ _ hg]
  rfl

set_option maxRecDepth 100000 in
theorem fail_any (W : World) (B : Nat) (F : Nat → Prop) (g : Nat) (bs : List Int) (st : Bool) (h : Rd W B F g bs st) :
    Calls Tryd.prog 24 #[.pointer (some ⟨g, 0, none⟩)] W (fun e w' => e = .returned (.tuple #[]) ∧ Keep F W w' ∧ Rd w' B F g bs true) := by
  obtain ⟨ao, cap, hg, hs, hv, c0, c1, f0, f1⟩ := h.cells
  have HH := hide h
  clear h hg hs hv
  go_enter Tryd.func24, Tryd.ntmps24
  go_wp2_with fail
  first | go_end0 | refine bodyPost_ret (results_none rfl _ _ _) rfl ?_
  exact ⟨rfl, HH.out.stop.2, HH.out.stop.1⟩

set_option maxRecDepth 100000 in
theorem end_nil (W : World) : Calls Tryd.prog 28 #[.pointer none] W (fun e w' => e = .returned (.int .i64 2) ∧ w' = W) := by
  go_enter Tryd.func28, Tryd.ntmps28
  go_wp2_with fail
  refine (left_nil _).mono ?_
  rintro e w1 ⟨rfl, rfl⟩
  go_wp2_with fail
  refine (err_nil _).mono ?_
  rintro e w2 ⟨rfl, rfl⟩
  go_wp2_with fail
  go_ret
  exact ⟨rfl, rfl⟩

set_option maxRecDepth 100000 in
theorem endr_any (W : World) (B : Nat) (F : Nat → Prop) (g : Nat) (bs : List Int) (st : Bool) (h : Rd W B F g bs st) :
    Calls Tryd.prog 28 #[.pointer (some ⟨g, 0, none⟩)] W (fun e w' => e = .returned (.int .i64 (errOf (st || !bs.isEmpty))) ∧ Keep F W w' ∧ Rd w' B F g bs (st || !bs.isEmpty)) := by
  have HH := hide h
  clear h
  go_enter Tryd.func28, Tryd.ntmps28
  go_wp2_with fail
  refine (left_any _ B F g bs st HH.out).mono ?_
  rintro e w1 ⟨rfl, rfl⟩
  cases bs with
  | nil =>
    go_wp2_with fail
    refine (err_any _ B F g _ st HH.out).mono ?_
    rintro e w2 ⟨rfl, rfl⟩
    go_wp2_with fail
    go_ret
    exact ⟨by simp, Keep.refl _ _, by simpa using HH.out⟩
  | cons x bs =>
    have hl : 0 < ((x :: bs).length : Int) := by simp
    go_wp2_with fail
    refine (fail_any _ B F g _ st HH.out).mono ?_
    rintro e w2 ⟨rfl, hk, hr⟩
    have HK := hide hk
    have HR := hide hr
    clear hk hr
    go_wp2_with fail
    refine (err_any _ B F g _ true HR.out).mono ?_
    rintro e w3 ⟨rfl, rfl⟩
    go_wp2_with fail
    go_ret
    exact ⟨by simp, HK.out, by simpa using HR.out⟩

/-- Behind what cuts a field from the front of bytes. -/
def CutPost (W : World) (sv : Value) (P : Value → World → Prop) (r : Option (List Int)) (e : Ending) (w' : World) : Prop :=
  Below W.heap.size W w' ∧ match r with
    | none => ∃ f s, e = .returned (.tuple #[f, s, .bool false])
    | some rest => ∃ f s, e = .returned (.tuple #[f, s, .bool true]) ∧ P f w' ∧ SlAt w' s rest ∧ (∀ k, s.ownBlock = some k → sv.ownBlock = some k)

/-- Behind a field that a reader was asked for. -/
def RdPost (W : World) (B : Nat) (F : Nat → Prop) (g : Nat) (bs : List Int) (z : Value) (P : Value → World → Prop) (r : Option (List Int)) (e : Ending) (w' : World) : Prop :=
  Keep F W w' ∧ match r with
    | none => e = .returned z ∧ Rd w' B F g bs true
    | some rest => ∃ f, e = .returned f ∧ P f w' ∧ Rd w' B F g rest false

theorem rdPost_some {W w1 : World} {B g : Nat} {F : Nat → Prop} {bs rest : List Int} {P : Value → World → Prop} {sv s f z : Value} (h : Rd W B F g bs false) (hb : Below W.heap.size W w1) (hsv : ∀ k, sv.ownBlock = some k → F k ∧ k ≠ g) (hs : SlAt w1 s rest) (ho : ∀ k, s.ownBlock = some k → sv.ownBlock = some k) (hP : P f w1)
    (hst : ∀ f w1 w2, P f w1 → Keep (fun k => k = g) w1 w2 → P f w2) : RdPost W B F g bs z P (some rest) (.returned f) (w1.setCell ⟨g, 0, none⟩ s) := by
  have h1 : Rd w1 B F g bs false := h.keep (Keep.of_below hb : Keep (fun _ => False) W w1) (fun _ _ => id)
  have h2 := h1.took hs (fun k e => hsv k (ho k e))
  exact ⟨(Keep.of_below hb : Keep F W w1).trans h2.2 (fun _ h => .inl h), f, rfl, hst _ _ _ hP (Keep.set _ _ _ rfl), h2.1⟩

set_option maxRecDepth 100000 in
theorem take_u8_nil (cv : Value) (W : World) : Calls Tryd.prog 63 #[.pointer none, cv] W (fun e w' => e = .returned (.int .u8 0) ∧ w' = W) := by
  go_enter Tryd.func63, Tryd.ntmps63
  go_wp2_with fail
  refine (err_nil _).mono ?_
  rintro e w1 ⟨rfl, rfl⟩
  go_wp2_with fail
  go_ret
  exact ⟨rfl, rfl⟩

set_option maxRecDepth 100000 in
theorem take_u8_stop (cv : Value) (W : World) (B : Nat) (F : Nat → Prop) (g : Nat) (bs : List Int) (h : Rd W B F g bs true) : Calls Tryd.prog 63 #[.pointer (some ⟨g, 0, none⟩), cv] W (fun e w' => e = .returned (.int .u8 0) ∧ w' = W) := by
  have HH := hide h
  clear h
  go_enter Tryd.func63, Tryd.ntmps63
  go_wp2_with fail
  refine (err_any _ B F g bs true HH.out).mono ?_
  rintro e w1 ⟨rfl, rfl⟩
  rw [show errOf true = 2 from rfl]
  go_wp2_with fail
  go_ret
  exact ⟨rfl, rfl⟩

set_option maxRecDepth 100000 in
set_option maxHeartbeats 1000000 in
theorem take_u8_go (W : World) (B : Nat) (F : Nat → Prop) (g : Nat) (bs : List Int) (P : Value → World → Prop) (r : Option (List Int)) (h : Rd W B F g bs false) (hst : ∀ f w1 w2, P f w1 → Keep (fun k => k = g) w1 w2 → P f w2)
    (hcut : ∀ sv, SlAt W sv bs → Calls Tryd.prog 64 #[sv] W (CutPost W sv P r)) :
    Calls Tryd.prog 63 #[.pointer (some ⟨g, 0, none⟩), .func (.func 64) #[] #[]] W (RdPost W B F g bs (.int .u8 0) P r) := by
  obtain ⟨ao, cap, hg, hs, hv, c0, c1, f0, f1⟩ := h.cells
  have HC := hide (hcut _ hs)
  have HS := hide hst
  have HV := hide hv
  have HH := hide h
  clear h hcut hst hv hg hs
  go_enter Tryd.func63, Tryd.ntmps63
  go_wp2_with fail
  refine (err_any _ B F g bs false HH.out).mono ?_
  rintro e w1 ⟨rfl, rfl⟩
  rw [show errOf false = 0 from rfl]
  go_wp2_with fail
  refine HC.out.mono ?_
  intro e w2 hp
  obtain ⟨hb, hp⟩ := hp
  have hlt : g < w1.heap.size := (HH.out.ge g HH.out.own).2
  have d0 : w2.cell? ⟨g, 0, none⟩ = some (.slice ao bs.length cap) := (hb.cell (p := ⟨g, 0, none⟩) hlt).trans c0
  have e0 : w2.frozen? ⟨g, 0, none⟩ = false := (hb.frozen (p := ⟨g, 0, none⟩) hlt).trans f0
  have HB := hide hb
  clear hb c0 c1 f0 f1 hlt HC
  cases r with
  | none =>
    obtain ⟨f, s, rfl⟩ := hp
    go_wp2_with fail
    refine (fail_any w2 B F g bs false (HH.out.keep (Keep.of_below HB.out : Keep (fun _ => False) w1 w2) (fun _ _ => id))).mono ?_
    rintro e w3 ⟨rfl, hk, hr⟩
    have HK := hide hk
    have HR := hide hr
    clear hk hr
    go_wp2_with fail
    go_ret
    exact ⟨(Keep.of_below HB.out : Keep F w1 w2).trans HK.out (fun _ h => .inl h), rfl, HR.out⟩
  | some rest =>
    obtain ⟨f, s, rfl, hP, hs, ho⟩ := hp
    have HP := hide hP
    have HSL := hide hs
    have HO := hide ho
    have HLN := hide hs.len
    clear hP hs ho
    obtain ⟨ao', cap', rfl⟩ := HLN.out
    go_wp2_with fail
    go_ret
    exact rdPost_some HH.out HB.out HV.out HSL.out HO.out HP.out HS.out

set_option maxRecDepth 100000 in
theorem take_u32_nil (cv : Value) (W : World) : Calls Tryd.prog 65 #[.pointer none, cv] W (fun e w' => e = .returned (.int .u32 0) ∧ w' = W) := by
  go_enter Tryd.func65, Tryd.ntmps65
  go_wp2_with fail
  refine (err_nil _).mono ?_
  rintro e w1 ⟨rfl, rfl⟩
  go_wp2_with fail
  go_ret
  exact ⟨rfl, rfl⟩

set_option maxRecDepth 100000 in
theorem take_u32_stop (cv : Value) (W : World) (B : Nat) (F : Nat → Prop) (g : Nat) (bs : List Int) (h : Rd W B F g bs true) : Calls Tryd.prog 65 #[.pointer (some ⟨g, 0, none⟩), cv] W (fun e w' => e = .returned (.int .u32 0) ∧ w' = W) := by
  have HH := hide h
  clear h
  go_enter Tryd.func65, Tryd.ntmps65
  go_wp2_with fail
  refine (err_any _ B F g bs true HH.out).mono ?_
  rintro e w1 ⟨rfl, rfl⟩
  rw [show errOf true = 2 from rfl]
  go_wp2_with fail
  go_ret
  exact ⟨rfl, rfl⟩

set_option maxRecDepth 100000 in
set_option maxHeartbeats 1000000 in
theorem take_u32_go (W : World) (B : Nat) (F : Nat → Prop) (g : Nat) (bs : List Int) (P : Value → World → Prop) (r : Option (List Int)) (h : Rd W B F g bs false) (hst : ∀ f w1 w2, P f w1 → Keep (fun k => k = g) w1 w2 → P f w2)
    (hcut : ∀ sv, SlAt W sv bs → Calls Tryd.prog 66 #[sv] W (CutPost W sv P r)) :
    Calls Tryd.prog 65 #[.pointer (some ⟨g, 0, none⟩), .func (.func 66) #[] #[]] W (RdPost W B F g bs (.int .u32 0) P r) := by
  obtain ⟨ao, cap, hg, hs, hv, c0, c1, f0, f1⟩ := h.cells
  have HC := hide (hcut _ hs)
  have HS := hide hst
  have HV := hide hv
  have HH := hide h
  clear h hcut hst hv hg hs
  go_enter Tryd.func65, Tryd.ntmps65
  go_wp2_with fail
  refine (err_any _ B F g bs false HH.out).mono ?_
  rintro e w1 ⟨rfl, rfl⟩
  rw [show errOf false = 0 from rfl]
  go_wp2_with fail
  refine HC.out.mono ?_
  intro e w2 hp
  obtain ⟨hb, hp⟩ := hp
  have hlt : g < w1.heap.size := (HH.out.ge g HH.out.own).2
  have d0 : w2.cell? ⟨g, 0, none⟩ = some (.slice ao bs.length cap) := (hb.cell (p := ⟨g, 0, none⟩) hlt).trans c0
  have e0 : w2.frozen? ⟨g, 0, none⟩ = false := (hb.frozen (p := ⟨g, 0, none⟩) hlt).trans f0
  have HB := hide hb
  clear hb c0 c1 f0 f1 hlt HC
  cases r with
  | none =>
    obtain ⟨f, s, rfl⟩ := hp
    go_wp2_with fail
    refine (fail_any w2 B F g bs false (HH.out.keep (Keep.of_below HB.out : Keep (fun _ => False) w1 w2) (fun _ _ => id))).mono ?_
    rintro e w3 ⟨rfl, hk, hr⟩
    have HK := hide hk
    have HR := hide hr
    clear hk hr
    go_wp2_with fail
    go_ret
    exact ⟨(Keep.of_below HB.out : Keep F w1 w2).trans HK.out (fun _ h => .inl h), rfl, HR.out⟩
  | some rest =>
    obtain ⟨f, s, rfl, hP, hs, ho⟩ := hp
    have HP := hide hP
    have HSL := hide hs
    have HO := hide ho
    have HLN := hide hs.len
    clear hP hs ho
    obtain ⟨ao', cap', rfl⟩ := HLN.out
    go_wp2_with fail
    go_ret
    exact rdPost_some HH.out HB.out HV.out HSL.out HO.out HP.out HS.out

set_option maxRecDepth 100000 in
theorem take_uint_nil (cv : Value) (W : World) : Calls Tryd.prog 67 #[.pointer none, cv] W (fun e w' => e = .returned (.int .u64 0) ∧ w' = W) := by
  go_enter Tryd.func67, Tryd.ntmps67
  go_wp2_with fail
  refine (err_nil _).mono ?_
  rintro e w1 ⟨rfl, rfl⟩
  go_wp2_with fail
  go_ret
  exact ⟨rfl, rfl⟩

set_option maxRecDepth 100000 in
theorem take_uint_stop (cv : Value) (W : World) (B : Nat) (F : Nat → Prop) (g : Nat) (bs : List Int) (h : Rd W B F g bs true) : Calls Tryd.prog 67 #[.pointer (some ⟨g, 0, none⟩), cv] W (fun e w' => e = .returned (.int .u64 0) ∧ w' = W) := by
  have HH := hide h
  clear h
  go_enter Tryd.func67, Tryd.ntmps67
  go_wp2_with fail
  refine (err_any _ B F g bs true HH.out).mono ?_
  rintro e w1 ⟨rfl, rfl⟩
  rw [show errOf true = 2 from rfl]
  go_wp2_with fail
  go_ret
  exact ⟨rfl, rfl⟩

set_option maxRecDepth 100000 in
set_option maxHeartbeats 1000000 in
theorem take_uint_go (W : World) (B : Nat) (F : Nat → Prop) (g : Nat) (bs : List Int) (P : Value → World → Prop) (r : Option (List Int)) (h : Rd W B F g bs false) (hst : ∀ f w1 w2, P f w1 → Keep (fun k => k = g) w1 w2 → P f w2)
    (hcut : ∀ sv, SlAt W sv bs → Calls Tryd.prog 68 #[sv] W (CutPost W sv P r)) :
    Calls Tryd.prog 67 #[.pointer (some ⟨g, 0, none⟩), .func (.func 68) #[] #[]] W (RdPost W B F g bs (.int .u64 0) P r) := by
  obtain ⟨ao, cap, hg, hs, hv, c0, c1, f0, f1⟩ := h.cells
  have HC := hide (hcut _ hs)
  have HS := hide hst
  have HV := hide hv
  have HH := hide h
  clear h hcut hst hv hg hs
  go_enter Tryd.func67, Tryd.ntmps67
  go_wp2_with fail
  refine (err_any _ B F g bs false HH.out).mono ?_
  rintro e w1 ⟨rfl, rfl⟩
  rw [show errOf false = 0 from rfl]
  go_wp2_with fail
  refine HC.out.mono ?_
  intro e w2 hp
  obtain ⟨hb, hp⟩ := hp
  have hlt : g < w1.heap.size := (HH.out.ge g HH.out.own).2
  have d0 : w2.cell? ⟨g, 0, none⟩ = some (.slice ao bs.length cap) := (hb.cell (p := ⟨g, 0, none⟩) hlt).trans c0
  have e0 : w2.frozen? ⟨g, 0, none⟩ = false := (hb.frozen (p := ⟨g, 0, none⟩) hlt).trans f0
  have HB := hide hb
  clear hb c0 c1 f0 f1 hlt HC
  cases r with
  | none =>
    obtain ⟨f, s, rfl⟩ := hp
    go_wp2_with fail
    refine (fail_any w2 B F g bs false (HH.out.keep (Keep.of_below HB.out : Keep (fun _ => False) w1 w2) (fun _ _ => id))).mono ?_
    rintro e w3 ⟨rfl, hk, hr⟩
    have HK := hide hk
    have HR := hide hr
    clear hk hr
    go_wp2_with fail
    go_ret
    exact ⟨(Keep.of_below HB.out : Keep F w1 w2).trans HK.out (fun _ h => .inl h), rfl, HR.out⟩
  | some rest =>
    obtain ⟨f, s, rfl, hP, hs, ho⟩ := hp
    have HP := hide hP
    have HSL := hide hs
    have HO := hide ho
    have HLN := hide hs.len
    clear hP hs ho
    obtain ⟨ao', cap', rfl⟩ := HLN.out
    go_wp2_with fail
    go_ret
    exact rdPost_some HH.out HB.out HV.out HSL.out HO.out HP.out HS.out

set_option maxRecDepth 100000 in
theorem take_text_nil (cv : Value) (W : World) : Calls Tryd.prog 71 #[.pointer none, cv] W (fun e w' => e = .returned (.string ⟨#[]⟩) ∧ w' = W) := by
  go_enter Tryd.func71, Tryd.ntmps71
  go_wp2_with fail
  refine (err_nil _).mono ?_
  rintro e w1 ⟨rfl, rfl⟩
  go_wp2_with fail
  go_ret
  exact ⟨rfl, rfl⟩

set_option maxRecDepth 100000 in
theorem take_text_stop (cv : Value) (W : World) (B : Nat) (F : Nat → Prop) (g : Nat) (bs : List Int) (h : Rd W B F g bs true) : Calls Tryd.prog 71 #[.pointer (some ⟨g, 0, none⟩), cv] W (fun e w' => e = .returned (.string ⟨#[]⟩) ∧ w' = W) := by
  have HH := hide h
  clear h
  go_enter Tryd.func71, Tryd.ntmps71
  go_wp2_with fail
  refine (err_any _ B F g bs true HH.out).mono ?_
  rintro e w1 ⟨rfl, rfl⟩
  rw [show errOf true = 2 from rfl]
  go_wp2_with fail
  go_ret
  exact ⟨rfl, rfl⟩

set_option maxRecDepth 100000 in
set_option maxHeartbeats 1000000 in
theorem take_text_go (cp : Value) (W : World) (B : Nat) (F : Nat → Prop) (g : Nat) (bs : List Int) (P : Value → World → Prop) (r : Option (List Int)) (h : Rd W B F g bs false) (hst : ∀ f w1 w2, P f w1 → Keep (fun k => k = g) w1 w2 → P f w2)
    (hcut : ∀ sv, SlAt W sv bs → Calls Tryd.prog 72 #[sv, cp] W (CutPost W sv P r)) :
    Calls Tryd.prog 71 #[.pointer (some ⟨g, 0, none⟩), .func (.func 72) #[] #[cp]] W (RdPost W B F g bs (.string ⟨#[]⟩) P r) := by
  obtain ⟨ao, cap, hg, hs, hv, c0, c1, f0, f1⟩ := h.cells
  have HC := hide (hcut _ hs)
  have HS := hide hst
  have HV := hide hv
  have HH := hide h
  clear h hcut hst hv hg hs
  go_enter Tryd.func71, Tryd.ntmps71
  go_wp2_with fail
  refine (err_any _ B F g bs false HH.out).mono ?_
  rintro e w1 ⟨rfl, rfl⟩
  rw [show errOf false = 0 from rfl]
  go_wp2_with fail
  refine HC.out.mono ?_
  intro e w2 hp
  obtain ⟨hb, hp⟩ := hp
  have hlt : g < w1.heap.size := (HH.out.ge g HH.out.own).2
  have d0 : w2.cell? ⟨g, 0, none⟩ = some (.slice ao bs.length cap) := (hb.cell (p := ⟨g, 0, none⟩) hlt).trans c0
  have e0 : w2.frozen? ⟨g, 0, none⟩ = false := (hb.frozen (p := ⟨g, 0, none⟩) hlt).trans f0
  have HB := hide hb
  clear hb c0 c1 f0 f1 hlt HC
  cases r with
  | none =>
    obtain ⟨f, s, rfl⟩ := hp
    go_wp2_with fail
    refine (fail_any w2 B F g bs false (HH.out.keep (Keep.of_below HB.out : Keep (fun _ => False) w1 w2) (fun _ _ => id))).mono ?_
    rintro e w3 ⟨rfl, hk, hr⟩
    have HK := hide hk
    have HR := hide hr
    clear hk hr
    go_wp2_with fail
    go_ret
    exact ⟨(Keep.of_below HB.out : Keep F w1 w2).trans HK.out (fun _ h => .inl h), rfl, HR.out⟩
  | some rest =>
    obtain ⟨f, s, rfl, hP, hs, ho⟩ := hp
    have HP := hide hP
    have HSL := hide hs
    have HO := hide ho
    have HLN := hide hs.len
    clear hP hs ho
    obtain ⟨ao', cap', rfl⟩ := HLN.out
    go_wp2_with fail
    go_ret
    exact rdPost_some HH.out HB.out HV.out HSL.out HO.out HP.out HS.out

set_option maxRecDepth 100000 in
theorem take_raw_nil (cv : Value) (W : World) : Calls Tryd.prog 73 #[.pointer none, cv] W (fun e w' => e = .returned (.slice none 0 0) ∧ w' = W) := by
  go_enter Tryd.func73, Tryd.ntmps73
  go_wp2_with fail
  refine (err_nil _).mono ?_
  rintro e w1 ⟨rfl, rfl⟩
  go_wp2_with fail
  go_ret
  exact ⟨rfl, rfl⟩

set_option maxRecDepth 100000 in
theorem take_raw_stop (cv : Value) (W : World) (B : Nat) (F : Nat → Prop) (g : Nat) (bs : List Int) (h : Rd W B F g bs true) : Calls Tryd.prog 73 #[.pointer (some ⟨g, 0, none⟩), cv] W (fun e w' => e = .returned (.slice none 0 0) ∧ w' = W) := by
  have HH := hide h
  clear h
  go_enter Tryd.func73, Tryd.ntmps73
  go_wp2_with fail
  refine (err_any _ B F g bs true HH.out).mono ?_
  rintro e w1 ⟨rfl, rfl⟩
  rw [show errOf true = 2 from rfl]
  go_wp2_with fail
  go_ret
  exact ⟨rfl, rfl⟩

set_option maxRecDepth 100000 in
set_option maxHeartbeats 1000000 in
theorem take_raw_go (cp : Value) (W : World) (B : Nat) (F : Nat → Prop) (g : Nat) (bs : List Int) (P : Value → World → Prop) (r : Option (List Int)) (h : Rd W B F g bs false) (hst : ∀ f w1 w2, P f w1 → Keep (fun k => k = g) w1 w2 → P f w2)
    (hcut : ∀ sv, SlAt W sv bs → Calls Tryd.prog 74 #[sv, cp] W (CutPost W sv P r)) :
    Calls Tryd.prog 73 #[.pointer (some ⟨g, 0, none⟩), .func (.func 74) #[] #[cp]] W (RdPost W B F g bs (.slice none 0 0) P r) := by
  obtain ⟨ao, cap, hg, hs, hv, c0, c1, f0, f1⟩ := h.cells
  have HC := hide (hcut _ hs)
  have HS := hide hst
  have HV := hide hv
  have HH := hide h
  clear h hcut hst hv hg hs
  go_enter Tryd.func73, Tryd.ntmps73
  go_wp2_with fail
  refine (err_any _ B F g bs false HH.out).mono ?_
  rintro e w1 ⟨rfl, rfl⟩
  rw [show errOf false = 0 from rfl]
  go_wp2_with fail
  refine HC.out.mono ?_
  intro e w2 hp
  obtain ⟨hb, hp⟩ := hp
  have hlt : g < w1.heap.size := (HH.out.ge g HH.out.own).2
  have d0 : w2.cell? ⟨g, 0, none⟩ = some (.slice ao bs.length cap) := (hb.cell (p := ⟨g, 0, none⟩) hlt).trans c0
  have e0 : w2.frozen? ⟨g, 0, none⟩ = false := (hb.frozen (p := ⟨g, 0, none⟩) hlt).trans f0
  have HB := hide hb
  clear hb c0 c1 f0 f1 hlt HC
  cases r with
  | none =>
    obtain ⟨f, s, rfl⟩ := hp
    go_wp2_with fail
    refine (fail_any w2 B F g bs false (HH.out.keep (Keep.of_below HB.out : Keep (fun _ => False) w1 w2) (fun _ _ => id))).mono ?_
    rintro e w3 ⟨rfl, hk, hr⟩
    have HK := hide hk
    have HR := hide hr
    clear hk hr
    go_wp2_with fail
    go_ret
    exact ⟨(Keep.of_below HB.out : Keep F w1 w2).trans HK.out (fun _ h => .inl h), rfl, HR.out⟩
  | some rest =>
    obtain ⟨f, s, rfl, hP, hs, ho⟩ := hp
    have HP := hide hP
    have HSL := hide hs
    have HO := hide ho
    have HLN := hide hs.len
    clear hP hs ho
    obtain ⟨ao', cap', rfl⟩ := HLN.out
    go_wp2_with fail
    go_ret
    exact rdPost_some HH.out HB.out HV.out HSL.out HO.out HP.out HS.out
end Go.Proofs.YtdlhengfhmkpdaaDoor
