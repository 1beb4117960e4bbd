/- The program's saidBy. -/
import Derived.Test.YthbgnkkjchaaeaaDoorPhSaid
namespace Go.Proofs.YthbgnkkjchaaeaaDoor
open Go.RowKit Go.Lib

set_option maxHeartbeats 1000000 in
set_option maxRecDepth 100000 in
theorem spuint_some (t : ByteArray) (h2 : t.size = 2) (v : Nat) (hv : hexL 0 t.data.toList = some v) (w : World) :
    Calls Tryd.prog 42 #[.string t, .int .i64 16, .int .i64 8] w fun e w' => e = .returned (.tuple #[.int .u64 v, .nilIface]) ∧ Below w.heap.size w w' := by
  have HP := hideL (fun W : World => puint_any t h2 W)
  rw [hv] at HP
  have HP : HidL (∀ W : World, Calls Tryd.prog 55 #[.string t, .int .i64 16, .int .i64 8] W fun e w' => e = .returned (.tuple #[.int .u64 v, .nilIface]) ∧ Below W.heap.size W w') := ⟨fun W => HP.out W⟩
  clear hv
  go_enter Tryd.func42, Tryd.ntmps42
  go_wp2_with (go_at_call 55; refine (HP.out _).mono ?_; rintro e w2 ⟨rfl, hB2⟩)
  go_ret2
  exact ⟨rfl, hB2⟩
set_option maxHeartbeats 1000000 in
set_option maxRecDepth 100000 in
theorem spuint_none (t : ByteArray) (h2 : t.size = 2) (hv : hexL 0 t.data.toList = none) (w : World) (hE : Env w) :
    Calls Tryd.prog 42 #[.string t, .int .i64 16, .int .i64 8] w fun e w' => (∃ N, e = .returned (.tuple #[.int .u64 0, .iface 92 (.pointer (some ⟨N, 0, none⟩))])) ∧ Below w.heap.size w w' := by
  have HP := hideL (fun W : World => puint_any t h2 W)
  rw [hv] at HP
  have HP : HidL (∀ W : World, Calls Tryd.prog 55 #[.string t, .int .i64 16, .int .i64 8] W fun e w' => e = .returned (.tuple #[.int .u64 0, .iface 90 (.int .i64 2)]) ∧ Below W.heap.size W w') := ⟨fun W => HP.out W⟩
  have HT : HidL (∀ W : World, Env W → Calls Tryd.prog 56 #[.string ⟨#[80, 97, 114, 115, 101, 85, 105, 110, 116]⟩, .string t, .int .i64 16, .int .i64 8, .iface 90 (.int .i64 2)] W fun e w' => (∃ N, e = .returned (.iface 92 (.pointer (some ⟨N, 0, none⟩)))) ∧ Below W.heap.size W w') := ⟨fun W hW => by
    obtain ⟨ev, h1, h2'⟩ := hW.err
    refine (Any.strconv_toError_syntax Tryd.laysC245 _ t 16 8 ev W (by omega) h1 h2').mono ?_
    rintro e w' ⟨N, rfl, _, _, h⟩
    exact ⟨⟨N, rfl⟩, h⟩⟩
  have HE := hideL hE
  clear hv hE
  go_enter Tryd.func42, Tryd.ntmps42
  go_wp2_with (first
    | (go_at_call 55; refine (HP.out _).mono ?_; rintro e w2 ⟨rfl, hB2⟩; have HE2 := hideL (HE.out.next hB2))
    | (go_at_call 56; refine (HT.out _ HE2.out).mono ?_; rintro e w3 ⟨⟨N, rfl⟩, hB3⟩))
  go_ret2
  exact ⟨⟨N, rfl⟩, hB2.trans (hB3.mono hB2.size)⟩

def saidV : List UInt8 → Option UInt8
  | _ :: a :: b :: _ => twoV a b
  | _ => none
def saidA : Option UInt8 → Value
  | some v => .tuple #[.int .u8 v.toNat, .bool true]
  | none => .tuple #[.int .u8 0, .bool false]
set_option maxHeartbeats 1000000 in
set_option maxRecDepth 100000 in
theorem saidBy_any (s : ByteArray) (w : World) (hE : Env w) : Calls Tryd.prog 33 #[.string s] w fun e w' => e = .returned (saidA (saidV s.data.toList)) ∧ Below w.heap.size w w' := by
  have hl := size_list s
  by_cases h3 : s.size < 3
  · have hR : saidV s.data.toList = none := by
      match s.data.toList, hl with
      | [], _ => rfl
      | [_], _ => rfl
      | [_, _], _ => rfl
      | _ :: _ :: _ :: _, h => simp at h; omega
    rw [hR]
    have h3' : (s.size : Int) < 3 := by omega
    clear hR hE hl
    go_enter Tryd.func33, Tryd.ntmps33
    go_wp2_with fail
    go_ret2
    exact ⟨rfl, Below.refl _ _⟩
  · have h3' : ¬ (s.size : Int) < 3 := by omega
    have h3i : (3 : Int) ≤ (s.size : Int) := by omega
    obtain ⟨z, a, b, r, hs⟩ : ∃ z a b r, s.data.toList = z :: a :: b :: r := by
      match s.data.toList, hl with
      | [], h => simp at h; omega
      | [_], h => simp at h; omega
      | [_, _], h => simp at h; omega
      | z :: a :: b :: r, _ => exact ⟨z, a, b, r, rfl⟩
    obtain ⟨t, ht⟩ : ∃ t, s.extract 1 3 = t := ⟨_, rfl⟩
    have htl : t.data.toList = [a, b] := by rw [← ht, ex_list, hs]; rfl
    have ht2 : t.size = 2 := by rw [← size_list, htl]; rfl
    have hx : hexL 0 t.data.toList = (twoV a b).map (·.toNat) := by rw [htl, hexL_two]
    have hR : saidV s.data.toList = twoV a b := by rw [hs]; rfl
    rw [hR]
    clear hR hs htl hl
    cases hv : twoV a b with
    | some v =>
      rw [hv, Option.map_some] at hx
      have HP := hideL (fun W : World => spuint_some t ht2 v.toNat hx W)
      have hv256 := v.toNat_lt
      show Calls _ _ _ _ fun e w' => e = .returned (.tuple #[.int .u8 v.toNat, .bool true]) ∧ Below w.heap.size w w'
      clear hx hv
      generalize v.toNat = n at *
      go_enter Tryd.func33, Tryd.ntmps33
      go_wp2_with (first | (go_at_call 42; refine (HP.out _).mono ?_; rintro e w2 ⟨rfl, hB2⟩) | go_region)
      all_goals go_ret2
      all_goals exact ⟨rfl, hB2.drew⟩
    | none =>
      rw [hv, Option.map_none] at hx
      have HP := hideL (spuint_none t ht2 hx w hE)
      show Calls _ _ _ _ fun e w' => e = .returned (.tuple #[.int .u8 0, .bool false]) ∧ Below w.heap.size w w'
      clear hx hv
      go_enter Tryd.func33, Tryd.ntmps33
      go_wp2_with (first | (go_at_call 42; refine (HP.out).mono ?_; rintro e w2 ⟨⟨N, rfl⟩, hB2⟩) | go_region)
      all_goals go_ret2
      all_goals exact ⟨rfl, hB2.drew⟩
end Go.Proofs.YthbgnkkjchaaeaaDoor
