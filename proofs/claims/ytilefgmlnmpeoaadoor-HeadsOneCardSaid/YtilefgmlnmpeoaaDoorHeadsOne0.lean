/- The law HeadsOne (P9.7): what is long; what a row's framing may be. -/
import Derived.Test.YtilefgmlnmpeoaaDoorHdLaw
namespace Go.Proofs.YtilefgmlnmpeoaaDoor
open Go.RowKit Go.Lib

theorem frm_shape {l : List Hd} {e : Nat} {x : Bd} (h : framP l = (e, x)) : x = bd0 ∨ x = ⟨1, 0, 0⟩ ∨ ∃ n, x = ⟨0, 1, n⟩ := by
  unfold framP frmP at h
  split at h
  · injection h with _ h; exact .inl h.symm
  split at h
  · split at h
    · injection h with _ h; exact .inr (.inl h.symm)
    · injection h with _ h; exact .inl h.symm
  · split at h
    · unfold lenP at h
      split at h
      · injection h with _ h; exact .inl h.symm
      split at h
      · injection h with _ h; exact .inl h.symm
      · injection h with _ h; exact .inr (.inr ⟨_, h.symm⟩)
    · injection h with _ h; exact .inl h.symm
/-- Framing of whatever row has that framing. -/
theorem frmN_any (v : Value) (l : List Hd) (e a b c : Nat) (h : framP l = (e, ⟨a, b, c⟩)) (w : World) (hv : GAt KH w v l) (hf : Fits l) (hl : l.length ≤ 1000) (hE : Env w) :
    Calls Tryd.prog 28 #[v] w (fun e' w' => e' = .returned (.tuple #[.agg #[.int .i64 a, .int .i64 b, .int .i64 c], .int .i64 e]) ∧ Below w.heap.size w w') := by
  have := framing_any v l w hv hf hl hE
  rw [h] at this
  exact this

set_option maxRecDepth 100000 in
set_option maxHeartbeats 8000000 in
theorem one_long1 (v : Value) (l : List Hd) (at_ : Int) (other : Hd) (value : ByteArray) (w0 : World) (hv : GAt KH w0 v l) (hE : Env w0) (hl : longP l = true) : Calls Tryd.prog 7 #[v, .int .i64 at_, hdV other, .string value] w0 (fun e w' => e = .returned (.bool true) ∧ Below w0.heap.size w0 w') := by
  have LW := hideL (fun W (hE : Env W) => awake_any W hE)
  have HS := hideL (SL.new other hv hE)
  have L1 := hideL (fun W hv => long_any v l W hv)
  have L2 := hideL (long_lit other)
  rw [hl] at L1
  clear hl
  obtain ⟨n, c⟩ := other
  obtain ⟨ao, cap, rfl⟩ := hv.len
  simp only [hdV] at *
  clear hv hE
  go_enter Tryd.func7, Tryd.ntmps7
  go_wp2_with (first
    | (go_at_call 9; first
      | (with_reducible refine (L1.out _ HS.out.row).mono ?_; rintro e w1 ⟨rfl, hB⟩; replace HS := hideL (HS.out.next hB); (try clear c0 c1); have c0 := HS.out.bx.c0; have c1 := HS.out.bx.c1; clear hB)
      | (with_reducible refine (L2.out _).mono ?_; rintro e w2 ⟨rfl, hB⟩; replace HS := hideL (HS.out.next hB); (try clear c0 c1); have c0 := HS.out.bx.c0; have c1 := HS.out.bx.c1; clear hB))
    | (go_at_call 10; with_reducible refine (LW.out _ HS.out.env).mono ?_; rintro e wx ⟨rfl, hB⟩; replace HS := hideL (HS.out.next hB); (try clear c0 c1); have c0 := HS.out.bx.c0; have c1 := HS.out.bx.c1; clear hB))
  go_ret
  exact ⟨rfl, HS.out.be⟩
set_option maxRecDepth 100000 in
set_option maxHeartbeats 8000000 in
theorem one_long2 (v : Value) (l : List Hd) (at_ : Int) (other : Hd) (value : ByteArray) (w0 : World) (hv : GAt KH w0 v l) (hE : Env w0) (hl : longP l = false) (hh : longH other = true) : Calls Tryd.prog 7 #[v, .int .i64 at_, hdV other, .string value] w0 (fun e w' => e = .returned (.bool true) ∧ Below w0.heap.size w0 w') := by
  have LW := hideL (fun W (hE : Env W) => awake_any W hE)
  have HS := hideL (SL.new other hv hE)
  have L1 := hideL (fun W hv => long_any v l W hv)
  have L2 := hideL (long_lit other)
  rw [hl] at L1
  rw [hh] at L2
  clear hl hh
  obtain ⟨n, c⟩ := other
  obtain ⟨ao, cap, rfl⟩ := hv.len
  simp only [hdV] at *
  clear hv hE
  go_enter Tryd.func7, Tryd.ntmps7
  go_wp2_with (first
    | (go_at_call 9; first
      | (with_reducible refine (L1.out _ HS.out.row).mono ?_; rintro e w1 ⟨rfl, hB⟩; replace HS := hideL (HS.out.next hB); (try clear c0 c1); have c0 := HS.out.bx.c0; have c1 := HS.out.bx.c1; clear hB)
      | (with_reducible refine (L2.out _).mono ?_; rintro e w2 ⟨rfl, hB⟩; replace HS := hideL (HS.out.next hB); (try clear c0 c1); have c0 := HS.out.bx.c0; have c1 := HS.out.bx.c1; clear hB))
    | (go_at_call 10; with_reducible refine (LW.out _ HS.out.env).mono ?_; rintro e wx ⟨rfl, hB⟩; replace HS := hideL (HS.out.next hB); (try clear c0 c1); have c0 := HS.out.bx.c0; have c1 := HS.out.bx.c1; clear hB))
  go_ret
  exact ⟨rfl, HS.out.be⟩
set_option maxRecDepth 100000 in
set_option maxHeartbeats 8000000 in
theorem one_long3 (v : Value) (l : List Hd) (at_ : Int) (other : Hd) (value : ByteArray) (w0 : World) (hv : GAt KH w0 v l) (hE : Env w0) (hl : longP l = false) (hh : longH other = false) (hs : 500 < value.size) : Calls Tryd.prog 7 #[v, .int .i64 at_, hdV other, .string value] w0 (fun e w' => e = .returned (.bool true) ∧ Below w0.heap.size w0 w') := by
  have LW := hideL (fun W (hE : Env W) => awake_any W hE)
  have HS := hideL (SL.new other hv hE)
  have L1 := hideL (fun W hv => long_any v l W hv)
  have L2 := hideL (long_lit other)
  rw [hl] at L1
  rw [hh] at L2
  have hs' : (500 : Int) < (value.size : Int) := by omega
  clear hl hh hs
  obtain ⟨n, c⟩ := other
  obtain ⟨ao, cap, rfl⟩ := hv.len
  simp only [hdV] at *
  clear hv hE
  go_enter Tryd.func7, Tryd.ntmps7
  go_wp2_with (first
    | (go_at_call 9; first
      | (with_reducible refine (L1.out _ HS.out.row).mono ?_; rintro e w1 ⟨rfl, hB⟩; replace HS := hideL (HS.out.next hB); (try clear c0 c1); have c0 := HS.out.bx.c0; have c1 := HS.out.bx.c1; clear hB)
      | (with_reducible refine (L2.out _).mono ?_; rintro e w2 ⟨rfl, hB⟩; replace HS := hideL (HS.out.next hB); (try clear c0 c1); have c0 := HS.out.bx.c0; have c1 := HS.out.bx.c1; clear hB))
    | (go_at_call 10; with_reducible refine (LW.out _ HS.out.env).mono ?_; rintro e wx ⟨rfl, hB⟩; replace HS := hideL (HS.out.next hB); (try clear c0 c1); have c0 := HS.out.bx.c0; have c1 := HS.out.bx.c1; clear hB))
  go_ret
  exact ⟨rfl, HS.out.be⟩
end Go.Proofs.YtilefgmlnmpeoaaDoor
