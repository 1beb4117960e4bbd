/- Rotate and Retire of token, each outcome by itself. -/
import Derived.Test.YtaomigfmjglggaaDoorTkTurn
namespace Go.Proofs.YtaomigfmjglggaaDoor
open Go.RowKit

theorem rotate_ok {k : List Int} {o n m q : Nat} (h1 : mayR q o n = true) (h2 : mayR q o m = true) (hm : n + 1 = m) (hq : k.length = q) (rv : Value) (w : World) (hk : SlAt w rv k) :
    Calls Tryd.prog 18 #[.agg (ringA rv o n)] w (fun e w' => ∃ va vc, e = .returned (.tuple #[.agg (ringA (.slice va q vc) o m), .int .i64 0]) ∧ Below w.heap.size w w' ∧ Row w' w.heap.size (.slice va q vc) k) := by
  subst hm hq
  refine (rotate_any k rv o n w hk).mono ?_
  rintro e w' ⟨v, a, b, err, hT⟩
  rcases hT.how with h | h | ⟨_, _, rfl, rfl, rfl, hr⟩
  · rw [h1] at h; cases h.1
  · rw [h2] at h; cases h.2.1
  · obtain ⟨va, vc, rfl⟩ := hr.slAt.len
    exact ⟨va, vc, hT.ret, hT.below, hr⟩
theorem rotate_full {k : List Int} {o n m q : Nat} (h1 : mayR q o n = true) (h2 : mayR q o m = false) (hm : n + 1 = m) (hq : k.length = q) (rv : Value) (w : World) (hk : SlAt w rv k) :
    Calls Tryd.prog 18 #[.agg (ringA rv o n)] w (fun e w' => ∃ va vc, e = .returned (.tuple #[.agg (ringA (.slice va 0 vc) 0 0), .int .i64 3]) ∧ Below w.heap.size w w' ∧ Row w' w.heap.size (.slice va 0 vc) []) := by
  subst hm hq
  refine (rotate_any k rv o n w hk).mono ?_
  rintro e w' ⟨v, a, b, err, hT⟩
  rcases hT.how with h | ⟨_, _, rfl, rfl, rfl, rfl⟩ | h
  · rw [h1] at h; cases h.1
  · exact ⟨none, 0, hT.ret, hT.below, Row.nil _ _⟩
  · rw [h2] at h; cases h.2.1
theorem rotate_arg {k : List Int} {o n q : Nat} (h1 : mayR q o n = false) (hq : k.length = q) (rv : Value) (w : World) (hk : SlAt w rv k) :
    Calls Tryd.prog 18 #[.agg (ringA rv o n)] w (fun e w' => ∃ va vc, e = .returned (.tuple #[.agg (ringA (.slice va 0 vc) 0 0), .int .i64 1]) ∧ Below w.heap.size w w' ∧ Row w' w.heap.size (.slice va 0 vc) []) := by
  subst hq
  refine (rotate_any k rv o n w hk).mono ?_
  rintro e w' ⟨v, a, b, err, hT⟩
  rcases hT.how with ⟨_, rfl, rfl, rfl, rfl⟩ | h | h
  · exact ⟨none, 0, hT.ret, hT.below, Row.nil _ _⟩
  · rw [h1] at h; cases h.1
  · rw [h1] at h; cases h.1

theorem retire_ok {k : List Int} {o n m q : Nat} (h1 : mayR q o n = true) (h2 : mayR q m n = true) (hm : o + 1 = m) (hq : k.length = q) (rv : Value) (w : World) (hk : SlAt w rv k) :
    Calls Tryd.prog 19 #[.agg (ringA rv o n)] w (fun e w' => ∃ va vc, e = .returned (.tuple #[.agg (ringA (.slice va q vc) m n), .int .i64 0]) ∧ Below w.heap.size w w' ∧ Row w' w.heap.size (.slice va q vc) k) := by
  subst hm hq
  refine (retire_any k rv o n w hk).mono ?_
  rintro e w' ⟨v, a, b, err, hT⟩
  rcases hT.how with h | h | ⟨_, _, rfl, rfl, rfl, hr⟩
  · rw [h1] at h; cases h.1
  · rw [h2] at h; cases h.2.1
  · obtain ⟨va, vc, rfl⟩ := hr.slAt.len
    exact ⟨va, vc, hT.ret, hT.below, hr⟩
theorem retire_full {k : List Int} {o n m q : Nat} (h1 : mayR q o n = true) (h2 : mayR q m n = false) (hm : o + 1 = m) (hq : k.length = q) (rv : Value) (w : World) (hk : SlAt w rv k) :
    Calls Tryd.prog 19 #[.agg (ringA rv o n)] w (fun e w' => ∃ va vc, e = .returned (.tuple #[.agg (ringA (.slice va 0 vc) 0 0), .int .i64 3]) ∧ Below w.heap.size w w' ∧ Row w' w.heap.size (.slice va 0 vc) []) := by
  subst hm hq
  refine (retire_any k rv o n w hk).mono ?_
  rintro e w' ⟨v, a, b, err, hT⟩
  rcases hT.how with h | ⟨_, _, rfl, rfl, rfl, rfl⟩ | h
  · rw [h1] at h; cases h.1
  · exact ⟨none, 0, hT.ret, hT.below, Row.nil _ _⟩
  · rw [h2] at h; cases h.2.1
theorem retire_arg {k : List Int} {o n q : Nat} (h1 : mayR q o n = false) (hq : k.length = q) (rv : Value) (w : World) (hk : SlAt w rv k) :
    Calls Tryd.prog 19 #[.agg (ringA rv o n)] w (fun e w' => ∃ va vc, e = .returned (.tuple #[.agg (ringA (.slice va 0 vc) 0 0), .int .i64 1]) ∧ Below w.heap.size w w' ∧ Row w' w.heap.size (.slice va 0 vc) []) := by
  subst hq
  refine (retire_any k rv o n w hk).mono ?_
  rintro e w' ⟨v, a, b, err, hT⟩
  rcases hT.how with ⟨_, rfl, rfl, rfl, rfl⟩ | h | h
  · exact ⟨none, 0, hT.ret, hT.below, Row.nil _ _⟩
  · rw [h1] at h; cases h.1
  · rw [h1] at h; cases h.1

theorem mayR_up {q o n m : Nat} (h : mayR q o n = true) (hm : n + 1 = m) : mayR q o m = decide (n < 4611686018427387903) := by
  subst hm
  rw [Bool.eq_iff_iff]
  simp only [mayR, Bool.and_eq_true, decide_eq_true_eq] at h ⊢
  unfold most at h ⊢
  omega
theorem mayR_off {q o n m : Nat} (h : mayR q o n = true) (hm : o + 1 = m) : mayR q m n = decide (o < n) := by
  subst hm
  rw [Bool.eq_iff_iff]
  simp only [mayR, Bool.and_eq_true, decide_eq_true_eq] at h ⊢
  unfold most at h ⊢
  omega
theorem wpList_store_rg_new {ops : Array Oper} {rest : List Oper} {op : Oper} {a : Act} {w : World} {Q : Exit → Act → World → Prop} (hgd : op.guard = none) (x y : Operand) (ho : op.op = .store 25 x y) (g : Nat) (v : Value) (o n : Nat) (hx : a.eval x = .pointer (some ⟨g, 0, none⟩)) (hy : a.eval y = .agg (ringA v o n)) (hv : v.oneCell' = true) (rv : Value) (o' n' : Nat) (ht : RBox w g rv o' n')
    (Post : World → Prop) (hp : Post (w.setRow g (ringA v o n))) (h : ∀ w', Post w' → wpList Tryd.prog ops Q rest (a.put op.dst undef) w') : wpList Tryd.prog ops Q (op :: rest) a w :=
  wpList_store_rg hgd x y ho g v o n hx hy hv rv o' n' ht (h _ hp)
theorem rbox_zero (w : World) : RBox (w.alloc (.cells #[.slice none 0 0, .int .u64 0, .int .u64 0] 25)) w.heap.size (.slice none 0 0) 0 0 := heap_alloc_new w _
theorem below_pairR (w3 : World) (cs : Array Value) : Below w3.heap.size w3 ((w3.alloc (.cells #[.slice none 0 0, .int .u64 0, .int .u64 0] 25)).setRow w3.heap.size cs) := below_setRow ((Below.refl _ _).alloc (Nat.le_refl _) _) (Nat.le_refl _) _
theorem RBox.pair (w3 : World) (v : Value) (o n : Nat) : RBox ((w3.alloc (.cells #[.slice none 0 0, .int .u64 0, .int .u64 0] 25)).setRow w3.heap.size (ringA v o n)) w3.heap.size v o n := (rbox_zero w3).row
end Go.Proofs.YtaomigfmjglggaaDoor
