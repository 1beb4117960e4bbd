/- Package code: NewReader, and what a reader is asked for. -/
import Derived.Test.YtdlhengfhmkpdaaDoorCdRaw
namespace Go.Proofs.YtdlhengfhmkpdaaDoor
open Go.RowKit

set_option maxRecDepth 100000 in
/-- A reader of bytes: it has a copy of them. -/
theorem newReader_any (sv : Value) (bs : List Int) (W : World) (hs : SlAt W sv bs) (hb : bs.length ≤ 140737488355328) :
    Calls Tryd.prog 13 #[sv] W (fun e w' => ∃ g, e = .returned (.pointer (some ⟨g, 0, none⟩)) ∧ Below W.heap.size W w' ∧ Rd w' W.heap.size (fun k => W.heap.size ≤ k ∧ k < w'.heap.size) g bs false) := by
  have HC := hide (clone_any sv bs W hs hb)
  clear hs
  go_enter Tryd.func13, Tryd.ntmps13
  go_wp2_with fail
  refine HC.out.mono ?_
  rintro e w1 ⟨v', rfl, hrow, hB⟩
  obtain ⟨ao, cap, rfl⟩ := hrow.slAt.len
  have HR := hide hrow
  have HB := hide hB
  clear hrow hB
  go_wp2_with fail
  go_ret
  refine ⟨_, rfl, HB.out.alloc HB.out.size _, ⟨HB.out.size, by simp⟩, fun k h => h, _, heap_alloc_new _ _, (HR.out.alloc _).slAt, fun k e => ?_⟩
  have h1 := HR.out.ge e
  have h2 := HR.out.lt e
  exact ⟨⟨h1, by simp; omega⟩, by omega⟩

theorem rdPost_pre {W W1 : World} {B g : Nat} {F : Nat → Prop} {bs : List Int} {z : Value} {P : Value → World → Prop} {r : Option (List Int)} {e : Ending} {w' : World} (hb : Below W.heap.size W W1) (h : RdPost W1 B F g bs z P r e w') : RdPost W B F g bs z P r e w' := by
  refine ⟨(Keep.of_below hb : Keep F W W1).trans h.1 (fun _ h => .inl h), ?_⟩
  have := h.2
  cases r <;> exact this

set_option maxRecDepth 100000 in
theorem r8_nil (W : World) : Calls Tryd.prog 15 #[.pointer none] W (fun e w' => e = .returned (.int .u8 0) ∧ Below W.heap.size W w') := by
  go_enter Tryd.func15, Tryd.ntmps15
  go_wp2_with fail
  refine (take_u8_nil _ _).mono ?_
  rintro e w1 ⟨rfl, rfl⟩
  go_wp2_with fail
  go_ret
  exact ⟨rfl, Below.refl _ _⟩

set_option maxRecDepth 100000 in
theorem r8_stop (W : World) (B : Nat) (F : Nat → Prop) (g : Nat) (bs : List Int) (h : Rd W B F g bs true) : Calls Tryd.prog 15 #[.pointer (some ⟨g, 0, none⟩)] W (fun e w' => e = .returned (.int .u8 0) ∧ Below W.heap.size W w') := by
  have HH := hide h
  clear h
  go_enter Tryd.func15, Tryd.ntmps15
  go_wp2_with fail
  refine (take_u8_stop _ _ B F g bs HH.out).mono ?_
  rintro e w1 ⟨rfl, rfl⟩
  go_wp2_with fail
  go_ret
  exact ⟨rfl, Below.refl _ _⟩

set_option maxRecDepth 100000 in
theorem r8_go (W : World) (B : Nat) (F : Nat → Prop) (g : Nat) (bs : List Int) (h : Rd W B F g bs false) :
    Calls Tryd.prog 15 #[.pointer (some ⟨g, 0, none⟩)] W (RdPost W B F g bs (.int .u8 0) (fun f _ => f = .int .u8 (nth bs 0)) (cut8 bs)) := by
  have HC := hide (take_u8_go W B F g bs (fun f _ => f = .int .u8 (nth bs 0)) (cut8 bs) h (fun _ _ _ h _ => h) (fun sv hs => cutU8_any sv bs W hs))
  clear h
  go_enter Tryd.func15, Tryd.ntmps15
  go_wp2_with fail
  refine HC.out.mono ?_
  intro e w1 hp
  have HP := hide hp
  obtain ⟨v, rfl⟩ : ∃ v, e = .returned v := by
    have := hp.2
    split at this
    · exact ⟨_, this.1⟩
    · exact ⟨_, this.choose_spec.1⟩
  clear hp HC
  go_wp2_with fail
  go_ret
  exact HP.out

set_option maxRecDepth 100000 in
theorem r32_nil (W : World) : Calls Tryd.prog 17 #[.pointer none] W (fun e w' => e = .returned (.int .u32 0) ∧ Below W.heap.size W w') := by
  go_enter Tryd.func17, Tryd.ntmps17
  go_wp2_with fail
  refine (take_u32_nil _ _).mono ?_
  rintro e w1 ⟨rfl, rfl⟩
  go_wp2_with fail
  go_ret
  exact ⟨rfl, Below.refl _ _⟩

set_option maxRecDepth 100000 in
theorem r32_stop (W : World) (B : Nat) (F : Nat → Prop) (g : Nat) (bs : List Int) (h : Rd W B F g bs true) : Calls Tryd.prog 17 #[.pointer (some ⟨g, 0, none⟩)] W (fun e w' => e = .returned (.int .u32 0) ∧ Below W.heap.size W w') := by
  have HH := hide h
  clear h
  go_enter Tryd.func17, Tryd.ntmps17
  go_wp2_with fail
  refine (take_u32_stop _ _ B F g bs HH.out).mono ?_
  rintro e w1 ⟨rfl, rfl⟩
  go_wp2_with fail
  go_ret
  exact ⟨rfl, Below.refl _ _⟩

set_option maxRecDepth 100000 in
theorem r32_go (W : World) (B : Nat) (F : Nat → Prop) (g : Nat) (bs : List Int) (h : Rd W B F g bs false) (ht : Tab W) (hr : ∀ x ∈ bs, 0 ≤ x ∧ x < 256) :
    Calls Tryd.prog 17 #[.pointer (some ⟨g, 0, none⟩)] W (RdPost W B F g bs (.int .u32 0) (fun f _ => f = .int .u32 (u32V bs 4 : Nat)) (cut32 bs)) := by
  have HC := hide (take_u32_go W B F g bs (fun f _ => f = .int .u32 (u32V bs 4 : Nat)) (cut32 bs) h (fun _ _ _ h _ => h) (fun sv hs => cutU32_any sv bs W ht hs hr))
  clear h
  go_enter Tryd.func17, Tryd.ntmps17
  go_wp2_with fail
  refine HC.out.mono ?_
  intro e w1 hp
  have HP := hide hp
  obtain ⟨v, rfl⟩ : ∃ v, e = .returned v := by
    have := hp.2
    split at this
    · exact ⟨_, this.1⟩
    · exact ⟨_, this.choose_spec.1⟩
  clear hp HC
  go_wp2_with fail
  go_ret
  exact HP.out

theorem cutU_post {W : World} {sv : Value} {bs : List Int} {e : Ending} {w' : World} (h : CutU W sv bs e w') : CutPost W sv (fun f _ => f = .int .u64 ((((cutUS bs).map (·.1)).getD 0 : Nat))) ((cutUS bs).map (·.2)) e w' := by
  refine ⟨h.1, ?_⟩
  have h2 := h.2
  cases hc : cutUS bs with
  | none => rw [hc] at h2; exact h2
  | some y =>
    rw [hc] at h2
    obtain ⟨s, he, hs, ho⟩ := h2
    exact ⟨_, s, he, rfl, hs, ho⟩

set_option maxRecDepth 100000 in
theorem ru_nil (W : World) : Calls Tryd.prog 18 #[.pointer none] W (fun e w' => e = .returned (.int .u64 0) ∧ Below W.heap.size W w') := by
  go_enter Tryd.func18, Tryd.ntmps18
  go_wp2_with fail
  refine (take_uint_nil _ _).mono ?_
  rintro e w1 ⟨rfl, rfl⟩
  go_wp2_with fail
  go_ret
  exact ⟨rfl, Below.refl _ _⟩

set_option maxRecDepth 100000 in
theorem ru_stop (W : World) (B : Nat) (F : Nat → Prop) (g : Nat) (bs : List Int) (h : Rd W B F g bs true) : Calls Tryd.prog 18 #[.pointer (some ⟨g, 0, none⟩)] W (fun e w' => e = .returned (.int .u64 0) ∧ Below W.heap.size W w') := by
  have HH := hide h
  clear h
  go_enter Tryd.func18, Tryd.ntmps18
  go_wp2_with fail
  refine (take_uint_stop _ _ B F g bs HH.out).mono ?_
  rintro e w1 ⟨rfl, rfl⟩
  go_wp2_with fail
  go_ret
  exact ⟨rfl, Below.refl _ _⟩

set_option maxRecDepth 100000 in
theorem ru_go (W : World) (B : Nat) (F : Nat → Prop) (g : Nat) (bs : List Int) (h : Rd W B F g bs false) (ht : Tab W) (hr : ∀ x ∈ bs, 0 ≤ x ∧ x < 256) :
    Calls Tryd.prog 18 #[.pointer (some ⟨g, 0, none⟩)] W (RdPost W B F g bs (.int .u64 0) (fun f _ => f = .int .u64 ((((cutUS bs).map (·.1)).getD 0 : Nat))) ((cutUS bs).map (·.2))) := by
  have HC := hide (take_uint_go W B F g bs (fun f _ => f = .int .u64 ((((cutUS bs).map (·.1)).getD 0 : Nat))) ((cutUS bs).map (·.2)) h (fun _ _ _ h _ => h) (fun sv hs => (cutUint_any sv bs W ht hs hr).mono (fun _ _ h => cutU_post h)))
  clear h
  go_enter Tryd.func18, Tryd.ntmps18
  go_wp2_with fail
  refine HC.out.mono ?_
  intro e w1 hp
  have HP := hide hp
  obtain ⟨v, rfl⟩ : ∃ v, e = .returned v := by
    have := hp.2
    split at this
    · exact ⟨_, this.1⟩
    · exact ⟨_, this.choose_spec.1⟩
  clear hp HC
  go_wp2_with fail
  go_ret
  exact HP.out

set_option maxRecDepth 100000 in
theorem rt_nil (n : Int) (W : World) : Calls Tryd.prog 20 #[.pointer none, .int .i64 n] W (fun e w' => e = .returned (.string ⟨#[]⟩) ∧ Below W.heap.size W w') := by
  go_enter Tryd.func20, Tryd.ntmps20
  go_wp2_with fail
  refine (take_text_nil _ _).mono ?_
  rintro e w1 ⟨rfl, rfl⟩
  go_wp2_with fail
  go_ret
  exact ⟨rfl, (Below.refl _ _).alloc (Nat.le_refl _) _⟩

set_option maxRecDepth 100000 in
theorem rt_stop (n : Int) (W : World) (B : Nat) (F : Nat → Prop) (g : Nat) (bs : List Int) (h : Rd W B F g bs true) : Calls Tryd.prog 20 #[.pointer (some ⟨g, 0, none⟩), .int .i64 n] W (fun e w' => e = .returned (.string ⟨#[]⟩) ∧ Below W.heap.size W w') := by
  have HH := hide (h.keep (Keep.alloc (fun _ => False) W (.cells #[.int .i64 n] 3)) (fun _ _ => id))
  clear h
  go_enter Tryd.func20, Tryd.ntmps20
  go_wp2_with fail
  refine (take_text_stop _ _ B F g bs HH.out).mono ?_
  rintro e w1 ⟨rfl, rfl⟩
  go_wp2_with fail
  go_ret
  exact ⟨rfl, (Below.refl _ _).alloc (Nat.le_refl _) _⟩

set_option maxRecDepth 100000 in
theorem rt_go (n : Int) (W : World) (B : Nat) (F : Nat → Prop) (g : Nat) (bs : List Int) (h : Rd W B F g bs false) (hn : n < 18446744073709551616) (ht : Tab W) (hr : ∀ x ∈ bs, 0 ≤ x ∧ x < 256) (hb : bs.length ≤ 140737488355328) :
    Calls Tryd.prog 20 #[.pointer (some ⟨g, 0, none⟩), .int .i64 n] W (RdPost W B F g bs (.string ⟨#[]⟩) (fun f _ => f = .string (strOfNums (((cutTS n bs).map (·.1)).getD []))) ((cutTS n bs).map (·.2))) := by
  have hgl := (h.ge g h.own).2
  have hB : Below W.heap.size W (W.alloc (.cells #[.int .i64 n] 3)) := (Below.refl _ _).alloc (Nat.le_refl _) _
  have h1 := h.keep (Keep.alloc (fun _ => False) W (.cells #[.int .i64 n] 3)) (fun _ _ => id)
  have hcp : (W.alloc (.cells #[.int .i64 n] 3)).cell? ⟨W.heap.size, 0, none⟩ = some (.int .i64 n) := (cell_of_row _ _ 0 _ _ _ (heap_alloc_new _ _)).trans rfl
  have hcl : W.heap.size < (W.alloc (.cells #[.int .i64 n] 3)).heap.size := by simp
  have HC := hide (take_text_go (.pointer (some ⟨W.heap.size, 0, none⟩)) (W.alloc (.cells #[.int .i64 n] 3)) B F g bs (fun f _ => f = .string (strOfNums (((cutTS n bs).map (·.1)).getD []))) ((cutTS n bs).map (·.2)) h1 (fun _ _ _ h _ => h) (fun sv hs => cutText_any n hn W.heap.size sv bs _ (ht.below hB ht.two) hcp hcl hs hr hb))
  have HB := hide hB
  clear h h1 hcp hcl hB
  go_enter Tryd.func20, Tryd.ntmps20
  go_wp2_with fail
  refine HC.out.mono ?_
  intro e w1 hp
  have HP := hide (rdPost_pre HB.out hp)
  obtain ⟨v, rfl⟩ : ∃ v, e = .returned v := by
    have := hp.2
    split at this
    · exact ⟨_, this.1⟩
    · exact ⟨_, this.choose_spec.1⟩
  clear hp HC
  go_wp2_with fail
  go_ret
  exact HP.out

set_option maxRecDepth 100000 in
theorem rr_nil (n : Int) (W : World) : Calls Tryd.prog 22 #[.pointer none, .int .i64 n] W (fun e w' => e = .returned (.slice none 0 0) ∧ Below W.heap.size W w') := by
  go_enter Tryd.func22, Tryd.ntmps22
  go_wp2_with fail
  refine (take_raw_nil _ _).mono ?_
  rintro e w1 ⟨rfl, rfl⟩
  go_wp2_with fail
  go_ret
  exact ⟨rfl, (Below.refl _ _).alloc (Nat.le_refl _) _⟩

set_option maxRecDepth 100000 in
theorem rr_stop (n : Int) (W : World) (B : Nat) (F : Nat → Prop) (g : Nat) (bs : List Int) (h : Rd W B F g bs true) : Calls Tryd.prog 22 #[.pointer (some ⟨g, 0, none⟩), .int .i64 n] W (fun e w' => e = .returned (.slice none 0 0) ∧ Below W.heap.size W w') := by
  have HH := hide (h.keep (Keep.alloc (fun _ => False) W (.cells #[.int .i64 n] 3)) (fun _ _ => id))
  clear h
  go_enter Tryd.func22, Tryd.ntmps22
  go_wp2_with fail
  refine (take_raw_stop _ _ B F g bs HH.out).mono ?_
  rintro e w1 ⟨rfl, rfl⟩
  go_wp2_with fail
  go_ret
  exact ⟨rfl, (Below.refl _ _).alloc (Nat.le_refl _) _⟩

set_option maxRecDepth 100000 in
theorem rr_go (n : Int) (W : World) (B : Nat) (F : Nat → Prop) (g : Nat) (bs : List Int) (h : Rd W B F g bs false) (hb : bs.length ≤ 140737488355328) :
    Calls Tryd.prog 22 #[.pointer (some ⟨g, 0, none⟩), .int .i64 n] W (RdPost W B F g bs (.slice none 0 0) (fun f w => Row w (W.heap.size + 1) f (bs.take n.toNat)) (cutRS n bs)) := by
  have hgl := (h.ge g h.own).2
  have hB : Below W.heap.size W (W.alloc (.cells #[.int .i64 n] 3)) := (Below.refl _ _).alloc (Nat.le_refl _) _
  have h1 := h.keep (Keep.alloc (fun _ => False) W (.cells #[.int .i64 n] 3)) (fun _ _ => id)
  have hcp : (W.alloc (.cells #[.int .i64 n] 3)).cell? ⟨W.heap.size, 0, none⟩ = some (.int .i64 n) := (cell_of_row _ _ 0 _ _ _ (heap_alloc_new _ _)).trans rfl
  have hcl : W.heap.size < (W.alloc (.cells #[.int .i64 n] 3)).heap.size := by simp
  have HC := hide (take_raw_go (.pointer (some ⟨W.heap.size, 0, none⟩)) (W.alloc (.cells #[.int .i64 n] 3)) B F g bs (fun f w => Row w (W.heap.size + 1) f (bs.take n.toNat)) (cutRS n bs) h1 (fun _ _ _ h k => h.keep k (fun x e hx => by have := h.ge e; omega)) (fun sv hs => by have := cutRaw_any n W.heap.size sv bs _ hcp hcl hs hb; rwa [show (W.alloc (.cells #[.int .i64 n] 3)).heap.size = W.heap.size + 1 by simp] at this))
  have HB := hide hB
  clear h h1 hcp hcl hB
  go_enter Tryd.func22, Tryd.ntmps22
  go_wp2_with fail
  refine HC.out.mono ?_
  intro e w1 hp
  have HP := hide (rdPost_pre HB.out hp)
  obtain ⟨v, rfl⟩ : ∃ v, e = .returned v := by
    have := hp.2
    split at this
    · exact ⟨_, this.1⟩
    · exact ⟨_, this.choose_spec.1⟩
  clear hp HC
  go_wp2_with fail
  go_ret
  exact HP.out
end Go.Proofs.YtdlhengfhmkpdaaDoor
