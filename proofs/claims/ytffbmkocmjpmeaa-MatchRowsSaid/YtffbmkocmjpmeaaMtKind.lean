/- kinds of the program. -/
import Derived.Test.YtffbmkocmjpmeaaMtText
import Derived.Test.YtffbmkocmjpmeaaPl
namespace Go.Proofs.Ytffbmkocmjpmeaa
open Go.RowKit

/-- What kinds answers. -/
def kindsC : Array Value := #[.string ⟨#[]⟩, .string ⟨#[]⟩, .nilFunc, .nilFunc,
  .string ⟨#[]⟩, .string ⟨#[]⟩, .func (.func 36) #[] #[], .func (.func 37) #[] #[],
  .string ⟨#[]⟩, .string ⟨#[42]⟩, .func (.func 36) #[] #[], .func (.func 38) #[] #[],
  .string ⟨#[42]⟩, .string ⟨#[]⟩, .func (.func 36) #[] #[], .func (.func 39) #[] #[],
  .string ⟨#[42]⟩, .string ⟨#[]⟩, .func (.func 40) #[] #[], .func (.func 41) #[] #[]]
def zerosC : Array Value := #[.string ⟨#[]⟩, .string ⟨#[]⟩, .nilFunc, .nilFunc, .string ⟨#[]⟩, .string ⟨#[]⟩, .nilFunc, .nilFunc, .string ⟨#[]⟩, .string ⟨#[]⟩, .nilFunc, .nilFunc, .string ⟨#[]⟩, .string ⟨#[]⟩, .nilFunc, .nilFunc, .string ⟨#[]⟩, .string ⟨#[]⟩, .nilFunc, .nilFunc]
theorem zeroKs (w : World) : (zeroValue 56).run Try.prog w = .ok (.agg zerosC) w := by kernel_rfl
theorem sizeKs : (Try.prog.info? 56).map (·.size) = some kindsC.size := by kernel_rfl
theorem oneKs : kindsC.all (·.oneCell') = true := by kernel_rfl
set_option maxRecDepth 100000 in
theorem kinds_any (w : World) : Calls Try.prog 32 #[] w (fun e w' => e = .returned (.agg kindsC) ∧ Below w.heap.size w w') := by
  go_enter Try.func32, Try.ntmps32
  go_wp2_with (first
    | (with_reducible refine wpList_alloc_row rfl 56 rfl zerosC zeroKs ?_)
    | (refine wpList_store_row rfl 56 (.tmp 0) (.tmp 5) rfl w.heap.size kindsC rfl rfl _ _ (heap_alloc_new _ _) sizeKs rfl oneKs ?_))
  refine bodyPost_ret (results_cell_row rfl _ _ w.heap.size _ kindsC (0, 0) _ rfl (setRow_heap _ _ _ _ _ (0, 0) (heap_alloc_new _ _)) Try.underlying56 rfl sizeKs) rfl ?_
  exact ⟨rfl, below_setRow ((Below.refl _ _).alloc (Nat.le_refl _) _) (Nat.le_refl _) _⟩
/-- A box that holds a term; one that holds a kind. -/
def TBox (W : World) (g : Nat) (k : Int) (t : ByteArray) : Prop := W.heap[g]? = some (.cells #[.int .i64 k, .string t] 23 (0, 0))
theorem TBox.c0 {W : World} {g : Nat} {k : Int} {t : ByteArray} (h : TBox W g k t) : W.cell? ⟨g, 0, none⟩ = some (.int .i64 k) := (cell_of_row W g 0 _ _ _ h).trans rfl
theorem TBox.c1 {W : World} {g : Nat} {k : Int} {t : ByteArray} (h : TBox W g k t) : W.cell? ⟨g, 1, none⟩ = some (.string t) := (cell_of_row W g 1 _ _ _ h).trans rfl
theorem TBox.lt {W : World} {g : Nat} {k : Int} {t : ByteArray} (h : TBox W g k t) : g < W.heap.size := (Array.getElem?_eq_some_iff.1 h).1
theorem TBox.new (w : World) (k : Int) (t : ByteArray) : TBox (w.alloc (.cells #[.int .i64 k, .string t] 23)) w.heap.size k t := heap_alloc_new w _
theorem TBox.next {W W' : World} {g : Nat} {k : Int} {t : ByteArray} (h : TBox W g k t) (hb : Below W.heap.size W W') : TBox W' g k t := (hb.block g h.lt).trans h
theorem TBox.drew {W : World} {g : Nat} {k : Int} {t : ByteArray} (h : TBox W g k t) : TBox W.drew g k t := h
def kc (p q : ByteArray) (f g : Value) : Array Value := #[.string p, .string q, f, g]
def KBox (W : World) (n : Nat) (p q : ByteArray) (f g : Value) : Prop := W.heap[n]? = some (.cells (kc p q f g) 51 (0, 0))
theorem KBox.c0 {W : World} {n : Nat} {p q : ByteArray} {f g : Value} (h : KBox W n p q f g) : W.cell? ⟨n, 0, none⟩ = some (.string p) := (cell_of_row W n 0 _ _ _ h).trans rfl
theorem KBox.c1 {W : World} {n : Nat} {p q : ByteArray} {f g : Value} (h : KBox W n p q f g) : W.cell? ⟨n, 1, none⟩ = some (.string q) := (cell_of_row W n 1 _ _ _ h).trans rfl
theorem KBox.c2 {W : World} {n : Nat} {p q : ByteArray} {f g : Value} (h : KBox W n p q f g) : W.cell? ⟨n, 2, none⟩ = some f := (cell_of_row W n 2 _ _ _ h).trans rfl
theorem KBox.c3 {W : World} {n : Nat} {p q : ByteArray} {f g : Value} (h : KBox W n p q f g) : W.cell? ⟨n, 3, none⟩ = some g := (cell_of_row W n 3 _ _ _ h).trans rfl
theorem KBox.lt {W : World} {n : Nat} {p q : ByteArray} {f g : Value} (h : KBox W n p q f g) : n < W.heap.size := (Array.getElem?_eq_some_iff.1 h).1
theorem KBox.new (w : World) (p q : ByteArray) (f g : Value) : KBox (w.alloc (.cells (kc p q f g) 51)) w.heap.size p q f g := heap_alloc_new w _
theorem KBox.next {W W' : World} {n : Nat} {p q : ByteArray} {f g : Value} (h : KBox W n p q f g) (hb : Below W.heap.size W W') : KBox W' n p q f g := (hb.block n h.lt).trans h
theorem KBox.drew {W : World} {n : Nat} {p q : ByteArray} {f g : Value} (h : KBox W n p q f g) : KBox W.drew n p q f g := h
theorem KBox.set {W : World} {n : Nat} {p q : ByteArray} {f g : Value} (h : KBox W n p q f g) (p' q' : ByteArray) (f' g' : Value) : KBox (W.setRow n (kc p' q' f' g')) n p' q' f' g' := setRow_heap _ _ _ _ _ (0, 0) h
theorem zeroK (w : World) : (zeroValue 51).run Try.prog w = .ok (.agg (kc ⟨#[]⟩ ⟨#[]⟩ .nilFunc .nilFunc)) w := by kernel_rfl
theorem sizeK (p q : ByteArray) (f g : Value) : (Try.prog.info? 51).map (·.size) = some (kc p q f g).size := by kernel_rfl
theorem KBox.row {W : World} {n m : Nat} {p q : ByteArray} {f g : Value} (h : KBox W n p q f g) (hne : n ≠ m) (cs : Array Value) : KBox (W.setRow m cs) n p q f g := (_root_.Go.setRow_other _ _ n cs hne).trans h
theorem TBox.row {W : World} {g n : Nat} {k : Int} {t : ByteArray} (h : TBox W g k t) (hne : g ≠ n) (cs : Array Value) : TBox (W.setRow n cs) g k t := (_root_.Go.setRow_other _ _ g cs hne).trans h
theorem wp_alloc_k {op : Oper} {a : Act} {w : World} {K : Act → World → Prop} {Q : Exit → Act → World → Prop} (ho : op.op = .alloc 51)
    (h : K (a.put op.dst (.pointer (some ⟨w.heap.size, 0, none⟩))) (w.alloc (.cells (kc ⟨#[]⟩ ⟨#[]⟩ .nilFunc .nilFunc) 51))) : Oper.wp Try.prog op a w K Q := by
  unfold Oper.wp execOp
  simp [ho, Instr.alloc, newVar, Value.cells]
  exact h
theorem oneK (p q : ByteArray) {f g : Value} (hf : f.oneCell' = true) (hg : g.oneCell' = true) : (kc p q f g).all (·.oneCell') = true := by
  simp only [kc, Array.all_eq_true', Array.mem_def, List.mem_cons, List.not_mem_nil, or_false]
  rintro x (rfl | rfl | rfl | rfl)
  · rfl
  · rfl
  · exact hf
  · exact hg
end Go.Proofs.Ytffbmkocmjpmeaa
