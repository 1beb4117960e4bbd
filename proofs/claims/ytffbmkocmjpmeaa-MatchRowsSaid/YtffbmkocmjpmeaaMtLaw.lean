/- What the laws of layer 7 share. -/
import Derived.Test.YtffbmkocmjpmeaaMtAwake
import Derived.Test.YtffbmkocmjpmeaaFrame
namespace Go.Proofs.Ytffbmkocmjpmeaa
open Go.RowKit

/-- The boxes of two terms. -/
structure S2 (w : World) (a b : Tm) (W : World) : Prop where
  ba : TBox W w.heap.size a.k a.t
  bb : TBox W (w.heap.size + 1) b.k b.t
  be : Below w.heap.size w W
theorem S2.next {w : World} {a b : Tm} {W W' : World} (h : S2 w a b W) (hb : Below W.heap.size W W') : S2 w a b W' := ⟨h.ba.next hb, h.bb.next hb, h.be.trans (hb.mono h.be.size)⟩
theorem S2.new (w : World) (a b : Tm) : S2 w a b ((w.alloc (.cells #[.int .i64 a.k, .string a.t] 23)).alloc (.cells #[.int .i64 b.k, .string b.t] 23)) := by
  refine ⟨(TBox.new w a.k a.t).next ((Below.refl _ _).alloc (Nat.le_refl _) _), ?_, ((Below.refl w.heap.size w).alloc (Nat.le_refl _) _).alloc (by simp) _⟩
  have h := TBox.new (w.alloc (.cells #[.int .i64 a.k, .string a.t] 23)) b.k b.t
  rwa [World.size_alloc] at h
/-- The boxes of three. -/
structure S3 (w : World) (a b c : Tm) (W : World) : Prop where
  ba : TBox W w.heap.size a.k a.t
  bb : TBox W (w.heap.size + 1) b.k b.t
  bc : TBox W (w.heap.size + 1 + 1) c.k c.t
  be : Below w.heap.size w W
theorem S3.next {w : World} {a b c : Tm} {W W' : World} (h : S3 w a b c W) (hb : Below W.heap.size W W') : S3 w a b c W' := ⟨h.ba.next hb, h.bb.next hb, h.bc.next hb, h.be.trans (hb.mono h.be.size)⟩
theorem S3.new (w : World) (a b c : Tm) : S3 w a b c (((w.alloc (.cells #[.int .i64 a.k, .string a.t] 23)).alloc (.cells #[.int .i64 b.k, .string b.t] 23)).alloc (.cells #[.int .i64 c.k, .string c.t] 23)) := by
  have h2 := S2.new w a b
  have hb := (Below.refl ((w.alloc (.cells #[.int .i64 a.k, .string a.t] 23)).alloc (.cells #[.int .i64 b.k, .string b.t] 23)).heap.size _).alloc (Nat.le_refl _) (.cells #[.int .i64 c.k, .string c.t] 23)
  have h3 := h2.next hb
  refine ⟨h3.ba, h3.bb, ?_, h3.be⟩
  have h := TBox.new ((w.alloc (.cells #[.int .i64 a.k, .string a.t] 23)).alloc (.cells #[.int .i64 b.k, .string b.t] 23)) c.k c.t
  rwa [World.size_alloc, World.size_alloc] at h
/-- Long at a row that is laid for it. -/
theorem long_row (s : ByteArray) (l : List Tm) (W : World) (hl : l.length ≤ maxLen) : Calls Try.prog 8 #[.string s, .slice (some ⟨W.heap.size, 0, none⟩) l.length l.length] (W.alloc (.cells (KT.all l).toArray 23)) (fun e w' => e = .returned (.bool (longM s l)) ∧ Below W.heap.size W w') := by
  have hb := (Below.refl W.heap.size W).alloc (Nat.le_refl _) (.cells (KT.all l).toArray 23)
  have hx : l.length ≤ 9223372036854775807 := by unfold maxLen at hl; omega
  refine (long_any s _ l _ (GRow.lit (K := KT) W W.heap.size l (Nat.le_refl _) hl).gAt hx).mono ?_
  rintro e w' ⟨h1, h2⟩
  exact ⟨h1, hb.trans (h2.mono hb.size)⟩
end Go.Proofs.Ytffbmkocmjpmeaa
