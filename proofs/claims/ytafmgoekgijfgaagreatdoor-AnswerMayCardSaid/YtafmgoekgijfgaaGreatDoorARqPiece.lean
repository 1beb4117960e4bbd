/- pieces: what bytes, fed in pieces, are read as. -/
import Derived.Test.YtafmgoekgijfgaaGreatDoorARqM6
import Derived.Test.YtafmgoekgijfgaaGreatDoorARqFeed
import Derived.Test.YtafmgoekgijfgaaGreatDoorAHdRefT
import Derived.Test.YtafmgoekgijfgaaGreatDoorARqRaws
import Derived.StillTailTactics
namespace Go.Proofs.YtafmgoekgijfgaaGreatDoor
open Go.RowKit Go.Lib

section
variable {p0 : Nat} {W W' : World} {s : Ps} {lv hv bv ov : Sl} {xs : List Rw} {m : List RV}
/-- The reading so far, in its box, and the messages so far. -/
structure Pc (p0 : Nat) (W : World) (s : Ps) (lv hv bv ov : Sl) (xs : List Rw) (m : List RV) : Prop where
 box : RBox7 101 W p0 (.int .i64 s.phase) lv.v (.string (bo s.start)) hv.v bv.v (.int .i64 s.left) (.int .i64 s.err)
 gl : GAt KB W lv.v s.line
 gh : GAt KH W hv.v s.heads
 gb : GAt KB W bv.v s.body
 rows : GRow (KR 33) W (p0 + 1) ov.v m
 raws : RawsOf W m xs
 off : ∀ u ∈ lv.v :: hv.v :: bv.v :: elsV m, ∀ k, u.ownBlock = some k → p0 + 1 ≤ k ∧ k < W.heap.size ∧ ov.v.ownBlock ≠ some k
theorem Pc.below (h : Pc p0 W s lv hv bv ov xs m) (hb : Below W.heap.size W W') : Pc p0 W' s lv hv bv ov xs m :=
 ⟨h.box.next hb, h.gl.below hb, h.gh.below hb, h.gb.below hb, h.rows.below hb, h.raws.below hb, fun u hu k hk => ⟨(h.off u hu k hk).1, Nat.lt_of_lt_of_le (h.off u hu k hk).2.1 hb.size, (h.off u hu k hk).2.2⟩⟩
theorem Pc.lt (h : Pc p0 W s lv hv bv ov xs m) : p0 < W.heap.size := h.box.lt
theorem Pc.new (W : World) : Pc W.heap.size (W.alloc (psO7 new0 sl0 sl0 sl0)) new0 sl0 sl0 sl0 sl0 [] [] :=
 ⟨ps_box W new0 sl0 sl0 sl0, GAt.nil _, GAt.nil _, GAt.nil _, GRow.nil _ _, RawsOf.nil _, fun u hu k hk => by
   simp only [elsV, List.flatMap_nil, List.mem_cons, List.not_mem_nil, or_false] at hu
   rcases hu with rfl | rfl | rfl <;> cases hk⟩
/-- Feed's answer takes the box. -/
theorem Pc.fed {s' : Ps} {lv' hv' bv' : Sl} {W3 : World} (h : Pc p0 W s lv hv bv ov xs m) (hb : Below W.heap.size W W3) (g1 : GAt KB W3 lv'.v s'.line) (g2 : GAt KH W3 hv'.v s'.heads) (g3 : GAt KB W3 bv'.v s'.body)
   (hn : ∀ u ∈ [lv'.v, hv'.v, bv'.v], ∀ k, u.ownBlock = some k → W.heap.size ≤ k ∧ k < W3.heap.size) (hk : Keep (fun k => k = p0) W3 W') (hx : RBox7 101 W' p0 (.int .i64 s'.phase) lv'.v (.string (bo s'.start)) hv'.v bv'.v (.int .i64 s'.left) (.int .i64 s'.err)) : Pc p0 W' s' lv' hv' bv' ov xs m := by
 have hp := h.lt
 have hof : ∀ u ∈ [lv'.v, hv'.v, bv'.v], Off (fun k => k = p0) u := fun u hu k hk e => by have := (hn u hu k hk).1; have e : k = p0 := e; omega
 have hom : ∀ u ∈ elsV m, Off (fun k => k = p0) u := fun u hu k hk e => by have := (h.off u (by simp [hu]) k hk).1; have e : k = p0 := e; omega
 refine ⟨hx, g1.keep hk (hof _ (by simp)), g2.keep hk (hof _ (by simp)), g3.keep hk (hof _ (by simp)), (h.rows.below hb).keep hk (fun k hk e => by have := h.rows.ge hk; have e : k = p0 := e; omega), (h.raws.below hb).keep hk fun r hr => ⟨hom _ (elsV_mem hr).1, hom _ (elsV_mem hr).2⟩, fun u hu k hkk => ?_⟩
 have hs := hk.size
 have hs2 := hb.size
 have hu : u ∈ [lv'.v, hv'.v, bv'.v] ∨ u ∈ elsV m := by
   simp only [List.mem_cons] at hu ⊢
   rcases hu with h | h | h | h
   · exact .inl (.inl h)
   · exact .inl (.inr (.inl h))
   · exact .inl (.inr (.inr (.inl h)))
   · exact .inr h
 rcases hu with hu | hu
 · obtain ⟨a1, a2⟩ := hn u hu k hkk
   refine ⟨by omega, by omega, fun e => ?_⟩
   have := h.rows.lt e
   omega
 · obtain ⟨a1, a2, a3⟩ := h.off u (by simp [hu]) k hkk
   exact ⟨a1, by omega, a3⟩
theorem RawsNew.store {B : Nat} {wv : Value} {ys : List Rw} (h : RawsNew 33 W B wv ys) (hk : Keep (fun k => k = p0) W W') (hp : p0 < B) : RawsNew 33 W' B wv ys := by
 obtain ⟨m, h1, h2, h3⟩ := h
 have ho : ∀ u ∈ elsV m, Off (fun k => k = p0) u := fun u hu k hk2 e => by have := (h3 u hu k hk2).1; have e : k = p0 := e; omega
 exact ⟨m, h1.keep hk (fun k hk2 e => by have := h1.ge hk2; have e : k = p0 := e; omega), h2.keep hk fun r hr => ⟨ho _ (elsV_mem hr).1, ho _ (elsV_mem hr).2⟩, fun u hu k hk2 => ⟨(h3 u hu k hk2).1, Nat.lt_of_lt_of_le (h3 u hu k hk2).2 hk.size⟩⟩
theorem PsNew.base {B B' : Nat} {v : Value} (h : PsNew W B v s) (hb : B' ≤ B) : PsNew W B' v s := by
 obtain ⟨l1, l2, l3, e, g1, g2, g3, g4⟩ := h
 exact ⟨l1, l2, l3, e, g1, g2, g3, fun u hu k hk => ⟨Nat.le_trans hb (g4 u hu k hk).1, (g4 u hu k hk).2⟩⟩
theorem infoRaw : (Tryz.prog.info? 33).map (fun i => (i.zero, i.size, i.bytes)) = some (some (.agg #[.string ByteArray.empty, .slice none 0 0, .slice none 0 0]), 3, 64) := by kernel_rfl
/-- The messages that came go behind those so far. -/
theorem Pc.more {B : Nat} {wv : Value} {ys : List Rw} (h : Pc p0 W s lv hv bv ov xs m) (hr : RawsNew 33 W B wv ys) (hB : ∀ k, ov.v.ownBlock = some k → k < B) (hB2 : p0 + 1 ≤ B) (hl : xs.length + ys.length ≤ 200000) :
   ∃ (ov' : Sl) (w' : World) (m' : List RV), (Builtin.append_ #[60, 60] 60 #[ov.v, wv]).run Tryz.prog W = .ok ov'.v w' ∧ Pc p0 w' s lv hv bv ov' (xs ++ ys) m' ∧ Below (p0 + 1) W w' := by
 obtain ⟨m2, r1, r2, r3⟩ := hr
 have hp := h.lt
 have hml : (1000000 : Nat) ≤ maxLen := by decide
 have e1 := h.raws.1
 have e2 := r2.1
 obtain ⟨v', w', a1, a2, a3, a4⟩ := append_g (K := KR 33) (P := Tryz.prog) 60 _ 64 Tryz.underlying60 infoRaw rfl W (p0 + 1) ov.v m h.rows wv m2 r1.gAt (by omega) (by omega) (by omega)
 have hb := a3.below (fun k hk => h.rows.ge hk) (show p0 + 1 ≤ W.heap.size by omega)
 have hof : ∀ u ∈ lv.v :: hv.v :: bv.v :: (elsV m ++ elsV m2), ∀ k, u.ownBlock = some k → p0 + 1 ≤ k ∧ k < W.heap.size ∧ ov.v.ownBlock ≠ some k := fun u hu k hk => by
   simp only [List.mem_cons, List.mem_append] at hu
   rcases hu with hu | hu | hu | hu | hu
   · exact h.off u (by simp [hu]) k hk
   · exact h.off u (by simp [hu]) k hk
   · exact h.off u (by simp [hu]) k hk
   · exact h.off u (by simp [hu]) k hk
   · obtain ⟨b1, b2⟩ := r3 u hu k hk
     exact ⟨by omega, b2, fun e => by have := hB k e; omega⟩
 have hoo : ∀ u ∈ lv.v :: hv.v :: bv.v :: (elsV m ++ elsV m2), Off (fun k => ov.v.ownBlock = some k) u := fun u hu k hk e => (hof u hu k hk).2.2 e
 obtain ⟨ov', rfl⟩ : ∃ ov' : Sl, v' = ov'.v := by
   rcases a2.own with ⟨e, _⟩ | ⟨g, c, e⟩
   · exact ⟨sl0, e⟩
   · exact ⟨⟨some ⟨g, 0, none⟩, _, c⟩, e⟩
 refine ⟨ov', w', m ++ m2, a1, ⟨?_, h.gl.keep a3 (hoo _ (by simp)), h.gh.keep a3 (hoo _ (by simp)), h.gb.keep a3 (hoo _ (by simp)), a2, ?_, fun u hu k hk => ?_⟩, hb⟩
 · exact h.box.keep a3 fun e => by have := h.rows.ge e; omega
 · exact (h.raws.keep a3 fun r hr => ⟨hoo _ (by simp [(elsV_mem hr).1]), hoo _ (by simp [(elsV_mem hr).2])⟩).append (r2.keep a3 fun r hr => ⟨hoo _ (by simp [(elsV_mem hr).1]), hoo _ (by simp [(elsV_mem hr).2])⟩)
 · rw [elsV_append] at hu
   obtain ⟨b1, b2, b3⟩ := hof u hu k hk
   refine ⟨b1, Nat.lt_of_lt_of_le b2 a3.size, fun e => ?_⟩
   rcases a4 with a4 | a4
   · rw [a4] at e; exact b3 e
   · rw [a4] at e; injection e with e; omega
end
end Go.Proofs.YtafmgoekgijfgaaGreatDoor
