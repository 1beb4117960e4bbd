/- Feed: the set-up. -/
import Derived.Test.YtafmgoekgijfgaaGreatDoorARqM2
import Derived.Test.YtafmgoekgijfgaaGreatDoorARqOwn2
import Derived.Test.YtafmgoekgijfgaaGreatDoorARqM4
import Derived.Test.YtafmgoekgijfgaaGreatDoorARqHead
import Derived.Test.YtafmgoekgijfgaaGreatDoorARqM5
import Derived.Laws.EntriesVeiled
import Derived.WalkMore
import Derived.Deep.LoopGhost
namespace Go.Proofs.YtafmgoekgijfgaaGreatDoor
open Go.RowKit Go.Lib

/-- What deeds answers. -/
abbrev deC : Array Value := #[.func (.func 153) #[] #[], .func (.func 154) #[] #[], .nilFunc, .func (.func 155) #[] #[], .nilFunc, .func (.func 156) #[] #[], .func (.func 157) #[] #[]]
abbrev deO : Obj := .cells deC 142
theorem de_new (w : World) : (w.alloc deO).heap[w.heap.size]? = some deO := heap_alloc_new w _
theorem de_cell {W : World} {d : Nat} (h : W.heap[d]? = some deO) (i : Nat) : W.cell? ⟨d, i, none⟩ = deC[i]? := cell_of_row W d i _ _ _ h
set_option maxRecDepth 100000 in
theorem deeds_any (w : World) : Calls Tryz.prog 107 #[] w fun e w' => e = .returned (.agg deC) ∧ Below w.heap.size w w' := by
 have h := de_new w
 have r0 := de_cell h 0
 have r1 := de_cell h 1
 have r2 := de_cell h 2
 have r3 := de_cell h 3
 have r4 := de_cell h 4
 have r5 := de_cell h 5
 have r6 := de_cell h 6
 have HB := hideL ((Below.refl w.heap.size w).alloc (Nat.le_refl _) deO)
 clear h
 go_enter Tryz.func107, Tryz.ntmps107
 go_wp2
 exact bodyPost_ret (v := .agg deC) (by simp [results, Tryz.results107, go_sem] at r0 r1 r2 r3 r4 r5 r6 ⊢) rfl ⟨rfl, HB.out⟩
/-- What stays beside the reading: the result's box, the deeds. -/
abbrev psO : Obj := .cells #[.int .i64 0, .slice none 0 0, .string ⟨#[]⟩, .slice none 0 0, .slice none 0 0, .int .i64 0, .int .i64 0] 101
abbrev prF (p d : Nat) : List (Nat × Obj) := [(p, psO), (d, deO)]
/-- What has come of the bytes: the reading behind the first k of them, and what it makes of the others. -/
def FedP (s : Ps) (b : List UInt8) (k : Nat) (sk : Ps) (xk : List Rw) : Prop := liveP sk ∧ goodS sk ∧ xk.length ≤ k ∧ (runP s b).1 = (runP sk (b.drop k)).1 ∧ (runP s b).2 = xk ++ (runP sk (b.drop k)).2
theorem FedP.first {s : Ps} (hl : liveP s) (hg : goodS s) (b : List UInt8) : FedP s b 0 s [] := ⟨hl, hg, Nat.le_refl _, rfl, rfl⟩
theorem step_len (s : Ps) (c : UInt8) : (stepP s c).2.length ≤ 1 := by
 unfold stepP
 split
 · exact Nat.zero_le _
 split
 · unfold Ps.byte
   split
   · exact Nat.zero_le _
   split
   · exact Nat.le_refl _
   · exact Nat.zero_le _
 split
 · exact Nat.zero_le _
 · exact Nat.zero_le _
 · unfold Ps.whole
   split
   · exact Nat.zero_le _
   split
   · split
     · unfold Ps.hdone
       split
       · split
         · exact Nat.zero_le _
         split
         · exact Nat.le_refl _
         · exact Nat.zero_le _
       · exact Nat.zero_le _
     split
     · split <;> exact Nat.zero_le _
     · exact Nat.zero_le _
   split
   · split
     · exact Nat.zero_le _
     split
     · exact Nat.zero_le _
     split <;> exact Nat.zero_le _
   split
   · exact Nat.zero_le _
   split
   · exact Nat.zero_le _
   · exact Nat.le_refl _
theorem FedP.next {s : Ps} {b : List UInt8} {k : Nat} {sk : Ps} {xk : List Rw} (h : FedP s b k sk xk) {c : UInt8} (hc : b.drop k = c :: b.drop (k + 1)) : FedP s b (k + 1) (stepP sk c).1 (xk ++ (stepP sk c).2) := by
 obtain ⟨h1, h2, h3, h4, h5⟩ := h
 rw [hc, runP_cons] at h4 h5
 have := step_len sk c
 exact ⟨(con_step h1 c []).1, (good_step h1 h2 c).1, by rw [List.length_append]; omega, h4, by rw [h5, List.append_assoc]⟩
theorem FedP.stop {s : Ps} {b : List UInt8} {k : Nat} {sk : Ps} {xk : List Rw} (h : FedP s b k sk xk) (he : sk.err ≠ 0) : (runP s b).1 = sk ∧ (runP s b).2 = xk := by
 obtain ⟨h1, h2, h3, h4, h5⟩ := h
 rw [runP_err he] at h4 h5
 exact ⟨h4, by rw [h5, List.append_nil]⟩
theorem FedP.done {s : Ps} {b : List UInt8} {k : Nat} {sk : Ps} {xk : List Rw} (h : FedP s b k sk xk) (hk : b.length ≤ k) : (runP s b).1 = sk ∧ (runP s b).2 = xk := by
 obtain ⟨h1, h2, h3, h4, h5⟩ := h
 rw [List.drop_of_length_le hk] at h4 h5
 exact ⟨h4, by rw [h5]; exact List.append_nil _⟩
set_option maxRecDepth 100000 in
theorem isStrange_any {Pr : List (Nat × Obj)} {W : World} {B g : Nat} {s : Ps} {xs : List Rw} {lv hv bv wv : Sl} {m : List RV} (h : RS Pr W B g s xs lv hv bv wv m) (hl : liveP s) (he : s.err = 0) :
   Calls Tryz.prog 108 #[.pointer (some ⟨g, 0, none⟩)] W fun e w' => e = .returned (.bool false) ∧ w' = W := by
 obtain ⟨_, i2, i3, _⟩ := hl he
 have LI := hideL (inBody_any h)
 have c0 := h.c0
 have c5 := h.c5
 have p0 : ¬ ((s.phase : Int) < 0) := by omega
 have p7 : ¬ ((7 : Int) ≤ (s.phase : Int)) := by omega
 by_cases hp : s.phase = 2 ∨ s.phase = 4
 · rw [decide_eq_true hp] at LI
   have l0 : ¬ ((s.left : Int) ≤ 0) := by have := (i2 hp).1; omega
   have l1 : decide (s.left = 0) = false := decide_eq_false (by have := (i2 hp).1; omega)
   clear h hl i2 i3 hp
   go_enter Tryz.func108, Tryz.ntmps108
   go_wp2_with (go_at_call 110; refine LI.out.mono ?_; rintro e w2 ⟨rfl, rfl⟩)
   try rw [l1]
   go_ret
   exact ⟨rfl, rfl⟩
 · rw [decide_eq_false hp] at LI
   clear h hl i2 i3 hp
   go_enter Tryz.func108, Tryz.ntmps108
   go_wp2_with (go_at_call 110; refine LI.out.mono ?_; rintro e w2 ⟨rfl, rfl⟩)
   go_ret
   exact ⟨rfl, rfl⟩
/-- string(b), whatever row b comes from. -/
theorem sizeB : (Tryz.prog.info? 5).map (·.size) = some 1 := by kernel_rfl
theorem to_strA (W : World) (ao : Option Addr) (n c : Nat) (l : List UInt8) (h : GAt KB W (.slice ao n c) l) : (convert 22 9 (.slice ao n c)).run Tryz.prog W = .ok (.string (bo l)) W := by
 obtain ⟨hn, hc⟩ := h.le
 subst hn
 cases ao with
 | none =>
   have hl0 : l = [] := by
     obtain ⟨_, _, hv, _, hn, _⟩ := h
     injection hv with e1 _ _
     exact (hn e1.symm).1
   subst hl0
   exact run_convert_bytes_nil W 22 5 Tryz.underlying22 Tryz.underlying5 0 c 9 Tryz.underlying9
 | some ad =>
   have hr := run_convert_bytes_back (P := Tryz.prog) W 22 9 5 ad c l Tryz.underlying22 Tryz.underlying5 Tryz.underlying9 (fun j hj => ?_)
   · rw [hr]
     rfl
   · obtain ⟨b, o, e, _, h3⟩ := gat_byte h (k := j) hj
     injection e with e
     subst e
     rw [addr_plain', h3]
     simp [List.getD, hj]
/-- The line is cleared. -/
theorem cleared {Pr : List (Nat × Obj)} {W : World} {B g : Nat} {s : Ps} {xs : List Rw} {lv hv bv wv : Sl} {m : List RV} (h : RS Pr W B g s xs lv hv bv wv m) : RS Pr (W.setCell ⟨g, 1, none⟩ (.slice none 0 0)) B g { s with line := [] } xs sl0 hv bv wv m ∧ Below B W (W.setCell ⟨g, 1, none⟩ (.slice none 0 0)) :=
 ⟨h.goes (s' := { s with line := [] }) (keepg_set _ g 1 _) (.inr ⟨rfl, rfl⟩) (.inl ⟨rfl, rfl⟩) (.inl ⟨rfl, rfl⟩) (h.rbox.s1 _), keepg_below (keepg_set _ g 1 _) h.le h.base⟩
theorem whole_0 {s : Ps} (h : s.phase = 0) (t : List UInt8) : s.whole t = ({ ({ s with line := [] } : Ps) with phase := 1, start := t }, []) := by unfold Ps.whole; rw [if_pos h]
theorem whole_1 {s : Ps} (h : s.phase = 1) (t : List UInt8) : s.whole t = heP { s with line := [] } t := by
 unfold Ps.whole heP
 rw [if_neg (by omega), if_pos h]
 rfl
theorem whole_3 {s : Ps} (h : s.phase = 3) (t : List UInt8) : s.whole t = (siP { s with line := [] } t, []) := by
 unfold Ps.whole siP
 rw [if_neg (by omega), if_neg (by omega), if_pos h]
 cases sizeP t with
 | none => rfl
 | some n =>
   simp only
   split
   · rfl
   split <;> rfl
theorem whole_5 {s : Ps} (h : s.phase = 5) (t : List UInt8) : s.whole t = ((if t ≠ [] then ({ s with line := [] } : Ps).bad 2 else { ({ s with line := [] } : Ps) with phase := 3 }), []) := by
 unfold Ps.whole
 rw [if_neg (by omega), if_neg (by omega), if_neg (by omega)]
 by_cases ht : t ≠ []
 · rw [if_pos ht, if_pos ht]; rfl
 · rw [if_neg ht, if_neg ht, if_pos h]
theorem whole_6 {s : Ps} (h : s.phase = 6) (t : List UInt8) : s.whole t = ((if t ≠ [] then ({ s with line := [] } : Ps).bad 2 else new0), (if t ≠ [] then [] else [⟨s.start, s.heads, s.body⟩])) := by
 unfold Ps.whole
 rw [if_neg (by omega), if_neg (by omega), if_neg (by omega)]
 by_cases ht : t ≠ []
 · rw [if_pos ht, if_pos ht, if_pos ht]; rfl
 · rw [if_neg ht, if_neg ht, if_neg ht, if_neg (by omega)]
theorem rs_mlen {Pr : List (Nat × Obj)} {W : World} {B g : Nat} {s : Ps} {xs : List Rw} {lv hv bv wv : Sl} {m : List RV} (h : RS Pr W B g s xs lv hv bv wv m) : m.length = xs.length := h.raws.1
/-- The state of Feed's loop. -/
def FIn (w : World) (s : Ps) (b : List UInt8) (g d : Nat) (gh : Nat) (i : Value) (W : World) : Prop := ∃ (k : Nat) (sk : Ps) (xk : List Rw) (lv hv bv wv : Sl) (m : List RV), k + gh = b.length ∧ i = .int .i64 k ∧ FedP s b k sk xk ∧ RS (prF (w.heap.size + 1) d) W w.heap.size g sk xk lv hv bv wv m ∧ Below w.heap.size w W
/-- Feed's post. -/
def FeedPost (w : World) (s : Ps) (b : List UInt8) (e : Ending) (w' : World) : Prop := ∃ (pv : Value) (wv : Sl), e = .returned (.tuple #[pv, wv.v]) ∧ PsNew w' w.heap.size pv (runP s b).1 ∧ RawsNew 33 w' w.heap.size wv.v (runP s b).2 ∧ Below w.heap.size w w'
set_option maxRecDepth 100000 in
set_option maxHeartbeats 4000000 in
theorem feed_any (s : Ps) (lv hv bv : Sl) (v : Value) (b : List UInt8) (w : World) (gl : GAt KB w lv.v s.line) (gh : GAt KH w hv.v s.heads) (gb : GAt KB w bv.v s.body) (gv : GAt KB w v b) (hbl : b.length ≤ 200000) (hlive : liveP s) (hg : goodS s) (hE : Env w) (hS : EnvS w) :
   Calls Tryz.prog 68 #[PsV s lv hv bv, v] w (FeedPost w s b) := by
 have HB1 := hideL ((Below.refl w.heap.size w).alloc (Nat.le_refl _) (.cells #[.int .i64 s.phase, lv.v, .string (bo s.start), hv.v, bv.v, .int .i64 s.left, .int .i64 s.err] 101))
 have hx1 : RBox7 101 (w.alloc (.cells #[.int .i64 s.phase, lv.v, .string (bo s.start), hv.v, bv.v, .int .i64 s.left, .int .i64 s.err] 101)) w.heap.size (.int .i64 s.phase) lv.v (.string (bo s.start)) hv.v bv.v (.int .i64 s.left) (.int .i64 s.err) := heap_alloc_new w _
 obtain ⟨w1, hw1⟩ : ∃ x, x = w.alloc (.cells #[.int .i64 s.phase, lv.v, .string (bo s.start), hv.v, bv.v, .int .i64 s.left, .int .i64 s.err] 101) := ⟨_, rfl⟩
 have hz1 : w1.heap.size = w.heap.size + 1 := by rw [hw1, World.size_alloc]
 rw [← hw1] at hx1 HB1
 have HB2 := hideL (HB1.out.trans (((Below.refl w1.heap.size w1).alloc (Nat.le_refl _) psO).mono HB1.out.size))
 have hx2 := hx1.next ((Below.refl w1.heap.size w1).alloc (Nat.le_refl _) psO)
 have hp2 : (w1.alloc psO).heap[w1.heap.size]? = some psO := heap_alloc_new w1 _
 obtain ⟨w2, hw2⟩ : ∃ x, x = w1.alloc psO := ⟨_, rfl⟩
 have hz2 : w2.heap.size = w.heap.size + 2 := by rw [hw2, World.size_alloc, hz1]
 rw [← hw2] at HB2 hp2 hx2
 rw [hz1] at hp2
 rw [hw1] at hw2
 have c0 := hx2.c0
 have c1 := hx2.c1
 have c2 := hx2.c2
 have c3 := hx2.c3
 have c4 := hx2.c4
 have c5 := hx2.c5
 have c6 := hx2.c6
 have LO := hideL (own_parsing s lv hv bv w2 (gl.below HB2.out) (gh.below HB2.out) (gb.below HB2.out) hg)
 have LD := hideL deeds_any
 have HZ := hideL hz2
 have HP2 := hideL hp2
 have HV := hideL (gv.below HB2.out)
 have HV0 := hideL gv
 have HLIVE := hideL hlive
 have HG := hideL hg
 have HE := hideL hE
 have HES := hideL hS
 have HBL := hideL hbl
 obtain ⟨la, ln, lc⟩ := lv
 obtain ⟨ha, hn, hc⟩ := hv
 obtain ⟨ba, bn, bc⟩ := bv
 simp only [Sl.v, PsV] at c1 c3 c4 LO hw2 ⊢
 obtain ⟨vo, vc, rfl⟩ := HV.out.len
 clear HV
 clear gl gh gb gv hbl hlive hg hE hS hx1 hx2 hp2 hz1 hz2 hw1
 go_enter Tryz.func68, Tryz.ntmps68
 go_upto_region 1 with fail
 rw [← hw2]
 clear hw2
 go_step3
 go_wp2_with (first
   | (go_at_call 106; refine (LO.out).mono ?_; rintro e w3 ⟨⟨la', ln', lc'⟩, ⟨ha', hn', hc'⟩, ⟨ba', bn', bc'⟩, rfl, hr1, hr2, hr3, hd1, hd2, hd3, hB⟩
      simp only at hr1 hr2 hr3 hd1 hd2 hd3 ⊢
      have HR1 := hideL hr1
      have HR2 := hideL hr2
      have HR3 := hideL hr3
      have HD1 := hideL hd1
      have HD2 := hideL hd2
      have HD3 := hideL hd3
      have HB3 := hideL hB
      clear hr1 hr2 hr3 hd1 hd2 hd3 hB c0 c1 c2 c3 c4 c5 c6)
   | (go_at_call 107; refine (LD.out _).mono ?_; rintro e w4 ⟨rfl, hB⟩
      have HB4 := hideL hB
      clear hB))
 go_step3
 go_wp2_with fail
 have hb5 := (Below.refl w4.heap.size w4).alloc (Nat.le_refl _) deO
 have hd5 := de_new w4
 have hx3 : RBox 140 (w3.alloc (.cells #[.int .i64 s.phase, .slice la' ln' lc', .string (bo s.start), .slice ha' hn' hc', .slice ba' bn' bc', .int .i64 s.left, .int .i64 s.err, .slice none 0 0] 140)) w3.heap.size (.int .i64 s.phase) (.slice la' ln' lc') (.string (bo s.start)) (.slice ha' hn' hc') (.slice ba' bn' bc') (.int .i64 s.left) (.int .i64 s.err) (.slice none 0 0) := heap_alloc_new w3 _
 have ha3 := (Below.refl w3.heap.size w3).alloc (Nat.le_refl _) (.cells #[.int .i64 s.phase, .slice la' ln' lc', .string (bo s.start), .slice ha' hn' hc', .slice ba' bn' bc', .int .i64 s.left, .int .i64 s.err, .slice none 0 0] 140)
 have hb34 := HB4.out
 have hz34 := hb34.size
 rw [World.size_alloc] at hz34
 have hb35 : Below w3.heap.size w3 (w4.alloc deO) := ha3.trans ((hb34.trans (hb5.mono hb34.size)).mono (by rw [World.size_alloc]; omega))
 have hx5 := (hx3.next hb34).next hb5
 obtain ⟨w5, hw5⟩ : ∃ x, x = w4.alloc deO := ⟨_, rfl⟩
 rw [← hw5] at hd5 hx5 hb35
 have hzz := HZ.out
 have hzb := HB3.out.size
 have r1 := HR1.out.below hb35
 have r2 := HR2.out.below hb35
 have r3 := HR3.out.below hb35
 have e1 : ∀ q, Value.ownBlock (.slice la' ln' lc') = some q → w.heap.size + 2 ≤ q ∧ q < w3.heap.size := fun q hq => ⟨by have := HR1.out.ge hq; omega, HR1.out.lt hq⟩
 have e2 : ∀ q, Value.ownBlock (.slice ha' hn' hc') = some q → w.heap.size + 2 ≤ q ∧ q < w3.heap.size := fun q hq => ⟨by have := HR2.out.ge hq; omega, HR2.out.lt hq⟩
 have e3 : ∀ q, Value.ownBlock (.slice ba' bn' bc') = some q → w.heap.size + 2 ≤ q ∧ q < w3.heap.size := fun q hq => ⟨by have := HR3.out.ge hq; omega, HR3.out.lt hq⟩
 have hp5 : w5.heap[w.heap.size + 1]? = some psO := (hb35.block _ (by omega)).trans ((HB3.out.block _ (by omega)).trans HP2.out)
 have hrs : RS (prF (w.heap.size + 1) w4.heap.size) w5 w.heap.size w3.heap.size s [] ⟨la', ln', lc'⟩ ⟨ha', hn', hc'⟩ ⟨ba', bn', bc'⟩ sl0 [] := by
   refine ⟨hx5, r1.base (by omega), r2.base (by omega), r3.base (by omega), GRow.nil _ _, RawsOf.nil _, ⟨?_, ?_⟩, by omega, ?_⟩
   · refine List.pairwise_cons.2 ⟨?_, List.pairwise_cons.2 ⟨?_, List.pairwise_cons.2 ⟨?_, List.pairwise_cons.2 ⟨?_, List.Pairwise.nil⟩⟩⟩⟩
     · intro v hv
       simp only [List.mem_cons] at hv
       rcases hv with rfl | rfl | rfl | hv
       · exact HD2.out
       · exact fun q _ h2 => by cases h2
       · exact HD1.out
       · cases hv
     · intro v hv
       simp only [List.mem_cons] at hv
       rcases hv with rfl | rfl | hv
       · exact fun q _ h2 => by cases h2
       · exact fun q h1 h2 => HD3.out q h2 h1
       · cases hv
     · exact fun v hv q h1 => by cases h1
     · exact fun v hv => by cases hv
   · intro v hv q hq
     have h5 := hb35.size
     simp only [List.mem_cons] at hv
     rcases hv with rfl | rfl | rfl | rfl | hv
     · have := e1 q hq; omega
     · have := e3 q hq; omega
     · cases hq
     · have := e2 q hq; omega
     · cases hv
   · intro x hx
     simp only [List.mem_cons, List.not_mem_nil, or_false] at hx
     rcases hx with rfl | rfl
     · refine ⟨hp5, by simp only; omega, fun v hv e => ?_⟩
       simp only [List.mem_cons] at hv
       rcases hv with rfl | rfl | rfl | rfl | hv
       · have := (e1 _ e).1; simp only at this; omega
       · have := (e3 _ e).1; simp only at this; omega
       · cases e
       · have := (e2 _ e).1; simp only at this; omega
       · cases hv
     · refine ⟨hd5, by simp only; omega, fun v hv e => ?_⟩
       simp only [List.mem_cons] at hv
       rcases hv with rfl | rfl | rfl | rfl | hv
       · have := (e1 _ e).2; simp only at this; omega
       · have := (e3 _ e).2; simp only at this; omega
       · cases e
       · have := (e2 _ e).2; simp only at this; omega
       · cases hv
 have HIN := hideL (show FIn w s b w3.heap.size w4.heap.size b.length (.int .i64 0) w5 from ⟨0, s, [], _, _, _, _, [], by omega, rfl, FedP.first HLIVE.out HG.out b, hrs, HB2.out.trans ((HB3.out.trans (hb35.mono HB3.out.size)).mono HB2.out.size)⟩)
 rw [← hw5]
 clear hb5 hd5 hx3 ha3 hb34 hz34 hb35 hx5 hw5 hzz hzb r1 r2 r3 e1 e2 e3 hp5 hrs HR1 HR2 HR3 HD1 HD2 HD3 HB3 HB4 HB1 HP2 LO LD
 obtain ⟨g, hg⟩ : ∃ g, g = w3.heap.size := ⟨_, rfl⟩
 obtain ⟨d, hd⟩ : ∃ d, d = w4.heap.size := ⟨_, rfl⟩
 rw [← hg, ← hd] at HIN ⊢
 clear hg hd
 go_loopg [17] b.length (fun gh i wr => FIn w s b g d gh i wr)
 case atStart => exact HIN.out
 case round =>
   obtain ⟨k, sk, xk, lv, hv, bv, wv, m, hkg, rfl, hfed, hrs, hbw⟩ := hrel
   clear HIN
   obtain ⟨W, rfl⟩ : ∃ W, W = wr := ⟨_, rfl⟩
   cases gk with
   | zero =>
     have hk3 : ¬ (k : Int) < (b.length : Int) := by omega
     have hdn := hfed.done (show b.length ≤ k by omega)
     have HRS := hideL hrs
     have hrf := hrs.fin (p := w.heap.size + 1) (o := psO) (by simp) ((keepg_st7 W (w.heap.size + 1) (.int .i64 sk.phase) lv.v (.string (bo sk.start)) hv.v bv.v (.int .i64 sk.left) (.int .i64 sk.err)).drewR)
     have hbf := hbw.trans (((keepg_st7 W (w.heap.size + 1) (.int .i64 sk.phase) lv.v (.string (bo sk.start)) hv.v bv.v (.int .i64 sk.left) (.int .i64 sk.err)).drewR).below (B := w.heap.size) (fun q e => by rw [e]; omega) hbw.size)
     have hy : RBox7 101 W (w.heap.size + 1) (.int .i64 0) (.slice none 0 0) (.string ⟨#[]⟩) (.slice none 0 0) (.slice none 0 0) (.int .i64 0) (.int .i64 0) := (hrs.prot (w.heap.size + 1, psO) (by simp)).1
     have hng : g ≠ w.heap.size + 1 := fun e => (hrs.prot (w.heap.size + 1, psO) (by simp)).2.1 e.symm
     have hyf := hy.st7 (.int .i64 sk.phase) lv.v (.string (bo sk.start)) hv.v bv.v (.int .i64 sk.left) (.int .i64 sk.err)
     have Y0 := hideL hy.c0
     have Y1 := hideL hy.c1
     have Y2 := hideL hy.c2
     have Y3 := hideL hy.c3
     have Y4 := hideL hy.c4
     have Y5 := hideL hy.c5
     have Y6 := hideL hy.c6
     have Z0 := hideL (hy.fz 0)
     have Z1 := hideL (hy.fz 1)
     have Z2 := hideL (hy.fz 2)
     have Z3 := hideL (hy.fz 3)
     have Z4 := hideL (hy.fz 4)
     have Z5 := hideL (hy.fz 5)
     have Z6 := hideL (hy.fz 6)
     have HX := hideL hrs.rbox
     have hxf := hideL (hrs.rbox.keep ((keepg_st7 W (w.heap.size + 1) (.int .i64 sk.phase) lv.v (.string (bo sk.start)) hv.v bv.v (.int .i64 sk.left) (.int .i64 sk.err)).drewR) hng)
     obtain ⟨hd1, hd2⟩ := hdn
     subst hd2
     obtain ⟨la2, ln2, lc2⟩ := lv
     obtain ⟨ha2, hn2, hc2⟩ := hv
     obtain ⟨ba2, bn2, bc2⟩ := bv
     obtain ⟨wa2, wn2, wc2⟩ := wv
     simp only [Sl.v, PsV] at hrf hbf hyf HX hxf
     have r0 := hyf.c0
     have r1 := hyf.c1
     have r2 := hyf.c2
     have r3 := hyf.c3
     have r4 := hyf.c4
     have r5 := hyf.c5
     have r6 := hyf.c6
     have HPS := hideL hrf.1
     have HRW := hideL hrf.2
     have HBF := hideL hbf
     have HD1 := hideL hd1
     clear hrs hy hng hyf hrf hbf hfed hbw hd1
     go_wp2_with fail
     have y0 := Y0.out
     have y1 := Y1.out
     have y2 := Y2.out
     have y3 := Y3.out
     have y4 := Y4.out
     have y5 := Y5.out
     have y6 := Y6.out
     have z0 := Z0.out
     have z1 := Z1.out
     have z2 := Z2.out
     have z3 := Z3.out
     have z4 := Z4.out
     have z5 := Z5.out
     have z6 := Z6.out
     refine wp_region_held_drew (S := fun w' => RBox 140 w' g (.int .i64 sk.phase) (.slice la2 ln2 lc2) (.string (bo sk.start)) (.slice ha2 hn2 hc2) (.slice ba2 bn2 bc2) (.int .i64 sk.left) (.int .i64 sk.err) (.slice wa2 wn2 wc2)) (by kernel_rfl) HX.out (fun hHeld => ?_)
     refine tl 0 rfl hHeld ?_
     try simp only [pA, pB, pC, pD]
     refine tm 1 (v := ?_) rfl hHeld ?_ ?_
     rotate_left
     · intro w hSw; (try dsimp only at hSw); have e0 := hSw.c0; have e1 := hSw.c1; have e2 := hSw.c2; have e3 := hSw.c3; have e4 := hSw.c4; have e5 := hSw.c5; have e6 := hSw.c6; have e7 := hSw.c7; go_simp; first | done | with_reducible rfl
     try simp only [pA, pB, pC, pD]
     refine tl 2 rfl hHeld ?_
     try simp only [pA, pB, pC, pD]
     refine tm 3 (v := ?_) rfl hHeld ?_ ?_
     rotate_left
     · intro w hSw; (try dsimp only at hSw); have e0 := hSw.c0; have e1 := hSw.c1; have e2 := hSw.c2; have e3 := hSw.c3; have e4 := hSw.c4; have e5 := hSw.c5; have e6 := hSw.c6; have e7 := hSw.c7; go_simp; first | done | with_reducible rfl
     try simp only [pA, pB, pC, pD]
     refine wpAnyH_ready (rs := [4]) (by kernel_rfl) (by simp) ?_
     refine aC rfl (fun K hK => ?_)
     clear hHeld
     go_simp
     refine hK.out _ _ (hxf.out) (fun hHeld => ?_)
     clear hK K
     try simp only [Act.put]
     refine tl 5 rfl hHeld ?_
     try simp only [pA, pB, pC, pD]
     refine wpAnyH_done (by kernel_rfl) ?_ _
     clear hHeld
     go_wp2_with fail
     try rw [Exit.noGoto_ret]
     exact bodyPost_ret (v := .tuple #[.agg #[.int .i64 sk.phase, .slice la2 ln2 lc2, .string (bo sk.start), .slice ha2 hn2 hc2, .slice ba2 bn2 bc2, .int .i64 sk.left, .int .i64 sk.err], .slice wa2 wn2 wc2]) (by simp [results, Tryz.results68, go_sem, r0, r1, r2, r3, r4, r5, r6]) rfl ⟨_, ⟨wa2, wn2, wc2⟩, rfl, by rw [HD1.out]; exact HPS.out, HRW.out, HBF.out⟩
   | succ gx =>
     have hlt : k < b.length := by omega
     have hlt' : (k : Int) < (b.length : Int) := by omega
     obtain ⟨qb, qo, hao, hqb, hcell⟩ := gat_byte (HV0.out.below hbw) (k := k) hlt
     subst hao
     have hdrop : b.drop k = b.getD k 0 :: b.drop (k + 1) := by
       rw [List.drop_eq_getElem_cons hlt]
       simp [List.getD, hlt]
     generalize b.getD k 0 = c at hcell hdrop
     have hn := hfed.next hdrop
     have hlen := hfed.2.2.1
     have hml := rs_mlen hrs
     have hk5 : k ≤ 200000 := by have := HBL.out; omega
     have hm6 : m.length ≤ 1000000 := by omega
     have c6 := hrs.c6
     by_cases he : sk.err = 0
     · have e6 : ((sk.err : Int) != 0) = false := by rw [he]; rfl
       have hlv := hfed.1
       have hgd := hfed.2.1
       have LSt := hideL (isStrange_any hrs hlv he)
       have LIb := hideL (inBody_any hrs)
       by_cases hp : sk.phase = 2 ∨ sk.phase = 4
       · rw [decide_eq_true hp] at LIb
         have LBd := hideL (body_any hrs hgd ((hlv he).2.1 hp).1 hm6 c)
         have hst : stepP sk c = sk.byte c := by unfold stepP; rw [if_neg (fun h => h he), if_pos hp]
         rw [hst] at hn
         have HN := hideL hn
         have HBW := hideL hbw
         generalize c.toNat = cn at *
         clear hfed hrs hbw hdrop hn hlen hml hm6 he hlv hgd hp hst hqb
         go_wp2_with (first
           | (go_at_call 108; refine LSt.out.mono ?_; rintro e w2 ⟨rfl, rfl⟩)
           | (go_at_call 110; refine LIb.out.mono ?_; rintro e w2 ⟨rfl, rfl⟩)
           | (go_at_call 111; refine LBd.out.mono ?_; rintro e w2 ⟨rfl, hB, lv2, hv2, bv2, wv2, m2, hr2⟩
              have HR := hideL (show FIn w s b g d gx (.int .i64 ((k + 1 : Nat) : Int)) w2 from ⟨k + 1, _, _, _, _, _, _, _, by omega, rfl, HN.out, hr2, HBW.out.trans hB⟩)
              clear hB hr2))
         go_roundg gx
         case measure => omega
         case rel => exact HR.out
       · rw [decide_eq_false hp] at LIb
         have hpt := (hlv he).1
         have LEn := ends_any hrs hpt c
         unfold enP at LEn
         have hst : stepP sk c = (match takL sk.line c with
           | .more l => ({ sk with line := l }, [])
           | .bad e => (sk.bad e, [])
           | .line t => sk.whole t) := by unfold stepP; rw [if_neg (fun h => h he), if_neg hp]; rfl
         rw [hst] at hn
         obtain ⟨r, hr⟩ : ∃ r, takL sk.line c = r := ⟨_, rfl⟩
         rw [hr] at LEn hn
         cases r with
         | more l => 
           simp only [List.append_nil] at LEn hn
           have LEn := hideL LEn
           have HN := hideL hn
           have HBW := hideL hbw
           generalize c.toNat = cn at *
           clear hfed hrs hbw hdrop hn hlen hml hm6 he hlv hgd hp hst hqb hr hpt
           go_wp2_with (first
             | (go_at_call 108; refine LSt.out.mono ?_; rintro e w2 ⟨rfl, rfl⟩)
             | (go_at_call 110; refine LIb.out.mono ?_; rintro e w2 ⟨rfl, rfl⟩)
             | (go_at_call 112; refine LEn.out.mono ?_; rintro e w2 ⟨rfl, hB, lv2, hv2, bv2, wv2, m2, hr2⟩
                have HR := hideL (show FIn w s b g d gx (.int .i64 ((k + 1 : Nat) : Int)) w2 from ⟨k + 1, _, _, _, _, _, _, _, by omega, rfl, HN.out, hr2, HBW.out.trans hB⟩)
                clear hB hr2))
           go_roundg gx
           case measure => omega
           case rel => exact HR.out
         | bad e => 
           simp only [List.append_nil] at LEn hn
           have LEn := hideL LEn
           have HN := hideL hn
           have HBW := hideL hbw
           generalize c.toNat = cn at *
           clear hfed hrs hbw hdrop hn hlen hml hm6 he hlv hgd hp hst hqb hr hpt
           go_wp2_with (first
             | (go_at_call 108; refine LSt.out.mono ?_; rintro e w2 ⟨rfl, rfl⟩)
             | (go_at_call 110; refine LIb.out.mono ?_; rintro e w2 ⟨rfl, rfl⟩)
             | (go_at_call 112; refine LEn.out.mono ?_; rintro e w2 ⟨rfl, hB, lv2, hv2, bv2, wv2, m2, hr2⟩
                have HR := hideL (show FIn w s b g d gx (.int .i64 ((k + 1 : Nat) : Int)) w2 from ⟨k + 1, _, _, _, _, _, _, _, by omega, rfl, HN.out, hr2, HBW.out.trans hB⟩)
                clear hB hr2))
           go_roundg gx
           case measure => omega
           case rel => exact HR.out
         | line t =>
           simp only at LEn hn
           have LEn := hideL LEn
           obtain ⟨ht1, ht2, ht3⟩ := take_whole hpt hr
           have i5 := (hlv he).2.2.1
           have i1 := (hlv he).2.2.2.2
           have HBW := hideL hbw
           have hg0 : goodS { sk with line := [] } := ⟨hgd.heads, hgd.body, hgd.start, by simp, hgd.left, hgd.err⟩
           have HG0 := hideL hg0
           have HT3 := hideL ht3
           have HXL := hideL (show xk.length ≤ 1000000 by omega)
           obtain ⟨tn, htn⟩ : ∃ n, t.length = n := ⟨_, rfl⟩
           have HTN := hideL htn
           have htn2 : tn ≤ 578 := by omega
           have wt : IntKind.i64.wrap (tn : Int) = (tn : Int) := by rw [IntWalk.i64_in _ (by omega)]
           have wt2 : IntKind.i64.wrap ((tn : Int) + 1 - 1) = (tn : Int) := by rw [IntWalk.i64_in _ (by omega)]; omega
           have htl : (bo t).size ≤ 1000000 := by rw [bo_size]; omega
           generalize c.toNat = cn at *
           obtain ⟨p, hpp⟩ : ∃ p, sk.phase = p := ⟨_, rfl⟩
           have hp5 : p = 0 ∨ p = 1 ∨ p = 3 ∨ p = 5 ∨ p = 6 := by omega
           clear hfed hrs hbw hdrop hlen hml hm6 he hlv hgd hp hst hqb hr hpt ht1 ht2 ht3 hg0 htn i5
           rcases hp5 with rfl | rfl | rfl | rfl | rfl
           · rw [whole_0 hpp] at hn
             have HN := hideL hn
             clear hn
             go_wp2_with (first
               | (go_at_call 108; refine LSt.out.mono ?_; rintro e w2 ⟨rfl, rfl⟩)
               | (go_at_call 110; refine LIb.out.mono ?_; rintro e w2 ⟨rfl, rfl⟩))
             refine LEn.out.mono ?_
             rintro e w2 ⟨rfl, hB, ⟨la2, ln2, lc2⟩, hv2, bv2, wv2, m2, hr2⟩
             have hc := cleared hr2
             have HB2 := hideL ((HBW.out.trans hB).trans hc.2)
             have hm2 : m2.length ≤ 1000000 := by rw [rs_mlen hr2]; exact HXL.out
             have HCB := hideL hc.2
             have LPh := hideL ((show _ from by have h := first_any hc.1 (bo t); rw [← List.append_nil xk] at h; exact h))
             have d0 : w2.cell? ⟨g, 0, none⟩ = some (.int .i64 0) := by rw [hr2.c0, hpp]; rfl
             have d1 : w2.cell? ⟨g, 1, none⟩ = some (.slice la2 ln2 lc2) := hr2.c1
             have f1 := hr2.fz 1
             have hln : ln2 = tn + 1 := by have := hr2.line.gAt.le.1; rw [HT3.out, List.length_append, HTN.out] at this; exact this
             subst hln
             have hlc : tn ≤ lc2 := Nat.le_of_succ_le (show tn + 1 ≤ lc2 from hr2.line.gAt.le.2)
             have hcut := fun w => run_cut_gh (P := Tryz.prog) Tryz.underlying22 sizeB la2 (tn + 1) lc2 tn hlc w
             have hfr := GAt.front (show GAt KB w2 (.slice la2 (tn + 1) lc2) sk.line from hr2.line.gAt) (k := tn) (Nat.le_succ tn)
             have hcv := to_strA w2 la2 tn lc2 _ hfr
             rw [show sk.line.take tn = t from by rw [HT3.out, ← HTN.out, List.take_left' rfl]] at hcv
             have hdp := (hr2.prot (d, deO) (by simp))
             have dd : w2.cell? ⟨d, 0, none⟩ = some (.func (.func 153) #[] #[]) := de_cell hdp.1 0
             have hdg : d ≠ g := hdp.2.1
             have hdg2 : (d = g) = False := eq_false hdg
             clear hB hr2 hc hm2 hfr hdp
             go_wp2_with (go_at_call 153; refine LPh.out.mono ?_; rintro e w3 ⟨rfl, hB, lv3, hv3, bv3, wv3, m3, hr3⟩
                          have HR := hideL (show FIn w s b g d gx (.int .i64 ((k + 1 : Nat) : Int)) w3 from ⟨k + 1, _, _, _, _, _, _, _, by omega, rfl, HN.out, hr3, HB2.out.trans hB⟩)
                          clear hB hr3)
             go_roundg gx
             case measure => omega
             case rel => exact HR.out
           · rw [whole_1 hpp] at hn
             have HN := hideL hn
             clear hn
             go_wp2_with (first
               | (go_at_call 108; refine LSt.out.mono ?_; rintro e w2 ⟨rfl, rfl⟩)
               | (go_at_call 110; refine LIb.out.mono ?_; rintro e w2 ⟨rfl, rfl⟩))
             refine LEn.out.mono ?_
             rintro e w2 ⟨rfl, hB, ⟨la2, ln2, lc2⟩, hv2, bv2, wv2, m2, hr2⟩
             have hc := cleared hr2
             have HB2 := hideL ((HBW.out.trans hB).trans hc.2)
             have hm2 : m2.length ≤ 1000000 := by rw [rs_mlen hr2]; exact HXL.out
             have HCB := hideL hc.2
             have LPh := hideL (head_any hc.1 (HE.out.next HB2.out) HG0.out rfl (i1 (.inl hpp)) hm2 (bo t) htl)
             have d0 : w2.cell? ⟨g, 0, none⟩ = some (.int .i64 1) := by rw [hr2.c0, hpp]; rfl
             have d1 : w2.cell? ⟨g, 1, none⟩ = some (.slice la2 ln2 lc2) := hr2.c1
             have f1 := hr2.fz 1
             have hln : ln2 = tn + 1 := by have := hr2.line.gAt.le.1; rw [HT3.out, List.length_append, HTN.out] at this; exact this
             subst hln
             have hlc : tn ≤ lc2 := Nat.le_of_succ_le (show tn + 1 ≤ lc2 from hr2.line.gAt.le.2)
             have hcut := fun w => run_cut_gh (P := Tryz.prog) Tryz.underlying22 sizeB la2 (tn + 1) lc2 tn hlc w
             have hfr := GAt.front (show GAt KB w2 (.slice la2 (tn + 1) lc2) sk.line from hr2.line.gAt) (k := tn) (Nat.le_succ tn)
             have hcv := to_strA w2 la2 tn lc2 _ hfr
             rw [show sk.line.take tn = t from by rw [HT3.out, ← HTN.out, List.take_left' rfl]] at hcv
             have hdp := (hr2.prot (d, deO) (by simp))
             have dd : w2.cell? ⟨d, 1, none⟩ = some (.func (.func 154) #[] #[]) := de_cell hdp.1 1
             have hdg : d ≠ g := hdp.2.1
             have hdg2 : (d = g) = False := eq_false hdg
             clear hB hr2 hc hm2 hfr hdp
             go_wp2_with (go_at_call 154; refine LPh.out.mono ?_; rintro e w3 ⟨rfl, hB, lv3, hv3, bv3, wv3, m3, hr3⟩
                          have HR := hideL (show FIn w s b g d gx (.int .i64 ((k + 1 : Nat) : Int)) w3 from ⟨k + 1, _, _, _, _, _, _, _, by omega, rfl, HN.out, hr3, HB2.out.trans hB⟩)
                          clear hB hr3)
             go_roundg gx
             case measure => omega
             case rel => exact HR.out
           · rw [whole_3 hpp] at hn
             have HN := hideL hn
             clear hn
             go_wp2_with (first
               | (go_at_call 108; refine LSt.out.mono ?_; rintro e w2 ⟨rfl, rfl⟩)
               | (go_at_call 110; refine LIb.out.mono ?_; rintro e w2 ⟨rfl, rfl⟩))
             refine LEn.out.mono ?_
             rintro e w2 ⟨rfl, hB, ⟨la2, ln2, lc2⟩, hv2, bv2, wv2, m2, hr2⟩
             have hc := cleared hr2
             have HB2 := hideL ((HBW.out.trans hB).trans hc.2)
             have hm2 : m2.length ≤ 1000000 := by rw [rs_mlen hr2]; exact HXL.out
             have HCB := hideL hc.2
             have LPh := hideL ((show _ from by have h := size_any hc.1 (HE.out.next HB2.out) (HES.out.next HB2.out) HG0.out (bo t) htl; rw [← List.append_nil xk] at h; exact h))
             have d0 : w2.cell? ⟨g, 0, none⟩ = some (.int .i64 3) := by rw [hr2.c0, hpp]; rfl
             have d1 : w2.cell? ⟨g, 1, none⟩ = some (.slice la2 ln2 lc2) := hr2.c1
             have f1 := hr2.fz 1
             have hln : ln2 = tn + 1 := by have := hr2.line.gAt.le.1; rw [HT3.out, List.length_append, HTN.out] at this; exact this
             subst hln
             have hlc : tn ≤ lc2 := Nat.le_of_succ_le (show tn + 1 ≤ lc2 from hr2.line.gAt.le.2)
             have hcut := fun w => run_cut_gh (P := Tryz.prog) Tryz.underlying22 sizeB la2 (tn + 1) lc2 tn hlc w
             have hfr := GAt.front (show GAt KB w2 (.slice la2 (tn + 1) lc2) sk.line from hr2.line.gAt) (k := tn) (Nat.le_succ tn)
             have hcv := to_strA w2 la2 tn lc2 _ hfr
             rw [show sk.line.take tn = t from by rw [HT3.out, ← HTN.out, List.take_left' rfl]] at hcv
             have hdp := (hr2.prot (d, deO) (by simp))
             have dd : w2.cell? ⟨d, 3, none⟩ = some (.func (.func 155) #[] #[]) := de_cell hdp.1 3
             have hdg : d ≠ g := hdp.2.1
             have hdg2 : (d = g) = False := eq_false hdg
             clear hB hr2 hc hm2 hfr hdp
             go_wp2_with (go_at_call 155; refine LPh.out.mono ?_; rintro e w3 ⟨rfl, hB, lv3, hv3, bv3, wv3, m3, hr3⟩
                          have HR := hideL (show FIn w s b g d gx (.int .i64 ((k + 1 : Nat) : Int)) w3 from ⟨k + 1, _, _, _, _, _, _, _, by omega, rfl, HN.out, hr3, HB2.out.trans hB⟩)
                          clear hB hr3)
             go_roundg gx
             case measure => omega
             case rel => exact HR.out
           · rw [whole_5 hpp] at hn
             have HN := hideL hn
             clear hn
             go_wp2_with (first
               | (go_at_call 108; refine LSt.out.mono ?_; rintro e w2 ⟨rfl, rfl⟩)
               | (go_at_call 110; refine LIb.out.mono ?_; rintro e w2 ⟨rfl, rfl⟩))
             refine LEn.out.mono ?_
             rintro e w2 ⟨rfl, hB, ⟨la2, ln2, lc2⟩, hv2, bv2, wv2, m2, hr2⟩
             have hc := cleared hr2
             have HB2 := hideL ((HBW.out.trans hB).trans hc.2)
             have hm2 : m2.length ≤ 1000000 := by rw [rs_mlen hr2]; exact HXL.out
             have HCB := hideL hc.2
             have LPh := hideL ((show _ from by have h := chunkEnd_any hc.1 (bo t); rw [← List.append_nil xk] at h; exact h))
             have d0 : w2.cell? ⟨g, 0, none⟩ = some (.int .i64 5) := by rw [hr2.c0, hpp]; rfl
             have d1 : w2.cell? ⟨g, 1, none⟩ = some (.slice la2 ln2 lc2) := hr2.c1
             have f1 := hr2.fz 1
             have hln : ln2 = tn + 1 := by have := hr2.line.gAt.le.1; rw [HT3.out, List.length_append, HTN.out] at this; exact this
             subst hln
             have hlc : tn ≤ lc2 := Nat.le_of_succ_le (show tn + 1 ≤ lc2 from hr2.line.gAt.le.2)
             have hcut := fun w => run_cut_gh (P := Tryz.prog) Tryz.underlying22 sizeB la2 (tn + 1) lc2 tn hlc w
             have hfr := GAt.front (show GAt KB w2 (.slice la2 (tn + 1) lc2) sk.line from hr2.line.gAt) (k := tn) (Nat.le_succ tn)
             have hcv := to_strA w2 la2 tn lc2 _ hfr
             rw [show sk.line.take tn = t from by rw [HT3.out, ← HTN.out, List.take_left' rfl]] at hcv
             have hdp := (hr2.prot (d, deO) (by simp))
             have dd : w2.cell? ⟨d, 5, none⟩ = some (.func (.func 156) #[] #[]) := de_cell hdp.1 5
             have hdg : d ≠ g := hdp.2.1
             have hdg2 : (d = g) = False := eq_false hdg
             clear hB hr2 hc hm2 hfr hdp
             go_wp2_with (go_at_call 156; refine LPh.out.mono ?_; rintro e w3 ⟨rfl, hB, lv3, hv3, bv3, wv3, m3, hr3⟩
                          have HR := hideL (show FIn w s b g d gx (.int .i64 ((k + 1 : Nat) : Int)) w3 from ⟨k + 1, _, _, _, _, _, _, _, by omega, rfl, HN.out, hr3, HB2.out.trans hB⟩)
                          clear hB hr3)
             go_roundg gx
             case measure => omega
             case rel => exact HR.out
           · rw [whole_6 hpp] at hn
             have HN := hideL hn
             clear hn
             go_wp2_with (first
               | (go_at_call 108; refine LSt.out.mono ?_; rintro e w2 ⟨rfl, rfl⟩)
               | (go_at_call 110; refine LIb.out.mono ?_; rintro e w2 ⟨rfl, rfl⟩))
             refine LEn.out.mono ?_
             rintro e w2 ⟨rfl, hB, ⟨la2, ln2, lc2⟩, hv2, bv2, wv2, m2, hr2⟩
             have hc := cleared hr2
             have HB2 := hideL ((HBW.out.trans hB).trans hc.2)
             have hm2 : m2.length ≤ 1000000 := by rw [rs_mlen hr2]; exact HXL.out
             have HCB := hideL hc.2
             have LPh := hideL (lastEnd_any hc.1 hm2 (bo t))
             have d0 : w2.cell? ⟨g, 0, none⟩ = some (.int .i64 6) := by rw [hr2.c0, hpp]; rfl
             have d1 : w2.cell? ⟨g, 1, none⟩ = some (.slice la2 ln2 lc2) := hr2.c1
             have f1 := hr2.fz 1
             have hln : ln2 = tn + 1 := by have := hr2.line.gAt.le.1; rw [HT3.out, List.length_append, HTN.out] at this; exact this
             subst hln
             have hlc : tn ≤ lc2 := Nat.le_of_succ_le (show tn + 1 ≤ lc2 from hr2.line.gAt.le.2)
             have hcut := fun w => run_cut_gh (P := Tryz.prog) Tryz.underlying22 sizeB la2 (tn + 1) lc2 tn hlc w
             have hfr := GAt.front (show GAt KB w2 (.slice la2 (tn + 1) lc2) sk.line from hr2.line.gAt) (k := tn) (Nat.le_succ tn)
             have hcv := to_strA w2 la2 tn lc2 _ hfr
             rw [show sk.line.take tn = t from by rw [HT3.out, ← HTN.out, List.take_left' rfl]] at hcv
             have hdp := (hr2.prot (d, deO) (by simp))
             have dd : w2.cell? ⟨d, 6, none⟩ = some (.func (.func 157) #[] #[]) := de_cell hdp.1 6
             have hdg : d ≠ g := hdp.2.1
             have hdg2 : (d = g) = False := eq_false hdg
             clear hB hr2 hc hm2 hfr hdp
             go_wp2_with (go_at_call 157; refine LPh.out.mono ?_; rintro e w3 ⟨rfl, hB, lv3, hv3, bv3, wv3, m3, hr3⟩
                          have HR := hideL (show FIn w s b g d gx (.int .i64 ((k + 1 : Nat) : Int)) w3 from ⟨k + 1, _, _, _, _, _, _, _, by omega, rfl, HN.out, hr3, HB2.out.trans hB⟩)
                          clear hB hr3)
             go_roundg gx
             case measure => omega
             case rel => exact HR.out
     · have e6 : ((sk.err : Int) != 0) = true := by
         rw [bne_iff_ne]
         exact fun e => he (by omega)
       have hdn := hfed.stop he
       clear hn hdrop hlen hml hm6 hqb he
       have HRS := hideL hrs
       have hrf := hrs.fin (p := w.heap.size + 1) (o := psO) (by simp) ((keepg_st7 W (w.heap.size + 1) (.int .i64 sk.phase) lv.v (.string (bo sk.start)) hv.v bv.v (.int .i64 sk.left) (.int .i64 sk.err)).drewR)
       have hbf := hbw.trans (((keepg_st7 W (w.heap.size + 1) (.int .i64 sk.phase) lv.v (.string (bo sk.start)) hv.v bv.v (.int .i64 sk.left) (.int .i64 sk.err)).drewR).below (B := w.heap.size) (fun q e => by rw [e]; omega) hbw.size)
       have hy : RBox7 101 W (w.heap.size + 1) (.int .i64 0) (.slice none 0 0) (.string ⟨#[]⟩) (.slice none 0 0) (.slice none 0 0) (.int .i64 0) (.int .i64 0) := (hrs.prot (w.heap.size + 1, psO) (by simp)).1
       have hng : g ≠ w.heap.size + 1 := fun e => (hrs.prot (w.heap.size + 1, psO) (by simp)).2.1 e.symm
       have hyf := hy.st7 (.int .i64 sk.phase) lv.v (.string (bo sk.start)) hv.v bv.v (.int .i64 sk.left) (.int .i64 sk.err)
       have Y0 := hideL hy.c0
       have Y1 := hideL hy.c1
       have Y2 := hideL hy.c2
       have Y3 := hideL hy.c3
       have Y4 := hideL hy.c4
       have Y5 := hideL hy.c5
       have Y6 := hideL hy.c6
       have Z0 := hideL (hy.fz 0)
       have Z1 := hideL (hy.fz 1)
       have Z2 := hideL (hy.fz 2)
       have Z3 := hideL (hy.fz 3)
       have Z4 := hideL (hy.fz 4)
       have Z5 := hideL (hy.fz 5)
       have Z6 := hideL (hy.fz 6)
       have HX := hideL hrs.rbox
       have hxf := hideL (hrs.rbox.keep ((keepg_st7 W (w.heap.size + 1) (.int .i64 sk.phase) lv.v (.string (bo sk.start)) hv.v bv.v (.int .i64 sk.left) (.int .i64 sk.err)).drewR) hng)
       obtain ⟨hd1, hd2⟩ := hdn
       subst hd2
       obtain ⟨la2, ln2, lc2⟩ := lv
       obtain ⟨ha2, hn2, hc2⟩ := hv
       obtain ⟨ba2, bn2, bc2⟩ := bv
       obtain ⟨wa2, wn2, wc2⟩ := wv
       simp only [Sl.v, PsV] at hrf hbf hyf HX hxf
       have r0 := hyf.c0
       have r1 := hyf.c1
       have r2 := hyf.c2
       have r3 := hyf.c3
       have r4 := hyf.c4
       have r5 := hyf.c5
       have r6 := hyf.c6
       have HPS := hideL hrf.1
       have HRW := hideL hrf.2
       have HBF := hideL hbf
       have HD1 := hideL hd1
       clear hrs hy hng hyf hrf hbf hfed hbw hd1
       go_wp2_with fail
       have y0 := Y0.out
       have y1 := Y1.out
       have y2 := Y2.out
       have y3 := Y3.out
       have y4 := Y4.out
       have y5 := Y5.out
       have y6 := Y6.out
       have z0 := Z0.out
       have z1 := Z1.out
       have z2 := Z2.out
       have z3 := Z3.out
       have z4 := Z4.out
       have z5 := Z5.out
       have z6 := Z6.out
       refine wp_region_held_drew (S := fun w' => RBox 140 w' g (.int .i64 sk.phase) (.slice la2 ln2 lc2) (.string (bo sk.start)) (.slice ha2 hn2 hc2) (.slice ba2 bn2 bc2) (.int .i64 sk.left) (.int .i64 sk.err) (.slice wa2 wn2 wc2)) (by kernel_rfl) HX.out (fun hHeld => ?_)
       refine tl 0 rfl hHeld ?_
       try simp only [pA, pB, pC, pD]
       refine tm 1 (v := ?_) rfl hHeld ?_ ?_
       rotate_left
       · intro w hSw; (try dsimp only at hSw); have e0 := hSw.c0; have e1 := hSw.c1; have e2 := hSw.c2; have e3 := hSw.c3; have e4 := hSw.c4; have e5 := hSw.c5; have e6 := hSw.c6; have e7 := hSw.c7; go_simp; first | done | with_reducible rfl
       try simp only [pA, pB, pC, pD]
       refine tl 2 rfl hHeld ?_
       try simp only [pA, pB, pC, pD]
       refine tm 3 (v := ?_) rfl hHeld ?_ ?_
       rotate_left
       · intro w hSw; (try dsimp only at hSw); have e0 := hSw.c0; have e1 := hSw.c1; have e2 := hSw.c2; have e3 := hSw.c3; have e4 := hSw.c4; have e5 := hSw.c5; have e6 := hSw.c6; have e7 := hSw.c7; go_simp; first | done | with_reducible rfl
       try simp only [pA, pB, pC, pD]
       refine wpAnyH_ready (rs := [4]) (by kernel_rfl) (by simp) ?_
       refine aC rfl (fun K hK => ?_)
       clear hHeld
       go_simp
       refine hK.out _ _ (hxf.out) (fun hHeld => ?_)
       clear hK K
       try simp only [Act.put]
       refine tl 5 rfl hHeld ?_
       try simp only [pA, pB, pC, pD]
       refine wpAnyH_done (by kernel_rfl) ?_ _
       clear hHeld
       go_wp2_with fail
       try rw [Exit.noGoto_ret]
       exact bodyPost_ret (v := .tuple #[.agg #[.int .i64 sk.phase, .slice la2 ln2 lc2, .string (bo sk.start), .slice ha2 hn2 hc2, .slice ba2 bn2 bc2, .int .i64 sk.left, .int .i64 sk.err], .slice wa2 wn2 wc2]) (by simp [results, Tryz.results68, go_sem, r0, r1, r2, r3, r4, r5, r6]) rfl ⟨_, ⟨wa2, wn2, wc2⟩, rfl, by rw [HD1.out]; exact HPS.out, HRW.out, HBF.out⟩
end Go.Proofs.YtafmgoekgijfgaaGreatDoor
