/- Of: the request that a message is. -/
import Derived.Test.YtafmgoekgijfgaaGreatDoorFRqM2
import Derived.Test.YtafmgoekgijfgaaGreatDoorFRqHost2
import Derived.Test.YtafmgoekgijfgaaGreatDoorFRqOwn
import Derived.Test.YtafmgoekgijfgaaGreatDoorFRqM6
import Derived.Deep.RegionHeld3
namespace Go.Proofs.YtafmgoekgijfgaaGreatDoor
open Go.RowKit Go.Lib

/-- What stands ahead of the first blank, and behind it. -/
def hdB (l : List UInt8) : List UInt8 := l.takeWhile (· != 32)
def tlB (l : List UInt8) : List UInt8 := (l.dropWhile (· != 32)).drop 1
theorem bla_parts (l : List UInt8) : ((32 : UInt8) ∉ l ∧ hdB l = l ∧ tlB l = []) ∨ (l = hdB l ++ 32 :: tlB l ∧ (32 : UInt8) ∉ hdB l) := by
 have hn : (32 : UInt8) ∉ hdB l := fun h => by
   have := List.all_eq_true.1 (List.all_takeWhile (p := (· != 32)) (l := l)) 32 h
   simp at this
 have hd := List.takeWhile_append_dropWhile (p := (· != 32)) (l := l)
 cases he : l.dropWhile (· != 32) with
 | nil =>
   refine .inl ⟨?_, ?_, ?_⟩
   · rw [he, List.append_nil] at hd
     rw [← hd]; exact hn
   · rw [he, List.append_nil] at hd
     exact hd
   · unfold tlB; rw [he]; rfl
 | cons c r =>
   have hc : c = 32 := by
     have := List.head?_dropWhile_not (p := (· != 32)) (l := l)
     rw [he] at this
     simpa using this
   refine .inr ⟨?_, hn⟩
   unfold hdB tlB
   rw [he]
   conv => lhs; rw [← hd, he, hc]
   rfl
theorem bla_hit {a b : List UInt8} (h : (32 : UInt8) ∉ a) : hdB (a ++ 32 :: b) = a ∧ tlB (a ++ 32 :: b) = b := by
 have hp : ∀ c ∈ a, (c != 32) = true := fun c hc => by
   have : c ≠ 32 := fun e => h (e ▸ hc)
   simpa using this
 unfold hdB tlB
 rw [List.takeWhile_append_of_pos hp, List.dropWhile_append_of_pos hp, List.takeWhile_cons_of_neg (by decide), List.dropWhile_cons_of_neg (by decide)]
 exact ⟨by simp, rfl⟩
theorem http_bla : (32 : UInt8) ∉ http11 := by decide
theorem bla_cut (s m t : List UInt8) : blaS s = [m, t, http11] ↔ (hdB s = m ∧ hdB (tlB s) = t ∧ tlB (tlB s) = http11) := by
 rw [blaS_three]
 constructor
 · rintro ⟨rfl, h1, h2, _⟩
   obtain ⟨a1, a2⟩ := bla_hit (b := t ++ 32 :: http11) h1
   obtain ⟨b1, b2⟩ := bla_hit (b := http11) h2
   rw [a2, b1, b2]
   exact ⟨a1, rfl, rfl⟩
 · rintro ⟨rfl, rfl, h3⟩
   rcases bla_parts s with ⟨_, _, e⟩ | ⟨e1, e2⟩
   · rw [e] at h3; cases h3
   rcases bla_parts (tlB s) with ⟨_, _, e⟩ | ⟨f1, f2⟩
   · rw [e] at h3; cases h3
   refine ⟨?_, e2, f2, http_bla⟩
   conv => lhs; rw [e1, f1, h3]
/-- As the program tells it. -/
def ofC (x : Rw) : Option Rq :=
 if metP (hdB x.start) = true ∧ tlB (tlB x.start) = http11 then
   match allP hostA x.heads with
   | [h] => if (hosP (h.data.toList.map smB)).1 = true then (roaP (hdB x.start) (hdB (tlB x.start))).map fun p => ⟨hdB x.start, hdB (tlB x.start), p.1, p.2, h.data.toList.map smB, x.heads, x.body⟩ else none
   | _ => none
 else none
theorem of_cut (x : Rw) : ofRP x = ofC x := by
 unfold ofC
 by_cases h : tlB (tlB x.start) = http11
 · have hb := (bla_cut x.start _ _).2 ⟨rfl, rfl, h⟩
   unfold ofRP
   rw [hb]
   simp only [h, and_true, true_and]
   rfl
 · rw [if_neg (fun e => h e.2)]
   unfold ofRP
   split
   · rename_i m t v e
     split
     · rename_i hv
       rw [hv.1] at e
       exact absurd ((bla_cut _ _ _).1 e).2.2 h
     · rfl
   · rfl
/-- strings.Cut at a blank. -/
theorem cutB_any (s : ByteArray) (hs : s.size ≤ 1000000) (w : World) : Calls Tryz.prog 41 #[.string s, .string ⟨#[32]⟩] w (fun e w' => ∃ y, e = .returned (.tuple #[.string (bo (hdB s.data.toList)), .string (bo (tlB s.data.toList)), .bool y]) ∧ Below w.heap.size w w') := by
 rcases bla_parts s.data.toList with ⟨h1, h2, h3⟩ | ⟨h1, h2⟩
 · refine (cut_none s 32 h1 w).mono ?_
   rintro e w' ⟨rfl, n, rfl⟩
   rw [h2, h3, bo_of]
   exact ⟨false, rfl, below_drewN5 w n⟩
 · refine (cut_hit s 32 _ _ h1 h2 hs w).mono ?_
   rintro e w' ⟨rfl, n, rfl⟩
   exact ⟨true, rfl, below_drewN5 w n⟩
theorem hdB_len (l : List UInt8) : (hdB l).length ≤ l.length := (List.takeWhile_sublist _).length_le
theorem tlB_len (l : List UInt8) : (tlB l).length ≤ l.length := by
 unfold tlB
 rw [List.length_drop]
 have := (List.dropWhile_sublist (fun x : UInt8 => x != 32) (l := l)).length_le
 omega
/-- What stays while Of works. -/
structure OfSt (w : World) (s : ByteArray) (h b : Value) (W : World) : Prop where
 raw : QBox W w.heap.size s h b
 res : RBox7 26 W (w.heap.size + 1) (.string ⟨#[]⟩) (.string ⟨#[]⟩) (.string ⟨#[]⟩) (.string ⟨#[]⟩) (.string ⟨#[]⟩) (.slice none 0 0) (.slice none 0 0)
 be : Below w.heap.size w W
theorem OfSt.next {w : World} {s : ByteArray} {h b : Value} {W W' : World} (o : OfSt w s h b W) (hb : Below W.heap.size W W') : OfSt w s h b W' := ⟨o.raw.next hb, o.res.next hb, o.be.trans (hb.mono o.be.size)⟩
abbrev rqO : Obj := .cells #[.string ⟨#[]⟩, .string ⟨#[]⟩, .string ⟨#[]⟩, .string ⟨#[]⟩, .string ⟨#[]⟩, .slice none 0 0, .slice none 0 0] 26
theorem OfSt.first (w : World) (s : ByteArray) (h b : Value) : OfSt w s h b ((w.alloc (rawC s h b)).alloc rqO) := by
 have b1 := (Below.refl w.heap.size w).alloc (Nat.le_refl _) (rawC s h b)
 have b2 := (Below.refl (w.alloc (rawC s h b)).heap.size (w.alloc (rawC s h b))).alloc (Nat.le_refl _) rqO
 have hr : RBox7 26 ((w.alloc (rawC s h b)).alloc rqO) (w.alloc (rawC s h b)).heap.size (.string ⟨#[]⟩) (.string ⟨#[]⟩) (.string ⟨#[]⟩) (.string ⟨#[]⟩) (.string ⟨#[]⟩) (.slice none 0 0) (.slice none 0 0) := heap_alloc_new _ _
 rw [World.size_alloc] at hr
 exact ⟨QBox.next (heap_alloc_new w _) b2, hr, b1.trans (b2.mono b1.size)⟩
theorem below_st7 {w W : World} {g : Nat} {a0 a1 a2 a3 a4 a5 a6 : Value} (h : Below w.heap.size w W) (hg : w.heap.size ≤ g) : Below w.heap.size w (st7 W g a0 a1 a2 a3 a4 a5 a6) := h.trans ((keepg_st7 W g a0 a1 a2 a3 a4 a5 a6).below (fun k e => by rw [e]; exact hg) h.size)
/-- Its memory is new since B. -/
def ReqGe (B : Nat) (v : QV) : Prop := (∀ k, v.h.v.ownBlock = some k → B ≤ k) ∧ (∀ k, v.b.v.ownBlock = some k → B ≤ k)
def OfPost (w : World) (x : Rw) (e : Ending) (w' : World) : Prop := (match ofRP x with
 | some q => ∃ v : QV, e = .returned (.tuple #[v.v, .int .i64 0]) ∧ ReqAt w' v q ∧ ReqGe w.heap.size v
 | none => e = .returned (.tuple #[.agg #[.string ⟨#[]⟩, .string ⟨#[]⟩, .string ⟨#[]⟩, .string ⟨#[]⟩, .string ⟨#[]⟩, .slice none 0 0, .slice none 0 0], .int .i64 2])) ∧ Below w.heap.size w w'
set_option maxRecDepth 100000 in
set_option maxHeartbeats 4000000 in
theorem of_any (r : RV) (x : Rw) (w : World) (hr : RawAt w r x) (hf : Fits x.heads) (hs0 : r.s.size ≤ 1000000) (hl : x.heads.length ≤ 1000) (hbl : x.body.length ≤ 1000000) (hE : Env w) (hS : EnvS w) :
   Calls Tryz.prog 13 #[.agg #[.string r.s, r.h.v, r.b.v]] w (OfPost w x) := by
 unfold OfPost
 rw [of_cut]
 unfold ofC
 have hstart := hr.1
 have HS := hideL (OfSt.first w r.s r.h.v r.b.v)
 have LA := hideL (fun (W : World) (hb : Below w.heap.size w W) => all_any hostA r.h.v x.heads W (hr.2.1.below hb) hf hl)
 have hm1 : (hdB x.start).length ≤ 1000000 := Nat.le_trans (hdB_len _) (by rw [← hstart, size_list]; exact hs0)
 have hm2 : (tlB x.start).length ≤ 1000000 := Nat.le_trans (tlB_len _) (by rw [← hstart, size_list]; exact hs0)
 have hm3 : (hdB (tlB x.start)).length ≤ 1000000 := Nat.le_trans (hdB_len _) hm2
 have LC1 := cutB_any r.s hs0
 rw [hstart] at LC1
 have LC1 := hideL (LC1 ((w.alloc (rawC r.s r.h.v r.b.v)).alloc rqO))
 have LC2 := cutB_any (bo (tlB x.start)) (by rw [bo_size]; exact hm2)
 rw [bo_list] at LC2
 have LC2 := hideL LC2
 have LM := mayMethod_any (bo (hdB x.start))
 rw [bo_list] at LM
 have LD := fun (W : World) (hb : Below w.heap.size w W) => destination_any (bo (hdB x.start)) (bo (hdB (tlB x.start))) (by rw [bo_size]; exact hm3) W (hE.next hb) (hS.next hb)
 simp only [bo_list] at LD
 have LO := hideL (fun (W : World) (hb : Below w.heap.size w W) => ownRaw_any r x W ⟨hr.1, hr.2.1.below hb, hr.2.2.below hb⟩ hf hs0 hl hbl)
 have LK1 := hideL (clone_any (bo (hdB x.start)) (by rw [bo_size]; omega))
 have LK2 := hideL (clone_any (bo (hdB (tlB x.start))) (by rw [bo_size]; omega))
 have LH := hideL (fun (h : ByteArray) (hz : h.size ≤ 1000000) (W : World) (hb : Below w.heap.size w W) => mayHost_any (bo (smaS h.data.toList)) (by rw [bo_size, smaS_len, size_list]; exact hz) W (hE.next hb) (hS.next hb))
 have hfit := allP_fits hf hostA
 have hhl := allP_len hostA x.heads
 have LSM := hideL (fun (h : ByteArray) (hz : h.size ≤ 1000000) (W : World) => rsmall_any h hz W)
 obtain ⟨m, hm⟩ : ∃ m, hdB x.start = m := ⟨_, rfl⟩
 obtain ⟨rest, hrest⟩ : ∃ m, tlB x.start = m := ⟨_, rfl⟩
 rw [hm] at LC1 LM LD LK1 ⊢
 rw [hrest] at LC1 LC2 LD LK2 ⊢
 obtain ⟨t, ht⟩ : ∃ m, hdB rest = m := ⟨_, rfl⟩
 obtain ⟨v, hv⟩ : ∃ m, tlB rest = m := ⟨_, rfl⟩
 rw [ht] at LC2 LD LK2 ⊢
 rw [hv] at LC2 ⊢
 obtain ⟨hs, hhs⟩ : ∃ l, allP hostA x.heads = l := ⟨_, rfl⟩
 rw [hhs] at LA hfit hhl ⊢
 have LD := hideL LD
 obtain ⟨ym, hym⟩ : ∃ y, metP m = y := ⟨_, rfl⟩
 rw [hym] at LM ⊢
 have LM := hideL LM
 have hn1 : hs.length ≤ 1000 := by omega
 clear hr hf hl hbl hE hS hm hrest ht hv hhs hym hhl hstart hm1 hm2 hm3
 have hhA : hostA = ⟨#[104, 111, 115, 116]⟩ := rfl
 rw [hhA] at LA
 clear hhA
 obtain ⟨s, ⟨ha, hn, hc⟩, ⟨ba, bn, bc⟩⟩ := r
 dsimp only at hs0
 simp only [Sl.v] at LA LO HS LC1 ⊢
 have e1 := fun h : v = http11 => eqs_true (s := bo v) (t := ⟨#[72, 84, 84, 80, 47, 49, 46, 49]⟩) (by rw [h]; rfl)
 have e2 := fun h : v ≠ http11 => eqs_false (s := bo v) (t := ⟨#[72, 84, 84, 80, 47, 49, 46, 49]⟩) (fun e => h (by have := congrArg (fun b : ByteArray => b.data.toList) e; exact this))
 rw [ByteArray.toList_eq ⟨#[72, 84, 84, 80, 47, 49, 46, 49]⟩] at e1 e2
 cases ym with
 | false =>
   rw [if_neg (fun h => Bool.false_ne_true h.1)]
   simp only
   clear e1 e2
   go_enter Tryz.func13, Tryz.ntmps13
   go_wp2_with (first
          | (go_at_call 41; first
            | (with_reducible refine LC1.out.mono ?_; rintro e w3 ⟨y1, rfl, hB⟩; replace HS := hideL (HS.out.next hB); clear hB)
            | (with_reducible refine (LC2.out _).mono ?_; rintro e w4 ⟨y2, rfl, hB⟩; replace HS := hideL (HS.out.next hB); clear hB; have c1 := HS.out.raw.c1; have HB5 := hideL HS.out.be))
          | (go_at_call 42; refine (LA.out _ HB5.out).mono ?_; rintro e w5 ⟨ra, rfl, hR, hB⟩; replace HS := hideL (HS.out.next hB); clear hB; clear c1
             have HR := hideL hR
             clear hR
             obtain ⟨ro, rc, rfl⟩ : ∃ a c, ra = .slice a hs.length c := HR.out.gAt.len)
          | (go_at_call 43; refine (LM.out _).mono ?_; rintro e w6 ⟨rfl, hB⟩; have HRN := hideL (HR.out.below hB); replace HS := hideL (HS.out.next hB); clear hB; have q0 := HS.out.res.c0; have q1 := HS.out.res.c1; have q2 := HS.out.res.c2; have q3 := HS.out.res.c3; have q4 := HS.out.res.c4; have q5 := HS.out.res.c5; have q6 := HS.out.res.c6; have z0 := HS.out.res.fz 0; have z1 := HS.out.res.fz 1; have z2 := HS.out.res.fz 2; have z3 := HS.out.res.fz 3; have z4 := HS.out.res.fz 4; have z5 := HS.out.res.fz 5; have z6 := HS.out.res.fz 6))
   exact bodyPost_ret (v := .tuple #[.agg #[.string ⟨#[]⟩, .string ⟨#[]⟩, .string ⟨#[]⟩, .string ⟨#[]⟩, .string ⟨#[]⟩, .slice none 0 0, .slice none 0 0], .int .i64 2]) (by
     have hy := HS.out.res.st7 (.string ⟨#[]⟩) (.string ⟨#[]⟩) (.string ⟨#[]⟩) (.string ⟨#[]⟩) (.string ⟨#[]⟩) (.slice none 0 0) (.slice none 0 0)
     have r0 := hy.c0
     have r1 := hy.c1
     have r2 := hy.c2
     have r3 := hy.c3
     have r4 := hy.c4
     have r5 := hy.c5
     have r6 := hy.c6
     simp [results, Tryz.results13, go_sem, r0, r1, r2, r3, r4, r5, r6]) rfl ⟨rfl, below_st7 HS.out.be (Nat.le_succ _)⟩
 | true =>
   by_cases hv11 : v = http11
   · replace e1 := e1 hv11
     rw [if_pos ⟨rfl, hv11⟩]
     clear e2 hv11
     match hs, hn1, LA, hfit with
     | [], _, LA, _ =>
       simp only
       go_enter Tryz.func13, Tryz.ntmps13
       go_wp2_with (first
          | (go_at_call 41; first
            | (with_reducible refine LC1.out.mono ?_; rintro e w3 ⟨y1, rfl, hB⟩; replace HS := hideL (HS.out.next hB); clear hB)
            | (with_reducible refine (LC2.out _).mono ?_; rintro e w4 ⟨y2, rfl, hB⟩; replace HS := hideL (HS.out.next hB); clear hB; have c1 := HS.out.raw.c1; have HB5 := hideL HS.out.be))
          | (go_at_call 42; refine (LA.out _ HB5.out).mono ?_; rintro e w5 ⟨ra, rfl, hR, hB⟩; replace HS := hideL (HS.out.next hB); clear hB; clear c1
             have HR := hideL hR
             clear hR
             obtain ⟨ro, rc, rfl⟩ : ∃ a c, ra = .slice a ([] : List ByteArray).length c := HR.out.gAt.len)
          | (go_at_call 43; refine (LM.out _).mono ?_; rintro e w6 ⟨rfl, hB⟩; have HRN := hideL (HR.out.below hB); replace HS := hideL (HS.out.next hB); clear hB; have q0 := HS.out.res.c0; have q1 := HS.out.res.c1; have q2 := HS.out.res.c2; have q3 := HS.out.res.c3; have q4 := HS.out.res.c4; have q5 := HS.out.res.c5; have q6 := HS.out.res.c6; have z0 := HS.out.res.fz 0; have z1 := HS.out.res.fz 1; have z2 := HS.out.res.fz 2; have z3 := HS.out.res.fz 3; have z4 := HS.out.res.fz 4; have z5 := HS.out.res.fz 5; have z6 := HS.out.res.fz 6))
       exact bodyPost_ret (v := .tuple #[.agg #[.string ⟨#[]⟩, .string ⟨#[]⟩, .string ⟨#[]⟩, .string ⟨#[]⟩, .string ⟨#[]⟩, .slice none 0 0, .slice none 0 0], .int .i64 2]) (by
         have hy := HS.out.res.st7 (.string ⟨#[]⟩) (.string ⟨#[]⟩) (.string ⟨#[]⟩) (.string ⟨#[]⟩) (.string ⟨#[]⟩) (.slice none 0 0) (.slice none 0 0)
         have r0 := hy.c0
         have r1 := hy.c1
         have r2 := hy.c2
         have r3 := hy.c3
         have r4 := hy.c4
         have r5 := hy.c5
         have r6 := hy.c6
         simp [results, Tryz.results13, go_sem, r0, r1, r2, r3, r4, r5, r6]) rfl ⟨rfl, below_st7 HS.out.be (Nat.le_succ _)⟩
     | x0 :: x1 :: l, _, LA, _ =>
       simp only
       obtain ⟨n, hn⟩ : ∃ n, (x0 :: x1 :: l).length = n := ⟨_, rfl⟩
       have i1 : ((n : Int) != 1) = true := by rw [bne_iff_ne]; intro e; rw [List.length_cons, List.length_cons] at hn; omega
       have HN := hideL hn
       clear hn
       go_enter Tryz.func13, Tryz.ntmps13
       go_wp2_with (first
          | (go_at_call 41; first
            | (with_reducible refine LC1.out.mono ?_; rintro e w3 ⟨y1, rfl, hB⟩; replace HS := hideL (HS.out.next hB); clear hB)
            | (with_reducible refine (LC2.out _).mono ?_; rintro e w4 ⟨y2, rfl, hB⟩; replace HS := hideL (HS.out.next hB); clear hB; have c1 := HS.out.raw.c1; have HB5 := hideL HS.out.be))
          | (go_at_call 42; refine (LA.out _ HB5.out).mono ?_; rintro e w5 ⟨ra, rfl, hR, hB⟩; replace HS := hideL (HS.out.next hB); clear hB; clear c1
             have HR := hideL hR
             clear hR
             obtain ⟨ro, rc, rfl⟩ : ∃ a c, ra = .slice a n c := by rw [← HN.out]; exact HR.out.gAt.len)
          | (go_at_call 43; refine (LM.out _).mono ?_; rintro e w6 ⟨rfl, hB⟩; have HRN := hideL (HR.out.below hB); replace HS := hideL (HS.out.next hB); clear hB; have q0 := HS.out.res.c0; have q1 := HS.out.res.c1; have q2 := HS.out.res.c2; have q3 := HS.out.res.c3; have q4 := HS.out.res.c4; have q5 := HS.out.res.c5; have q6 := HS.out.res.c6; have z0 := HS.out.res.fz 0; have z1 := HS.out.res.fz 1; have z2 := HS.out.res.fz 2; have z3 := HS.out.res.fz 3; have z4 := HS.out.res.fz 4; have z5 := HS.out.res.fz 5; have z6 := HS.out.res.fz 6))
       exact bodyPost_ret (v := .tuple #[.agg #[.string ⟨#[]⟩, .string ⟨#[]⟩, .string ⟨#[]⟩, .string ⟨#[]⟩, .string ⟨#[]⟩, .slice none 0 0, .slice none 0 0], .int .i64 2]) (by
         have hy := HS.out.res.st7 (.string ⟨#[]⟩) (.string ⟨#[]⟩) (.string ⟨#[]⟩) (.string ⟨#[]⟩) (.string ⟨#[]⟩) (.slice none 0 0) (.slice none 0 0)
         have r0 := hy.c0
         have r1 := hy.c1
         have r2 := hy.c2
         have r3 := hy.c3
         have r4 := hy.c4
         have r5 := hy.c5
         have r6 := hy.c6
         simp [results, Tryz.results13, go_sem, r0, r1, r2, r3, r4, r5, r6]) rfl ⟨rfl, below_st7 HS.out.be (Nat.le_succ _)⟩
     | [h], _, LA, hfit =>
       simp only
       have hz : h.size ≤ 1000000 := hfit h (by simp)
       have LSM := LSM.out h hz
       have LH := fun W hb => LH.out h hz W hb
       simp only [bo_list] at LH
       obtain ⟨s1, _, s3⟩ := sma_host h.data.toList
       simp only [s1] at LH
       obtain ⟨y, hy⟩ : ∃ y, (hosP (h.data.toList.map smB)).1 = y := ⟨_, rfl⟩
       rw [hy] at s1
       rw [hy]
       simp only [hy] at LH
       unfold desA at LD
       obtain ⟨od, hod⟩ : ∃ o, roaP m t = o := ⟨_, rfl⟩
       rw [hod] at LD ⊢
       clear hfit hz hod hy
       cases od with
       | none =>
         rw [show (if y = true then Option.map (fun p : List UInt8 × List UInt8 => (⟨m, t, p.1, p.2, h.data.toList.map smB, x.heads, x.body⟩ : Rq)) none else none) = none from by split <;> rfl]
         simp only at LD ⊢
         have LSM := hideL LSM
         clear LH s1 s3
         go_enter Tryz.func13, Tryz.ntmps13
         go_wp2_with (first
          | (go_at_call 41; first
            | (with_reducible refine LC1.out.mono ?_; rintro e w3 ⟨y1, rfl, hB⟩; replace HS := hideL (HS.out.next hB); clear hB)
            | (with_reducible refine (LC2.out _).mono ?_; rintro e w4 ⟨y2, rfl, hB⟩; replace HS := hideL (HS.out.next hB); clear hB; have c1 := HS.out.raw.c1; have HB5 := hideL HS.out.be))
          | (go_at_call 42; refine (LA.out _ HB5.out).mono ?_; rintro e w5 ⟨ra, rfl, hR, hB⟩; replace HS := hideL (HS.out.next hB); clear hB; clear c1
             have HR := hideL hR
             clear hR
             obtain ⟨ro, rc, rfl⟩ : ∃ a c, ra = .slice a ([h] : List ByteArray).length c := HR.out.gAt.len)
          | (go_at_call 43; refine (LM.out _).mono ?_; rintro e w6 ⟨rfl, hB⟩; have HRN := hideL (HR.out.below hB); replace HS := hideL (HS.out.next hB); clear hB
             obtain ⟨b0, o0, hro, _, hc0⟩ := gat_text HRN.out.gAt (k := 0) (Nat.zero_lt_one)
             have hc1 : w6.cell? ⟨b0, o0, none⟩ = some (.string h) := hc0
             subst hro
             clear hc0)
          | (go_at_call 44; refine (LSM.out _).mono ?_; rintro e w7 ⟨rfl, hB⟩; replace HS := hideL (HS.out.next hB); clear hB)
          | (go_at_call 45; refine (LD.out _ HS.out.be).mono ?_; rintro e w8 ⟨rfl, hB⟩; replace HS := hideL (HS.out.next hB); clear hB; have q0 := HS.out.res.c0; have q1 := HS.out.res.c1; have q2 := HS.out.res.c2; have q3 := HS.out.res.c3; have q4 := HS.out.res.c4; have q5 := HS.out.res.c5; have q6 := HS.out.res.c6; have z0 := HS.out.res.fz 0; have z1 := HS.out.res.fz 1; have z2 := HS.out.res.fz 2; have z3 := HS.out.res.fz 3; have z4 := HS.out.res.fz 4; have z5 := HS.out.res.fz 5; have z6 := HS.out.res.fz 6))
         exact bodyPost_ret (v := .tuple #[.agg #[.string ⟨#[]⟩, .string ⟨#[]⟩, .string ⟨#[]⟩, .string ⟨#[]⟩, .string ⟨#[]⟩, .slice none 0 0, .slice none 0 0], .int .i64 2]) (by
           have hy := HS.out.res.st7 (.string ⟨#[]⟩) (.string ⟨#[]⟩) (.string ⟨#[]⟩) (.string ⟨#[]⟩) (.string ⟨#[]⟩) (.slice none 0 0) (.slice none 0 0)
           have r0 := hy.c0
           have r1 := hy.c1
           have r2 := hy.c2
           have r3 := hy.c3
           have r4 := hy.c4
           have r5 := hy.c5
           have r6 := hy.c6
           simp [results, Tryz.results13, go_sem, r0, r1, r2, r3, r4, r5, r6]) rfl ⟨rfl, below_st7 HS.out.be (Nat.le_succ _)⟩
       | some p =>
         obtain ⟨p1, p2⟩ := p
         simp only at LD ⊢
         cases y with
         | false =>
           rw [if_neg Bool.false_ne_true]
           simp only
           have LSM := hideL LSM
           have LH := hideL LH
           clear s1 s3
           go_enter Tryz.func13, Tryz.ntmps13
           go_wp2_with (first
          | (go_at_call 41; first
            | (with_reducible refine LC1.out.mono ?_; rintro e w3 ⟨y1, rfl, hB⟩; replace HS := hideL (HS.out.next hB); clear hB)
            | (with_reducible refine (LC2.out _).mono ?_; rintro e w4 ⟨y2, rfl, hB⟩; replace HS := hideL (HS.out.next hB); clear hB; have c1 := HS.out.raw.c1; have HB5 := hideL HS.out.be))
          | (go_at_call 42; refine (LA.out _ HB5.out).mono ?_; rintro e w5 ⟨ra, rfl, hR, hB⟩; replace HS := hideL (HS.out.next hB); clear hB; clear c1
             have HR := hideL hR
             clear hR
             obtain ⟨ro, rc, rfl⟩ : ∃ a c, ra = .slice a ([h] : List ByteArray).length c := HR.out.gAt.len)
          | (go_at_call 43; refine (LM.out _).mono ?_; rintro e w6 ⟨rfl, hB⟩; have HRN := hideL (HR.out.below hB); replace HS := hideL (HS.out.next hB); clear hB
             obtain ⟨b0, o0, hro, _, hc0⟩ := gat_text HRN.out.gAt (k := 0) (Nat.zero_lt_one)
             have hc1 : w6.cell? ⟨b0, o0, none⟩ = some (.string h) := hc0
             subst hro
             clear hc0)
          | (go_at_call 44; refine (LSM.out _).mono ?_; rintro e w7 ⟨rfl, hB⟩; replace HS := hideL (HS.out.next hB); clear hB)
          | (go_at_call 45; refine (LD.out _ HS.out.be).mono ?_; rintro e w8 ⟨rfl, hB⟩; replace HS := hideL (HS.out.next hB); clear hB)
          | (go_at_call 21; refine (LH.out _ HS.out.be).mono ?_; rintro e w9 ⟨rfl, hB⟩; replace HS := hideL (HS.out.next hB); clear hB; have q0 := HS.out.res.c0; have q1 := HS.out.res.c1; have q2 := HS.out.res.c2; have q3 := HS.out.res.c3; have q4 := HS.out.res.c4; have q5 := HS.out.res.c5; have q6 := HS.out.res.c6; have z0 := HS.out.res.fz 0; have z1 := HS.out.res.fz 1; have z2 := HS.out.res.fz 2; have z3 := HS.out.res.fz 3; have z4 := HS.out.res.fz 4; have z5 := HS.out.res.fz 5; have z6 := HS.out.res.fz 6))
           exact bodyPost_ret (v := .tuple #[.agg #[.string ⟨#[]⟩, .string ⟨#[]⟩, .string ⟨#[]⟩, .string ⟨#[]⟩, .string ⟨#[]⟩, .slice none 0 0, .slice none 0 0], .int .i64 2]) (by
             have hy := HS.out.res.st7 (.string ⟨#[]⟩) (.string ⟨#[]⟩) (.string ⟨#[]⟩) (.string ⟨#[]⟩) (.string ⟨#[]⟩) (.slice none 0 0) (.slice none 0 0)
             have r0 := hy.c0
             have r1 := hy.c1
             have r2 := hy.c2
             have r3 := hy.c3
             have r4 := hy.c4
             have r5 := hy.c5
             have r6 := hy.c6
             simp [results, Tryz.results13, go_sem, r0, r1, r2, r3, r4, r5, r6]) rfl ⟨rfl, below_st7 HS.out.be (Nat.le_succ _)⟩
         | true =>
           rw [if_pos rfl]
           simp only [Option.map_some]
           have hsm := s3 s1
           simp only [hsm] at LSM LH
           have LSM := hideL LSM
           have LH := hideL LH
           clear s1 s3 hsm
           go_enter Tryz.func13, Tryz.ntmps13
           go_wp2_with (first
          | (go_at_call 41; first
            | (with_reducible refine LC1.out.mono ?_; rintro e w3 ⟨y1, rfl, hB⟩; replace HS := hideL (HS.out.next hB); clear hB)
            | (with_reducible refine (LC2.out _).mono ?_; rintro e w4 ⟨y2, rfl, hB⟩; replace HS := hideL (HS.out.next hB); clear hB; have c1 := HS.out.raw.c1; have HB5 := hideL HS.out.be))
          | (go_at_call 42; refine (LA.out _ HB5.out).mono ?_; rintro e w5 ⟨ra, rfl, hR, hB⟩; replace HS := hideL (HS.out.next hB); clear hB; clear c1
             have HR := hideL hR
             clear hR
             obtain ⟨ro, rc, rfl⟩ : ∃ a c, ra = .slice a ([h] : List ByteArray).length c := HR.out.gAt.len)
          | (go_at_call 43; refine (LM.out _).mono ?_; rintro e w6 ⟨rfl, hB⟩; have HRN := hideL (HR.out.below hB); replace HS := hideL (HS.out.next hB); clear hB
             obtain ⟨b0, o0, hro, _, hc0⟩ := gat_text HRN.out.gAt (k := 0) (Nat.zero_lt_one)
             have hc1 : w6.cell? ⟨b0, o0, none⟩ = some (.string h) := hc0
             subst hro
             clear hc0)
          | (go_at_call 44; refine (LSM.out _).mono ?_; rintro e w7 ⟨rfl, hB⟩; replace HS := hideL (HS.out.next hB); clear hB)
          | (go_at_call 45; refine (LD.out _ HS.out.be).mono ?_; rintro e w8 ⟨rfl, hB⟩; replace HS := hideL (HS.out.next hB); clear hB)
          | (go_at_call 21; refine (LH.out _ HS.out.be).mono ?_; rintro e w9 ⟨rfl, hB⟩; replace HS := hideL (HS.out.next hB); clear hB; have k0 := HS.out.raw.c0; have k1 := HS.out.raw.c1; have k2 := HS.out.raw.c2)
          | (go_at_call 46; refine (LO.out _ HS.out.be).mono ?_; rintro e w10 ⟨⟨ha', hn', hc'⟩, ⟨ba', bn', bc'⟩, rfl, hg1, hg2, hdis, hB⟩
             simp only at hg1 hg2 ⊢
             have hA := (Below.refl w10.heap.size w10).alloc (Nat.le_refl _) (rawC s (.slice ha' hn' hc') (.slice ba' bn' bc'))
             have HZ := hideL (show w.heap.size + 2 ≤ w9.heap.size from HS.out.res.lt)
             have HSZ := hideL hB.size
             have HG1 := hideL (hg1.below hA)
             have HG2 := hideL (hg2.below hA)
             have HQO := hideL (show QBox (w10.alloc (rawC s (.slice ha' hn' hc') (.slice ba' bn' bc'))) w10.heap.size s (.slice ha' hn' hc') (.slice ba' bn' bc') from heap_alloc_new w10 _)
             replace HS := hideL (HS.out.next (hB.trans (hA.mono hB.size)))
             clear hB hA hg1 hg2 hdis k0 k1 k2))
           refine wp_region_held_drew (S := fun w' => QBox w' w10.heap.size s (.slice ha' hn' hc') (.slice ba' bn' bc')) (by kernel_rfl) HQO.out.drew (fun hHeld => ?_)
           refine tl 0 rfl hHeld ?_
           try simp only [pA, pB, pC, pD]
           refine tl 2 rfl hHeld ?_
           try simp only [pA, pB, pC, pD]
           refine tl 4 rfl hHeld ?_
           try simp only [pA, pB, pC, pD]
           refine tl 5 rfl hHeld ?_
           try simp only [pA, pB, pC, pD]
           refine tl 6 rfl hHeld ?_
           try simp only [pA, pB, pC, pD]
           refine tl 7 rfl hHeld ?_
           try simp only [pA, pB, pC, pD]
           refine tm 8 (v := ?_) rfl hHeld ?_ ?_
           rotate_left
           · intro w hSw; (try dsimp only at hSw); have d1 := hSw.c1; have d2 := hSw.c2; go_simp; first | done | with_reducible rfl
           try simp only [pA, pB, pC, pD]
           refine tl 9 rfl hHeld ?_
           try simp only [pA, pB, pC, pD]
           refine tm 10 (v := ?_) rfl hHeld ?_ ?_
           rotate_left
           · intro w hSw; (try dsimp only at hSw); have d1 := hSw.c1; have d2 := hSw.c2; go_simp; first | done | with_reducible rfl
           try simp only [pA, pB, pC, pD]
           refine wpAnyH_ready (rs := [1]) (by kernel_rfl) (by simp) ?_
           refine aC rfl (fun K hK => ?_)
           clear hHeld
           go_simp
           refine (LK1.out _).mono ?_
           rintro e w11 ⟨rfl, hB⟩
           replace HQO := hideL (HQO.out.drew.next hB)
           replace HG1 := hideL (HG1.out.below ((Below.refl _ _).drew.trans hB))
           replace HG2 := hideL (HG2.out.below ((Below.refl _ _).drew.trans hB))
           replace HS := hideL (HS.out.next ((Below.refl _ _).drew.trans hB))
           clear hB
           refine hK.out _ _ (HQO.out) (fun hHeld => ?_)
           clear hK K
           try simp only [pA, pB, pC, pD]
           refine wpAnyH_ready (rs := [3]) (by kernel_rfl) (by simp) ?_
           refine aC rfl (fun K hK => ?_)
           clear hHeld
           go_simp
           refine (LK2.out _).mono ?_
           rintro e w12 ⟨rfl, hB⟩
           replace HQO := hideL (HQO.out.next hB)
           replace HG1 := hideL (HG1.out.below hB)
           replace HG2 := hideL (HG2.out.below hB)
           replace HS := hideL (HS.out.next hB)
           clear hB
           have q0 := HS.out.res.c0
           have q1 := HS.out.res.c1
           have q2 := HS.out.res.c2
           have q3 := HS.out.res.c3
           have q4 := HS.out.res.c4
           have q5 := HS.out.res.c5
           have q6 := HS.out.res.c6
           have z0 := HS.out.res.fz 0
           have z1 := HS.out.res.fz 1
           have z2 := HS.out.res.fz 2
           have z3 := HS.out.res.fz 3
           have z4 := HS.out.res.fz 4
           have z5 := HS.out.res.fz 5
           have z6 := HS.out.res.fz 6
           have hne : w10.heap.size ≠ w.heap.size + 1 := by have := HZ.out; have := HSZ.out; omega
           refine hK.out _ _ (HQO.out) (fun hHeld => ?_)
           clear hK K
           try simp only [pA, pB, pC, pD]
           refine tl 11 rfl hHeld ?_
           try simp only [pA, pB, pC, pD]
           refine wpAnyH_ready (rs := [12]) (by kernel_rfl) (by simp) ?_
           refine aC rfl (fun K hK => ?_)
           clear hHeld
           go_simp
           refine hK.out _ _ ((show QBox (st7 w12 (w.heap.size + 1) (.string (bo m)) (.string (bo t)) (.string (bo p1)) (.string (bo p2)) (.string (bo (h.data.toList.map smB))) (.slice ha' hn' hc') (.slice ba' bn' bc')) w10.heap.size s (.slice ha' hn' hc') (.slice ba' bn' bc') from ((keepg_st7 _ _ _ _ _ _ _ _ _).block _ HQO.out.lt hne).trans HQO.out)) (fun hHeld => ?_)
           clear hK K
           try simp only [Act.put]
           refine tl 13 rfl hHeld ?_
           try simp only [pA, pB, pC, pD]
           refine wpAnyH_done (by kernel_rfl) ?_ _
           clear hHeld
           go_wp2_with fail
           have hy := HS.out.res.st7 (.string (bo m)) (.string (bo t)) (.string (bo p1)) (.string (bo p2)) (.string (bo (h.data.toList.map smB))) (.slice ha' hn' hc') (.slice ba' bn' bc')
           have r0 := hy.c0
           have r1 := hy.c1
           have r2 := hy.c2
           have r3 := hy.c3
           have r4 := hy.c4
           have r5 := hy.c5
           have r6 := hy.c6
           have kk := keepg_st7 w12 (w.heap.size + 1) (.string (bo m)) (.string (bo t)) (.string (bo p1)) (.string (bo p2)) (.string (bo (h.data.toList.map smB))) (.slice ha' hn' hc') (.slice ba' bn' bc')
           have f1 := HG1.out.gAt.keep kk (fun q hq e => by have := HG1.out.ge hq; have := HZ.out; have e : q = w.heap.size + 1 := e; omega)
           have f2 := HG2.out.gAt.keep kk (fun q hq e => by have := HG2.out.ge hq; have := HZ.out; have e : q = w.heap.size + 1 := e; omega)
           exact bodyPost_ret (v := .tuple #[.agg #[.string (bo m), .string (bo t), .string (bo p1), .string (bo p2), .string (bo (h.data.toList.map smB)), .slice ha' hn' hc', .slice ba' bn' bc'], .int .i64 0]) (by simp [results, Tryz.results13, go_sem, r0, r1, r2, r3, r4, r5, r6]) rfl ⟨⟨⟨bo m, bo t, bo p1, bo p2, bo (h.data.toList.map smB), ⟨ha', hn', hc'⟩, ⟨ba', bn', bc'⟩⟩, rfl, ⟨rfl, rfl, rfl, rfl, rfl, f1, f2⟩, fun q hq => by have := HG1.out.ge hq; have := HZ.out; omega, fun q hq => by have := HG2.out.ge hq; have := HZ.out; omega⟩, below_st7 HS.out.be (Nat.le_succ _)⟩
   · replace e2 := e2 hv11
     rw [if_neg (fun h => hv11 h.2)]
     simp only
     clear e1 hv11
     go_enter Tryz.func13, Tryz.ntmps13
     go_wp2_with (first
          | (go_at_call 41; first
            | (with_reducible refine LC1.out.mono ?_; rintro e w3 ⟨y1, rfl, hB⟩; replace HS := hideL (HS.out.next hB); clear hB)
            | (with_reducible refine (LC2.out _).mono ?_; rintro e w4 ⟨y2, rfl, hB⟩; replace HS := hideL (HS.out.next hB); clear hB; have c1 := HS.out.raw.c1; have HB5 := hideL HS.out.be))
          | (go_at_call 42; refine (LA.out _ HB5.out).mono ?_; rintro e w5 ⟨ra, rfl, hR, hB⟩; replace HS := hideL (HS.out.next hB); clear hB; clear c1
             have HR := hideL hR
             clear hR
             obtain ⟨ro, rc, rfl⟩ : ∃ a c, ra = .slice a hs.length c := HR.out.gAt.len)
          | (go_at_call 43; refine (LM.out _).mono ?_; rintro e w6 ⟨rfl, hB⟩; have HRN := hideL (HR.out.below hB); replace HS := hideL (HS.out.next hB); clear hB; have q0 := HS.out.res.c0; have q1 := HS.out.res.c1; have q2 := HS.out.res.c2; have q3 := HS.out.res.c3; have q4 := HS.out.res.c4; have q5 := HS.out.res.c5; have q6 := HS.out.res.c6; have z0 := HS.out.res.fz 0; have z1 := HS.out.res.fz 1; have z2 := HS.out.res.fz 2; have z3 := HS.out.res.fz 3; have z4 := HS.out.res.fz 4; have z5 := HS.out.res.fz 5; have z6 := HS.out.res.fz 6))
     exact bodyPost_ret (v := .tuple #[.agg #[.string ⟨#[]⟩, .string ⟨#[]⟩, .string ⟨#[]⟩, .string ⟨#[]⟩, .string ⟨#[]⟩, .slice none 0 0, .slice none 0 0], .int .i64 2]) (by
       have hy := HS.out.res.st7 (.string ⟨#[]⟩) (.string ⟨#[]⟩) (.string ⟨#[]⟩) (.string ⟨#[]⟩) (.string ⟨#[]⟩) (.slice none 0 0) (.slice none 0 0)
       have r0 := hy.c0
       have r1 := hy.c1
       have r2 := hy.c2
       have r3 := hy.c3
       have r4 := hy.c4
       have r5 := hy.c5
       have r6 := hy.c6
       simp [results, Tryz.results13, go_sem, r0, r1, r2, r3, r4, r5, r6]) rfl ⟨rfl, below_st7 HS.out.be (Nat.le_succ _)⟩
end Go.Proofs.YtafmgoekgijfgaaGreatDoor
