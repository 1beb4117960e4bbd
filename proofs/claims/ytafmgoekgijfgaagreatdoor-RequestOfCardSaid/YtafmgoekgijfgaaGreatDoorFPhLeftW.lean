/- The program's left, walked. -/
import Derived.Test.YtafmgoekgijfgaaGreatDoorFRqM2
import Derived.Laws.ResultCell
namespace Go.Proofs.YtafmgoekgijfgaaGreatDoor
open Go.RowKit Go.Shelf

attribute [local go_sem] Oper.semAt_some

set_option maxHeartbeats 1000000 in
theorem segments_in (n : Nat) (s : ByteArray) (w : World) :
   CallsIn Fence.wide n Tryz.prog 177 #[.string s] w fun e w' => e = .returned (.func (.func 208) #[] #[.pointer (some ⟨w.heap.size, 0, none⟩)]) ∧ w' = w.alloc (.cells #[.string s] 9) := by
 refine callsIn_of_wp Tryz.func177 rfl trivial ?_ rfl
 simp only [Tryz.ntmps177, List.size_toArray, List.length_cons, List.length_nil, Nat.reduceAdd, Nat.reduceSub, Array.replicate_succ, Array.replicate_zero, List.push_toArray, List.append_toArray, List.nil_append, List.cons_append]
 gi_wp2
 go_ret
 exact ⟨rfl, rfl⟩
theorem segs_stops (n : Nat) (hn : 1 ≤ n) (Bs : Nat) (s : ByteArray) (hs : s.size ≤ 1000000) (w : World) (hBs : Bs < w.heap.size) (hc : w.cell? ⟨Bs, 0, none⟩ = some (.string s)) :
   SeqStopsK Fence.wide n Tryz.prog 208 #[.pointer (some ⟨Bs, 0, none⟩)] (fun x : List UInt8 => #[.string (bo x)]) (fun _ _ => True) (fun ys => ys = splP s.data.toList) (fun pre => pre <+: splP s.data.toList) (s.size + 1) w := fun l J Jx W hW hJ _ hY h0 =>
 segs1_in n hn l Bs s hs J Jx hY W hJ ((hW.cell (p := ⟨Bs, 0, none⟩) hBs).trans hc) h0

theorem load_l {W : World} {B : Nat} {v : Value} (h : Boxed W B 69 v) : (loadVar 69 ⟨B, 0, none⟩).run Tryz.prog W = .ok v W := by
 have c := h.cell
 go_simp
theorem load_t {W : World} {B : Nat} {v : Value} (h : Boxed W B 4 v) : (loadVar 4 ⟨B, 0, none⟩).run Tryz.prog W = .ok v W := by
 have c := h.cell
 go_simp
theorem results_cells3 {P : Program} {fn : Func} {p q r : Tmp} {tp tq tr : TypeId} (h : fn.results = #[.cell p tp, .cell q tq, .cell r tr]) (tmps : Array Value) (w : World) {a b c : Addr} {x y z : Value}
   (ha : tmps.getD p undef = .pointer (some a)) (hb : tmps.getD q undef = .pointer (some b)) (hc : tmps.getD r undef = .pointer (some c))
   (hx : (loadVar tp a).run P w = .ok x w) (hy : (loadVar tq b).run P w = .ok y w) (hz : (loadVar tr c).run P w = .ok z w) : (results fn tmps).run P w = .ok (.tuple #[x, y, z]) w := by
 simp only [Array.getD_eq_getD_getElem?] at ha hb hc
 simp only [results, h]
 simp [Sem.run_bind, Result.andThen, asAddr, ha, hb, hc, hx, hy, hz]
theorem wrap64_small (m : Nat) (h : m ≤ 1000000) : wrap64 (m : Int) = (m : Int) := by unfold wrap64; omega
theorem succ_nz (m : Nat) : ((m : Int) + 1 == 0) = false := beq_eq_false_iff_ne.2 (by omega)
theorem succ_one (m : Nat) : (((m + 1 : Nat) : Int) - 1) = (m : Int) := by omega
theorem bo_toList (x : List UInt8) : (bo x).toList = x := by rw [ByteArray.toList_eq]; rfl
theorem wpListIn_append_runL {F : Fence} {n : Nat} {P : Program} {w : World} {ops : Array Oper} {rest : List Oper} {o : Oper} {a : Act} {Q : Exit → Act → World → Prop}
   (hg : o.guard = none) (s x : Operand) (t : TypeId) (hop : o.op = Op.call { callee := Callee.builtin Builtin.append, args := #[s, x], argTypes := #[t, t] }) (hty : o.type = t)
   (vs vx v : Value) (w' : World) (hs : a.eval s = vs) (hx : a.eval x = vx) (hrun : (Builtin.append_ #[t, t] t #[vs, vx]).run P w = .ok v w')
   (h : wpListIn F n P ops Q rest (a.put o.dst v) w') : wpListIn F n P ops Q (o :: rest) a w := by
 have hrun : (Builtin.append_ #[t, t] o.type #[vs, vx]).run P w = .ok v w' := by rw [hty]; exact hrun
 refine wpListIn_plain hg fun K hK' => ?_
 unfold Oper.wpIn
 refine ⟨?_, ?_⟩
 · simp [Oper.about, hop, resolve, Target.leads, Sem.run_pure]
 · rw [Oper.semAt_plain F _ _ (by rw [hop]; intro c hc'; cases hc')]
   simp [execOp, hop, resolve, invoke, builtin, hs, hx, hrun, Result.andThen]
   exact hK' _ _ h
/-- Between two rounds. -/
def LS (w : World) (pre : List (List UInt8)) (W : World) : Prop := (∃ v a, HidL (lefP [] pre = some a ∧ a.length ≤ pre.length) ∧ Boxed W w.heap.size 69 v ∧ LRow W w.heap.size v (a.map bo)) ∧ Boxed W (w.heap.size + 1) 4 (.bool (dirP pre)) ∧ Boxed W (w.heap.size + 2) 4 (.bool false) ∧ Below w.heap.size w W
def LX (w : World) (pre : List (List UInt8)) (W : World) : Prop := HidL (lefP [] pre = none) ∧ Boxed W w.heap.size 69 (.slice none 0 0) ∧ Boxed W (w.heap.size + 1) 4 (.bool false) ∧ Boxed W (w.heap.size + 2) 4 (.bool false) ∧ Below w.heap.size w W

def LeftPost (w : World) (A : List (List UInt8)) (e : Ending) (W' : World) : Prop := (match lefP [] A with
 | some a => ∃ v, e = .returned (.tuple #[v, .bool (dirP A), .bool true]) ∧ GAt KS W' v (a.map bo)
 | none => e = .returned (.tuple #[.slice none 0 0, .bool false, .bool false])) ∧ Below w.heap.size w W'
theorem LeftPost.yes {w W' : World} {A a : List (List UInt8)} {v : Value} (h : lefP [] A = some a) (hg : GAt KS W' v (a.map bo)) (hb : Below w.heap.size w W') : LeftPost w A (.returned (.tuple #[v, .bool (dirP A), .bool true])) W' := by
 unfold LeftPost
 rw [h]
 exact ⟨⟨v, rfl, hg⟩, hb⟩
theorem LeftPost.no {w W' : World} {A : List (List UInt8)} (h : lefP [] A = none) (hb : Below w.heap.size w W') : LeftPost w A (.returned (.tuple #[.slice none 0 0, .bool false, .bool false])) W' := by
 unfold LeftPost
 rw [h]
 exact ⟨rfl, hb⟩
set_option maxRecDepth 100000 in
set_option maxHeartbeats 500000 in
theorem left_in (n : Nat) (hn : 3 ≤ n) (s : ByteArray) (hs : s.size ≤ 1000000) (w : World) :
   CallsIn Fence.wide n Tryz.prog 129 #[.string s] w (LeftPost w (splP s.data.toList)) := by
 have hall := splP_length s.data.toList
 rw [size_list] at hall
 obtain ⟨A, hA⟩ : ∃ A, splP s.data.toList = A := ⟨_, rfl⟩
 rw [hA] at hall ⊢
 have h1 : 1 ≤ n := by omega
 refine callsIn_of_wp_marks Tryz.func129 rfl trivial ?_ rfl
 simp only [Tryz.ntmps129, List.size_toArray, List.length_cons, List.length_nil, Nat.reduceAdd, Nat.reduceSub, Array.replicate_succ, Array.replicate_zero, List.push_toArray, List.append_toArray, List.nil_append, List.cons_append]
 gi_wp2_with (refine ⟨trivial, ?_⟩; gi_at_call 177; refine (segments_in _ _ _).mono ?_; rintro e w2 ⟨rfl, rfl⟩)
 obtain ⟨W0, hW0⟩ : ∃ W0, ((((w.alloc (.cells #[.slice none 0 0] 69)).alloc (.cells #[.bool false] 4)).alloc (.cells #[.bool false] 4)).alloc (.cells #[.string s] 9)) = W0 := ⟨_, rfl⟩
 have b0 : Boxed W0 w.heap.size 69 (.slice none 0 0) := by rw [← hW0]; exact (((Boxed.new w 69 (.slice none 0 0)).alloc _).alloc _).alloc _
 have b1 : Boxed W0 (w.heap.size + 1) 4 (.bool false) := by
   have h := Boxed.new (w.alloc (.cells #[.slice none 0 0] 69)) 4 (.bool false)
   rw [World.size_alloc] at h
   rw [← hW0]; exact (h.alloc _).alloc _
 have b2 : Boxed W0 (w.heap.size + 2) 4 (.bool false) := by
   have h := Boxed.new ((w.alloc (.cells #[.slice none 0 0] 69)).alloc (.cells #[.bool false] 4)) 4 (.bool false)
   rw [World.size_alloc, World.size_alloc] at h
   rw [← hW0]; exact h.alloc _
 have b3 : Boxed W0 (w.heap.size + 1 + 1 + 1) 9 (.string s) := by
   have h := Boxed.new (((w.alloc (.cells #[.slice none 0 0] 69)).alloc (.cells #[.bool false] 4)).alloc (.cells #[.bool false] 4)) 9 (.string s)
   rw [World.size_alloc, World.size_alloc, World.size_alloc] at h
   rw [← hW0]; exact h
 have hB0 : Below w.heap.size w W0 := by
   rw [← hW0]
   exact ((((Below.refl _ w).alloc (Nat.le_refl _) _).alloc (by simp) _).alloc (by simp; omega) _).alloc (by simp; omega) _
 have hsz0 : W0.heap.size = w.heap.size + 4 := by rw [← hW0]; simp
 rw [hW0]
 clear hW0
 have hst := segs_stops (n - 1) (by omega) (w.heap.size + 1 + 1 + 1) s hs W0 b3.lt b3.cell
 rw [hA] at hst
 have LSown : OwnFrom W0.heap.size (LS w) := by
   rintro pre X Y row ⟨⟨v, a, hh, bv, hL⟩, bd, bk, be⟩ hg hr
   have nb : ∀ {B t u}, Boxed X B t u → some B ≠ row := fun {B t u} hb e => by
     obtain ⟨_, o, ho, hc⟩ := hr B e.symm
     rw [show X.heap[B]? = _ from hb] at ho
     cases ho; cases hc
   exact ⟨⟨v, a, hh, bv.kept hg (nb bv), hL.far hg (fun r e => (hr r e).2)⟩, bd.kept hg (nb bd), bk.kept hg (nb bk), be.grown hg (by have := bv.lt; omega) (fun k e => by have := (hr k e).1; omega)⟩
 have LXown : OwnFrom W0.heap.size (LX w) := by
   rintro pre X Y row ⟨hh, bv, bd, bk, be⟩ hg hr
   have nb : ∀ {B t u}, Boxed X B t u → some B ≠ row := fun {B t u} hb e => by
     obtain ⟨_, o, ho, hc⟩ := hr B e.symm
     rw [show X.heap[B]? = _ from hb] at ho
     cases ho; cases hc
   exact ⟨hh, bv.kept hg (nb bv), bd.kept hg (nb bd), bk.kept hg (nb bk), be.grown hg (by have := bv.lt; omega) (fun k e => by have := (hr k e).1; omega)⟩
 refine wpIn_rangeFunc_ownF rfl h1 (gf := 208) (lb := #[.pointer (some ⟨w.heap.size + 1 + 1 + 1, 0, none⟩)]) rfl trivial (enters_of Tryz.func208 (by kernel_rfl) rfl)
   hst (fun _ _ => trivial) (fun _ _ _ _ _ _ _ _ => trivial) (Below.refl _ _) (fun _ => rfl)
   (LS w) (fun c pre W => c = .ret ∧ LX w pre W)
   LSown (fun c pre X Y row hs hg hr => ⟨hs.1, LXown pre X Y row hs.2 hg hr⟩)
   ⟨⟨.slice none 0 0, [], ⟨rfl, Nat.le_refl _⟩, b0, LRow.nil _ _⟩, b1, b2, hB0⟩
   (fun x => { tmps := #[.string s, undef, .pointer (some ⟨w.heap.size, 0, none⟩), .pointer (some ⟨w.heap.size + 1, 0, none⟩), .pointer (some ⟨w.heap.size + 1 + 1, 0, none⟩), .string (bo x), undef, .string s, .func (.func 208) #[] #[.pointer (some ⟨w.heap.size + 1 + 1 + 1, 0, none⟩)], .string (bo x), undef, undef, undef, undef, undef, undef, undef, undef, undef, undef, undef, undef, undef, undef, undef, undef, undef, undef, undef, undef, undef, undef, undef, undef, undef, undef, undef, undef, undef, undef, undef, undef, undef, undef, undef, undef, undef], defers := [] })
   ?assign ?body ?done ?stop
 case assign =>
   intro l x W K hK
   gi_wp2
   exact hK
 case body =>
   rintro l pre x W ⟨⟨v, a, hh, bv, hL⟩, bd, bk, be⟩ hlt
   have c0 := bv.cell
   have c1 := bd.cell
   have c2 := bk.cell
   have f0 := bv.frozen
   have f1 := bd.frozen
   have f2 := bk.frozen
   have hg : lefP [] (pre ++ [x]) = lefP a [x] := by rw [lefP_app, hh.out.1]; rfl
   have hdd : dirP (pre ++ [x]) = isDir x := by rw [dirP_app (by simp)]; rfl
   have hBs : some (w.heap.size + 1) ≠ v.ownBlock := fun e => by
     obtain ⟨_, _, cs, hc⟩ := hL.cells e.symm
     rw [show W.heap[w.heap.size + 1]? = _ from bd] at hc
     cases hc
   have hBv : some w.heap.size ≠ v.ownBlock := fun e => by
     obtain ⟨_, _, cs, hc⟩ := hL.cells e.symm
     rw [show W.heap[w.heap.size]? = _ from bv] at hc
     cases hc
   have hBk : some (w.heap.size + 2) ≠ v.ownBlock := fun e => by
     obtain ⟨_, _, cs, hc⟩ := hL.cells e.symm
     rw [show W.heap[w.heap.size + 2]? = _ from bk] at hc
     cases hc
   have hW := bk.lt
   -- behind the store of 'dir'
   have S : ∀ d : Bool, Boxed (W.setCell ⟨w.heap.size + 1, 0, none⟩ (.bool d)) w.heap.size 69 v ∧ LRow (W.setCell ⟨w.heap.size + 1, 0, none⟩ (.bool d)) w.heap.size v (a.map bo) ∧ Boxed (W.setCell ⟨w.heap.size + 1, 0, none⟩ (.bool d)) (w.heap.size + 1) 4 (.bool d) ∧ Boxed (W.setCell ⟨w.heap.size + 1, 0, none⟩ (.bool d)) (w.heap.size + 2) 4 (.bool false) ∧ Below w.heap.size w (W.setCell ⟨w.heap.size + 1, 0, none⟩ (.bool d)) := fun d =>
     ⟨bv.other (by omega) _, hL.kept (grownBy_setCell' W _ _) (fun r e h => by cases e; exact hBs h.symm), bd.set _, bk.other (by omega) _, be.setCell (p := ⟨w.heap.size + 1, 0, none⟩) (by show w.heap.size ≤ w.heap.size + 1; omega) _⟩
   by_cases hx0 : x = [] ∨ x = [46]
   · have ht : isDir x = true := decide_eq_true (by rcases hx0 with h | h; exact .inl h; exact .inr (.inl h))
     have hl : lefP a [x] = some a := by rw [lefP_skip hx0]; rfl
     rw [hl] at hg
     rw [ht] at hdd
     obtain ⟨s1, s2, s3, s4, s5⟩ := S true
     have HLS : HidL (LS w (pre ++ [x]) (W.setCell ⟨w.heap.size + 1, 0, none⟩ (.bool true))) := ⟨⟨v, a, ⟨hg, by have := hh.out.2; rw [List.length_append]; omega⟩, s1, s2⟩, by rw [hdd]; exact s3, s4, s5⟩
     have q0 := s1.cell
     have q1 := s3.cell
     have e3 : ((bo x).toList == [46, 46]) = false := by rw [bo_toList]; rcases hx0 with rfl | rfl <;> rfl
     rcases hx0 with h0 | h0
     · have e1 : (bo x).toList.isEmpty = true := by rw [bo_toList, h0]; rfl
       have e2 : ((bo x).toList == [46]) = false := by rw [bo_toList, h0]; rfl
       clear hg hdd hl ht h0 S
       -- <A
       gi_wp2
       exact ⟨KeepsOthers.setCell _ _ _, trivial, HLS.out⟩
       -- A>
     · have e1 : (bo x).toList.isEmpty = false := by rw [bo_toList, h0]; rfl
       have e2 : ((bo x).toList == [46]) = true := by rw [bo_toList, h0]; rfl
       clear hg hdd hl ht h0 S
       -- <B
       gi_wp2
       exact ⟨KeepsOthers.setCell _ _ _, trivial, HLS.out⟩
       -- B>
   have hx0a : x ≠ [] := fun h => hx0 (.inl h)
   have hx0b : x ≠ [46] := fun h => hx0 (.inr h)
   have e1 : (bo x).toList.isEmpty = false := by rw [bo_toList]; cases x with | nil => exact absurd rfl hx0a | cons _ _ => rfl
   have e2 : ((bo x).toList == [46]) = false := by rw [bo_toList]; exact beq_eq_false_iff_ne.2 hx0b
   by_cases hx2 : x = [46, 46]
   · have e3 : ((bo x).toList == [46, 46]) = true := by rw [bo_toList, hx2]; rfl
     have ht : isDir x = true := decide_eq_true (.inr (.inr hx2))
     rw [ht] at hdd
     obtain ⟨s1, s2, s3, s4, s5⟩ := S true
     by_cases ha : a = []
     · subst ha
       have hn : lefP [] (pre ++ [x]) = none := by rw [hg, hx2, lefP_out]
       obtain ⟨ao, cap, hv⟩ := hL.len
       subst hv
       have q0 := s1.cell
       have q1 := s3.cell
       have q2 := s4.cell
       have t1 := s1.set (.slice none 0 0)
       have t2 := s3.other (B' := w.heap.size) (by omega) (.slice none 0 0)
       have t3 := s4.other (B' := w.heap.size) (by omega) (.slice none 0 0)
       have t4 := s5.setCell (p := ⟨w.heap.size, 0, none⟩) (Nat.le_refl _) (.slice none 0 0)
       have HLX : HidL (LX w (pre ++ [x]) (((((W.setCell ⟨w.heap.size + 1, 0, none⟩ (.bool true)).setCell ⟨w.heap.size, 0, none⟩ (.slice none 0 0)).setCell ⟨w.heap.size + 1, 0, none⟩ (.bool false))).setCell ⟨w.heap.size + 1 + 1, 0, none⟩ (.bool false))) :=
         ⟨⟨hn⟩, (t1.other (by omega) _).other (by omega) _, (t2.set _).other (by omega) _, (t3.other (by omega) _).set _, (t4.setCell (p := ⟨w.heap.size + 1, 0, none⟩) (by show w.heap.size ≤ w.heap.size + 1; omega) _).setCell (p := ⟨w.heap.size + 1 + 1, 0, none⟩) (by show w.heap.size ≤ w.heap.size + 1 + 1; omega) _⟩
       clear hg hdd hn ht hx2 S t1 t2 t3 t4
       -- <C
       gi_wp2
       exact ⟨(((KeepsOthers.setCell _ _ _).trans (KeepsOthers.setCell _ _ _)).trans (KeepsOthers.setCell _ _ _)).trans (KeepsOthers.setCell _ _ _), rfl, HLX.out⟩
       -- C>
     · have hl : lefP a [x] = some a.dropLast := by rw [hx2, lefP_up _ _ ha]; rfl
       rw [hl] at hg
       obtain ⟨g, m, c, rfl, hm, hc, hL2⟩ := s2.cut (by simpa using ha)
       have hma : m + 1 = a.length := by rw [hm, List.length_map]
       have q0 := s1.cell
       have q1 := s3.cell
       have hrun := fun W : World => run_cut3 (some ⟨g, 0, none⟩) (m + 1) c m (by omega) W
       have t1 := s1.set (.slice (some ⟨g, 0, none⟩) m m)
       have t2 := s3.other (B' := w.heap.size) (by omega) (.slice (some ⟨g, 0, none⟩) m m)
       have t3 := s4.other (B' := w.heap.size) (by omega) (.slice (some ⟨g, 0, none⟩) m m)
       have t4 := s5.setCell (p := ⟨w.heap.size, 0, none⟩) (Nat.le_refl _) (.slice (some ⟨g, 0, none⟩) m m)
       have hL3 := hL2.kept (grownBy_setCell' _ w.heap.size (.slice (some ⟨g, 0, none⟩) m m)) (fun r e h => by cases e; exact hBv h.symm)
       rw [← List.map_dropLast] at hL3
       have HLS : HidL (LS w (pre ++ [x]) ((W.setCell ⟨w.heap.size + 1, 0, none⟩ (.bool true)).setCell ⟨w.heap.size, 0, none⟩ (.slice (some ⟨g, 0, none⟩) m m))) := ⟨⟨_, a.dropLast, ⟨hg, by have := hh.out.2; rw [List.length_append, List.length_dropLast]; omega⟩, t1, hL3⟩, by rw [hdd]; exact t2, t3, t4⟩
       have hm1 := succ_one m
       have hw64 : wrap64 (m : Int) = (m : Int) := wrap64_small m (by have := hh.out.2; omega)
       have hm0 := succ_nz m
       have q2 := s1.frozen
       clear hg hdd hl ht hx2 S t1 t2 t3 t4 hL3 hL2 s2 hL hm ha hh hma
       -- <D
       gi_wp2
       exact ⟨(KeepsOthers.setCell _ _ _).trans (KeepsOthers.setCell _ _ _), trivial, HLS.out⟩
       -- D>
   · have e3 : ((bo x).toList == [46, 46]) = false := by rw [bo_toList]; exact beq_eq_false_iff_ne.2 hx2
     have ht : isDir x = false := decide_eq_false (by rintro (h | h | h); exact hx0a h; exact hx0b h; exact hx2 h)
     have hl : lefP a [x] = some (a ++ [x]) := by rw [lefP_put hx0a hx0b hx2]; rfl
     rw [hl] at hg
     rw [ht] at hdd
     obtain ⟨s1, s2, s3, s4, s5⟩ := S false
     have q0 := s1.cell
     have q1 := s3.cell
     obtain ⟨v', w1, hrun, hL2, hgr⟩ := s2.push (bo x) (by have := hh.out.2; rw [List.length_map]; omega) s5.size
     have hsz : (W.setCell ⟨w.heap.size + 1, 0, none⟩ (.bool false)).heap.size = W.heap.size := by simp
     rw [hsz] at hrun
     have u1 := s1.kept hgr hBv
     have u2 := s3.kept hgr hBs
     have u3 := s4.kept hgr hBk
     have u4 := s5.grown hgr s5.size (fun k e => (hL.cells e).1)
     have hKO : KeepsOthers (W.setCell ⟨w.heap.size + 1, 0, none⟩ (.bool false)) w1 := KeepsOthers.of_grownBy hgr (fun j o e ho => by
       obtain ⟨_, _, cs, hc⟩ := s2.cells e
       rw [hc] at ho
       cases ho
       rfl)
     have hne : ∀ k, v'.ownBlock = some k → k ≠ w.heap.size := fun k hk e => by
       obtain ⟨_, _, cs, hc⟩ := hL2.cells hk
       rw [e, show w1.heap[w.heap.size]? = _ from u1] at hc
       cases hc
     have hL3 := hL2.kept (grownBy_setCell' w1 w.heap.size v') (fun r e h => by cases e; exact hne _ h rfl)
     rw [← show (a ++ [x]).map bo = a.map bo ++ [bo x] by simp] at hL3
     have HLS : HidL (LS w (pre ++ [x]) (w1.setCell ⟨w.heap.size, 0, none⟩ v')) := ⟨⟨v', a ++ [x], ⟨hg, by have := hh.out.2; rw [List.length_append, List.length_append]; simp; omega⟩, u1.set _, hL3⟩, by rw [hdd]; exact u2.other (by omega) _, u3.other (by omega) _, u4.setCell (p := ⟨w.heap.size, 0, none⟩) (Nat.le_refl _) _⟩
     have HKO := hideL ((KeepsOthers.setCell W ⟨w.heap.size + 1, 0, none⟩ (.bool false)).trans hKO)
     have r0 := u1.cell
     have r1 := u1.frozen
     have HRUN := hideL hrun
     obtain ⟨ao', cap', hv'⟩ := hL2.len
     rw [show (a.map bo ++ [bo x]).length = a.length + 1 by simp] at hv'
     clear hg hdd hl ht S hL3 hL2 s2 hh u1 u2 u3 u4 hgr hne hKO hrun
     subst hv'
     -- <E
     gi_wp2_with (gi_at_builtin; refine wpListIn_append_runL rfl (.tmp 23) (.tmp 25) 69 rfl rfl v (.slice (some ⟨W.heap.size, 0, none⟩) 1 1) (.slice ao' (a.length + 1) cap') w1 rfl rfl HRUN.out ?_)
     exact ⟨HKO.out.trans (KeepsOthers.setCell _ _ _), trivial, HLS.out⟩
     -- E>
 case done =>
   rintro D ys W hD hys ⟨⟨v, a, hh, bv, hL⟩, bd, bk, be⟩ hK
   subst hys
   have c0 := bv.cell
   have c1 := bd.cell
   have c2 := bk.cell
   have f0 := bv.frozen
   have f1 := bd.frozen
   have f2 := bk.frozen
   obtain ⟨ao, cap, hv⟩ := hL.len
   rw [List.length_map] at hv
   subst hv
   have HK := hideL hK
   have HH := hideL hh.out.1
   have R : ∀ W', W' = (((W.setCell ⟨w.heap.size, 0, none⟩ (.slice ao a.length cap)).setCell ⟨w.heap.size + 1, 0, none⟩ (.bool (dirP ys))).setCell ⟨w.heap.size + 1 + 1, 0, none⟩ (.bool true)).drew →
       W'.heap[D]? = some (.deferred (some [])) ∧ Boxed (W'.putObj D (.deferred none)) w.heap.size 69 (.slice ao a.length cap) ∧ Boxed (W'.putObj D (.deferred none)) (w.heap.size + 1) 4 (.bool (dirP ys)) ∧ Boxed (W'.putObj D (.deferred none)) (w.heap.size + 1 + 1) 4 (.bool true) ∧ GAt KS (W'.putObj D (.deferred none)) (.slice ao a.length cap) (a.map bo) ∧ Below w.heap.size w (W'.putObj D (.deferred none)) := by
     rintro W' rfl
     have hBs : some (w.heap.size + 1) ≠ (Value.slice ao a.length cap).ownBlock := fun e => by
       obtain ⟨_, _, cs, hc⟩ := hL.cells e.symm
       rw [show W.heap[w.heap.size + 1]? = _ from bd] at hc
       cases hc
     have hBv : some w.heap.size ≠ (Value.slice ao a.length cap).ownBlock := fun e => by
       obtain ⟨_, _, cs, hc⟩ := hL.cells e.symm
       rw [show W.heap[w.heap.size]? = _ from bv] at hc
       cases hc
     have hBk : some (w.heap.size + 1 + 1) ≠ (Value.slice ao a.length cap).ownBlock := fun e => by
       obtain ⟨_, _, cs, hc⟩ := hL.cells e.symm
       rw [show W.heap[w.heap.size + 1 + 1]? = _ from bk] at hc
       cases hc
     have a1 := ((bv.set (.slice ao a.length cap)).other (B' := w.heap.size + 1) (by omega) (.bool (dirP ys))).other (B' := w.heap.size + 1 + 1) (by omega) (.bool true)
     have a2 := ((bd.other (B' := w.heap.size) (by omega) (.slice ao a.length cap)).set (.bool (dirP ys))).other (B' := w.heap.size + 1 + 1) (by omega) (.bool true)
     have a3 := ((bk.other (B' := w.heap.size) (by omega) (.slice ao a.length cap)).other (B' := w.heap.size + 1) (by omega) (.bool (dirP ys))).set (.bool true)
     have a4 := ((hL.kept (grownBy_setCell' _ w.heap.size (.slice ao a.length cap)) (fun r e h => by cases e; exact hBv h.symm)).kept (grownBy_setCell' _ (w.heap.size + 1) (.bool (dirP ys))) (fun r e h => by cases e; exact hBs h.symm)).kept (grownBy_setCell' _ (w.heap.size + 1 + 1) (.bool true)) (fun r e h => by cases e; exact hBk h.symm)
     have a5 := ((be.setCell (p := ⟨w.heap.size, 0, none⟩) (Nat.le_refl _) (.slice ao a.length cap)).setCell (p := ⟨w.heap.size + 1, 0, none⟩) (by show w.heap.size ≤ w.heap.size + 1; omega) (.bool (dirP ys))).setCell (p := ⟨w.heap.size + 1 + 1, 0, none⟩) (by show w.heap.size ≤ w.heap.size + 1 + 1; omega) (.bool true)
     have k1 := (((KeepsOthers.setCell W ⟨w.heap.size, 0, none⟩ (.slice ao a.length cap)).trans (KeepsOthers.setCell _ ⟨w.heap.size + 1, 0, none⟩ (.bool (dirP ys)))).trans (KeepsOthers.setCell _ ⟨w.heap.size + 1 + 1, 0, none⟩ (.bool true))).same D _ HK.out rfl
     obtain ⟨X, hX⟩ : ∃ X, ((W.setCell ⟨w.heap.size, 0, none⟩ (.slice ao a.length cap)).setCell ⟨w.heap.size + 1, 0, none⟩ (.bool (dirP ys))).setCell ⟨w.heap.size + 1 + 1, 0, none⟩ (.bool true) = X := ⟨_, rfl⟩
     rw [hX] at a1 a2 a3 a4 a5 k1 ⊢
     have k2 : X.drew.heap[D]? = some (.deferred (some [])) := k1
     have hg := grownBy_putObj' X.drew D (.deferred none)
     have nb : ∀ {B t u}, Boxed X.drew B t u → some B ≠ some D := fun {B t u} hb e => by
       cases e
       rw [show X.drew.heap[D]? = _ from hb] at k2
       cases k2
     have a1 : Boxed X.drew _ _ _ := a1
     have a2 : Boxed X.drew _ _ _ := a2
     have a3 : Boxed X.drew _ _ _ := a3
     have a4 : LRow X.drew _ _ _ := a4.kept (grownBy_drewN X 1) (fun r e => by cases e)
     exact ⟨k2, a1.kept hg (nb a1), a2.kept hg (nb a2), a3.kept hg (nb a3), (a4.far hg (fun r e => by cases e; exact ⟨_, k2, rfl⟩)).gAt, a5.drew.trans (belowK_b (w := w) (Nat.le_refl _) X.drew D _ _ (by omega) k2 rfl rfl)⟩
   clear hK hh hL
   gi_wp2_with gi_region
   obtain ⟨k, r1, r2, r3, r4, r5⟩ := R _ rfl
   refine ⟨by simp, .inl ⟨_, _, rfl, run_takeDeferred k, ?_⟩⟩
   exact ⟨_, results_cells3 rfl _ _ rfl rfl rfl (load_l r1) (load_t r2) (load_t r3), LeftPost.yes HH.out r4 r5⟩
 case stop =>
   rintro D c pre W hD hpre ⟨rfl, hh, bv, bd, bk, be⟩ hK
   have hn : lefP [] A = none := by
     obtain ⟨q, hq⟩ := hpre
     rw [← hq, lefP_app, hh.out]
     rfl
   have hg := grownBy_putObj' W D (.deferred none)
   have nb : ∀ {B t u}, Boxed W B t u → some B ≠ some D := fun {B t u} hb e => by
     cases e
     rw [show W.heap[D]? = _ from hb] at hK
     cases hK
   have r1 := bv.kept hg (nb bv)
   have r2 := bd.kept hg (nb bd)
   have r3 := bk.kept hg (nb bk)
   have r5 := be.trans (belowK_b (w := w) (Nat.le_refl _) W D _ (.deferred none) (by omega) hK rfl rfl)
   have HN := hideL hn
   clear hn hpre hh
   gi_wp2
   refine ⟨by simp, .inl ⟨_, _, rfl, run_takeDeferred hK, ?_⟩⟩
   exact ⟨_, results_cells3 rfl _ _ rfl rfl rfl (load_l r1) (load_t r2) (load_t r3), LeftPost.no HN.out r5⟩
end Go.Proofs.YtafmgoekgijfgaaGreatDoor
