/- A body by chunks: appendChunks. A first line that is written: mayStart; the message that a request is: message. frame: how a body's end is told, and whether the body is as told. A message's bytes: Write. -/
import Derived.Test.YtafmgoekgijfgaaGreatDoorBRqBrow
import Derived.Test.YtafmgoekgijfgaaGreatDoorBRqM6
import Derived.Test.YtafmgoekgijfgaaGreatDoorBRqM1
import Derived.Test.YtafmgoekgijfgaaGreatDoorBRqM3
import Derived.Test.YtafmgoekgijfgaaGreatDoorBRqOwn
import Derived.Test.YtafmgoekgijfgaaGreatDoorBRqM5
import Derived.StillTailTactics
namespace Go.Proofs.YtafmgoekgijfgaaGreatDoor
open Go.RowKit Go.Lib

def chkS (body : List UInt8) : List UInt8 := (if body = [] then [] else hexS body.length ++ 13 :: 10 :: (body ++ [13, 10])) ++ [48, 13, 10, 13, 10]
set_option maxRecDepth 100000 in
set_option maxHeartbeats 1000000 in
theorem appendChunks_any (B : Nat) (v : Value) (l : List UInt8) (ba : Option Addr) (bn bc : Nat) (body : List UInt8) (W : World) (hr : BRow W B v l) (hb : GAt KB W (.slice ba bn bc) body) (w0 : World) (h0b : GAt KB w0 (.slice ba bn bc) body) (hlt : w0.heap.size ≤ B) (hB : B ≤ W.heap.size)
   (hl : l.length ≤ 200000) (hbl : body.length ≤ 1024) (hT : EnvT W) : Calls Tryz.prog 54 #[v, .slice ba bn bc] W (fun e w' => ∃ r : Sl, e = .returned r.v ∧ BRow w' B r.v (l ++ chkS body) ∧ Below B W w') := by
 have hbn := hb.le.1
 unfold chkS
 by_cases h0 : body = []
 · rw [if_pos h0]
   have i0 : ¬ (0 : Int) < (bn : Int) := by rw [hbn, h0]; simp
   obtain ⟨v1, w1, hrun1, hr1, hb1⟩ := bpush_str W B v l hr ⟨#[48, 13, 10, 13, 10]⟩ (by rw [show (⟨#[48, 13, 10, 13, 10]⟩ : ByteArray).size = 5 from rfl]; omega) hB
   obtain ⟨r1, rfl⟩ := hr1.slv
   have HRUN1 := hideL hrun1
   have HR1 := hideL hr1
   have HB1 := hideL hb1
   clear hr hb h0b hlt hB hl hbl hT hbn h0 hrun1 hr1 hb1
   go_enter Tryz.func54, Tryz.ntmps54
   go_wp2_with (at_builtin; refine wpList_append_runP rfl (.tmp 19) (.const (.string ⟨#[48, 13, 10, 13, 10]⟩)) 22 9 22 rfl rfl _ _ r1.v w1 rfl rfl HRUN1.out ?_)
   go_ret
   exact ⟨r1, rfl, HR1.out, HB1.out⟩
 · rw [if_neg h0]
   obtain ⟨n, hn⟩ : ∃ n, body.length = n := ⟨_, rfl⟩
   have hp : 0 < body.length := List.length_pos_iff.2 h0
   rw [hn] at hbn hbl hp ⊢
   subst hbn
   have i0 : (0 : Int) < (bn : Int) := by omega
   have hx := (hexS_size hbl).2.2
   have hsz : (bo (hexS bn)).size = (hexS bn).length := bo_size _
   have n1 : ¬ 9223372036854775807 < (bo (hexS bn)).size + 2 := by omega
   have LF := hideL (formatInt_any bn hbl W hT)
   have hs2 : (bo (hexS bn) ++ (⟨#[13, 10]⟩ : ByteArray)).size = (hexS bn).length + 2 := by rw [ByteArray.size_append, hsz]; rfl
   have hl2 : (bo (hexS bn) ++ (⟨#[13, 10]⟩ : ByteArray)).data.toList = hexS bn ++ [13, 10] := by
     rw [ByteArray.data_append, Array.toList_append, bo_list]
   have LZ : HidL (∀ w2 : World, Below W.heap.size W w2 → ∃ (v1 v2 v3 v4 : Value) (w3 w4 w5 w6 : World),
       (Builtin.append_ #[22, 9] 22 #[v, .string (bo (hexS bn) ++ (⟨#[13, 10]⟩ : ByteArray))]).run Tryz.prog w2 = .ok v1 w3 ∧
       (Builtin.append_ #[22, 22] 22 #[v1, .slice ba bn bc]).run Tryz.prog w3 = .ok v2 w4 ∧
       (Builtin.append_ #[22, 9] 22 #[v2, .string ⟨#[13, 10]⟩]).run Tryz.prog w4 = .ok v3 w5 ∧
       (Builtin.append_ #[22, 9] 22 #[v3, .string ⟨#[48, 13, 10, 13, 10]⟩]).run Tryz.prog w5 = .ok v4 w6 ∧
       BRow w6 B v4 (l ++ (hexS bn ++ 13 :: 10 :: (body ++ [13, 10]) ++ [48, 13, 10, 13, 10])) ∧ Below B W w6) := ⟨fun w2 h2 => by
     have z2 := h2.size
     obtain ⟨v1, w3, q1, r1, b1⟩ := bpush_str w2 B v l (hr.below h2) (bo (hexS bn) ++ (⟨#[13, 10]⟩ : ByteArray)) (by rw [hs2]; omega) (by omega)
     have z3 := b1.size
     obtain ⟨v2, w4, q2, r2, b2⟩ := bpush w3 B v1 _ r1 (.slice ba bn bc) body (h0b.belowW (hb.below h2) b1 hlt) (by rw [List.length_append, hl2]; simp; omega) (by omega)
     have z4 := b2.size
     obtain ⟨v3, w5, q3, r3, b3⟩ := bpush_str w4 B v2 _ r2 ⟨#[13, 10]⟩ (by rw [show (⟨#[13, 10]⟩ : ByteArray).size = 2 from rfl, List.length_append, List.length_append, hl2]; simp; omega) (by omega)
     have z5 := b3.size
     obtain ⟨v4, w6, q4, r4, b4⟩ := bpush_str w5 B v3 _ r3 ⟨#[48, 13, 10, 13, 10]⟩ (by rw [show (⟨#[48, 13, 10, 13, 10]⟩ : ByteArray).size = 5 from rfl, List.length_append, List.length_append, List.length_append, hl2]; simp; omega) (by omega)
     refine ⟨v1, v2, v3, v4, w3, w4, w5, w6, q1, q2, q3, q4, ?_, ((((h2.mono hB).trans b1).trans b2).trans b3).trans b4⟩
     rw [hl2] at r4
     rw [show l ++ (hexS bn ++ 13 :: 10 :: (body ++ [13, 10]) ++ [48, 13, 10, 13, 10]) = l ++ (hexS bn ++ [13, 10]) ++ body ++ [13, 10] ++ [48, 13, 10, 13, 10] by simp]
     exact r4⟩
   clear hr hb h0b hlt hB hl hbl hT h0 hx hsz hs2 hl2 hn hp
   go_enter Tryz.func54, Tryz.ntmps54
   go_wp2_with (first
     | (go_at_call 91; refine LF.out.mono ?_; rintro e w2 ⟨rfl, hB2⟩
        obtain ⟨v1, v2, v3, v4, w3, w4, w5, w6, q1, q2, q3, q4, hr6, hb6⟩ := LZ.out w2 hB2
        have Q1 := hideL q1
        have Q2 := hideL q2
        have Q3 := hideL q3
        have Q4 := hideL q4
        have HR6 := hideL hr6
        have HB6 := hideL hb6
        clear q1 q2 q3 q4 hr6 hb6 hB2)
     | (at_builtin; refine wpList_append_runP rfl (.tmp 8) (.tmp 12) 22 9 22 rfl rfl _ _ v1 w3 rfl rfl Q1.out ?_)
     | (at_builtin; refine wpList_append_runP rfl (.tmp 14) (.tmp 15) 22 22 22 rfl rfl _ _ v2 w4 rfl rfl Q2.out ?_)
     | (at_builtin; refine wpList_append_runP rfl (.tmp 17) (.const (.string ⟨#[13, 10]⟩)) 22 9 22 rfl rfl _ _ v3 w5 rfl rfl Q3.out ?_)
     | (at_builtin; refine wpList_append_runP rfl (.tmp 19) (.const (.string ⟨#[48, 13, 10, 13, 10]⟩)) 22 9 22 rfl rfl _ _ v4 w6 rfl rfl Q4.out ?_))
   obtain ⟨r6, hr6⟩ := HR6.out.slv
   subst hr6
   go_ret
   exact ⟨r6, rfl, HR6.out, HB6.out⟩
end Go.Proofs.YtafmgoekgijfgaaGreatDoor
namespace Go.Proofs.YtafmgoekgijfgaaGreatDoor
open Go.RowKit Go.Lib

/-- May it be a first line that is written? -/
def staB (l : List UInt8) : Bool := decide (1 ≤ l.length ∧ l.length ≤ 578) && l.all priB
set_option maxRecDepth 100000 in
set_option maxHeartbeats 1000000 in
theorem mayStart_any (s : ByteArray) (hs : s.size ≤ 1000000) (w : World) : Calls Tryz.prog 52 #[.string s] w (fun e w' => e = .returned (.bool (staB s.data.toList)) ∧ Below w.heap.size w w') := by
 have hlen := size_list s
 by_cases h0 : s = ⟨#[]⟩
 · subst h0
   go_enter Tryz.func52, Tryz.ntmps52
   go_wp2_with fail
   go_ret
   exact ⟨rfl, Below.refl _ _⟩
 have hpos : 1 ≤ s.size := by
   rcases Nat.eq_zero_or_pos s.size with h | h
   · exact absurd (bytes_ext (show s.data.toList = [] from List.eq_nil_of_length_eq_zero (by omega))) h0
   · exact h
 have hne : s.toList.isEmpty = false := by
   rw [List.isEmpty_eq_false_iff, ByteArray.toList_eq]
   intro e
   rw [e] at hlen
   simp at hlen
   omega
 by_cases h2 : 578 < s.size
 · have hR : staB s.data.toList = false := by
     unfold staB
     rw [decide_eq_false (by omega), Bool.false_and]
   rw [hR]
   have h2' : (578 : Int) < (s.size : Int) := by omega
   clear hR hlen h0
   go_enter Tryz.func52, Tryz.ntmps52
   go_wp2_with fail
   go_ret
   exact ⟨rfl, Below.refl _ _⟩
 have h2' : ¬ (578 : Int) < (s.size : Int) := by omega
 obtain ⟨V, hV⟩ : ∃ V, s.data.toList.all priB = V := ⟨_, rfl⟩
 have hR : staB s.data.toList = V := by
   unfold staB
   rw [decide_eq_true (by omega), Bool.true_and, hV]
 rw [hR]
 have HV : HidL ((s.data.toList.drop 0).all priB = V) := ⟨hV⟩
 have HL := hideL hlen
 obtain ⟨n, hn⟩ : ∃ n, s.size = n := ⟨_, rfl⟩
 have HN := hideL hn
 clear hR hV hlen h2 hn h0 hpos
 go_enter Tryz.func52, Tryz.ntmps52
 go_wp2_with fail
 go_loopw [13] (fun i wr => ∃ k : Nat, k ≤ n ∧ i = .int .i64 k ∧ wr = w ∧ HidL ((s.data.toList.drop k).all priB = V)) (fun i _ => n - (RowKit.intOf i).toNat)
 case atStart => exact ⟨0, Nat.zero_le _, rfl, rfl, HV⟩
 case round =>
   obtain ⟨k, hk, rfl, rfl, HD⟩ := hrel
   clear HV
   by_cases hlt : k < n
   · have hks : k < s.size := by rw [HN.out]; exact hlt
     have hlt' : (k : Int) < (s.size : Int) := by omega
     have hD := HD.out
     rw [byte_at s k hks, List.all_cons] at hD
     obtain ⟨c, hc⟩ : ∃ c, s[k] = c := ⟨_, rfl⟩
     rw [hc] at hD
     by_cases hp : priB c = true
     · have hp2 := hp
       unfold priB at hp2
       rw [decide_eq_true_eq] at hp2
       have b1 : ¬ ((c.toNat : Int) < 32) := by omega
       have b2 : ¬ ((126 : Int) < (c.toNat : Int)) := by omega
       rw [hp, Bool.true_and] at hD
       have HD2 := hideL hD
       clear hp hp2 hD
       go_wp2_with fail
       go_roundw
       case rel => exact ⟨k + 1, by omega, by go_num, trivial, HD2⟩
       case measure => simp [RowKit.intOf]; omega
     · have hp1 : priB c = false := by simpa using hp
       rw [hp1, Bool.false_and] at hD
       subst hD
       have hp2 := hp
       unfold priB at hp2
       rw [decide_eq_true_eq] at hp2
       by_cases hc1 : c.toNat < 32
       · have b1 : ((c.toNat : Int) < 32) := by omega
         clear hp hp1 hp2
         go_wp2_with fail
         go_ret
         exact ⟨rfl, Below.refl _ _⟩
       · have b1 : ¬ ((c.toNat : Int) < 32) := by omega
         have b2 : ((126 : Int) < (c.toNat : Int)) := by omega
         clear hp hp1 hp2
         go_wp2_with fail
         go_ret
         exact ⟨rfl, Below.refl _ _⟩
   · obtain rfl : k = n := by omega
     have hlt' : ¬ (k : Int) < (s.size : Int) := by have := HN.out; omega
     have hD := HD.out
     rw [List.drop_of_length_le (by have := HN.out; have := HL.out; omega)] at hD
     have hV : V = true := hD.symm
     subst hV
     clear hD
     go_wp2_with fail
     go_ret
     exact ⟨rfl, Below.refl _ _⟩
end Go.Proofs.YtafmgoekgijfgaaGreatDoor
namespace Go.Proofs.YtafmgoekgijfgaaGreatDoor
open Go.RowKit Go.Lib

abbrev bdO (a b c : Int) : Obj := .cells #[.int .i64 a, .int .i64 b, .int .i64 c] 79
def FrPost (w : World) (x : Rw) (e : Ending) (w' : World) : Prop := (∃ a b c : Nat, e = .returned (.tuple #[.agg #[.int .i64 a, .int .i64 b, .int .i64 c], .bool (fitP x.heads x.body)]) ∧ (fitP x.heads x.body = true → framP x.heads = (0, ⟨a, b, c⟩))) ∧ Below w.heap.size w w'
set_option maxRecDepth 100000 in
set_option maxHeartbeats 2000000 in
theorem frame_any (s : ByteArray) (ha : Option Addr) (hn hc : Nat) (ba : Option Addr) (bn bc : Nat) (x : Rw) (w : World) (hr : RawAt w ⟨s, ⟨ha, hn, hc⟩, ⟨ba, bn, bc⟩⟩ x) (hf : Fits x.heads) (hl : x.heads.length ≤ 1000) (hE : Env w) : Calls Tryz.prog 51 #[.agg #[.string s, .slice ha hn hc, .slice ba bn bc]] w (FrPost w x) := by
 obtain ⟨_, gh, gb⟩ := hr
 simp only [Sl.v] at gh gb
 have hbn := gb.le.1
 have b1 := (Below.refl w.heap.size w).alloc (Nat.le_refl _) (rawC s (.slice ha hn hc) (.slice ba bn bc))
 have q1 : QBox (w.alloc (rawC s (.slice ha hn hc) (.slice ba bn bc))) w.heap.size s (.slice ha hn hc) (.slice ba bn bc) := heap_alloc_new w _
 obtain ⟨W1, hW1⟩ : ∃ W, W = w.alloc (rawC s (.slice ha hn hc) (.slice ba bn bc)) := ⟨_, rfl⟩
 have hz : W1.heap.size = w.heap.size + 1 := by rw [hW1, World.size_alloc]
 rw [← hW1] at b1 q1
 have b2 := (Below.refl W1.heap.size W1).alloc (Nat.le_refl _) (bdO 0 0 0)
 have y2 : BBox (W1.alloc (bdO 0 0 0)) W1.heap.size 0 0 0 := BBox.new W1 0 0 0
 have q2 := q1.next b2
 have b12 := b1.trans (b2.mono b1.size)
 rw [hz] at y2
 rw [hW1] at q2 y2 b12
 have LF := framing_any (.slice ha hn hc) x.heads ((w.alloc (rawC s (.slice ha hn hc) (.slice ba bn bc))).alloc (bdO 0 0 0)) (gh.below b12) hf hl (hE.next b12)
 have LM := hideL (fun (W : World) (hb : Below w.heap.size w W) => mayH_any (.slice ha hn hc) x.heads W (gh.below hb) hf (by omega))
 obtain ⟨⟨k, ⟨fc, fh, fl⟩⟩, hfr⟩ : ∃ r, framP x.heads = r := ⟨_, rfl⟩
 rw [hfr] at LF
 unfold frA bdV at LF
 simp only at LF
 have LF := hideL LF
 have HQ := hideL q2
 have HY := hideL y2
 have HB := hideL b12
 have r1 := q2.c1
 obtain ⟨M, hM⟩ : ∃ b, mayH x.heads = b := ⟨_, rfl⟩
 rw [hM] at LM
 have hfit : fitP x.heads x.body = (decide (k = 0) && M && decide (x.body.length ≤ 1024) && (decide (fc = 1) || decide (x.body.length = fl))) := by
   unfold fitP
   rw [hfr, hM]
 have hle : k = 0 → fl ≤ 1024 := fun e => framP_le (by rw [hfr, e])
 unfold FrPost
 rw [hfit, ← hbn, hfr]
 simp only [rawC, bdO] at r1
 clear hW1 hz b1 q1 b2 y2 q2 b12 gh gb hf hl hE hM hfr hfit hbn
 by_cases hk : k = 0
 rotate_left
 · have ik : ((k : Int) != 0) = true := by rw [bne_iff_ne]; omega
   rw [decide_eq_false hk, Bool.false_and, Bool.false_and, Bool.false_and]
   clear hle hk
   go_enter Tryz.func51, Tryz.ntmps51
   go_wp2_with (go_at_call 88; refine LF.out.mono ?_; rintro e w3 ⟨rfl, hB⟩; have hz2 := (Below.refl w3.heap.size w3).alloc (Nat.le_refl _) (bdO fc fh fl); have hz := hB.trans (hz2.mono hB.size); have HE3 := hideL (BBox.new w3 fc fh fl); have HQ3 := hideL (HQ.out.next hz); have HY3 := hideL (HY.out.next hz); have HB3 := hideL (HB.out.trans (hz.mono HB.out.size)); have r1 := HQ3.out.c1; have y0 := HY3.out.c0; have y1 := HY3.out.c1; have y2 := HY3.out.c2; have z0 := HY3.out.frozen 0; have z1 := HY3.out.frozen 1; have z2 := HY3.out.frozen 2; have hne : ¬ w3.heap.size = w.heap.size + 1 := (by have h1 := HY.out.lt; have h2 := hB.size; omega); have hne2 : ¬ w.heap.size + 1 = w3.heap.size := (by have h1 := HY.out.lt; have h2 := hB.size; omega); clear hB hz hz2)
   have hst := HY3.out.st 0 0 0
   have hkb : Below w.heap.size w ((((w3.alloc (bdO fc fh fl)).setCell ⟨w.heap.size + 1, 0, none⟩ (.int .i64 0)).setCell ⟨w.heap.size + 1, 1, none⟩ (.int .i64 0)).setCell ⟨w.heap.size + 1, 2, none⟩ (.int .i64 0)) := ((HB3.out.setCell (p := ⟨w.heap.size + 1, 0, none⟩) (Nat.le_succ _) _).setCell (p := ⟨w.heap.size + 1, 1, none⟩) (Nat.le_succ _) _).setCell (p := ⟨w.heap.size + 1, 2, none⟩) (Nat.le_succ _) _
   have r0 := hst.c0
   have r1 := hst.c1
   have r2 := hst.c2
   exact bodyPost_ret (v := .tuple #[.agg #[.int .i64 0, .int .i64 0, .int .i64 0], .bool false]) (by simp [results, Tryz.results51, go_sem, r0, r1, r2]) rfl ⟨⟨0, 0, 0, rfl, fun h => by cases h⟩, hkb⟩
 · have ik : ((k : Int) != 0) = false := by rw [hk]; rfl
   cases M with
   | false =>
     rw [Bool.and_false, Bool.false_and, Bool.false_and]
     clear hle hk
     go_enter Tryz.func51, Tryz.ntmps51
     go_wp2_with (first
       | (go_at_call 88; refine LF.out.mono ?_; rintro e w3 ⟨rfl, hB⟩; have hz2 := (Below.refl w3.heap.size w3).alloc (Nat.le_refl _) (bdO fc fh fl); have hz := hB.trans (hz2.mono hB.size); have HE3 := hideL (BBox.new w3 fc fh fl); have HQ3 := hideL (HQ.out.next hz); have HY3 := hideL (HY.out.next hz); have HB3 := hideL (HB.out.trans (hz.mono HB.out.size)); have r1 := HQ3.out.c1; have y0 := HY3.out.c0; have y1 := HY3.out.c1; have y2 := HY3.out.c2; have z0 := HY3.out.frozen 0; have z1 := HY3.out.frozen 1; have z2 := HY3.out.frozen 2; have hne : ¬ w3.heap.size = w.heap.size + 1 := (by have h1 := HY.out.lt; have h2 := hB.size; omega); have hne2 : ¬ w.heap.size + 1 = w3.heap.size := (by have h1 := HY.out.lt; have h2 := hB.size; omega); clear hB hz hz2)
       | (go_at_call 89; refine (LM.out _ HB3.out).mono ?_; rintro e w5 ⟨rfl, hB⟩; have HE5 := hideL (HE3.out.next hB); have HQ5 := hideL (HQ3.out.next hB); have HY5 := hideL (HY3.out.next hB); have HB5 := hideL (HB3.out.trans (hB.mono HB3.out.size)); have e0 := HE5.out.c0; have e1 := HE5.out.c1; have e2 := HE5.out.c2; have s2 := HQ5.out.c2; have y0 := HY5.out.c0; have y1 := HY5.out.c1; have y2 := HY5.out.c2; have z0 := HY5.out.frozen 0; have z1 := HY5.out.frozen 1; have z2 := HY5.out.frozen 2; clear hB))
     have hst := HY5.out.st 0 0 0
     have hkb : Below w.heap.size w (((w5.setCell ⟨w.heap.size + 1, 0, none⟩ (.int .i64 0)).setCell ⟨w.heap.size + 1, 1, none⟩ (.int .i64 0)).setCell ⟨w.heap.size + 1, 2, none⟩ (.int .i64 0)) := ((HB5.out.setCell (p := ⟨w.heap.size + 1, 0, none⟩) (Nat.le_succ _) _).setCell (p := ⟨w.heap.size + 1, 1, none⟩) (Nat.le_succ _) _).setCell (p := ⟨w.heap.size + 1, 2, none⟩) (Nat.le_succ _) _
     have r0 := hst.c0
     have r1 := hst.c1
     have r2 := hst.c2
     exact bodyPost_ret (v := .tuple #[.agg #[.int .i64 0, .int .i64 0, .int .i64 0], .bool false]) (by simp [results, Tryz.results51, go_sem, r0, r1, r2]) rfl ⟨⟨0, 0, 0, rfl, fun h => by cases h⟩, hkb⟩
   | true =>
     have hle2 := hle hk
     have HK := hideL hk
     by_cases h1 : fc = 1
     · have i1 : ((fc : Int) == 1) = true := by rw [h1]; rfl
       by_cases h2 : bn ≤ 1024
       · have i2 : (bn : Int) ≤ 1024 := by omega
         rw [decide_eq_true hk, decide_eq_true h2, decide_eq_true h1, Bool.true_or, Bool.and_self, Bool.and_self, Bool.and_self]
         clear hk h1 h2 hle hle2
         go_enter Tryz.func51, Tryz.ntmps51
         go_wp2_with (first
         | (go_at_call 88; refine LF.out.mono ?_; rintro e w3 ⟨rfl, hB⟩; have hz2 := (Below.refl w3.heap.size w3).alloc (Nat.le_refl _) (bdO fc fh fl); have hz := hB.trans (hz2.mono hB.size); have HE3 := hideL (BBox.new w3 fc fh fl); have HQ3 := hideL (HQ.out.next hz); have HY3 := hideL (HY.out.next hz); have HB3 := hideL (HB.out.trans (hz.mono HB.out.size)); have r1 := HQ3.out.c1; have y0 := HY3.out.c0; have y1 := HY3.out.c1; have y2 := HY3.out.c2; have z0 := HY3.out.frozen 0; have z1 := HY3.out.frozen 1; have z2 := HY3.out.frozen 2; have hne : ¬ w3.heap.size = w.heap.size + 1 := (by have h1 := HY.out.lt; have h2 := hB.size; omega); have hne2 : ¬ w.heap.size + 1 = w3.heap.size := (by have h1 := HY.out.lt; have h2 := hB.size; omega); clear hB hz hz2)
         | (go_at_call 89; refine (LM.out _ HB3.out).mono ?_; rintro e w5 ⟨rfl, hB⟩; have HE5 := hideL (HE3.out.next hB); have HQ5 := hideL (HQ3.out.next hB); have HY5 := hideL (HY3.out.next hB); have HB5 := hideL (HB3.out.trans (hB.mono HB3.out.size)); have e0 := HE5.out.c0; have e1 := HE5.out.c1; have e2 := HE5.out.c2; have s2 := HQ5.out.c2; have y0 := HY5.out.c0; have y1 := HY5.out.c1; have y2 := HY5.out.c2; have z0 := HY5.out.frozen 0; have z1 := HY5.out.frozen 1; have z2 := HY5.out.frozen 2; clear hB))
         go_region_with fail
         all_goals
           go_wp2_with fail
           have hst := HY5.out.st fc fh fl
           have hkb : Below w.heap.size w (((w5.setCell ⟨w.heap.size + 1, 0, none⟩ (.int .i64 fc)).setCell ⟨w.heap.size + 1, 1, none⟩ (.int .i64 fh)).setCell ⟨w.heap.size + 1, 2, none⟩ (.int .i64 fl)) := ((HB5.out.setCell (p := ⟨w.heap.size + 1, 0, none⟩) (Nat.le_succ _) _).setCell (p := ⟨w.heap.size + 1, 1, none⟩) (Nat.le_succ _) _).setCell (p := ⟨w.heap.size + 1, 2, none⟩) (Nat.le_succ _) _
           have r0 := hst.c0
           have r1 := hst.c1
           have r2 := hst.c2
           have hkd := hkb.drew
           try rw [Exit.noGoto_ret]
           exact bodyPost_ret (v := .tuple #[.agg #[.int .i64 fc, .int .i64 fh, .int .i64 fl], .bool true]) (by simp [results, Tryz.results51, go_sem, r0, r1, r2]) rfl ⟨⟨fc, fh, fl, rfl, fun _ => by rw [HK.out]⟩, hkd⟩
       · have i2 : ¬ (bn : Int) ≤ 1024 := by omega
         rw [decide_eq_false h2, Bool.and_false, Bool.false_and]
         clear hk h1 h2 hle hle2
         go_enter Tryz.func51, Tryz.ntmps51
         go_wp2_with (first
         | (go_at_call 88; refine LF.out.mono ?_; rintro e w3 ⟨rfl, hB⟩; have hz2 := (Below.refl w3.heap.size w3).alloc (Nat.le_refl _) (bdO fc fh fl); have hz := hB.trans (hz2.mono hB.size); have HE3 := hideL (BBox.new w3 fc fh fl); have HQ3 := hideL (HQ.out.next hz); have HY3 := hideL (HY.out.next hz); have HB3 := hideL (HB.out.trans (hz.mono HB.out.size)); have r1 := HQ3.out.c1; have y0 := HY3.out.c0; have y1 := HY3.out.c1; have y2 := HY3.out.c2; have z0 := HY3.out.frozen 0; have z1 := HY3.out.frozen 1; have z2 := HY3.out.frozen 2; have hne : ¬ w3.heap.size = w.heap.size + 1 := (by have h1 := HY.out.lt; have h2 := hB.size; omega); have hne2 : ¬ w.heap.size + 1 = w3.heap.size := (by have h1 := HY.out.lt; have h2 := hB.size; omega); clear hB hz hz2)
         | (go_at_call 89; refine (LM.out _ HB3.out).mono ?_; rintro e w5 ⟨rfl, hB⟩; have HE5 := hideL (HE3.out.next hB); have HQ5 := hideL (HQ3.out.next hB); have HY5 := hideL (HY3.out.next hB); have HB5 := hideL (HB3.out.trans (hB.mono HB3.out.size)); have e0 := HE5.out.c0; have e1 := HE5.out.c1; have e2 := HE5.out.c2; have s2 := HQ5.out.c2; have y0 := HY5.out.c0; have y1 := HY5.out.c1; have y2 := HY5.out.c2; have z0 := HY5.out.frozen 0; have z1 := HY5.out.frozen 1; have z2 := HY5.out.frozen 2; clear hB))
         go_region_with fail
         all_goals
           go_wp2_with fail
           have hst := HY5.out.st fc fh fl
           have hkb : Below w.heap.size w (((w5.setCell ⟨w.heap.size + 1, 0, none⟩ (.int .i64 fc)).setCell ⟨w.heap.size + 1, 1, none⟩ (.int .i64 fh)).setCell ⟨w.heap.size + 1, 2, none⟩ (.int .i64 fl)) := ((HB5.out.setCell (p := ⟨w.heap.size + 1, 0, none⟩) (Nat.le_succ _) _).setCell (p := ⟨w.heap.size + 1, 1, none⟩) (Nat.le_succ _) _).setCell (p := ⟨w.heap.size + 1, 2, none⟩) (Nat.le_succ _) _
           have r0 := hst.c0
           have r1 := hst.c1
           have r2 := hst.c2
           have hkd := hkb.drew
           try rw [Exit.noGoto_ret]
           exact bodyPost_ret (v := .tuple #[.agg #[.int .i64 fc, .int .i64 fh, .int .i64 fl], .bool false]) (by simp [results, Tryz.results51, go_sem, r0, r1, r2, i2]) rfl ⟨⟨fc, fh, fl, rfl, fun _ => by rw [HK.out]⟩, hkd⟩
     · have i1 : ((fc : Int) == 1) = false := by rw [beq_eq_false_iff_ne]; omega
       by_cases h2 : bn = fl
       · have i2 : ((bn : Int) == (fl : Int)) = true := by rw [beq_iff_eq]; omega
         rw [decide_eq_true hk, decide_eq_true (show bn ≤ 1024 by omega), decide_eq_true h2, Bool.or_true, Bool.and_self, Bool.and_self, Bool.and_self]
         clear hk h1 h2 hle hle2
         go_enter Tryz.func51, Tryz.ntmps51
         go_wp2_with (first
         | (go_at_call 88; refine LF.out.mono ?_; rintro e w3 ⟨rfl, hB⟩; have hz2 := (Below.refl w3.heap.size w3).alloc (Nat.le_refl _) (bdO fc fh fl); have hz := hB.trans (hz2.mono hB.size); have HE3 := hideL (BBox.new w3 fc fh fl); have HQ3 := hideL (HQ.out.next hz); have HY3 := hideL (HY.out.next hz); have HB3 := hideL (HB.out.trans (hz.mono HB.out.size)); have r1 := HQ3.out.c1; have y0 := HY3.out.c0; have y1 := HY3.out.c1; have y2 := HY3.out.c2; have z0 := HY3.out.frozen 0; have z1 := HY3.out.frozen 1; have z2 := HY3.out.frozen 2; have hne : ¬ w3.heap.size = w.heap.size + 1 := (by have h1 := HY.out.lt; have h2 := hB.size; omega); have hne2 : ¬ w.heap.size + 1 = w3.heap.size := (by have h1 := HY.out.lt; have h2 := hB.size; omega); clear hB hz hz2)
         | (go_at_call 89; refine (LM.out _ HB3.out).mono ?_; rintro e w5 ⟨rfl, hB⟩; have HE5 := hideL (HE3.out.next hB); have HQ5 := hideL (HQ3.out.next hB); have HY5 := hideL (HY3.out.next hB); have HB5 := hideL (HB3.out.trans (hB.mono HB3.out.size)); have e0 := HE5.out.c0; have e1 := HE5.out.c1; have e2 := HE5.out.c2; have s2 := HQ5.out.c2; have y0 := HY5.out.c0; have y1 := HY5.out.c1; have y2 := HY5.out.c2; have z0 := HY5.out.frozen 0; have z1 := HY5.out.frozen 1; have z2 := HY5.out.frozen 2; clear hB))
         go_region_with fail
         all_goals
           go_wp2_with fail
           have hst := HY5.out.st fc fh fl
           have hkb : Below w.heap.size w (((w5.setCell ⟨w.heap.size + 1, 0, none⟩ (.int .i64 fc)).setCell ⟨w.heap.size + 1, 1, none⟩ (.int .i64 fh)).setCell ⟨w.heap.size + 1, 2, none⟩ (.int .i64 fl)) := ((HB5.out.setCell (p := ⟨w.heap.size + 1, 0, none⟩) (Nat.le_succ _) _).setCell (p := ⟨w.heap.size + 1, 1, none⟩) (Nat.le_succ _) _).setCell (p := ⟨w.heap.size + 1, 2, none⟩) (Nat.le_succ _) _
           have r0 := hst.c0
           have r1 := hst.c1
           have r2 := hst.c2
           have hkd := hkb.drew
           try rw [Exit.noGoto_ret]
           exact bodyPost_ret (v := .tuple #[.agg #[.int .i64 fc, .int .i64 fh, .int .i64 fl], .bool true]) (by simp [results, Tryz.results51, go_sem, r0, r1, r2]) rfl ⟨⟨fc, fh, fl, rfl, fun _ => by rw [HK.out]⟩, hkd⟩
       · have i2 : ((bn : Int) == (fl : Int)) = false := by rw [beq_eq_false_iff_ne]; omega
         rw [decide_eq_false h1, decide_eq_false h2, Bool.or_false, Bool.and_false]
         clear hk h1 h2 hle hle2
         go_enter Tryz.func51, Tryz.ntmps51
         go_wp2_with (first
         | (go_at_call 88; refine LF.out.mono ?_; rintro e w3 ⟨rfl, hB⟩; have hz2 := (Below.refl w3.heap.size w3).alloc (Nat.le_refl _) (bdO fc fh fl); have hz := hB.trans (hz2.mono hB.size); have HE3 := hideL (BBox.new w3 fc fh fl); have HQ3 := hideL (HQ.out.next hz); have HY3 := hideL (HY.out.next hz); have HB3 := hideL (HB.out.trans (hz.mono HB.out.size)); have r1 := HQ3.out.c1; have y0 := HY3.out.c0; have y1 := HY3.out.c1; have y2 := HY3.out.c2; have z0 := HY3.out.frozen 0; have z1 := HY3.out.frozen 1; have z2 := HY3.out.frozen 2; have hne : ¬ w3.heap.size = w.heap.size + 1 := (by have h1 := HY.out.lt; have h2 := hB.size; omega); have hne2 : ¬ w.heap.size + 1 = w3.heap.size := (by have h1 := HY.out.lt; have h2 := hB.size; omega); clear hB hz hz2)
         | (go_at_call 89; refine (LM.out _ HB3.out).mono ?_; rintro e w5 ⟨rfl, hB⟩; have HE5 := hideL (HE3.out.next hB); have HQ5 := hideL (HQ3.out.next hB); have HY5 := hideL (HY3.out.next hB); have HB5 := hideL (HB3.out.trans (hB.mono HB3.out.size)); have e0 := HE5.out.c0; have e1 := HE5.out.c1; have e2 := HE5.out.c2; have s2 := HQ5.out.c2; have y0 := HY5.out.c0; have y1 := HY5.out.c1; have y2 := HY5.out.c2; have z0 := HY5.out.frozen 0; have z1 := HY5.out.frozen 1; have z2 := HY5.out.frozen 2; clear hB))
         go_region_with fail
         all_goals
           go_wp2_with fail
           have hst := HY5.out.st fc fh fl
           have hkb : Below w.heap.size w (((w5.setCell ⟨w.heap.size + 1, 0, none⟩ (.int .i64 fc)).setCell ⟨w.heap.size + 1, 1, none⟩ (.int .i64 fh)).setCell ⟨w.heap.size + 1, 2, none⟩ (.int .i64 fl)) := ((HB5.out.setCell (p := ⟨w.heap.size + 1, 0, none⟩) (Nat.le_succ _) _).setCell (p := ⟨w.heap.size + 1, 1, none⟩) (Nat.le_succ _) _).setCell (p := ⟨w.heap.size + 1, 2, none⟩) (Nat.le_succ _) _
           have r0 := hst.c0
           have r1 := hst.c1
           have r2 := hst.c2
           have hkd := hkb.drew
           try rw [Exit.noGoto_ret]
           exact bodyPost_ret (v := .tuple #[.agg #[.int .i64 fc, .int .i64 fh, .int .i64 fl], .bool false]) (by simp [results, Tryz.results51, go_sem, r0, r1, r2]) rfl ⟨⟨fc, fh, fl, rfl, fun _ => by rw [HK.out]⟩, hkd⟩
end Go.Proofs.YtafmgoekgijfgaaGreatDoor
namespace Go.Proofs.YtafmgoekgijfgaaGreatDoor
open Go.RowKit Go.Lib

theorem wrtB_sta (x : Rw) : wrtB x = (staB x.start && fitP x.heads x.body) := rfl
theorem fit_may {h : List Hd} {body : List UInt8} (hf : fitP h body = true) : mayH h = true ∧ body.length ≤ 1024 ∧ (framP h).1 = 0 := by
 unfold fitP at hf
 simp only [Bool.and_eq_true, decide_eq_true_eq] at hf
 exact ⟨hf.1.1.2, hf.1.2, hf.1.1.1⟩
/-- A line more. -/
theorem lins_next {l : List Hd} {k : Nat} (hk : k < l.length) : linsH (l.take (k + 1)) = linsH (l.take k) ++ (linH (l.getD k KH.dft) ++ [13, 10]) := by
 rw [List.take_succ_eq_append_getElem hk, linsH, List.flatMap_append]
 simp [linsH, List.getD, hk]
theorem lins_len {l : List Hd} (h : ∀ x ∈ l, (linH x).length ≤ 578) : (linsH l).length ≤ l.length * 580 := by
 induction l with
 | nil => exact Nat.zero_le _
 | cons a l ih =>
   have h1 := ih fun x hx => h x (List.mem_cons_of_mem _ hx)
   have h2 := h a (List.mem_cons_self ..)
   rw [show linsH (a :: l) = linH a ++ [13, 10] ++ linsH l from rfl, List.length_append, List.length_append, List.length_cons]
   simp only [List.length_cons, List.length_nil]
   omega
theorem line_bytes (h : Hd) : (lineP h).data.toList = linH h := by
 unfold lineP linH
 simp
def WrPost (w : World) (x : Rw) (e : Ending) (w' : World) : Prop := (if wrtB x = true then ∃ r : Sl, e = .returned (.tuple #[r.v, .int .i64 0]) ∧ BRow w' w.heap.size r.v (wrtP x) else e = .returned (.tuple #[.slice none 0 0, .int .i64 1])) ∧ Below w.heap.size w w'
set_option maxRecDepth 100000 in
set_option maxHeartbeats 2000000 in
theorem write_any (s : ByteArray) (ha : Option Addr) (hn hc : Nat) (ba : Option Addr) (bn bc : Nat) (x : Rw) (w : World) (hr : RawAt w ⟨s, ⟨ha, hn, hc⟩, ⟨ba, bn, bc⟩⟩ x) (hf : Fits x.heads) (hs0 : s.size ≤ 1000000) (hl : x.heads.length ≤ 1000) (hE : Env w) (hT : EnvT w) : Calls Tryz.prog 15 #[.agg #[.string s, .slice ha hn hc, .slice ba bn bc]] w (WrPost w x) := by
 obtain ⟨hs, gh, gb⟩ := hr
 simp only [Sl.v] at gh gb
 have b1 := (Below.refl w.heap.size w).alloc (Nat.le_refl _) (rawC s (.slice ha hn hc) (.slice ba bn bc))
 have q1 : QBox (w.alloc (rawC s (.slice ha hn hc) (.slice ba bn bc))) w.heap.size s (.slice ha hn hc) (.slice ba bn bc) := heap_alloc_new w _
 have LF := frame_any s ha hn hc ba bn bc x (w.alloc (rawC s (.slice ha hn hc) (.slice ba bn bc))) ⟨hs, gh.below b1, gb.below b1⟩ hf hl (hE.next b1)
 unfold FrPost at LF
 have LM := hideL (fun (W : World) => mayStart_any s hs0 W)
 rw [hs] at LM
 unfold WrPost
 rw [wrtB_sta]
 have c0 := q1.c0
 have c1 := q1.c1
 have c2 := q1.c2
 have HB1 := hideL b1
 have HQ1 := hideL q1
 obtain ⟨F, hF⟩ : ∃ b, fitP x.heads x.body = b := ⟨_, rfl⟩
 obtain ⟨S, hS⟩ : ∃ b, staB x.start = b := ⟨_, rfl⟩
 rw [hF] at LF ⊢
 rw [hS] at LM ⊢
 simp only [rawC] at c0 c1 c2
 clear b1 q1
 cases F with
 | false =>
   simp only [Bool.and_false, Bool.false_eq_true, ↓reduceIte]
   have LF := hideL LF
   clear hs gh gb hf hs0 hl hE hT hF hS LM
   go_enter Tryz.func15, Tryz.ntmps15
   go_wp2_with (go_at_call 51; refine LF.out.mono ?_; rintro e w3 ⟨⟨fa, fb, fc, rfl, _⟩, hB⟩; have hz2 := (Below.refl w3.heap.size w3).alloc (Nat.le_refl _) (bdO fa fb fc); have HB3 := hideL (HB1.out.trans ((hB.trans (hz2.mono hB.size)).mono HB1.out.size)); clear hB hz2)
   exact bodyPost_ret (v := .tuple #[.slice none 0 0, .int .i64 1]) (by simp [results, Tryz.results15, go_sem]) rfl ⟨rfl, HB3.out⟩
 | true =>
   cases S with
   | false =>
     simp only [Bool.false_and, Bool.false_eq_true, ↓reduceIte]
     have LF := hideL LF
     clear hs gh gb hf hs0 hl hE hT hF hS
     go_enter Tryz.func15, Tryz.ntmps15
     go_wp2_with (first
       | (go_at_call 51; refine LF.out.mono ?_; rintro e w3 ⟨⟨fa, fb, fc, rfl, _⟩, hB⟩; have hz2 := (Below.refl w3.heap.size w3).alloc (Nat.le_refl _) (bdO fa fb fc); have hz := hB.trans (hz2.mono hB.size); have HB3 := hideL (HB1.out.trans (hz.mono HB1.out.size)); have d0 := (HQ1.out.next hz).c0; clear hB hz2 hz)
       | (go_at_call 52; refine (LM.out _).mono ?_; rintro e w4 ⟨rfl, hB⟩; have HB4 := hideL (HB3.out.trans (hB.mono HB3.out.size)); clear hB))
     exact bodyPost_ret (v := .tuple #[.slice none 0 0, .int .i64 1]) (by simp [results, Tryz.results15, go_sem]) rfl ⟨rfl, HB4.out⟩
   | true =>
     simp only [Bool.true_and, ↓reduceIte]
     have LF := hideL LF
     obtain ⟨hmay, hbl, hfr0⟩ := fit_may hF
     have hgood := mayH_mem hmay
     have hlen := mayH_len hmay
     have hsl : 1 ≤ x.start.length ∧ x.start.length ≤ 578 := by
       unfold staB at hS
       simp only [Bool.and_eq_true, decide_eq_true_eq] at hS
       exact hS.1
     have hss : s.size ≤ 578 := by rw [← size_list, hs]; exact hsl.2
     have hT0 : s ++ (⟨#[13, 10]⟩ : ByteArray) = bo (x.start ++ (13 :: 10 :: linsH [])) := bytes_ext (by
       rw [ByteArray.data_append, Array.toList_append, bo_list, hs]
       rfl)
     have n1 : ¬ 9223372036854775807 < s.size + 2 := by omega
     have hcv := hT0
     have GH := hideL gh
     have GB := hideL gb
     have HT0 := hideL hT0
     have HGOOD := hideL hgood
     have HLEN := hideL hlen
     have HFIT := hideL hf
     have HSL := hideL hsl
     have HBL := hideL hbl
     have HTT := hideL hT
     have hhn := gh.le.1
     have HHN := hideL hhn
     clear hcv hs gh gb hf hs0 hl hE hT hF hS hmay hbl hfr0 hgood hlen hsl hss hT0 hhn
     go_enter Tryz.func15, Tryz.ntmps15
     go_wp2_with (first
       | (go_at_call 51; refine LF.out.mono ?_; rintro e w3 ⟨⟨fa, fb, fc, rfl, hfr⟩, hB⟩; have hz2 := (Below.refl w3.heap.size w3).alloc (Nat.le_refl _) (bdO fa fb fc); have hz := hB.trans (hz2.mono hB.size); have HB3 := hideL (HB1.out.trans (hz.mono HB1.out.size)); have HQ3 := hideL (HQ1.out.next hz); have HX3 := hideL (BBox.new w3 fa fb fc); have HFR := hideL (hfr rfl); have d0 := HQ3.out.c0; clear hB hz2 hz hfr)
       | (go_at_call 52; refine (LM.out _).mono ?_; rintro e w4 ⟨rfl, hB⟩; have HB4 := hideL (HB3.out.trans (hB.mono HB3.out.size)); have HQ4 := hideL (HQ3.out.next hB); have HX4 := hideL (HX3.out.next hB); have d0 := HQ4.out.c0; have d1 := HQ4.out.c1; clear hB))
     rw [HT0.out]
     go_loopw [6, 31] (fun t i wr => ∃ k : Nat, k ≤ hn ∧ i = .int .i64 k ∧ t = .string (bo (x.start ++ (13 :: 10 :: linsH (x.heads.take k)))) ∧ HidL (Below w4.heap.size w4 wr)) (fun _ i _ => hn - (RowKit.intOf i).toNat)
     case atStart => exact ⟨0, Nat.zero_le _, rfl, rfl, ⟨Below.refl _ _⟩⟩
     case round =>
       obtain ⟨k, hk, rfl, rfl, HBW⟩ := hrel
       obtain ⟨W, rfl⟩ : ∃ W, W = wr := ⟨_, rfl⟩
       have hll := hideL (fun j => lins_len (l := x.heads.take j) fun y hy => (linH_inl (HGOOD.out y (List.mem_of_mem_take hy))).2)
       obtain ⟨T, hT⟩ : ∃ T, x.start ++ (13 :: 10 :: linsH (x.heads.take k)) = T := ⟨_, rfl⟩
       have hTl : T.length ≤ 20000 := by
         have h1 := hll.out k
         have h2 := HSL.out.2
         have h3 := HLEN.out
         rw [← hT]
         simp only [List.length_append, List.length_cons, List.length_take] at h1 ⊢
         omega
       have hk24 : hn ≤ 24 := by rw [HHN.out]; exact HLEN.out
       have hTs : (bo T).size = T.length := bo_size T
       rw [hT]
       by_cases hlt : k < hn
       · have hlt' : (k : Int) < (hn : Int) := by omega
         obtain ⟨b1, o1, e1, l1, cc⟩ := GH.out.at (k := k) hlt
         subst e1
         have hkl : k < x.heads.length := by rw [← HHN.out]; exact hlt
         have hnext := lins_next hkl
         have hg := HGOOD.out (x.heads.getD k KH.dft) (by rw [show x.heads.getD k KH.dft = x.heads[k] by simp [List.getD, hkl]]; exact List.getElem_mem hkl)
         have hfit := HFIT.out.get hkl
         have hlin := (linH_inl hg).2
         generalize x.heads.getD k KH.dft = y at cc hg hfit hnext hlin
         obtain ⟨yn, yv⟩ := y
         have hbw : Below w.heap.size w W := HB4.out.trans (HBW.out.mono HB4.out.size)
         have d1' : W.cell? ⟨b1, o1 + k * 2, none⟩ = some (.string yn) := (hbw.cell (p := ⟨b1, o1 + k * 2, none⟩) l1).trans (cc 0 (by decide))
         have d2' : W.cell? ⟨b1, o1 + k * 2 + 1, none⟩ = some (.string yv) := (hbw.cell (p := ⟨b1, o1 + k * 2 + 1, none⟩) l1).trans (cc 1 (by decide))
         have LL : HidL (∀ W : World, Calls Tryz.prog 53 #[.agg #[.string yn, .string yv]] W (fun e w' => e = .returned (.tuple #[.string (lineP ⟨yn, yv⟩), .int .i64 0]) ∧ Below W.heap.size W w')) := ⟨fun W => by
           have h := line_any ⟨yn, yv⟩ hfit W
           unfold lineV at h
           rw [if_pos hg] at h
           exact h⟩
         have hbx := (Below.refl W.heap.size W).alloc (Nat.le_refl _) (.cells #[.string yn, .string yv] 83)
         have hx := HBox.new W yn yv
         have e0 := hx.c0
         have e1 := hx.c1
         have hls := size_list (lineP ⟨yn, yv⟩)
         have hlb := line_bytes ⟨yn, yv⟩
         rw [hlb] at hls
         have m1 : ¬ 9223372036854775807 < (lineP ⟨yn, yv⟩).size + 2 := by omega
         have m2 : ¬ 9223372036854775807 < (bo T).size + ((lineP ⟨yn, yv⟩).size + 2) := by omega
         have HNX : HidL (bo T ++ (lineP ⟨yn, yv⟩ ++ (⟨#[13, 10]⟩ : ByteArray)) = bo (x.start ++ (13 :: 10 :: linsH (x.heads.take (k + 1))))) := ⟨bytes_ext (by
           rw [ByteArray.data_append, Array.toList_append, ByteArray.data_append, Array.toList_append, bo_list, bo_list, hlb, hnext, ← hT]
           simp)⟩
         have HBX := hideL (HBW.out.trans (hbx.mono HBW.out.size))
         clear cc l1 hkl hnext hg hfit hlin hbw hbx hx hls hlb hTl hTs hll hT
         go_wp2_with (go_at_call 53; refine (LL.out _).mono ?_; rintro e w6 ⟨rfl, hB⟩; have HB6 := hideL (HBX.out.trans (hB.mono HBX.out.size)); clear hB)
         go_roundw
         case rel => exact ⟨k + 1, by omega, by go_num, by rw [HNX.out], HB6⟩
         case measure => simp [RowKit.intOf]; omega
       · obtain rfl : k = hn := by omega
         have hlt' : ¬ (k : Int) < (k : Int) := by omega
         have hTall : T = x.start ++ (13 :: 10 :: linsH x.heads) := by
           rw [← hT, List.take_of_length_le (by rw [← HHN.out]; exact Nat.le_refl _)]
         obtain ⟨c, W1, hcv, hmk, hb1⟩ := conv_bytes W (bo T) (by rw [hTs]; omega)
         have hz1 := hb1.size
         have hTl2 : (bo T).data.toList.length = T.length := by rw [bo_list]
         obtain ⟨v1, w5, hap, hr5, hb5⟩ := bpush_str W1 W.heap.size _ _ (.inr ⟨W.heap.size, c, rfl, Nat.le_refl _, hmk⟩) ⟨#[13, 10]⟩ (by rw [hTl2, show (⟨#[13, 10]⟩ : ByteArray).size = 2 from rfl]; omega) hz1
         rw [bo_list] at hr5
         obtain ⟨r1, hr1⟩ := hr5.slv
         subst hr1
         have hz5 := hb5.size
         have hbW : Below w.heap.size w W := HB4.out.trans (HBW.out.mono HB4.out.size)
         have hb15 : Below W.heap.size W w5 := hb1.trans hb5
         have hx5 := (HX4.out.next HBW.out).next hb15
         have hq5 := (HQ4.out.next HBW.out).next hb15
         have x0 := hx5.c0
         have y2 := hq5.c2
         have gb5 := (GB.out.below hbW).below hb15
         have hB5 : Below w.heap.size w w5 := hbW.trans (hb15.mono hbW.size)
         have HAP := hideL hap
         have hTTl : (T ++ [13, 10]).length ≤ 200000 := by rw [List.length_append]; simp; omega
         have hfin : ∀ y, y = bodS (framP x.heads).2 x.body → T ++ [13, 10] ++ y = wrtP x := fun y hy => by
           rw [hTall, hy, wrtP]
           simp
         rw [HFR.out] at hfin
         unfold bodS at hfin
         simp only at hfin
         by_cases h1 : fa = 1
         · have i1 : ((fa : Int) == 1) = true := by rw [h1]; rfl
           rw [if_pos h1] at hfin
           have LC := hideL (appendChunks_any W.heap.size r1.v (T ++ [13, 10]) ba bn bc x.body w5 hr5 gb5 w GB.out hbW.size (by omega) hTTl HBL.out (HTT.out.next hB5))
           have HFIN := hideL (hfin _ rfl)
           have HB5 := hideL hB5
           have HBW5 := hideL hbW.size
           have HZ5 := hideL (show W.heap.size ≤ w5.heap.size by omega)
           clear hTall hmk hb1 hz1 hTl2 hr5 hb5 hz5 hbW hb15 hx5 hq5 gb5 hB5 hap hTTl hfin h1 hTl hTs hll hT
           go_wp2_with (first
             | (at_builtin; refine wpList_append_runP rfl (.tmp 46) (.const (.string ⟨#[13, 10]⟩)) 22 9 22 rfl rfl _ _ r1.v w5 rfl rfl HAP.out ?_)
             | (go_at_call 54; refine LC.out.mono ?_; rintro e w7 ⟨r7, rfl, hr7, hb7⟩))
           rw [show T ++ [13, 10] ++ chkS x.body = wrtP x from HFIN.out] at hr7
           exact bodyPost_ret (v := .tuple #[r7.v, .int .i64 0]) (by simp [results, Tryz.results15, go_sem]) rfl ⟨⟨r7, rfl, hr7.base HBW5.out⟩, HB5.out.trans (hb7.mono HBW5.out)⟩
         · have i1 : ((fa : Int) == 1) = false := by rw [beq_eq_false_iff_ne]; omega
           rw [if_neg h1] at hfin
           obtain ⟨v6, w6, hap6, hr6, hb6⟩ := bpush w5 W.heap.size r1.v _ hr5 (.slice ba bn bc) x.body gb5 (by have := HBL.out; have h : (T ++ (⟨#[13, 10]⟩ : ByteArray).data.toList).length ≤ 200000 := hTTl; omega) (by omega)
           rw [hfin _ rfl] at hr6
           obtain ⟨r6, hr6'⟩ := hr6.slv
           subst hr6'
           have HAP6 := hideL hap6
           have HR6 := hideL (hr6.base hbW.size)
           have HB6 := hideL (hB5.trans (hb6.mono hbW.size))
           clear hTall hmk hb1 hz1 hTl2 hr5 hb5 hz5 hbW hb15 hx5 hq5 gb5 hB5 hap hTTl hfin h1 hTl hTs hll hT hap6 hr6 hb6
           go_wp2_with (first
             | (at_builtin; refine wpList_append_runP rfl (.tmp 46) (.const (.string ⟨#[13, 10]⟩)) 22 9 22 rfl rfl _ _ r1.v w5 rfl rfl HAP.out ?_)
             | (at_builtin; refine wpList_append_runP rfl (.tmp 55) (.tmp 57) 22 22 22 rfl rfl _ _ r6.v w6 rfl rfl HAP6.out ?_))
           exact bodyPost_ret (v := .tuple #[r6.v, .int .i64 0]) (by simp [results, Tryz.results15, go_sem]) rfl ⟨⟨r6, rfl, HR6.out⟩, HB6.out⟩
end Go.Proofs.YtafmgoekgijfgaaGreatDoor
