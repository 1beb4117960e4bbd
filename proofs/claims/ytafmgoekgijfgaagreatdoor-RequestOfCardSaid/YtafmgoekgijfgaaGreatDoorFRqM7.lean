/- The document's Of: all cases. The document's One. The document's May. -/
import Derived.Test.YtafmgoekgijfgaaGreatDoorFRqROf1
import Derived.Test.YtafmgoekgijfgaaGreatDoorFRqROf2
import Derived.Test.YtafmgoekgijfgaaGreatDoorFRqROf3
import Derived.Test.YtafmgoekgijfgaaGreatDoorFRqROf4
import Derived.Test.YtafmgoekgijfgaaGreatDoorFRqROf5
import Derived.Test.YtafmgoekgijfgaaGreatDoorFRqRAll
import Derived.Test.YtafmgoekgijfgaaGreatDoorFRqOne
import Derived.Test.YtafmgoekgijfgaaGreatDoorFRqM9
import Derived.Test.YtafmgoekgijfgaaGreatDoorFRqRFit
namespace Go.Proofs.YtafmgoekgijfgaaGreatDoor
open Go.RowKit Go.Lib

theorem rof_any (s : ByteArray) (ha : Option Addr) (hn hc : Nat) (ba : Option Addr) (bn bc : Nat) (x : Rw) (w0 : World) (hr : RawAt w0 ⟨s, ⟨ha, hn, hc⟩, ⟨ba, bn, bc⟩⟩ x) (hf : Fits x.heads) (hs0 : s.size ≤ 900000) (hl : x.heads.length ≤ 1000) (hbl : x.body.length ≤ 900000) :
   Calls Tryz.prog 14 #[.agg #[.string s, .slice ha hn hc, .slice ba bn bc]] w0 (ROfPost w0 x) := by
 have hno : ∀ (_ : ofRP x = none) (_ : Calls Tryz.prog 14 #[.agg #[.string s, .slice ha hn hc, .slice ba bn bc]] w0 (fun e w' => e = .returned (.tuple #[.agg #[.string ⟨#[]⟩, .string ⟨#[]⟩, .string ⟨#[]⟩, .string ⟨#[]⟩, .string ⟨#[]⟩, .slice none 0 0, .slice none 0 0], .bool false]) ∧ Below w0.heap.size w0 w')), Calls Tryz.prog 14 #[.agg #[.string s, .slice ha hn hc, .slice ba bn bc]] w0 (ROfPost w0 x) := by
   intro h hc
   unfold ROfPost
   rw [h]
   exact hc
 have hso : ∀ {q : Rq} (_ : ofRP x = some q) (_ : Calls Tryz.prog 14 #[.agg #[.string s, .slice ha hn hc, .slice ba bn bc]] w0 (fun e w' => (∃ v : QV, e = .returned (.tuple #[v.v, .bool true]) ∧ ReqAt w' v q ∧ ReqGe w0.heap.size v) ∧ Below w0.heap.size w0 w')), Calls Tryz.prog 14 #[.agg #[.string s, .slice ha hn hc, .slice ba bn bc]] w0 (ROfPost w0 x) := by
   intro q h hc
   unfold ROfPost
   rw [h]
   exact hc
 by_cases h2 : (blaI 0 x.start).length = 2
 case neg => exact hno (of_not_two h2) (rof_1 s ha hn hc ba bn bc x w0 hr hf hs0 hl hbl h2)
 obtain ⟨i, j, hI⟩ := len_two h2
 have hof := of_two hI
 obtain ⟨hij, hjn, _⟩ := blaS_at hI
 by_cases hv : x.start.drop (j + 1) = http11
 case neg => exact hno (hof.trans (at_line hv)) (rof_2 s ha hn hc ba bn bc x w0 hr hf hs0 hl hbl hI hv)
 by_cases hi1 : i < 1
 · exact hno (hof.trans (at_met (met_len (.inl (by rw [List.length_take]; omega))))) (rof_3 s ha hn hc ba bn bc x w0 hr hf hs0 hl hbl hI hv hi1)
 by_cases hi16 : 16 < i
 · exact hno (hof.trans (at_met (met_len (.inr (by rw [List.length_take]; omega))))) (rof_4 s ha hn hc ba bn bc x w0 hr hf hs0 hl hbl hI hv hi1 hi16)
 by_cases hd1 : (allP hostA x.heads).length = 1
 case neg => exact hno (hof.trans (at_hosts hd1)) (rof_5 s ha hn hc ba bn bc x w0 hr hf hs0 hl hbl hI hv hi1 hi16 hd1)
 obtain ⟨h0, hd⟩ : ∃ h, allP hostA x.heads = [h] := List.length_eq_one_iff.1 hd1
 cases hm : metP (x.start.take i) with
 | false => exact hno (hof.trans (at_met hm)) (rof_6 s ha hn hc ba bn bc x w0 hr hf hs0 hl hbl hI hv hi1 hi16 hd hm)
 | true =>
   obtain ⟨ml, hml⟩ : ∃ l, x.start.take i = l := ⟨_, rfl⟩
   obtain ⟨tl, htl⟩ : ∃ l, (x.start.drop (i + 1)).take (j - (i + 1)) = l := ⟨_, rfl⟩
   obtain ⟨sh, hsh⟩ : ∃ l, h0.data.toList.map smB = l := ⟨_, rfl⟩
   rw [hml, htl] at hof
   rw [hml] at hm
   obtain ⟨⟨P1, P2⟩, hP⟩ : ∃ p, hosP sh = p := ⟨_, rfl⟩
   cases P1 with
   | false => exact hno (hof.trans (at_host hd (by rw [hsh, hP]))) (rof_7 s ha hn hc ba bn bc x w0 hr hf hs0 hl hbl hI hv hi1 hi16 hd hml htl hsh hP hm)
   | true =>
     have hh1 : (hosP (h0.data.toList.map smB)).1 = true := by rw [hsh, hP]
     by_cases hcon : ml = conL
     · obtain ⟨⟨Q1, Q2⟩, hQ⟩ : ∃ p, hosP (tl.map smB) = p := ⟨_, rfl⟩
       cases Q2 with
       | false =>
         have hro : roaP ml tl = none := by unfold roaP; rw [if_pos hcon, hQ]; rfl
         exact hno (hof.trans (at_road hd hro)) (rof_8 s ha hn hc ba bn bc x w0 hr hf hs0 hl hbl hI hv hi1 hi16 hd hml htl hsh hP hm hcon hQ)
       | true =>
         have hro : roaP ml tl = some ([], []) := by unfold roaP; rw [if_pos hcon, hQ]; rfl
         have h := at_some (x := x) hv hm hd hh1 hro
         rw [hsh] at h
         exact hso (hof.trans h) (rof_10 s ha hn hc ba bn bc x w0 hr hf hs0 hl hbl hI hv hi1 hi16 hd hml htl hsh hP hm hcon hQ)
     · have hro : roaP ml tl = norP tl := by unfold roaP; rw [if_neg hcon]
       cases hN : norP tl with
       | none => exact hno (hof.trans (at_road hd (hro.trans hN))) (rof_9 s ha hn hc ba bn bc x w0 hr hf hs0 hl hbl hI hv hi1 hi16 hd hml htl hsh hP hm hcon hN)
       | some p =>
         obtain ⟨pl, ql⟩ := p
         have h := at_some (x := x) hv hm hd hh1 (hro.trans hN)
         rw [hsh] at h
         exact hso (hof.trans h) (rof_11 s ha hn hc ba bn bc x w0 hr hf hs0 hl hbl hI hv hi1 hi16 hd hml htl hsh hP hm hcon hN)
end Go.Proofs.YtafmgoekgijfgaaGreatDoor
namespace Go.Proofs.YtafmgoekgijfgaaGreatDoor
open Go.RowKit Go.Lib

def rq0 : Rq := ⟨[], [], [], [], [], [], []⟩
theorem ReqAt.zero (w : World) : ReqAt w ⟨⟨#[]⟩, ⟨#[]⟩, ⟨#[]⟩, ⟨#[]⟩, ⟨#[]⟩, ⟨none, 0, 0⟩, ⟨none, 0, 0⟩⟩ rq0 := ⟨rfl, rfl, rfl, rfl, rfl, GAt.nil w, GAt.nil w⟩
/-- What Of answers, whichever it is. -/
def ROfAll (w : World) (x : Rw) (e : Ending) (w' : World) : Prop := (∃ (m t p r o : ByteArray) (ha : Option Addr) (hn hc : Nat) (ba : Option Addr) (bn bc : Nat), e = .returned (.tuple #[.agg #[.string m, .string t, .string p, .string r, .string o, .slice ha hn hc, .slice ba bn bc], .bool (ofRP x).isSome]) ∧ ReqAt w' ⟨m, t, p, r, o, ⟨ha, hn, hc⟩, ⟨ba, bn, bc⟩⟩ ((ofRP x).getD rq0) ∧ ReqGe w.heap.size ⟨m, t, p, r, o, ⟨ha, hn, hc⟩, ⟨ba, bn, bc⟩⟩) ∧ Below w.heap.size w w'
theorem rof_all (s : ByteArray) (ha : Option Addr) (hn hc : Nat) (ba : Option Addr) (bn bc : Nat) (x : Rw) (w : World) (hr : RawAt w ⟨s, ⟨ha, hn, hc⟩, ⟨ba, bn, bc⟩⟩ x) (hf : Fits x.heads) (hs0 : s.size ≤ 900000) (hl : x.heads.length ≤ 1000) (hbl : x.body.length ≤ 900000) :
   Calls Tryz.prog 14 #[.agg #[.string s, .slice ha hn hc, .slice ba bn bc]] w (ROfAll w x) := by
 refine (rof_any s ha hn hc ba bn bc x w hr hf hs0 hl hbl).mono ?_
 unfold ROfPost ROfAll
 cases ho : ofRP x with
 | none =>
   rintro e w' ⟨rfl, hB⟩
   exact ⟨⟨_, _, _, _, _, none, 0, 0, none, 0, 0, rfl, ReqAt.zero w', (fun k hk => by cases hk), (fun k hk => by cases hk)⟩, hB⟩
 | some q =>
   rintro e w' ⟨⟨⟨m, t, p, r, o, ⟨ha, hn, hc⟩, ⟨ba, bn, bc⟩⟩, rfl, h1, h2⟩, hB⟩
   exact ⟨⟨m, t, p, r, o, ha, hn, hc, ba, bn, bc, rfl, h1, h2⟩, hB⟩
/-- What One answers. -/
def ROnePost (w : World) (b : List UInt8) (e : Ending) (w' : World) : Prop := (∃ (m t p r o : ByteArray) (ha : Option Addr) (hn hc : Nat) (ba : Option Addr) (bn bc : Nat), e = .returned (.tuple #[.agg #[.string m, .string t, .string p, .string r, .string o, .slice ha hn hc, .slice ba bn bc], .int .i64 ((oneP b).1 : Nat)]) ∧ ReqAt w' ⟨m, t, p, r, o, ⟨ha, hn, hc⟩, ⟨ba, bn, bc⟩⟩ ((oneP b).2.getD rq0)) ∧ Below w.heap.size w w'
theorem ROnePost.bad {w w' : World} {b : List UInt8} {n : Nat} (h : oneP b = (n, none)) (hB : Below w.heap.size w w') : ROnePost w b (.returned (.tuple #[.agg #[.string ⟨#[]⟩, .string ⟨#[]⟩, .string ⟨#[]⟩, .string ⟨#[]⟩, .string ⟨#[]⟩, .slice none 0 0, .slice none 0 0], .int .i64 (n : Int)])) w' := by
 unfold ROnePost
 rw [h]
 exact ⟨⟨_, _, _, _, _, none, 0, 0, none, 0, 0, rfl, ReqAt.zero w'⟩, hB⟩
end Go.Proofs.YtafmgoekgijfgaaGreatDoor
namespace Go.Proofs.YtafmgoekgijfgaaGreatDoor
open Go.RowKit Go.Lib

end Go.Proofs.YtafmgoekgijfgaaGreatDoor
