/- The answers' functions in written-out form, case by case: what the laws of the answers call. -/
import Derived.Test.YtglnfnlpkhmlnaaGreatDoorAnOne
import Derived.Test.YtglnfnlpkhmlnaaGreatDoorAnSim
import Derived.Test.YtglnfnlpkhmlnaaGreatDoorAnBytes
import Derived.Test.YtglnfnlpkhmlnaaGreatDoorAnRSame
import Derived.Test.YtglnfnlpkhmlnaaGreatDoorRqM9
namespace Go.Proofs.YtglnfnlpkhmlnaaGreatDoor
open Go.RowKit Go.Lib

theorem mayA_fit {x : An} (h : mayAB x = true) : fitP x.heads x.body = true := by
  unfold mayAB at h
  rw [Bool.and_eq_true] at h
  exact h.2
set_option maxRecDepth 100000 in
theorem ans_len {x : An} (h : mayAB x = true) : (wrtP (rawA x)).length ≤ 20000 := by
  have hw := (wrtB_parts (mayA_wrt h)).1.2
  obtain ⟨h1, h2, _⟩ := fit_may (mayA_fit h)
  have h3 : (linsH (rawA x).heads).length ≤ 13920 := lins_all h1
  have h4 : (bodS (framP (rawA x).heads).2 (rawA x).body).length ≤ 1624 := by
    have h2' : (rawA x).body.length ≤ 1024 := h2
    have h5 := (hexS_size h2').2.2
    unfold bodS
    split
    · split
      · simp
      · simp only [List.length_append, List.length_cons, List.length_nil]
        omega
    · omega
  unfold wrtP
  simp only [List.length_append, List.length_cons]
  omega
def ByOk (w : World) (l : List UInt8) (k : Int) (e : Ending) (w' : World) : Prop := (∃ (a : Option Addr) (n c : Nat), e = .returned (.tuple #[.slice a n c, .int .i64 k]) ∧ GAt KB w' (.slice a n c) l) ∧ Below w.heap.size w w'
theorem abyt_okC {x : An} (h : mayAB x = true) (c : Int) (ha : Option Addr) (hn hc : Nat) (ba : Option Addr) (bn bc : Nat) (w : World) (hr : AnsAt w ⟨c, ⟨ha, hn, hc⟩, ⟨ba, bn, bc⟩⟩ x) (hE : Env w) (hT : EnvT w) : Calls Tryz.prog 40 #[.agg #[.int .i64 c, .slice ha hn hc, .slice ba bn bc]] w (ByOk w (wrtP (rawA x)) 0) := by
  have hm := (fit_may (mayA_fit h)).1
  have hl := mayH_len hm
  have k := abytes_any c ha hn hc ba bn bc x w hr (good_fits hm) (by omega) hE hT
  unfold AByPost at k
  rw [h, if_pos rfl, if_pos rfl] at k
  exact k
theorem abyt_noC {x : An} (h : mayAB x = false) (c : Int) (ha : Option Addr) (hn hc : Nat) (ba : Option Addr) (bn bc : Nat) (w : World) (hr : AnsAt w ⟨c, ⟨ha, hn, hc⟩, ⟨ba, bn, bc⟩⟩ x) (hf : Fits x.heads) (hl : x.heads.length ≤ 1000) (hE : Env w) (hT : EnvT w) : Calls Tryz.prog 40 #[.agg #[.int .i64 c, .slice ha hn hc, .slice ba bn bc]] w (ByOk w [] 1) := by
  have k := abytes_any c ha hn hc ba bn bc x w hr hf hl hE hT
  unfold AByPost at k
  rw [h, if_neg Bool.false_ne_true, if_neg Bool.false_ne_true] at k
  exact k
def AnOkC (w : World) (y : An) (k : Int) (e : Ending) (w' : World) : Prop := (∃ (c : Int) (ha : Option Addr) (hn hc : Nat) (ba : Option Addr) (bn bc : Nat), e = .returned (.tuple #[.agg #[.int .i64 c, .slice ha hn hc, .slice ba bn bc], .int .i64 k]) ∧ AnsAt w' ⟨c, ⟨ha, hn, hc⟩, ⟨ba, bn, bc⟩⟩ y) ∧ Below w.heap.size w w'
theorem aone_okC {b : List UInt8} {y : An} (h : oneAP b = (0, some y)) (v : Value) (w : World) (gv : GAt KB w v b) (hbl : b.length ≤ 200000) (ht : (Env w ∧ EnvS w) ∧ EnvT w) : Calls Tryz.prog 44 #[v] w (AnOkC w y 0) := by
  have k := aone_any v b w gv hbl ht
  unfold AOnePost at k
  rw [h] at k
  exact k
theorem aone_noC {b : List UInt8} {n : Nat} (h : oneAP b = (n, none)) (v : Value) (w : World) (gv : GAt KB w v b) (hbl : b.length ≤ 200000) (ht : (Env w ∧ EnvS w) ∧ EnvT w) : Calls Tryz.prog 44 #[v] w (AnOkC w an0 n) := by
  have k := aone_any v b w gv hbl ht
  unfold AOnePost at k
  rw [h] at k
  exact k
end Go.Proofs.YtglnfnlpkhmlnaaGreatDoor
