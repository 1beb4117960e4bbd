/- The document's roots, First and Keys of layer 1: their contracts. -/
import Derived.Test.YteocienbfhgmjaaRt
import Derived.Test.YteocienbfhgmjaaRtF
import Derived.Test.YteocienbfhgmjaaRtK
import Derived.Test.YteocienbfhgmjaaApp
namespace Go.Proofs.Yteocienbfhgmjaa
open Go.RowKit

theorem rootsN_some (power : Nat) : ∀ (n : Nat) (r : List Nat), rootsN power n = some r → ∀ i, i ≤ n → ∃ o, rootsN power i = some o
  | 0, r, h, i, hi => by obtain rfl : i = 0 := by omega
                         exact ⟨r, h⟩
  | n + 1, r, h, i, hi => by
    rcases Nat.eq_or_lt_of_le hi with rfl | hlt
    · exact ⟨r, h⟩
    · rw [rootsN] at h
      cases h1 : rootsN power n with
      | none => rw [h1] at h; cases h
      | some o => exact rootsN_some power n o h1 i (by omega)

theorem rootsN_no {power j : Nat} {l o : List Nat} (h : rootsN power j = some l) (h1 : rootsN power (j + 1) = some o) (hp : primeN (2 + j) j = false) : o = l := by
  rw [rootsN, h, Option.bind_some, hp] at h1
  simpa using h1.symm
theorem rootsN_yes {power j : Nat} {l o : List Nat} (h : rootsN power j = some l) (h1 : rootsN power (j + 1) = some o) (hp : primeN (2 + j) j = true) : ∃ r, rootN (2 + j) power 40 = some r ∧ o = l ++ [r % 4294967296] := by
  rw [rootsN, h, Option.bind_some, hp] at h1
  cases h2 : rootN (2 + j) power 40 with
  | none => rw [h2] at h1; cases h1
  | some r =>
    rw [h2] at h1
    refine ⟨r, rfl, ?_⟩
    simpa using h1.symm

theorem primeN_succ (p m : Nat) : primeN p (m + 1) = (primeN p m && !(Nat.beq (p % (2 + m)) 0)) := rfl

theorem and32 (n : Nat) (h : n < 18446744073709551616) : bits BinOp.and IntKind.u64 (n : Int) 4294967295 = ((n % 4294967296 : Nat) : Int) := by
  have := u64_and_nat n 4294967295 h (by omega)
  rw [show (4294967295 : Nat) = 2 ^ 32 - 1 from rfl, Nat.and_two_pow_sub_one_eq_mod] at this
  exact this

/-- Behind roots: a row of the call's own. -/
def OwnPost (l : List Nat) (w : World) (e : Ending) (w' : World) : Prop := ∃ aq cq, e = .returned (.slice aq l.length cq) ∧ w'.ownsRow w.heap.size 23 1 (.slice aq l.length cq) l.length ((ints l).map (.int .u32)) ∧ Below w.heap.size w w'

theorem own_form {w : World} {base : Nat} {e : TypeId} {v : Value} {n : Nat} {xs : List Value} (h : w.ownsRow base e 1 v n xs) : ∃ aq cq, v = .slice aq n cq := by
  rcases h.2 with ⟨rfl, rfl⟩ | ⟨g, c, cur, rfl, _⟩
  · exact ⟨none, 0, rfl⟩
  · exact ⟨_, c, rfl⟩
theorem own_block_le {w : World} {base : Nat} {e : TypeId} {v : Value} {n : Nat} {xs : List Value} (h : w.ownsRow base e 1 v n xs) (k : Nat) (hk : v.ownBlock = some k) : base ≤ k := by
  rcases h.2 with ⟨rfl, rfl⟩ | ⟨g, c, cur, rfl, hb, _⟩
  · simp [Value.ownBlock] at hk
  · simp [Value.ownBlock] at hk
    omega

set_option maxRecDepth 100000 in
set_option maxHeartbeats 1000000 in
theorem roots_ref (n power J : Nat) (fin : List Nat) (w : World) (h1 : 1 ≤ power) (h3 : power ≤ 3) (hJ : J ≤ 900) (hf : rootsN power J = some fin) (hn : fin.length = n) (hs : ∀ j, j < J → ∃ o, rootsN power j = some o ∧ o.length < n) :
    Calls Try.prog 33 #[.int .i64 n, .int .i64 power] w (OwnPost fin w) := by
  obtain ⟨i0, hi, hz0, hz1, hz2⟩ := info_parts Try.info23
  have HI := hide hi
  have HZ0 := hide hz0
  have HZ1 := hide hz1
  have HZ2 := hide hz2
  have HF := hide hf
  have HNF := hide hn
  have HS := hide hs
  have hlen : ∀ j o, j ≤ J → rootsN power j = some o → o.length ≤ n := fun j o hj ho => by
    rcases Nat.eq_or_lt_of_le hj with rfl | hlt
    · rw [hf] at ho; injection ho with ho; rw [← ho]; omega
    · obtain ⟨o', ho', hl⟩ := hs j hlt
      rw [ho'] at ho; injection ho with ho; rw [← ho]; omega
  have HLEN := hide hlen
  have hnb : n ≤ 1000 := by
    have hgrow : ∀ j o, j ≤ J → rootsN power j = some o → o.length ≤ j := by
      intro j
      induction j with
      | zero => intro o _ ho; rw [rootsN] at ho; injection ho with ho; rw [← ho]; simp
      | succ j ih =>
        intro o hj ho
        obtain ⟨l, hl⟩ := rootsN_some power (j + 1) o ho j (by omega)
        have := ih l (by omega) hl
        cases hp : primeN (2 + j) j with
        | false => rw [rootsN_no hl ho hp]; omega
        | true => obtain ⟨r, _, hr⟩ := rootsN_yes hl ho hp; rw [hr]; simp; omega
    have := hgrow J fin (Nat.le_refl _) hf
    omega
  clear hi hz0 hz1 hz2 hf hn hs hlen
  go_enter Try.func33, Try.ntmps33
  go_wp2_with fail
  go_loopw [5, 6] (fun v p wr => ∃ (j : Nat) (l : List Nat) (aq : Option Addr) (cq : Nat), j ≤ J ∧ p = .int .u64 (2 + (j : Int)) ∧ rootsN power j = some l ∧ v = .slice aq l.length cq ∧ wr.ownsRow w.heap.size 23 1 (.slice aq l.length cq) l.length ((ints l).map (.int .u32)) ∧ Below w.heap.size w wr) (fun _ p _ => J + 2 - (intOf p).toNat)
  case atStart => exact ⟨0, [], none, 0, Nat.zero_le _, rfl, rfl, rfl, ⟨rfl, .inl ⟨rfl, rfl⟩⟩, Below.refl _ _⟩
  case round =>
    obtain ⟨j, l, aq, cq, hj, rfl, hl, rfl, hown, hB⟩ := hrel
    have HL := hide hl
    have HOWN := hide hown
    have HB := hide hB
    clear hl hown hB
    by_cases hlt : j < J
    · have hll : l.length < n := by
        obtain ⟨o, ho, hol⟩ := HS.out j hlt
        rw [HL.out] at ho
        injection ho with ho
        rw [ho]; exact hol
      go_wp2_with fail
      go_loopw [7, 8] (fun b d wr => ∃ (m : Nat), m ≤ j ∧ d = .int .u64 (2 + (m : Int)) ∧ b = .bool (primeN (2 + j) m) ∧ wr.ownsRow w.heap.size 23 1 (.slice aq l.length cq) l.length ((ints l).map (.int .u32)) ∧ Below w.heap.size w wr) (fun _ d _ => j + 2 - (intOf d).toNat)
      case atStart => exact ⟨0, Nat.zero_le _, rfl, rfl, HOWN.out, HB.out⟩
      case round =>
        obtain ⟨q, hq, rfl, rfl, hown, hB⟩ := hrel
        clear HOWN HB
        have HOWN := hide hown
        have HB := hide hB
        clear hown hB
        by_cases hql : q < j
        · have HP := hide (primeN_succ (2 + j) q)
          by_cases hmod : (2 + j) % (2 + q) = 0
          · have hmi : (2 + (j : Int)) % (2 + (q : Int)) = 0 := by
              have : (((2 + j) % (2 + q) : Nat) : Int) = 0 := by rw [hmod]; rfl
              rw [Int.natCast_emod] at this
              simpa using this
            have HPF : Hid (primeN (2 + j) (q + 1) = false) := hide (by rw [HP.out, hmod]; simp)
            go_wp2_with fail
            go_roundw
            case rel => exact ⟨q + 1, by omega, by go_num, by rw [HPF.out], HOWN.out, HB.out⟩
            case measure => simp [intOf] <;> omega
          · have hmi : ¬ (2 + (j : Int)) % (2 + (q : Int)) = 0 := by
              intro h
              apply hmod
              have : (((2 + j) % (2 + q) : Nat) : Int) = 0 := by rw [Int.natCast_emod]; simpa using h
              omega
            have HPF : Hid (primeN (2 + j) (q + 1) = primeN (2 + j) q) := hide (by
              have hb : Nat.beq ((2 + j) % (2 + q)) 0 = false := Bool.eq_false_iff.2 fun h => hmod (Nat.eq_of_beq_eq_true h)
              rw [HP.out, hb]; simp)
            go_wp2_with fail
            go_roundw
            case rel => exact ⟨q + 1, by omega, by go_num, by rw [HPF.out], HOWN.out, HB.out⟩
            case measure => simp [intOf] <;> omega
        · obtain rfl : q = j := by omega
          obtain ⟨o, ho⟩ := rootsN_some power J fin HF.out (q + 1) (by omega)
          have HO := hide ho
          obtain ⟨b, hb⟩ : ∃ b, b = primeN (2 + q) q := ⟨_, rfl⟩
          rw [← hb]
          have HBP := hide hb
          clear ho hb
          cases b with
          | false =>
            have hol : o = l := rootsN_no HL.out HO.out HBP.out.symm
            subst hol
            go_wp2_with fail
            go_roundw
            case rel => exact ⟨q + 1, o, aq, cq, by omega, by go_num, HO.out, rfl, HOWN.out, HB.out⟩
            case measure => simp [intOf] <;> omega
          | true =>
            obtain ⟨r, hr, hor⟩ := rootsN_yes HL.out HO.out HBP.out.symm
            have hrl := rootN_lt (Nat.le_refl 40) hr
            have HR := hide (root_ref (2 + q) power r wr (by omega) h1 h3 hr)
            have HOR := hide hor
            have h32 := and32 r (by omega)
            have HB32 := hide h32
            rw [show (((2 + q : Nat)) : Int) = 2 + (q : Int) by omega] at HR
            clear hr hor h32
            go_wp2_with fail
            refine HR.out.mono ?_
            rintro e w2 ⟨rfl, hBX⟩
            have HB2 := hide (below_through hBX HB.out)
            have HOWN2 := hide (ownsRow_below HOWN.out hBX)
            clear hBX HR HOWN HB
            obtain ⟨z, hz⟩ : ∃ z, z = r % 4294967296 := ⟨_, rfl⟩
            rw [← hz] at HB32 HOR
            have hzl : z < 4294967296 := by omega
            clear hz hrl
            have HZ : Hid (bits BinOp.and IntKind.u64 (r : Int) 4294967295 % 4294967296 = (z : Int)) := hide (by rw [HB32.out]; omega)
            go_wp2_with (first
              | (at_builtin
                 rw [HZ.out]
                 obtain ⟨v2, w4, hrun, hown, hgr, _, hat⟩ := run_append_own_at (P := Try.prog) (w2.alloc (.cells #[.int .u32 z] 23)) w.heap.size 57 57 23 i0 (.int .u32 0) 1 4 Try.underlying57 HI.out HZ0.out HZ1.out HZ2.out rfl (by omega) _ _ _ (HOWN2.out.alloc _) ⟨w2.heap.size, 0, none⟩ 1 1 [.int .u32 z] rfl (cell_one_new _ _ _) (by simp [Value.oneCell']) (by unfold maxLen; omega) (by omega) (by have := HB2.out.size; simp; omega)
                 refine wpList_append_run rfl (.tmp 25) (.tmp 31) 57 57 57 rfl rfl _ _ v2 w4 rfl rfl hrun ?_
                 have HOWN4 := hide hown
                 have HGR4 := hide hgr
                 clear hrun hown hgr hat))
            obtain ⟨a2, c2, rfl⟩ := own_form HOWN4.out
            have hB4 : Below w.heap.size w w4 := (HB2.out.alloc HB2.out.size _).grown HGR4.out (by have := HB2.out.size; simp; omega) (fun k e => own_block_le HOWN2.out k e)
            have hown4 : w4.ownsRow w.heap.size 23 1 (.slice a2 o.length c2) o.length ((ints o).map (.int .u32)) := by
              have h := HOWN4.out
              rw [HOR.out, List.length_append, List.length_singleton, ints, List.map_append, List.map_append]
              exact h
            have hlo : o.length = l.length + 1 := by rw [HOR.out, List.length_append, List.length_singleton]
            have HW4 := hide hown4
            have HLO := hide hlo
            have HB4 := hide hB4
            clear hown4 hB4 hlo HOWN4 HGR4
            go_wp2_with fail
            go_roundw
            case rel => exact ⟨q + 1, o, a2, c2, by omega, by go_num, HO.out, by rw [HLO.out], HW4.out, HB4.out⟩
            case measure => simp [intOf] <;> omega
    · obtain rfl : j = J := by omega
      have hlf : l = fin := by
        have h := HF.out
        rw [HL.out] at h
        injection h
      subst hlf
      have hnl := HNF.out
      subst hnl
      go_wp2_with fail
      go_ret
      exact ⟨aq, cq, rfl, HOWN.out, HB.out⟩
end Go.Proofs.Yteocienbfhgmjaa
