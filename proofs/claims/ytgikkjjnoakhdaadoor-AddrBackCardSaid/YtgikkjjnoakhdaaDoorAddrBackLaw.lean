/- The law AddrBack (P4.6). -/
import Derived.Test.YtgikkjjnoakhdaaDoorAdAwake
namespace Go.Proofs.YtgikkjjnoakhdaaDoor
open Go.RowKit Go.Lib

theorem parse_printed (a : Nat) (ha : a < 4294967296) (W : World) (hE : Env W) : Calls Tryd.prog 11 #[.string ⟨(printS a).toArray⟩] W (fun e w' => e = .returned (.tuple #[.int .u32 a, .int .i64 0]) ∧ Below W.heap.size W w') := by
  have hl := prTo_len a 4
  rw [prTo_four] at hl
  have h := parse_any ⟨(printS a).toArray⟩ (by show (printS a).toArray.size < 100000; simp; omega) W hE
  rw [show (⟨(printS a).toArray⟩ : ByteArray).data.toList = printS a by simp, parse_print a ha] at h
  exact h
theorem printNet_len (c : Net) : (printNetS c).length ≤ 2000 := by
  unfold printNetS
  split
  · rename_i h
    have hl := prTo_len c.a 4
    rw [prTo_four] at hl
    have := decDigits_le c.b.toNat
    have := ((mayB_iff c).1 h).hi
    simp
    omega
  · simp
theorem parseNet_printed (c : Net) (hm : mayB c = true) (ha : c.a < 4294967296) (W : World) (hE : Env W) : Calls Tryd.prog 13 #[.string ⟨(printNetS c).toArray⟩] W (fun e w' => e = .returned (.tuple #[c.val, .int .i64 0]) ∧ Below W.heap.size W w') := by
  have hl := printNet_len c
  have h := parseNet_any ⟨(printNetS c).toArray⟩ (by show (printNetS c).toArray.size < 100000; simp; omega) W hE
  rw [show (⟨(printNetS c).toArray⟩ : ByteArray).data.toList = printNetS c by simp, parse_printNet c hm ha] at h
  exact h
theorem parseNet_unprinted (c : Net) (hm : mayB c = false) (W : World) (hE : Env W) : Calls Tryd.prog 13 #[.string ⟨(printNetS c).toArray⟩] W (fun e w' => e = .returned (.tuple #[.agg #[.int .u32 0, .int .i64 0], .int .i64 2]) ∧ Below W.heap.size W w') := by
  have h0 : printNetS c = [] := by unfold printNetS; rw [hm]; rfl
  rw [h0]
  have h := parseNet_any ⟨([] : List UInt8).toArray⟩ (by decide) W hE
  rw [show (⟨([] : List UInt8).toArray⟩ : ByteArray).data.toList = [] by simp, parseNet_nil] at h
  exact h
theorem print_back (s : ByteArray) (y : Nat) (h : parseS s.data.toList = some y) (W : World) (hE : Env W) : Calls Tryd.prog 15 #[.int .u32 y] W (fun e w' => e = .returned (.string s) ∧ Below W.heap.size W w') := by
  obtain ⟨h1, h2⟩ := print_parse _ y h
  have h3 := print_any y h2 W hE
  unfold StrPost at h3
  rw [h1] at h3
  exact h3
theorem printNet_back (s : ByteArray) (c : Net) (h : parseNetS s.data.toList = some c) (W : World) (hE : Env W) : Calls Tryd.prog 17 #[c.val] W (fun e w' => e = .returned (.string s) ∧ Below W.heap.size W w') := by
  obtain ⟨h1, _, h2⟩ := print_parseNet _ c h
  have h3 := printNet_any c h2 W hE
  unfold StrPost at h3
  rw [h1] at h3
  exact h3
theorem net_neq (a c : Nat) (b d : Int) (w : World) : (binOp BinOp.neq 24 (.agg #[.int .u32 (a : Int), .int .i64 b]) (.agg #[.int .u32 (c : Int), .int .i64 d])).run Tryd.prog w = .ok (.bool (!(decide (a = c) && decide (b = d)))) w := by
  have h := net_eql a c b d w
  rw [run_eql_struct] at h
  rw [run_neq_struct]
  generalize (Op.equalIn 10000 24 (.agg #[.int .u32 (a : Int), .int .i64 b]) (.agg #[.int .u32 (c : Int), .int .i64 d])).run Tryd.prog w = r at *
  cases r with
  | ok x w2 =>
    simp only [Result.andThen_ok] at h ⊢
    injection h with h1 h2
    injection h1 with h1
    rw [h1, h2]
  | halt x w2 => simp [Result.andThen] at h

set_option maxRecDepth 100000 in
set_option maxHeartbeats 4000000 in
theorem back_any (a : Nat) (ha : a < 4294967296) (c : Net) (hc : c.a < 4294967296) (s : ByteArray) (w : World) (hE : Env w) : Calls Tryd.prog 6 #[.int .u32 a, c.val, .string s] w (LawPost w) := by
  have HE := hide hE
  clear hE
  by_cases hs : 10000 < s.size
  · have hs' : (10000 : Int) < (s.size : Int) := by omega
    obtain ⟨ca, cb⟩ := c
    unfold Net.val
    dsimp only at hc
    have HB0 : Hid (Below w.heap.size w (w.alloc (.cells #[.int .u32 ca, .int .i64 cb] 24))) := hide ((Below.refl _ _).alloc (Nat.le_refl _) _)
    go_enter Tryd.func6, Tryd.ntmps6
    go_wp2_with fail
    refine (awake_any _ (HE.out.below HB0.out)).mono ?_
    rintro e w2 ⟨rfl, hB⟩
    go_wp2_with fail
    go_ret
    exact ⟨rfl, HB0.out.trans (hB.mono HB0.out.size)⟩
  · have hs' : ¬ (10000 : Int) < (s.size : Int) := by omega
    have HPP := hide (fun W hE => parse_printed a ha W hE)
    have HPR := hide (fun W hE => print_any a ha W hE)
    have HPS := hide (fun W hE => parse_any s (by omega) W hE)
    have HNS := hide (fun W hE => parseNet_any s (by omega) W hE)
    have HMC := hide (fun W => may_any c hc W)
    have HNP := hide (fun W hE => printNet_any c hc W hE)
    have HBK := hide (fun y (h : parseS s.data.toList = some y) W hE => print_back s y h W hE)
    have HNB := hide (fun y (h : parseNetS s.data.toList = some y) W hE => printNet_back s y h W hE)
    have HNM := hide (fun y (h : parseNetS s.data.toList = some y) => (print_parseNet _ y h).2)
    have HNY := hide (fun (hm : mayB c = true) W hE => parseNet_printed c hm hc W hE)
    have HNN := hide (fun (hm : mayB c = false) W hE => parseNet_unprinted c hm W hE)
    obtain ⟨m, hm⟩ : ∃ m, mayB c = m := ⟨_, rfl⟩
    obtain ⟨x, hx⟩ : ∃ x, parseS s.data.toList = x := ⟨_, rfl⟩
    obtain ⟨y, hy⟩ : ∃ x, parseNetS s.data.toList = x := ⟨_, rfl⟩
    rw [hm] at HMC HNY HNN
    rw [hx] at HPS HBK
    rw [hy] at HNS HNB HNM
    unfold StrPost at HPR HNP
    unfold ParPost at HPS
    unfold PNetPost at HNS
    obtain ⟨ca, cb⟩ := c
    unfold Net.val at *
    dsimp only at *
    generalize printNetS ⟨ca, cb⟩ = PN at *
    generalize printS a = PA at *
    clear hx hy hm hc
    have he := fun W : World => net_neq ca ca cb cb W
    simp only [decide_true, Bool.and_self, Bool.not_true] at he
    have HB0 : Hid (Below w.heap.size w (w.alloc (.cells #[.int .u32 ca, .int .i64 cb] 24))) := hide ((Below.refl _ _).alloc (Nat.le_refl _) _)
    have HX0 : Hid (BoxAt (w.alloc (.cells #[.int .u32 ca, .int .i64 cb] 24)) w.heap.size ca cb) := hide (BoxAt.new w ca cb)
    go_enter Tryd.func6, Tryd.ntmps6
    go_wp2_with fail
    refine (HPR.out _ (HE.out.below HB0.out)).mono ?_
    rintro e w1_ ⟨rfl, hB⟩
    have HXc1 := hide (HX0.out.below_b hB)
    have HB1_ := hide (HB0.out.trans (hB.mono HB0.out.size))
    clear hB
    go_wp2_with fail
    refine (HPP.out _ (HE.out.below HB1_.out)).mono ?_
    rintro e w2_ ⟨rfl, hB⟩
    have HXc2 := hide (HXc1.out.below_b hB)
    have HB2_ := hide (HB1_.out.trans (hB.mono HB1_.out.size))
    clear hB
    have c0c := HXc2.out.c0
    have c1c := HXc2.out.c1
    go_wp2_with fail
    refine (HNP.out _ (HE.out.below HB2_.out)).mono ?_
    rintro e w3_ ⟨rfl, hB⟩
    clear c0c c1c
    have HXc3 := hide (HXc2.out.below_b hB)
    have HB3_ := hide (HB2_.out.trans (hB.mono HB2_.out.size))
    clear hB
    cases m with
    | false =>
      have HNQ := hide (HNN.out rfl)
      go_wp2_with fail
      refine (HNQ.out _ (HE.out.below HB3_.out)).mono ?_
      rintro e w4_ ⟨rfl, hB⟩
      have HXc4 := hide (HXc3.out.below_b hB)
      have HB4_ := hide (HB3_.out.trans (hB.mono HB3_.out.size))
      clear hB
      have HXc5 := hide (HXc4.out.below_b ((Below.refl w4_.heap.size w4_).alloc (Nat.le_refl _) (.cells #[.int .u32 0, .int .i64 0] 24)))
      have HB5_ := hide (HB4_.out.trans (((Below.refl w4_.heap.size w4_).alloc (Nat.le_refl _) (.cells #[.int .u32 0, .int .i64 0] 24)).mono HB4_.out.size))
      have HXd5 : Hid (BoxAt (w4_.alloc (.cells #[.int .u32 0, .int .i64 0] 24)) w4_.heap.size 0 0) := hide (BoxAt.new w4_ 0 0)
      have c0c := HXc5.out.c0
      have c1c := HXc5.out.c1
      go_wp2_with fail
      refine (HMC.out _).mono ?_
      rintro e w6_ ⟨rfl, hB⟩
      clear c0c c1c
      have HXc6 := hide (HXc5.out.below_b hB)
      have HXd6 := hide (HXd5.out.below_b hB)
      have HB6_ := hide (HB5_.out.trans (hB.mono HB5_.out.size))
      clear hB
      go_wp2_with fail
      clear HNN HNY HMC HNP HPR HPP HNQ he
      cases x with
      | none =>
        have HPQ : Hid (∀ W : World, Env W → Calls Tryd.prog 11 #[.string s] W (fun e w' => e = .returned (.tuple #[.int .u32 0, .int .i64 2]) ∧ Below W.heap.size W w')) := hide HPS.out
        clear HPS
        refine (HPQ.out _ (HE.out.below HB6_.out)).mono ?_
        rintro e w7_ ⟨rfl, hB⟩
        have HXc7 := hide (HXc6.out.below_b hB)
        have HXd7 := hide (HXd6.out.below_b hB)
        have HB7_ := hide (HB6_.out.trans (hB.mono HB6_.out.size))
        clear hB
        cases y with
        | none =>
          have HNQ : Hid (∀ W : World, Env W → Calls Tryd.prog 13 #[.string s] W (fun e w' => e = .returned (.tuple #[.agg #[.int .u32 0, .int .i64 0], .int .i64 2]) ∧ Below W.heap.size W w')) := hide HNS.out
          clear HNS
          go_wp2_with fail
          refine (HNQ.out _ (HE.out.below HB7_.out)).mono ?_
          rintro e w8_ ⟨rfl, hB⟩
          have HXc8 := hide (HXc7.out.below_b hB)
          have HXd8 := hide (HXd7.out.below_b hB)
          have HB8_ := hide (HB7_.out.trans (hB.mono HB7_.out.size))
          clear hB
          have HXc9 := hide (HXc8.out.below_b ((Below.refl w8_.heap.size w8_).alloc (Nat.le_refl _) (.cells #[.int .u32 0, .int .i64 0] 24)))
          have HXd9 := hide (HXd8.out.below_b ((Below.refl w8_.heap.size w8_).alloc (Nat.le_refl _) (.cells #[.int .u32 0, .int .i64 0] 24)))
          have HB9_ := hide (HB8_.out.trans (((Below.refl w8_.heap.size w8_).alloc (Nat.le_refl _) (.cells #[.int .u32 0, .int .i64 0] 24)).mono HB8_.out.size))
          have HXn9 : Hid (BoxAt (w8_.alloc (.cells #[.int .u32 0, .int .i64 0] 24)) w8_.heap.size 0 0) := hide (BoxAt.new w8_ 0 0)
          go_wp2_with fail
          refine (awake_any _ (HE.out.below HB9_.out)).mono ?_
          rintro e w10_ ⟨rfl, hB⟩
          have HXc10 := hide (HXc9.out.below_b hB)
          have HXd10 := hide (HXd9.out.below_b hB)
          have HXn10 := hide (HXn9.out.below_b hB)
          have HB10_ := hide (HB9_.out.trans (hB.mono HB9_.out.size))
          clear hB
          go_wp2_with fail
          go_ret
          exact ⟨rfl, HB10_.out⟩
        | some n =>
          obtain ⟨na, nb⟩ := n
          have HNQ : Hid (∀ W : World, Env W → Calls Tryd.prog 13 #[.string s] W (fun e w' => e = .returned (.tuple #[.agg #[.int .u32 (na : Nat), .int .i64 nb], .int .i64 0]) ∧ Below W.heap.size W w')) := hide HNS.out
          have HNR := hide (HNB.out ⟨na, nb⟩ rfl)
          have hnm := HNM.out ⟨na, nb⟩ rfl
          have HMY := hide (fun W => may_any ⟨na, nb⟩ hnm.2 W)
          rw [hnm.1] at HMY
          unfold Net.val at HMY
          dsimp only at HNR
          clear HNS HNB HNM hnm
          go_wp2_with fail
          refine (HNQ.out _ (HE.out.below HB7_.out)).mono ?_
          rintro e w8_ ⟨rfl, hB⟩
          have HXc8 := hide (HXc7.out.below_b hB)
          have HXd8 := hide (HXd7.out.below_b hB)
          have HB8_ := hide (HB7_.out.trans (hB.mono HB7_.out.size))
          clear hB
          have HXc9 := hide (HXc8.out.below_b ((Below.refl w8_.heap.size w8_).alloc (Nat.le_refl _) (.cells #[.int .u32 na, .int .i64 nb] 24)))
          have HXd9 := hide (HXd8.out.below_b ((Below.refl w8_.heap.size w8_).alloc (Nat.le_refl _) (.cells #[.int .u32 na, .int .i64 nb] 24)))
          have HB9_ := hide (HB8_.out.trans (((Below.refl w8_.heap.size w8_).alloc (Nat.le_refl _) (.cells #[.int .u32 na, .int .i64 nb] 24)).mono HB8_.out.size))
          have HXn9 : Hid (BoxAt (w8_.alloc (.cells #[.int .u32 na, .int .i64 nb] 24)) w8_.heap.size na nb) := hide (BoxAt.new w8_ na nb)
          have c0n := HXn9.out.c0
          have c1n := HXn9.out.c1
          go_wp2_with fail
          refine (HNR.out _ (HE.out.below HB9_.out)).mono ?_
          rintro e w10_ ⟨rfl, hB⟩
          clear c0n c1n
          have HXc10 := hide (HXc9.out.below_b hB)
          have HXd10 := hide (HXd9.out.below_b hB)
          have HXn10 := hide (HXn9.out.below_b hB)
          have HB10_ := hide (HB9_.out.trans (hB.mono HB9_.out.size))
          clear hB
          have c0n := HXn10.out.c0
          have c1n := HXn10.out.c1
          go_wp2_with fail
          refine (HMY.out _).mono ?_
          rintro e w11_ ⟨rfl, hB⟩
          clear c0n c1n
          have HXc11 := hide (HXc10.out.below_b hB)
          have HXd11 := hide (HXd10.out.below_b hB)
          have HXn11 := hide (HXn10.out.below_b hB)
          have HB11_ := hide (HB10_.out.trans (hB.mono HB10_.out.size))
          clear hB
          go_wp2_with fail
          refine (awake_any _ (HE.out.below HB11_.out)).mono ?_
          rintro e w12_ ⟨rfl, hB⟩
          have HXc12 := hide (HXc11.out.below_b hB)
          have HXd12 := hide (HXd11.out.below_b hB)
          have HXn12 := hide (HXn11.out.below_b hB)
          have HB12_ := hide (HB11_.out.trans (hB.mono HB11_.out.size))
          clear hB
          go_wp2_with fail
          go_ret
          exact ⟨rfl, HB12_.out⟩
      | some z =>
        have HPQ : Hid (∀ W : World, Env W → Calls Tryd.prog 11 #[.string s] W (fun e w' => e = .returned (.tuple #[.int .u32 (z : Nat), .int .i64 0]) ∧ Below W.heap.size W w')) := hide HPS.out
        have HBQ := hide (HBK.out z rfl)
        clear HPS HBK
        refine (HPQ.out _ (HE.out.below HB6_.out)).mono ?_
        rintro e w7_ ⟨rfl, hB⟩
        have HXc7 := hide (HXc6.out.below_b hB)
        have HXd7 := hide (HXd6.out.below_b hB)
        have HB7_ := hide (HB6_.out.trans (hB.mono HB6_.out.size))
        clear hB
        go_wp2_with fail
        refine (HBQ.out _ (HE.out.below HB7_.out)).mono ?_
        rintro e w8_ ⟨rfl, hB⟩
        have HXc8 := hide (HXc7.out.below_b hB)
        have HXd8 := hide (HXd7.out.below_b hB)
        have HB8_ := hide (HB7_.out.trans (hB.mono HB7_.out.size))
        clear hB
        cases y with
        | none =>
          have HNQ : Hid (∀ W : World, Env W → Calls Tryd.prog 13 #[.string s] W (fun e w' => e = .returned (.tuple #[.agg #[.int .u32 0, .int .i64 0], .int .i64 2]) ∧ Below W.heap.size W w')) := hide HNS.out
          clear HNS
          go_wp2_with fail
          refine (HNQ.out _ (HE.out.below HB8_.out)).mono ?_
          rintro e w9_ ⟨rfl, hB⟩
          have HXc9 := hide (HXc8.out.below_b hB)
          have HXd9 := hide (HXd8.out.below_b hB)
          have HB9_ := hide (HB8_.out.trans (hB.mono HB8_.out.size))
          clear hB
          have HXc10 := hide (HXc9.out.below_b ((Below.refl w9_.heap.size w9_).alloc (Nat.le_refl _) (.cells #[.int .u32 0, .int .i64 0] 24)))
          have HXd10 := hide (HXd9.out.below_b ((Below.refl w9_.heap.size w9_).alloc (Nat.le_refl _) (.cells #[.int .u32 0, .int .i64 0] 24)))
          have HB10_ := hide (HB9_.out.trans (((Below.refl w9_.heap.size w9_).alloc (Nat.le_refl _) (.cells #[.int .u32 0, .int .i64 0] 24)).mono HB9_.out.size))
          have HXn10 : Hid (BoxAt (w9_.alloc (.cells #[.int .u32 0, .int .i64 0] 24)) w9_.heap.size 0 0) := hide (BoxAt.new w9_ 0 0)
          go_wp2_with fail
          refine (awake_any _ (HE.out.below HB10_.out)).mono ?_
          rintro e w11_ ⟨rfl, hB⟩
          have HXc11 := hide (HXc10.out.below_b hB)
          have HXd11 := hide (HXd10.out.below_b hB)
          have HXn11 := hide (HXn10.out.below_b hB)
          have HB11_ := hide (HB10_.out.trans (hB.mono HB10_.out.size))
          clear hB
          go_wp2_with fail
          go_ret
          exact ⟨rfl, HB11_.out⟩
        | some n =>
          obtain ⟨na, nb⟩ := n
          have HNQ : Hid (∀ W : World, Env W → Calls Tryd.prog 13 #[.string s] W (fun e w' => e = .returned (.tuple #[.agg #[.int .u32 (na : Nat), .int .i64 nb], .int .i64 0]) ∧ Below W.heap.size W w')) := hide HNS.out
          have HNR := hide (HNB.out ⟨na, nb⟩ rfl)
          have hnm := HNM.out ⟨na, nb⟩ rfl
          have HMY := hide (fun W => may_any ⟨na, nb⟩ hnm.2 W)
          rw [hnm.1] at HMY
          unfold Net.val at HMY
          dsimp only at HNR
          clear HNS HNB HNM hnm
          go_wp2_with fail
          refine (HNQ.out _ (HE.out.below HB8_.out)).mono ?_
          rintro e w9_ ⟨rfl, hB⟩
          have HXc9 := hide (HXc8.out.below_b hB)
          have HXd9 := hide (HXd8.out.below_b hB)
          have HB9_ := hide (HB8_.out.trans (hB.mono HB8_.out.size))
          clear hB
          have HXc10 := hide (HXc9.out.below_b ((Below.refl w9_.heap.size w9_).alloc (Nat.le_refl _) (.cells #[.int .u32 na, .int .i64 nb] 24)))
          have HXd10 := hide (HXd9.out.below_b ((Below.refl w9_.heap.size w9_).alloc (Nat.le_refl _) (.cells #[.int .u32 na, .int .i64 nb] 24)))
          have HB10_ := hide (HB9_.out.trans (((Below.refl w9_.heap.size w9_).alloc (Nat.le_refl _) (.cells #[.int .u32 na, .int .i64 nb] 24)).mono HB9_.out.size))
          have HXn10 : Hid (BoxAt (w9_.alloc (.cells #[.int .u32 na, .int .i64 nb] 24)) w9_.heap.size na nb) := hide (BoxAt.new w9_ na nb)
          have c0n := HXn10.out.c0
          have c1n := HXn10.out.c1
          go_wp2_with fail
          refine (HNR.out _ (HE.out.below HB10_.out)).mono ?_
          rintro e w11_ ⟨rfl, hB⟩
          clear c0n c1n
          have HXc11 := hide (HXc10.out.below_b hB)
          have HXd11 := hide (HXd10.out.below_b hB)
          have HXn11 := hide (HXn10.out.below_b hB)
          have HB11_ := hide (HB10_.out.trans (hB.mono HB10_.out.size))
          clear hB
          have c0n := HXn11.out.c0
          have c1n := HXn11.out.c1
          go_wp2_with fail
          refine (HMY.out _).mono ?_
          rintro e w12_ ⟨rfl, hB⟩
          clear c0n c1n
          have HXc12 := hide (HXc11.out.below_b hB)
          have HXd12 := hide (HXd11.out.below_b hB)
          have HXn12 := hide (HXn11.out.below_b hB)
          have HB12_ := hide (HB11_.out.trans (hB.mono HB11_.out.size))
          clear hB
          go_wp2_with fail
          refine (awake_any _ (HE.out.below HB12_.out)).mono ?_
          rintro e w13_ ⟨rfl, hB⟩
          have HXc13 := hide (HXc12.out.below_b hB)
          have HXd13 := hide (HXd12.out.below_b hB)
          have HXn13 := hide (HXn12.out.below_b hB)
          have HB13_ := hide (HB12_.out.trans (hB.mono HB12_.out.size))
          clear hB
          go_wp2_with fail
          go_ret
          exact ⟨rfl, HB13_.out⟩
    | true =>
      have HNQ := hide (HNY.out rfl)
      go_wp2_with fail
      refine (HNQ.out _ (HE.out.below HB3_.out)).mono ?_
      rintro e w4_ ⟨rfl, hB⟩
      have HXc4 := hide (HXc3.out.below_b hB)
      have HB4_ := hide (HB3_.out.trans (hB.mono HB3_.out.size))
      clear hB
      have HXc5 := hide (HXc4.out.below_b ((Below.refl w4_.heap.size w4_).alloc (Nat.le_refl _) (.cells #[.int .u32 ca, .int .i64 cb] 24)))
      have HB5_ := hide (HB4_.out.trans (((Below.refl w4_.heap.size w4_).alloc (Nat.le_refl _) (.cells #[.int .u32 ca, .int .i64 cb] 24)).mono HB4_.out.size))
      have HXd5 : Hid (BoxAt (w4_.alloc (.cells #[.int .u32 ca, .int .i64 cb] 24)) w4_.heap.size ca cb) := hide (BoxAt.new w4_ ca cb)
      have c0c := HXc5.out.c0
      have c1c := HXc5.out.c1
      go_wp2_with fail
      refine (HMC.out _).mono ?_
      rintro e w6_ ⟨rfl, hB⟩
      clear c0c c1c
      have HXc6 := hide (HXc5.out.below_b hB)
      have HXd6 := hide (HXd5.out.below_b hB)
      have HB6_ := hide (HB5_.out.trans (hB.mono HB5_.out.size))
      clear hB
      have c0c := HXc6.out.c0
      have c1c := HXc6.out.c1
      have c0d := HXd6.out.c0
      have c1d := HXd6.out.c1
      go_wp2_with fail
      clear c0c c1c c0d c1d
      clear HNN HNY HMC HNP HPR HPP HNQ he
      cases x with
      | none =>
        have HPQ : Hid (∀ W : World, Env W → Calls Tryd.prog 11 #[.string s] W (fun e w' => e = .returned (.tuple #[.int .u32 0, .int .i64 2]) ∧ Below W.heap.size W w')) := hide HPS.out
        clear HPS
        refine (HPQ.out _ (HE.out.below HB6_.out)).mono ?_
        rintro e w7_ ⟨rfl, hB⟩
        have HXc7 := hide (HXc6.out.below_b hB)
        have HXd7 := hide (HXd6.out.below_b hB)
        have HB7_ := hide (HB6_.out.trans (hB.mono HB6_.out.size))
        clear hB
        cases y with
        | none =>
          have HNQ : Hid (∀ W : World, Env W → Calls Tryd.prog 13 #[.string s] W (fun e w' => e = .returned (.tuple #[.agg #[.int .u32 0, .int .i64 0], .int .i64 2]) ∧ Below W.heap.size W w')) := hide HNS.out
          clear HNS
          go_wp2_with fail
          refine (HNQ.out _ (HE.out.below HB7_.out)).mono ?_
          rintro e w8_ ⟨rfl, hB⟩
          have HXc8 := hide (HXc7.out.below_b hB)
          have HXd8 := hide (HXd7.out.below_b hB)
          have HB8_ := hide (HB7_.out.trans (hB.mono HB7_.out.size))
          clear hB
          have HXc9 := hide (HXc8.out.below_b ((Below.refl w8_.heap.size w8_).alloc (Nat.le_refl _) (.cells #[.int .u32 0, .int .i64 0] 24)))
          have HXd9 := hide (HXd8.out.below_b ((Below.refl w8_.heap.size w8_).alloc (Nat.le_refl _) (.cells #[.int .u32 0, .int .i64 0] 24)))
          have HB9_ := hide (HB8_.out.trans (((Below.refl w8_.heap.size w8_).alloc (Nat.le_refl _) (.cells #[.int .u32 0, .int .i64 0] 24)).mono HB8_.out.size))
          have HXn9 : Hid (BoxAt (w8_.alloc (.cells #[.int .u32 0, .int .i64 0] 24)) w8_.heap.size 0 0) := hide (BoxAt.new w8_ 0 0)
          go_wp2_with fail
          refine (awake_any _ (HE.out.below HB9_.out)).mono ?_
          rintro e w10_ ⟨rfl, hB⟩
          have HXc10 := hide (HXc9.out.below_b hB)
          have HXd10 := hide (HXd9.out.below_b hB)
          have HXn10 := hide (HXn9.out.below_b hB)
          have HB10_ := hide (HB9_.out.trans (hB.mono HB9_.out.size))
          clear hB
          go_wp2_with fail
          go_ret
          exact ⟨rfl, HB10_.out⟩
        | some n =>
          obtain ⟨na, nb⟩ := n
          have HNQ : Hid (∀ W : World, Env W → Calls Tryd.prog 13 #[.string s] W (fun e w' => e = .returned (.tuple #[.agg #[.int .u32 (na : Nat), .int .i64 nb], .int .i64 0]) ∧ Below W.heap.size W w')) := hide HNS.out
          have HNR := hide (HNB.out ⟨na, nb⟩ rfl)
          have hnm := HNM.out ⟨na, nb⟩ rfl
          have HMY := hide (fun W => may_any ⟨na, nb⟩ hnm.2 W)
          rw [hnm.1] at HMY
          unfold Net.val at HMY
          dsimp only at HNR
          clear HNS HNB HNM hnm
          go_wp2_with fail
          refine (HNQ.out _ (HE.out.below HB7_.out)).mono ?_
          rintro e w8_ ⟨rfl, hB⟩
          have HXc8 := hide (HXc7.out.below_b hB)
          have HXd8 := hide (HXd7.out.below_b hB)
          have HB8_ := hide (HB7_.out.trans (hB.mono HB7_.out.size))
          clear hB
          have HXc9 := hide (HXc8.out.below_b ((Below.refl w8_.heap.size w8_).alloc (Nat.le_refl _) (.cells #[.int .u32 na, .int .i64 nb] 24)))
          have HXd9 := hide (HXd8.out.below_b ((Below.refl w8_.heap.size w8_).alloc (Nat.le_refl _) (.cells #[.int .u32 na, .int .i64 nb] 24)))
          have HB9_ := hide (HB8_.out.trans (((Below.refl w8_.heap.size w8_).alloc (Nat.le_refl _) (.cells #[.int .u32 na, .int .i64 nb] 24)).mono HB8_.out.size))
          have HXn9 : Hid (BoxAt (w8_.alloc (.cells #[.int .u32 na, .int .i64 nb] 24)) w8_.heap.size na nb) := hide (BoxAt.new w8_ na nb)
          have c0n := HXn9.out.c0
          have c1n := HXn9.out.c1
          go_wp2_with fail
          refine (HNR.out _ (HE.out.below HB9_.out)).mono ?_
          rintro e w10_ ⟨rfl, hB⟩
          clear c0n c1n
          have HXc10 := hide (HXc9.out.below_b hB)
          have HXd10 := hide (HXd9.out.below_b hB)
          have HXn10 := hide (HXn9.out.below_b hB)
          have HB10_ := hide (HB9_.out.trans (hB.mono HB9_.out.size))
          clear hB
          have c0n := HXn10.out.c0
          have c1n := HXn10.out.c1
          go_wp2_with fail
          refine (HMY.out _).mono ?_
          rintro e w11_ ⟨rfl, hB⟩
          clear c0n c1n
          have HXc11 := hide (HXc10.out.below_b hB)
          have HXd11 := hide (HXd10.out.below_b hB)
          have HXn11 := hide (HXn10.out.below_b hB)
          have HB11_ := hide (HB10_.out.trans (hB.mono HB10_.out.size))
          clear hB
          go_wp2_with fail
          refine (awake_any _ (HE.out.below HB11_.out)).mono ?_
          rintro e w12_ ⟨rfl, hB⟩
          have HXc12 := hide (HXc11.out.below_b hB)
          have HXd12 := hide (HXd11.out.below_b hB)
          have HXn12 := hide (HXn11.out.below_b hB)
          have HB12_ := hide (HB11_.out.trans (hB.mono HB11_.out.size))
          clear hB
          go_wp2_with fail
          go_ret
          exact ⟨rfl, HB12_.out⟩
      | some z =>
        have HPQ : Hid (∀ W : World, Env W → Calls Tryd.prog 11 #[.string s] W (fun e w' => e = .returned (.tuple #[.int .u32 (z : Nat), .int .i64 0]) ∧ Below W.heap.size W w')) := hide HPS.out
        have HBQ := hide (HBK.out z rfl)
        clear HPS HBK
        refine (HPQ.out _ (HE.out.below HB6_.out)).mono ?_
        rintro e w7_ ⟨rfl, hB⟩
        have HXc7 := hide (HXc6.out.below_b hB)
        have HXd7 := hide (HXd6.out.below_b hB)
        have HB7_ := hide (HB6_.out.trans (hB.mono HB6_.out.size))
        clear hB
        go_wp2_with fail
        refine (HBQ.out _ (HE.out.below HB7_.out)).mono ?_
        rintro e w8_ ⟨rfl, hB⟩
        have HXc8 := hide (HXc7.out.below_b hB)
        have HXd8 := hide (HXd7.out.below_b hB)
        have HB8_ := hide (HB7_.out.trans (hB.mono HB7_.out.size))
        clear hB
        cases y with
        | none =>
          have HNQ : Hid (∀ W : World, Env W → Calls Tryd.prog 13 #[.string s] W (fun e w' => e = .returned (.tuple #[.agg #[.int .u32 0, .int .i64 0], .int .i64 2]) ∧ Below W.heap.size W w')) := hide HNS.out
          clear HNS
          go_wp2_with fail
          refine (HNQ.out _ (HE.out.below HB8_.out)).mono ?_
          rintro e w9_ ⟨rfl, hB⟩
          have HXc9 := hide (HXc8.out.below_b hB)
          have HXd9 := hide (HXd8.out.below_b hB)
          have HB9_ := hide (HB8_.out.trans (hB.mono HB8_.out.size))
          clear hB
          have HXc10 := hide (HXc9.out.below_b ((Below.refl w9_.heap.size w9_).alloc (Nat.le_refl _) (.cells #[.int .u32 0, .int .i64 0] 24)))
          have HXd10 := hide (HXd9.out.below_b ((Below.refl w9_.heap.size w9_).alloc (Nat.le_refl _) (.cells #[.int .u32 0, .int .i64 0] 24)))
          have HB10_ := hide (HB9_.out.trans (((Below.refl w9_.heap.size w9_).alloc (Nat.le_refl _) (.cells #[.int .u32 0, .int .i64 0] 24)).mono HB9_.out.size))
          have HXn10 : Hid (BoxAt (w9_.alloc (.cells #[.int .u32 0, .int .i64 0] 24)) w9_.heap.size 0 0) := hide (BoxAt.new w9_ 0 0)
          go_wp2_with fail
          refine (awake_any _ (HE.out.below HB10_.out)).mono ?_
          rintro e w11_ ⟨rfl, hB⟩
          have HXc11 := hide (HXc10.out.below_b hB)
          have HXd11 := hide (HXd10.out.below_b hB)
          have HXn11 := hide (HXn10.out.below_b hB)
          have HB11_ := hide (HB10_.out.trans (hB.mono HB10_.out.size))
          clear hB
          go_wp2_with fail
          go_ret
          exact ⟨rfl, HB11_.out⟩
        | some n =>
          obtain ⟨na, nb⟩ := n
          have HNQ : Hid (∀ W : World, Env W → Calls Tryd.prog 13 #[.string s] W (fun e w' => e = .returned (.tuple #[.agg #[.int .u32 (na : Nat), .int .i64 nb], .int .i64 0]) ∧ Below W.heap.size W w')) := hide HNS.out
          have HNR := hide (HNB.out ⟨na, nb⟩ rfl)
          have hnm := HNM.out ⟨na, nb⟩ rfl
          have HMY := hide (fun W => may_any ⟨na, nb⟩ hnm.2 W)
          rw [hnm.1] at HMY
          unfold Net.val at HMY
          dsimp only at HNR
          clear HNS HNB HNM hnm
          go_wp2_with fail
          refine (HNQ.out _ (HE.out.below HB8_.out)).mono ?_
          rintro e w9_ ⟨rfl, hB⟩
          have HXc9 := hide (HXc8.out.below_b hB)
          have HXd9 := hide (HXd8.out.below_b hB)
          have HB9_ := hide (HB8_.out.trans (hB.mono HB8_.out.size))
          clear hB
          have HXc10 := hide (HXc9.out.below_b ((Below.refl w9_.heap.size w9_).alloc (Nat.le_refl _) (.cells #[.int .u32 na, .int .i64 nb] 24)))
          have HXd10 := hide (HXd9.out.below_b ((Below.refl w9_.heap.size w9_).alloc (Nat.le_refl _) (.cells #[.int .u32 na, .int .i64 nb] 24)))
          have HB10_ := hide (HB9_.out.trans (((Below.refl w9_.heap.size w9_).alloc (Nat.le_refl _) (.cells #[.int .u32 na, .int .i64 nb] 24)).mono HB9_.out.size))
          have HXn10 : Hid (BoxAt (w9_.alloc (.cells #[.int .u32 na, .int .i64 nb] 24)) w9_.heap.size na nb) := hide (BoxAt.new w9_ na nb)
          have c0n := HXn10.out.c0
          have c1n := HXn10.out.c1
          go_wp2_with fail
          refine (HNR.out _ (HE.out.below HB10_.out)).mono ?_
          rintro e w11_ ⟨rfl, hB⟩
          clear c0n c1n
          have HXc11 := hide (HXc10.out.below_b hB)
          have HXd11 := hide (HXd10.out.below_b hB)
          have HXn11 := hide (HXn10.out.below_b hB)
          have HB11_ := hide (HB10_.out.trans (hB.mono HB10_.out.size))
          clear hB
          have c0n := HXn11.out.c0
          have c1n := HXn11.out.c1
          go_wp2_with fail
          refine (HMY.out _).mono ?_
          rintro e w12_ ⟨rfl, hB⟩
          clear c0n c1n
          have HXc12 := hide (HXc11.out.below_b hB)
          have HXd12 := hide (HXd11.out.below_b hB)
          have HXn12 := hide (HXn11.out.below_b hB)
          have HB12_ := hide (HB11_.out.trans (hB.mono HB11_.out.size))
          clear hB
          go_wp2_with fail
          refine (awake_any _ (HE.out.below HB12_.out)).mono ?_
          rintro e w13_ ⟨rfl, hB⟩
          have HXc13 := hide (HXc12.out.below_b hB)
          have HXd13 := hide (HXd12.out.below_b hB)
          have HXn13 := hide (HXn12.out.below_b hB)
          have HB13_ := hide (HB12_.out.trans (hB.mono HB12_.out.size))
          clear hB
          go_wp2_with fail
          go_ret
          exact ⟨rfl, HB13_.out⟩
end Go.Proofs.YtgikkjjnoakhdaaDoor
