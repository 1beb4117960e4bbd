/- The law HeadsBack (P9.6): a header that may be, with its letters large; a text that is not read. -/
import Derived.Test.YtilefgmlnmpeoaaDoorHeadsBack0
import Derived.Deep.Slices
namespace Go.Proofs.YtilefgmlnmpeoaaDoor
open Go.RowKit Go.Lib

set_option maxRecDepth 100000 in
set_option maxHeartbeats 8000000 in
theorem back_large_no (h : Hd) (s : ByteArray) (ahead behind : Int) (large : Bool) (w0 : World) (hE : Env w0) (a b : Nat) (ea : ahead = (a : Int)) (eb : behind = (b : Int)) (ha : a ≤ 20) (hb : b ≤ 20) (hh : longH h = false) (hs : s.size ≤ 2000) (hg : goodP h = true) (e0 : Nat) (rn rv : List UInt8) (hr : readP s.data.toList = (e0, rn, rv)) (he : e0 ≠ 0) (hlg : large = true) : Calls Tryd.prog 6 #[hdV h, .string s, .int .i64 ahead, .int .i64 behind, .bool large] w0 (fun e w' => e = .returned (.bool true) ∧ Below w0.heap.size w0 w') := by
  have LW := hideL (fun W (hE : Env W) => awake_any W hE)
  have HS := hideL (SL.new h (GAt.nil w0) hE)
  have L2 := long_lit h (w0.alloc (.cells #[.string h.n, .string h.v] 23))
  rw [show (⟨(w0.alloc (.cells #[.string h.n, .string h.v] 23)).heap.size, 0, none⟩ : Addr) = ⟨w0.heap.size + 1, 0, none⟩ from by rw [World.size_alloc]] at L2
  replace L2 := hideL L2
  subst ea eb
  rw [hh] at L2
  have s0 : ¬ (2000 : Int) < (s.size : Int) := by omega
  have hhs := longH_no hh
  have RS := hideL (readN_any s (by omega) e0 rn rv hr)
  subst hlg
  have i1 : ¬ (a : Int) < 0 := by omega
  have i2 : ¬ (20 : Int) < (a : Int) := by omega
  have i3 : ¬ (b : Int) < 0 := by omega
  have i4 : ¬ (20 : Int) < (b : Int) := by omega
  obtain ⟨hn0, hv0⟩ := readP_no hr he
  rw [hn0, hv0] at RS
  obtain ⟨xn, hxn⟩ : ∃ x, (⟨#[]⟩ : ByteArray) = x := ⟨_, rfl⟩
  obtain ⟨xv, hxv⟩ : ∃ x, (⟨#[]⟩ : ByteArray) = x := ⟨_, rfl⟩
  subst hxn hxv
  have he2 : (((e0 : Nat) : Int) == 0) = false := beq_eq_false_iff_ne.2 (by omega)
  rw [show bo [] = (⟨#[]⟩ : ByteArray) from rfl] at RS
  have hgz := goodP_size hg
  have LB := hideL (lineGood_any h hg)
  have RL := hideL (readLine_any h hg)
  have HW := hideL (fun (M a b : List UInt8) (T : ByteArray) hM ha hb hT => @wide_read h.n h.v M a b hg hM ha hb T hT)
  clear hh hs hr hg hhs he hn0 hv0
  obtain ⟨n, c⟩ := h
  simp only [hdV] at *
  clear hE
  generalize lineP ⟨n, c⟩ = LN at *
  go_enter Tryd.func6, Tryd.ntmps6
  go_upto_region 8 with (first
    | (go_at_call 9; with_reducible refine L2.out.mono ?_; rintro e w1 ⟨rfl, hB⟩; replace HS := hideL (HS.out.next hB); (try clear c0 c1); have c0 := HS.out.bx.c0; have c1 := HS.out.bx.c1; clear hB)
    | (go_at_call 17; with_reducible refine (LB.out _).mono ?_; rintro e w2 ⟨rfl, hB⟩; replace HS := hideL (HS.out.next hB); (try clear c0 c1); have c0 := HS.out.bx.c0; have c1 := HS.out.bx.c1; clear hB)
    | (go_at_call 19; with_reducible refine (RL.out _).mono ?_; rintro e w3 ⟨rfl, hB⟩; have hA := (Below.refl w3.heap.size w3).alloc (Nat.le_refl _) (.cells #[.string n, .string c] 23); replace HS := hideL ((HS.out.next hB).next hA); (try clear c0 c1); have c0 := HS.out.bx.c0; have c1 := HS.out.bx.c1; clear hB hA))
  obtain ⟨W5, hW5⟩ : ∃ W5, W5 = w3.alloc (.cells #[.string n, .string c] 23) := ⟨_, rfl⟩
  rw [← hW5] at HS c0 c1 ⊢
  (try rw [← hW5] at *)
  have hcv := Lib.run_convert_string_bytes (P := Tryd.prog) W5 9 52 5 n (u := .string) Tryd.underlying9 Tryd.underlying52 Tryd.underlying5
  have HB6 := hideL (Lib.bytesWorld_below W5 5 n)
  have HM := hideL (BufAt.made W5 n)
  obtain ⟨W6, hW6⟩ : ∃ W6, W6 = Lib.bytesWorld W5 5 n := ⟨_, rfl⟩
  rw [← hW6] at hcv HB6 HM
  generalize grownCap W5 n.size 0 5 = cap at hcv
  have hlen := size_list n
  obtain ⟨L, hL⟩ : ∃ L, n.data.toList = L := ⟨_, rfl⟩
  have HLL := hideL hL
  rw [hL] at HM hlen
  have HL := hideL hlen
  obtain ⟨nn, hnn⟩ : ∃ x, n.size = x := ⟨_, rfl⟩
  have HNN := hideL hnn
  rw [hnn] at hcv HL hgz
  obtain ⟨g, hg5⟩ : ∃ g, W5.heap.size = g := ⟨_, rfl⟩
  rw [hg5] at hcv HM
  have HGE := hideL hg5
  clear hW5 hW6 hL hlen hnn hg5
  go_wp2_with fail
  go_loopw [16] (fun i wr => ∃ k : Nat, k ≤ nn ∧ i = .int .i64 k ∧ HidL (BufAt wr g (lgK L k)) ∧ HidL (Below W5.heap.size W5 wr)) (fun i _ => nn - (RowKit.intOf i).toNat)
  case atStart => exact ⟨0, Nat.zero_le _, rfl, HM, HB6⟩
  case round =>
    obtain ⟨k, hk, rfl, HD, HB⟩ := hrel
    clear HM HB6 hcv
    obtain ⟨W, rfl⟩ : ∃ W, W = wr := ⟨_, rfl⟩
    by_cases hlt : k < nn
    · have hlt' : (k : Int) < (nn : Int) := by omega
      have hkl : k < L.length := by rw [HL.out]; exact hlt
      have hkm : k < (lgK L k).length := by rw [lgK_len]; exact hkl
      have d0 := HD.out.cell k hkm
      have f0 := HD.out.froz k hkm
      rw [lgK_get hkl] at d0
      have hset := HD.out.set hkm (lgB (L.getD k 0))
      rw [← lgK_step hkl] at hset
      have hsame := @lgK_same L k hkl
      generalize L.getD k 0 = d at *
      have d255 := d.toNat_lt
      by_cases hc : 97 ≤ d.toNat ∧ d.toNat ≤ 122
      · have h1 : (97 : Int) ≤ (d.toNat : Int) := by omega
        have h2 : (d.toNat : Int) ≤ 122 := by omega
        rw [lgB_low hc] at hset
        have HS2 := hideL hset
        have w1' : IntKind.u8.wrap ((d.toNat : Int) - 32) = ((d.toNat - 32 : Nat) : Int) := by rw [IntKind.wrap_u8]; omega
        have HB2 := hideL (HB.out.setCell (p := ⟨g, k, none⟩) (by rw [HGE.out]; exact Nat.le_refl _) (.int .u8 (d.toNat - 32 : Nat)))
        clear hset hsame HD
        go_wp2_with fail
        go_roundw
        case rel => exact ⟨k + 1, by omega, by go_num, HS2, HB2⟩
        case measure => simp [RowKit.intOf]; omega
      · rw [lgB_else hc] at hsame
        have HS2 := HD.out
        rw [← hsame rfl] at HS2
        have HS3 := hideL HS2
        have hc2 : ¬ (97 : Int) ≤ (d.toNat : Int) ∨ ((97 : Int) ≤ (d.toNat : Int) ∧ ¬ (d.toNat : Int) ≤ 122) := by omega
        clear hset hsame HD HS2 f0 hc
        rcases hc2 with h1 | ⟨h1, h2⟩
        · go_wp2_with fail
          go_roundw
          case rel => exact ⟨k + 1, by omega, by go_num, HS3, HB⟩
          case measure => simp [RowKit.intOf]; omega
        · go_wp2_with fail
          go_roundw
          case rel => exact ⟨k + 1, by omega, by go_num, HS3, HB⟩
          case measure => simp [RowKit.intOf]; omega
    · obtain rfl : k = nn := by omega
      have hlt' : ¬ (k : Int) < (k : Int) := by omega
      have hD := HD.out
      rw [← HL.out, lgK_all] at hD
      have HBUF := hideL hD
      have HML : HidL ((L.map lgB).length = k) := ⟨by rw [List.length_map]; exact HL.out⟩
      have HMW := hideL (fun (a b : List UInt8) (T : ByteArray) ha hb hT => HW.out (L.map lgB) a b T (.inr (by rw [HLL.out])) ha hb hT)
      generalize L.map lgB = M at *
      obtain ⟨nn, rfl⟩ : ∃ nn, nn = k := ⟨_, rfl⟩
      clear HD hD HW hk hlt
      replace HS := hideL (HS.out.next HB.out)
      (try clear c0 c1)
      have hNz : (bo M).size = nn := by rw [bo_size]; exact HML.out
      have LA := hideL (blanks_any a ha)
      have LBB := hideL (blanks_any b hb)
      have hAz : (bo (bkL a)).size = a := by rw [bo_size, bkL_len]
      have hBz : (bo (bkL b)).size = b := by rw [bo_size, bkL_len]
      have HR := hideL (HMW.out (bkL a) (bkL b) _ (bkL_ws a) (bkL_ws b) rfl)
      have HSTR := hideL (fun w' (hb : Below W.heap.size W w') => (HBUF.out.next hb).str nn cap HML.out)
      generalize bo M = NM at *
      generalize bo (bkL a) = BA at *
      generalize bo (bkL b) = BB at *
      have a1 : ¬ 9223372036854775807 < NM.size + 1 := by omega
      have a2 : ¬ 9223372036854775807 < NM.size + 1 + BA.size := by omega
      have a3 : ¬ 9223372036854775807 < NM.size + 1 + BA.size + c.size := by have := hgz.2.2; omega
      have a4 : ¬ 9223372036854775807 < NM.size + 1 + BA.size + c.size + BB.size := by have := hgz.2.2; omega
      have HTZ : HidL ((NM ++ (⟨#[58]⟩ : ByteArray) ++ BA ++ c ++ BB).size ≤ 1000000) := ⟨by rw [ByteArray.size_append, ByteArray.size_append, ByteArray.size_append, ByteArray.size_append, show (⟨#[58]⟩ : ByteArray).size = 1 from rfl]; have := hgz.2.2; omega⟩
      clear hNz hAz hBz HMW HBUF HML HB ha hb
      go_wp2_with fail
      refine wp_region_held_drew (S := fun w' => Below W.heap.size W w') (by kernel_rfl) ((Below.refl _ _).drew) (fun hHeld => ?_)
      refine wpAnyH_take (i := 0) (oi := { dst := some 102, op := Op.move (Operand.tmp 15), type := 52, pos := "law.go:109", after := #[], guard := none }) (v := ?_) rfl (by kernel_rfl) (by kernel_rfl) (by kernel_rfl) (fun _ _ _ h => h) (Or.inl ⟨by rfl, ?_⟩) hHeld ?_
      rotate_left
      · intro w hSw; (try dsimp only at hSw); go_simp; first | done | with_reducible rfl
      try simp only [Act.put, List.setIfInBounds_toArray, List.set_cons_zero, List.set_cons_succ]
      refine wpAnyH_take (i := 1) (oi := { dst := some 103, op := Op.convert 52 9 (Operand.tmp 102), type := 9, pos := "law.go:109", after := #[{ on := 0, ground := Ground.data }], guard := none }) (v := ?_) rfl (by kernel_rfl) (by kernel_rfl) (by kernel_rfl) (fun _ _ _ h => h) (Or.inl ⟨by rfl, ?_⟩) hHeld ?_
      rotate_left
      · intro w hSw; (try dsimp only at hSw); have hcs := HSTR.out w hSw; go_simp; first | done | with_reducible rfl
      try simp only [Act.put, List.setIfInBounds_toArray, List.set_cons_zero, List.set_cons_succ]
      refine wpAnyH_take (i := 2) (oi := { dst := some 104, op := Op.binOp BinOp.add 9 (Operand.tmp 103) (Operand.const (Value.string { data := #[58] })) 9, type := 9, pos := "law.go:109", after := #[{ on := 1, ground := Ground.data }], guard := none }) (v := ?_) rfl (by kernel_rfl) (by kernel_rfl) (by kernel_rfl) (fun _ _ _ h => h) (Or.inl ⟨by rfl, ?_⟩) hHeld ?_
      rotate_left
      · intro w hSw; (try dsimp only at hSw); go_simp; first | done | with_reducible rfl
      try simp only [Act.put, List.setIfInBounds_toArray, List.set_cons_zero, List.set_cons_succ]
      refine wpAnyH_take (i := 3) (oi := { dst := some 105, op := Op.move (Operand.tmp 2), type := 3, pos := "law.go:109", after := #[], guard := none }) (v := ?_) rfl (by kernel_rfl) (by kernel_rfl) (by kernel_rfl) (fun _ _ _ h => h) (Or.inl ⟨by rfl, ?_⟩) hHeld ?_
      rotate_left
      · intro w hSw; (try dsimp only at hSw); go_simp; first | done | with_reducible rfl
      try simp only [Act.put, List.setIfInBounds_toArray, List.set_cons_zero, List.set_cons_succ]
      refine wpAnyH_take (i := 6) (oi := { dst := some 108, op := Op.fieldAddr 23 (Operand.tmp 5) 1, type := 0, pos := "law.go:109", after := #[], guard := none }) (v := ?_) rfl (by kernel_rfl) (by kernel_rfl) (by kernel_rfl) (fun _ _ _ h => h) (Or.inl ⟨by rfl, ?_⟩) hHeld ?_
      rotate_left
      · intro w hSw; (try dsimp only at hSw); go_simp; first | done | with_reducible rfl
      try simp only [Act.put, List.setIfInBounds_toArray, List.set_cons_zero, List.set_cons_succ]
      refine wpAnyH_take (i := 7) (oi := { dst := some 109, op := Op.load 9 (Operand.tmp 108), type := 9, pos := "law.go:109", after := #[{ on := 6, ground := Ground.data }], guard := none }) (v := ?_) rfl (by kernel_rfl) (by kernel_rfl) (by kernel_rfl) (fun _ _ _ h => h) (Or.inl ⟨by rfl, ?_⟩) hHeld ?_
      rotate_left
      · intro w hSw; (try dsimp only at hSw); have hs := HS.out.next hSw; have e1 := hs.bx.c1; clear hs; go_simp; first | done | with_reducible rfl
      try simp only [Act.put, List.setIfInBounds_toArray, List.set_cons_zero, List.set_cons_succ]
      refine wpAnyH_take (i := 9) (oi := { dst := some 111, op := Op.move (Operand.tmp 3), type := 3, pos := "law.go:109", after := #[], guard := none }) (v := ?_) rfl (by kernel_rfl) (by kernel_rfl) (by kernel_rfl) (fun _ _ _ h => h) (Or.inl ⟨by rfl, ?_⟩) hHeld ?_
      rotate_left
      · intro w hSw; (try dsimp only at hSw); go_simp; first | done | with_reducible rfl
      try simp only [Act.put, List.setIfInBounds_toArray, List.set_cons_zero, List.set_cons_succ]
      refine wpAnyH_ready (rs := [4]) (by kernel_rfl) (by simp) ?_
      refine AllReadyH.cons (o := { dst := some 106, op := Op.call { callee := Callee.value (Operand.func 30), args := #[Operand.tmp 105], argTypes := #[3] }, type := 9, pos := "law.go:109", after := #[{ on := 3, ground := Ground.data }], guard := none }) rfl (fun K hK => ?_) AllReadyH.nil
      clear hHeld
      go_simp
      refine (LA.out _).mono ?_
      rintro e V1 ⟨rfl, hB⟩
      have HB1 := hideL ((Below.refl W.heap.size W).drew.trans hB)
      clear hB
      refine hK.out _ _ (HB1.out) (fun hHeld => ?_)
      clear hK K
      try simp only [Act.put, List.setIfInBounds_toArray, List.set_cons_zero, List.set_cons_succ]
      refine wpAnyH_take (i := 5) (oi := { dst := some 107, op := Op.binOp BinOp.add 9 (Operand.tmp 104) (Operand.tmp 106) 9, type := 9, pos := "law.go:109", after := #[{ on := 2, ground := Ground.data }, { on := 4, ground := Ground.data }], guard := none }) (v := ?_) rfl (by kernel_rfl) (by kernel_rfl) (by kernel_rfl) (fun _ _ _ h => h) (Or.inl ⟨by rfl, ?_⟩) hHeld ?_
      rotate_left
      · intro w hSw; (try dsimp only at hSw); go_simp; first | done | with_reducible rfl
      try simp only [Act.put, List.setIfInBounds_toArray, List.set_cons_zero, List.set_cons_succ]
      refine wpAnyH_take (i := 8) (oi := { dst := some 110, op := Op.binOp BinOp.add 9 (Operand.tmp 107) (Operand.tmp 109) 9, type := 9, pos := "law.go:109", after := #[{ on := 5, ground := Ground.data }, { on := 7, ground := Ground.data }], guard := none }) (v := ?_) rfl (by kernel_rfl) (by kernel_rfl) (by kernel_rfl) (fun _ _ _ h => h) (Or.inl ⟨by rfl, ?_⟩) hHeld ?_
      rotate_left
      · intro w hSw; (try dsimp only at hSw); go_simp; first | done | with_reducible rfl
      try simp only [Act.put, List.setIfInBounds_toArray, List.set_cons_zero, List.set_cons_succ]
      refine wpAnyH_ready (rs := [10]) (by kernel_rfl) (by simp) ?_
      refine AllReadyH.cons (o := { dst := some 112, op := Op.call { callee := Callee.value (Operand.func 30), args := #[Operand.tmp 111], argTypes := #[3] }, type := 9, pos := "law.go:109", after := #[{ on := 9, ground := Ground.data }, { on := 4, ground := Ground.chain }], guard := none }) rfl (fun K hK => ?_) AllReadyH.nil
      clear hHeld
      go_simp
      refine (LBB.out _).mono ?_
      rintro e V2 ⟨rfl, hB⟩
      have HB2 := hideL (HB1.out.trans (hB.mono HB1.out.size))
      clear hB
      refine hK.out _ _ (HB2.out) (fun hHeld => ?_)
      clear hK K
      try simp only [Act.put, List.setIfInBounds_toArray, List.set_cons_zero, List.set_cons_succ]
      refine wpAnyH_take (i := 11) (oi := { dst := some 113, op := Op.binOp BinOp.add 9 (Operand.tmp 110) (Operand.tmp 112) 9, type := 9, pos := "law.go:109", after := #[{ on := 8, ground := Ground.data }, { on := 10, ground := Ground.data }], guard := none }) (v := ?_) rfl (by kernel_rfl) (by kernel_rfl) (by kernel_rfl) (fun _ _ _ h => h) (Or.inl ⟨by rfl, ?_⟩) hHeld ?_
      rotate_left
      · intro w hSw; (try dsimp only at hSw); go_simp; first | done | with_reducible rfl
      try simp only [Act.put, List.setIfInBounds_toArray, List.set_cons_zero, List.set_cons_succ]
      refine wpAnyH_take (i := 12) (oi := { dst := some 17, op := Op.assign (Operand.tmp 113), type := 9, pos := "law.go:109", after := #[{ on := 11, ground := Ground.data }, { on := 10, ground := Ground.chain }, { on := 0, ground := Ground.phase }, { on := 1, ground := Ground.phase }, { on := 2, ground := Ground.phase }, { on := 3, ground := Ground.phase }, { on := 4, ground := Ground.phase }, { on := 5, ground := Ground.phase }, { on := 6, ground := Ground.phase }, { on := 7, ground := Ground.phase }, { on := 8, ground := Ground.phase }, { on := 9, ground := Ground.phase }, { on := 10, ground := Ground.phase }, { on := 11, ground := Ground.phase }], guard := none }) (v := ?_) rfl (by kernel_rfl) (by kernel_rfl) (by kernel_rfl) (fun _ _ _ h => h) (Or.inl ⟨by rfl, ?_⟩) hHeld ?_
      rotate_left
      · intro w hSw; (try dsimp only at hSw); go_simp; first | done | with_reducible rfl
      try simp only [Act.put, List.setIfInBounds_toArray, List.set_cons_zero, List.set_cons_succ]
      refine wpAnyH_done (by kernel_rfl) ?_ _
      clear hHeld
      replace HS := hideL (HS.out.next HB2.out)
      have c0 := HS.out.bx.c0
      have c1 := HS.out.bx.c1
      clear a1 a2 a3 a4 HB1 HB2 LA LBB HSTR
      obtain ⟨T, hT⟩ : ∃ T, NM ++ (⟨#[58]⟩ : ByteArray) ++ BA ++ c ++ BB = T := ⟨_, rfl⟩
      rw [hT] at HR HTZ
      (try rw [hT])
      clear hT
      by_cases hT5 : T.size ≤ 578
      · have hT5' : (T.size : Int) ≤ 578 := by omega
        have RT := hideL (readN_any T HTZ.out 0 _ _ (HR.out.1 hT5))
        rw [bo_of, bo_of] at RT
        clear HR HTZ hT5
        go_wp2_with (first
          | (go_at_call 19; first
              | (with_reducible refine (RT.out _).mono ?_; rintro e w15 ⟨rfl, hB⟩; clear RT; have hA := (Below.refl w15.heap.size w15).alloc (Nat.le_refl _) (.cells #[.string n, .string c] 23); replace HS := hideL ((HS.out.next hB).next hA); (try clear c0 c1); have c0 := HS.out.bx.c0; have c1 := HS.out.bx.c1; clear hB hA)
              | (with_reducible refine (RS.out _).mono ?_; rintro e w20 ⟨rfl, hB⟩; have hA := (Below.refl w20.heap.size w20).alloc (Nat.le_refl _) (.cells #[.string (⟨#[]⟩ : ByteArray), .string (⟨#[]⟩ : ByteArray)] 23); replace HS := hideL ((HS.out.next hB).next hA); (try clear c0 c1); have c0 := HS.out.bx.c0; have c1 := HS.out.bx.c1; have HP := hideL (HBox.new w20 (⟨#[]⟩ : ByteArray) (⟨#[]⟩ : ByteArray)); have p0 := HP.out.c0; have p1 := HP.out.c1; clear hB hA))
          | (go_at_call 10; with_reducible refine (LW.out _ HS.out.env).mono ?_; rintro e wx ⟨rfl, hB⟩; replace HS := hideL (HS.out.next hB); (try clear c0 c1); have c0 := HS.out.bx.c0; have c1 := HS.out.bx.c1; clear hB))
        go_ret
        exact ⟨rfl, HS.out.be⟩
      · have hT5' : ¬ (T.size : Int) ≤ 578 := by omega
        have RT := hideL (readN_any T HTZ.out 6 [] [] (HR.out.2 (by omega)))
        rw [show bo [] = (⟨#[]⟩ : ByteArray) from rfl] at RT
        clear HR HTZ hT5
        go_wp2_with (first
          | (go_at_call 19; first
              | (with_reducible refine (RT.out _).mono ?_; rintro e w15 ⟨rfl, hB⟩; clear RT; have hA := (Below.refl w15.heap.size w15).alloc (Nat.le_refl _) (.cells #[.string (⟨#[]⟩ : ByteArray), .string (⟨#[]⟩ : ByteArray)] 23); replace HS := hideL ((HS.out.next hB).next hA); (try clear c0 c1); have c0 := HS.out.bx.c0; have c1 := HS.out.bx.c1; clear hB hA)
              | (with_reducible refine (RS.out _).mono ?_; rintro e w20 ⟨rfl, hB⟩; have hA := (Below.refl w20.heap.size w20).alloc (Nat.le_refl _) (.cells #[.string (⟨#[]⟩ : ByteArray), .string (⟨#[]⟩ : ByteArray)] 23); replace HS := hideL ((HS.out.next hB).next hA); (try clear c0 c1); have c0 := HS.out.bx.c0; have c1 := HS.out.bx.c1; have HP := hideL (HBox.new w20 (⟨#[]⟩ : ByteArray) (⟨#[]⟩ : ByteArray)); have p0 := HP.out.c0; have p1 := HP.out.c1; clear hB hA))
          | (go_at_call 10; with_reducible refine (LW.out _ HS.out.env).mono ?_; rintro e wx ⟨rfl, hB⟩; replace HS := hideL (HS.out.next hB); (try clear c0 c1); have c0 := HS.out.bx.c0; have c1 := HS.out.bx.c1; clear hB))
        go_ret
        exact ⟨rfl, HS.out.be⟩
end Go.Proofs.YtilefgmlnmpeoaaDoor
