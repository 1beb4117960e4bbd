/- Package addr: Print, PrintNet. -/
import Derived.Test.YtgikkjjnoakhdaaDoorAdEnv
import Derived.Test.YtgikkjjnoakhdaaDoorAdDig
import Derived.Test.YtgikkjjnoakhdaaDoorAdCov
import Derived.Test.YtgikkjjnoakhdaaDoorAdRPrint
namespace Go.Proofs.YtgikkjjnoakhdaaDoor
open Go.RowKit Go.Lib

/-- v is a row of the call's own (at B or above) with the bytes l. -/
def BRow (W : World) (B : Nat) (v : Value) (l : List UInt8) : Prop := W.ownsRow B 5 1 v l.length (Lib.byteCells l)
theorem BRow.nil (W : World) (B : Nat) : BRow W B (.slice none 0 0) [] := World.ownsRow_nil _ _ _ _
theorem BRow.alloc {W : World} {B : Nat} {v : Value} {l : List UInt8} (h : BRow W B v l) (o : Obj) : BRow (W.alloc o) B v l := World.ownsRow.alloc h o
theorem Tryd.info_u8 : (Tryd.prog.info? 5).map (fun i => (i.zero, i.size, i.bytes)) = some (some (.int .u8 0), 1, 1) := by kernel_rfl
theorem append_byte (W : World) (B : Nat) (v : Value) (l : List UInt8) (h : BRow W B v l) (x : UInt8) (hb : l.length ≤ 1000000) (hB : B ≤ W.heap.size) :
    ∃ v' w', (Builtin.append_ #[62, 62] 62 #[v, .slice (some ⟨W.heap.size, 0, none⟩) 1 1]).run Tryd.prog (W.alloc (.cells #[.int .u8 x.toNat] 5)) = .ok v' w' ∧ BRow w' B v' (l ++ [x]) ∧ Below B (W.alloc (.cells #[.int .u8 x.toNat] 5)) w' := by
  obtain ⟨i0, hi, hz0, hz1, hz2⟩ := info_parts Tryd.info_u8
  have hnews : ∀ j u, ([Value.int .u8 x.toNat] : List Value)[j]? = some u → (W.alloc (.cells #[.int .u8 x.toNat] 5)).cell? ((⟨W.heap.size, 0, none⟩ : Addr).add j) = some u := by
    intro j u hu
    have hj : j < 1 := by simpa using (List.getElem?_eq_some_iff.1 hu).1
    obtain rfl : j = 0 := by omega
    simp at hu
    subst hu
    simp [Addr.add]
  have hsz : W.heap.size ≤ (W.alloc (.cells #[.int .u8 x.toNat] 5)).heap.size := by simp
  obtain ⟨v', w', a1, a2, a3, _, a5⟩ := run_append_own_at (P := Tryd.prog) (W.alloc (.cells #[.int .u8 x.toNat] 5)) B 62 62 5 i0 _ 1 1 Tryd.underlying62 hi hz0 hz1 hz2 rfl (by omega) v l.length (Lib.byteCells l) (BRow.alloc h _) ⟨W.heap.size, 0, none⟩ 1 1 [.int .u8 x.toNat] rfl hnews (by simp [Value.oneCell']) (by unfold maxLen; omega) (by omega) (Nat.le_trans hB hsz)
  refine ⟨v', w', a1, ?_, ?_⟩
  · unfold BRow
    rw [List.length_append, show Lib.byteCells (l ++ [x]) = Lib.byteCells l ++ [.int .u8 x.toNat] by simp [Lib.byteCells]]
    exact a2
  · exact (Below.refl B _).grown a3 (Nat.le_trans hB hsz) (fun k e => (World.ownsRow.lt h k e).1)
theorem BRow.str {W : World} {B : Nat} {v : Value} {l : List UInt8} (h : BRow W B v l) (hl : l ≠ []) : (convert 62 9 v).run Tryd.prog W = .ok (.string ⟨l.toArray⟩) W := by
  have hc := fun g hg => World.ownsRow.cells h (g := g) hg
  obtain ⟨_, h2 | ⟨g, cap, cur, e1, _⟩⟩ := h
  · exact absurd (List.length_eq_zero_iff.1 h2.2) hl
  · subst e1
    refine run_convert_bytes_back W 62 9 5 ⟨g, 0, none⟩ cap l Tryd.underlying62 Tryd.underlying5 Tryd.underlying9 (fun j hj => ?_)
    refine hc g rfl j _ ?_
    simp [Lib.byteCells, List.getElem?_eq_getElem hj]

theorem appendUint_any (B u : Nat) (hu : u < 18446744073709551616) (v : Value) (l : List UInt8) (W : World) (h : BRow W B v l) (hB : B ≤ W.heap.size) (hl : l.length ≤ 1000000) (hE : Env W) :
    Calls Tryd.prog 52 #[v, .int .u64 u, .int .i64 10] W (fun e w' => ∃ v', e = .returned v' ∧ BRow w' B v' (l ++ decDigits u) ∧ Below B W w') := by
  have hc := Any.internal_strconv_AppendUint_10 Tryd.laysM288 B l.length u hu v (Lib.byteCells l) W h hB (by omega) hE.2
  refine hc.mono ?_
  rintro e w' ⟨v', rfl, h1, h2, _⟩
  refine ⟨v', rfl, ?_, h2⟩
  unfold BRow
  rw [List.length_append, show Lib.byteCells (l ++ decDigits u) = Lib.byteCells l ++ Lib.byteCells (decDigits u) by simp [Lib.byteCells]]
  exact h1

def prTo (a : Nat) : Nat → List UInt8
  | 0 => []
  | k + 1 => (prTo a k ++ if k = 0 then [] else [46]) ++ decDigits (byteS a k)
theorem prTo_four (a : Nat) : prTo a 4 = printS a := by simp [prTo, printS]
theorem prTo_len (a : Nat) : ∀ k, (prTo a k).length ≤ 300 * k
  | 0 => Nat.le_refl _
  | k + 1 => by
    have h := prTo_len a k
    have h1 := decDigits_le (byteS a k)
    have h2 := byteS_lt a k
    rw [prTo, List.length_append, List.length_append]
    split <;> simp <;> omega

set_option maxRecDepth 100000 in
set_option maxHeartbeats 1000000 in
theorem print_any (a : Nat) (ha : a < 4294967296) (w : World) (hE : Env w) : Calls Tryd.prog 15 #[.int .u32 a] w (StrPost w (printS a)) := by
  go_enter Tryd.func15, Tryd.ntmps15
  go_wp2_with fail
  go_loopw [3, 6] (fun b i wr => ∃ k : Nat, k ≤ 4 ∧ i = .int .i64 k ∧ BRow wr w.heap.size b (prTo a k) ∧ Below w.heap.size w wr) (fun _ i _ => 4 - (RowKit.intOf i).toNat)
  case atStart => exact ⟨0, by omega, rfl, BRow.nil _ _, Below.refl _ _⟩
  case round =>
    obtain ⟨k, hk, rfl, hR, hB⟩ := hrel
    by_cases hlt : k < 4
    · have hlen := prTo_len a k
      have hby := byteS_lt a k
      have hcase : k = 0 ∨ k = 1 ∨ k = 2 ∨ k = 3 := by omega
      clear hlt hk
      rcases hcase with rfl | rfl | rfl | rfl
      · have he : (a : Int) / 16777216 = ((byteS a 0 : Nat) : Int) := by unfold byteS; simp only [show 3 - 0 = 3 from rfl, show 256 ^ 3 = 16777216 from rfl]; omega
        obtain ⟨l, hl⟩ : ∃ l, prTo a 0 = l := ⟨_, rfl⟩
        obtain ⟨l2, hl2⟩ : ∃ l2, prTo a (0 + 1) = l2 := ⟨_, rfl⟩
        rw [hl] at hR hlen
        have hl3 := hl2
        rw [prTo, hl] at hl3
        obtain ⟨z, hz⟩ : ∃ z, byteS a 0 = z := ⟨_, rfl⟩
        rw [hz] at he hby hl3
        simp at hl3
        have HAP := hide (appendUint_any w.heap.size z (by omega) u3 l wr hR hB.size (by omega) (hE.below hB))
        rw [show l ++ decDigits z = l2 by rw [← hl3, ← hl]] at HAP
        have HB := hide hB
        have HL := hide hl2
        clear hB hR hl3 hl hl2 hz
        go_wp2_with (first | (go_at_call 52; refine HAP.out.mono ?_; rintro e w2 ⟨v2, rfl, hR2, hB2⟩) | go_in)
        go_roundw
        case rel => exact ⟨1, by omega, by simp, by rw [HL.out]; exact hR2, HB.out.trans hB2⟩
        case measure => simp [RowKit.intOf]
      · have he : (a : Int) / 65536 % 256 = ((byteS a 1 : Nat) : Int) := by unfold byteS; simp only [show 3 - 1 = 2 from rfl, show 256 ^ 2 = 65536 from rfl]; omega
        obtain ⟨l, hl⟩ : ∃ l, prTo a 1 = l := ⟨_, rfl⟩
        obtain ⟨l2, hl2⟩ : ∃ l2, prTo a (1 + 1) = l2 := ⟨_, rfl⟩
        rw [hl] at hR hlen
        have hl3 := hl2
        rw [prTo, hl] at hl3
        obtain ⟨z, hz⟩ : ∃ z, byteS a 1 = z := ⟨_, rfl⟩
        rw [hz] at he hby hl3
        simp at hl3
        obtain ⟨v2, w2, hrun, hR2, hB2⟩ := append_byte wr w.heap.size u3 l hR 46 (by omega) hB.size
        have HB2 := hide ((hB.alloc hB.size _).trans hB2)
        have HAP := hide (appendUint_any w.heap.size z (by omega) v2 (l ++ [46]) w2 hR2 HB2.out.size (by simp; omega) (hE.below HB2.out))
        rw [show (l ++ [46]) ++ decDigits z = l2 by rw [← hl3]; simp] at HAP
        have HRUN : Hid ((Builtin.append_ #[62, 62] 62 #[u3, .slice (some ⟨wr.heap.size, 0, none⟩) 1 1]).run Tryd.prog (wr.alloc (.cells #[.int .u8 46] 5)) = .ok v2 w2) := hide hrun
        have HL := hide hl2
        clear hB hR hl3 hl hl2 hz hrun hR2 hB2
        go_wp2_with (first | (at_builtin; with_reducible refine wpList_append_run rfl (.tmp 11) (.tmp 12) 62 62 62 rfl rfl u3 (.slice (some ⟨wr.heap.size, 0, none⟩) 1 1) v2 w2 rfl rfl HRUN.out ?_) | (go_at_call 52; refine HAP.out.mono ?_; rintro e w3 ⟨v3, rfl, hR3, hB3⟩) | go_in)
        go_roundw
        case rel => exact ⟨1 + 1, by omega, by simp, by rw [HL.out]; exact hR3, HB2.out.trans hB3⟩
        case measure => simp [RowKit.intOf]
      · have he : (a : Int) / 256 % 256 = ((byteS a 2 : Nat) : Int) := by unfold byteS; simp only [show 3 - 2 = 1 from rfl, show 256 ^ 1 = 256 from rfl]; omega
        obtain ⟨l, hl⟩ : ∃ l, prTo a 2 = l := ⟨_, rfl⟩
        obtain ⟨l2, hl2⟩ : ∃ l2, prTo a (2 + 1) = l2 := ⟨_, rfl⟩
        rw [hl] at hR hlen
        have hl3 := hl2
        rw [prTo, hl] at hl3
        obtain ⟨z, hz⟩ : ∃ z, byteS a 2 = z := ⟨_, rfl⟩
        rw [hz] at he hby hl3
        simp at hl3
        obtain ⟨v2, w2, hrun, hR2, hB2⟩ := append_byte wr w.heap.size u3 l hR 46 (by omega) hB.size
        have HB2 := hide ((hB.alloc hB.size _).trans hB2)
        have HAP := hide (appendUint_any w.heap.size z (by omega) v2 (l ++ [46]) w2 hR2 HB2.out.size (by simp; omega) (hE.below HB2.out))
        rw [show (l ++ [46]) ++ decDigits z = l2 by rw [← hl3]; simp] at HAP
        have HRUN : Hid ((Builtin.append_ #[62, 62] 62 #[u3, .slice (some ⟨wr.heap.size, 0, none⟩) 1 1]).run Tryd.prog (wr.alloc (.cells #[.int .u8 46] 5)) = .ok v2 w2) := hide hrun
        have HL := hide hl2
        clear hB hR hl3 hl hl2 hz hrun hR2 hB2
        go_wp2_with (first | (at_builtin; with_reducible refine wpList_append_run rfl (.tmp 11) (.tmp 12) 62 62 62 rfl rfl u3 (.slice (some ⟨wr.heap.size, 0, none⟩) 1 1) v2 w2 rfl rfl HRUN.out ?_) | (go_at_call 52; refine HAP.out.mono ?_; rintro e w3 ⟨v3, rfl, hR3, hB3⟩) | go_in)
        go_roundw
        case rel => exact ⟨2 + 1, by omega, by simp, by rw [HL.out]; exact hR3, HB2.out.trans hB3⟩
        case measure => simp [RowKit.intOf]
      · have he : (a : Int) % 256 = ((byteS a 3 : Nat) : Int) := by unfold byteS; simp only [show 3 - 3 = 0 from rfl, show 256 ^ 0 = 1 from rfl]; omega
        obtain ⟨l, hl⟩ : ∃ l, prTo a 3 = l := ⟨_, rfl⟩
        obtain ⟨l2, hl2⟩ : ∃ l2, prTo a (3 + 1) = l2 := ⟨_, rfl⟩
        rw [hl] at hR hlen
        have hl3 := hl2
        rw [prTo, hl] at hl3
        obtain ⟨z, hz⟩ : ∃ z, byteS a 3 = z := ⟨_, rfl⟩
        rw [hz] at he hby hl3
        simp at hl3
        obtain ⟨v2, w2, hrun, hR2, hB2⟩ := append_byte wr w.heap.size u3 l hR 46 (by omega) hB.size
        have HB2 := hide ((hB.alloc hB.size _).trans hB2)
        have HAP := hide (appendUint_any w.heap.size z (by omega) v2 (l ++ [46]) w2 hR2 HB2.out.size (by simp; omega) (hE.below HB2.out))
        rw [show (l ++ [46]) ++ decDigits z = l2 by rw [← hl3]; simp] at HAP
        have HRUN : Hid ((Builtin.append_ #[62, 62] 62 #[u3, .slice (some ⟨wr.heap.size, 0, none⟩) 1 1]).run Tryd.prog (wr.alloc (.cells #[.int .u8 46] 5)) = .ok v2 w2) := hide hrun
        have HL := hide hl2
        clear hB hR hl3 hl hl2 hz hrun hR2 hB2
        go_wp2_with (first | (at_builtin; with_reducible refine wpList_append_run rfl (.tmp 11) (.tmp 12) 62 62 62 rfl rfl u3 (.slice (some ⟨wr.heap.size, 0, none⟩) 1 1) v2 w2 rfl rfl HRUN.out ?_) | (go_at_call 52; refine HAP.out.mono ?_; rintro e w3 ⟨v3, rfl, hR3, hB3⟩) | go_in)
        go_roundw
        case rel => exact ⟨3 + 1, by omega, by simp, by rw [HL.out]; exact hR3, HB2.out.trans hB3⟩
        case measure => simp [RowKit.intOf]
    · obtain rfl : k = 4 := by omega
      have hs := hR.str (by rw [prTo_four]; unfold printS; simp)
      rw [prTo_four] at hs
      have HB := hide hB
      clear hR hB
      go_wp2_with fail
      go_ret
      exact ⟨rfl, HB.out⟩

theorem itoa_any (n : Nat) (hn : n < 100) (W : World) : Calls Tryd.prog 43 #[.int .i64 n] W (fun e w' => e = .returned (.string ⟨(decDigits n).toArray⟩) ∧ W = w') := by
  refine (Any.strconv_Itoa_small Tryd.lays171 n hn W).mono ?_
  rintro e w' ⟨rfl, h⟩
  exact ⟨rfl, h.symm⟩

set_option maxRecDepth 100000 in
set_option maxHeartbeats 1000000 in
theorem printNet_any (c : Net) (ha : c.a < 4294967296) (w : World) (hE : Env w) : Calls Tryd.prog 17 #[c.val] w (StrPost w (printNetS c)) := by
  have HM := hide (fun W => may_any c ha W)
  have HE := hide hE
  clear hE
  cases hm : mayB c with
  | false =>
    have hp : printNetS c = [] := by unfold printNetS; rw [hm]; rfl
    rw [hm] at HM
    rw [hp]
    obtain ⟨a, b⟩ := c
    unfold Net.val at HM ⊢
    dsimp only at ha HM ⊢
    clear hm hp
    have HB0 : Hid (Below w.heap.size w (w.alloc (.cells #[.int .u32 a, .int .i64 b] 24))) := hide ((Below.refl _ _).alloc (Nat.le_refl _) _)
    go_enter Tryd.func17, Tryd.ntmps17
    go_wp2_with fail
    refine (HM.out _).mono ?_
    rintro e w2 ⟨rfl, hB⟩
    go_wp2_with fail
    go_ret
    exact ⟨rfl, HB0.out.trans (hB.mono HB0.out.size)⟩
  | true =>
    have hok := (mayB_iff c).1 hm
    have hlo := hok.lo
    have hhi := hok.hi
    have hp : printNetS c = printS c.a ++ 47 :: decDigits c.b.toNat := by unfold printNetS; rw [if_pos hm]
    rw [hm] at HM
    rw [hp]
    obtain ⟨a, b⟩ := c
    unfold Net.val at HM ⊢
    dsimp only at ha HM hlo hhi ⊢
    obtain ⟨n, rfl⟩ : ∃ n : Nat, b = n := ⟨b.toNat, by omega⟩
    rw [Int.toNat_natCast]
    have HP := hide (fun W hE => print_any a ha W hE)
    have HI := hide (fun W => itoa_any n (by omega) W)
    have hl1 := prTo_len a 4
    rw [prTo_four] at hl1
    have hl2 := decDigits_le n
    unfold StrPost at HP
    have y1 : (printS a).length ≤ 1200 := by omega
    have y2 : (decDigits n).length ≤ 100 := by omega
    generalize decDigits n = D at *
    generalize printS a = E at *
    clear hok hm hp hl1 hl2
    have HB0 : Hid (Below w.heap.size w (w.alloc (.cells #[.int .u32 a, .int .i64 (n : Int)] 24))) := hide ((Below.refl _ _).alloc (Nat.le_refl _) _)
    have HX := hide (BoxAt.new w a (n : Int))
    go_enter Tryd.func17, Tryd.ntmps17
    go_wp2_with fail
    refine (HM.out _).mono ?_
    rintro e w2 ⟨rfl, hB⟩
    have HX2 := hide (HX.out.next hB)
    have HB2 := hide (HB0.out.trans (hB.mono HB0.out.size))
    clear hB HX HB0 HM
    go_wp2_with fail
    obtain ⟨g, hg⟩ : ∃ g, w.heap.size = g := ⟨_, rfl⟩
    rw [hg] at HX2 ⊢
    have HGg := hide hg
    clear hg
    refine wp_region_held_drew (S := fun w' => BoxAt w' g a (n : Int)) (by kernel_rfl) HX2.out (fun hHeld => ?_)
    refine wpAnyH_take (i := 0) (oi := { dst := some 6, op := Op.fieldAddr 24 (Operand.tmp 1) 0, type := 0, pos := "nets.go:71", after := #[], guard := none }) (v := ?_) rfl (by kernel_rfl) (by kernel_rfl) (by kernel_rfl) (fun _ _ _ h => h) (Or.inl ⟨by rfl, ?_⟩) hHeld ?_
    rotate_left
    · intro w hSw; (try dsimp only at hSw); go_simp; first | done | with_reducible rfl
    try simp only [Act.put, List.setIfInBounds_toArray, List.set_cons_zero, List.set_cons_succ]
    refine wpAnyH_take (i := 1) (oi := { dst := some 7, op := Op.load 22 (Operand.tmp 6), type := 22, pos := "nets.go:71", after := #[{ on := 0, ground := Ground.data }], guard := none }) (v := ?_) rfl (by kernel_rfl) (by kernel_rfl) (by kernel_rfl) (fun _ _ _ h => h) (Or.inl ⟨by rfl, ?_⟩) hHeld ?_
    rotate_left
    · intro w hSw; (try dsimp only at hSw); have e0 := hSw.c0; have e1 := hSw.c1; go_simp; first | done | with_reducible rfl
    try simp only [Act.put, List.setIfInBounds_toArray, List.set_cons_zero, List.set_cons_succ]
    refine wpAnyH_take (i := 4) (oi := { dst := some 10, op := Op.fieldAddr 24 (Operand.tmp 1) 1, type := 0, pos := "nets.go:71", after := #[], guard := none }) (v := ?_) rfl (by kernel_rfl) (by kernel_rfl) (by kernel_rfl) (fun _ _ _ h => h) (Or.inl ⟨by rfl, ?_⟩) hHeld ?_
    rotate_left
    · intro w hSw; (try dsimp only at hSw); go_simp; first | done | with_reducible rfl
    try simp only [Act.put, List.setIfInBounds_toArray, List.set_cons_zero, List.set_cons_succ]
    refine wpAnyH_take (i := 5) (oi := { dst := some 11, op := Op.load 3 (Operand.tmp 10), type := 3, pos := "nets.go:71", after := #[{ on := 4, ground := Ground.data }], guard := none }) (v := ?_) rfl (by kernel_rfl) (by kernel_rfl) (by kernel_rfl) (fun _ _ _ h => h) (Or.inl ⟨by rfl, ?_⟩) hHeld ?_
    rotate_left
    · intro w hSw; (try dsimp only at hSw); have e0 := hSw.c0; have e1 := hSw.c1; go_simp; first | done | with_reducible rfl
    try simp only [Act.put, List.setIfInBounds_toArray, List.set_cons_zero, List.set_cons_succ]
    have HB3 := hide HB2.out.drew
    have HX3 : Hid (BoxAt w2.drew g a (n : Int)) := hide HX2.out
    generalize w2.drew = w3 at *
    refine wpAnyH_ready (rs := [2]) (by kernel_rfl) (by simp) ?_
    refine AllReadyH.cons (o := { dst := some 8, op := Op.call { callee := Callee.value (Operand.func 15), args := #[Operand.tmp 7], argTypes := #[22] }, type := 9, pos := "nets.go:71", after := #[{ on := 1, ground := Ground.data }], guard := none }) rfl (fun K hK => ?_) AllReadyH.nil
    clear hHeld
    go_simp
    refine (HP.out _ (HE.out.below HB3.out)).mono ?_
    rintro e w4 ⟨rfl, hB⟩
    have HX4 := hide (HX3.out.next hB)
    have HB4 := hide (HB3.out.trans (hB.mono HB3.out.size))
    clear hB
    refine hK.out _ _ (HX4.out) (fun hHeld => ?_)
    clear hK K
    try simp only [Act.put, List.setIfInBounds_toArray, List.set_cons_zero, List.set_cons_succ]
    refine wpAnyH_take (i := 3) (oi := { dst := some 9, op := Op.binOp BinOp.add 9 (Operand.tmp 8) (Operand.const (Value.string { data := #[47] })) 9, type := 9, pos := "nets.go:71", after := #[{ on := 2, ground := Ground.data }], guard := none }) (v := ?_) rfl (by kernel_rfl) (by kernel_rfl) (by kernel_rfl) (fun _ _ _ h => h) (Or.inl ⟨by rfl, ?_⟩) hHeld ?_
    rotate_left
    · intro w hSw; (try dsimp only at hSw); have g1 : ¬ (9223372036854775807 < E.length + 1) := (by omega); go_simp; first | done | with_reducible rfl
    try simp only [Act.put, List.setIfInBounds_toArray, List.set_cons_zero, List.set_cons_succ]
    refine wpAnyH_ready (rs := [6]) (by kernel_rfl) (by simp) ?_
    refine AllReadyH.cons (o := { dst := some 12, op := Op.call { callee := Callee.value (Operand.func 43), args := #[Operand.tmp 11], argTypes := #[3] }, type := 9, pos := "nets.go:71", after := #[{ on := 5, ground := Ground.data }, { on := 2, ground := Ground.chain }], guard := none }) rfl (fun K hK => ?_) AllReadyH.nil
    clear hHeld
    go_simp
    refine (HI.out _).mono ?_
    rintro e w' ⟨rfl, rfl⟩
    refine hK.out _ _ (HX4.out) (fun hHeld => ?_)
    clear hK K
    try simp only [Act.put, List.setIfInBounds_toArray, List.set_cons_zero, List.set_cons_succ]
    refine wpAnyH_take (i := 7) (oi := { dst := some 13, op := Op.binOp BinOp.add 9 (Operand.tmp 9) (Operand.tmp 12) 9, type := 9, pos := "nets.go:71", after := #[{ on := 3, ground := Ground.data }, { on := 6, ground := Ground.data }], guard := none }) (v := ?_) rfl (by kernel_rfl) (by kernel_rfl) (by kernel_rfl) (fun _ _ _ h => h) (Or.inl ⟨by rfl, ?_⟩) hHeld ?_
    rotate_left
    · intro w hSw; (try dsimp only at hSw); have g1 : ¬ (9223372036854775807 < E.length + 1 + D.length) := (by omega); go_simp; first | done | with_reducible rfl
    try simp only [Act.put, List.setIfInBounds_toArray, List.set_cons_zero, List.set_cons_succ]
    refine wpAnyH_take (i := 8) (oi := { dst := some 2, op := Op.assign (Operand.tmp 13), type := 9, pos := "nets.go:71", after := #[{ on := 7, ground := Ground.data }, { on := 6, ground := Ground.chain }, { on := 0, ground := Ground.phase }, { on := 1, ground := Ground.phase }, { on := 2, ground := Ground.phase }, { on := 3, ground := Ground.phase }, { on := 4, ground := Ground.phase }, { on := 5, ground := Ground.phase }, { on := 6, ground := Ground.phase }, { on := 7, ground := Ground.phase }], guard := none }) (v := ?_) rfl (by kernel_rfl) (by kernel_rfl) (by kernel_rfl) (fun _ _ _ h => h) (Or.inl ⟨by rfl, ?_⟩) hHeld ?_
    rotate_left
    · intro w hSw; (try dsimp only at hSw); go_simp; first | done | with_reducible rfl
    try simp only [Act.put, List.setIfInBounds_toArray, List.set_cons_zero, List.set_cons_succ]
    refine wpAnyH_done (by kernel_rfl) ?_ _
    go_wp2_with fail
    go_ret
    exact ⟨ret_str (by simp), HB4.out⟩
end Go.Proofs.YtgikkjjnoakhdaaDoor
