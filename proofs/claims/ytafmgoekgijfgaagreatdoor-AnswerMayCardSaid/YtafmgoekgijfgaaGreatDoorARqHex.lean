/- A number of at most 1024 by digits 0-9, a-f: strconv.FormatInt at base 16. -/
import Derived.Test.YtafmgoekgijfgaaGreatDoorARqM1
import Derived.Test.YtafmgoekgijfgaaGreatDoorARqFeed
import Derived.Test.YtafmgoekgijfgaaGreatDoorARqM2
import Derived.LoopN
namespace Go.Proofs.YtafmgoekgijfgaaGreatDoor
open Go.RowKit Go.Lib

/-- What math/bits.TrailingZeros64 asks of its table, at 16. -/
structure EnvT (W : World) : Prop where
 tab : W.cell? ⟨8, 15, none⟩ = some (.int .u8 4)
theorem EnvT.next {W W' : World} (h : EnvT W) (hb : Below W.heap.size W W') : EnvT W' :=
 ⟨(hb.cell (p := ⟨8, 15, none⟩) (Lib.lt_of_cell h.tab)).trans h.tab⟩
set_option maxRecDepth 100000 in
theorem tz64_any (w : World) (hT : EnvT w) : Calls Tryz.prog 223 #[.int .u64 16] w (fun e w' => e = .returned (.int .i64 4) ∧ Below w.heap.size w w') := by
 have h := hT.tab
 clear hT
 have hx : IntKind.u64.wrap (bits BinOp.and IntKind.u64 16 (IntKind.u64.wrap (-16)) * 285870213051353865) / 288230376151711744 = 15 := by decide +kernel
 go_enter Tryz.func223, Tryz.ntmps223
 go_wp2
 go_ret
 exact ⟨rfl, Below.refl _ _⟩
set_option maxRecDepth 100000 in
theorem tz_any (w : World) (hT : EnvT w) : Calls Tryz.prog 214 #[.int .u64 16] w (fun e w' => e = .returned (.int .i64 4) ∧ Below w.heap.size w w') := by
 have L := hideL (tz64_any w hT)
 clear hT
 go_enter Tryz.func214, Tryz.ntmps214
 go_wp2_with (go_at_call 223; refine L.out.mono ?_; rintro e w2 ⟨rfl, hB⟩)
 go_ret
 exact ⟨rfl, hB⟩
set_option maxRecDepth 100000 in
theorem pow2_any (w : World) : Calls Tryz.prog 213 #[.int .i64 16] w (fun e w' => e = .returned (.bool true) ∧ w' = w) := by
 go_enter Tryz.func213, Tryz.ntmps213
 go_wp2
 go_ret
 exact ⟨rfl, rfl⟩
def hexZ : Array Value := (List.replicate 65 (.int .u8 0)).toArray
theorem zeroHex (w : World) : (zeroValue 220).run Tryz.prog w = .ok (.agg hexZ) w := by kernel_rfl
/-- What lies in the buffer from k on. -/
theorem hex_at {W : World} {g k m : Nat} {bs : List UInt8} (hm : bs.length = m) (hlt : g < W.heap.size) (hc : ∀ i, i < bs.length → W.cell? ⟨g, k + i, none⟩ = some (.int .u8 (bs.getD i 0).toNat)) : GAt KB W (.slice (some ⟨g, k, none⟩) m m) bs := by
 subst hm
 refine ⟨some ⟨g, k, none⟩, bs.length, rfl, Nat.le_refl _, (fun e => by cases e), ?_⟩
 intro ad had i hi
 injection had with had
 subst had
 refine ⟨rfl, hlt, fun j hj => ?_⟩
 obtain rfl : j = 0 := Nat.lt_one_iff.1 hj
 have h := hc i hi
 rw [addr_plain', show KB.s = 1 from rfl, Nat.mul_one, Nat.add_zero]
 exact h
theorem hx_lt {W : World} {k : Nat} {o : Obj} (h : W.heap[k]? = some o) : k < W.heap.size := by
 rcases Nat.lt_or_ge k W.heap.size with h1 | h1
 · exact h1
 · rw [Array.getElem?_eq_none h1] at h; cases h
/-- The buffer: its last three cells. -/
def HexB (W : World) (g : Nat) (a b c : Value) : Prop := ∃ cs : Array Value, W.heap[g]? = some (.cells cs 220 (0, 0)) ∧ cs.size = 65 ∧ cs[62]? = some a ∧ cs[63]? = some b ∧ cs[64]? = some c
theorem HexB.new (w : World) : HexB (w.alloc (.cells hexZ 220)) w.heap.size (.int .u8 0) (.int .u8 0) (.int .u8 0) := ⟨hexZ, heap_alloc_new w _, rfl, rfl, rfl, rfl⟩
theorem HexB.next {W W' : World} {g : Nat} {a b c : Value} (h : HexB W g a b c) (hb : Below W.heap.size W W') : HexB W' g a b c := by
 obtain ⟨cs, h0, h1⟩ := h
 exact ⟨cs, (hb.block g (hx_lt h0)).trans h0, h1⟩
theorem HexB.lt {W : World} {g : Nat} {a b c : Value} (h : HexB W g a b c) : g < W.heap.size := by
 obtain ⟨cs, h0, _⟩ := h
 exact hx_lt h0
theorem HexB.fz {W : World} {g : Nat} {a b c : Value} (h : HexB W g a b c) (i : Nat) : W.frozen? ⟨g, i, none⟩ = false := by
 obtain ⟨cs, h0, _⟩ := h
 exact frozen_of_row W g i _ _ h0
theorem HexB.c2 {W : World} {g : Nat} {a b c : Value} (h : HexB W g a b c) : W.cell? ⟨g, 62, none⟩ = some a := by
 obtain ⟨cs, h0, _, h1, _⟩ := h
 exact (cell_of_row W g 62 _ _ _ h0).trans h1
theorem HexB.c3 {W : World} {g : Nat} {a b c : Value} (h : HexB W g a b c) : W.cell? ⟨g, 63, none⟩ = some b := by
 obtain ⟨cs, h0, _, _, h1, _⟩ := h
 exact (cell_of_row W g 63 _ _ _ h0).trans h1
theorem HexB.c4 {W : World} {g : Nat} {a b c : Value} (h : HexB W g a b c) : W.cell? ⟨g, 64, none⟩ = some c := by
 obtain ⟨cs, h0, _, _, _, h1⟩ := h
 exact (cell_of_row W g 64 _ _ _ h0).trans h1
theorem HexB.s4 {W : World} {g : Nat} {a b c : Value} (h : HexB W g a b c) (v : Value) : HexB (W.setCell ⟨g, 64, none⟩ v) g a b v := by
 obtain ⟨cs, h0, h1, h2, h3, h4⟩ := h
 refine ⟨_, heap_setCell_same W g 64 _ _ v h0, ?_, ?_, ?_, ?_⟩
 all_goals first
   | (rw [Array.getElem?_setIfInBounds, if_neg (by decide)]; assumption)
   | (simp [h1]; done)
theorem HexB.s3 {W : World} {g : Nat} {a b c : Value} (h : HexB W g a b c) (v : Value) : HexB (W.setCell ⟨g, 63, none⟩ v) g a v c := by
 obtain ⟨cs, h0, h1, h2, h3, h4⟩ := h
 refine ⟨_, heap_setCell_same W g 63 _ _ v h0, ?_, ?_, ?_, ?_⟩
 all_goals first
   | (rw [Array.getElem?_setIfInBounds, if_neg (by decide)]; assumption)
   | (simp [h1]; done)
theorem HexB.s2 {W : World} {g : Nat} {a b c : Value} (h : HexB W g a b c) (v : Value) : HexB (W.setCell ⟨g, 62, none⟩ v) g v b c := by
 obtain ⟨cs, h0, h1, h2, h3, h4⟩ := h
 refine ⟨_, heap_setCell_same W g 62 _ _ v h0, ?_, ?_, ?_, ?_⟩
 all_goals first
   | (rw [Array.getElem?_setIfInBounds, if_neg (by decide)]; assumption)
   | (simp [h1]; done)
abbrev digS : ByteArray := ⟨#[48, 49, 50, 51, 52, 53, 54, 55, 56, 57, 97, 98, 99, 100, 101, 102, 103, 104, 105, 106, 107, 108, 109, 110, 111, 112, 113, 114, 115, 116, 117, 118, 119, 120, 121, 122]⟩
theorem getD_at (l : List UInt8) {n : Nat} (h : n < l.length) : l.getD n 0 = l[n] := by simp [List.getD, h]
theorem dig_fin : ∀ n : Fin 16, digS.data.toList.getD n.val 0 = dgX n.val := by decide +kernel
theorem dig_at {n : Nat} (hn : n < 16) (h : n < (⟨#[48, 49, 50, 51, 52, 53, 54, 55, 56, 57, 97, 98, 99, 100, 101, 102, 103, 104, 105, 106, 107, 108, 109, 110, 111, 112, 113, 114, 115, 116, 117, 118, 119, 120, 121, 122]⟩ : ByteArray).size) : (⟨#[48, 49, 50, 51, 52, 53, 54, 55, 56, 57, 97, 98, 99, 100, 101, 102, 103, 104, 105, 106, 107, 108, 109, 110, 111, 112, 113, 114, 115, 116, 117, 118, 119, 120, 121, 122]⟩ : ByteArray)[n]'h = dgX n := by
 rw [← dig_fin ⟨n, hn⟩]
 have h2 : n < digS.data.toList.length := Nat.lt_of_lt_of_le hn (by decide)
 have e : digS.data.toList.getD n 0 = digS.data.toList[n]'h2 := getD_at _ h2
 exact e.symm
set_option maxRecDepth 100000 in
theorem and15 : ∀ n : Fin 1040, bits BinOp.and IntKind.u64 (n.val : Int) 15 = ((n.val % 16 : Nat) : Int) := by decide +kernel
set_option maxRecDepth 100000 in
set_option maxHeartbeats 1000000 in
theorem formatBits_1 (n : Nat) (hn : n < 16) (w : World) (hT : EnvT w) : Calls Tryz.prog 187 #[.slice none 0 0, .int .u64 n, .int .i64 16, .bool false, .bool false] w (fun e w' => e = .returned (.tuple #[.slice none 0 0, .string (bo [dgX n])]) ∧ Below w.heap.size w w') := by
 have hb := (Below.refl w.heap.size w).alloc (Nat.le_refl _) (.cells hexZ 220)
 have L := hideL (fun (W : World) (h : Below w.heap.size w W) => tz_any W (hT.next h))
 have LP := hideL pow2_any
 have HB := hideL hb
 have HX := hideL (HexB.new w)
 have i0 : ¬ (16 : Int) ≤ (n : Int) := by omega
 have t0 := fun h => dig_at hn h
 clear hT hb hn
 go_enter Tryz.func187, Tryz.ntmps187
 go_wp2_with (first
   | (with_reducible refine wpList_alloc_row rfl 220 rfl hexZ zeroHex ?_)
   | (go_at_call 213; refine (LP.out _).mono ?_; rintro e w2 ⟨rfl, rfl⟩)
   | (go_at_call 214; refine (L.out _ HB.out).mono ?_; rintro e w2 ⟨rfl, hB⟩; have HB2 := hideL (HB.out.trans (hB.mono HB.out.size)); have HX2 := hideL (HX.out.next hB); clear hB))
 have z64 := HX2.out.c4
 have f64 := HX2.out.fz 64
 have x64 := HX2.out.s4 (.int .u8 (dgX n).toNat)
 have k64 := (Below.refl w.heap.size w2).setCell (p := ⟨w.heap.size, 64, none⟩) (Nat.le_refl _) (.int .u8 (dgX n).toNat)
 have hcv := to_strA _ _ _ _ _ (hex_at (bs := [dgX n]) (k := 64) (m := 1) rfl x64.lt (fun i hi => by obtain rfl : i = 0 := Nat.lt_one_iff.1 hi; exact x64.c4))
 have HK := hideL (HB2.out.trans k64)
 clear x64 k64
 refine wp_loop_rounds 1 ?_
 rw [rounds_succ]
 go_wp2
 exact bodyPost_ret (v := .tuple #[.slice none 0 0, .string (bo [dgX n])]) (by simp [results, Tryz.results187, go_sem]) rfl ⟨rfl, HK.out⟩
set_option maxRecDepth 100000 in
set_option maxHeartbeats 1000000 in
theorem formatBits_2 (n q r : Nat) (h0 : 16 ≤ n) (a0 : bits BinOp.and IntKind.u64 (n : Int) 15 = (q : Int)) (hq : q < 16) (d0 : (n : Int) / 16 = (r : Int)) (hr : r < 16) (w : World) (hT : EnvT w) : Calls Tryz.prog 187 #[.slice none 0 0, .int .u64 n, .int .i64 16, .bool false, .bool false] w (fun e w' => e = .returned (.tuple #[.slice none 0 0, .string (bo [dgX r, dgX q])]) ∧ Below w.heap.size w w') := by
 have hb := (Below.refl w.heap.size w).alloc (Nat.le_refl _) (.cells hexZ 220)
 have L := hideL (fun (W : World) (h : Below w.heap.size w W) => tz_any W (hT.next h))
 have LP := hideL pow2_any
 have HB := hideL hb
 have HX := hideL (HexB.new w)
 have i0 : (16 : Int) ≤ (n : Int) := by omega
 have t0 := fun h => dig_at hq h
 have b0 : (q : Int) < 36 := by omega
 have i1 : ¬ (16 : Int) ≤ (r : Int) := by omega
 have t1 := fun h => dig_at hr h
 have b1 : (r : Int) < 36 := by omega
 clear hT hb h0 hq hr
 go_enter Tryz.func187, Tryz.ntmps187
 go_wp2_with (first
   | (with_reducible refine wpList_alloc_row rfl 220 rfl hexZ zeroHex ?_)
   | (go_at_call 213; refine (LP.out _).mono ?_; rintro e w2 ⟨rfl, rfl⟩)
   | (go_at_call 214; refine (L.out _ HB.out).mono ?_; rintro e w2 ⟨rfl, hB⟩; have HB2 := hideL (HB.out.trans (hB.mono HB.out.size)); have HX2 := hideL (HX.out.next hB); clear hB))
 have z64 := HX2.out.c4
 have f64 := HX2.out.fz 64
 have x64 := HX2.out.s4 (.int .u8 (dgX q).toNat)
 have k64 := (Below.refl w.heap.size w2).setCell (p := ⟨w.heap.size, 64, none⟩) (Nat.le_refl _) (.int .u8 (dgX q).toNat)
 have z63 := x64.c3
 have f63 := x64.fz 63
 have x63 := x64.s3 (.int .u8 (dgX r).toNat)
 have k63 := (Below.refl w.heap.size (w2.setCell ⟨w.heap.size, 64, none⟩ (.int .u8 (dgX q).toNat))).setCell (p := ⟨w.heap.size, 63, none⟩) (Nat.le_refl _) (.int .u8 (dgX r).toNat)
 have hcv := to_strA _ _ _ _ _ (hex_at (bs := [dgX r, dgX q]) (k := 63) (m := 2) rfl x63.lt (fun i hi => by
   match i, hi with
   | 0, _ => exact x63.c3
   | 1, _ => exact x63.c4))
 have HK := hideL ((HB2.out.trans k64).trans k63)
 clear x64 k64 x63 k63
 refine wp_loop_rounds 2 ?_
 rw [rounds_succ]
 go_wp2
 rw [rounds_succ]
 go_wp2
 exact bodyPost_ret (v := .tuple #[.slice none 0 0, .string (bo [dgX r, dgX q])]) (by simp [results, Tryz.results187, go_sem]) rfl ⟨rfl, HK.out⟩
set_option maxRecDepth 100000 in
set_option maxHeartbeats 1000000 in
theorem formatBits_3 (n q r p m : Nat) (h0 : 16 ≤ n) (a0 : bits BinOp.and IntKind.u64 (n : Int) 15 = (q : Int)) (hq : q < 16) (d0 : (n : Int) / 16 = (r : Int)) (h1 : 16 ≤ r) (a1 : bits BinOp.and IntKind.u64 (r : Int) 15 = (p : Int)) (hp : p < 16) (d1 : (r : Int) / 16 = (m : Int)) (hm : m < 16) (w : World) (hT : EnvT w) : Calls Tryz.prog 187 #[.slice none 0 0, .int .u64 n, .int .i64 16, .bool false, .bool false] w (fun e w' => e = .returned (.tuple #[.slice none 0 0, .string (bo [dgX m, dgX p, dgX q])]) ∧ Below w.heap.size w w') := by
 have hb := (Below.refl w.heap.size w).alloc (Nat.le_refl _) (.cells hexZ 220)
 have L := hideL (fun (W : World) (h : Below w.heap.size w W) => tz_any W (hT.next h))
 have LP := hideL pow2_any
 have HB := hideL hb
 have HX := hideL (HexB.new w)
 have i0 : (16 : Int) ≤ (n : Int) := by omega
 have t0 := fun h => dig_at hq h
 have b0 : (q : Int) < 36 := by omega
 have i1 : (16 : Int) ≤ (r : Int) := by omega
 have t1 := fun h => dig_at hp h
 have b1 : (p : Int) < 36 := by omega
 have i2 : ¬ (16 : Int) ≤ (m : Int) := by omega
 have t2 := fun h => dig_at hm h
 have b2 : (m : Int) < 36 := by omega
 clear hT hb h0 h1 hq hp hm
 go_enter Tryz.func187, Tryz.ntmps187
 go_wp2_with (first
   | (with_reducible refine wpList_alloc_row rfl 220 rfl hexZ zeroHex ?_)
   | (go_at_call 213; refine (LP.out _).mono ?_; rintro e w2 ⟨rfl, rfl⟩)
   | (go_at_call 214; refine (L.out _ HB.out).mono ?_; rintro e w2 ⟨rfl, hB⟩; have HB2 := hideL (HB.out.trans (hB.mono HB.out.size)); have HX2 := hideL (HX.out.next hB); clear hB))
 have z64 := HX2.out.c4
 have f64 := HX2.out.fz 64
 have x64 := HX2.out.s4 (.int .u8 (dgX q).toNat)
 have k64 := (Below.refl w.heap.size w2).setCell (p := ⟨w.heap.size, 64, none⟩) (Nat.le_refl _) (.int .u8 (dgX q).toNat)
 have z63 := x64.c3
 have f63 := x64.fz 63
 have x63 := x64.s3 (.int .u8 (dgX p).toNat)
 have k63 := (Below.refl w.heap.size (w2.setCell ⟨w.heap.size, 64, none⟩ (.int .u8 (dgX q).toNat))).setCell (p := ⟨w.heap.size, 63, none⟩) (Nat.le_refl _) (.int .u8 (dgX p).toNat)
 have z62 := x63.c2
 have f62 := x63.fz 62
 have x62 := x63.s2 (.int .u8 (dgX m).toNat)
 have k62 := (Below.refl w.heap.size ((w2.setCell ⟨w.heap.size, 64, none⟩ (.int .u8 (dgX q).toNat)).setCell ⟨w.heap.size, 63, none⟩ (.int .u8 (dgX p).toNat))).setCell (p := ⟨w.heap.size, 62, none⟩) (Nat.le_refl _) (.int .u8 (dgX m).toNat)
 have hcv := to_strA _ _ _ _ _ (hex_at (bs := [dgX m, dgX p, dgX q]) (k := 62) (m := 3) rfl x62.lt (fun i hi => by
   match i, hi with
   | 0, _ => exact x62.c2
   | 1, _ => exact x62.c3
   | 2, _ => exact x62.c4))
 have HK := hideL (((HB2.out.trans k64).trans k63).trans k62)
 clear x64 k64 x63 k63 x62 k62
 refine wp_loop_rounds 3 ?_
 rw [rounds_succ]
 go_wp2
 rw [rounds_succ]
 go_wp2
 rw [rounds_succ]
 go_wp2
 exact bodyPost_ret (v := .tuple #[.slice none 0 0, .string (bo [dgX m, dgX p, dgX q])]) (by simp [results, Tryz.results187, go_sem]) rfl ⟨rfl, HK.out⟩
theorem div16 {n r : Nat} (h : n / 16 = r) : (n : Int) / 16 = (r : Int) := by omega
theorem formatBits_any (n : Nat) (hn : n ≤ 1024) (w : World) (hT : EnvT w) : Calls Tryz.prog 187 #[.slice none 0 0, .int .u64 n, .int .i64 16, .bool false, .bool false] w (fun e w' => e = .returned (.tuple #[.slice none 0 0, .string (bo (hexS n))]) ∧ Below w.heap.size w w') := by
 unfold hexS
 by_cases h1 : n < 16
 · rw [if_pos h1]
   exact formatBits_1 n h1 w hT
 rw [if_neg h1]
 by_cases h2 : n < 256
 · rw [if_pos h2]
   exact formatBits_2 n (n % 16) (n / 16) (by omega) (and15 ⟨n, by omega⟩) (by omega) (div16 rfl) (by omega) w hT
 rw [if_neg h2]
 have e : n / 256 = n / 16 / 16 := by omega
 rw [e]
 exact formatBits_3 n (n % 16) (n / 16) (n / 16 % 16) (n / 16 / 16) (by omega) (and15 ⟨n, by omega⟩) (by omega) (div16 rfl) (by omega) (and15 ⟨n / 16, by omega⟩) (by omega) (div16 rfl) (by omega) w hT
set_option maxRecDepth 100000 in
theorem formatIntI_any (n : Nat) (hn : n ≤ 1024) (w : World) (hT : EnvT w) : Calls Tryz.prog 139 #[.int .i64 n, .int .i64 16] w (fun e w' => e = .returned (.string (bo (hexS n))) ∧ Below w.heap.size w w') := by
 have L := hideL (formatBits_any n hn w hT)
 have i1 : ¬ (n : Int) < 0 := by omega
 have hw : IntKind.u64.wrap (n : Int) = (n : Int) := by rw [IntWalk.u64_in _ (by omega)]
 clear hT
 go_enter Tryz.func139, Tryz.ntmps139
 go_wp2_with (go_at_call 187; refine L.out.mono ?_; rintro e w2 ⟨rfl, hB⟩)
 go_ret
 exact ⟨rfl, hB⟩
set_option maxRecDepth 100000 in
theorem formatInt_any (n : Nat) (hn : n ≤ 1024) (w : World) (hT : EnvT w) : Calls Tryz.prog 91 #[.int .i64 n, .int .i64 16] w (fun e w' => e = .returned (.string (bo (hexS n))) ∧ Below w.heap.size w w') := by
 have L := hideL (formatIntI_any n hn w hT)
 clear hT
 go_enter Tryz.func91, Tryz.ntmps91
 go_wp2_with (go_at_call 139; refine L.out.mono ?_; rintro e w2 ⟨rfl, hB⟩)
 go_ret
 exact ⟨rfl, hB⟩
end Go.Proofs.YtafmgoekgijfgaaGreatDoor
