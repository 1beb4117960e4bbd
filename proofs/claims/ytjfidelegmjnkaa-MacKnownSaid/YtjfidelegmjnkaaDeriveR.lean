/- The document's Derive of layer 2. -/
import Derived.Test.YtjfidelegmjnkaaProg
import Derived.Test.YtjfidelegmjnkaaDerive
namespace Go.Proofs.Ytjfidelegmjnkaa
open Go.RowKit

theorem p56 : (2 : Int) ^ (56 - 8 * 0) = 72057594037927936 := by decide
theorem p48 : (2 : Int) ^ (56 - 8 * 1) = 281474976710656 := by decide
theorem p40 : (2 : Int) ^ (56 - 8 * 2) = 1099511627776 := by decide
theorem p32 : (2 : Int) ^ (56 - 8 * 3) = 4294967296 := by decide
theorem p24 : (2 : Int) ^ (56 - 8 * 4) = 16777216 := by decide
theorem p16 : (2 : Int) ^ (56 - 8 * 5) = 65536 := by decide
theorem p8 : (2 : Int) ^ (56 - 8 * 6) = 256 := by decide
theorem p0 : (2 : Int) ^ (56 - 8 * 7) = 1 := by decide

/-- The label's nought and the eight bytes of a number, as the document's text has them. -/
def tailS (n : Nat) : List Int := [0, (n : Int) / 72057594037927936, (n : Int) / 281474976710656 % 256, (n : Int) / 1099511627776 % 256, (n : Int) / 4294967296 % 256, (n : Int) / 16777216 % 256, (n : Int) / 65536 % 256, (n : Int) / 256 % 256, (n : Int) % 256]
theorem tailS_eq (n : Nat) (hn : n < 18446744073709551616) : tailS n = 0 :: hiBytes n 8 := by
  have e : hiBytes n 8 = [hiByte n 0, hiByte n 1, hiByte n 2, hiByte n 3, hiByte n 4, hiByte n 5, hiByte n 6, hiByte n 7] := rfl
  rw [e, tailS, hiByte, hiByte, hiByte, hiByte, hiByte, hiByte, hiByte, hiByte, p56, p48, p40, p32, p24, p16, p8, p0, Int.ediv_one, Int.emod_eq_of_lt (a := (n : Int) / 72057594037927936) (by omega) (by omega)]
theorem tailS_range (n : Nat) (hn : n < 18446744073709551616) : ∀ x ∈ tailS n, 0 ≤ x ∧ x < 256 := by
  intro x hx
  simp [tailS] at hx
  omega

set_option maxRecDepth 100000 in
set_option maxHeartbeats 300000 in
theorem deriveR_any (k : List Int) (s : ByteArray) (n : Nat) (kv : Value) (w : World) (hn : n < 18446744073709551616) (hk : SlAt w kv k) (hkb : ∀ x ∈ k, 0 ≤ x ∧ x < 256) (hl : k.length ≤ 9000) (hs : s.size ≤ 9000) :
    Calls Try.prog 12 #[kv, .string s, .int .u64 n] w (fun e w' => ∃ v, e = .returned v ∧ SlAt w' v (derS k s n) ∧ Below w.heap.size w w') := by
  have hal2 : Try.prog.arrayLen 25 = 32 := by kernel_rfl
  obtain ⟨ao, cap, rfl⟩ := hk.len
  obtain ⟨c1, w1, hcv, hst, hB1, hz1⟩ := str_bytes w s (by unfold maxLen; omega)
  have HST := hide hst
  have HB1 := hide hB1
  have HK := hide hk
  obtain ⟨m, hm⟩ : ∃ m, m = s.size := ⟨_, rfl⟩
  have HM := hide hm
  rw [← hm] at hs hcv
  obtain ⟨R, hR⟩ : ∃ R, R = derS k s n := ⟨_, rfl⟩
  have HR : Hid (R.length = 32) := hide (by rw [hR]; exact length_derS _ _ _)
  rw [← hR]
  have HRE := hide hR
  clear hst hB1 hk hm hR hz1
  go_enter Try.func12, Try.ntmps12
  obtain ⟨v2, w2, hrun, hsl, hbel⟩ := append_str _ _ _ w.heap.size _ (HST.out.alloc (.cells (cellsOf .u8 (tailS n)) 5)) (Nat.le_refl _) (.slice (some ⟨w1.heap.size, 0, none⟩) 9 9) (tailS n) (slAt_blkN (Blk.new w1 5 .u8 (tailS n)) rfl) (by rw [length_bytesOf, ← HM.out, show (tailS n).length = 9 from rfl]; omega)
  rw [length_bytesOf, ← HM.out, show cellsOf .u8 (tailS n) = #[.int .u8 0, .int .u8 ((n : Int) / 72057594037927936), .int .u8 ((n : Int) / 281474976710656 % 256), .int .u8 ((n : Int) / 1099511627776 % 256), .int .u8 ((n : Int) / 4294967296 % 256), .int .u8 ((n : Int) / 16777216 % 256), .int .u8 ((n : Int) / 65536 % 256), .int .u8 ((n : Int) / 256 % 256), .int .u8 ((n : Int) % 256)] from rfl] at hrun
  have HRUN := hide hrun
  have HB2 := hide (hbel _ (HB1.out.alloc HB1.out.size _))
  have HC := hide (macR_any k (bytesOf s ++ tailS n) (.slice ao k.length cap) v2 w2 (HK.out.below HB2.out) hkb (by omega) hsl (fun x hx => (List.mem_append.1 hx).elim (bytesOf_range s x) (tailS_range n hn x)) (by rw [List.length_append, length_bytesOf, ← HM.out, show (tailS n).length = 9 from rfl]; omega))
  rw [tailS_eq n hn, show macS k (bytesOf s ++ 0 :: hiBytes n 8) = R from HRE.out.symm] at HC
  clear hrun hsl hbel HB1 HST HRE hkb
  go_wp2_with (first
    | (at_builtin; with_reducible refine wpList_append_run rfl (.tmp 10) (.tmp 34) 22 22 22 rfl rfl (.slice (some ⟨w.heap.size, 0, none⟩) m c1) (.slice (some ⟨w1.heap.size, 0, none⟩) 9 9) v2 w2 rfl rfl HRUN.out ?_))
  refine HC.out.mono ?_
  rintro e w3 ⟨rfl, hBX⟩
  have HB3 := hide (below_through hBX HB2.out)
  clear hBX HC HB2 HRUN hcv
  go_wp2_with (first
    | (with_reducible refine wpList_alloc_row rfl 25 rfl (cellsOf .u8 zeros32) zero36 ?_)
    | (with_reducible refine wpList_store_blk rfl 25 (.tmp 8) (.tmp 38) rfl w3.heap.size .u8 R rfl rfl _ _ (Blk.new w3 25 .u8 zeros32) (sz36 R HR.out) (zl32 HR.out) ?_))
  intro w4 hb4 hz4 hB4 hk4
  have HB4 := hide ((HB3.out.alloc HB3.out.size (.cells (cellsOf .u8 zeros32) 25)).trans (hB4 _ HB3.out.size))
  obtain ⟨v5, w5, hrun, hrow, hp⟩ := append_row _ _ _ [] (Row.empty w4) (.slice (some ⟨w3.heap.size, 0, none⟩) 32 32) R (slAt_blkN (hb4.alloc _) HR.out) (by rw [HR.out]; simp) (by simp)
  have HB5 := hide (hp.below _ _ (HB4.out.alloc HB4.out.size _) (by have := HB4.out.size; simp; omega) (fun x hx => by simp [Value.ownBlock] at hx; have := HB4.out.size; omega))
  have HW5 : Hid (SlAt w5 v5 R) := hide (by have := hrow.slAt; rwa [List.nil_append] at this)
  have HRUN := hide hrun
  clear hb4 hz4 hB4 hk4 HB3 HB4 hrun hrow hp
  generalize w3.heap.size = g8 at HRUN ⊢
  go_wp2_with (first
    | (at_builtin; with_reducible refine wpList_append_run rfl (.tmp 39) (.tmp 40) 22 22 22 rfl rfl (.slice (some ⟨w4.heap.size, 0, none⟩) 0 0) (.slice (some ⟨g8, 0, none⟩) 32 32) v5 w5 rfl rfl HRUN.out ?_))
  go_ret
  exact ⟨_, rfl, HW5.out, HB5.out⟩
end Go.Proofs.Ytjfidelegmjnkaa
