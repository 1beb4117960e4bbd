/- The document's first line of an answer. -/
import Derived.Test.YtafmgoekgijfgaaGreatDoorAAnReason
import Derived.Test.YtafmgoekgijfgaaGreatDoorAAnDig
namespace Go.Proofs.YtafmgoekgijfgaaGreatDoor
open Go.RowKit Go.Lib

theorem dgS_nat (n : Nat) : (dgS n).toNat = 48 + n % 10 := by
  unfold dgS
  rw [UInt8.toNat_ofNat']
  omega
set_option maxRecDepth 100000 in
set_option maxHeartbeats 4000000 in
theorem rstart_any (c : Nat) (h : codB c = true) (w0 : World) : Calls Tryz.prog 32 #[.int .i64 c] w0 (fun e w' => e = .returned (.string (bo (anLine c))) ∧ Below w0.heap.size w0 w') := by
  have hc : 200 ≤ c ∧ c ≤ 599 := by
    unfold codB at h
    have := of_decide_eq_true h
    omega
  have LR := hideL (fun W => rreason_any (c : Int) W)
  have h19 := reaP_len (c : Int)
  have hs := line_sum c
  rw [decS_three (n := c) (by omega) (by omega)] at hs
  have t1 := dgS_nat (c / 100)
  have t2 := dgS_nat (c / 10)
  have t3 := dgS_nat c
  obtain ⟨x1, hx1⟩ : ∃ x, c / 100 = x := ⟨_, rfl⟩
  obtain ⟨x2, hx2⟩ : ∃ x, c / 10 = x := ⟨_, rfl⟩
  obtain ⟨x3, hx3⟩ : ∃ x, x2 % 10 = x := ⟨_, rfl⟩
  obtain ⟨x4, hx4⟩ : ∃ x, c % 10 = x := ⟨_, rfl⟩
  rw [hx1] at t1 hs
  rw [hx2] at t2 hs
  obtain ⟨A, hA⟩ : ∃ x, dgS x1 = x := ⟨_, rfl⟩
  obtain ⟨B, hB⟩ : ∃ x, dgS x2 = x := ⟨_, rfl⟩
  obtain ⟨C, hC⟩ : ∃ x, dgS c = x := ⟨_, rfl⟩
  rw [hA] at t1 hs
  rw [hB] at t2 hs
  rw [hC] at t3 hs
  have d1 : (c : Int) / 100 = (x1 : Int) := by omega
  have d2 : Int.tdiv (c : Int) 100 = (x1 : Int) := by rw [← hx1]; rfl
  have d3 : (c : Int) / 10 = (x2 : Int) := by omega
  have d4 : Int.tdiv (c : Int) 10 = (x2 : Int) := by rw [← hx2]; rfl
  have d5 : (x2 : Int) % 10 = (x3 : Int) := by omega
  have d6 : Int.tmod (x2 : Int) 10 = (x3 : Int) := by rw [← hx3]; rfl
  have d7 : (c : Int) % 10 = (x4 : Int) := by omega
  have d8 : Int.tmod (c : Int) 10 = (x4 : Int) := by rw [← hx4]; rfl
  have a0 : IntKind.i64.wrap (x1 : Int) = (x1 : Int) := by rw [IntWalk.i64_in _ (by omega)]
  have a4 : IntKind.i64.wrap (x2 : Int) = (x2 : Int) := by rw [IntWalk.i64_in _ (by omega)]
  have a1 : IntKind.i64.wrap (48 + (x1 : Int)) = (A.toNat : Int) := by rw [IntWalk.i64_in _ (by omega)]; omega
  have a2 : IntKind.i64.wrap (48 + (x3 : Int)) = (B.toNat : Int) := by rw [IntWalk.i64_in _ (by omega)]; omega
  have a3 : IntKind.i64.wrap (48 + (x4 : Int)) = (C.toNat : Int) := by rw [IntWalk.i64_in _ (by omega)]; omega
  have b1 : IntKind.u8.wrap (A.toNat : Int) = (A.toNat : Int) := IntWalk.u8_in _ (by omega)
  have b2 : IntKind.u8.wrap (B.toNat : Int) = (B.toNat : Int) := IntWalk.u8_in _ (by omega)
  have b3 : IntKind.u8.wrap (C.toNat : Int) = (C.toNat : Int) := IntWalk.u8_in _ (by omega)
  have LW : HidL (∀ W : World, GRow KB (W.alloc (.cells #[.int .u8 A.toNat, .int .u8 B.toNat, .int .u8 C.toNat] 5)) W.heap.size (.slice (some ⟨W.heap.size, 0, none⟩) 3 3) [A, B, C]) := ⟨fun W => GRow.lit (K := KB) W W.heap.size [A, B, C] (Nat.le_refl _) (by simp [maxLen])⟩
  have s1 : (bo [A, B, C]).size = 3 := by rw [bo_size]; rfl
  have s2 : (bo (reaP (c : Int))).size ≤ 19 := by rw [bo_size]; exact h19
  obtain ⟨T, hT⟩ : ∃ x, bo [A, B, C] = x := ⟨_, rfl⟩
  obtain ⟨R, hR⟩ : ∃ x, bo (reaP (c : Int)) = x := ⟨_, rfl⟩
  rw [hT] at s1 hs
  rw [hR] at s2 hs LR
  have n1 : ¬ 9223372036854775807 < 9 + T.size := by omega
  have n2 : ¬ 9223372036854775807 < 9 + T.size + 1 := by omega
  have n3 : ¬ 9223372036854775807 < 9 + T.size + 1 + R.size := by omega
  have HT := hideL hT
  rw [← hs]
  have HB0 := hideL ((Below.refl w0.heap.size w0).drew)
  clear h hc h19 hs t1 t2 t3 hx1 hx2 hx3 hx4 hA hB hC s1 s2 hT hR
  go_enter Tryz.func32, Tryz.ntmps32
  go_upto_region 1 with fail
  refine wp_region_held_drew (S := fun w' => Below w0.heap.size w0 w') (by kernel_rfl) ((Below.refl _ _).drew) (fun hHeld => ?_)
  refine tl 0 rfl hHeld ?_
  try simp only [pA, pB, pC, pD]
  refine tl 1 rfl hHeld ?_
  try simp only [pA, pB, pC, pD]
  refine tl 2 rfl hHeld ?_
  try simp only [pA, pB, pC, pD]
  refine tl 3 rfl hHeld ?_
  try simp only [pA, pB, pC, pD]
  refine tl 4 rfl hHeld ?_
  try simp only [pA, pB, pC, pD]
  refine tl 5 rfl hHeld ?_
  try simp only [pA, pB, pC, pD]
  refine tl 6 rfl hHeld ?_
  try simp only [pA, pB, pC, pD]
  refine tl 7 rfl hHeld ?_
  try simp only [pA, pB, pC, pD]
  refine tl 8 rfl hHeld ?_
  try simp only [pA, pB, pC, pD]
  refine tl 9 rfl hHeld ?_
  try simp only [pA, pB, pC, pD]
  refine tl 10 rfl hHeld ?_
  try simp only [pA, pB, pC, pD]
  refine tl 11 rfl hHeld ?_
  try simp only [pA, pB, pC, pD]
  refine tl 12 rfl hHeld ?_
  try simp only [pA, pB, pC, pD]
  refine tl 17 rfl hHeld ?_
  try simp only [pA, pB, pC, pD]
  refine wpAnyH_ready (rs := [13, 18]) (by kernel_rfl) (by simp) ?_
  refine AllReadyH.cons (o := ⟨_, _, _, _, _, _⟩) rfl (fun K hK => ?_) (AllReadyH.cons (o := ⟨_, _, _, _, _, _⟩) rfl (fun K hK => ?_) AllReadyH.nil)
  · clear hHeld
    go_simp
    have HG := hideL ((LW.out w0).drew)
    have HB1 := hideL (((Below.refl w0.heap.size w0).alloc (Nat.le_refl _) (.cells #[.int .u8 A.toNat, .int .u8 B.toNat, .int .u8 C.toNat] 5)).drew)
    refine hK.out _ _ (HB1.out) (fun hHeld => ?_)
    clear hK K
    try simp only [pA, pB, pC, pD]
    refine wpAnyH_ready (rs := [14, 18]) (by kernel_rfl) (by simp) ?_
    refine AllReadyH.cons (o := ⟨_, _, _, _, _, _⟩) rfl (fun K hK => ?_) (AllReadyH.cons (o := ⟨_, _, _, _, _, _⟩) rfl (fun K hK => ?_) AllReadyH.nil)
    · clear hHeld
      have hcv := to_str _ _ _ _ HG.out
      rw [HT.out] at hcv
      go_simp
      refine hK.out _ _ (HB1.out) (fun hHeld => ?_)
      clear hK K
      try simp only [pA, pB, pC, pD]
      refine tl 15 rfl hHeld ?_
      try simp only [pA, pB, pC, pD]
      refine tl 16 rfl hHeld ?_
      try simp only [pA, pB, pC, pD]
      refine wpAnyH_ready (rs := [18]) (by kernel_rfl) (by simp) ?_
      refine AllReadyH.cons (o := ⟨_, _, _, _, _, _⟩) rfl (fun K hK => ?_) AllReadyH.nil
      clear hHeld
      go_simp
      refine (LR.out _).mono ?_
      rintro e V2 ⟨rfl, hB⟩
      have HB2 := hideL (HB1.out.trans (hB.mono HB1.out.size))
      clear hB
      refine hK.out _ _ (HB2.out) (fun hHeld => ?_)
      clear hK K
      try simp only [pA, pB, pC, pD]
      refine tl 19 rfl hHeld ?_
      try simp only [pA, pB, pC, pD]
      refine tl 20 rfl hHeld ?_
      try simp only [pA, pB, pC, pD]
      refine wpAnyH_done (by kernel_rfl) ?_ _
      clear hHeld
      go_wp2_with fail
      go_ret
      exact ⟨rfl, HB2.out⟩
    · clear hHeld
      go_simp
      refine (LR.out _).mono ?_
      rintro e V2 ⟨rfl, hB⟩
      have HB2 := hideL (HB1.out.trans (hB.mono HB1.out.size))
      have HG := hideL (HG.out.below hB)
      clear hB
      refine hK.out _ _ (HB2.out) (fun hHeld => ?_)
      clear hK K
      try simp only [pA, pB, pC, pD]
      refine wpAnyH_ready (rs := [14]) (by kernel_rfl) (by simp) ?_
      refine AllReadyH.cons (o := ⟨_, _, _, _, _, _⟩) rfl (fun K hK => ?_) AllReadyH.nil
      clear hHeld
      have hcv := to_str _ _ _ _ HG.out
      rw [HT.out] at hcv
      go_simp
      refine hK.out _ _ (HB2.out) (fun hHeld => ?_)
      clear hK K
      try simp only [pA, pB, pC, pD]
      refine tl 15 rfl hHeld ?_
      try simp only [pA, pB, pC, pD]
      refine tl 16 rfl hHeld ?_
      try simp only [pA, pB, pC, pD]
      refine tl 19 rfl hHeld ?_
      try simp only [pA, pB, pC, pD]
      refine tl 20 rfl hHeld ?_
      try simp only [pA, pB, pC, pD]
      refine wpAnyH_done (by kernel_rfl) ?_ _
      clear hHeld
      go_wp2_with fail
      go_ret
      exact ⟨rfl, HB2.out⟩
  · clear hHeld
    go_simp
    refine (LR.out _).mono ?_
    rintro e V1 ⟨rfl, hB⟩
    have HB1 := hideL (HB0.out.trans (hB.mono HB0.out.size))
    clear hB
    refine hK.out _ _ (HB1.out) (fun hHeld => ?_)
    clear hK K
    try simp only [pA, pB, pC, pD]
    refine wpAnyH_ready (rs := [13]) (by kernel_rfl) (by simp) ?_
    refine AllReadyH.cons (o := ⟨_, _, _, _, _, _⟩) rfl (fun K hK => ?_) AllReadyH.nil
    clear hHeld
    go_simp
    have HG := hideL (LW.out (V1))
    have HB2 := hideL (HB1.out.alloc HB1.out.size (.cells #[.int .u8 A.toNat, .int .u8 B.toNat, .int .u8 C.toNat] 5))
    refine hK.out _ _ (HB2.out) (fun hHeld => ?_)
    clear hK K
    try simp only [pA, pB, pC, pD]
    refine wpAnyH_ready (rs := [14]) (by kernel_rfl) (by simp) ?_
    refine AllReadyH.cons (o := ⟨_, _, _, _, _, _⟩) rfl (fun K hK => ?_) AllReadyH.nil
    clear hHeld
    have hcv := to_str _ _ _ _ HG.out
    rw [HT.out] at hcv
    go_simp
    refine hK.out _ _ (HB2.out) (fun hHeld => ?_)
    clear hK K
    try simp only [pA, pB, pC, pD]
    refine tl 15 rfl hHeld ?_
    try simp only [pA, pB, pC, pD]
    refine tl 16 rfl hHeld ?_
    try simp only [pA, pB, pC, pD]
    refine tl 19 rfl hHeld ?_
    try simp only [pA, pB, pC, pD]
    refine tl 20 rfl hHeld ?_
    try simp only [pA, pB, pC, pD]
    refine wpAnyH_done (by kernel_rfl) ?_ _
    clear hHeld
    go_wp2_with fail
    go_ret
    exact ⟨rfl, HB2.out⟩
end Go.Proofs.YtafmgoekgijfgaaGreatDoor
