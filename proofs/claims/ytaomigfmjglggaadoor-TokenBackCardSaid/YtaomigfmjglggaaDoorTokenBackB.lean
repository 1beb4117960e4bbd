/- Law TokenBack, walked: a case of four. Law TokenBack, walked: a case of four. Law TokenBack, walked: a case of four. -/
import Derived.Test.YtaomigfmjglggaaDoorTkBkM
namespace Go.Proofs.YtaomigfmjglggaaDoor
open Go.RowKit

set_option maxRecDepth 100000 in
set_option maxHeartbeats 8000000 in
theorem back_main4 (s t : Tk) (av : Int) (ma : Option Addr) (q mc : Nat) (ms : List Int) (w : World) (hT : Tab w) (hs : s.ok) (hp : t.ok) (hm : SlAt w (.slice ma q mc) ms) (hmb : ∀ x ∈ ms, 0 ≤ x ∧ x < 256) (hq : ms.length = q) (hq100 : ¬ 100 < q) (hl1 : longB 0 s = false) (hl2 : longB 0 t = false) (hmt : mayT t = true) (hme : ms = []) (hms : mayT s = false) (hav : ¬ 0 < av) :
    Calls Tryd.prog 9 #[.agg (tkA s), .agg (tkA t), .int .i64 av, .slice ma q mc] w (LawPost w) := by
  have HT := hide hT
  have HL := hide (LB.first w s t (.slice ma q mc) ms hm)
  have HOS := hide hs
  have HOT := hide hp
  have HMS := hide hs.mac
  have HMT := hide hp.mac
  have HMB := hide hmb
  have HAW := hide (fun W (h : Below w.heap.size w W) => awake_any W (HT.out.below h HT.out.two))
  have HLS := hide (fun W => (show _ from by have h := long_any none 0 0 0 0 s W; rw [hl1] at h; exact h))
  have HLT := hide (fun W => (show _ from by have h := long_any none 0 0 0 0 t W; rw [hl2] at h; exact h))
  have HQ := tuck hq
  clear hs hp hm hT hmb hq hl1 hl2
  unfold ringA at *
  have hq1 : ¬ (100 : Int) < (q : Int) := by omega
  have hq2 : decide ((100 : Int) < (q : Int)) = false := by simpa using hq1
  have hq3 : decide (100 < q) = false := by simpa using hq100
  have HBY := hide (fun (W : World) (h : Below w.heap.size w W) => bytes_ok t HOT.out hmt W (HT.out.below h HT.out.two))
  have HFT := hide (fine_bytes HOT.out hmt)
  have HTL := hide (fun (x : Tk) (h1 : x.ok) (h2 : mayT x = true) => bytes_tell h1 HOT.out h2 hmt (fine_bytes h1 h2) (fine_bytes HOT.out hmt))
  have HR1 := hide (show readS (saidS t ++ t.mac) = some t from by have h := readS_put t HOT.out hmt []; rwa [List.append_nil, if_pos rfl] at h)
  have HR2 := hide (fun (K : Nat) (hK : K < (saidS t ++ t.mac).length) => readS_less HOT.out hmt hK (fine_bytes HOT.out hmt))
  have HR3 := hide (show readS ((saidS t ++ t.mac) ++ ms) = if ms = [] then some t else none from by rw [List.append_assoc]; exact readS_put t HOT.out hmt ms)
  have HFM : Hid (Fine ((saidS t ++ t.mac) ++ ms)) := hide (by
    have h1 := HFT.out
    have h2 := saidS_len hmt
    refine ⟨fun x hx => ?_, by simp only [List.length_append, HQ.out, HOT.out.mac]; omega⟩
    rcases List.mem_append.1 hx with h | h
    · exact h1.1 x h
    · exact HMB.out x h)
  have HBL : Hid (32 ≤ (saidS t ++ t.mac).length ∧ (saidS t ++ t.mac).length ≤ 300) := hide (by
    have h2 := saidS_len hmt
    simp only [List.length_append, HOT.out.mac]; omega)
  have hsame : ∀ w : World, (Op.equalIn 10000 31 (.agg (tkA t)) (.agg (tkA t))).run Tryd.prog w = .ok true w := fun w => by rw [run_eqTk t t HMT.out HMT.out w, eqT_self]
  have HSAME := hide hsame
  clear hsame
  obtain ⟨B, hBd⟩ : ∃ B, saidS t ++ t.mac = B := ⟨_, rfl⟩
  have HBD := tuck hBd
  rw [hBd] at HBY HFT HR1 HR2 HR3 HFM HBL
  clear hBd hmt
  obtain ⟨bl, hbl⟩ : ∃ bl, B.length = bl := ⟨_, rfl⟩
  have HBN := tuck hbl
  rw [hbl] at HR2 HBL
  have hb0 := HBL.out
  have hmx : max (0 : Int) av = 0 := by omega
  have hz4 : Int.tmod 0 (bl : Int) = 0 := Int.zero_tmod _
  have hz5 : (0 : Int) % (bl : Int) = 0 := Int.zero_emod _
  have hz1 : decide ((0 : Int) < av) = false := by simpa using hav
  have hKl : 0 < bl := by omega
  have hbz : ¬ (bl : Int) = 0 := by omega
  have hbz2 : ¬ bl = 0 := by omega
  have hbzd : decide ((bl : Int) = 0) = false := by simpa using hbz2
  have hbzb : ((bl : Int) == 0) = false := by simpa using hbz2
  have HKL := tuck hKl
  have HRK := hide (HR2.out 0 hKl)
  clear HR2 hbl hb0
  rw [if_pos hme] at HR3
  have hq0 : q = 0 := by rw [← HQ.out, hme]; rfl
  have hq5 : decide ((q : Int) = 0) = true := by simpa using hq0
  have hq6 : ((q : Int) == 0) = true := by simpa using hq0
  have hq7 : decide (q = 0) = true := by simpa using hq0
  have hq8 : (q == 0) = true := by simpa using hq0
  clear hme hq0
  have HBS := hide (fun W => bytes_no s HOS.out hms W)
  clear hms HTL
  go_enter Tryd.func9, Tryd.ntmps9
  go_upto_region 3 with (first | (refine wpList_load_tk rfl (.tmp 4) rfl w.heap.size rfl s HMS.out HL.out.x ?_) | (go_at_call 11; refine (HLS.out _).mono ?_; rintro e w2 ⟨rfl, hB⟩; have HL2 := hide (HL.out.next hB); clear hB HL HLS) | (refine wpList_load_tk_w (by rfl) (.tmp 5) rfl (w.heap.size + 1) rfl t HMT.out HL2.out.y ?_) | (go_at_call 11; refine (HLT.out _).mono ?_; rintro e w3 ⟨rfl, hB⟩; have HL3 := hide (HL2.out.next hB); clear hB HL2 HLT))
  go_upto_region 4 with (first | (refine wpList_load_tk rfl (.tmp 5) rfl (w.heap.size + 1) rfl t HMT.out HL3.out.y ?_) | (go_at_call 24; refine (HBY.out _ HL3.out.b).mono ?_; rintro e w4 ⟨v4, rfl, hr, hB⟩; have HL4 := hide (HL3.out.next hB); have hs4 := hr.slAt; obtain ⟨va, vc, hv⟩ := hs4.len; rw [HBN.out] at hv; subst hv; have HB4 := hide hs4; clear hr hB hs4 HL3 HBY))
  go_upto_region 6 with fail
  go_upto_region 7 with (first | (go_at_call 26; refine (read_some (.slice va bl vc) B _ HB4.out HFT.out (HT.out.below HL4.out.b HT.out.two) HR1.out).mono ?_; rintro e w5 ⟨rfl, hB⟩; have HL5 := hide (HL4.out.next hB); have HB5 := hide (HB4.out.below hB); clear hB HL4 HB4) | (refine wpList_alloc_tk rfl rfl ?_) | (refine wpList_store_tk_new rfl (.tmp 11) (.tmp 53) rfl w5.heap.size t rfl rfl tk0 tk0_len HMT.out (TBox.new _ _) (fun W => Below w5.heap.size w5 W ∧ TBox W w5.heap.size t) ⟨below_pair w5 tk0 t, (TBox.new _ _).row⟩ ?_; intro w6 hp; have HL6 := hide (HL5.out.next hp.1); have HB6 := hide (HB5.out.below hp.1); have HX6 := hide hp.2; have hcut : (Instr.sliceAt 22 (.slice va bl vc) none (some (.int .i64 0)) none).run Tryd.prog w6 = .ok (.slice va 0 vc) w6 := run_cut_hk (P := Tryd.prog) .i64 Tryd.underlying22 size5 va bl vc 0 (by have := HB6.out.le.1; have := HKL.out; omega) w6; clear hp HL5 HB5))
  go_upto_region 8 with (first | (go_at_call 26; refine (read_none (.slice va 0 vc) (B.take 0) _ (HB6.out.front' (Nat.le_of_lt HKL.out)) ⟨fun x hx => HFT.out.1 x (List.mem_of_mem_take hx), by have := HFT.out.2; first | (simp; done) | (simp; omega)⟩ (HT.out.below HL6.out.b HT.out.two) HRK.out).mono ?_; rintro e w7 ⟨rfl, hB⟩; have HL7 := hide (HL6.out.next hB); have HB7 := hide (HB6.out.below hB); have HX7 := hide (HX6.out.next hB); clear hB hcut HL6 HB6 HX6) | (refine wpList_alloc_tk rfl rfl ?_) | (refine wpList_store_tk_new rfl (.tmp 13) (.tmp 64) rfl w7.heap.size tk0 rfl rfl tk0 tk0_len tk0_len (TBox.new _ _) (fun W => Below w7.heap.size w7 W) (below_pair w7 tk0 tk0) ?_; intro w8 hp; have HL8 := hide (HL7.out.next hp); have HB8 := hide (HB7.out.below hp); have HX8 := hide (HX7.out.next hp); have HB8a := hide (HB8.out.below ((Below.refl w8.heap.size w8).alloc (Nat.le_refl _) (.cells #[] 5))); obtain ⟨v9, w9, hrun, hrow, hbw⟩ := append_rowB (w8.alloc (.cells #[] 5)) w8.heap.size (.slice (some ⟨w8.heap.size, 0, none⟩) 0 0) [] (Row.empty w8) (.slice va bl vc) B HB8a.out (by have := HBN.out; have := HBL.out; simp; omega) (by simp); rw [List.nil_append] at hrow; obtain ⟨xa, xc, hv⟩ := hrow.slAt.len; rw [HBN.out] at hv; subst hv; have HRUN := hide hrun; have hb9 : Below w8.heap.size w8 w9 := ((Below.refl _ _).alloc (Nat.le_refl _) _).trans hbw; have HL9 := hide (HL8.out.next hb9); have HB9 := hide (HB8.out.below hb9); have HX9 := hide (HX8.out.next hb9); have HBW9 := hide hbw; have HR9 := hide hrow; have HS9 := hide hb9.size; clear hp hrun hrow hbw hb9 HL7 HB7 HX7 HB8a))
  go_upto_region 9 with (first | (at_builtin; refine wpList_append_run rfl (.tmp 67) (.tmp 68) 22 22 22 rfl rfl (.slice (some ⟨w8.heap.size, 0, none⟩) 0 0) (.slice va bl vc) (.slice xa bl xc) w9 rfl rfl HRUN.out ?_; obtain ⟨v10, w10, hrun, hrow, hbw⟩ := append_rowB w9 w8.heap.size (.slice xa bl xc) B HR9.out (.slice ma q mc) ms HL9.out.m (by have := HBN.out; have := HBL.out; have := HQ.out; omega) HS9.out; obtain ⟨ya, yc, hv⟩ := hrow.slAt.len; obtain ⟨bq, hbq⟩ : ∃ bq, (B ++ ms).length = bq := ⟨_, rfl⟩; rw [hbq] at hv; subst hv; clear hbq; have HRUN2 := hide hrun; have hb10 : Below w8.heap.size w8 w10 := (((Below.refl _ _).alloc (Nat.le_refl _) _).trans (HBW9.out)).trans hbw; have HL10 := hide (HL8.out.next hb10); have HB10 := hide (HB8.out.below hb10); have HX10 := hide (HX8.out.next hb10); have HR10 := hide hrow.slAt; clear hrun hrow hbw hb10 HL9 HB9 HX9 HR9 HRUN HL8 HB8 HX8 HBW9) | (at_builtin; refine wpList_append_run rfl (.tmp 69) (.tmp 70) 22 22 22 rfl rfl (.slice xa bl xc) (.slice ma q mc) (.slice ya bq yc) w10 rfl rfl HRUN2.out ?_; clear HRUN2) | (go_at_call 26; refine (read_some (.slice ya bq yc) (B ++ ms) _ HR10.out HFM.out (HT.out.below HL10.out.b HT.out.two) HR3.out).mono ?_; rintro e w11 ⟨rfl, hB⟩; have HL11 := hide (HL10.out.next hB); have HB11 := hide (HB10.out.below hB); have HX11 := hide (HX10.out.next hB); clear hB HL10 HB10 HX10 HR10) | (refine wpList_alloc_tk rfl rfl ?_) | (refine wpList_store_tk_new rfl (.tmp 15) (.tmp 73) rfl w11.heap.size t rfl rfl tk0 tk0_len HMT.out (TBox.new _ _) (fun W => Below w11.heap.size w11 W) (below_pair w11 tk0 t) ?_; intro w12 hp; have HL12 := hide (HL11.out.next hp); have HB12 := hide (HB11.out.below hp); have HX12 := hide (HX11.out.next hp); clear hp HL11 HB11 HX11))
  go_upto_region 10 with (first | (refine wpList_load_tk rfl (.tmp 4) rfl w.heap.size rfl s HMS.out HL12.out.x ?_) | (go_at_call 24; refine (HBS.out _).mono ?_; rintro e w13 ⟨rfl, hB⟩; have HK13 := hide (show BK w s t (.slice ma q mc) ms w5.heap.size (.slice va bl vc) (.slice none 0 0) B [] w13 from ⟨HL12.out.next hB, HX12.out.next hB, HB12.out.below hB, (Row.nil w13 0).slAt⟩); clear hB HL12 HB12 HX12 HBS))
  replace HK13 := hide (HK13.out.next ((Below.refl _ _).drew))
  refine wp_region_held_drew (S := BK w s t (.slice ma q mc) ms w5.heap.size (.slice va bl vc) (.slice none 0 0) B []) (by kernel_rfl) HK13.out (fun hHeld => ?_)
  generalize w13.drew = w13 at hHeld HK13 ⊢
  refine wpAnyH_take (i := 0) (oi := { dst := some 80, op := Op.move (Operand.tmp 12), type := 37, pos := "law.go:145", after := #[], guard := none }) (v := ?_) rfl (by kernel_rfl) (by kernel_rfl) (by kernel_rfl) (fun _ _ _ h => h) (Or.inl ⟨by rfl, ?_⟩) hHeld ?_
  rotate_left
  · intro w hSw; (try dsimp only at hSw); go_simp; first | done | with_reducible rfl
  try simp only [Act.put, List.setIfInBounds_toArray, List.set_cons_zero, List.set_cons_succ]
  refine wpAnyH_take (i := 1) (oi := { dst := some 81, op := Op.binOp BinOp.eql 37 (Operand.tmp 80) (Operand.const (Value.int IntKind.i64 0)) 37, type := 4, pos := "law.go:145", after := #[{ on := 0, ground := Ground.data }], guard := none }) (v := ?_) rfl (by kernel_rfl) (by kernel_rfl) (by kernel_rfl) (fun _ _ _ h => h) (Or.inl ⟨by rfl, ?_⟩) hHeld ?_
  rotate_left
  · intro w hSw; (try dsimp only at hSw); go_simp; first | done | with_reducible rfl
  try simp only [Act.put, List.setIfInBounds_toArray, List.set_cons_zero, List.set_cons_succ]
  refine wpAnyH_take (i := 2) (oi := { dst := some 82, op := Op.move (Operand.tmp 81), type := 4, pos := "law.go:145", after := #[{ on := 1, ground := Ground.data }], guard := none }) (v := ?_) rfl (by kernel_rfl) (by kernel_rfl) (by kernel_rfl) (fun _ _ _ h => h) (Or.inl ⟨by rfl, ?_⟩) hHeld ?_
  rotate_left
  · intro w hSw; (try dsimp only at hSw); go_simp; first | done | with_reducible rfl
  try simp only [Act.put, List.setIfInBounds_toArray, List.set_cons_zero, List.set_cons_succ]
  refine wpAnyH_take (i := 3) (oi := { dst := some 83, op := Op.load 31 (Operand.tmp 11), type := 31, pos := "law.go:145", after := #[{ on := 2, ground := Ground.guard }], guard := some (2, true) }) (v := .agg (tkA t)) rfl (by kernel_rfl) (by kernel_rfl) (by kernel_rfl) (fun _ _ _ h => h) (yields_tk (by rfl) _ rfl (w5.heap.size) rfl t HMT.out (fun _ h => h.z)) hHeld ?_
  try simp only [Act.put, List.setIfInBounds_toArray, List.set_cons_zero, List.set_cons_succ]
  refine wpAnyH_take (i := 4) (oi := { dst := some 84, op := Op.load 31 (Operand.tmp 5), type := 31, pos := "law.go:145", after := #[{ on := 2, ground := Ground.guard }], guard := some (2, true) }) (v := .agg (tkA t)) rfl (by kernel_rfl) (by kernel_rfl) (by kernel_rfl) (fun _ _ _ h => h) (yields_tk (by rfl) _ rfl (w.heap.size + 1) rfl t HMT.out (fun _ h => h.l.y)) hHeld ?_
  try simp only [Act.put, List.setIfInBounds_toArray, List.set_cons_zero, List.set_cons_succ]
  refine wpAnyH_take (i := 5) (oi := { dst := some 85, op := Op.binOp BinOp.eql 31 (Operand.tmp 83) (Operand.tmp 84) 31, type := 4, pos := "law.go:145", after := #[{ on := 3, ground := Ground.data }, { on := 4, ground := Ground.data }, { on := 2, ground := Ground.guard }], guard := some (2, true) }) (v := ?_) rfl (by kernel_rfl) (by kernel_rfl) (by kernel_rfl) (fun _ _ _ h => h) (Or.inl ⟨by rfl, ?_⟩) hHeld ?_
  rotate_left
  · intro w hSw; (try dsimp only at hSw); have heq := HSAME.out; go_simp; first | done | with_reducible rfl
  try simp only [Act.put, List.setIfInBounds_toArray, List.set_cons_zero, List.set_cons_succ]
  refine wpAnyH_take (i := 6) (oi := { dst := some 86, op := Op.pick (Operand.tmp 82) (Operand.tmp 85) (Operand.const (Value.bool false)), type := 4, pos := "law.go:145", after := #[{ on := 2, ground := Ground.data }, { on := 5, ground := Ground.data }], guard := none }) (v := ?_) rfl (by kernel_rfl) (by kernel_rfl) (by kernel_rfl) (fun _ _ _ h => h) (Or.inl ⟨by rfl, ?_⟩) hHeld ?_
  rotate_left
  · intro w hSw; (try dsimp only at hSw); go_simp; first | done | with_reducible rfl
  try simp only [Act.put, List.setIfInBounds_toArray, List.set_cons_zero, List.set_cons_succ]
  refine wpAnyH_take (i := 7) (oi := { dst := some 87, op := Op.move (Operand.tmp 86), type := 4, pos := "law.go:145", after := #[{ on := 6, ground := Ground.data }, { on := 2, ground := Ground.chain }], guard := none }) (v := ?_) rfl (by kernel_rfl) (by kernel_rfl) (by kernel_rfl) (fun _ _ _ h => h) (Or.inl ⟨by rfl, ?_⟩) hHeld ?_
  rotate_left
  · intro w hSw; (try dsimp only at hSw); go_simp; first | done | with_reducible rfl
  try simp only [Act.put, List.setIfInBounds_toArray, List.set_cons_zero, List.set_cons_succ]
  refine wpAnyH_take (i := 8) (oi := { dst := some 88, op := Op.move (Operand.tmp 14), type := 37, pos := "law.go:145", after := #[{ on := 7, ground := Ground.guard }], guard := some (7, true) }) (v := ?_) rfl (by kernel_rfl) (by kernel_rfl) (by kernel_rfl) (fun _ _ _ h => h) (Or.inl ⟨by rfl, ?_⟩) hHeld ?_
  rotate_left
  · intro w hSw; (try dsimp only at hSw); go_simp; first | done | with_reducible rfl
  try simp only [Act.put, List.setIfInBounds_toArray, List.set_cons_zero, List.set_cons_succ]
  refine wpAnyH_take (i := 9) (oi := { dst := some 89, op := Op.binOp BinOp.eql 37 (Operand.tmp 88) (Operand.const (Value.int IntKind.i64 2)) 37, type := 4, pos := "law.go:145", after := #[{ on := 8, ground := Ground.data }, { on := 7, ground := Ground.guard }], guard := some (7, true) }) (v := ?_) rfl (by kernel_rfl) (by kernel_rfl) (by kernel_rfl) (fun _ _ _ h => h) (Or.inl ⟨by rfl, ?_⟩) hHeld ?_
  rotate_left
  · intro w hSw; (try dsimp only at hSw); go_simp; first | done | with_reducible rfl
  try simp only [Act.put, List.setIfInBounds_toArray, List.set_cons_zero, List.set_cons_succ]
  refine wpAnyH_take (i := 10) (oi := { dst := some 90, op := Op.pick (Operand.tmp 87) (Operand.tmp 89) (Operand.const (Value.bool false)), type := 4, pos := "law.go:145", after := #[{ on := 7, ground := Ground.data }, { on := 9, ground := Ground.data }], guard := none }) (v := ?_) rfl (by kernel_rfl) (by kernel_rfl) (by kernel_rfl) (fun _ _ _ h => h) (Or.inl ⟨by rfl, ?_⟩) hHeld ?_
  rotate_left
  · intro w hSw; (try dsimp only at hSw); go_simp; first | done | with_reducible rfl
  try simp only [Act.put, List.setIfInBounds_toArray, List.set_cons_zero, List.set_cons_succ]
  refine wpAnyH_take (i := 11) (oi := { dst := some 91, op := Op.move (Operand.tmp 90), type := 4, pos := "law.go:145", after := #[{ on := 10, ground := Ground.data }, { on := 7, ground := Ground.chain }], guard := none }) (v := ?_) rfl (by kernel_rfl) (by kernel_rfl) (by kernel_rfl) (fun _ _ _ h => h) (Or.inl ⟨by rfl, ?_⟩) hHeld ?_
  rotate_left
  · intro w hSw; (try dsimp only at hSw); go_simp; first | done | with_reducible rfl
  try simp only [Act.put, List.setIfInBounds_toArray, List.set_cons_zero, List.set_cons_succ]
  refine wpAnyH_take (i := 12) (oi := { dst := some 92, op := Op.move (Operand.tmp 16), type := 37, pos := "law.go:145", after := #[{ on := 11, ground := Ground.guard }], guard := some (11, true) }) (v := ?_) rfl (by kernel_rfl) (by kernel_rfl) (by kernel_rfl) (fun _ _ _ h => h) (Or.inl ⟨by rfl, ?_⟩) hHeld ?_
  rotate_left
  · intro w hSw; (try dsimp only at hSw); go_simp; first | done | with_reducible rfl
  try simp only [Act.put, List.setIfInBounds_toArray, List.set_cons_zero, List.set_cons_succ]
  refine wpAnyH_take (i := 13) (oi := { dst := some 93, op := Op.binOp BinOp.eql 37 (Operand.tmp 92) (Operand.const (Value.int IntKind.i64 0)) 37, type := 4, pos := "law.go:145", after := #[{ on := 12, ground := Ground.data }, { on := 11, ground := Ground.guard }], guard := some (11, true) }) (v := ?_) rfl (by kernel_rfl) (by kernel_rfl) (by kernel_rfl) (fun _ _ _ h => h) (Or.inl ⟨by rfl, ?_⟩) hHeld ?_
  rotate_left
  · intro w hSw; (try dsimp only at hSw); go_simp; first | done | with_reducible rfl
  try simp only [Act.put, List.setIfInBounds_toArray, List.set_cons_zero, List.set_cons_succ]
  refine wpAnyH_take (i := 14) (oi := { dst := some 94, op := Op.move (Operand.tmp 3), type := 22, pos := "law.go:145", after := #[{ on := 11, ground := Ground.guard }], guard := some (11, true) }) (v := ?_) rfl (by kernel_rfl) (by kernel_rfl) (by kernel_rfl) (fun _ _ _ h => h) (Or.inl ⟨by rfl, ?_⟩) hHeld ?_
  rotate_left
  · intro w hSw; (try dsimp only at hSw); go_simp; first | done | with_reducible rfl
  try simp only [Act.put, List.setIfInBounds_toArray, List.set_cons_zero, List.set_cons_succ]
  refine wpAnyH_take (i := 15) (oi := { dst := some 95, op := Op.call { callee := Callee.builtin Builtin.len, args := #[Operand.tmp 94], argTypes := #[22] }, type := 3, pos := "law.go:145", after := #[{ on := 14, ground := Ground.data }, { on := 11, ground := Ground.guard }], guard := some (11, true) }) (v := ?_) rfl (by kernel_rfl) (by kernel_rfl) (by kernel_rfl) (fun _ _ _ h => h) (Or.inl ⟨by rfl, ?_⟩) hHeld ?_
  rotate_left
  · intro w hSw; (try dsimp only at hSw); go_simp; first | done | with_reducible rfl
  try simp only [Act.put, List.setIfInBounds_toArray, List.set_cons_zero, List.set_cons_succ]
  refine wpAnyH_take (i := 16) (oi := { dst := some 96, op := Op.binOp BinOp.eql 3 (Operand.tmp 95) (Operand.const (Value.int IntKind.i64 0)) 3, type := 4, pos := "law.go:145", after := #[{ on := 15, ground := Ground.data }, { on := 11, ground := Ground.guard }], guard := some (11, true) }) (v := ?_) rfl (by kernel_rfl) (by kernel_rfl) (by kernel_rfl) (fun _ _ _ h => h) (Or.inl ⟨by rfl, ?_⟩) hHeld ?_
  rotate_left
  · intro w hSw; (try dsimp only at hSw); go_simp; first | done | with_reducible rfl
  try simp only [Act.put, List.setIfInBounds_toArray, List.set_cons_zero, List.set_cons_succ]
  refine wpAnyH_take (i := 17) (oi := { dst := some 97, op := Op.binOp BinOp.eql 4 (Operand.tmp 93) (Operand.tmp 96) 4, type := 4, pos := "law.go:145", after := #[{ on := 13, ground := Ground.data }, { on := 16, ground := Ground.data }, { on := 11, ground := Ground.guard }], guard := some (11, true) }) (v := ?_) rfl (by kernel_rfl) (by kernel_rfl) (by kernel_rfl) (fun _ _ _ h => h) (Or.inl ⟨by rfl, ?_⟩) hHeld ?_
  rotate_left
  · intro w hSw; (try dsimp only at hSw); go_simp; first | done | with_reducible rfl
  try simp only [Act.put, List.setIfInBounds_toArray, List.set_cons_zero, List.set_cons_succ]
  refine wpAnyH_take (i := 18) (oi := { dst := some 98, op := Op.pick (Operand.tmp 91) (Operand.tmp 97) (Operand.const (Value.bool false)), type := 4, pos := "law.go:145", after := #[{ on := 11, ground := Ground.data }, { on := 17, ground := Ground.data }], guard := none }) (v := ?_) rfl (by kernel_rfl) (by kernel_rfl) (by kernel_rfl) (fun _ _ _ h => h) (Or.inl ⟨by rfl, ?_⟩) hHeld ?_
  rotate_left
  · intro w hSw; (try dsimp only at hSw); go_simp; first | done | with_reducible rfl
  try simp only [Act.put, List.setIfInBounds_toArray, List.set_cons_zero, List.set_cons_succ]
  refine wpAnyH_take (i := 19) (oi := { dst := some 99, op := Op.move (Operand.tmp 98), type := 4, pos := "law.go:145", after := #[{ on := 18, ground := Ground.data }, { on := 11, ground := Ground.chain }], guard := none }) (v := ?_) rfl (by kernel_rfl) (by kernel_rfl) (by kernel_rfl) (fun _ _ _ h => h) (Or.inl ⟨by rfl, ?_⟩) hHeld ?_
  rotate_left
  · intro w hSw; (try dsimp only at hSw); go_simp; first | done | with_reducible rfl
  try simp only [Act.put, List.setIfInBounds_toArray, List.set_cons_zero, List.set_cons_succ]
  refine wpAnyH_take (i := 20) (oi := { dst := some 100, op := Op.move (Operand.tmp 18), type := 37, pos := "law.go:145", after := #[{ on := 19, ground := Ground.guard }], guard := some (19, true) }) (v := ?_) rfl (by kernel_rfl) (by kernel_rfl) (by kernel_rfl) (fun _ _ _ h => h) (Or.inl ⟨by rfl, ?_⟩) hHeld ?_
  rotate_left
  · intro w hSw; (try dsimp only at hSw); go_simp; first | done | with_reducible rfl
  try simp only [Act.put, List.setIfInBounds_toArray, List.set_cons_zero, List.set_cons_succ]
  refine wpAnyH_take (i := 21) (oi := { dst := some 101, op := Op.binOp BinOp.neq 37 (Operand.tmp 100) (Operand.const (Value.int IntKind.i64 0)) 37, type := 4, pos := "law.go:145", after := #[{ on := 20, ground := Ground.data }, { on := 19, ground := Ground.guard }], guard := some (19, true) }) (v := ?_) rfl (by kernel_rfl) (by kernel_rfl) (by kernel_rfl) (fun _ _ _ h => h) (Or.inl ⟨by rfl, ?_⟩) hHeld ?_
  rotate_left
  · intro w hSw; (try dsimp only at hSw); go_simp; first | done | with_reducible rfl
  try simp only [Act.put, List.setIfInBounds_toArray, List.set_cons_zero, List.set_cons_succ]
  refine wpAnyH_take (i := 22) (oi := { dst := some 102, op := Op.move (Operand.tmp 101), type := 4, pos := "law.go:145", after := #[{ on := 21, ground := Ground.data }, { on := 19, ground := Ground.chain }, { on := 19, ground := Ground.guard }], guard := some (19, true) }) (v := ?_) rfl (by kernel_rfl) (by kernel_rfl) (by kernel_rfl) (fun _ _ _ h => h) (Or.inl ⟨by rfl, ?_⟩) hHeld ?_
  rotate_left
  · intro w hSw; (try dsimp only at hSw); go_simp; first | done | with_reducible rfl
  try simp only [Act.put, List.setIfInBounds_toArray, List.set_cons_zero, List.set_cons_succ]
  refine wpAnyH_take (i := 23) (oi := { dst := some 103, op := Op.move (Operand.tmp 9), type := 22, pos := "law.go:145", after := #[{ on := 22, ground := Ground.guard }], guard := some (22, false) }) (v := undef) rfl (by kernel_rfl) (by kernel_rfl) (by kernel_rfl) (fun _ _ _ h => h) (Or.inr ⟨by rfl, rfl⟩) hHeld ?_
  try simp only [Act.put, List.setIfInBounds_toArray, List.set_cons_zero, List.set_cons_succ]
  refine wpAnyH_take (i := 24) (oi := { dst := some 104, op := Op.convert 22 9 (Operand.tmp 103), type := 9, pos := "law.go:145", after := #[{ on := 23, ground := Ground.data }, { on := 22, ground := Ground.guard }], guard := some (22, false) }) (v := undef) rfl (by kernel_rfl) (by kernel_rfl) (by kernel_rfl) (fun _ _ _ h => h) (Or.inr ⟨by rfl, rfl⟩) hHeld ?_
  try simp only [Act.put, List.setIfInBounds_toArray, List.set_cons_zero, List.set_cons_succ]
  refine wpAnyH_take (i := 25) (oi := { dst := some 105, op := Op.move (Operand.tmp 17), type := 22, pos := "law.go:145", after := #[{ on := 22, ground := Ground.guard }], guard := some (22, false) }) (v := undef) rfl (by kernel_rfl) (by kernel_rfl) (by kernel_rfl) (fun _ _ _ h => h) (Or.inr ⟨by rfl, rfl⟩) hHeld ?_
  try simp only [Act.put, List.setIfInBounds_toArray, List.set_cons_zero, List.set_cons_succ]
  refine wpAnyH_take (i := 26) (oi := { dst := some 106, op := Op.convert 22 9 (Operand.tmp 105), type := 9, pos := "law.go:145", after := #[{ on := 25, ground := Ground.data }, { on := 22, ground := Ground.guard }], guard := some (22, false) }) (v := undef) rfl (by kernel_rfl) (by kernel_rfl) (by kernel_rfl) (fun _ _ _ h => h) (Or.inr ⟨by rfl, rfl⟩) hHeld ?_
  try simp only [Act.put, List.setIfInBounds_toArray, List.set_cons_zero, List.set_cons_succ]
  refine wpAnyH_take (i := 27) (oi := { dst := some 107, op := Op.binOp BinOp.eql 9 (Operand.tmp 104) (Operand.tmp 106) 9, type := 4, pos := "law.go:145", after := #[{ on := 24, ground := Ground.data }, { on := 26, ground := Ground.data }, { on := 22, ground := Ground.guard }], guard := some (22, false) }) (v := undef) rfl (by kernel_rfl) (by kernel_rfl) (by kernel_rfl) (fun _ _ _ h => h) (Or.inr ⟨by rfl, rfl⟩) hHeld ?_
  try simp only [Act.put, List.setIfInBounds_toArray, List.set_cons_zero, List.set_cons_succ]
  refine wpAnyH_take (i := 28) (oi := { dst := some 108, op := Op.load 31 (Operand.tmp 4), type := 31, pos := "law.go:145", after := #[{ on := 22, ground := Ground.guard }], guard := some (22, false) }) (v := undef) rfl (by kernel_rfl) (by kernel_rfl) (by kernel_rfl) (fun _ _ _ h => h) (Or.inr ⟨by rfl, rfl⟩) hHeld ?_
  try simp only [Act.put, List.setIfInBounds_toArray, List.set_cons_zero, List.set_cons_succ]
  refine wpAnyH_take (i := 29) (oi := { dst := some 109, op := Op.load 31 (Operand.tmp 5), type := 31, pos := "law.go:145", after := #[{ on := 22, ground := Ground.guard }], guard := some (22, false) }) (v := undef) rfl (by kernel_rfl) (by kernel_rfl) (by kernel_rfl) (fun _ _ _ h => h) (Or.inr ⟨by rfl, rfl⟩) hHeld ?_
  try simp only [Act.put, List.setIfInBounds_toArray, List.set_cons_zero, List.set_cons_succ]
  refine wpAnyH_take (i := 30) (oi := { dst := some 110, op := Op.binOp BinOp.eql 31 (Operand.tmp 108) (Operand.tmp 109) 31, type := 4, pos := "law.go:145", after := #[{ on := 28, ground := Ground.data }, { on := 29, ground := Ground.data }, { on := 22, ground := Ground.guard }], guard := some (22, false) }) (v := undef) rfl (by kernel_rfl) (by kernel_rfl) (by kernel_rfl) (fun _ _ _ h => h) (Or.inr ⟨by rfl, rfl⟩) hHeld ?_
  try simp only [Act.put, List.setIfInBounds_toArray, List.set_cons_zero, List.set_cons_succ]
  refine wpAnyH_take (i := 31) (oi := { dst := some 111, op := Op.binOp BinOp.eql 4 (Operand.tmp 107) (Operand.tmp 110) 4, type := 4, pos := "law.go:145", after := #[{ on := 27, ground := Ground.data }, { on := 30, ground := Ground.data }, { on := 22, ground := Ground.guard }], guard := some (22, false) }) (v := undef) rfl (by kernel_rfl) (by kernel_rfl) (by kernel_rfl) (fun _ _ _ h => h) (Or.inr ⟨by rfl, rfl⟩) hHeld ?_
  try simp only [Act.put, List.setIfInBounds_toArray, List.set_cons_zero, List.set_cons_succ]
  refine wpAnyH_take (i := 32) (oi := { dst := some 112, op := Op.pick (Operand.tmp 102) (Operand.const (Value.bool true)) (Operand.tmp 111), type := 4, pos := "law.go:145", after := #[{ on := 22, ground := Ground.data }, { on := 31, ground := Ground.data }, { on := 19, ground := Ground.guard }], guard := some (19, true) }) (v := ?_) rfl (by kernel_rfl) (by kernel_rfl) (by kernel_rfl) (fun _ _ _ h => h) (Or.inl ⟨by rfl, ?_⟩) hHeld ?_
  rotate_left
  · intro w hSw; (try dsimp only at hSw); go_simp; first | done | with_reducible rfl
  try simp only [Act.put, List.setIfInBounds_toArray, List.set_cons_zero, List.set_cons_succ]
  refine wpAnyH_take (i := 33) (oi := { dst := some 113, op := Op.pick (Operand.tmp 99) (Operand.tmp 112) (Operand.const (Value.bool false)), type := 4, pos := "law.go:145", after := #[{ on := 19, ground := Ground.data }, { on := 32, ground := Ground.data }], guard := none }) (v := ?_) rfl (by kernel_rfl) (by kernel_rfl) (by kernel_rfl) (fun _ _ _ h => h) (Or.inl ⟨by rfl, ?_⟩) hHeld ?_
  rotate_left
  · intro w hSw; (try dsimp only at hSw); go_simp; first | done | with_reducible rfl
  try simp only [Act.put, List.setIfInBounds_toArray, List.set_cons_zero, List.set_cons_succ]
  refine wpAnyH_take (i := 34) (oi := { dst := some 114, op := Op.move (Operand.tmp 113), type := 4, pos := "law.go:145", after := #[{ on := 33, ground := Ground.data }, { on := 22, ground := Ground.chain }], guard := none }) (v := ?_) rfl (by kernel_rfl) (by kernel_rfl) (by kernel_rfl) (fun _ _ _ h => h) (Or.inl ⟨by rfl, ?_⟩) hHeld ?_
  rotate_left
  · intro w hSw; (try dsimp only at hSw); go_simp; first | done | with_reducible rfl
  try simp only [Act.put, List.setIfInBounds_toArray, List.set_cons_zero, List.set_cons_succ]
  refine wpAnyH_ready (rs := [35]) (by kernel_rfl) (by simp) ?_
  refine AllReadyH.cons (o := { dst := some 115, op := Op.call { callee := Callee.value (Operand.func 12), args := #[], argTypes := #[] }, type := 4, pos := "law.go:145", after := #[{ on := 34, ground := Ground.chain }, { on := 34, ground := Ground.guard }], guard := some (34, true) }) rfl (fun K hK => ?_) AllReadyH.nil
  clear hHeld
  go_simp
  refine (HAW.out _ HK13.out.l.b).mono ?_
  rintro e w14 ⟨rfl, hB⟩
  have HK14 := hide (HK13.out.next hB)
  clear hB HK13
  refine hK.out _ _ (HK14.out) (fun hHeld => ?_)
  clear hK K
  try simp only [Act.put, List.setIfInBounds_toArray, List.set_cons_zero, List.set_cons_succ]
  refine wpAnyH_take (i := 36) (oi := { dst := some 116, op := Op.pick (Operand.tmp 114) (Operand.tmp 115) (Operand.const (Value.bool false)), type := 4, pos := "law.go:145", after := #[{ on := 34, ground := Ground.data }, { on := 35, ground := Ground.data }], guard := none }) (v := ?_) rfl (by kernel_rfl) (by kernel_rfl) (by kernel_rfl) (fun _ _ _ h => h) (Or.inl ⟨by rfl, ?_⟩) hHeld ?_
  rotate_left
  · intro w hSw; (try dsimp only at hSw); go_simp; first | done | with_reducible rfl
  try simp only [Act.put, List.setIfInBounds_toArray, List.set_cons_zero, List.set_cons_succ]
  refine wpAnyH_take (i := 37) (oi := { dst := some 8, op := Op.assign (Operand.tmp 116), type := 4, pos := "law.go:145", after := #[{ on := 36, ground := Ground.data }, { on := 35, ground := Ground.chain }, { on := 0, ground := Ground.phase }, { on := 1, ground := Ground.phase }, { on := 2, ground := Ground.phase }, { on := 3, ground := Ground.phase }, { on := 4, ground := Ground.phase }, { on := 5, ground := Ground.phase }, { on := 6, ground := Ground.phase }, { on := 7, ground := Ground.phase }, { on := 8, ground := Ground.phase }, { on := 9, ground := Ground.phase }, { on := 10, ground := Ground.phase }, { on := 11, ground := Ground.phase }, { on := 12, ground := Ground.phase }, { on := 13, ground := Ground.phase }, { on := 14, ground := Ground.phase }, { on := 15, ground := Ground.phase }, { on := 16, ground := Ground.phase }, { on := 17, ground := Ground.phase }, { on := 18, ground := Ground.phase }, { on := 19, ground := Ground.phase }, { on := 20, ground := Ground.phase }, { on := 21, ground := Ground.phase }, { on := 22, ground := Ground.phase }, { on := 23, ground := Ground.phase }, { on := 24, ground := Ground.phase }, { on := 25, ground := Ground.phase }, { on := 26, ground := Ground.phase }, { on := 27, ground := Ground.phase }, { on := 28, ground := Ground.phase }, { on := 29, ground := Ground.phase }, { on := 30, ground := Ground.phase }, { on := 31, ground := Ground.phase }, { on := 32, ground := Ground.phase }, { on := 33, ground := Ground.phase }, { on := 34, ground := Ground.phase }, { on := 35, ground := Ground.phase }, { on := 36, ground := Ground.phase }], guard := none }) (v := ?_) rfl (by kernel_rfl) (by kernel_rfl) (by kernel_rfl) (fun _ _ _ h => h) (Or.inl ⟨by rfl, ?_⟩) hHeld ?_
  rotate_left
  · intro w hSw; (try dsimp only at hSw); go_simp; first | done | with_reducible rfl
  try simp only [Act.put, List.setIfInBounds_toArray, List.set_cons_zero, List.set_cons_succ]
  refine wpAnyH_done (by kernel_rfl) ?_ _
  clear hHeld
  go_wp2_with fail
  go_ret
  exact ⟨rfl, HK14.out.l.b⟩
end Go.Proofs.YtaomigfmjglggaaDoor
namespace Go.Proofs.YtaomigfmjglggaaDoor
open Go.RowKit

set_option maxRecDepth 100000 in
set_option maxHeartbeats 8000000 in
theorem back_main5 (s t : Tk) (av : Int) (ma : Option Addr) (q mc : Nat) (ms : List Int) (w : World) (hT : Tab w) (hs : s.ok) (hp : t.ok) (hm : SlAt w (.slice ma q mc) ms) (hmb : ∀ x ∈ ms, 0 ≤ x ∧ x < 256) (hq : ms.length = q) (hq100 : ¬ 100 < q) (hl1 : longB 0 s = false) (hl2 : longB 0 t = false) (hmt : mayT t = true) (hme : ¬ ms = []) (hms : mayT s = true) (hav : 0 < av) :
    Calls Tryd.prog 9 #[.agg (tkA s), .agg (tkA t), .int .i64 av, .slice ma q mc] w (LawPost w) := by
  have HT := hide hT
  have HL := hide (LB.first w s t (.slice ma q mc) ms hm)
  have HOS := hide hs
  have HOT := hide hp
  have HMS := hide hs.mac
  have HMT := hide hp.mac
  have HMB := hide hmb
  have HAW := hide (fun W (h : Below w.heap.size w W) => awake_any W (HT.out.below h HT.out.two))
  have HLS := hide (fun W => (show _ from by have h := long_any none 0 0 0 0 s W; rw [hl1] at h; exact h))
  have HLT := hide (fun W => (show _ from by have h := long_any none 0 0 0 0 t W; rw [hl2] at h; exact h))
  have HQ := tuck hq
  clear hs hp hm hT hmb hq hl1 hl2
  unfold ringA at *
  have hq1 : ¬ (100 : Int) < (q : Int) := by omega
  have hq2 : decide ((100 : Int) < (q : Int)) = false := by simpa using hq1
  have hq3 : decide (100 < q) = false := by simpa using hq100
  have HBY := hide (fun (W : World) (h : Below w.heap.size w W) => bytes_ok t HOT.out hmt W (HT.out.below h HT.out.two))
  have HFT := hide (fine_bytes HOT.out hmt)
  have HTL := hide (fun (x : Tk) (h1 : x.ok) (h2 : mayT x = true) => bytes_tell h1 HOT.out h2 hmt (fine_bytes h1 h2) (fine_bytes HOT.out hmt))
  have HR1 := hide (show readS (saidS t ++ t.mac) = some t from by have h := readS_put t HOT.out hmt []; rwa [List.append_nil, if_pos rfl] at h)
  have HR2 := hide (fun (K : Nat) (hK : K < (saidS t ++ t.mac).length) => readS_less HOT.out hmt hK (fine_bytes HOT.out hmt))
  have HR3 := hide (show readS ((saidS t ++ t.mac) ++ ms) = if ms = [] then some t else none from by rw [List.append_assoc]; exact readS_put t HOT.out hmt ms)
  have HFM : Hid (Fine ((saidS t ++ t.mac) ++ ms)) := hide (by
    have h1 := HFT.out
    have h2 := saidS_len hmt
    refine ⟨fun x hx => ?_, by simp only [List.length_append, HQ.out, HOT.out.mac]; omega⟩
    rcases List.mem_append.1 hx with h | h
    · exact h1.1 x h
    · exact HMB.out x h)
  have HBL : Hid (32 ≤ (saidS t ++ t.mac).length ∧ (saidS t ++ t.mac).length ≤ 300) := hide (by
    have h2 := saidS_len hmt
    simp only [List.length_append, HOT.out.mac]; omega)
  have hsame : ∀ w : World, (Op.equalIn 10000 31 (.agg (tkA t)) (.agg (tkA t))).run Tryd.prog w = .ok true w := fun w => by rw [run_eqTk t t HMT.out HMT.out w, eqT_self]
  have HSAME := hide hsame
  clear hsame
  obtain ⟨B, hBd⟩ : ∃ B, saidS t ++ t.mac = B := ⟨_, rfl⟩
  have HBD := tuck hBd
  rw [hBd] at HBY HFT HR1 HR2 HR3 HFM HBL
  clear hBd hmt
  obtain ⟨bl, hbl⟩ : ∃ bl, B.length = bl := ⟨_, rfl⟩
  have HBN := tuck hbl
  rw [hbl] at HR2 HBL
  have hb0 := HBL.out
  obtain ⟨z, rfl⟩ : ∃ z : Nat, av = (z : Int) := ⟨av.toNat, by omega⟩
  have hz1 : decide ((0 : Int) < (z : Int)) = true := by simpa using hav
  have hz2 : 0 < z := by omega
  have hz3 : decide (0 < z) = true := by simpa using hz2
  obtain ⟨K, hKn, hKl⟩ : ∃ K : Nat, z % bl = K ∧ K < bl := ⟨_, rfl, Nat.mod_lt _ (by omega)⟩
  have hKd : Int.tmod (z : Int) (bl : Int) = (K : Int) := by rw [← hKn]; rfl
  have hKe : (z : Int) % (bl : Int) = (K : Int) := by rw [← hKn]; rfl
  have hbz : ¬ (bl : Int) = 0 := by omega
  have hbz2 : ¬ bl = 0 := by omega
  have hbzd : decide ((bl : Int) = 0) = false := by simpa using hbz2
  have hbzb : ((bl : Int) == 0) = false := by simpa using hbz2
  have HKL := tuck hKl
  have HRK := hide (HR2.out K hKl)
  clear HR2 hbl hb0
  rw [if_neg hme] at HR3
  have hq0 : ¬ q = 0 := fun e => hme (List.length_eq_zero_iff.1 (by rw [HQ.out]; exact e))
  have hq5 : decide ((q : Int) = 0) = false := by simpa using hq0
  have hq6 : ((q : Int) == 0) = false := by simpa using hq0
  have hq7 : decide (q = 0) = false := by simpa using hq0
  have hq8 : (q == 0) = false := by simpa using hq0
  clear hme
  have HBS := hide (fun (W : World) (h : Below w.heap.size w W) => bytes_ok s HOS.out hms W (HT.out.below h HT.out.two))
  have HTL2 := hide (HTL.out s HOS.out hms)
  have HTE0 := hide (fun w => run_eqTk s t HMS.out HMT.out w)
  obtain ⟨C, hC⟩ : ∃ C, saidS s ++ s.mac = C := ⟨_, rfl⟩
  rw [hC] at HBS HTL2
  obtain ⟨E, hE⟩ : ∃ E, eqT s t = E := ⟨_, rfl⟩
  rw [hE] at HTL2 HTE0
  obtain ⟨SB, hSB⟩ : ∃ SB, strOfNums B = SB := ⟨_, rfl⟩
  obtain ⟨SC, hSC⟩ : ∃ SC, strOfNums C = SC := ⟨_, rfl⟩
  have HSB := tuck hSB
  have HSC := tuck hSC
  have HSE := hide (show (SB.toList == SC.toList) = E from by rw [← hSB, ← hSC, ← HBD.out]; exact HTL2.out)
  have HTE := HTE0
  clear hms hC hE hSB hSC HTL2 HTE0 HTL
  go_enter Tryd.func9, Tryd.ntmps9
  go_upto_region 3 with (first | (refine wpList_load_tk rfl (.tmp 4) rfl w.heap.size rfl s HMS.out HL.out.x ?_) | (go_at_call 11; refine (HLS.out _).mono ?_; rintro e w2 ⟨rfl, hB⟩; have HL2 := hide (HL.out.next hB); clear hB HL HLS) | (refine wpList_load_tk_w (by rfl) (.tmp 5) rfl (w.heap.size + 1) rfl t HMT.out HL2.out.y ?_) | (go_at_call 11; refine (HLT.out _).mono ?_; rintro e w3 ⟨rfl, hB⟩; have HL3 := hide (HL2.out.next hB); clear hB HL2 HLT))
  go_upto_region 4 with (first | (refine wpList_load_tk rfl (.tmp 5) rfl (w.heap.size + 1) rfl t HMT.out HL3.out.y ?_) | (go_at_call 24; refine (HBY.out _ HL3.out.b).mono ?_; rintro e w4 ⟨v4, rfl, hr, hB⟩; have HL4 := hide (HL3.out.next hB); have hs4 := hr.slAt; obtain ⟨va, vc, hv⟩ := hs4.len; rw [HBN.out] at hv; subst hv; have HB4 := hide hs4; clear hr hB hs4 HL3 HBY))
  go_upto_region 6 with fail
  go_upto_region 7 with (first | (go_at_call 26; refine (read_some (.slice va bl vc) B _ HB4.out HFT.out (HT.out.below HL4.out.b HT.out.two) HR1.out).mono ?_; rintro e w5 ⟨rfl, hB⟩; have HL5 := hide (HL4.out.next hB); have HB5 := hide (HB4.out.below hB); clear hB HL4 HB4) | (refine wpList_alloc_tk rfl rfl ?_) | (refine wpList_store_tk_new rfl (.tmp 11) (.tmp 53) rfl w5.heap.size t rfl rfl tk0 tk0_len HMT.out (TBox.new _ _) (fun W => Below w5.heap.size w5 W ∧ TBox W w5.heap.size t) ⟨below_pair w5 tk0 t, (TBox.new _ _).row⟩ ?_; intro w6 hp; have HL6 := hide (HL5.out.next hp.1); have HB6 := hide (HB5.out.below hp.1); have HX6 := hide hp.2; have hcut := run_cut_hk (P := Tryd.prog) .i64 Tryd.underlying22 size5 va bl vc K (by have := HB6.out.le.1; have := HKL.out; omega) w6; clear hp HL5 HB5))
  go_upto_region 8 with (first | (go_at_call 26; refine (read_none (.slice va K vc) (B.take K) _ (HB6.out.front' (Nat.le_of_lt HKL.out)) ⟨fun x hx => HFT.out.1 x (List.mem_of_mem_take hx), by have := HFT.out.2; first | (simp; done) | (simp; omega)⟩ (HT.out.below HL6.out.b HT.out.two) HRK.out).mono ?_; rintro e w7 ⟨rfl, hB⟩; have HL7 := hide (HL6.out.next hB); have HB7 := hide (HB6.out.below hB); have HX7 := hide (HX6.out.next hB); clear hB hcut HL6 HB6 HX6) | (refine wpList_alloc_tk rfl rfl ?_) | (refine wpList_store_tk_new rfl (.tmp 13) (.tmp 64) rfl w7.heap.size tk0 rfl rfl tk0 tk0_len tk0_len (TBox.new _ _) (fun W => Below w7.heap.size w7 W) (below_pair w7 tk0 tk0) ?_; intro w8 hp; have HL8 := hide (HL7.out.next hp); have HB8 := hide (HB7.out.below hp); have HX8 := hide (HX7.out.next hp); have HB8a := hide (HB8.out.below ((Below.refl w8.heap.size w8).alloc (Nat.le_refl _) (.cells #[] 5))); obtain ⟨v9, w9, hrun, hrow, hbw⟩ := append_rowB (w8.alloc (.cells #[] 5)) w8.heap.size (.slice (some ⟨w8.heap.size, 0, none⟩) 0 0) [] (Row.empty w8) (.slice va bl vc) B HB8a.out (by have := HBN.out; have := HBL.out; simp; omega) (by simp); rw [List.nil_append] at hrow; obtain ⟨xa, xc, hv⟩ := hrow.slAt.len; rw [HBN.out] at hv; subst hv; have HRUN := hide hrun; have hb9 : Below w8.heap.size w8 w9 := ((Below.refl _ _).alloc (Nat.le_refl _) _).trans hbw; have HL9 := hide (HL8.out.next hb9); have HB9 := hide (HB8.out.below hb9); have HX9 := hide (HX8.out.next hb9); have HBW9 := hide hbw; have HR9 := hide hrow; have HS9 := hide hb9.size; clear hp hrun hrow hbw hb9 HL7 HB7 HX7 HB8a))
  go_upto_region 9 with (first | (at_builtin; refine wpList_append_run rfl (.tmp 67) (.tmp 68) 22 22 22 rfl rfl (.slice (some ⟨w8.heap.size, 0, none⟩) 0 0) (.slice va bl vc) (.slice xa bl xc) w9 rfl rfl HRUN.out ?_; obtain ⟨v10, w10, hrun, hrow, hbw⟩ := append_rowB w9 w8.heap.size (.slice xa bl xc) B HR9.out (.slice ma q mc) ms HL9.out.m (by have := HBN.out; have := HBL.out; have := HQ.out; omega) HS9.out; obtain ⟨ya, yc, hv⟩ := hrow.slAt.len; obtain ⟨bq, hbq⟩ : ∃ bq, (B ++ ms).length = bq := ⟨_, rfl⟩; rw [hbq] at hv; subst hv; clear hbq; have HRUN2 := hide hrun; have hb10 : Below w8.heap.size w8 w10 := (((Below.refl _ _).alloc (Nat.le_refl _) _).trans (HBW9.out)).trans hbw; have HL10 := hide (HL8.out.next hb10); have HB10 := hide (HB8.out.below hb10); have HX10 := hide (HX8.out.next hb10); have HR10 := hide hrow.slAt; clear hrun hrow hbw hb10 HL9 HB9 HX9 HR9 HRUN HL8 HB8 HX8 HBW9) | (at_builtin; refine wpList_append_run rfl (.tmp 69) (.tmp 70) 22 22 22 rfl rfl (.slice xa bl xc) (.slice ma q mc) (.slice ya bq yc) w10 rfl rfl HRUN2.out ?_; clear HRUN2) | (go_at_call 26; refine (read_none (.slice ya bq yc) (B ++ ms) _ HR10.out HFM.out (HT.out.below HL10.out.b HT.out.two) HR3.out).mono ?_; rintro e w11 ⟨rfl, hB⟩; have HL11 := hide (HL10.out.next hB); have HB11 := hide (HB10.out.below hB); have HX11 := hide (HX10.out.next hB); clear hB HL10 HB10 HX10 HR10) | (refine wpList_alloc_tk rfl rfl ?_) | (refine wpList_store_tk_new rfl (.tmp 15) (.tmp 73) rfl w11.heap.size tk0 rfl rfl tk0 tk0_len tk0_len (TBox.new _ _) (fun W => Below w11.heap.size w11 W) (below_pair w11 tk0 tk0) ?_; intro w12 hp; have HL12 := hide (HL11.out.next hp); have HB12 := hide (HB11.out.below hp); have HX12 := hide (HX11.out.next hp); clear hp HL11 HB11 HX11))
  go_upto_region 10 with (first | (refine wpList_load_tk rfl (.tmp 4) rfl w.heap.size rfl s HMS.out HL12.out.x ?_) | (go_at_call 24; refine (HBS.out _ HL12.out.b).mono ?_; rintro e w13 ⟨v13, rfl, hr, hB⟩; have hs13 := hr.slAt; obtain ⟨ca, cc, hv⟩ := hs13.len; obtain ⟨cl, hcl⟩ : ∃ cl, C.length = cl := ⟨_, rfl⟩; rw [hcl] at hv; subst hv; clear hcl; have HK13 := hide (show BK w s t (.slice ma q mc) ms w5.heap.size (.slice va bl vc) (.slice ca cl cc) B C w13 from ⟨HL12.out.next hB, HX12.out.next hB, HB12.out.below hB, hs13⟩); clear hr hB hs13 HL12 HB12 HX12 HBS))
  replace HK13 := hide (HK13.out.next ((Below.refl _ _).drew))
  refine wp_region_held_drew (S := BK w s t (.slice ma q mc) ms w5.heap.size (.slice va bl vc) (.slice ca cl cc) B C) (by kernel_rfl) HK13.out (fun hHeld => ?_)
  generalize w13.drew = w13 at hHeld HK13 ⊢
  refine wpAnyH_take (i := 0) (oi := { dst := some 80, op := Op.move (Operand.tmp 12), type := 37, pos := "law.go:145", after := #[], guard := none }) (v := ?_) rfl (by kernel_rfl) (by kernel_rfl) (by kernel_rfl) (fun _ _ _ h => h) (Or.inl ⟨by rfl, ?_⟩) hHeld ?_
  rotate_left
  · intro w hSw; (try dsimp only at hSw); go_simp; first | done | with_reducible rfl
  try simp only [Act.put, List.setIfInBounds_toArray, List.set_cons_zero, List.set_cons_succ]
  refine wpAnyH_take (i := 1) (oi := { dst := some 81, op := Op.binOp BinOp.eql 37 (Operand.tmp 80) (Operand.const (Value.int IntKind.i64 0)) 37, type := 4, pos := "law.go:145", after := #[{ on := 0, ground := Ground.data }], guard := none }) (v := ?_) rfl (by kernel_rfl) (by kernel_rfl) (by kernel_rfl) (fun _ _ _ h => h) (Or.inl ⟨by rfl, ?_⟩) hHeld ?_
  rotate_left
  · intro w hSw; (try dsimp only at hSw); go_simp; first | done | with_reducible rfl
  try simp only [Act.put, List.setIfInBounds_toArray, List.set_cons_zero, List.set_cons_succ]
  refine wpAnyH_take (i := 2) (oi := { dst := some 82, op := Op.move (Operand.tmp 81), type := 4, pos := "law.go:145", after := #[{ on := 1, ground := Ground.data }], guard := none }) (v := ?_) rfl (by kernel_rfl) (by kernel_rfl) (by kernel_rfl) (fun _ _ _ h => h) (Or.inl ⟨by rfl, ?_⟩) hHeld ?_
  rotate_left
  · intro w hSw; (try dsimp only at hSw); go_simp; first | done | with_reducible rfl
  try simp only [Act.put, List.setIfInBounds_toArray, List.set_cons_zero, List.set_cons_succ]
  refine wpAnyH_take (i := 3) (oi := { dst := some 83, op := Op.load 31 (Operand.tmp 11), type := 31, pos := "law.go:145", after := #[{ on := 2, ground := Ground.guard }], guard := some (2, true) }) (v := .agg (tkA t)) rfl (by kernel_rfl) (by kernel_rfl) (by kernel_rfl) (fun _ _ _ h => h) (yields_tk (by rfl) _ rfl (w5.heap.size) rfl t HMT.out (fun _ h => h.z)) hHeld ?_
  try simp only [Act.put, List.setIfInBounds_toArray, List.set_cons_zero, List.set_cons_succ]
  refine wpAnyH_take (i := 4) (oi := { dst := some 84, op := Op.load 31 (Operand.tmp 5), type := 31, pos := "law.go:145", after := #[{ on := 2, ground := Ground.guard }], guard := some (2, true) }) (v := .agg (tkA t)) rfl (by kernel_rfl) (by kernel_rfl) (by kernel_rfl) (fun _ _ _ h => h) (yields_tk (by rfl) _ rfl (w.heap.size + 1) rfl t HMT.out (fun _ h => h.l.y)) hHeld ?_
  try simp only [Act.put, List.setIfInBounds_toArray, List.set_cons_zero, List.set_cons_succ]
  refine wpAnyH_take (i := 5) (oi := { dst := some 85, op := Op.binOp BinOp.eql 31 (Operand.tmp 83) (Operand.tmp 84) 31, type := 4, pos := "law.go:145", after := #[{ on := 3, ground := Ground.data }, { on := 4, ground := Ground.data }, { on := 2, ground := Ground.guard }], guard := some (2, true) }) (v := ?_) rfl (by kernel_rfl) (by kernel_rfl) (by kernel_rfl) (fun _ _ _ h => h) (Or.inl ⟨by rfl, ?_⟩) hHeld ?_
  rotate_left
  · intro w hSw; (try dsimp only at hSw); have heq := HSAME.out; go_simp; first | done | with_reducible rfl
  try simp only [Act.put, List.setIfInBounds_toArray, List.set_cons_zero, List.set_cons_succ]
  refine wpAnyH_take (i := 6) (oi := { dst := some 86, op := Op.pick (Operand.tmp 82) (Operand.tmp 85) (Operand.const (Value.bool false)), type := 4, pos := "law.go:145", after := #[{ on := 2, ground := Ground.data }, { on := 5, ground := Ground.data }], guard := none }) (v := ?_) rfl (by kernel_rfl) (by kernel_rfl) (by kernel_rfl) (fun _ _ _ h => h) (Or.inl ⟨by rfl, ?_⟩) hHeld ?_
  rotate_left
  · intro w hSw; (try dsimp only at hSw); go_simp; first | done | with_reducible rfl
  try simp only [Act.put, List.setIfInBounds_toArray, List.set_cons_zero, List.set_cons_succ]
  refine wpAnyH_take (i := 7) (oi := { dst := some 87, op := Op.move (Operand.tmp 86), type := 4, pos := "law.go:145", after := #[{ on := 6, ground := Ground.data }, { on := 2, ground := Ground.chain }], guard := none }) (v := ?_) rfl (by kernel_rfl) (by kernel_rfl) (by kernel_rfl) (fun _ _ _ h => h) (Or.inl ⟨by rfl, ?_⟩) hHeld ?_
  rotate_left
  · intro w hSw; (try dsimp only at hSw); go_simp; first | done | with_reducible rfl
  try simp only [Act.put, List.setIfInBounds_toArray, List.set_cons_zero, List.set_cons_succ]
  refine wpAnyH_take (i := 8) (oi := { dst := some 88, op := Op.move (Operand.tmp 14), type := 37, pos := "law.go:145", after := #[{ on := 7, ground := Ground.guard }], guard := some (7, true) }) (v := ?_) rfl (by kernel_rfl) (by kernel_rfl) (by kernel_rfl) (fun _ _ _ h => h) (Or.inl ⟨by rfl, ?_⟩) hHeld ?_
  rotate_left
  · intro w hSw; (try dsimp only at hSw); go_simp; first | done | with_reducible rfl
  try simp only [Act.put, List.setIfInBounds_toArray, List.set_cons_zero, List.set_cons_succ]
  refine wpAnyH_take (i := 9) (oi := { dst := some 89, op := Op.binOp BinOp.eql 37 (Operand.tmp 88) (Operand.const (Value.int IntKind.i64 2)) 37, type := 4, pos := "law.go:145", after := #[{ on := 8, ground := Ground.data }, { on := 7, ground := Ground.guard }], guard := some (7, true) }) (v := ?_) rfl (by kernel_rfl) (by kernel_rfl) (by kernel_rfl) (fun _ _ _ h => h) (Or.inl ⟨by rfl, ?_⟩) hHeld ?_
  rotate_left
  · intro w hSw; (try dsimp only at hSw); go_simp; first | done | with_reducible rfl
  try simp only [Act.put, List.setIfInBounds_toArray, List.set_cons_zero, List.set_cons_succ]
  refine wpAnyH_take (i := 10) (oi := { dst := some 90, op := Op.pick (Operand.tmp 87) (Operand.tmp 89) (Operand.const (Value.bool false)), type := 4, pos := "law.go:145", after := #[{ on := 7, ground := Ground.data }, { on := 9, ground := Ground.data }], guard := none }) (v := ?_) rfl (by kernel_rfl) (by kernel_rfl) (by kernel_rfl) (fun _ _ _ h => h) (Or.inl ⟨by rfl, ?_⟩) hHeld ?_
  rotate_left
  · intro w hSw; (try dsimp only at hSw); go_simp; first | done | with_reducible rfl
  try simp only [Act.put, List.setIfInBounds_toArray, List.set_cons_zero, List.set_cons_succ]
  refine wpAnyH_take (i := 11) (oi := { dst := some 91, op := Op.move (Operand.tmp 90), type := 4, pos := "law.go:145", after := #[{ on := 10, ground := Ground.data }, { on := 7, ground := Ground.chain }], guard := none }) (v := ?_) rfl (by kernel_rfl) (by kernel_rfl) (by kernel_rfl) (fun _ _ _ h => h) (Or.inl ⟨by rfl, ?_⟩) hHeld ?_
  rotate_left
  · intro w hSw; (try dsimp only at hSw); go_simp; first | done | with_reducible rfl
  try simp only [Act.put, List.setIfInBounds_toArray, List.set_cons_zero, List.set_cons_succ]
  refine wpAnyH_take (i := 12) (oi := { dst := some 92, op := Op.move (Operand.tmp 16), type := 37, pos := "law.go:145", after := #[{ on := 11, ground := Ground.guard }], guard := some (11, true) }) (v := ?_) rfl (by kernel_rfl) (by kernel_rfl) (by kernel_rfl) (fun _ _ _ h => h) (Or.inl ⟨by rfl, ?_⟩) hHeld ?_
  rotate_left
  · intro w hSw; (try dsimp only at hSw); go_simp; first | done | with_reducible rfl
  try simp only [Act.put, List.setIfInBounds_toArray, List.set_cons_zero, List.set_cons_succ]
  refine wpAnyH_take (i := 13) (oi := { dst := some 93, op := Op.binOp BinOp.eql 37 (Operand.tmp 92) (Operand.const (Value.int IntKind.i64 0)) 37, type := 4, pos := "law.go:145", after := #[{ on := 12, ground := Ground.data }, { on := 11, ground := Ground.guard }], guard := some (11, true) }) (v := ?_) rfl (by kernel_rfl) (by kernel_rfl) (by kernel_rfl) (fun _ _ _ h => h) (Or.inl ⟨by rfl, ?_⟩) hHeld ?_
  rotate_left
  · intro w hSw; (try dsimp only at hSw); go_simp; first | done | with_reducible rfl
  try simp only [Act.put, List.setIfInBounds_toArray, List.set_cons_zero, List.set_cons_succ]
  refine wpAnyH_take (i := 14) (oi := { dst := some 94, op := Op.move (Operand.tmp 3), type := 22, pos := "law.go:145", after := #[{ on := 11, ground := Ground.guard }], guard := some (11, true) }) (v := ?_) rfl (by kernel_rfl) (by kernel_rfl) (by kernel_rfl) (fun _ _ _ h => h) (Or.inl ⟨by rfl, ?_⟩) hHeld ?_
  rotate_left
  · intro w hSw; (try dsimp only at hSw); go_simp; first | done | with_reducible rfl
  try simp only [Act.put, List.setIfInBounds_toArray, List.set_cons_zero, List.set_cons_succ]
  refine wpAnyH_take (i := 15) (oi := { dst := some 95, op := Op.call { callee := Callee.builtin Builtin.len, args := #[Operand.tmp 94], argTypes := #[22] }, type := 3, pos := "law.go:145", after := #[{ on := 14, ground := Ground.data }, { on := 11, ground := Ground.guard }], guard := some (11, true) }) (v := ?_) rfl (by kernel_rfl) (by kernel_rfl) (by kernel_rfl) (fun _ _ _ h => h) (Or.inl ⟨by rfl, ?_⟩) hHeld ?_
  rotate_left
  · intro w hSw; (try dsimp only at hSw); go_simp; first | done | with_reducible rfl
  try simp only [Act.put, List.setIfInBounds_toArray, List.set_cons_zero, List.set_cons_succ]
  refine wpAnyH_take (i := 16) (oi := { dst := some 96, op := Op.binOp BinOp.eql 3 (Operand.tmp 95) (Operand.const (Value.int IntKind.i64 0)) 3, type := 4, pos := "law.go:145", after := #[{ on := 15, ground := Ground.data }, { on := 11, ground := Ground.guard }], guard := some (11, true) }) (v := ?_) rfl (by kernel_rfl) (by kernel_rfl) (by kernel_rfl) (fun _ _ _ h => h) (Or.inl ⟨by rfl, ?_⟩) hHeld ?_
  rotate_left
  · intro w hSw; (try dsimp only at hSw); go_simp; first | done | with_reducible rfl
  try simp only [Act.put, List.setIfInBounds_toArray, List.set_cons_zero, List.set_cons_succ]
  refine wpAnyH_take (i := 17) (oi := { dst := some 97, op := Op.binOp BinOp.eql 4 (Operand.tmp 93) (Operand.tmp 96) 4, type := 4, pos := "law.go:145", after := #[{ on := 13, ground := Ground.data }, { on := 16, ground := Ground.data }, { on := 11, ground := Ground.guard }], guard := some (11, true) }) (v := ?_) rfl (by kernel_rfl) (by kernel_rfl) (by kernel_rfl) (fun _ _ _ h => h) (Or.inl ⟨by rfl, ?_⟩) hHeld ?_
  rotate_left
  · intro w hSw; (try dsimp only at hSw); go_simp; first | done | with_reducible rfl
  try simp only [Act.put, List.setIfInBounds_toArray, List.set_cons_zero, List.set_cons_succ]
  refine wpAnyH_take (i := 18) (oi := { dst := some 98, op := Op.pick (Operand.tmp 91) (Operand.tmp 97) (Operand.const (Value.bool false)), type := 4, pos := "law.go:145", after := #[{ on := 11, ground := Ground.data }, { on := 17, ground := Ground.data }], guard := none }) (v := ?_) rfl (by kernel_rfl) (by kernel_rfl) (by kernel_rfl) (fun _ _ _ h => h) (Or.inl ⟨by rfl, ?_⟩) hHeld ?_
  rotate_left
  · intro w hSw; (try dsimp only at hSw); go_simp; first | done | with_reducible rfl
  try simp only [Act.put, List.setIfInBounds_toArray, List.set_cons_zero, List.set_cons_succ]
  refine wpAnyH_take (i := 19) (oi := { dst := some 99, op := Op.move (Operand.tmp 98), type := 4, pos := "law.go:145", after := #[{ on := 18, ground := Ground.data }, { on := 11, ground := Ground.chain }], guard := none }) (v := ?_) rfl (by kernel_rfl) (by kernel_rfl) (by kernel_rfl) (fun _ _ _ h => h) (Or.inl ⟨by rfl, ?_⟩) hHeld ?_
  rotate_left
  · intro w hSw; (try dsimp only at hSw); go_simp; first | done | with_reducible rfl
  try simp only [Act.put, List.setIfInBounds_toArray, List.set_cons_zero, List.set_cons_succ]
  refine wpAnyH_take (i := 20) (oi := { dst := some 100, op := Op.move (Operand.tmp 18), type := 37, pos := "law.go:145", after := #[{ on := 19, ground := Ground.guard }], guard := some (19, true) }) (v := ?_) rfl (by kernel_rfl) (by kernel_rfl) (by kernel_rfl) (fun _ _ _ h => h) (Or.inl ⟨by rfl, ?_⟩) hHeld ?_
  rotate_left
  · intro w hSw; (try dsimp only at hSw); go_simp; first | done | with_reducible rfl
  try simp only [Act.put, List.setIfInBounds_toArray, List.set_cons_zero, List.set_cons_succ]
  refine wpAnyH_take (i := 21) (oi := { dst := some 101, op := Op.binOp BinOp.neq 37 (Operand.tmp 100) (Operand.const (Value.int IntKind.i64 0)) 37, type := 4, pos := "law.go:145", after := #[{ on := 20, ground := Ground.data }, { on := 19, ground := Ground.guard }], guard := some (19, true) }) (v := ?_) rfl (by kernel_rfl) (by kernel_rfl) (by kernel_rfl) (fun _ _ _ h => h) (Or.inl ⟨by rfl, ?_⟩) hHeld ?_
  rotate_left
  · intro w hSw; (try dsimp only at hSw); go_simp; first | done | with_reducible rfl
  try simp only [Act.put, List.setIfInBounds_toArray, List.set_cons_zero, List.set_cons_succ]
  refine wpAnyH_take (i := 22) (oi := { dst := some 102, op := Op.move (Operand.tmp 101), type := 4, pos := "law.go:145", after := #[{ on := 21, ground := Ground.data }, { on := 19, ground := Ground.chain }, { on := 19, ground := Ground.guard }], guard := some (19, true) }) (v := ?_) rfl (by kernel_rfl) (by kernel_rfl) (by kernel_rfl) (fun _ _ _ h => h) (Or.inl ⟨by rfl, ?_⟩) hHeld ?_
  rotate_left
  · intro w hSw; (try dsimp only at hSw); go_simp; first | done | with_reducible rfl
  try simp only [Act.put, List.setIfInBounds_toArray, List.set_cons_zero, List.set_cons_succ]
  refine wpAnyH_take (i := 23) (oi := { dst := some 103, op := Op.move (Operand.tmp 9), type := 22, pos := "law.go:145", after := #[{ on := 22, ground := Ground.guard }], guard := some (22, false) }) (v := ?_) rfl (by kernel_rfl) (by kernel_rfl) (by kernel_rfl) (fun _ _ _ h => h) (Or.inl ⟨by rfl, ?_⟩) hHeld ?_
  rotate_left
  · intro w hSw; (try dsimp only at hSw); go_simp; first | done | with_reducible rfl
  try simp only [Act.put, List.setIfInBounds_toArray, List.set_cons_zero, List.set_cons_succ]
  refine wpAnyH_take (i := 24) (oi := { dst := some 104, op := Op.convert 22 9 (Operand.tmp 103), type := 9, pos := "law.go:145", after := #[{ on := 23, ground := Ground.data }, { on := 22, ground := Ground.guard }], guard := some (22, false) }) (v := ?_) rfl (by kernel_rfl) (by kernel_rfl) (by kernel_rfl) (fun _ _ _ h => h) (Or.inl ⟨by rfl, ?_⟩) hHeld ?_
  rotate_left
  · intro w hSw; (try dsimp only at hSw); have hst := hSw.b.string (P := Tryd.prog) 22 5 9 Tryd.underlying22 Tryd.underlying5 Tryd.underlying9; rw [HSB.out] at hst; go_simp; first | done | with_reducible rfl
  try simp only [Act.put, List.setIfInBounds_toArray, List.set_cons_zero, List.set_cons_succ]
  refine wpAnyH_take (i := 25) (oi := { dst := some 105, op := Op.move (Operand.tmp 17), type := 22, pos := "law.go:145", after := #[{ on := 22, ground := Ground.guard }], guard := some (22, false) }) (v := ?_) rfl (by kernel_rfl) (by kernel_rfl) (by kernel_rfl) (fun _ _ _ h => h) (Or.inl ⟨by rfl, ?_⟩) hHeld ?_
  rotate_left
  · intro w hSw; (try dsimp only at hSw); go_simp; first | done | with_reducible rfl
  try simp only [Act.put, List.setIfInBounds_toArray, List.set_cons_zero, List.set_cons_succ]
  refine wpAnyH_take (i := 26) (oi := { dst := some 106, op := Op.convert 22 9 (Operand.tmp 105), type := 9, pos := "law.go:145", after := #[{ on := 25, ground := Ground.data }, { on := 22, ground := Ground.guard }], guard := some (22, false) }) (v := ?_) rfl (by kernel_rfl) (by kernel_rfl) (by kernel_rfl) (fun _ _ _ h => h) (Or.inl ⟨by rfl, ?_⟩) hHeld ?_
  rotate_left
  · intro w hSw; (try dsimp only at hSw); have hst := hSw.c.string (P := Tryd.prog) 22 5 9 Tryd.underlying22 Tryd.underlying5 Tryd.underlying9; rw [HSC.out] at hst; go_simp; first | done | with_reducible rfl
  try simp only [Act.put, List.setIfInBounds_toArray, List.set_cons_zero, List.set_cons_succ]
  refine wpAnyH_take (i := 27) (oi := { dst := some 107, op := Op.binOp BinOp.eql 9 (Operand.tmp 104) (Operand.tmp 106) 9, type := 4, pos := "law.go:145", after := #[{ on := 24, ground := Ground.data }, { on := 26, ground := Ground.data }, { on := 22, ground := Ground.guard }], guard := some (22, false) }) (v := ?_) rfl (by kernel_rfl) (by kernel_rfl) (by kernel_rfl) (fun _ _ _ h => h) (Or.inl ⟨by rfl, ?_⟩) hHeld ?_
  rotate_left
  · intro w hSw; (try dsimp only at hSw); have heq := HSE.out; go_simp; first | done | with_reducible rfl
  try simp only [Act.put, List.setIfInBounds_toArray, List.set_cons_zero, List.set_cons_succ]
  refine wpAnyH_take (i := 28) (oi := { dst := some 108, op := Op.load 31 (Operand.tmp 4), type := 31, pos := "law.go:145", after := #[{ on := 22, ground := Ground.guard }], guard := some (22, false) }) (v := .agg (tkA s)) rfl (by kernel_rfl) (by kernel_rfl) (by kernel_rfl) (fun _ _ _ h => h) (yields_tk (by rfl) _ rfl (w.heap.size) rfl s HMS.out (fun _ h => h.l.x)) hHeld ?_
  try simp only [Act.put, List.setIfInBounds_toArray, List.set_cons_zero, List.set_cons_succ]
  refine wpAnyH_take (i := 29) (oi := { dst := some 109, op := Op.load 31 (Operand.tmp 5), type := 31, pos := "law.go:145", after := #[{ on := 22, ground := Ground.guard }], guard := some (22, false) }) (v := .agg (tkA t)) rfl (by kernel_rfl) (by kernel_rfl) (by kernel_rfl) (fun _ _ _ h => h) (yields_tk (by rfl) _ rfl (w.heap.size + 1) rfl t HMT.out (fun _ h => h.l.y)) hHeld ?_
  try simp only [Act.put, List.setIfInBounds_toArray, List.set_cons_zero, List.set_cons_succ]
  refine wpAnyH_take (i := 30) (oi := { dst := some 110, op := Op.binOp BinOp.eql 31 (Operand.tmp 108) (Operand.tmp 109) 31, type := 4, pos := "law.go:145", after := #[{ on := 28, ground := Ground.data }, { on := 29, ground := Ground.data }, { on := 22, ground := Ground.guard }], guard := some (22, false) }) (v := ?_) rfl (by kernel_rfl) (by kernel_rfl) (by kernel_rfl) (fun _ _ _ h => h) (Or.inl ⟨by rfl, ?_⟩) hHeld ?_
  rotate_left
  · intro w hSw; (try dsimp only at hSw); have heq := HTE.out; go_simp; first | done | with_reducible rfl
  try simp only [Act.put, List.setIfInBounds_toArray, List.set_cons_zero, List.set_cons_succ]
  refine wpAnyH_take (i := 31) (oi := { dst := some 111, op := Op.binOp BinOp.eql 4 (Operand.tmp 107) (Operand.tmp 110) 4, type := 4, pos := "law.go:145", after := #[{ on := 27, ground := Ground.data }, { on := 30, ground := Ground.data }, { on := 22, ground := Ground.guard }], guard := some (22, false) }) (v := ?_) rfl (by kernel_rfl) (by kernel_rfl) (by kernel_rfl) (fun _ _ _ h => h) (Or.inl ⟨by rfl, ?_⟩) hHeld ?_
  rotate_left
  · intro w hSw; (try dsimp only at hSw); go_simp; first | done | with_reducible rfl
  try simp only [Act.put, List.setIfInBounds_toArray, List.set_cons_zero, List.set_cons_succ]
  refine wpAnyH_take (i := 32) (oi := { dst := some 112, op := Op.pick (Operand.tmp 102) (Operand.const (Value.bool true)) (Operand.tmp 111), type := 4, pos := "law.go:145", after := #[{ on := 22, ground := Ground.data }, { on := 31, ground := Ground.data }, { on := 19, ground := Ground.guard }], guard := some (19, true) }) (v := ?_) rfl (by kernel_rfl) (by kernel_rfl) (by kernel_rfl) (fun _ _ _ h => h) (Or.inl ⟨by rfl, ?_⟩) hHeld ?_
  rotate_left
  · intro w hSw; (try dsimp only at hSw); go_simp; first | done | with_reducible rfl
  try simp only [Act.put, List.setIfInBounds_toArray, List.set_cons_zero, List.set_cons_succ]
  refine wpAnyH_take (i := 33) (oi := { dst := some 113, op := Op.pick (Operand.tmp 99) (Operand.tmp 112) (Operand.const (Value.bool false)), type := 4, pos := "law.go:145", after := #[{ on := 19, ground := Ground.data }, { on := 32, ground := Ground.data }], guard := none }) (v := ?_) rfl (by kernel_rfl) (by kernel_rfl) (by kernel_rfl) (fun _ _ _ h => h) (Or.inl ⟨by rfl, ?_⟩) hHeld ?_
  rotate_left
  · intro w hSw; (try dsimp only at hSw); go_simp; first | done | with_reducible rfl
  try simp only [Act.put, List.setIfInBounds_toArray, List.set_cons_zero, List.set_cons_succ]
  refine wpAnyH_take (i := 34) (oi := { dst := some 114, op := Op.move (Operand.tmp 113), type := 4, pos := "law.go:145", after := #[{ on := 33, ground := Ground.data }, { on := 22, ground := Ground.chain }], guard := none }) (v := ?_) rfl (by kernel_rfl) (by kernel_rfl) (by kernel_rfl) (fun _ _ _ h => h) (Or.inl ⟨by rfl, ?_⟩) hHeld ?_
  rotate_left
  · intro w hSw; (try dsimp only at hSw); go_simp; first | done | with_reducible rfl
  try simp only [Act.put, List.setIfInBounds_toArray, List.set_cons_zero, List.set_cons_succ]
  refine wpAnyH_ready (rs := [35]) (by kernel_rfl) (by simp) ?_
  refine AllReadyH.cons (o := { dst := some 115, op := Op.call { callee := Callee.value (Operand.func 12), args := #[], argTypes := #[] }, type := 4, pos := "law.go:145", after := #[{ on := 34, ground := Ground.chain }, { on := 34, ground := Ground.guard }], guard := some (34, true) }) rfl (fun K hK => ?_) AllReadyH.nil
  clear hHeld
  go_simp
  refine (HAW.out _ HK13.out.l.b).mono ?_
  rintro e w14 ⟨rfl, hB⟩
  have HK14 := hide (HK13.out.next hB)
  clear hB HK13
  refine hK.out _ _ (HK14.out) (fun hHeld => ?_)
  clear hK K
  try simp only [Act.put, List.setIfInBounds_toArray, List.set_cons_zero, List.set_cons_succ]
  refine wpAnyH_take (i := 36) (oi := { dst := some 116, op := Op.pick (Operand.tmp 114) (Operand.tmp 115) (Operand.const (Value.bool false)), type := 4, pos := "law.go:145", after := #[{ on := 34, ground := Ground.data }, { on := 35, ground := Ground.data }], guard := none }) (v := ?_) rfl (by kernel_rfl) (by kernel_rfl) (by kernel_rfl) (fun _ _ _ h => h) (Or.inl ⟨by rfl, ?_⟩) hHeld ?_
  rotate_left
  · intro w hSw; (try dsimp only at hSw); go_simp; first | done | with_reducible rfl
  try simp only [Act.put, List.setIfInBounds_toArray, List.set_cons_zero, List.set_cons_succ]
  refine wpAnyH_take (i := 37) (oi := { dst := some 8, op := Op.assign (Operand.tmp 116), type := 4, pos := "law.go:145", after := #[{ on := 36, ground := Ground.data }, { on := 35, ground := Ground.chain }, { on := 0, ground := Ground.phase }, { on := 1, ground := Ground.phase }, { on := 2, ground := Ground.phase }, { on := 3, ground := Ground.phase }, { on := 4, ground := Ground.phase }, { on := 5, ground := Ground.phase }, { on := 6, ground := Ground.phase }, { on := 7, ground := Ground.phase }, { on := 8, ground := Ground.phase }, { on := 9, ground := Ground.phase }, { on := 10, ground := Ground.phase }, { on := 11, ground := Ground.phase }, { on := 12, ground := Ground.phase }, { on := 13, ground := Ground.phase }, { on := 14, ground := Ground.phase }, { on := 15, ground := Ground.phase }, { on := 16, ground := Ground.phase }, { on := 17, ground := Ground.phase }, { on := 18, ground := Ground.phase }, { on := 19, ground := Ground.phase }, { on := 20, ground := Ground.phase }, { on := 21, ground := Ground.phase }, { on := 22, ground := Ground.phase }, { on := 23, ground := Ground.phase }, { on := 24, ground := Ground.phase }, { on := 25, ground := Ground.phase }, { on := 26, ground := Ground.phase }, { on := 27, ground := Ground.phase }, { on := 28, ground := Ground.phase }, { on := 29, ground := Ground.phase }, { on := 30, ground := Ground.phase }, { on := 31, ground := Ground.phase }, { on := 32, ground := Ground.phase }, { on := 33, ground := Ground.phase }, { on := 34, ground := Ground.phase }, { on := 35, ground := Ground.phase }, { on := 36, ground := Ground.phase }], guard := none }) (v := ?_) rfl (by kernel_rfl) (by kernel_rfl) (by kernel_rfl) (fun _ _ _ h => h) (Or.inl ⟨by rfl, ?_⟩) hHeld ?_
  rotate_left
  · intro w hSw; (try dsimp only at hSw); go_simp; first | done | with_reducible rfl
  try simp only [Act.put, List.setIfInBounds_toArray, List.set_cons_zero, List.set_cons_succ]
  refine wpAnyH_done (by kernel_rfl) ?_ _
  clear hHeld
  go_wp2_with fail
  go_ret
  exact ⟨rfl, HK14.out.l.b⟩
end Go.Proofs.YtaomigfmjglggaaDoor
namespace Go.Proofs.YtaomigfmjglggaaDoor
open Go.RowKit

set_option maxRecDepth 100000 in
set_option maxHeartbeats 8000000 in
theorem back_main6 (s t : Tk) (av : Int) (ma : Option Addr) (q mc : Nat) (ms : List Int) (w : World) (hT : Tab w) (hs : s.ok) (hp : t.ok) (hm : SlAt w (.slice ma q mc) ms) (hmb : ∀ x ∈ ms, 0 ≤ x ∧ x < 256) (hq : ms.length = q) (hq100 : ¬ 100 < q) (hl1 : longB 0 s = false) (hl2 : longB 0 t = false) (hmt : mayT t = true) (hme : ¬ ms = []) (hms : mayT s = true) (hav : ¬ 0 < av) :
    Calls Tryd.prog 9 #[.agg (tkA s), .agg (tkA t), .int .i64 av, .slice ma q mc] w (LawPost w) := by
  have HT := hide hT
  have HL := hide (LB.first w s t (.slice ma q mc) ms hm)
  have HOS := hide hs
  have HOT := hide hp
  have HMS := hide hs.mac
  have HMT := hide hp.mac
  have HMB := hide hmb
  have HAW := hide (fun W (h : Below w.heap.size w W) => awake_any W (HT.out.below h HT.out.two))
  have HLS := hide (fun W => (show _ from by have h := long_any none 0 0 0 0 s W; rw [hl1] at h; exact h))
  have HLT := hide (fun W => (show _ from by have h := long_any none 0 0 0 0 t W; rw [hl2] at h; exact h))
  have HQ := tuck hq
  clear hs hp hm hT hmb hq hl1 hl2
  unfold ringA at *
  have hq1 : ¬ (100 : Int) < (q : Int) := by omega
  have hq2 : decide ((100 : Int) < (q : Int)) = false := by simpa using hq1
  have hq3 : decide (100 < q) = false := by simpa using hq100
  have HBY := hide (fun (W : World) (h : Below w.heap.size w W) => bytes_ok t HOT.out hmt W (HT.out.below h HT.out.two))
  have HFT := hide (fine_bytes HOT.out hmt)
  have HTL := hide (fun (x : Tk) (h1 : x.ok) (h2 : mayT x = true) => bytes_tell h1 HOT.out h2 hmt (fine_bytes h1 h2) (fine_bytes HOT.out hmt))
  have HR1 := hide (show readS (saidS t ++ t.mac) = some t from by have h := readS_put t HOT.out hmt []; rwa [List.append_nil, if_pos rfl] at h)
  have HR2 := hide (fun (K : Nat) (hK : K < (saidS t ++ t.mac).length) => readS_less HOT.out hmt hK (fine_bytes HOT.out hmt))
  have HR3 := hide (show readS ((saidS t ++ t.mac) ++ ms) = if ms = [] then some t else none from by rw [List.append_assoc]; exact readS_put t HOT.out hmt ms)
  have HFM : Hid (Fine ((saidS t ++ t.mac) ++ ms)) := hide (by
    have h1 := HFT.out
    have h2 := saidS_len hmt
    refine ⟨fun x hx => ?_, by simp only [List.length_append, HQ.out, HOT.out.mac]; omega⟩
    rcases List.mem_append.1 hx with h | h
    · exact h1.1 x h
    · exact HMB.out x h)
  have HBL : Hid (32 ≤ (saidS t ++ t.mac).length ∧ (saidS t ++ t.mac).length ≤ 300) := hide (by
    have h2 := saidS_len hmt
    simp only [List.length_append, HOT.out.mac]; omega)
  have hsame : ∀ w : World, (Op.equalIn 10000 31 (.agg (tkA t)) (.agg (tkA t))).run Tryd.prog w = .ok true w := fun w => by rw [run_eqTk t t HMT.out HMT.out w, eqT_self]
  have HSAME := hide hsame
  clear hsame
  obtain ⟨B, hBd⟩ : ∃ B, saidS t ++ t.mac = B := ⟨_, rfl⟩
  have HBD := tuck hBd
  rw [hBd] at HBY HFT HR1 HR2 HR3 HFM HBL
  clear hBd hmt
  obtain ⟨bl, hbl⟩ : ∃ bl, B.length = bl := ⟨_, rfl⟩
  have HBN := tuck hbl
  rw [hbl] at HR2 HBL
  have hb0 := HBL.out
  have hmx : max (0 : Int) av = 0 := by omega
  have hz4 : Int.tmod 0 (bl : Int) = 0 := Int.zero_tmod _
  have hz5 : (0 : Int) % (bl : Int) = 0 := Int.zero_emod _
  have hz1 : decide ((0 : Int) < av) = false := by simpa using hav
  have hKl : 0 < bl := by omega
  have hbz : ¬ (bl : Int) = 0 := by omega
  have hbz2 : ¬ bl = 0 := by omega
  have hbzd : decide ((bl : Int) = 0) = false := by simpa using hbz2
  have hbzb : ((bl : Int) == 0) = false := by simpa using hbz2
  have HKL := tuck hKl
  have HRK := hide (HR2.out 0 hKl)
  clear HR2 hbl hb0
  rw [if_neg hme] at HR3
  have hq0 : ¬ q = 0 := fun e => hme (List.length_eq_zero_iff.1 (by rw [HQ.out]; exact e))
  have hq5 : decide ((q : Int) = 0) = false := by simpa using hq0
  have hq6 : ((q : Int) == 0) = false := by simpa using hq0
  have hq7 : decide (q = 0) = false := by simpa using hq0
  have hq8 : (q == 0) = false := by simpa using hq0
  clear hme
  have HBS := hide (fun (W : World) (h : Below w.heap.size w W) => bytes_ok s HOS.out hms W (HT.out.below h HT.out.two))
  have HTL2 := hide (HTL.out s HOS.out hms)
  have HTE0 := hide (fun w => run_eqTk s t HMS.out HMT.out w)
  obtain ⟨C, hC⟩ : ∃ C, saidS s ++ s.mac = C := ⟨_, rfl⟩
  rw [hC] at HBS HTL2
  obtain ⟨E, hE⟩ : ∃ E, eqT s t = E := ⟨_, rfl⟩
  rw [hE] at HTL2 HTE0
  obtain ⟨SB, hSB⟩ : ∃ SB, strOfNums B = SB := ⟨_, rfl⟩
  obtain ⟨SC, hSC⟩ : ∃ SC, strOfNums C = SC := ⟨_, rfl⟩
  have HSB := tuck hSB
  have HSC := tuck hSC
  have HSE := hide (show (SB.toList == SC.toList) = E from by rw [← hSB, ← hSC, ← HBD.out]; exact HTL2.out)
  have HTE := HTE0
  clear hms hC hE hSB hSC HTL2 HTE0 HTL
  go_enter Tryd.func9, Tryd.ntmps9
  go_upto_region 3 with (first | (refine wpList_load_tk rfl (.tmp 4) rfl w.heap.size rfl s HMS.out HL.out.x ?_) | (go_at_call 11; refine (HLS.out _).mono ?_; rintro e w2 ⟨rfl, hB⟩; have HL2 := hide (HL.out.next hB); clear hB HL HLS) | (refine wpList_load_tk_w (by rfl) (.tmp 5) rfl (w.heap.size + 1) rfl t HMT.out HL2.out.y ?_) | (go_at_call 11; refine (HLT.out _).mono ?_; rintro e w3 ⟨rfl, hB⟩; have HL3 := hide (HL2.out.next hB); clear hB HL2 HLT))
  go_upto_region 4 with (first | (refine wpList_load_tk rfl (.tmp 5) rfl (w.heap.size + 1) rfl t HMT.out HL3.out.y ?_) | (go_at_call 24; refine (HBY.out _ HL3.out.b).mono ?_; rintro e w4 ⟨v4, rfl, hr, hB⟩; have HL4 := hide (HL3.out.next hB); have hs4 := hr.slAt; obtain ⟨va, vc, hv⟩ := hs4.len; rw [HBN.out] at hv; subst hv; have HB4 := hide hs4; clear hr hB hs4 HL3 HBY))
  go_upto_region 6 with fail
  go_upto_region 7 with (first | (go_at_call 26; refine (read_some (.slice va bl vc) B _ HB4.out HFT.out (HT.out.below HL4.out.b HT.out.two) HR1.out).mono ?_; rintro e w5 ⟨rfl, hB⟩; have HL5 := hide (HL4.out.next hB); have HB5 := hide (HB4.out.below hB); clear hB HL4 HB4) | (refine wpList_alloc_tk rfl rfl ?_) | (refine wpList_store_tk_new rfl (.tmp 11) (.tmp 53) rfl w5.heap.size t rfl rfl tk0 tk0_len HMT.out (TBox.new _ _) (fun W => Below w5.heap.size w5 W ∧ TBox W w5.heap.size t) ⟨below_pair w5 tk0 t, (TBox.new _ _).row⟩ ?_; intro w6 hp; have HL6 := hide (HL5.out.next hp.1); have HB6 := hide (HB5.out.below hp.1); have HX6 := hide hp.2; have hcut : (Instr.sliceAt 22 (.slice va bl vc) none (some (.int .i64 0)) none).run Tryd.prog w6 = .ok (.slice va 0 vc) w6 := run_cut_hk (P := Tryd.prog) .i64 Tryd.underlying22 size5 va bl vc 0 (by have := HB6.out.le.1; have := HKL.out; omega) w6; clear hp HL5 HB5))
  go_upto_region 8 with (first | (go_at_call 26; refine (read_none (.slice va 0 vc) (B.take 0) _ (HB6.out.front' (Nat.le_of_lt HKL.out)) ⟨fun x hx => HFT.out.1 x (List.mem_of_mem_take hx), by have := HFT.out.2; first | (simp; done) | (simp; omega)⟩ (HT.out.below HL6.out.b HT.out.two) HRK.out).mono ?_; rintro e w7 ⟨rfl, hB⟩; have HL7 := hide (HL6.out.next hB); have HB7 := hide (HB6.out.below hB); have HX7 := hide (HX6.out.next hB); clear hB hcut HL6 HB6 HX6) | (refine wpList_alloc_tk rfl rfl ?_) | (refine wpList_store_tk_new rfl (.tmp 13) (.tmp 64) rfl w7.heap.size tk0 rfl rfl tk0 tk0_len tk0_len (TBox.new _ _) (fun W => Below w7.heap.size w7 W) (below_pair w7 tk0 tk0) ?_; intro w8 hp; have HL8 := hide (HL7.out.next hp); have HB8 := hide (HB7.out.below hp); have HX8 := hide (HX7.out.next hp); have HB8a := hide (HB8.out.below ((Below.refl w8.heap.size w8).alloc (Nat.le_refl _) (.cells #[] 5))); obtain ⟨v9, w9, hrun, hrow, hbw⟩ := append_rowB (w8.alloc (.cells #[] 5)) w8.heap.size (.slice (some ⟨w8.heap.size, 0, none⟩) 0 0) [] (Row.empty w8) (.slice va bl vc) B HB8a.out (by have := HBN.out; have := HBL.out; simp; omega) (by simp); rw [List.nil_append] at hrow; obtain ⟨xa, xc, hv⟩ := hrow.slAt.len; rw [HBN.out] at hv; subst hv; have HRUN := hide hrun; have hb9 : Below w8.heap.size w8 w9 := ((Below.refl _ _).alloc (Nat.le_refl _) _).trans hbw; have HL9 := hide (HL8.out.next hb9); have HB9 := hide (HB8.out.below hb9); have HX9 := hide (HX8.out.next hb9); have HBW9 := hide hbw; have HR9 := hide hrow; have HS9 := hide hb9.size; clear hp hrun hrow hbw hb9 HL7 HB7 HX7 HB8a))
  go_upto_region 9 with (first | (at_builtin; refine wpList_append_run rfl (.tmp 67) (.tmp 68) 22 22 22 rfl rfl (.slice (some ⟨w8.heap.size, 0, none⟩) 0 0) (.slice va bl vc) (.slice xa bl xc) w9 rfl rfl HRUN.out ?_; obtain ⟨v10, w10, hrun, hrow, hbw⟩ := append_rowB w9 w8.heap.size (.slice xa bl xc) B HR9.out (.slice ma q mc) ms HL9.out.m (by have := HBN.out; have := HBL.out; have := HQ.out; omega) HS9.out; obtain ⟨ya, yc, hv⟩ := hrow.slAt.len; obtain ⟨bq, hbq⟩ : ∃ bq, (B ++ ms).length = bq := ⟨_, rfl⟩; rw [hbq] at hv; subst hv; clear hbq; have HRUN2 := hide hrun; have hb10 : Below w8.heap.size w8 w10 := (((Below.refl _ _).alloc (Nat.le_refl _) _).trans (HBW9.out)).trans hbw; have HL10 := hide (HL8.out.next hb10); have HB10 := hide (HB8.out.below hb10); have HX10 := hide (HX8.out.next hb10); have HR10 := hide hrow.slAt; clear hrun hrow hbw hb10 HL9 HB9 HX9 HR9 HRUN HL8 HB8 HX8 HBW9) | (at_builtin; refine wpList_append_run rfl (.tmp 69) (.tmp 70) 22 22 22 rfl rfl (.slice xa bl xc) (.slice ma q mc) (.slice ya bq yc) w10 rfl rfl HRUN2.out ?_; clear HRUN2) | (go_at_call 26; refine (read_none (.slice ya bq yc) (B ++ ms) _ HR10.out HFM.out (HT.out.below HL10.out.b HT.out.two) HR3.out).mono ?_; rintro e w11 ⟨rfl, hB⟩; have HL11 := hide (HL10.out.next hB); have HB11 := hide (HB10.out.below hB); have HX11 := hide (HX10.out.next hB); clear hB HL10 HB10 HX10 HR10) | (refine wpList_alloc_tk rfl rfl ?_) | (refine wpList_store_tk_new rfl (.tmp 15) (.tmp 73) rfl w11.heap.size tk0 rfl rfl tk0 tk0_len tk0_len (TBox.new _ _) (fun W => Below w11.heap.size w11 W) (below_pair w11 tk0 tk0) ?_; intro w12 hp; have HL12 := hide (HL11.out.next hp); have HB12 := hide (HB11.out.below hp); have HX12 := hide (HX11.out.next hp); clear hp HL11 HB11 HX11))
  go_upto_region 10 with (first | (refine wpList_load_tk rfl (.tmp 4) rfl w.heap.size rfl s HMS.out HL12.out.x ?_) | (go_at_call 24; refine (HBS.out _ HL12.out.b).mono ?_; rintro e w13 ⟨v13, rfl, hr, hB⟩; have hs13 := hr.slAt; obtain ⟨ca, cc, hv⟩ := hs13.len; obtain ⟨cl, hcl⟩ : ∃ cl, C.length = cl := ⟨_, rfl⟩; rw [hcl] at hv; subst hv; clear hcl; have HK13 := hide (show BK w s t (.slice ma q mc) ms w5.heap.size (.slice va bl vc) (.slice ca cl cc) B C w13 from ⟨HL12.out.next hB, HX12.out.next hB, HB12.out.below hB, hs13⟩); clear hr hB hs13 HL12 HB12 HX12 HBS))
  replace HK13 := hide (HK13.out.next ((Below.refl _ _).drew))
  refine wp_region_held_drew (S := BK w s t (.slice ma q mc) ms w5.heap.size (.slice va bl vc) (.slice ca cl cc) B C) (by kernel_rfl) HK13.out (fun hHeld => ?_)
  generalize w13.drew = w13 at hHeld HK13 ⊢
  refine wpAnyH_take (i := 0) (oi := { dst := some 80, op := Op.move (Operand.tmp 12), type := 37, pos := "law.go:145", after := #[], guard := none }) (v := ?_) rfl (by kernel_rfl) (by kernel_rfl) (by kernel_rfl) (fun _ _ _ h => h) (Or.inl ⟨by rfl, ?_⟩) hHeld ?_
  rotate_left
  · intro w hSw; (try dsimp only at hSw); go_simp; first | done | with_reducible rfl
  try simp only [Act.put, List.setIfInBounds_toArray, List.set_cons_zero, List.set_cons_succ]
  refine wpAnyH_take (i := 1) (oi := { dst := some 81, op := Op.binOp BinOp.eql 37 (Operand.tmp 80) (Operand.const (Value.int IntKind.i64 0)) 37, type := 4, pos := "law.go:145", after := #[{ on := 0, ground := Ground.data }], guard := none }) (v := ?_) rfl (by kernel_rfl) (by kernel_rfl) (by kernel_rfl) (fun _ _ _ h => h) (Or.inl ⟨by rfl, ?_⟩) hHeld ?_
  rotate_left
  · intro w hSw; (try dsimp only at hSw); go_simp; first | done | with_reducible rfl
  try simp only [Act.put, List.setIfInBounds_toArray, List.set_cons_zero, List.set_cons_succ]
  refine wpAnyH_take (i := 2) (oi := { dst := some 82, op := Op.move (Operand.tmp 81), type := 4, pos := "law.go:145", after := #[{ on := 1, ground := Ground.data }], guard := none }) (v := ?_) rfl (by kernel_rfl) (by kernel_rfl) (by kernel_rfl) (fun _ _ _ h => h) (Or.inl ⟨by rfl, ?_⟩) hHeld ?_
  rotate_left
  · intro w hSw; (try dsimp only at hSw); go_simp; first | done | with_reducible rfl
  try simp only [Act.put, List.setIfInBounds_toArray, List.set_cons_zero, List.set_cons_succ]
  refine wpAnyH_take (i := 3) (oi := { dst := some 83, op := Op.load 31 (Operand.tmp 11), type := 31, pos := "law.go:145", after := #[{ on := 2, ground := Ground.guard }], guard := some (2, true) }) (v := .agg (tkA t)) rfl (by kernel_rfl) (by kernel_rfl) (by kernel_rfl) (fun _ _ _ h => h) (yields_tk (by rfl) _ rfl (w5.heap.size) rfl t HMT.out (fun _ h => h.z)) hHeld ?_
  try simp only [Act.put, List.setIfInBounds_toArray, List.set_cons_zero, List.set_cons_succ]
  refine wpAnyH_take (i := 4) (oi := { dst := some 84, op := Op.load 31 (Operand.tmp 5), type := 31, pos := "law.go:145", after := #[{ on := 2, ground := Ground.guard }], guard := some (2, true) }) (v := .agg (tkA t)) rfl (by kernel_rfl) (by kernel_rfl) (by kernel_rfl) (fun _ _ _ h => h) (yields_tk (by rfl) _ rfl (w.heap.size + 1) rfl t HMT.out (fun _ h => h.l.y)) hHeld ?_
  try simp only [Act.put, List.setIfInBounds_toArray, List.set_cons_zero, List.set_cons_succ]
  refine wpAnyH_take (i := 5) (oi := { dst := some 85, op := Op.binOp BinOp.eql 31 (Operand.tmp 83) (Operand.tmp 84) 31, type := 4, pos := "law.go:145", after := #[{ on := 3, ground := Ground.data }, { on := 4, ground := Ground.data }, { on := 2, ground := Ground.guard }], guard := some (2, true) }) (v := ?_) rfl (by kernel_rfl) (by kernel_rfl) (by kernel_rfl) (fun _ _ _ h => h) (Or.inl ⟨by rfl, ?_⟩) hHeld ?_
  rotate_left
  · intro w hSw; (try dsimp only at hSw); have heq := HSAME.out; go_simp; first | done | with_reducible rfl
  try simp only [Act.put, List.setIfInBounds_toArray, List.set_cons_zero, List.set_cons_succ]
  refine wpAnyH_take (i := 6) (oi := { dst := some 86, op := Op.pick (Operand.tmp 82) (Operand.tmp 85) (Operand.const (Value.bool false)), type := 4, pos := "law.go:145", after := #[{ on := 2, ground := Ground.data }, { on := 5, ground := Ground.data }], guard := none }) (v := ?_) rfl (by kernel_rfl) (by kernel_rfl) (by kernel_rfl) (fun _ _ _ h => h) (Or.inl ⟨by rfl, ?_⟩) hHeld ?_
  rotate_left
  · intro w hSw; (try dsimp only at hSw); go_simp; first | done | with_reducible rfl
  try simp only [Act.put, List.setIfInBounds_toArray, List.set_cons_zero, List.set_cons_succ]
  refine wpAnyH_take (i := 7) (oi := { dst := some 87, op := Op.move (Operand.tmp 86), type := 4, pos := "law.go:145", after := #[{ on := 6, ground := Ground.data }, { on := 2, ground := Ground.chain }], guard := none }) (v := ?_) rfl (by kernel_rfl) (by kernel_rfl) (by kernel_rfl) (fun _ _ _ h => h) (Or.inl ⟨by rfl, ?_⟩) hHeld ?_
  rotate_left
  · intro w hSw; (try dsimp only at hSw); go_simp; first | done | with_reducible rfl
  try simp only [Act.put, List.setIfInBounds_toArray, List.set_cons_zero, List.set_cons_succ]
  refine wpAnyH_take (i := 8) (oi := { dst := some 88, op := Op.move (Operand.tmp 14), type := 37, pos := "law.go:145", after := #[{ on := 7, ground := Ground.guard }], guard := some (7, true) }) (v := ?_) rfl (by kernel_rfl) (by kernel_rfl) (by kernel_rfl) (fun _ _ _ h => h) (Or.inl ⟨by rfl, ?_⟩) hHeld ?_
  rotate_left
  · intro w hSw; (try dsimp only at hSw); go_simp; first | done | with_reducible rfl
  try simp only [Act.put, List.setIfInBounds_toArray, List.set_cons_zero, List.set_cons_succ]
  refine wpAnyH_take (i := 9) (oi := { dst := some 89, op := Op.binOp BinOp.eql 37 (Operand.tmp 88) (Operand.const (Value.int IntKind.i64 2)) 37, type := 4, pos := "law.go:145", after := #[{ on := 8, ground := Ground.data }, { on := 7, ground := Ground.guard }], guard := some (7, true) }) (v := ?_) rfl (by kernel_rfl) (by kernel_rfl) (by kernel_rfl) (fun _ _ _ h => h) (Or.inl ⟨by rfl, ?_⟩) hHeld ?_
  rotate_left
  · intro w hSw; (try dsimp only at hSw); go_simp; first | done | with_reducible rfl
  try simp only [Act.put, List.setIfInBounds_toArray, List.set_cons_zero, List.set_cons_succ]
  refine wpAnyH_take (i := 10) (oi := { dst := some 90, op := Op.pick (Operand.tmp 87) (Operand.tmp 89) (Operand.const (Value.bool false)), type := 4, pos := "law.go:145", after := #[{ on := 7, ground := Ground.data }, { on := 9, ground := Ground.data }], guard := none }) (v := ?_) rfl (by kernel_rfl) (by kernel_rfl) (by kernel_rfl) (fun _ _ _ h => h) (Or.inl ⟨by rfl, ?_⟩) hHeld ?_
  rotate_left
  · intro w hSw; (try dsimp only at hSw); go_simp; first | done | with_reducible rfl
  try simp only [Act.put, List.setIfInBounds_toArray, List.set_cons_zero, List.set_cons_succ]
  refine wpAnyH_take (i := 11) (oi := { dst := some 91, op := Op.move (Operand.tmp 90), type := 4, pos := "law.go:145", after := #[{ on := 10, ground := Ground.data }, { on := 7, ground := Ground.chain }], guard := none }) (v := ?_) rfl (by kernel_rfl) (by kernel_rfl) (by kernel_rfl) (fun _ _ _ h => h) (Or.inl ⟨by rfl, ?_⟩) hHeld ?_
  rotate_left
  · intro w hSw; (try dsimp only at hSw); go_simp; first | done | with_reducible rfl
  try simp only [Act.put, List.setIfInBounds_toArray, List.set_cons_zero, List.set_cons_succ]
  refine wpAnyH_take (i := 12) (oi := { dst := some 92, op := Op.move (Operand.tmp 16), type := 37, pos := "law.go:145", after := #[{ on := 11, ground := Ground.guard }], guard := some (11, true) }) (v := ?_) rfl (by kernel_rfl) (by kernel_rfl) (by kernel_rfl) (fun _ _ _ h => h) (Or.inl ⟨by rfl, ?_⟩) hHeld ?_
  rotate_left
  · intro w hSw; (try dsimp only at hSw); go_simp; first | done | with_reducible rfl
  try simp only [Act.put, List.setIfInBounds_toArray, List.set_cons_zero, List.set_cons_succ]
  refine wpAnyH_take (i := 13) (oi := { dst := some 93, op := Op.binOp BinOp.eql 37 (Operand.tmp 92) (Operand.const (Value.int IntKind.i64 0)) 37, type := 4, pos := "law.go:145", after := #[{ on := 12, ground := Ground.data }, { on := 11, ground := Ground.guard }], guard := some (11, true) }) (v := ?_) rfl (by kernel_rfl) (by kernel_rfl) (by kernel_rfl) (fun _ _ _ h => h) (Or.inl ⟨by rfl, ?_⟩) hHeld ?_
  rotate_left
  · intro w hSw; (try dsimp only at hSw); go_simp; first | done | with_reducible rfl
  try simp only [Act.put, List.setIfInBounds_toArray, List.set_cons_zero, List.set_cons_succ]
  refine wpAnyH_take (i := 14) (oi := { dst := some 94, op := Op.move (Operand.tmp 3), type := 22, pos := "law.go:145", after := #[{ on := 11, ground := Ground.guard }], guard := some (11, true) }) (v := ?_) rfl (by kernel_rfl) (by kernel_rfl) (by kernel_rfl) (fun _ _ _ h => h) (Or.inl ⟨by rfl, ?_⟩) hHeld ?_
  rotate_left
  · intro w hSw; (try dsimp only at hSw); go_simp; first | done | with_reducible rfl
  try simp only [Act.put, List.setIfInBounds_toArray, List.set_cons_zero, List.set_cons_succ]
  refine wpAnyH_take (i := 15) (oi := { dst := some 95, op := Op.call { callee := Callee.builtin Builtin.len, args := #[Operand.tmp 94], argTypes := #[22] }, type := 3, pos := "law.go:145", after := #[{ on := 14, ground := Ground.data }, { on := 11, ground := Ground.guard }], guard := some (11, true) }) (v := ?_) rfl (by kernel_rfl) (by kernel_rfl) (by kernel_rfl) (fun _ _ _ h => h) (Or.inl ⟨by rfl, ?_⟩) hHeld ?_
  rotate_left
  · intro w hSw; (try dsimp only at hSw); go_simp; first | done | with_reducible rfl
  try simp only [Act.put, List.setIfInBounds_toArray, List.set_cons_zero, List.set_cons_succ]
  refine wpAnyH_take (i := 16) (oi := { dst := some 96, op := Op.binOp BinOp.eql 3 (Operand.tmp 95) (Operand.const (Value.int IntKind.i64 0)) 3, type := 4, pos := "law.go:145", after := #[{ on := 15, ground := Ground.data }, { on := 11, ground := Ground.guard }], guard := some (11, true) }) (v := ?_) rfl (by kernel_rfl) (by kernel_rfl) (by kernel_rfl) (fun _ _ _ h => h) (Or.inl ⟨by rfl, ?_⟩) hHeld ?_
  rotate_left
  · intro w hSw; (try dsimp only at hSw); go_simp; first | done | with_reducible rfl
  try simp only [Act.put, List.setIfInBounds_toArray, List.set_cons_zero, List.set_cons_succ]
  refine wpAnyH_take (i := 17) (oi := { dst := some 97, op := Op.binOp BinOp.eql 4 (Operand.tmp 93) (Operand.tmp 96) 4, type := 4, pos := "law.go:145", after := #[{ on := 13, ground := Ground.data }, { on := 16, ground := Ground.data }, { on := 11, ground := Ground.guard }], guard := some (11, true) }) (v := ?_) rfl (by kernel_rfl) (by kernel_rfl) (by kernel_rfl) (fun _ _ _ h => h) (Or.inl ⟨by rfl, ?_⟩) hHeld ?_
  rotate_left
  · intro w hSw; (try dsimp only at hSw); go_simp; first | done | with_reducible rfl
  try simp only [Act.put, List.setIfInBounds_toArray, List.set_cons_zero, List.set_cons_succ]
  refine wpAnyH_take (i := 18) (oi := { dst := some 98, op := Op.pick (Operand.tmp 91) (Operand.tmp 97) (Operand.const (Value.bool false)), type := 4, pos := "law.go:145", after := #[{ on := 11, ground := Ground.data }, { on := 17, ground := Ground.data }], guard := none }) (v := ?_) rfl (by kernel_rfl) (by kernel_rfl) (by kernel_rfl) (fun _ _ _ h => h) (Or.inl ⟨by rfl, ?_⟩) hHeld ?_
  rotate_left
  · intro w hSw; (try dsimp only at hSw); go_simp; first | done | with_reducible rfl
  try simp only [Act.put, List.setIfInBounds_toArray, List.set_cons_zero, List.set_cons_succ]
  refine wpAnyH_take (i := 19) (oi := { dst := some 99, op := Op.move (Operand.tmp 98), type := 4, pos := "law.go:145", after := #[{ on := 18, ground := Ground.data }, { on := 11, ground := Ground.chain }], guard := none }) (v := ?_) rfl (by kernel_rfl) (by kernel_rfl) (by kernel_rfl) (fun _ _ _ h => h) (Or.inl ⟨by rfl, ?_⟩) hHeld ?_
  rotate_left
  · intro w hSw; (try dsimp only at hSw); go_simp; first | done | with_reducible rfl
  try simp only [Act.put, List.setIfInBounds_toArray, List.set_cons_zero, List.set_cons_succ]
  refine wpAnyH_take (i := 20) (oi := { dst := some 100, op := Op.move (Operand.tmp 18), type := 37, pos := "law.go:145", after := #[{ on := 19, ground := Ground.guard }], guard := some (19, true) }) (v := ?_) rfl (by kernel_rfl) (by kernel_rfl) (by kernel_rfl) (fun _ _ _ h => h) (Or.inl ⟨by rfl, ?_⟩) hHeld ?_
  rotate_left
  · intro w hSw; (try dsimp only at hSw); go_simp; first | done | with_reducible rfl
  try simp only [Act.put, List.setIfInBounds_toArray, List.set_cons_zero, List.set_cons_succ]
  refine wpAnyH_take (i := 21) (oi := { dst := some 101, op := Op.binOp BinOp.neq 37 (Operand.tmp 100) (Operand.const (Value.int IntKind.i64 0)) 37, type := 4, pos := "law.go:145", after := #[{ on := 20, ground := Ground.data }, { on := 19, ground := Ground.guard }], guard := some (19, true) }) (v := ?_) rfl (by kernel_rfl) (by kernel_rfl) (by kernel_rfl) (fun _ _ _ h => h) (Or.inl ⟨by rfl, ?_⟩) hHeld ?_
  rotate_left
  · intro w hSw; (try dsimp only at hSw); go_simp; first | done | with_reducible rfl
  try simp only [Act.put, List.setIfInBounds_toArray, List.set_cons_zero, List.set_cons_succ]
  refine wpAnyH_take (i := 22) (oi := { dst := some 102, op := Op.move (Operand.tmp 101), type := 4, pos := "law.go:145", after := #[{ on := 21, ground := Ground.data }, { on := 19, ground := Ground.chain }, { on := 19, ground := Ground.guard }], guard := some (19, true) }) (v := ?_) rfl (by kernel_rfl) (by kernel_rfl) (by kernel_rfl) (fun _ _ _ h => h) (Or.inl ⟨by rfl, ?_⟩) hHeld ?_
  rotate_left
  · intro w hSw; (try dsimp only at hSw); go_simp; first | done | with_reducible rfl
  try simp only [Act.put, List.setIfInBounds_toArray, List.set_cons_zero, List.set_cons_succ]
  refine wpAnyH_take (i := 23) (oi := { dst := some 103, op := Op.move (Operand.tmp 9), type := 22, pos := "law.go:145", after := #[{ on := 22, ground := Ground.guard }], guard := some (22, false) }) (v := ?_) rfl (by kernel_rfl) (by kernel_rfl) (by kernel_rfl) (fun _ _ _ h => h) (Or.inl ⟨by rfl, ?_⟩) hHeld ?_
  rotate_left
  · intro w hSw; (try dsimp only at hSw); go_simp; first | done | with_reducible rfl
  try simp only [Act.put, List.setIfInBounds_toArray, List.set_cons_zero, List.set_cons_succ]
  refine wpAnyH_take (i := 24) (oi := { dst := some 104, op := Op.convert 22 9 (Operand.tmp 103), type := 9, pos := "law.go:145", after := #[{ on := 23, ground := Ground.data }, { on := 22, ground := Ground.guard }], guard := some (22, false) }) (v := ?_) rfl (by kernel_rfl) (by kernel_rfl) (by kernel_rfl) (fun _ _ _ h => h) (Or.inl ⟨by rfl, ?_⟩) hHeld ?_
  rotate_left
  · intro w hSw; (try dsimp only at hSw); have hst := hSw.b.string (P := Tryd.prog) 22 5 9 Tryd.underlying22 Tryd.underlying5 Tryd.underlying9; rw [HSB.out] at hst; go_simp; first | done | with_reducible rfl
  try simp only [Act.put, List.setIfInBounds_toArray, List.set_cons_zero, List.set_cons_succ]
  refine wpAnyH_take (i := 25) (oi := { dst := some 105, op := Op.move (Operand.tmp 17), type := 22, pos := "law.go:145", after := #[{ on := 22, ground := Ground.guard }], guard := some (22, false) }) (v := ?_) rfl (by kernel_rfl) (by kernel_rfl) (by kernel_rfl) (fun _ _ _ h => h) (Or.inl ⟨by rfl, ?_⟩) hHeld ?_
  rotate_left
  · intro w hSw; (try dsimp only at hSw); go_simp; first | done | with_reducible rfl
  try simp only [Act.put, List.setIfInBounds_toArray, List.set_cons_zero, List.set_cons_succ]
  refine wpAnyH_take (i := 26) (oi := { dst := some 106, op := Op.convert 22 9 (Operand.tmp 105), type := 9, pos := "law.go:145", after := #[{ on := 25, ground := Ground.data }, { on := 22, ground := Ground.guard }], guard := some (22, false) }) (v := ?_) rfl (by kernel_rfl) (by kernel_rfl) (by kernel_rfl) (fun _ _ _ h => h) (Or.inl ⟨by rfl, ?_⟩) hHeld ?_
  rotate_left
  · intro w hSw; (try dsimp only at hSw); have hst := hSw.c.string (P := Tryd.prog) 22 5 9 Tryd.underlying22 Tryd.underlying5 Tryd.underlying9; rw [HSC.out] at hst; go_simp; first | done | with_reducible rfl
  try simp only [Act.put, List.setIfInBounds_toArray, List.set_cons_zero, List.set_cons_succ]
  refine wpAnyH_take (i := 27) (oi := { dst := some 107, op := Op.binOp BinOp.eql 9 (Operand.tmp 104) (Operand.tmp 106) 9, type := 4, pos := "law.go:145", after := #[{ on := 24, ground := Ground.data }, { on := 26, ground := Ground.data }, { on := 22, ground := Ground.guard }], guard := some (22, false) }) (v := ?_) rfl (by kernel_rfl) (by kernel_rfl) (by kernel_rfl) (fun _ _ _ h => h) (Or.inl ⟨by rfl, ?_⟩) hHeld ?_
  rotate_left
  · intro w hSw; (try dsimp only at hSw); have heq := HSE.out; go_simp; first | done | with_reducible rfl
  try simp only [Act.put, List.setIfInBounds_toArray, List.set_cons_zero, List.set_cons_succ]
  refine wpAnyH_take (i := 28) (oi := { dst := some 108, op := Op.load 31 (Operand.tmp 4), type := 31, pos := "law.go:145", after := #[{ on := 22, ground := Ground.guard }], guard := some (22, false) }) (v := .agg (tkA s)) rfl (by kernel_rfl) (by kernel_rfl) (by kernel_rfl) (fun _ _ _ h => h) (yields_tk (by rfl) _ rfl (w.heap.size) rfl s HMS.out (fun _ h => h.l.x)) hHeld ?_
  try simp only [Act.put, List.setIfInBounds_toArray, List.set_cons_zero, List.set_cons_succ]
  refine wpAnyH_take (i := 29) (oi := { dst := some 109, op := Op.load 31 (Operand.tmp 5), type := 31, pos := "law.go:145", after := #[{ on := 22, ground := Ground.guard }], guard := some (22, false) }) (v := .agg (tkA t)) rfl (by kernel_rfl) (by kernel_rfl) (by kernel_rfl) (fun _ _ _ h => h) (yields_tk (by rfl) _ rfl (w.heap.size + 1) rfl t HMT.out (fun _ h => h.l.y)) hHeld ?_
  try simp only [Act.put, List.setIfInBounds_toArray, List.set_cons_zero, List.set_cons_succ]
  refine wpAnyH_take (i := 30) (oi := { dst := some 110, op := Op.binOp BinOp.eql 31 (Operand.tmp 108) (Operand.tmp 109) 31, type := 4, pos := "law.go:145", after := #[{ on := 28, ground := Ground.data }, { on := 29, ground := Ground.data }, { on := 22, ground := Ground.guard }], guard := some (22, false) }) (v := ?_) rfl (by kernel_rfl) (by kernel_rfl) (by kernel_rfl) (fun _ _ _ h => h) (Or.inl ⟨by rfl, ?_⟩) hHeld ?_
  rotate_left
  · intro w hSw; (try dsimp only at hSw); have heq := HTE.out; go_simp; first | done | with_reducible rfl
  try simp only [Act.put, List.setIfInBounds_toArray, List.set_cons_zero, List.set_cons_succ]
  refine wpAnyH_take (i := 31) (oi := { dst := some 111, op := Op.binOp BinOp.eql 4 (Operand.tmp 107) (Operand.tmp 110) 4, type := 4, pos := "law.go:145", after := #[{ on := 27, ground := Ground.data }, { on := 30, ground := Ground.data }, { on := 22, ground := Ground.guard }], guard := some (22, false) }) (v := ?_) rfl (by kernel_rfl) (by kernel_rfl) (by kernel_rfl) (fun _ _ _ h => h) (Or.inl ⟨by rfl, ?_⟩) hHeld ?_
  rotate_left
  · intro w hSw; (try dsimp only at hSw); go_simp; first | done | with_reducible rfl
  try simp only [Act.put, List.setIfInBounds_toArray, List.set_cons_zero, List.set_cons_succ]
  refine wpAnyH_take (i := 32) (oi := { dst := some 112, op := Op.pick (Operand.tmp 102) (Operand.const (Value.bool true)) (Operand.tmp 111), type := 4, pos := "law.go:145", after := #[{ on := 22, ground := Ground.data }, { on := 31, ground := Ground.data }, { on := 19, ground := Ground.guard }], guard := some (19, true) }) (v := ?_) rfl (by kernel_rfl) (by kernel_rfl) (by kernel_rfl) (fun _ _ _ h => h) (Or.inl ⟨by rfl, ?_⟩) hHeld ?_
  rotate_left
  · intro w hSw; (try dsimp only at hSw); go_simp; first | done | with_reducible rfl
  try simp only [Act.put, List.setIfInBounds_toArray, List.set_cons_zero, List.set_cons_succ]
  refine wpAnyH_take (i := 33) (oi := { dst := some 113, op := Op.pick (Operand.tmp 99) (Operand.tmp 112) (Operand.const (Value.bool false)), type := 4, pos := "law.go:145", after := #[{ on := 19, ground := Ground.data }, { on := 32, ground := Ground.data }], guard := none }) (v := ?_) rfl (by kernel_rfl) (by kernel_rfl) (by kernel_rfl) (fun _ _ _ h => h) (Or.inl ⟨by rfl, ?_⟩) hHeld ?_
  rotate_left
  · intro w hSw; (try dsimp only at hSw); go_simp; first | done | with_reducible rfl
  try simp only [Act.put, List.setIfInBounds_toArray, List.set_cons_zero, List.set_cons_succ]
  refine wpAnyH_take (i := 34) (oi := { dst := some 114, op := Op.move (Operand.tmp 113), type := 4, pos := "law.go:145", after := #[{ on := 33, ground := Ground.data }, { on := 22, ground := Ground.chain }], guard := none }) (v := ?_) rfl (by kernel_rfl) (by kernel_rfl) (by kernel_rfl) (fun _ _ _ h => h) (Or.inl ⟨by rfl, ?_⟩) hHeld ?_
  rotate_left
  · intro w hSw; (try dsimp only at hSw); go_simp; first | done | with_reducible rfl
  try simp only [Act.put, List.setIfInBounds_toArray, List.set_cons_zero, List.set_cons_succ]
  refine wpAnyH_ready (rs := [35]) (by kernel_rfl) (by simp) ?_
  refine AllReadyH.cons (o := { dst := some 115, op := Op.call { callee := Callee.value (Operand.func 12), args := #[], argTypes := #[] }, type := 4, pos := "law.go:145", after := #[{ on := 34, ground := Ground.chain }, { on := 34, ground := Ground.guard }], guard := some (34, true) }) rfl (fun K hK => ?_) AllReadyH.nil
  clear hHeld
  go_simp
  refine (HAW.out _ HK13.out.l.b).mono ?_
  rintro e w14 ⟨rfl, hB⟩
  have HK14 := hide (HK13.out.next hB)
  clear hB HK13
  refine hK.out _ _ (HK14.out) (fun hHeld => ?_)
  clear hK K
  try simp only [Act.put, List.setIfInBounds_toArray, List.set_cons_zero, List.set_cons_succ]
  refine wpAnyH_take (i := 36) (oi := { dst := some 116, op := Op.pick (Operand.tmp 114) (Operand.tmp 115) (Operand.const (Value.bool false)), type := 4, pos := "law.go:145", after := #[{ on := 34, ground := Ground.data }, { on := 35, ground := Ground.data }], guard := none }) (v := ?_) rfl (by kernel_rfl) (by kernel_rfl) (by kernel_rfl) (fun _ _ _ h => h) (Or.inl ⟨by rfl, ?_⟩) hHeld ?_
  rotate_left
  · intro w hSw; (try dsimp only at hSw); go_simp; first | done | with_reducible rfl
  try simp only [Act.put, List.setIfInBounds_toArray, List.set_cons_zero, List.set_cons_succ]
  refine wpAnyH_take (i := 37) (oi := { dst := some 8, op := Op.assign (Operand.tmp 116), type := 4, pos := "law.go:145", after := #[{ on := 36, ground := Ground.data }, { on := 35, ground := Ground.chain }, { on := 0, ground := Ground.phase }, { on := 1, ground := Ground.phase }, { on := 2, ground := Ground.phase }, { on := 3, ground := Ground.phase }, { on := 4, ground := Ground.phase }, { on := 5, ground := Ground.phase }, { on := 6, ground := Ground.phase }, { on := 7, ground := Ground.phase }, { on := 8, ground := Ground.phase }, { on := 9, ground := Ground.phase }, { on := 10, ground := Ground.phase }, { on := 11, ground := Ground.phase }, { on := 12, ground := Ground.phase }, { on := 13, ground := Ground.phase }, { on := 14, ground := Ground.phase }, { on := 15, ground := Ground.phase }, { on := 16, ground := Ground.phase }, { on := 17, ground := Ground.phase }, { on := 18, ground := Ground.phase }, { on := 19, ground := Ground.phase }, { on := 20, ground := Ground.phase }, { on := 21, ground := Ground.phase }, { on := 22, ground := Ground.phase }, { on := 23, ground := Ground.phase }, { on := 24, ground := Ground.phase }, { on := 25, ground := Ground.phase }, { on := 26, ground := Ground.phase }, { on := 27, ground := Ground.phase }, { on := 28, ground := Ground.phase }, { on := 29, ground := Ground.phase }, { on := 30, ground := Ground.phase }, { on := 31, ground := Ground.phase }, { on := 32, ground := Ground.phase }, { on := 33, ground := Ground.phase }, { on := 34, ground := Ground.phase }, { on := 35, ground := Ground.phase }, { on := 36, ground := Ground.phase }], guard := none }) (v := ?_) rfl (by kernel_rfl) (by kernel_rfl) (by kernel_rfl) (fun _ _ _ h => h) (Or.inl ⟨by rfl, ?_⟩) hHeld ?_
  rotate_left
  · intro w hSw; (try dsimp only at hSw); go_simp; first | done | with_reducible rfl
  try simp only [Act.put, List.setIfInBounds_toArray, List.set_cons_zero, List.set_cons_succ]
  refine wpAnyH_done (by kernel_rfl) ?_ _
  clear hHeld
  go_wp2_with fail
  go_ret
  exact ⟨rfl, HK14.out.l.b⟩
end Go.Proofs.YtaomigfmjglggaaDoor
