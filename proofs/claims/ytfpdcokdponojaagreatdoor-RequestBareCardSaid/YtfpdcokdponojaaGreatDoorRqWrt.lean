/- A message's bytes: Write. -/
import Derived.Test.YtfpdcokdponojaaGreatDoorRqChunk
import Derived.Test.YtfpdcokdponojaaGreatDoorRqFrame
namespace Go.Proofs.YtfpdcokdponojaaGreatDoor
open Go.RowKit Go.Lib

theorem wrtB_sta (x : Rw) : wrtB x = (staB x.start && fitP x.heads x.body) := rfl
theorem fit_may {h : List Hd} {body : List UInt8} (hf : fitP h body = true) : mayH h = true ∧ body.length ≤ 1024 ∧ (framP h).1 = 0 := by
  unfold fitP at hf
  simp only [Bool.and_eq_true, decide_eq_true_eq] at hf
  exact ⟨hf.1.1.2, hf.1.2, hf.1.1.1⟩
theorem bodS_of {f : Bd} {body : List UInt8} : bodS f body = if f.chunked = 1 then chkS body else body := rfl
/-- A line more. -/
theorem lins_next {l : List Hd} {k : Nat} (hk : k < l.length) : linsH (l.take (k + 1)) = linsH (l.take k) ++ (linH (l.getD k KH.dft) ++ [13, 10]) := by
  rw [List.take_succ_eq_append_getElem hk, linsH, List.flatMap_append]
  simp [linsH, List.getD, hk]
theorem lins_len {l : List Hd} (h : ∀ x ∈ l, (linH x).length ≤ 578) : (linsH l).length ≤ l.length * 580 := by
  induction l with
  | nil => exact Nat.zero_le _
  | cons a l ih =>
    have h1 := ih fun x hx => h x (List.mem_cons_of_mem _ hx)
    have h2 := h a (List.mem_cons_self ..)
    rw [show linsH (a :: l) = linH a ++ [13, 10] ++ linsH l from rfl, List.length_append, List.length_append, List.length_cons]
    simp only [List.length_cons, List.length_nil]
    omega
theorem line_bytes (h : Hd) : (lineP h).data.toList = linH h := by
  unfold lineP linH
  simp
def WrPost (w : World) (x : Rw) (e : Ending) (w' : World) : Prop := (if wrtB x = true then ∃ r : Sl, e = .returned (.tuple #[r.v, .int .i64 0]) ∧ BRow w' w.heap.size r.v (wrtP x) else e = .returned (.tuple #[.slice none 0 0, .int .i64 1])) ∧ Below w.heap.size w w'
set_option maxRecDepth 100000 in
set_option maxHeartbeats 2000000 in
theorem write_any (s : ByteArray) (ha : Option Addr) (hn hc : Nat) (ba : Option Addr) (bn bc : Nat) (x : Rw) (w : World) (hr : RawAt w ⟨s, ⟨ha, hn, hc⟩, ⟨ba, bn, bc⟩⟩ x) (hf : Fits x.heads) (hs0 : s.size ≤ 1000000) (hl : x.heads.length ≤ 1000) (hE : Env w) (hT : EnvT w) : Calls Tryz.prog 24 #[.agg #[.string s, .slice ha hn hc, .slice ba bn bc]] w (WrPost w x) := by
  obtain ⟨hs, gh, gb⟩ := hr
  simp only [Sl.v] at gh gb
  have b1 := (Below.refl w.heap.size w).alloc (Nat.le_refl _) (rawC s (.slice ha hn hc) (.slice ba bn bc))
  have q1 : QBox (w.alloc (rawC s (.slice ha hn hc) (.slice ba bn bc))) w.heap.size s (.slice ha hn hc) (.slice ba bn bc) := heap_alloc_new w _
  have LF := frame_any s ha hn hc ba bn bc x (w.alloc (rawC s (.slice ha hn hc) (.slice ba bn bc))) ⟨hs, gh.below b1, gb.below b1⟩ hf hl (hE.next b1)
  unfold FrPost at LF
  have LM := hideL (fun (W : World) => mayStart_any s hs0 W)
  rw [hs] at LM
  unfold WrPost
  rw [wrtB_sta]
  have c0 := q1.c0
  have c1 := q1.c1
  have c2 := q1.c2
  have HB1 := hideL b1
  have HQ1 := hideL q1
  obtain ⟨F, hF⟩ : ∃ b, fitP x.heads x.body = b := ⟨_, rfl⟩
  obtain ⟨S, hS⟩ : ∃ b, staB x.start = b := ⟨_, rfl⟩
  rw [hF] at LF ⊢
  rw [hS] at LM ⊢
  simp only [rawC] at c0 c1 c2
  clear b1 q1
  cases F with
  | false =>
    simp only [Bool.and_false, Bool.false_eq_true, ↓reduceIte]
    have LF := hideL LF
    clear hs gh gb hf hs0 hl hE hT hF hS LM
    go_enter Tryz.func24, Tryz.ntmps24
    go_wp2_with (go_at_call 48; refine LF.out.mono ?_; rintro e w3 ⟨⟨fa, fb, fc, rfl, _⟩, hB⟩; have hz2 := (Below.refl w3.heap.size w3).alloc (Nat.le_refl _) (bdO fa fb fc); have HB3 := hideL (HB1.out.trans ((hB.trans (hz2.mono hB.size)).mono HB1.out.size)); clear hB hz2)
    exact bodyPost_ret (v := .tuple #[.slice none 0 0, .int .i64 1]) (by simp [results, Tryz.results24, go_sem]) rfl ⟨rfl, HB3.out⟩
  | true =>
    cases S with
    | false =>
      simp only [Bool.false_and, Bool.false_eq_true, ↓reduceIte]
      have LF := hideL LF
      clear hs gh gb hf hs0 hl hE hT hF hS
      go_enter Tryz.func24, Tryz.ntmps24
      go_wp2_with (first
        | (go_at_call 48; refine LF.out.mono ?_; rintro e w3 ⟨⟨fa, fb, fc, rfl, _⟩, hB⟩; have hz2 := (Below.refl w3.heap.size w3).alloc (Nat.le_refl _) (bdO fa fb fc); have hz := hB.trans (hz2.mono hB.size); have HB3 := hideL (HB1.out.trans (hz.mono HB1.out.size)); have d0 := (HQ1.out.next hz).c0; clear hB hz2 hz)
        | (go_at_call 49; refine (LM.out _).mono ?_; rintro e w4 ⟨rfl, hB⟩; have HB4 := hideL (HB3.out.trans (hB.mono HB3.out.size)); clear hB))
      exact bodyPost_ret (v := .tuple #[.slice none 0 0, .int .i64 1]) (by simp [results, Tryz.results24, go_sem]) rfl ⟨rfl, HB4.out⟩
    | true =>
      simp only [Bool.true_and, ↓reduceIte]
      have LF := hideL LF
      obtain ⟨hmay, hbl, hfr0⟩ := fit_may hF
      have hgood := mayH_mem hmay
      have hlen := mayH_len hmay
      have hsl : 1 ≤ x.start.length ∧ x.start.length ≤ 578 := by
        unfold staB at hS
        simp only [Bool.and_eq_true, decide_eq_true_eq] at hS
        exact hS.1
      have hss : s.size ≤ 578 := by rw [← size_list, hs]; exact hsl.2
      have hT0 : s ++ (⟨#[13, 10]⟩ : ByteArray) = bo (x.start ++ (13 :: 10 :: linsH [])) := bytes_ext (by
        rw [ByteArray.data_append, Array.toList_append, bo_list, hs]
        rfl)
      have n1 : ¬ 9223372036854775807 < s.size + 2 := by omega
      have hcv := hT0
      have GH := hideL gh
      have GB := hideL gb
      have HT0 := hideL hT0
      have HGOOD := hideL hgood
      have HLEN := hideL hlen
      have HFIT := hideL hf
      have HSL := hideL hsl
      have HBL := hideL hbl
      have HTT := hideL hT
      have hhn := gh.le.1
      have HHN := hideL hhn
      clear hcv hs gh gb hf hs0 hl hE hT hF hS hmay hbl hfr0 hgood hlen hsl hss hT0 hhn
      go_enter Tryz.func24, Tryz.ntmps24
      go_wp2_with (first
        | (go_at_call 48; refine LF.out.mono ?_; rintro e w3 ⟨⟨fa, fb, fc, rfl, hfr⟩, hB⟩; have hz2 := (Below.refl w3.heap.size w3).alloc (Nat.le_refl _) (bdO fa fb fc); have hz := hB.trans (hz2.mono hB.size); have HB3 := hideL (HB1.out.trans (hz.mono HB1.out.size)); have HQ3 := hideL (HQ1.out.next hz); have HX3 := hideL (BBox.new w3 fa fb fc); have HFR := hideL (hfr rfl); have d0 := HQ3.out.c0; clear hB hz2 hz hfr)
        | (go_at_call 49; refine (LM.out _).mono ?_; rintro e w4 ⟨rfl, hB⟩; have HB4 := hideL (HB3.out.trans (hB.mono HB3.out.size)); have HQ4 := hideL (HQ3.out.next hB); have HX4 := hideL (HX3.out.next hB); have d0 := HQ4.out.c0; have d1 := HQ4.out.c1; clear hB))
      rw [HT0.out]
      go_loopw [6, 31] (fun t i wr => ∃ k : Nat, k ≤ hn ∧ i = .int .i64 k ∧ t = .string (bo (x.start ++ (13 :: 10 :: linsH (x.heads.take k)))) ∧ HidL (Below w4.heap.size w4 wr)) (fun _ i _ => hn - (RowKit.intOf i).toNat)
      case atStart => exact ⟨0, Nat.zero_le _, rfl, rfl, ⟨Below.refl _ _⟩⟩
      case round =>
        obtain ⟨k, hk, rfl, rfl, HBW⟩ := hrel
        obtain ⟨W, rfl⟩ : ∃ W, W = wr := ⟨_, rfl⟩
        have hll := hideL (fun j => lins_len (l := x.heads.take j) fun y hy => (linH_inl (HGOOD.out y (List.mem_of_mem_take hy))).2)
        obtain ⟨T, hT⟩ : ∃ T, x.start ++ (13 :: 10 :: linsH (x.heads.take k)) = T := ⟨_, rfl⟩
        have hTl : T.length ≤ 20000 := by
          have h1 := hll.out k
          have h2 := HSL.out.2
          have h3 := HLEN.out
          rw [← hT]
          simp only [List.length_append, List.length_cons, List.length_take] at h1 ⊢
          omega
        have hk24 : hn ≤ 24 := by rw [HHN.out]; exact HLEN.out
        have hTs : (bo T).size = T.length := bo_size T
        rw [hT]
        by_cases hlt : k < hn
        · have hlt' : (k : Int) < (hn : Int) := by omega
          obtain ⟨b1, o1, e1, l1, cc⟩ := GH.out.at (k := k) hlt
          subst e1
          have hkl : k < x.heads.length := by rw [← HHN.out]; exact hlt
          have hnext := lins_next hkl
          have hg := HGOOD.out (x.heads.getD k KH.dft) (by rw [show x.heads.getD k KH.dft = x.heads[k] by simp [List.getD, hkl]]; exact List.getElem_mem hkl)
          have hfit := HFIT.out.get hkl
          have hlin := (linH_inl hg).2
          generalize x.heads.getD k KH.dft = y at cc hg hfit hnext hlin
          obtain ⟨yn, yv⟩ := y
          have hbw : Below w.heap.size w W := HB4.out.trans (HBW.out.mono HB4.out.size)
          have d1' : W.cell? ⟨b1, o1 + k * 2, none⟩ = some (.string yn) := (hbw.cell (p := ⟨b1, o1 + k * 2, none⟩) l1).trans (cc 0 (by decide))
          have d2' : W.cell? ⟨b1, o1 + k * 2 + 1, none⟩ = some (.string yv) := (hbw.cell (p := ⟨b1, o1 + k * 2 + 1, none⟩) l1).trans (cc 1 (by decide))
          have LL : HidL (∀ W : World, Calls Tryz.prog 50 #[.agg #[.string yn, .string yv]] W (fun e w' => e = .returned (.tuple #[.string (lineP ⟨yn, yv⟩), .int .i64 0]) ∧ Below W.heap.size W w')) := ⟨fun W => by
            have h := line_any ⟨yn, yv⟩ hfit W
            unfold lineV at h
            rw [if_pos hg] at h
            exact h⟩
          have hbx := (Below.refl W.heap.size W).alloc (Nat.le_refl _) (.cells #[.string yn, .string yv] 90)
          have hx := HBox.new W yn yv
          have e0 := hx.c0
          have e1 := hx.c1
          have hls := size_list (lineP ⟨yn, yv⟩)
          have hlb := line_bytes ⟨yn, yv⟩
          rw [hlb] at hls
          have m1 : ¬ 9223372036854775807 < (lineP ⟨yn, yv⟩).size + 2 := by omega
          have m2 : ¬ 9223372036854775807 < (bo T).size + ((lineP ⟨yn, yv⟩).size + 2) := by omega
          have HNX : HidL (bo T ++ (lineP ⟨yn, yv⟩ ++ (⟨#[13, 10]⟩ : ByteArray)) = bo (x.start ++ (13 :: 10 :: linsH (x.heads.take (k + 1))))) := ⟨bytes_ext (by
            rw [ByteArray.data_append, Array.toList_append, ByteArray.data_append, Array.toList_append, bo_list, bo_list, hlb, hnext, ← hT]
            simp)⟩
          have HBX := hideL (HBW.out.trans (hbx.mono HBW.out.size))
          clear cc l1 hkl hnext hg hfit hlin hbw hbx hx hls hlb hTl hTs hll hT
          go_wp2_with (go_at_call 50; refine (LL.out _).mono ?_; rintro e w6 ⟨rfl, hB⟩; have HB6 := hideL (HBX.out.trans (hB.mono HBX.out.size)); clear hB)
          go_roundw
          case rel => exact ⟨k + 1, by omega, by go_num, by rw [HNX.out], HB6⟩
          case measure => simp [RowKit.intOf]; omega
        · obtain rfl : k = hn := by omega
          have hlt' : ¬ (k : Int) < (k : Int) := by omega
          have hTall : T = x.start ++ (13 :: 10 :: linsH x.heads) := by
            rw [← hT, List.take_of_length_le (by rw [← HHN.out]; exact Nat.le_refl _)]
          obtain ⟨c, W1, hcv, hmk, hb1⟩ := conv_bytes W (bo T) (by rw [hTs]; omega)
          have hz1 := hb1.size
          have hTl2 : (bo T).data.toList.length = T.length := by rw [bo_list]
          obtain ⟨v1, w5, hap, hr5, hb5⟩ := bpush_str W1 W.heap.size _ _ (.inr ⟨W.heap.size, c, rfl, Nat.le_refl _, hmk⟩) ⟨#[13, 10]⟩ (by rw [hTl2, show (⟨#[13, 10]⟩ : ByteArray).size = 2 from rfl]; omega) hz1
          rw [bo_list] at hr5
          obtain ⟨r1, hr1⟩ := hr5.slv
          subst hr1
          have hz5 := hb5.size
          have hbW : Below w.heap.size w W := HB4.out.trans (HBW.out.mono HB4.out.size)
          have hb15 : Below W.heap.size W w5 := hb1.trans hb5
          have hx5 := (HX4.out.next HBW.out).next hb15
          have hq5 := (HQ4.out.next HBW.out).next hb15
          have x0 := hx5.c0
          have y2 := hq5.c2
          have gb5 := (GB.out.below hbW).below hb15
          have hB5 : Below w.heap.size w w5 := hbW.trans (hb15.mono hbW.size)
          have HAP := hideL hap
          have hTTl : (T ++ [13, 10]).length ≤ 200000 := by rw [List.length_append]; simp; omega
          have hfin : ∀ y, y = bodS (framP x.heads).2 x.body → T ++ [13, 10] ++ y = wrtP x := fun y hy => by
            rw [hTall, hy, wrtP]
            simp
          rw [HFR.out] at hfin
          unfold bodS at hfin
          simp only at hfin
          by_cases h1 : fa = 1
          · have i1 : ((fa : Int) == 1) = true := by rw [h1]; rfl
            rw [if_pos h1] at hfin
            have LC := hideL (appendChunks_any W.heap.size r1.v (T ++ [13, 10]) ba bn bc x.body w5 hr5 gb5 w GB.out hbW.size (by omega) hTTl HBL.out (HTT.out.next hB5))
            have HFIN := hideL (hfin _ rfl)
            have HB5 := hideL hB5
            have HBW5 := hideL hbW.size
            have HZ5 := hideL (show W.heap.size ≤ w5.heap.size by omega)
            clear hTall hmk hb1 hz1 hTl2 hr5 hb5 hz5 hbW hb15 hx5 hq5 gb5 hB5 hap hTTl hfin h1 hTl hTs hll hT
            go_wp2_with (first
              | (at_builtin; refine wpList_append_runP rfl (.tmp 46) (.const (.string ⟨#[13, 10]⟩)) 22 9 22 rfl rfl _ _ r1.v w5 rfl rfl HAP.out ?_)
              | (go_at_call 51; refine LC.out.mono ?_; rintro e w7 ⟨r7, rfl, hr7, hb7⟩))
            rw [show T ++ [13, 10] ++ chkS x.body = wrtP x from HFIN.out] at hr7
            exact bodyPost_ret (v := .tuple #[r7.v, .int .i64 0]) (by simp [results, Tryz.results24, go_sem]) rfl ⟨⟨r7, rfl, hr7.base HBW5.out⟩, HB5.out.trans (hb7.mono HBW5.out)⟩
          · have i1 : ((fa : Int) == 1) = false := by rw [beq_eq_false_iff_ne]; omega
            rw [if_neg h1] at hfin
            obtain ⟨v6, w6, hap6, hr6, hb6⟩ := bpush w5 W.heap.size r1.v _ hr5 (.slice ba bn bc) x.body gb5 (by have := HBL.out; have h : (T ++ (⟨#[13, 10]⟩ : ByteArray).data.toList).length ≤ 200000 := hTTl; omega) (by omega)
            rw [hfin _ rfl] at hr6
            obtain ⟨r6, hr6'⟩ := hr6.slv
            subst hr6'
            have HAP6 := hideL hap6
            have HR6 := hideL (hr6.base hbW.size)
            have HB6 := hideL (hB5.trans (hb6.mono hbW.size))
            clear hTall hmk hb1 hz1 hTl2 hr5 hb5 hz5 hbW hb15 hx5 hq5 gb5 hB5 hap hTTl hfin h1 hTl hTs hll hT hap6 hr6 hb6
            go_wp2_with (first
              | (at_builtin; refine wpList_append_runP rfl (.tmp 46) (.const (.string ⟨#[13, 10]⟩)) 22 9 22 rfl rfl _ _ r1.v w5 rfl rfl HAP.out ?_)
              | (at_builtin; refine wpList_append_runP rfl (.tmp 55) (.tmp 57) 22 22 22 rfl rfl _ _ r6.v w6 rfl rfl HAP6.out ?_))
            exact bodyPost_ret (v := .tuple #[r6.v, .int .i64 0]) (by simp [results, Tryz.results24, go_sem]) rfl ⟨⟨r6, rfl, HR6.out⟩, HB6.out⟩
end Go.Proofs.YtfpdcokdponojaaGreatDoor
