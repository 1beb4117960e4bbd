/- The document's Write. -/
import Derived.Test.YtafmgoekgijfgaaGreatDoorARqM2
import Derived.Test.YtafmgoekgijfgaaGreatDoorARqRFit
import Derived.Test.YtafmgoekgijfgaaGreatDoorARqOwn
import Derived.Test.YtafmgoekgijfgaaGreatDoorARqBrow
import Derived.Test.YtafmgoekgijfgaaGreatDoorARqFeed
import Derived.Test.YtafmgoekgijfgaaGreatDoorARqM1
namespace Go.Proofs.YtafmgoekgijfgaaGreatDoor
open Go.RowKit Go.Lib

theorem hexS_step {n : Nat} (h : 16 ≤ n) (h2 : n < 4096) : hexS n = hexS (n / 16) ++ [dgX (n % 16)] := by
 unfold hexS
 rw [if_neg (by omega)]
 by_cases h3 : n < 256
 · rw [if_pos h3, if_pos (by omega)]
   rfl
 · rw [if_neg h3, if_neg (by omega), if_pos (by omega), Nat.div_div_eq_div_mul]
   rfl
theorem hexS_one {n : Nat} (h : n < 16) : hexS n = [dgX (n % 16)] := by unfold hexS; rw [if_pos h, Nat.mod_eq_of_lt h]
theorem andR15 : ∀ n : Nat, n < 1025 → bits .and .i64 (n : Int) 15 = ((n % 16 : Nat) : Int) := by decide +kernel
theorem hex_cut : ∀ d : Nat, d < 16 → (⟨#[48, 49, 50, 51, 52, 53, 54, 55, 56, 57, 97, 98, 99, 100, 101, 102]⟩ : ByteArray).extract d (d + 1) = bo [dgX d] := by decide +kernel
theorem framP_chk (l : List Hd) : (framP l).2.chunked = 0 ∨ (framP l).2.chunked = 1 := by
 unfold framP frmP
 split
 · exact .inl rfl
 split
 · split
   · exact .inr rfl
   · exact .inl rfl
 split
 · unfold lenP
   split
   · exact .inl rfl
   split
   · exact .inl rfl
   · exact .inl rfl
 · exact .inl rfl
theorem linsR_next {l : List Hd} {k : Nat} (hk : k < l.length) : linsH (l.take (k + 1)) = linsH (l.take k) ++ (linH (l.getD k KH.dft) ++ [13, 10]) := by
 rw [List.take_succ_eq_append_getElem hk, linsH, List.flatMap_append]
 simp [linsH, List.getD, hk]
theorem linsR_len {l : List Hd} (h : ∀ x ∈ l, (linH x).length ≤ 578) : (linsH l).length ≤ l.length * 580 := by
 induction l with
 | nil => exact Nat.zero_le _
 | cons a l ih =>
   have h1 := ih fun x hx => h x (List.mem_cons_of_mem _ hx)
   have h2 := h a (List.mem_cons_self ..)
   rw [show linsH (a :: l) = linH a ++ [13, 10] ++ linsH l from rfl, List.length_append, List.length_append, List.length_cons]
   simp only [List.length_cons, List.length_nil]
   omega
/-- What it answers. -/
def RWrPost (w : World) (x : Rw) (e : Ending) (w' : World) : Prop := (if wrtB x = true then ∃ (a : Option Addr) (n c : Nat), e = .returned (.tuple #[.slice a n c, .bool true]) ∧ GAt KB w' (.slice a n c) (wrtP x) else e = .returned (.tuple #[.slice none 0 0, .bool false])) ∧ Below w.heap.size w w'
theorem RWrPost.no {w w' : World} {x : Rw} (h : wrtB x = false) (hB : Below w.heap.size w w') : RWrPost w x (.returned (.tuple #[.slice none 0 0, .bool false])) w' := by
 unfold RWrPost
 rw [h]
 exact ⟨rfl, hB⟩
theorem RWrPost.yes {w w' : World} {x : Rw} {a : Option Addr} {n c : Nat} (h : wrtB x = true) (hr : GAt KB w' (.slice a n c) (wrtP x)) (hB : Below w.heap.size w w') : RWrPost w x (.returned (.tuple #[.slice a n c, .bool true])) w' := by
 unfold RWrPost
 rw [h]
 exact ⟨⟨a, n, c, rfl, hr⟩, hB⟩
theorem wrtB_len {x : Rw} (h : x.start.length < 1 ∨ 578 < x.start.length) : wrtB x = false := by
 unfold wrtB
 rw [decide_eq_false (by omega), Bool.false_and, Bool.false_and]
theorem wrtB_fit {x : Rw} (h : fitP x.heads x.body = false) : wrtB x = false := by
 unfold wrtB
 rw [h, Bool.and_false]
theorem wrtB_bad {x : Rw} {c : UInt8} (hc : c ∈ x.start) (h : priB c = false) : wrtB x = false := by
 have : x.start.all priB = false := by
   cases ha : x.start.all priB with
   | false => rfl
   | true => rw [List.all_eq_true.1 ha c hc] at h; cases h
 unfold wrtB
 rw [this, Bool.and_false, Bool.false_and]
theorem wrtB_yes {x : Rw} (h1 : 1 ≤ x.start.length) (h2 : x.start.length ≤ 578) (ha : ∀ c ∈ x.start, priB c = true) (hf : fitP x.heads x.body = true) : wrtB x = true := by
 unfold wrtB
 rw [decide_eq_true ⟨h1, h2⟩, List.all_eq_true.2 ha, hf]
 rfl
theorem priB_of {c : UInt8} (h1 : ¬ c.toNat < 32) (h2 : ¬ 126 < c.toNat) : priB c = true := decide_eq_true (by omega)
theorem priB_not {c : UInt8} (h : c.toNat < 32 ∨ 126 < c.toNat) : priB c = false := decide_eq_false (by omega)
theorem bo_app (a b : List UInt8) : bo a ++ bo b = bo (a ++ b) := bytes_ext (by rw [ByteArray.data_append, Array.toList_append, bo_list, bo_list, bo_list])
theorem ap_bo (s : ByteArray) (b : List UInt8) : s ++ bo b = bo (s.data.toList ++ b) := by
 conv => lhs; rw [← bo_of s]
 exact bo_app _ _
theorem take_nextR {L : List UInt8} {k : Nat} {P : UInt8 → Prop} (hk : k < L.length) (h : ∀ c ∈ L.take k, P c) (hc : P L[k]) : ∀ c ∈ L.take (k + 1), P c := by
 intro c hm
 rw [List.take_succ_eq_append_getElem hk] at hm
 rcases List.mem_append.1 hm with h' | h'
 · exact h c h'
 · rw [List.mem_singleton.1 h']; exact hc
set_option maxRecDepth 100000 in
set_option maxHeartbeats 8000000 in
theorem rwrite_any (s : ByteArray) (ha : Option Addr) (hn hc : Nat) (ba : Option Addr) (bn bc : Nat) (x : Rw) (w0 : World) (hr : RawAt w0 ⟨s, ⟨ha, hn, hc⟩, ⟨ba, bn, bc⟩⟩ x) (hf : Fits x.heads) (hs0 : s.size ≤ 900000) (hl : x.heads.length ≤ 1000) :
   Calls Tryz.prog 16 #[.agg #[.string s, .slice ha hn hc, .slice ba bn bc]] w0 (RWrPost w0 x) := by
 obtain ⟨hst, gh, gb⟩ := hr
 simp only [Sl.v] at hst gh gb
 have hq : QBox (w0.alloc (rawC s (.slice ha hn hc) (.slice ba bn bc))) w0.heap.size s (.slice ha hn hc) (.slice ba bn bc) := heap_alloc_new w0 _
 have HQ1 := hideL hq
 have HB1 := hideL ((Below.refl w0.heap.size w0).alloc (Nat.le_refl _) (rawC s (.slice ha hn hc) (.slice ba bn bc)))
 have LF := fun (W : World) (hb : Below w0.heap.size w0 W) => fits_any ha hn hc ba bn bc x.heads x.body W (gh.below hb) gb.le.1.symm hf hl
 have LFR := fun (W : World) (hb : Below w0.heap.size w0 W) => framingR_any (.slice ha hn hc) x.heads W (gh.below hb) hf hl
 have HZ := hideL (size_list s)
 have hsl : x.start.length = s.size := by rw [← hst, size_list]
 have hhn := gh.le.1
 have hbn := gb.le.1
 have c0 := HQ1.out.c0
 have c1 := HQ1.out.c1
 have c2 := HQ1.out.c2
 by_cases h1 : s.size < 1
 · have i1 : (s.size : Int) < 1 := by omega
   have HNO := hideL (wrtB_len (x := x) (.inl (by omega)))
   clear hq hst gh gb LF LFR hf hs0 hl hsl hhn hbn h1
   go_enter Tryz.func16, Tryz.ntmps16
   go_wp2_with fail
   exact bodyPost_ret (v := .tuple #[.slice none 0 0, .bool false]) (by simp [results, Tryz.results16, go_sem]) rfl (RWrPost.no HNO.out HB1.out)
 have i1 : ¬ (s.size : Int) < 1 := by omega
 have i1d : decide ((s.size : Int) < 1) = false := decide_eq_false i1
 by_cases h2 : 578 < s.size
 · have i2 : (578 : Int) < (s.size : Int) := by omega
   have HNO := hideL (wrtB_len (x := x) (.inr (by omega)))
   clear hq hst gh gb LF LFR hf hs0 hl hsl hhn hbn h1 h2
   go_enter Tryz.func16, Tryz.ntmps16
   go_wp2_with fail
   exact bodyPost_ret (v := .tuple #[.slice none 0 0, .bool false]) (by simp [results, Tryz.results16, go_sem]) rfl (RWrPost.no HNO.out HB1.out)
 have i2 : ¬ (578 : Int) < (s.size : Int) := by omega
 have i2d : decide ((578 : Int) < (s.size : Int)) = false := decide_eq_false i2
 obtain ⟨FB, hFB⟩ : ∃ b, fitP x.heads x.body = b := ⟨_, rfl⟩
 rw [hFB] at LF
 cases FB with
 | false =>
   have LF := hideL LF
   have HNO := hideL (wrtB_fit hFB)
   clear hq hst gh gb LFR hf hs0 hl hsl hhn hbn h1 h2 hFB
   go_enter Tryz.func16, Tryz.ntmps16
   go_wp2_with (go_at_call 55; (with_reducible refine (LF.out _ HB1.out).mono ?_); rintro e w2 ⟨rfl, hB⟩; have HB2 := hideL (HB1.out.trans (hB.mono HB1.out.size)); clear hB)
   exact bodyPost_ret (v := .tuple #[.slice none 0 0, .bool false]) (by simp [results, Tryz.results16, go_sem]) rfl (RWrPost.no HNO.out HB2.out)
 | true =>
   have LF := hideL LF
   have hft := hFB
   unfold fitP at hft
   simp only [Bool.and_eq_true, decide_eq_true_eq] at hft
   have hmay := hft.1.1.2
   have hbl := hft.1.2
   have hgood := mayH_mem hmay
   have hlen := mayH_len hmay
   obtain ⟨⟨fe, ⟨fa, fb, fc⟩⟩, hfr⟩ : ∃ r, framP x.heads = r := ⟨_, rfl⟩
   have hchk := framP_chk x.heads
   rw [hfr] at LFR hchk
   simp only [frA, bdV] at LFR
   simp only at hchk
   have LFR := hideL LFR
   have HFB := hideL hFB
   have GH := hideL gh
   have GB := hideL gb
   have HST := hideL hst
   have HGOOD := hideL hgood
   have HLEN := hideL hlen
   have HFIT := hideL hf
   have HSL := hideL (show 1 ≤ x.start.length ∧ x.start.length ≤ 578 by omega)
   have HBL := hideL hbl
   have HHN := hideL hhn
   have HBN := hideL hbn
   have HFR := hideL hfr
   have HSS := hideL hsl
   clear hq hst gh gb hf hs0 hl hsl hhn hbn hft hmay hbl hgood hlen hfr hFB h1 h2
   go_enter Tryz.func16, Tryz.ntmps16
   go_wp2_with (go_at_call 55; (with_reducible refine (LF.out _ HB1.out).mono ?_); rintro e w2 ⟨rfl, hB⟩; have HB2 := hideL (HB1.out.trans (hB.mono HB1.out.size)); have HQ2 := hideL (HQ1.out.next hB); clear hB)
   have c0 := HQ2.out.c0
   go_loopw [4] (fun i wr => ∃ k : Nat, i = .int .i64 k ∧ k ≤ s.size ∧ w2 = wr ∧ HidL (∀ c ∈ x.start.take k, priB c = true)) (fun i _ => s.size - (RowKit.intOf i).toNat)
   case atStart => exact ⟨0, rfl, Nat.zero_le _, rfl, ⟨fun c hc => by rw [List.take_zero] at hc; cases hc⟩⟩
   case round =>
     obtain ⟨k, rfl, hk, hwr, HI⟩ := hrel
     subst hwr
     by_cases hlt : k < s.size
     · have hlt' : (k : Int) < (s.size : Int) := by omega
       have hkl : k < x.start.length := by rw [HSS.out]; exact hlt
       have hget : x.start[k] = s[k] := by
         have h9 : s.data.toList[k]'(by rw [HZ.out]; exact hlt) = s[k] := rfl
         have e9 := HST.out
         rw [← h9]
         simp only [e9]
       have hmem : s[k] ∈ x.start := by rw [← hget]; exact List.getElem_mem hkl
       by_cases h32 : s[k].toNat < 32
       · have i32 : (s[k].toNat : Int) < 32 := by omega
         have HNO := hideL (wrtB_bad hmem (priB_not (.inl h32)))
         clear hget hmem h32 HI
         go_wp2_with fail
         exact bodyPost_ret (v := .tuple #[.slice none 0 0, .bool false]) (by simp [results, Tryz.results16, go_sem]) rfl (RWrPost.no HNO.out HB2.out)
       have i32 : ¬ (s[k].toNat : Int) < 32 := by omega
       have i32d : decide ((s[k].toNat : Int) < 32) = false := decide_eq_false i32
       by_cases h126 : 126 < s[k].toNat
       · have i126 : (126 : Int) < (s[k].toNat : Int) := by omega
         have HNO := hideL (wrtB_bad hmem (priB_not (.inr h126)))
         clear hget hmem h32 h126 HI
         go_wp2_with fail
         exact bodyPost_ret (v := .tuple #[.slice none 0 0, .bool false]) (by simp [results, Tryz.results16, go_sem]) rfl (RWrPost.no HNO.out HB2.out)
       have i126 : ¬ (126 : Int) < (s[k].toNat : Int) := by omega
       have i126d : decide ((126 : Int) < (s[k].toNat : Int)) = false := decide_eq_false i126
       have HI2 := hideL (take_nextR (P := fun c => priB c = true) hkl HI.out (by rw [hget]; exact priB_of h32 h126))
       clear hget hmem h32 h126 HI
       go_wp2_with fail
       go_roundw
       case rel => exact ⟨k + 1, by go_num, by omega, trivial, HI2⟩
       case measure => simp [RowKit.intOf]; omega
     · obtain rfl : k = s.size := by omega
       have hlt' : ¬ (s.size : Int) < (s.size : Int) := by omega
       have hI := HI.out
       rw [List.take_of_length_le (by rw [HSS.out]; exact Nat.le_refl _)] at hI
       have HYES := hideL (wrtB_yes HSL.out.1 HSL.out.2 hI HFB.out)
       have n1 : ¬ 9223372036854775807 < s.size + 2 := by have := HSL.out.2; have := HSS.out; omega
       have hT0 : s ++ (⟨#[13, 10]⟩ : ByteArray) = bo (x.start ++ (13 :: 10 :: linsH [])) := by
         rw [show (⟨#[13, 10]⟩ : ByteArray) = bo [13, 10] from rfl, ap_bo, HST.out]
         rfl
       have HT0 := hideL hT0
       have c1 := HQ2.out.c1
       clear HI hI hT0
       go_wp2_with fail
       rw [HT0.out]
       go_loopw [5, 6] (fun t i wr => ∃ k : Nat, k ≤ hn ∧ i = .int .i64 k ∧ t = .string (bo (x.start ++ (13 :: 10 :: linsH (x.heads.take k)))) ∧ HidL (Below w2.heap.size w2 wr)) (fun _ i _ => hn - (RowKit.intOf i).toNat)
       case atStart => exact ⟨0, Nat.zero_le _, rfl, rfl, ⟨Below.refl _ _⟩⟩
       case round =>
         obtain ⟨k, hk2, rfl, rfl, HBW⟩ := hrel
         obtain ⟨W, rfl⟩ : ∃ W, W = wr := ⟨_, rfl⟩
         clear c0 c1
         have HQW := hideL (HQ2.out.next HBW.out)
         have c1 := HQW.out.c1
         have hll := (linsR_len (l := x.heads.take k) fun y hy => (linH_inl (HGOOD.out y (List.mem_of_mem_take hy))).2)
         obtain ⟨T, hT⟩ : ∃ T, x.start ++ (13 :: 10 :: linsH (x.heads.take k)) = T := ⟨_, rfl⟩
         have hTl : T.length ≤ 20000 := by
           have h2 := HSL.out.2
           have h3 := HLEN.out
           rw [← hT]
           simp only [List.length_append, List.length_cons, List.length_take] at hll ⊢
           omega
         rw [hT]
         by_cases hlt : k < hn
         · have hlt' : (k : Int) < (hn : Int) := by omega
           obtain ⟨b1, o1, e1, l1, cc⟩ := GH.out.at (k := k) hlt
           subst e1
           have hkl : k < x.heads.length := by rw [← HHN.out]; exact hlt
           have hnext := linsR_next hkl
           have hg := HGOOD.out (x.heads.getD k KH.dft) (by rw [show x.heads.getD k KH.dft = x.heads[k] by simp [List.getD, hkl]]; exact List.getElem_mem hkl)
           have hlin := (linH_inl hg).2
           generalize x.heads.getD k KH.dft = y at cc hg hnext hlin
           obtain ⟨yn, yv⟩ := y
           have hbw : Below w0.heap.size w0 W := HB2.out.trans (HBW.out.mono HB2.out.size)
           have D1 := hideL (show W.cell? ⟨b1, o1 + k * 2, none⟩ = some (.string yn) from (hbw.cell (p := ⟨b1, o1 + k * 2, none⟩) l1).trans (cc 0 (by decide)))
           have D2 := hideL (show W.cell? ⟨b1, o1 + k * 2 + 1, none⟩ = some (.string yv) from (hbw.cell (p := ⟨b1, o1 + k * 2 + 1, none⟩) l1).trans (cc 1 (by decide)))
           have HLB := hideL (show b1 < W.heap.size from Nat.lt_of_lt_of_le l1 hbw.size)
           have hys : yn.size + yv.size + 2 ≤ 578 := by
             unfold linH at hlin
             simp only [List.length_append, List.length_cons, size_list] at hlin
             omega
           have hbt : (bo T).size = T.length := bo_size T
           have m1 : ¬ 9223372036854775807 < (bo T).size + yn.size := by omega
           have m2 : ¬ 9223372036854775807 < (bo T).size + yn.size + 2 := by omega
           have m3 : ¬ 9223372036854775807 < (bo T).size + yn.size + 2 + yv.size := by omega
           have m4 : ¬ 9223372036854775807 < (bo T).size + yn.size + 2 + yv.size + 2 := by omega
           have HNX : HidL (bo T ++ yn ++ (⟨#[58, 32]⟩ : ByteArray) ++ yv ++ (⟨#[13, 10]⟩ : ByteArray) = bo (x.start ++ (13 :: 10 :: linsH (x.heads.take (k + 1))))) := ⟨bytes_ext (by
             rw [hnext, ← hT]
             simp only [ByteArray.data_append, Array.toList_append, bo_list]
             unfold linH
             simp)⟩
           have hwk : IntKind.i64.wrap ((k : Int) + 1) = (k : Int) + 1 := by rw [IntWalk.i64_in _ (by have := HLEN.out; have := HHN.out; omega)]
           have HLQ := hideL HQW.out.lt
           have C1 := hideL c1
           clear cc l1 hkl hnext hg hlin hbw hTl hll hT hys hbt
           go_wp2_with fail
           clear c1
           refine wp_region_held_drew (S := fun w' => Below W.heap.size W w') (by kernel_rfl) ((Below.refl _ _).drew) (fun hHeld => ?_)
           refine tl 0 rfl hHeld ?_
           try simp only [pA, pB, pC, pD]
           refine tl 1 rfl hHeld ?_
           try simp only [pA, pB, pC, pD]
           refine tm 2 (v := ?_) rfl hHeld ?_ ?_
           rotate_left
           · intro w hSw; (try dsimp only at hSw); have p1 := (hSw.cell (p := ⟨w0.heap.size, 1, none⟩) HLQ.out).trans C1.out; have e1 := (hSw.cell (p := ⟨b1, o1 + k * 2, none⟩) HLB.out).trans D1.out; have e2 := (hSw.cell (p := ⟨b1, o1 + k * 2 + 1, none⟩) HLB.out).trans D2.out; go_simp; first | done | with_reducible rfl
           try simp only [pA, pB, pC, pD]
           refine tl 3 rfl hHeld ?_
           try simp only [pA, pB, pC, pD]
           refine tl 4 rfl hHeld ?_
           try simp only [pA, pB, pC, pD]
           refine tl 5 rfl hHeld ?_
           try simp only [pA, pB, pC, pD]
           refine tm 6 (v := ?_) rfl hHeld ?_ ?_
           rotate_left
           · intro w hSw; (try dsimp only at hSw); have p1 := (hSw.cell (p := ⟨w0.heap.size, 1, none⟩) HLQ.out).trans C1.out; have e1 := (hSw.cell (p := ⟨b1, o1 + k * 2, none⟩) HLB.out).trans D1.out; have e2 := (hSw.cell (p := ⟨b1, o1 + k * 2 + 1, none⟩) HLB.out).trans D2.out; go_simp; first | done | with_reducible rfl
           try simp only [pA, pB, pC, pD]
           refine tl 7 rfl hHeld ?_
           try simp only [pA, pB, pC, pD]
           refine tl 8 rfl hHeld ?_
           try simp only [pA, pB, pC, pD]
           refine tl 9 rfl hHeld ?_
           try simp only [pA, pB, pC, pD]
           refine tm 10 (v := ?_) rfl hHeld ?_ ?_
           rotate_left
           · intro w hSw; (try dsimp only at hSw); have p1 := (hSw.cell (p := ⟨w0.heap.size, 1, none⟩) HLQ.out).trans C1.out; have e1 := (hSw.cell (p := ⟨b1, o1 + k * 2, none⟩) HLB.out).trans D1.out; have e2 := (hSw.cell (p := ⟨b1, o1 + k * 2 + 1, none⟩) HLB.out).trans D2.out; go_simp; first | done | with_reducible rfl
           try simp only [pA, pB, pC, pD]
           refine tl 11 rfl hHeld ?_
           try simp only [pA, pB, pC, pD]
           refine tl 12 rfl hHeld ?_
           try simp only [pA, pB, pC, pD]
           refine tl 13 rfl hHeld ?_
           try simp only [pA, pB, pC, pD]
           refine tm 14 (v := ?_) rfl hHeld ?_ ?_
           rotate_left
           · intro w hSw; (try dsimp only at hSw); have p1 := (hSw.cell (p := ⟨w0.heap.size, 1, none⟩) HLQ.out).trans C1.out; have e1 := (hSw.cell (p := ⟨b1, o1 + k * 2, none⟩) HLB.out).trans D1.out; have e2 := (hSw.cell (p := ⟨b1, o1 + k * 2 + 1, none⟩) HLB.out).trans D2.out; go_simp; first | done | with_reducible rfl
           try simp only [pA, pB, pC, pD]
           refine tl 15 rfl hHeld ?_
           try simp only [pA, pB, pC, pD]
           refine tl 16 rfl hHeld ?_
           try simp only [pA, pB, pC, pD]
           refine tl 17 rfl hHeld ?_
           try simp only [pA, pB, pC, pD]
           refine wpAnyH_done (by kernel_rfl) ?_ _
           clear hHeld
           have HBW2 := hideL (HBW.out.trans (((Below.refl W.heap.size W).drew).mono HBW.out.size))
           generalize W.drew = W3 at *
           go_wp2_with fail
           go_roundw
           case rel => exact ⟨k + 1, by omega, by go_num, by rw [HNX.out], HBW2⟩
           case measure => simp [RowKit.intOf]; omega
         · obtain rfl : k = hn := by omega
           have hlt' : ¬ (k : Int) < (k : Int) := by omega
           have hTall : T = x.start ++ (13 :: 10 :: linsH x.heads) := by rw [← hT, List.take_of_length_le (by rw [← HHN.out]; exact Nat.le_refl _)]
           have n2 : ¬ 9223372036854775807 < (bo T).size + 2 := by rw [bo_size]; omega
           obtain ⟨U, hU⟩ : ∃ U, T ++ [13, 10] = U := ⟨_, rfl⟩
           have HU0 := hideL (show bo T ++ (⟨#[13, 10]⟩ : ByteArray) = bo U by rw [← hU]; exact bo_app T [13, 10])
           have hUl : U.length ≤ 20002 := by rw [← hU]; simp; omega
           have hUw : ∀ y, y = bodS (framP x.heads).2 x.body → U ++ y = wrtP x := fun y hy => by
             rw [← hU, hTall, hy, wrtP]
             simp
           rw [HFR.out] at hUw
           unfold bodS at hUw
           simp only at hUw
           have HUL := hideL hUl
           have hBW : Below w0.heap.size w0 W := HB2.out.trans (HBW.out.mono HB2.out.size)
           have HBW0 := hideL hBW
           clear hTall hU hUl hTl hll hT hBW
           go_upto_region 15 with (first
             | (go_at_call 56; (with_reducible refine (LFR.out _ HBW0.out).mono ?_); rintro e w3 ⟨rfl, hB⟩
                have hz2 := (Below.refl w3.heap.size w3).alloc (Nat.le_refl _) (bdC fa fb fc)
                have hz3 := hB.trans (hz2.mono hB.size)
                have HX3 : HidL (BBox (w3.alloc (bdC fa fb fc)) w3.heap.size fa fb fc) := ⟨bdC_box w3 _ _ _⟩
                have HB3 := hideL (HBW0.out.trans (hz3.mono HBW0.out.size))
                have HQ3 := hideL (HQW.out.next hz3)
                clear hB hz2 hz3))
           rw [HU0.out]
           clear c1 n2
           generalize w3.alloc (bdC fa fb fc) = W3 at *
           have d0 := HX3.out.c0
           have d2 := HQ3.out.c2
           have GB3 := hideL (GB.out.below HB3.out)
           rcases hchk with h0 | h1
           · have i5 : ((fa : Int) == 0) = true := by rw [h0]; rfl
             rw [if_neg (by rw [h0]; decide)] at hUw
             have hcs := to_strA W3 ba bn bc x.body GB3.out
             have n3 : ¬ 9223372036854775807 < (bo U).size + (bo x.body).size := by rw [bo_size, bo_size]; have := HUL.out; have := HBL.out; omega
             have hsum : bo U ++ bo x.body = bo (wrtP x) := by rw [bo_app, hUw _ rfl]
             have hwl : (bo (wrtP x)).size ≤ 1000000 := by rw [← hUw _ rfl, bo_size, List.length_append]; have := HUL.out; have := HBL.out; omega
             obtain ⟨c9, W9, hcv, hmk, hb9⟩ := conv_bytes W3 (bo (wrtP x)) hwl
             rw [← hsum] at hcv
             have HR9 := hideL (by have h := hmk.gAt; rw [bo_list] at h; exact h)
             have HB9 := hideL (HB3.out.trans (hb9.mono HB3.out.size))
             have hn9 : (bo U ++ bo x.body).data.toList.length = (wrtP x).length := by rw [hsum, bo_list]
             rw [hn9] at hcv
             obtain ⟨nw, hnw⟩ : ∃ n, (wrtP x).length = n := ⟨_, rfl⟩
             rw [hnw] at hcv HR9
             clear h0 hUw hsum hwl hmk hb9 hn9 hnw
             go_wp2_with fail
             exact bodyPost_ret (v := .tuple #[.slice (some ⟨W3.heap.size, 0, none⟩) nw c9, .bool true]) (by simp [results, Tryz.results16, go_sem]) rfl (RWrPost.yes HYES.out HR9.out HB9.out)
           · have i5 : ((fa : Int) == 0) = false := by rw [h1]; rfl
             rw [if_pos h1] at hUw
             by_cases hb0 : x.body = []
             · have hbn0 : bn = 0 := by rw [HBN.out, hb0]; rfl
               rw [if_pos hb0] at hUw
               have hsum : bo U ++ (⟨#[48, 13, 10, 13, 10]⟩ : ByteArray) = bo (wrtP x) := by rw [← hUw _ rfl]; exact bo_app U [48, 13, 10, 13, 10]
               have n3 : ¬ 9223372036854775807 < (bo U).size + 5 := by rw [bo_size]; have := HUL.out; omega
               have hwl : (bo (wrtP x)).size ≤ 1000000 := by rw [← hsum, ByteArray.size_append, bo_size]; have := HUL.out; have : (⟨#[48, 13, 10, 13, 10]⟩ : ByteArray).size = 5 := rfl; omega
               obtain ⟨c9, W9, hcv, hmk, hb9⟩ := conv_bytes W3 (bo (wrtP x)) hwl
               rw [bo_list] at hcv
               rw [← hsum] at hcv
               have HR9 := hideL (by have h := hmk.gAt; rw [bo_list] at h; exact h)
               have HB9 := hideL (HB3.out.trans (hb9.mono HB3.out.size))
               obtain ⟨nw, hnw⟩ : ∃ n, (wrtP x).length = n := ⟨_, rfl⟩
               rw [hnw] at hcv HR9
               have i6 : ¬ (0 : Int) < (bn : Int) := by omega
               have i6d : decide ((0 : Int) < (bn : Int)) = false := decide_eq_false i6
               clear h1 hUw hsum hwl hmk hb9 hnw hb0 hbn0
               go_wp2_with fail
               exact bodyPost_ret (v := .tuple #[.slice (some ⟨W3.heap.size, 0, none⟩) nw c9, .bool true]) (by simp [results, Tryz.results16, go_sem]) rfl (RWrPost.yes HYES.out HR9.out HB9.out)
             · rw [if_neg hb0] at hUw
               have hbp : 0 < bn := by rw [HBN.out]; exact List.length_pos_iff.2 hb0
               have hbn4 : bn ≤ 1024 := by rw [HBN.out]; exact HBL.out
               have i6 : (0 : Int) < (bn : Int) := by omega
               rw [← HBN.out] at hUw
               have HUW := hideL (hUw _ rfl)
               have q1 := andR15 bn (by omega)
               obtain ⟨dd, hdd⟩ : ∃ d, bn % 16 = d := ⟨_, rfl⟩
               have hd16 : dd < 16 := by omega
               rw [hdd] at q1
               have q2 : IntKind.i64.wrap ((dd : Int) + 1) = (dd : Int) + 1 := by rw [IntWalk.i64_in _ (by omega)]
               have q3 : (0 : Int) ≤ (dd : Int) := by omega
               have q4 : (dd : Int) + 1 ≤ 16 := by omega
               have q5 : ((dd : Int) + 1).toNat = dd + 1 := by omega
               have q5b : ((dd : Int)).toNat = dd := by omega
               have q6 := hex_cut dd hd16
               have q7 : (dd : Int) ≤ (dd : Int) + 1 := by omega
               have HD := hideL hdd
               have q8 : (bn : Int) / 16 = ((bn / 16 : Nat) : Int) := by omega
               have H0 : HidL ((bn / 16 = 0 ∧ [dgX dd] = hexS bn) ∨ (0 < bn / 16 ∧ bn / 16 ≤ 64 ∧ hexS bn = hexS (bn / 16) ++ [dgX dd])) := ⟨by
                 by_cases h16 : bn < 16
                 · exact .inl ⟨by omega, by rw [hexS_one h16, hdd]⟩
                 · exact .inr ⟨by omega, by omega, by rw [hexS_step (by omega) (by omega), hdd]⟩⟩
               have HB4 := hideL hbn4
               obtain ⟨m0, hm0⟩ : ∃ m, bn / 16 = m := ⟨_, rfl⟩
               rw [hm0] at q8 H0
               clear h1 hUw hb0 hbp hbn4 hdd hd16 hm0
               go_wp2_with fail
               go_loopw [9, 10] (fun v t wr => ∃ (m : Nat) (X : List UInt8), v = .int .i64 m ∧ t = .string (bo X) ∧ W3 = wr ∧ m ≤ 64 ∧ X.length ≤ 10 ∧ HidL ((m = 0 ∧ X = hexS bn) ∨ (0 < m ∧ m ≤ 64 ∧ hexS bn = hexS m ++ X))) (fun v _ _ => (RowKit.intOf v).toNat)
               case atStart => exact ⟨m0, [dgX dd], rfl, rfl, rfl, by rcases H0.out with h | h <;> omega, by simp, H0⟩
               case round =>
                 obtain ⟨m, X, rfl, rfl, hwr, hm64, hXl, HX⟩ := hrel
                 subst hwr
                 clear H0 q1 q2 q3 q4 q5 q5b q6 q7 q8 i6
                 by_cases hm : 0 < m
                 · have hm' : (0 : Int) < (m : Int) := by omega
                   have hx := HX.out.resolve_left (fun h => by omega)
                   have q1 := andR15 m (by omega)
                   obtain ⟨de, hde⟩ : ∃ d, m % 16 = d := ⟨_, rfl⟩
                   have hd16 : de < 16 := by omega
                   rw [hde] at q1
                   have q2 : IntKind.i64.wrap ((de : Int) + 1) = (de : Int) + 1 := by rw [IntWalk.i64_in _ (by omega)]
                   have q3 : (0 : Int) ≤ (de : Int) := by omega
                   have q4 : (de : Int) + 1 ≤ 16 := by omega
                   have q5 : ((de : Int) + 1).toNat = de + 1 := by omega
                   have q5b : ((de : Int)).toNat = de := by omega
                   have q6 := hex_cut de hd16
                   have q7 : (de : Int) ≤ (de : Int) + 1 := by omega
                   have q8 : (m : Int) / 16 = ((m / 16 : Nat) : Int) := by omega
                   have n5 : ¬ 9223372036854775807 < (bo [dgX de]).size + (bo X).size := by rw [bo_size, bo_size]; simp; omega
                   have HXX := hideL (show bo [dgX de] ++ bo X = bo (dgX de :: X) from bo_app _ _)
                   have hXl2 : (dgX de :: X).length ≤ 10 := by
                     have h3 := (hexS_size (n := bn) HB4.out)
                     have h4 : (hexS bn).length ≤ 3 := by
                       unfold hexS
                       split
                       · simp
                       split
                       · simp
                       · simp
                     have h5 : 1 ≤ (hexS m).length := by
                       unfold hexS
                       split
                       · simp
                       split
                       · simp
                       · simp
                     rw [hx.2.2, List.length_append] at h4
                     simp only [List.length_cons]
                     omega
                   have H1 : HidL ((m / 16 = 0 ∧ dgX de :: X = hexS bn) ∨ (0 < m / 16 ∧ m / 16 ≤ 64 ∧ hexS bn = hexS (m / 16) ++ (dgX de :: X))) := ⟨by
                     by_cases h16 : m < 16
                     · exact .inl ⟨by omega, by rw [hx.2.2, hexS_one h16, hde]; rfl⟩
                     · exact .inr ⟨by omega, by omega, by rw [hx.2.2, hexS_step (by omega) (by omega), hde]; simp⟩⟩
                   obtain ⟨m2, hm2⟩ : ∃ z, m / 16 = z := ⟨_, rfl⟩
                   have hm3 : m2 < m := by omega
                   rw [hm2] at q8 H1
                   clear hx hde hd16 hm2
                   go_wp2_with fail
                   rw [HXX.out]
                   go_roundw
                   case rel => exact ⟨m2, dgX de :: X, by go_num, rfl, trivial, by omega, hXl2, H1⟩
                   case measure => simp [RowKit.intOf]; omega
                 · obtain rfl : m = 0 := by omega
                   have hm' : ¬ (0 : Int) < ((0 : Nat) : Int) := by decide
                   have hx := HX.out.resolve_right (fun h => by omega)
                   have hUw := HUW.out
                   rw [← hx.2] at hUw
                   have hcs := to_strA W3 ba bn bc x.body GB3.out
                   have hbs : (bo x.body).size ≤ 1024 := by rw [bo_size]; exact HBL.out
                   have hus : (bo U).size ≤ 20002 := by rw [bo_size]; exact HUL.out
                   have hxs : (bo X).size ≤ 10 := by rw [bo_size]; exact hXl
                   have n5 : ¬ 9223372036854775807 < (bo U).size + (bo X).size := by omega
                   have n6 : ¬ 9223372036854775807 < (bo U).size + (bo X).size + 2 := by omega
                   have n7 : ¬ 9223372036854775807 < (bo U).size + (bo X).size + 2 + (bo x.body).size := by omega
                   have n8 : ¬ 9223372036854775807 < (bo U).size + (bo X).size + 2 + (bo x.body).size + 2 := by omega
                   have n9 : ¬ 9223372036854775807 < (bo U).size + (bo X).size + 2 + (bo x.body).size + 2 + 5 := by omega
                   have hsum : bo U ++ bo X ++ (⟨#[13, 10]⟩ : ByteArray) ++ bo x.body ++ (⟨#[13, 10]⟩ : ByteArray) ++ (⟨#[48, 13, 10, 13, 10]⟩ : ByteArray) = bo (wrtP x) := bytes_ext (by
                     rw [bo_list, ← hUw]
                     simp only [ByteArray.data_append, Array.toList_append, bo_list]
                     simp)
                   have hwl : (bo (wrtP x)).size ≤ 1000000 := by
                     rw [← hsum]
                     simp only [ByteArray.size_append]
                     have : (⟨#[48, 13, 10, 13, 10]⟩ : ByteArray).size = 5 := rfl
                     have : (⟨#[13, 10]⟩ : ByteArray).size = 2 := rfl
                     omega
                   obtain ⟨c9, W9, hcv, hmk, hb9⟩ := conv_bytes W3 (bo (wrtP x)) hwl
                   rw [bo_list] at hcv
                   rw [← hsum] at hcv
                   have HR9 := hideL (by have h := hmk.gAt; rw [bo_list] at h; exact h)
                   have HB9 := hideL (HB3.out.trans (hb9.mono HB3.out.size))
                   obtain ⟨nw, hnw⟩ : ∃ n, (wrtP x).length = n := ⟨_, rfl⟩
                   rw [hnw] at hcv HR9
                   clear hx hUw hbs hus hxs hsum hwl hmk hb9 hnw HX
                   go_wp2_with fail
                   exact bodyPost_ret (v := .tuple #[.slice (some ⟨W3.heap.size, 0, none⟩) nw c9, .bool true]) (by simp [results, Tryz.results16, go_sem]) rfl (RWrPost.yes HYES.out HR9.out HB9.out)
end Go.Proofs.YtafmgoekgijfgaaGreatDoor
