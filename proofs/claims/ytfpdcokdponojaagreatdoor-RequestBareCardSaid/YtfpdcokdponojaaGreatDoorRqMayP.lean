/- May, and Bytes. -/
import Derived.Test.YtfpdcokdponojaaGreatDoorRqWrt
import Derived.Test.YtfpdcokdponojaaGreatDoorRqSameP
import Derived.Test.YtfpdcokdponojaaGreatDoorRqCon
namespace Go.Proofs.YtfpdcokdponojaaGreatDoor
open Go.RowKit Go.Lib

/-- What Of answers, whichever it is. -/
def OfAll (w : World) (x : Rw) (e : Ending) (w' : World) : Prop := (∃ (m t p r o : ByteArray) (ha : Option Addr) (hn hc : Nat) (ba : Option Addr) (bn bc : Nat) (k : Nat), e = .returned (.tuple #[.agg #[.string m, .string t, .string p, .string r, .string o, .slice ha hn hc, .slice ba bn bc], .int .i64 k]) ∧ (ofRP x = none → k = 2) ∧ (∀ q, ofRP x = some q → k = 0 ∧ ReqAt w' ⟨m, t, p, r, o, ⟨ha, hn, hc⟩, ⟨ba, bn, bc⟩⟩ q)) ∧ Below w.heap.size w w'
theorem of_allC {x : Rw} (s : ByteArray) (ra : Option Addr) (rn rc : Nat) (sa : Option Addr) (sn sc : Nat) (w : World) (hr : RawAt w ⟨s, ⟨ra, rn, rc⟩, ⟨sa, sn, sc⟩⟩ x) (hf : Fits x.heads) (hs0 : s.size ≤ 1000000) (hl : x.heads.length ≤ 1000) (hbl : x.body.length ≤ 1000000) (hE : Env w) (hS : EnvS w) :
    Calls Tryz.prog 22 #[.agg #[.string s, .slice ra rn rc, .slice sa sn sc]] w (OfAll w x) := by
  cases ho : ofRP x with
  | none =>
    refine (of_badC ho s ra rn rc sa sn sc w hr hf hs0 hl hbl hE hS).mono ?_
    rintro e w' ⟨rfl, hB⟩
    exact ⟨⟨_, _, _, _, _, none, 0, 0, none, 0, 0, 2, rfl, (fun _ => rfl), (fun q h => by rw [ho] at h; cases h)⟩, hB⟩
  | some q =>
    refine (of_okC ho s ra rn rc sa sn sc w hr hf hs0 hl hbl hE hS).mono ?_
    rintro e w' ⟨⟨m, t, p, r, o, ha, hn, hc, ba, bn, bc, rfl, h1, _⟩, hB⟩
    refine ⟨⟨m, t, p, r, o, ha, hn, hc, ba, bn, bc, 0, rfl, (fun h => by rw [ho] at h; cases h), fun q' h => ?_⟩, hB⟩
    rw [ho] at h
    injection h with h
    exact ⟨rfl, h ▸ h1⟩
theorem sta_len (m t : List UInt8) : (staP m t).length = m.length + t.length + 10 := by
  unfold staP http11
  simp only [List.length_append, List.length_cons, List.length_nil]
  omega
abbrev rqQ (m t p q o : ByteArray) (h b : Value) : Obj := .cells #[.string m, .string t, .string p, .string q, .string o, h, b] 42
theorem rq_box (w : World) (m t p q o : ByteArray) (h b : Value) : RBox7 42 (w.alloc (rqQ m t p q o h b)) w.heap.size (.string m) (.string t) (.string p) (.string q) (.string o) h b := heap_alloc_new w _
theorem raw_box (w : World) (s : ByteArray) (h b : Value) : QBox (w.alloc (rawC s h b)) w.heap.size s h b := heap_alloc_new w _
set_option maxRecDepth 100000 in
set_option maxHeartbeats 2000000 in
theorem may_any (m t p q o : ByteArray) (ha : Option Addr) (hn hc : Nat) (ba : Option Addr) (bn bc : Nat) (x : Rq) (w : World) (hr : ReqAt w ⟨m, t, p, q, o, ⟨ha, hn, hc⟩, ⟨ba, bn, bc⟩⟩ x) (hf : Fits x.heads) (hsz : m.size + t.size ≤ 900000) (hl : x.heads.length ≤ 1000) (hbl : x.body.length ≤ 1000000) (hE : Env w) (hS : EnvS w) :
    Calls Tryz.prog 27 #[.agg #[.string m, .string t, .string p, .string q, .string o, .slice ha hn hc, .slice ba bn bc]] w (fun e w' => (∃ z, e = .returned (.bool z) ∧ (z = true ↔ mayR x)) ∧ Below w.heap.size w w') := by
  have hr0 := hr
  obtain ⟨e1, e2, e3, e4, e5, gh, gb⟩ := hr
  simp only [Sl.v] at gh gb
  have HX1 := hideL (rq_box w m t p q o (.slice ha hn hc) (.slice ba bn bc))
  have HB1 := hideL ((Below.refl w.heap.size w).alloc (Nat.le_refl _) (rqQ m t p q o (.slice ha hn hc) (.slice ba bn bc)))
  have hst : (bo (staP m.data.toList t.data.toList)).data.toList = (rawP x).start := by
    rw [bo_list, e1, e2]
    rfl
  have hss : (bo (staP m.data.toList t.data.toList)).size ≤ 1000000 := by
    rw [bo_size, sta_len, size_list, size_list]
    omega
  obtain ⟨S, hS0⟩ : ∃ S, bo (staP m.data.toList t.data.toList) = S := ⟨_, rfl⟩
  have LM := hideL (fun W : World => message_any m t p q o ha hn hc ba bn bc W (by omega))
  rw [hS0] at hst hss LM
  have hraw : ∀ W : World, Below w.heap.size w W → RawAt W ⟨S, ⟨ha, hn, hc⟩, ⟨ba, bn, bc⟩⟩ (rawP x) := fun W hb => ⟨hst, gh.below hb, gb.below hb⟩
  have LF := fun (W : World) (hb : Below w.heap.size w W) => frame_any S ha hn hc ba bn bc (rawP x) W (hraw W hb) hf hl (hE.next hb)
  unfold FrPost at LF
  have LO := hideL (fun (W : World) (hb : Below w.heap.size w W) => of_allC (x := rawP x) S ha hn hc ba bn bc W (hraw W hb) hf hss hl hbl (hE.next hb) (hS.next hb))
  have HR0 := hideL (fun (W : World) (hb : Below w.heap.size w W) => hr0.below hb)
  have HL := hideL hl
  obtain ⟨F, hF⟩ : ∃ b, fitP (rawP x).heads (rawP x).body = b := ⟨_, rfl⟩
  rw [hF] at LF
  have hF' : fitP x.heads x.body = F := hF
  have x0 := HX1.out.c0
  have x1 := HX1.out.c1
  have x2 := HX1.out.c2
  have x3 := HX1.out.c3
  have x4 := HX1.out.c4
  have x5 := HX1.out.c5
  have x6 := HX1.out.c6
  clear hr0 e1 e2 e3 e4 e5 gh gb hst hss hS0 hraw hf hsz hl hbl hE hS hF
  cases F with
  | false =>
    have HN := hideL (fun h : mayR x => Bool.false_ne_true (hF'.symm.trans h.2))
    have LF := hideL LF
    clear hF'
    go_enter Tryz.func27, Tryz.ntmps27
    go_wp2_with (first
      | (go_at_call 54; refine (LM.out _).mono ?_; rintro e w2 ⟨rfl, hB⟩; have hz := (Below.refl w2.heap.size w2).alloc (Nat.le_refl _) (rawC S (.slice ha hn hc) (.slice ba bn bc)); have hq := raw_box w2 S (.slice ha hn hc) (.slice ba bn bc); have HB2 := hideL (HB1.out.trans ((hB.trans (hz.mono hB.size)).mono HB1.out.size)); have HQ2 := hideL hq; have y0 := hq.c0; have y1 := hq.c1; have y2 := hq.c2; clear hB hz hq)
      | (go_at_call 48; refine (LF.out _ HB2.out).mono ?_; rintro e w3 ⟨⟨fa, fb, fc, rfl, _⟩, hB⟩; have hz := (Below.refl w3.heap.size w3).alloc (Nat.le_refl _) (bdO fa fb fc); have hz2 := hB.trans (hz.mono hB.size); have HB3 := hideL (HB2.out.trans (hz2.mono HB2.out.size)); have hq := HQ2.out.next hz2; have y0 := hq.c0; have y1 := hq.c1; have y2 := hq.c2; clear hB hz hz2 hq)
      | (go_at_call 22; refine (LO.out _ HB3.out).mono ?_; rintro e w4 ⟨⟨m2, t2, p2, q2, o2, ha2, hn2, hc2, ba2, bn2, bc2, k2, rfl, _, _⟩, hB⟩; have hz := (Below.refl w4.heap.size w4).alloc (Nat.le_refl _) (rqQ m2 t2 p2 q2 o2 (.slice ha2 hn2 hc2) (.slice ba2 bn2 bc2)); have HB4 := hideL (HB3.out.trans ((hB.trans (hz.mono hB.size)).mono HB3.out.size)); clear hB hz))
    go_ret
    exact ⟨⟨false, rfl, fun h => absurd h Bool.false_ne_true, fun h => absurd h HN.out⟩, HB4.out⟩
  | true =>
    have LF := hideL LF
    cases ho : ofRP (rawP x) with
    | none =>
      have HN := hideL (show ¬ mayR x from fun h => by have := h.1; rw [ho] at this; cases this)
      have HO := hideL ho
      clear hF' ho
      go_enter Tryz.func27, Tryz.ntmps27
      go_wp2_with (first
        | (go_at_call 54; refine (LM.out _).mono ?_; rintro e w2 ⟨rfl, hB⟩; have hz := (Below.refl w2.heap.size w2).alloc (Nat.le_refl _) (rawC S (.slice ha hn hc) (.slice ba bn bc)); have hq := raw_box w2 S (.slice ha hn hc) (.slice ba bn bc); have HB2 := hideL (HB1.out.trans ((hB.trans (hz.mono hB.size)).mono HB1.out.size)); have HQ2 := hideL hq; have y0 := hq.c0; have y1 := hq.c1; have y2 := hq.c2; clear hB hz hq)
        | (go_at_call 48; refine (LF.out _ HB2.out).mono ?_; rintro e w3 ⟨⟨fa, fb, fc, rfl, _⟩, hB⟩; have hz := (Below.refl w3.heap.size w3).alloc (Nat.le_refl _) (bdO fa fb fc); have hz2 := hB.trans (hz.mono hB.size); have HB3 := hideL (HB2.out.trans (hz2.mono HB2.out.size)); have hq := HQ2.out.next hz2; have y0 := hq.c0; have y1 := hq.c1; have y2 := hq.c2; clear hB hz hz2 hq)
        | (go_at_call 22; refine (LO.out _ HB3.out).mono ?_; rintro e w4 ⟨⟨m2, t2, p2, q2, o2, ha2, hn2, hc2, ba2, bn2, bc2, k2, rfl, hk, _⟩, hB⟩; obtain rfl := hk HO.out; have hz := (Below.refl w4.heap.size w4).alloc (Nat.le_refl _) (rqQ m2 t2 p2 q2 o2 (.slice ha2 hn2 hc2) (.slice ba2 bn2 bc2)); have HB4 := hideL (HB3.out.trans ((hB.trans (hz.mono hB.size)).mono HB3.out.size)); clear hB hz))
      go_ret
      exact ⟨⟨false, rfl, fun h => absurd h Bool.false_ne_true, fun h => absurd h HN.out⟩, HB4.out⟩
    | some y =>
      have HI := hideL (show y = x ↔ mayR x from ⟨(fun h => ⟨by rw [ho, h], hF'⟩), (fun h => by have := h.1; rw [ho] at this; injection this)⟩)
      have HO := hideL ho
      clear hF' ho
      go_enter Tryz.func27, Tryz.ntmps27
      go_wp2_with (first
        | (go_at_call 54; refine (LM.out _).mono ?_; rintro e w2 ⟨rfl, hB⟩; have hz := (Below.refl w2.heap.size w2).alloc (Nat.le_refl _) (rawC S (.slice ha hn hc) (.slice ba bn bc)); have hz2 := hB.trans (hz.mono hB.size); have hq := raw_box w2 S (.slice ha hn hc) (.slice ba bn bc); have HB2 := hideL (HB1.out.trans (hz2.mono HB1.out.size)); have HX2 := hideL (HX1.out.next hz2); have HQ2 := hideL hq; have y0 := hq.c0; have y1 := hq.c1; have y2 := hq.c2; clear hB hz hz2 hq)
        | (go_at_call 48; refine (LF.out _ HB2.out).mono ?_; rintro e w3 ⟨⟨fa, fb, fc, rfl, _⟩, hB⟩; have hz := (Below.refl w3.heap.size w3).alloc (Nat.le_refl _) (bdO fa fb fc); have hz2 := hB.trans (hz.mono hB.size); have HB3 := hideL (HB2.out.trans (hz2.mono HB2.out.size)); have HX3 := hideL (HX2.out.next hz2); have hq := HQ2.out.next hz2; have y0 := hq.c0; have y1 := hq.c1; have y2 := hq.c2; clear hB hz hz2 hq)
        | (go_at_call 22; refine (LO.out _ HB3.out).mono ?_; rintro e w4 ⟨⟨m2, t2, p2, q2, o2, ha2, hn2, hc2, ba2, bn2, bc2, k2, rfl, _, hk⟩, hB⟩; obtain ⟨rfl, hreq⟩ := hk y HO.out; have hz := (Below.refl w4.heap.size w4).alloc (Nat.le_refl _) (rqQ m2 t2 p2 q2 o2 (.slice ha2 hn2 hc2) (.slice ba2 bn2 bc2)); have hz2 := hB.trans (hz.mono hB.size); have HB4 := hideL (HB3.out.trans (hz2.mono HB3.out.size)); have hb := HX3.out.next hz2; have x0 := hb.c0; have x1 := hb.c1; have x2 := hb.c2; have x3 := hb.c3; have x4 := hb.c4; have x5 := hb.c5; have x6 := hb.c6; have hb2 := rq_box w4 m2 t2 p2 q2 o2 (.slice ha2 hn2 hc2) (.slice ba2 bn2 bc2); have z0 := hb2.c0; have z1 := hb2.c1; have z2 := hb2.c2; have z3 := hb2.c3; have z4 := hb2.c4; have z5 := hb2.c5; have z6 := hb2.c6; have LS := hideL (sameQC m2 t2 p2 q2 o2 m t p q o ha2 hn2 hc2 ba2 bn2 bc2 ha hn hc ba bn bc y x _ (hreq.below hz) (HR0.out _ HB4.out) HL.out); clear hB hz hz2 hb hb2 hreq hk)
        | (go_at_call 29; refine LS.out.mono ?_; rintro e w5 ⟨⟨z, rfl, hzz⟩, hB⟩; have HB5 := hideL (HB4.out.trans (hB.mono HB4.out.size)); have HZ := hideL hzz; clear hB hzz))
      go_ret
      exact ⟨⟨z, rfl, HZ.out.trans HI.out⟩, HB5.out⟩
set_option maxRecDepth 100000 in
theorem lins_all {l : List Hd} (h : mayH l = true) : (linsH l).length ≤ 13920 := by
  have h1 := lins_len (l := l) fun y hy => (linH_inl (mayH_mem h y hy)).2
  have := mayH_len h
  omega
set_option maxRecDepth 100000 in
theorem may_len {x : Rq} (h : mayR x) : (wrtP (rawP x)).length ≤ 20000 := by
  have hw := (wrtB_parts (may_wrt h)).1.2
  obtain ⟨h1, h2, _⟩ := fit_may h.2
  have h3 : (linsH (rawP x).heads).length ≤ 13920 := lins_all h1
  have h4 : (bodS (framP (rawP x).heads).2 (rawP x).body).length ≤ 1624 := by
    have h2' : (rawP x).body.length ≤ 1024 := h2
    have h5 := (hexS_size h2').2.2
    unfold bodS
    split
    · split
      · simp
      · simp only [List.length_append, List.length_cons, List.length_nil]
        omega
    · omega
  unfold wrtP
  simp only [List.length_append, List.length_cons]
  omega
theorem small_wrt {x : Rw} (hf : fitP x.heads x.body = true) : Fits x.heads := good_fits (fit_may hf).1
set_option maxRecDepth 100000 in
set_option maxHeartbeats 2000000 in
theorem bytes_badC {x : Rq} (hm : ¬ mayR x) (m t p q o : ByteArray) (ha : Option Addr) (hn hc : Nat) (ba : Option Addr) (bn bc : Nat) (w : World) (hr : ReqAt w ⟨m, t, p, q, o, ⟨ha, hn, hc⟩, ⟨ba, bn, bc⟩⟩ x) (hf : Fits x.heads) (hsz : m.size + t.size ≤ 900000) (hl : x.heads.length ≤ 1000) (hbl : x.body.length ≤ 1000000) (hE : Env w) (hS : EnvS w) :
    Calls Tryz.prog 31 #[.agg #[.string m, .string t, .string p, .string q, .string o, .slice ha hn hc, .slice ba bn bc]] w (fun e w' => e = .returned (.tuple #[.slice none 0 0, .int .i64 1]) ∧ Below w.heap.size w w') := by
  have HX1 := hideL (rq_box w m t p q o (.slice ha hn hc) (.slice ba bn bc))
  have HB1 := hideL ((Below.refl w.heap.size w).alloc (Nat.le_refl _) (rqQ m t p q o (.slice ha hn hc) (.slice ba bn bc)))
  have LM := hideL (may_any m t p q o ha hn hc ba bn bc x _ (hr.below HB1.out) hf hsz hl hbl (hE.next HB1.out) (hS.next HB1.out))
  have HM := hideL hm
  have hb := HX1.out
  have x0 := hb.c0
  have x1 := hb.c1
  have x2 := hb.c2
  have x3 := hb.c3
  have x4 := hb.c4
  have x5 := hb.c5
  have x6 := hb.c6
  clear hb hr hf hsz hl hbl hE hS hm
  go_enter Tryz.func31, Tryz.ntmps31
  go_wp2_with (go_at_call 27; refine LM.out.mono ?_; rintro e w2 ⟨⟨z, rfl, hz⟩, hB⟩; obtain rfl : z = false := Bool.eq_false_iff.2 (fun h => HM.out (hz.1 h)); have HB2 := hideL (HB1.out.trans (hB.mono HB1.out.size)); clear hB hz)
  exact bodyPost_ret (v := .tuple #[.slice none 0 0, .int .i64 1]) (by simp [results, Tryz.results31, go_sem]) rfl ⟨rfl, HB2.out⟩
def BytOk (w : World) (x : Rq) (e : Ending) (w' : World) : Prop := (∃ r : Sl, e = .returned (.tuple #[r.v, .int .i64 0]) ∧ BRow w' w.heap.size r.v (wrtP (rawP x))) ∧ Below w.heap.size w w'
set_option maxRecDepth 100000 in
set_option maxHeartbeats 2000000 in
theorem bytes_okC {x : Rq} (hm : mayR x) (m t p q o : ByteArray) (ha : Option Addr) (hn hc : Nat) (ba : Option Addr) (bn bc : Nat) (w : World) (hr : ReqAt w ⟨m, t, p, q, o, ⟨ha, hn, hc⟩, ⟨ba, bn, bc⟩⟩ x) (hsz : m.size + t.size ≤ 900000) (hE : Env w) (hS : EnvS w) (hT : EnvT w) :
    Calls Tryz.prog 31 #[.agg #[.string m, .string t, .string p, .string q, .string o, .slice ha hn hc, .slice ba bn bc]] w (BytOk w x) := by
  obtain ⟨hmay, hbl, _⟩ := fit_may hm.2
  have hf := good_fits hmay
  have hl := mayH_len hmay
  have HX1 := hideL (rq_box w m t p q o (.slice ha hn hc) (.slice ba bn bc))
  have HB1 := hideL ((Below.refl w.heap.size w).alloc (Nat.le_refl _) (rqQ m t p q o (.slice ha hn hc) (.slice ba bn bc)))
  have LM := hideL (may_any m t p q o ha hn hc ba bn bc x _ (hr.below HB1.out) hf hsz (by omega) (by omega) (hE.next HB1.out) (hS.next HB1.out))
  have HM := hideL hm
  have hb := HX1.out
  have x0 := hb.c0
  have x1 := hb.c1
  have x2 := hb.c2
  have x3 := hb.c3
  have x4 := hb.c4
  have x5 := hb.c5
  have x6 := hb.c6
  have hss : (bo (staP m.data.toList t.data.toList)).size ≤ 1000000 := by
    rw [bo_size, sta_len, size_list, size_list]
    omega
  have hst : (bo (staP m.data.toList t.data.toList)).data.toList = (rawP x).start := by
    rw [bo_list, hr.1, hr.2.1]
    rfl
  have LG := hideL (fun W : World => message_any m t p q o ha hn hc ba bn bc W (by omega))
  have LW := hideL (fun (W : World) (h : Below w.heap.size w W) => write_any (bo (staP m.data.toList t.data.toList)) ha hn hc ba bn bc (rawP x) W ⟨hst, hr.2.2.2.2.2.1.below h, hr.2.2.2.2.2.2.below h⟩ hf hss (show x.heads.length ≤ 1000 by omega) (hE.next h) (hT.next h))
  have HW := hideL (may_wrt hm)
  generalize bo (staP m.data.toList t.data.toList) = S at *
  unfold BytOk
  clear hb hr hf hsz hl hbl hE hS hm hmay hss hst hT
  go_enter Tryz.func31, Tryz.ntmps31
  go_wp2_with (first
    | (go_at_call 27; refine LM.out.mono ?_; rintro e w2 ⟨⟨z, rfl, hz⟩, hB⟩; obtain rfl : z = true := hz.2 HM.out; have HB2 := hideL (HB1.out.trans (hB.mono HB1.out.size)); have hb := HX1.out.next hB; have x0 := hb.c0; have x1 := hb.c1; have x2 := hb.c2; have x3 := hb.c3; have x4 := hb.c4; have x5 := hb.c5; have x6 := hb.c6; clear hB hz hb)
    | (go_at_call 54; refine (LG.out _).mono ?_; rintro e w3 ⟨rfl, hB⟩; have HB3 := hideL (HB2.out.trans (hB.mono HB2.out.size)); clear hB)
    | (go_at_call 24; refine (LW.out _ HB3.out).mono ?_; rintro e w4 ⟨h4, hB⟩; rw [if_pos HW.out] at h4; obtain ⟨r, rfl, hr4⟩ := h4; have HR4 := hideL (hr4.base HB3.out.size); have HB4 := hideL (HB3.out.trans (hB.mono HB3.out.size)); clear hB hr4))
  exact bodyPost_ret (v := .tuple #[r.v, .int .i64 0]) (by simp [results, Tryz.results31, go_sem]) rfl ⟨⟨r, rfl, HR4.out⟩, HB4.out⟩
end Go.Proofs.YtfpdcokdponojaaGreatDoor
