/- Read: a line as a header. -/
import Derived.Test.YtilefgmlnmpeoaaDoorHdOwn
import Derived.Test.YtilefgmlnmpeoaaDoorHdSmall
namespace Go.Proofs.YtilefgmlnmpeoaaDoor
open Go.RowKit Go.Lib

def readA (r : Nat × List UInt8 × List UInt8) : Value := .tuple #[.agg #[.string (bo r.2.1), .string (bo r.2.2)], .int .i64 r.1]
theorem readP_long {s : List UInt8} (h : 578 < s.length) : readP s = (6, [], []) := by
  unfold readP
  rw [if_pos h]
theorem dropWhile_none : ∀ {l : List UInt8}, (58 : UInt8) ∉ l → l.dropWhile (· != 58) = []
  | [], _ => rfl
  | c :: r, h => by
    rw [List.dropWhile_cons_of_pos (by simpa using not_head h)]
    exact dropWhile_none (fun e => h (List.mem_cons_of_mem _ e))
theorem readP_none {s : List UInt8} (h : s.length ≤ 578) (hc : (58 : UInt8) ∉ s) : readP s = (2, [], []) := by
  unfold readP
  rw [if_neg (by omega), dropWhile_none hc]
theorem ne_colon {a : List UInt8} (h : (58 : UInt8) ∉ a) : ∀ c ∈ a, (c != 58) = true := fun c hc => by
  rw [bne_iff_ne]
  exact fun e => h (e ▸ hc)
theorem readP_cut {a b : List UInt8} (h : (a ++ 58 :: b).length ≤ 578) (hc : (58 : UInt8) ∉ a) :
    readP (a ++ 58 :: b) = if (nameP (a.map smB) && valP (trimP b)) = true then (0, a.map smB, trimP b) else (2, [], []) := by
  unfold readP
  rw [if_neg (by omega), List.dropWhile_append_of_pos (ne_colon hc), List.dropWhile_cons_of_neg (by decide)]
  simp only
  rw [List.takeWhile_append_of_pos (ne_colon hc), List.takeWhile_cons_of_neg (by decide), List.append_nil]
theorem goodP_bo (n v : List UInt8) : goodP ⟨bo n, bo v⟩ = (nameP n && valP v) := rfl

theorem cutB_none (s : ByteArray) (c : UInt8) (h : c ∉ s.data.toList) (w : World) : Calls Tryd.prog 38 #[.string s, .string ⟨#[c]⟩] w (fun e w' => e = .returned (.tuple #[.string s, .string ⟨#[]⟩, .bool false]) ∧ Below w.heap.size w w') :=
  (cut_none s c h w).mono fun _ _ ⟨he, n, hn⟩ => ⟨he, hn ▸ below_drewN5 w n⟩
theorem cutB_hit (s : ByteArray) (c : UInt8) (a b : List UInt8) (h : s.data.toList = a ++ c :: b) (ha : c ∉ a) (hs : s.size ≤ 1000000) (w : World) : Calls Tryd.prog 38 #[.string s, .string ⟨#[c]⟩] w (fun e w' => e = .returned (.tuple #[.string (bo a), .string (bo b), .bool true]) ∧ Below w.heap.size w w') :=
  (cut_hit s c a b h ha hs w).mono fun _ _ ⟨he, n, hn⟩ => ⟨he, hn ▸ below_drewN5 w n⟩
set_option maxRecDepth 100000 in
set_option maxHeartbeats 1000000 in
theorem read_any (s : ByteArray) (hs : s.size ≤ 1000000) (w : World) : Calls Tryd.prog 19 #[.string s] w (fun e w' => e = .returned (readA (readP s.data.toList)) ∧ Below w.heap.size w w') := by
  have hlen := size_list s
  have HB0 := hideL ((Below.refl w.heap.size w).alloc (Nat.le_refl _) (.cells #[.string (⟨#[]⟩ : ByteArray), .string (⟨#[]⟩ : ByteArray)] 23))
  have HX := hideL (HBox.new w (⟨#[]⟩ : ByteArray) (⟨#[]⟩ : ByteArray))
  by_cases h1 : 578 < s.size
  · rw [readP_long (by omega)]
    have h1' : (578 : Int) < (s.size : Int) := by omega
    have f0 := HX.out.frozen 0
    have f1 := HX.out.frozen 1
    have c0 := HX.out.c0
    have c1 := HX.out.c1
    clear hlen
    go_enter Tryd.func19, Tryd.ntmps19
    go_wp2_with fail
    have HXF := HX
    have HBF := HB0
    clear f0 f1 c0 c1
    generalize (w.alloc (.cells #[.string (⟨#[]⟩ : ByteArray), .string (⟨#[]⟩ : ByteArray)] 23)) = WF at *
    have r0 := HXF.out.c0
    have r1 := HXF.out.c1
    exact bodyPost_ret (v := readA (6, [], [])) (by simp [results, Tryd.results19, go_sem, r0, r1]; rfl) rfl ⟨rfl, HBF.out⟩
  have h1' : ¬ (578 : Int) < (s.size : Int) := by omega
  by_cases hc : (58 : UInt8) ∈ s.data.toList
  · obtain ⟨a, b, hab, ha⟩ := List.eq_append_cons_of_mem hc
    have LC := hideL (fun W => cutB_hit s 58 a b hab ha (by omega) W)
    have hal : a.length ≤ 1000000 ∧ b.length ≤ 1000000 := by
      have := congrArg List.length hab
      rw [hlen, List.length_append, List.length_cons] at this
      omega
    have LS := hideL (fun W => small_any (bo a) (by rw [bo_size]; omega) W)
    have LT := hideL (fun W => trim_any (bo b) (by rw [bo_size]; omega) W)
    rw [bo_list] at LS LT
    have hg : (bo (a.map smB)).size ≤ 1000000 ∧ (bo (trimP b)).size ≤ 1000000 := by
      have := trim_len b
      rw [bo_size, bo_size, List.length_map]; omega
    have LM := hideL (mayOne_any ⟨bo (a.map smB), bo (trimP b)⟩ hg)
    have LO := hideL (fun W => own_any ⟨bo (a.map smB), bo (trimP b)⟩ hg W)
    rw [goodP_bo] at LM
    simp only [hdV] at LM LO
    have hR := readP_cut (a := a) (b := b) (by rw [← hab]; omega) ha
    rw [← hab] at hR
    rw [hR]
    generalize (nameP (a.map smB) && valP (trimP b)) = G at *
    generalize trimP b = tb at *
    generalize a.map smB = sa at *
    clear hR hg hal hab ha hc hlen h1
    cases G
    · rw [if_neg (by decide)]
      clear LO
      go_enter Tryd.func19, Tryd.ntmps19
      go_wp2_with (first
        | (go_at_call 38; refine (LC.out _).mono ?_; rintro e w1 ⟨rfl, hB1⟩; have HX1 := hideL (HX.out.next hB1); have HB1 := hideL (HB0.out.trans (hB1.mono HB0.out.size)); clear hB1)
        | (go_at_call 39; refine (LS.out _).mono ?_; rintro e w2 ⟨rfl, hB2⟩; have HX2 := hideL (HX1.out.next hB2); have HB2 := hideL (HB1.out.trans (hB2.mono HB1.out.size)); clear hB2)
        | (go_at_call 33; refine (LT.out _).mono ?_; rintro e w3 ⟨rfl, hB3⟩
           have hA := (Below.refl w3.heap.size w3).alloc (Nat.le_refl _) (.cells #[.string (bo sa), .string (bo tb)] 23)
           have HX3 := hideL ((HX2.out.next hB3).next hA)
           have HB3 := hideL ((HB2.out.trans (hB3.mono HB2.out.size)).trans (hA.mono (HB2.out.trans (hB3.mono HB2.out.size)).size))
           have HY3 := hideL (HBox.new w3 (bo sa) (bo tb))
           have f0 := HX3.out.frozen 0
           have f1 := HX3.out.frozen 1
           have c0 := HX3.out.c0
           have c1 := HX3.out.c1
           clear hB3 hA)
        | (go_at_call 37; refine (LM.out _).mono ?_; rintro e w4 ⟨rfl, hB4⟩
           have HX4 := hideL (HX3.out.next hB4)
           have HB4 := hideL (HB3.out.trans (hB4.mono HB3.out.size))
           have HY4 := hideL (HY3.out.next hB4)
           have e0 := HX4.out.frozen 0
           have e1 := HX4.out.frozen 1
           have d0 := HX4.out.c0
           have d1 := HX4.out.c1
           have y0 := HY4.out.c0
           have y1 := HY4.out.c1
           clear hB4))
      have HXF := hideL (HX4.out.st (⟨#[]⟩ : ByteArray) (⟨#[]⟩ : ByteArray))
      have HBF := hideL ((HB4.out.setCell (p := ⟨w.heap.size, 0, none⟩) (Nat.le_refl _) (.string (⟨#[]⟩ : ByteArray))).setCell (p := ⟨w.heap.size, 1, none⟩) (Nat.le_refl _) (.string (⟨#[]⟩ : ByteArray)))
      clear f0 f1 c0 c1 e0 e1 d0 d1 y0 y1 LC LT LS LM
      generalize (World.setCell (World.setCell w4 ⟨w.heap.size, 0, none⟩ (.string (⟨#[]⟩ : ByteArray))) ⟨w.heap.size, 1, none⟩ (.string (⟨#[]⟩ : ByteArray))) = WF at *
      have r0 := HXF.out.c0
      have r1 := HXF.out.c1
      exact bodyPost_ret (v := readA (2, [], [])) (by simp [results, Tryd.results19, go_sem, r0, r1]; rfl) rfl ⟨rfl, HBF.out⟩
    · rw [if_pos rfl]
      go_enter Tryd.func19, Tryd.ntmps19
      go_wp2_with (first
        | (go_at_call 38; refine (LC.out _).mono ?_; rintro e w1 ⟨rfl, hB1⟩; have HX1 := hideL (HX.out.next hB1); have HB1 := hideL (HB0.out.trans (hB1.mono HB0.out.size)); clear hB1)
        | (go_at_call 39; refine (LS.out _).mono ?_; rintro e w2 ⟨rfl, hB2⟩; have HX2 := hideL (HX1.out.next hB2); have HB2 := hideL (HB1.out.trans (hB2.mono HB1.out.size)); clear hB2)
        | (go_at_call 33; refine (LT.out _).mono ?_; rintro e w3 ⟨rfl, hB3⟩
           have hA := (Below.refl w3.heap.size w3).alloc (Nat.le_refl _) (.cells #[.string (bo sa), .string (bo tb)] 23)
           have HX3 := hideL ((HX2.out.next hB3).next hA)
           have HB3 := hideL ((HB2.out.trans (hB3.mono HB2.out.size)).trans (hA.mono (HB2.out.trans (hB3.mono HB2.out.size)).size))
           have HY3 := hideL (HBox.new w3 (bo sa) (bo tb))
           have f0 := HX3.out.frozen 0
           have f1 := HX3.out.frozen 1
           have c0 := HX3.out.c0
           have c1 := HX3.out.c1
           clear hB3 hA)
        | (go_at_call 37; refine (LM.out _).mono ?_; rintro e w4 ⟨rfl, hB4⟩
           have HX4 := hideL (HX3.out.next hB4)
           have HB4 := hideL (HB3.out.trans (hB4.mono HB3.out.size))
           have HY4 := hideL (HY3.out.next hB4)
           have e0 := HX4.out.frozen 0
           have e1 := HX4.out.frozen 1
           have d0 := HX4.out.c0
           have d1 := HX4.out.c1
           have y0 := HY4.out.c0
           have y1 := HY4.out.c1
           clear hB4)
        | (go_at_call 40; refine (LO.out _).mono ?_; rintro e w5 ⟨rfl, hB5⟩
           have HX5 := hideL (HX4.out.next hB5)
           have HB5 := hideL (HB4.out.trans (hB5.mono HB4.out.size))
           have g0 := HX5.out.frozen 0
           have g1 := HX5.out.frozen 1
           have b0 := HX5.out.c0
           have b1 := HX5.out.c1
           clear hB5))
      have HXF := hideL (HX5.out.st (bo sa) (bo tb))
      have HBF := hideL ((HB5.out.setCell (p := ⟨w.heap.size, 0, none⟩) (Nat.le_refl _) (.string (bo sa))).setCell (p := ⟨w.heap.size, 1, none⟩) (Nat.le_refl _) (.string (bo tb)))
      clear f0 f1 c0 c1 e0 e1 d0 d1 y0 y1 g0 g1 b0 b1 LC LT LS LM LO
      generalize (World.setCell (World.setCell w5 ⟨w.heap.size, 0, none⟩ (.string (bo sa))) ⟨w.heap.size, 1, none⟩ (.string (bo tb))) = WF at *
      have r0 := HXF.out.c0
      have r1 := HXF.out.c1
      exact bodyPost_ret (v := readA (0, sa, tb)) (by simp [results, Tryd.results19, go_sem, r0, r1]; rfl) rfl ⟨rfl, HBF.out⟩
  · have LC := hideL (fun W => cutB_none s 58 hc W)
    have LS := hideL (fun W => small_any s (by omega) W)
    have LT := hideL (fun W => trim_any (⟨#[]⟩ : ByteArray) (by decide) W)
    rw [show trimP (⟨#[]⟩ : ByteArray).data.toList = [] from rfl] at LT
    rw [readP_none (by omega) hc]
    generalize s.data.toList.map smB = sa at *
    clear hc hlen h1
    go_enter Tryd.func19, Tryd.ntmps19
    go_wp2_with (first
        | (go_at_call 38; refine (LC.out _).mono ?_; rintro e w1 ⟨rfl, hB1⟩; have HX1 := hideL (HX.out.next hB1); have HB1 := hideL (HB0.out.trans (hB1.mono HB0.out.size)); clear hB1)
        | (go_at_call 39; refine (LS.out _).mono ?_; rintro e w2 ⟨rfl, hB2⟩; have HX2 := hideL (HX1.out.next hB2); have HB2 := hideL (HB1.out.trans (hB2.mono HB1.out.size)); clear hB2)
        | (go_at_call 33; refine (LT.out _).mono ?_; rintro e w3 ⟨rfl, hB3⟩
           have hA := (Below.refl w3.heap.size w3).alloc (Nat.le_refl _) (.cells #[.string (bo sa), .string (bo [])] 23)
           have HX3 := hideL ((HX2.out.next hB3).next hA)
           have HB3 := hideL ((HB2.out.trans (hB3.mono HB2.out.size)).trans (hA.mono (HB2.out.trans (hB3.mono HB2.out.size)).size))
           have HY3 := hideL (HBox.new w3 (bo sa) (bo []))
           have f0 := HX3.out.frozen 0
           have f1 := HX3.out.frozen 1
           have c0 := HX3.out.c0
           have c1 := HX3.out.c1
           clear hB3 hA))
    have HXF := hideL (HX3.out.st (⟨#[]⟩ : ByteArray) (⟨#[]⟩ : ByteArray))
    have HBF := hideL ((HB3.out.setCell (p := ⟨w.heap.size, 0, none⟩) (Nat.le_refl _) (.string (⟨#[]⟩ : ByteArray))).setCell (p := ⟨w.heap.size, 1, none⟩) (Nat.le_refl _) (.string (⟨#[]⟩ : ByteArray)))
    clear f0 f1 c0 c1 LC LT LS
    generalize (World.setCell (World.setCell (w3.alloc (.cells #[.string (bo sa), .string (bo [])] 23)) ⟨w.heap.size, 0, none⟩ (.string (⟨#[]⟩ : ByteArray))) ⟨w.heap.size, 1, none⟩ (.string (⟨#[]⟩ : ByteArray))) = WF at *
    have r0 := HXF.out.c0
    have r1 := HXF.out.c1
    exact bodyPost_ret (v := readA (2, [], [])) (by simp [results, Tryd.results19, go_sem, r0, r1]; rfl) rfl ⟨rfl, HBF.out⟩
end Go.Proofs.YtilefgmlnmpeoaaDoor
