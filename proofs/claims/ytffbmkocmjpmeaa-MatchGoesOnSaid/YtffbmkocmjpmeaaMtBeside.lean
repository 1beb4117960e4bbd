/- Beside, Implies of the program. -/
import Derived.Test.YtffbmkocmjpmeaaMtParse
import Derived.WalkMore
import Derived.Deep.LoopGhost
namespace Go.Proofs.Ytffbmkocmjpmeaa
open Go.RowKit

/-- The box of what may be put behind and ahead. -/
def PBox (W : World) (g : Nat) : Prop := W.heap[g]? = some (.cells #[.string ⟨#[]⟩, .string ⟨#[97]⟩, .string ⟨#[98]⟩] 59 (0, 0))
theorem PBox.c0 {W : World} {g : Nat} (h : PBox W g) : W.cell? ⟨g, 0, none⟩ = some (.string ⟨#[]⟩) := (cell_of_row W g 0 _ _ _ h).trans rfl
theorem PBox.c1 {W : World} {g : Nat} (h : PBox W g) : W.cell? ⟨g, 1, none⟩ = some (.string ⟨#[97]⟩) := (cell_of_row W g 1 _ _ _ h).trans rfl
theorem PBox.c2 {W : World} {g : Nat} (h : PBox W g) : W.cell? ⟨g, 2, none⟩ = some (.string ⟨#[98]⟩) := (cell_of_row W g 2 _ _ _ h).trans rfl
theorem PBox.lt {W : World} {g : Nat} (h : PBox W g) : g < W.heap.size := (Array.getElem?_eq_some_iff.1 h).1
theorem PBox.new (w : World) : PBox (w.alloc (.cells #[.string ⟨#[]⟩, .string ⟨#[97]⟩, .string ⟨#[98]⟩] 59)) w.heap.size := heap_alloc_new w _
theorem PBox.next {W W' : World} {g : Nat} (h : PBox W g) (hb : Below W.heap.size W W') : PBox W' g := (hb.block g h.lt).trans h
def putB (k : Nat) : ByteArray := bo (putM.getD k [])
theorem idxP (k : Nat) (h : k < 3) : ∀ w : World, (Instr.index 59 (.agg #[.string ⟨#[]⟩, .string ⟨#[97]⟩, .string ⟨#[98]⟩]) (.int .i64 k)).run Try.prog w = .ok (.string (putB k)) w := by
  have hk : k = 0 ∨ k = 1 ∨ k = 2 := by omega
  intro w
  rcases hk with rfl | rfl | rfl
  · rw [show putB 0 = ⟨#[]⟩ from rfl]
    kernel_rfl
  · rw [show putB 1 = ⟨#[97]⟩ from rfl]
    kernel_rfl
  · rw [show putB 2 = ⟨#[98]⟩ from rfl]
    kernel_rfl
theorem putB_size (k : Nat) : (putB k).size ≤ 1 := by
  rw [putB, bo_size]
  rcases Nat.lt_or_ge k 3 with h | h
  · have hk : k = 0 ∨ k = 1 ∨ k = 2 := by omega
    rcases hk with rfl | rfl | rfl <;> decide
  · rw [show putM.getD k [] = [] by simp [putM, List.getD, h]]
    decide
theorem put_drop (k : Nat) (h : k < 3) : putM.drop k = (putB k).data.toList :: putM.drop (k + 1) := by
  have hk : k = 0 ∨ k = 1 ∨ k = 2 := by omega
  rcases hk with rfl | rfl | rfl <;> rfl
/-- The boxes of a call. -/
structure Bx (w : World) (gp : Nat) (a b : Tm) (W : World) : Prop where
  ba : TBox W w.heap.size a.k a.t
  bb : TBox W (w.heap.size + 1) b.k b.t
  bp : PBox W gp
  be : Below w.heap.size w W
theorem Bx.next {w : World} {gp : Nat} {a b : Tm} {W W' : World} (h : Bx w gp a b W) (hb : Below W.heap.size W W') : Bx w gp a b W' := ⟨h.ba.next hb, h.bb.next hb, h.bp.next hb, h.be.trans (hb.mono h.be.size)⟩
def BOut (w : World) (gp : Nat) (a b : Tm) (V : Option (List UInt8)) (gh : Nat) (i : Value) (W : World) : Prop := ∃ k : Nat, k + gh = 3 ∧ i = .int .i64 k ∧ Bx w gp a b W ∧ HidL (outM a b (putM.drop k) = V)
def BIn (w : World) (gp : Nat) (a b : Tm) (V : Option (List UInt8)) (k : Nat) (gh : Nat) (i : Value) (W : World) : Prop := ∃ j : Nat, j + gh = 3 ∧ i = .int .i64 j ∧ Bx w gp a b W ∧ HidL (inM a b (putB k).data.toList (outM a b (putM.drop (k + 1))) (putM.drop j) = V)
theorem BIn.to {w : World} {gp : Nat} {a b : Tm} {V : Option (List UInt8)} {k gh j : Nat} {W : World} (h1 : j + gh = 3) (h2 : Bx w gp a b W) (h3 : inM a b (putB k).data.toList (outM a b (putM.drop (k + 1))) (putM.drop j) = V) : BIn w gp a b V k gh (.int .i64 ((j : Nat) : Int)) W := ⟨j, h1, rfl, h2, hideL h3⟩
/-- What Beside answers. -/
def beV (o : Option (List UInt8)) : Value := .tuple #[.string (bo (o.getD [])), .bool o.isSome]
set_option maxRecDepth 100000 in
set_option maxHeartbeats 1000000 in
theorem beside_any (a b : Tm) (ha : a.t.size ≤ 9223372036854775807) (hb : b.t.size ≤ 9223372036854775807) (w : World) : Calls Try.prog 24 #[.agg #[.int .i64 a.k, .string a.t], .agg #[.int .i64 b.k, .string b.t]] w (fun e w' => e = .returned (beV (besM a b)) ∧ Below w.heap.size w w') := by
  have LM := hideL (may_any a ha)
  have LA := hideL (fun s hs => matches_any a s ha hs)
  have LB := hideL (fun s hs => matches_any b s hb hs)
  have hml := fun h => (mayM_bytes (a := a) h).1
  have HX0 := hideL ((TBox.new w a.k a.t).next ((Below.refl _ _).alloc (Nat.le_refl _) (.cells #[.int .i64 b.k, .string b.t] 23)))
  have HB0 := hideL (((Below.refl w.heap.size w).alloc (Nat.le_refl _) (.cells #[.int .i64 a.k, .string a.t] 23)).alloc (by simp) (.cells #[.int .i64 b.k, .string b.t] 23))
  have HY0 := TBox.new (w.alloc (.cells #[.int .i64 a.k, .string a.t] 23)) b.k b.t
  rw [World.size_alloc] at HY0
  replace HY0 := hideL HY0
  unfold besM
  cases hm : mayM a with
  | false =>
    rw [hm] at LM
    rw [if_neg (by decide)]
    clear hm hml LA LB
    obtain ⟨ka, ta⟩ := a
    obtain ⟨kb, tb⟩ := b
    dsimp only at *
    go_enter Try.func24, Try.ntmps24
    go_wp2_with fail
    go_step3
    go_wp2_with (go_at_call 10; refine (LM.out _).mono ?_; rintro e w2 ⟨rfl, hB2⟩)
    try rw [Exit.noGoto_ret]
    go_ret2
    exact ⟨rfl, HB0.out.trans (hB2.mono HB0.out.size)⟩
  | true =>
    rw [hm] at LM
    rw [if_pos rfl]
    have hl := hml hm
    rw [size_list] at hl
    clear hm hml
    obtain ⟨V, hV⟩ : ∃ V, outM a b putM = V := ⟨_, rfl⟩
    rw [hV]
    have HV := hideL hV
    clear hV
    obtain ⟨ka, hka⟩ : ∃ x, a.k = x := ⟨_, rfl⟩
    obtain ⟨ta, hta⟩ : ∃ x, a.t = x := ⟨_, rfl⟩
    obtain ⟨kb, hkb⟩ : ∃ x, b.k = x := ⟨_, rfl⟩
    obtain ⟨tb, htb⟩ : ∃ x, b.t = x := ⟨_, rfl⟩
    rw [hka, hta] at LM LA HX0 HB0
    rw [hkb, htb] at LB HX0 HB0 HY0
    rw [hka, hta] at HY0
    rw [hta] at hl
    have HKA := hideL hka
    have HTA := hideL hta
    have HKB := hideL hkb
    have HTB := hideL htb
    rw [hka, hta, hkb, htb]
    clear ha hb hka hta hkb htb
    go_enter Try.func24, Try.ntmps24
    go_wp2_with fail
    go_step3
    go_wp2_with (go_at_call 10; refine (LM.out _).mono ?_; rintro e w2 ⟨rfl, hB2⟩)
    have hx : Bx w w2.heap.size a b (w2.alloc (.cells #[.string ⟨#[]⟩, .string ⟨#[97]⟩, .string ⟨#[98]⟩] 59)) := by
      have e := (Below.refl w2.heap.size w2).alloc (Nat.le_refl _) (.cells #[.string ⟨#[]⟩, .string ⟨#[97]⟩, .string ⟨#[98]⟩] 59)
      refine ⟨?_, ?_, PBox.new w2, (HB0.out.trans (hB2.mono HB0.out.size)).trans (e.mono (Nat.le_trans HB0.out.size hB2.size))⟩
      · rw [HKA.out, HTA.out]
        exact (HX0.out.next hB2).next e
      · rw [HKB.out, HTB.out]
        exact (HY0.out.next hB2).next e
    have HS := hideL (show BOut w w2.heap.size a b V 3 (.int .i64 0) (w2.alloc (.cells #[.string ⟨#[]⟩, .string ⟨#[97]⟩, .string ⟨#[98]⟩] 59)) from ⟨0, rfl, rfl, hx, HV⟩)
    have HXS := hideL hx
    have q0 := hx.bp.c0
    have q1 := hx.bp.c1
    have q2 := hx.bp.c2
    obtain ⟨gp, hgp⟩ : ∃ gp, gp = w2.heap.size := ⟨_, rfl⟩
    rw [← hgp] at HS HXS q0 q1 q2 ⊢
    generalize w2.alloc (.cells #[.string ⟨#[]⟩, .string ⟨#[97]⟩, .string ⟨#[98]⟩] 59) = W2 at HS HXS q0 q1 q2 ⊢
    clear hx hB2 hgp HX0 HY0 HB0 HV LM
    go_step3
    go_wp2_with fail
    go_loopg [17] 3 (fun g i wr => BOut w gp a b V g i wr)
    case atStart => exact HS.out
    case round =>
      obtain ⟨k, hkg, rfl, hx, hv⟩ := hrel
      clear HS HXS q0 q1 q2
      cases gk with
      | zero =>
        have hk3 : ¬ (k : Int) < 3 := by omega
        have hVn : V = none := by
          have h3 : k = 3 := by omega
          subst h3
          exact hv.out.symm
        subst hVn
        have HX := hideL hx
        clear hx hv
        go_wp2_with fail
        try rw [Exit.noGoto_ret]
        go_ret2
        exact ⟨rfl, HX.out.be⟩
      | succ gx =>
        have hk3 : (k : Int) < 3 := by omega
        have hk : k < 3 := by omega
        have hidx := idxP k hk
        have hv2 := hv.out
        rw [put_drop k hk] at hv2
        have HS2 := hideL (show BIn w gp a b V k 3 (.int .i64 0) wr from ⟨0, rfl, rfl, hx, hideL hv2⟩)
        have q0 := hx.bp.c0
        have q1 := hx.bp.c1
        have q2 := hx.bp.c2
        have HX := hideL hx
        clear hx hv hv2
        have hpk := putB_size k
        obtain ⟨pk, hpk2⟩ : ∃ p, putB k = p := ⟨_, rfl⟩
        rw [hpk2] at hidx hpk
        have HPK := hideL hpk2
        clear hpk2
        go_wp2_with fail
        clear q0 q1 q2 hidx HX
        obtain ⟨w, rfl⟩ : ∃ x, x = w := ⟨_, rfl⟩
        go_loopg [21] 3 (fun g i wq => BIn w gp a b V k g i wq)
        case atStart => exact HS2.out
        case round =>
          obtain ⟨j, hjg, rfl, hx, hv⟩ := hrel
          clear HS2
          obtain ⟨W, rfl⟩ : ∃ W, W = wr := ⟨_, rfl⟩
          cases gk with
          | zero =>
            have hj3 : ¬ (j : Int) < 3 := by omega
            have hvz : outM a b (putM.drop (k + 1)) = V := by
              have h3 : j = 3 := by omega
              subst h3
              exact hv.out
            have HR := hideL (show BOut w gp a b V gx (.int .i64 ((k + 1 : Nat) : Int)) W from ⟨k + 1, by omega, rfl, hx, hideL hvz⟩)
            clear hx hv hvz
            go_wp2_with fail
            go_roundg gx
            case measure => omega
            case rel => exact HR.out
          | succ gy =>
            have hj3 : (j : Int) < 3 := by omega
            have hj : j < 3 := by omega
            have hidx := idxP j hj
            have hpj := putB_size j
            have hv2 := hv.out
            rw [put_drop j hj, HPK.out] at hv2
            obtain ⟨pj, hpj2⟩ : ∃ p, putB j = p := ⟨_, rfl⟩
            rw [hpj2] at hidx hpj hv2
            clear hpj2 hv
            have hlist : pj.data.toList ++ a.t.data.toList ++ pk.data.toList = (pj ++ ta ++ pk).data.toList := by rw [HTA.out]; simp
            have hsz : (pj ++ ta ++ pk).size ≤ 66 := by rw [ByteArray.size_append, ByteArray.size_append]; omega
            rw [inM, hlist] at hv2
            have LA2 := hideL (LA.out (pj ++ ta ++ pk) (by omega))
            have LB2 := hideL (LB.out (pj ++ ta ++ pk) (by omega))
            have LC := hideL (clone_any (pj ++ ta ++ pk) (by omega))
            clear hlist hsz
            obtain ⟨S, hS⟩ : ∃ S, pj ++ ta ++ pk = S := ⟨_, rfl⟩
            rw [hS] at LA2 LB2 LC hv2
            have HX := hideL hx
            have c1 := hx.ba.c1
            have c0 := hx.ba.c0
            rw [HKA.out] at c0
            rw [HTA.out] at c1
            clear hx
            obtain ⟨ma, hma⟩ : ∃ m, matM a S.data.toList = m := ⟨_, rfl⟩
            rw [hma] at LA2 hv2
            clear hma
            cases ma with
            | false =>
              rw [if_neg (by decide)] at hv2
              have HV2 := hideL hv2
              clear hv2
              go_wp2_with (go_at_call 14; refine (LA2.out _).mono ?_; rintro e w3 ⟨rfl, hB3⟩; have HR := hideL (show BOut w gp a b V gx (.int .i64 ((k + 1 : Nat) : Int)) w3 from ⟨k + 1, by omega, rfl, HX.out.next hB3, HV2⟩))
              go_roundg gx
              case measure => omega
              case rel => exact HR.out
            | true =>
              rw [if_pos rfl] at hv2
              obtain ⟨mb, hmb⟩ : ∃ m, matM b S.data.toList = m := ⟨_, rfl⟩
              rw [hmb] at LB2 hv2
              clear hmb
              cases mb with
              | true =>
                rw [if_pos rfl] at hv2
                have HV3 : HidL (inM a b (putB k).data.toList (outM a b (putM.drop (k + 1))) (putM.drop (j + 1)) = V) := hideL (by rw [HPK.out]; exact hv2)
                have HJ := hideL (show j + 1 + gy = 3 by omega)
                clear hv2
                go_wp2_with (go_at_call 14; first
                  | (with_reducible refine (LA2.out _).mono ?_; rintro e w3 ⟨rfl, hB3⟩; have HX3 := hideL (HX.out.next hB3); have d0 := HX3.out.bb.c0; have d1 := HX3.out.bb.c1; rw [HKB.out] at d0; rw [HTB.out] at d1)
                  | (with_reducible refine (LB2.out _).mono ?_; rintro e w4 ⟨rfl, hB4⟩; have HR := hideL (BIn.to (j := j + 1) (gh := gy) HJ.out (HX3.out.next hB4) HV3.out)))
                go_roundg gy
                case measure => omega
                case rel => exact HR.out
              | false =>
                rw [if_neg (by decide)] at hv2
                have HV2 := hideL hv2
                clear hv2
                go_wp2_with (first
                  | (go_at_call 14; first
                    | (with_reducible refine (LA2.out _).mono ?_; rintro e w3 ⟨rfl, hB3⟩; have HX3 := hideL (HX.out.next hB3); have d0 := HX3.out.bb.c0; have d1 := HX3.out.bb.c1; rw [HKB.out] at d0; rw [HTB.out] at d1)
                    | (with_reducible refine (LB2.out _).mono ?_; rintro e w4 ⟨rfl, hB4⟩; have HX4 := hideL (HX3.out.next hB4)))
                  | (go_at_call 31; refine (LC.out _).mono ?_; rintro e w5 ⟨rfl, hB5⟩; have HX5 := hideL (HX4.out.next hB5)))
                try rw [Exit.noGoto_ret]
                go_ret2
                exact ⟨by rw [← HV2.out]; rfl, HX5.out.be⟩
set_option maxRecDepth 100000 in
set_option maxHeartbeats 400000 in
theorem implies_any (a b : Tm) (ha : a.t.size ≤ 9223372036854775807) (hb : b.t.size ≤ 9223372036854775807) (w : World) : Calls Try.prog 25 #[.agg #[.int .i64 a.k, .string a.t], .agg #[.int .i64 b.k, .string b.t]] w (fun e w' => e = .returned (.bool (impM a b)) ∧ Below w.heap.size w w') := by
  have LB := hideL (beside_any a b ha hb)
  rw [imp_bes]
  unfold beV at LB
  obtain ⟨o, ho⟩ : ∃ o, (besM a b).isSome = o := ⟨_, rfl⟩
  obtain ⟨x, hx⟩ : ∃ x, bo ((besM a b).getD []) = x := ⟨_, rfl⟩
  rw [ho, hx] at LB
  rw [ho]
  clear ho hx
  have HX0 := hideL ((TBox.new w a.k a.t).next ((Below.refl _ _).alloc (Nat.le_refl _) (.cells #[.int .i64 b.k, .string b.t] 23)))
  have HB0 := hideL (((Below.refl w.heap.size w).alloc (Nat.le_refl _) (.cells #[.int .i64 a.k, .string a.t] 23)).alloc (by simp) (.cells #[.int .i64 b.k, .string b.t] 23))
  have HY0 := TBox.new (w.alloc (.cells #[.int .i64 a.k, .string a.t] 23)) b.k b.t
  rw [World.size_alloc] at HY0
  replace HY0 := hideL HY0
  obtain ⟨ka, ta⟩ := a
  obtain ⟨kb, tb⟩ := b
  dsimp only at *
  go_enter Try.func25, Try.ntmps25
  go_wp2_with (go_at_call 24; refine (LB.out _).mono ?_; rintro e w2 ⟨rfl, hB2⟩; have HB2 := hideL (HB0.out.trans (hB2.mono HB0.out.size)))
  go_ret
  exact ⟨rfl, HB2.out⟩
end Go.Proofs.Ytffbmkocmjpmeaa
