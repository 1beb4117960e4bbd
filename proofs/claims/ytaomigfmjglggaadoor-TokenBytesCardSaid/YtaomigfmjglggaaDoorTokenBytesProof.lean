/- Any token's bytes, and the token that any bytes are, are the document's: whatever the token and the bytes are, the law answers true. Where the two tables of places are as the program's text lays them: the row, and the tied card. -/
import Derived.Test.YtaomigfmjglggaaDoorTokenBytesLaw
import Derived.Test.YtaomigfmjglggaaDoorLaid
import Derived.Test.YtaomigfmjglggaaDoorFrame
import Derived.Test.YtaomigfmjglggaaDoorCards
import Derived.Test.YtaomigfmjglggaaDoorTie
import Derived.SevenTiedAt
import Derived.LaidMore
import Derived.Carry
import Derived.Test.YtaomigfmjglggaaDoorNat
import Derived.Test.YtaomigfmjglggaaDoorArgs
import Derived.Test.YtaomigfmjglggaaDoorTkLWM
namespace Go.Proofs.YtaomigfmjglggaaDoor.tokenBytes
open Go.ChangeShapes Go.WideShapes Go.ChangeAt Go.RowKit

theorem readable : ∀ t ∈ Tryd.f6.params.toList, Tryd.prog.readableRec t = true ∧ t < Tryd.prog.types.size := by
  rw [Tryd.params6]
  intro t ht
  simp at ht
  rcases ht with rfl | rfl <;> exact ⟨by kernel_rfl, of_decide_eq_true (by kernel_rfl)⟩

set_option maxRecDepth 100000 in
theorem lifted (os : Os) (started : os.Started) (H : Type) (enc : TypeId × Value → H) :
    ReturnsInHanded {} Tryd.checked os 6 .any (fun w args => (Rows.tokenBytesSpec.pre enc Tryd.prog Tryd.f6 [] false w args ∧ laidMetH Tryd.prog laidL w) ∧ sizedMet enc Tryd.prog Tryd.f6 (OpenSpec.ofChange Rows.tokenBytesSpec) false w args)
      (Rows.tokenBytesSpec.post enc Tryd.prog Tryd.f6 false true false false) := by
  refine returnsInHanded_of_change_and (C := Tryd.checked) (X := fun w _ => laidMetH Tryd.prog laidL w) (fun _ _ _ hh h => h.of_heap hh) Tryd.own started (by kernel_rfl) Tryd.func6
    (ChangeSpec.witness_shaped (enc := enc) (C := Tryd.checked) (os := os) (X := fun w _ => laidMetH Tryd.prog laidL w) false (World.doorLaid Tryd.prog 400 os) #[.agg (tkA tk0), .slice none 0 0] 8 rfl (World.shaped_of_RefB (by kernel_rfl) (by kernel_rfl)) (by kernel_rfl) (by kernel_rfl) (by kernel_rfl) (door_met os _)) ?_
  intro W base args ds gs before hval0 hW _ _ hL _
  have hval : ∀ (j : Nat) t v, Tryd.f6.params[j]? = some t → args[j]? = some v → Value.okWide Tryd.prog W .any base t v := hval0
  have hW' := hW
  obtain ⟨p, q, hA0, hV, rfl, hfz, hnd⟩ := hW
  have hA : DataW.TrodAll enc Tryd.prog W 0 (fun _ => true) true Tryd.f6.params.toList args.toList ds p := hA0
  rw [Tryd.params6] at hA hval
  have ht := tab_of_laid hL
  obtain ⟨v0, r0, d0, e0, p0, q0, a0_, b0_, c0_, h0, hA0⟩ := trodAll_cons hA
  obtain ⟨v1, r1, d1, e1, p1, q1, a1_, b1_, c1_, h1, hA1⟩ := trodAll_cons hA0
  obtain ⟨g1, g2, g3⟩ := trodAll_nil hA1
  subst g1 g2 g3
  subst a1_ b1_ c1_
  obtain rfl : args = #[v0, v1] := Array.toList_inj.1 a0_
  subst b0_ c0_
  obtain ⟨rfl, rfl⟩ := trodVars_none hV
  obtain ⟨t0, rfl, tp0⟩ := arg_tok (hval 0 31 v0 rfl rfl) h0
  obtain ⟨x1, a1, b1, m1⟩ := arg_bytes (hval 1 22 v1 rfl rfl) h1
  refine (bytes_walk t0 v1 x1 W ht tp0 a1 b1).mono fun e W' ⟨he, hb⟩ => ?_
  subst he
  exact ⟨_, rfl, law_post rfl hW' hb readable rfl rfl rfl rfl⟩

theorem row_proved : Rows.TokenBytesSaid :=
  OpenClaim.holds_of_wide 6 Tryd.f6 rfl rfl rfl rfl rfl rfl rfl ⟨rfl, rfl, rfl, rfl, rfl⟩ rfl rfl rfl rfl rfl (by kernel_rfl) Tryd.func6 (by kernel_rfl)
    (of_decide_eq_true (by kernel_rfl)) (by unfold Func.isWrapper; first | (rw [if_pos (by decide +kernel)]; kernel_rfl) | (rw [if_neg (by decide +kernel)]; exact ⟨rfl, rfl⟩))
    (fun os started H enc _ => lifted os started H enc)

theorem proved : Rows.TokenBytesCardSaid :=
  Claim7.holds_tied_plain_at .later [] [.data, .data] true (true, "faa5a8efd9b64d58eb34ad5033f695628ea52ca4e2fc4932858742437f8cfcee") false
    row_proved (fun _ h => by cases h) (by kernel_rfl) (fun _ h => by cases h) tokenBytes_row_tie rfl ⟨rfl, rfl⟩ (by kernel_rfl) rfl
    (fun f fn hf hfn => by
      obtain rfl : f = 6 := Option.some.inj ((show Tryd.prog.funcNamed "gatepost/gatepostlaw06.TokenBytes" = some 6 by kernel_rfl).symm.trans hf) |>.symm
      obtain rfl : fn = Tryd.f6 := (Option.some.inj (Tryd.func6.symm.trans hfn)).symm
      exact ⟨by kernel_rfl, fun j t ht => by
        rw [Tryd.params6] at ht
        have hm : t ∈ [31, 22] := by simpa using Array.mem_of_getElem? ht
        have hall : ([31, 22].all fun u => !Tryd.prog.wantsStandIn u) = true := by kernel_rfl
        exact (show Tryd.prog.wantsStandIn t = false by simpa using List.all_eq_true.1 hall t hm)⟩)
    (by kernel_rfl)
#print axioms proved
end Go.Proofs.YtaomigfmjglggaaDoor.tokenBytes
