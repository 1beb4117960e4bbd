/- RequestMay: whether any request may be, its bytes; whether two are the same; whether a text may be a host. Where the listed tables of Go's library are as its text lays them: the row, and the tied card. -/
import Derived.Test.YtafmgoekgijfgaaGreatDoorYRequestMayLaw
import Derived.Test.YtafmgoekgijfgaaGreatDoorYRqMB
import Derived.Test.YtafmgoekgijfgaaGreatDoorYRqM6
import Derived.Test.YtafmgoekgijfgaaGreatDoorCards
import Derived.Test.YtafmgoekgijfgaaGreatDoorTie
import Derived.SevenTiedAt
import Derived.LaidMore
import Derived.ChangeMaps5
namespace Go.Proofs.YtafmgoekgijfgaaGreatDoor.requestMay
open Go.ChangeShapes Go.WideShapes Go.ChangeAt Go.RowKit

theorem readable : ∀ t ∈ Tryz.f5.params.toList, Tryz.prog.readableRec t = true ∧ t < Tryz.prog.types.size := by
 rw [Tryz.params5]
 intro t ht
 simp at ht
 rcases ht with rfl | rfl | rfl <;> exact ⟨by kernel_rfl, of_decide_eq_true (by kernel_rfl)⟩

set_option maxRecDepth 100000 in
theorem lifted (os : Os) (started : os.Started) (H : Type) (enc : TypeId × Value → H) :
   ReturnsInHanded {} Tryz.checked os 5 .any (fun w args => (Rows.requestMaySpec.pre enc Tryz.prog Tryz.f5 [] false w args ∧ laidMetH Tryz.prog laidL w) ∧ sizedMet enc Tryz.prog Tryz.f5 (OpenSpec.ofChange Rows.requestMaySpec) false w args)
     (Rows.requestMaySpec.post enc Tryz.prog Tryz.f5 false true false false) := by
 refine handed_laidZ (C := Tryz.checked) (X := fun w _ => laidMetH Tryz.prog laidL w) (fun _ _ _ hh h => h.of_heap hh) Tryz.own started (by kernel_rfl) Tryz.func5
   (ChangeSpec.witness_shaped (enc := enc) (C := Tryz.checked) (os := os) (X := fun w _ => laidMetH Tryz.prog laidL w) false (World.laidAll Tryz.prog os laidL) #[.agg #[.string default, .string default, .string default, .string default, .string default, .slice none 0 0, .slice none 0 0], .agg #[.string default, .string default, .string default, .string default, .string default, .slice none 0 0, .slice none 0 0], .string default] 8 (World.laidAll_os _ _ _) (World.shaped_of_ZipB (by kernel_rfl) (by kernel_rfl)) (by kernel_rfl) (by kernel_rfl) (by kernel_rfl) (door_met os _)) ?_
 intro W base args ds gs before hval0 hW _ hL _ hz0
 have hval : ∀ (j : Nat) t v, Tryz.f5.params[j]? = some t → args[j]? = some v → Value.okWide Tryz.prog W .any base t v := hval0
 have hW' := hW
 obtain ⟨p, q, hA0, hV, rfl, hfz, hnd⟩ := hW
 have hA : DataW.TrodAll enc Tryz.prog W 0 (fun _ => true) true Tryz.f5.params.toList args.toList ds p := hA0
 rw [Tryz.params5] at hA hval
 have ht := env_of_laid3 hL
 obtain ⟨v0, v1, v2, d0, d1, d2, p0, p1, p2, rfl, rfl, rfl, h0, h1, h2⟩ := trodAll_three hA
 obtain ⟨rfl, rfl⟩ := trodVars_none hV
 rw [Tryz.params5] at hz0
 obtain ⟨x0, rfl, a0⟩ := arg_req (hval 0 26 v0 rfl rfl) h0
 have z0 := req_szD5 h0 (fun k hk => of_decide_eq_true (List.all_eq_true.1 hz0 k (DataW.weights_mem_each (j := 0) (t := 26) (d := d0) rfl rfl k hk)))
 obtain ⟨x1, rfl, a1⟩ := arg_req (hval 1 26 v1 rfl rfl) h1
 have z1 := req_szD5 h1 (fun k hk => of_decide_eq_true (List.all_eq_true.1 hz0 k (DataW.weights_mem_each (j := 1) (t := 26) (d := d1) rfl rfl k hk)))
 obtain ⟨x2, rfl, rfl, rfl, _m2⟩ := Go.ChangeMaps.open_string Tryz.underlying9 (hval 2 9 v2 rfl rfl) h2
 refine (rmay_walk x0 x1 x2 W a0 z0 a1 z1 ht).mono fun e W' ⟨he, hb⟩ => ?_
 subst he
 exact ⟨_, rfl, law_post rfl hW' hb readable rfl rfl rfl rfl⟩

theorem row_proved : Rows.RequestMaySaid :=
 OpenClaim.holds_of_wide 5 Tryz.f5 rfl rfl rfl rfl rfl rfl rfl ⟨rfl, rfl, rfl, rfl, rfl⟩ rfl rfl rfl rfl rfl (by kernel_rfl) Tryz.func5 (by kernel_rfl)
   (of_decide_eq_true (by kernel_rfl)) (by unfold Func.isWrapper; first | (rw [if_pos (by decide +kernel)]; kernel_rfl) | (rw [if_neg (by decide +kernel)]; exact ⟨rfl, rfl⟩))
   (fun os started H enc _ => lifted os started H enc)

theorem proved : Rows.RequestMayCardSaid :=
 Claim7.holds_tied_plain_at .later [] [.data, .data, .data, .data, .sentinel, .sentinel, .pinned, .pinned] true (true, "0df606dcdb3c1a85892eb21600ec869dee341e8673be7dbb440ed0cb637b0dcc") true
   row_proved (fun _ h => by cases h) (by kernel_rfl) (fun _ h => by cases h) requestMay_row_tie rfl ⟨rfl, rfl⟩ (by kernel_rfl) rfl
   (fun f fn hf hfn => by
     obtain rfl : f = 5 := Option.some.inj ((show Tryz.prog.funcNamed "gatepost/gatepostlaw10.RequestMay" = some 5 by kernel_rfl).symm.trans hf) |>.symm
     obtain rfl : fn = Tryz.f5 := (Option.some.inj (Tryz.func5.symm.trans hfn)).symm
     exact ⟨by kernel_rfl, fun j t ht => by
       rw [Tryz.params5] at ht
       have hm : t ∈ [26, 26, 9] := by simpa using Array.mem_of_getElem? ht
       have hall : ([26, 26, 9].all fun u => !Tryz.prog.wantsStandIn u) = true := by kernel_rfl
       exact (show Tryz.prog.wantsStandIn t = false by simpa using List.all_eq_true.1 hall t hm)⟩)
   (by kernel_rfl)
#print axioms proved
end Go.Proofs.YtafmgoekgijfgaaGreatDoor.requestMay
