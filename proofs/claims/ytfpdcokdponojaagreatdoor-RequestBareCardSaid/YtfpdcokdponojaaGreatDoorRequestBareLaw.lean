/- RequestBare: without one of its carriage returns or line feeds, or with one more, a request without a body is none. -/
import Derived.Test.YtfpdcokdponojaaGreatDoorRqBareL
import Derived.Test.YtfpdcokdponojaaGreatDoorRqBareM13
import Derived.Test.YtfpdcokdponojaaGreatDoorRqBareM10
namespace Go.Proofs.YtfpdcokdponojaaGreatDoor
open Go.RowKit Go.Lib
/-- Bare, walked. -/
theorem bare_walk (m t p q o : ByteArray) (ha : Option Addr) (hn hc : Nat) (ba : Option Addr) (bn bc : Nat) (x : Rq) (at_ what : Int) (w : World) (hreq : ReqAt w ⟨m, t, p, q, o, ⟨ha, hn, hc⟩, ⟨ba, bn, bc⟩⟩ x) (hmt : m.size ≤ reachBytes ∧ t.size ≤ reachBytes) (ht : (Env w ∧ EnvS w) ∧ EnvT w) :
    Calls Tryz.prog 10 #[.agg #[.string m, .string t, .string p, .string q, .string o, .slice ha hn hc, .slice ba bn bc], .int .i64 at_, .int .i64 what] w fun e w' => e = .returned (.bool true) ∧ Below w.heap.size w w' := by
  cases hlg : lngP (m.size + t.size) bn x.heads with
  | true => exact bare_long m t p q o ha hn hc ba bn bc x at_ what w hreq hmt ht hlg
  | false =>
    rcases Nat.eq_zero_or_pos bn with hb0 | hb
    · by_cases hm : mayR x
      · by_cases hbig : 3000 < (wrtP (rawP x)).length
        · exact bare_big m t p q o ha hn hc ba bn bc x at_ what w hreq hmt ht hlg hb0 hm hbig
        · by_cases hp : bits BinOp.and IntKind.i64 what 1 = 0
          · obtain ⟨c, hc'⟩ : ∃ c, (wrtP (rawP x)).getD ((max 0 at_).toNat % (wrtP (rawP x)).length) 0 = c := ⟨_, rfl⟩
            by_cases h13 : c = 13
            · exact bare_less m t p q o ha hn hc ba bn bc x at_ what w hreq hmt ht hlg hb0 hm hbig c hc' (.inl h13) hp
            · by_cases h10 : c = 10
              · exact bare_less m t p q o ha hn hc ba bn bc x at_ what w hreq hmt ht hlg hb0 hm hbig c hc' (.inr h10) hp
              · exact bare_odd m t p q o ha hn hc ba bn bc x at_ what w hreq hmt ht hlg hb0 hm hbig c hc' h13 h10 hp
          · rcases and2_cases what with h2 | h2
            · by_cases hl : (max 0 at_).toNat % (wrtP (rawP x)).length = (wrtP (rawP x)).length - 1
              · exact bare_last m t p q o ha hn hc ba bn bc x at_ what w hreq hmt ht hlg hb0 hm hbig hl hp h2
              · exact bare_more10 m t p q o ha hn hc ba bn bc x at_ what w hreq hmt ht hlg hb0 hm hbig h2 hl hp
            · exact bare_more13 m t p q o ha hn hc ba bn bc x at_ what w hreq hmt ht hlg hb0 hm hbig h2 hp
      · exact bare_no m t p q o ha hn hc ba bn bc x at_ what w hreq hmt ht hlg hb0 hm
    · exact bare_body m t p q o ha hn hc ba bn bc x at_ what w hreq hmt ht hlg hb
theorem bare_card (c : QV) (at_ what : Int) (w : World) (hok : ReqOk w c) (hz : RqSz c) (_ : (Lit.int .i64 at_).wf = true) (_ : (Lit.int .i64 what).wf = true) (ht : (Env w ∧ EnvS w) ∧ EnvT w) :
    Calls Tryz.prog 10 #[QV.v c, .int .i64 at_, .int .i64 what] w fun e w' => e = .returned (.bool true) ∧ Below w.heap.size w w' := by
  obtain ⟨m, t, p, q, o, ⟨ha, hn, hc⟩, ⟨ba, bn, bc⟩⟩ := c
  obtain ⟨x, hx, _⟩ := hok
  exact bare_walk m t p q o ha hn hc ba bn bc x at_ what w hx hz ht
end Go.Proofs.YtfpdcokdponojaaGreatDoor
