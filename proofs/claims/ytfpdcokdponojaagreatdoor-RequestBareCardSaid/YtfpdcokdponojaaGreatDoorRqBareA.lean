/- RequestBare: without one of its carriage returns or line feeds, or with one more, a request without a body is none. -/
import Derived.Test.YtfpdcokdponojaaGreatDoorRqMayP
import Derived.Test.YtfpdcokdponojaaGreatDoorRqLong
import Derived.Test.YtfpdcokdponojaaGreatDoorRqAwake
import Derived.Test.YtfpdcokdponojaaGreatDoorRqArgZ
namespace Go.Proofs.YtfpdcokdponojaaGreatDoor
open Go.RowKit Go.Lib

theorem bare_size {W : World} {m t p q o : ByteArray} {h b : Sl} {y : Rq} (h1 : ReqAt W ⟨m, t, p, q, o, h, b⟩ y) (h2 : mayR y) : m.size + t.size ≤ 900000 := by
  have hw := (wrtB_parts (may_wrt h2)).1.2
  have e : (rawP y).start.length = y.method.length + y.target.length + 10 := sta_len _ _
  rw [e, ← h1.1, ← h1.2.1] at hw
  have e1 := size_list m
  have e2 := size_list t
  simp only at hw
  omega
theorem wp_append_runQ {P : Program} {o : Oper} {a : Act} {w : World} {K : Act → World → Prop} {Q : Exit → Act → World → Prop} (s x : Operand) (t tn ty : TypeId) (hop : o.op = Op.call { callee := Callee.builtin Builtin.append, args := #[s, x], argTypes := #[t, tn] })
    (hty : o.type = ty) (vs vx v : Value) (w' : World) (hs : a.eval s = vs) (hx : a.eval x = vx) (hrun : (Builtin.append_ #[t, tn] ty #[vs, vx]).run P w = .ok v w')
    (h : K (a.put o.dst v) w') : o.wp P a w K Q := by
  subst hty
  unfold Oper.wp
  simp [execOp, hop, resolve, invoke, builtin, hs, hx, hrun, Result.andThen]
  exact h
theorem and1_cases (n : Int) : bits BinOp.and IntKind.i64 n 1 = n % 2 := by
  have h1 : (BitVec.ofInt 64 1).toNat = 2 ^ 1 - 1 := by decide
  have key : (BitVec.ofInt 64 n &&& BitVec.ofInt 64 1).toNat = (n % ((2 ^ 64 : Nat) : Int)).toNat % 2 ^ 1 := by
    rw [BitVec.toNat_and, BitVec.toNat_ofInt, h1, Nat.and_two_pow_sub_one_eq_mod]
  show IntKind.i64.wrap ((BitVec.ofInt 64 n &&& BitVec.ofInt 64 1).toNat : Nat) = n % 2
  rw [key, IntKind.wrap_i64]
  omega
theorem and2_cases (n : Int) : bits BinOp.and IntKind.i64 n 2 = 0 ∨ bits BinOp.and IntKind.i64 n 2 = 2 := by
  have h2 : (BitVec.ofInt 64 2).toNat = 2 := by decide
  obtain ⟨x, hx⟩ : ∃ x, (BitVec.ofInt 64 n).toNat = x := ⟨_, rfl⟩
  have key : (BitVec.ofInt 64 n &&& BitVec.ofInt 64 2).toNat = x &&& 2 := by rw [BitVec.toNat_and, h2, hx]
  have hle : x &&& 2 ≤ 2 := Nat.and_le_right
  have hm : (x &&& 2) % 2 ^ 1 = 0 := by
    rw [Nat.and_mod_two_pow]
    show x % 2 ^ 1 &&& 0 = 0
    exact Nat.and_zero _
  show IntKind.i64.wrap ((BitVec.ofInt 64 n &&& BitVec.ofInt 64 2).toNat : Nat) = 0 ∨ IntKind.i64.wrap ((BitVec.ofInt 64 n &&& BitVec.ofInt 64 2).toNat : Nat) = 2
  rw [key, IntKind.wrap_i64]
  omega
/-- Bytes' rows: what an append leaves of all else. -/
theorem cat_bk (W : World) (B : Nat) (v : Value) (l : List UInt8) (h : GRow KB W B v l) (sv : Value) (m : List UInt8) (hs : GAt KB W sv m) (hl : l.length + m.length ≤ 1000000) (hB : B ≤ W.heap.size) :
    ∃ v' w', (Builtin.append_ #[22, 22] 22 #[v, sv]).run Tryz.prog W = .ok v' w' ∧ GRow KB w' B v' (l ++ m) ∧ Keep (fun k => v.ownBlock = some k) W w' ∧ Below B W w' := by
  have hm : (1000000 : Nat) ≤ maxLen := by decide
  obtain ⟨v', w', h1, h2, h3, _⟩ := append_g (K := KB) (P := Tryz.prog) 22 (.int .u8 0) 1 Tryz.underlying22 infoB rfl W B v l h sv m hs (by omega) (by omega) hB
  exact ⟨v', w', h1, h2, h3, h3.below (fun k hk => h.ge hk) hB⟩
theorem nilQ (W : World) (B : Nat) (hB : B ≤ W.heap.size) : GRow KB (W.alloc (.cells #[] 5)) B (.slice (some ⟨W.heap.size, 0, none⟩) 0 0) [] := GRow.lit (K := KB) W B [] hB (by decide)
theorem oneQb (W : World) (B : Nat) (hB : B ≤ W.heap.size) (c : UInt8) : GRow KB (W.alloc (.cells #[.int .u8 c.toNat] 5)) B (.slice (some ⟨W.heap.size, 0, none⟩) 1 1) [c] := GRow.lit (K := KB) W B [c] hB (by show 1 ≤ maxLen; decide)
theorem bare_len {x : Rq} (_ : mayR x) : 0 < (wrtP (rawP x)).length := List.length_pos_iff.2 (wrtP_ne _)
theorem less_len {b : List UInt8} {k : Nat} : (b.take k ++ b.drop (k + 1)).length ≤ b.length := by
  rw [List.length_append, List.length_take, List.length_drop]
  omega
theorem more_len {b : List UInt8} {k : Nat} {c : UInt8} : (b.take k ++ c :: b.drop k).length ≤ b.length + 1 := by
  rw [List.length_append, List.length_take, List.length_cons, List.length_drop]
  omega
set_option maxRecDepth 100000 in
set_option maxHeartbeats 8000000 in
theorem bare_long (m t p q o : ByteArray) (ha : Option Addr) (hn hc : Nat) (ba : Option Addr) (bn bc : Nat) (x : Rq) (at_ what : Int) (w : World) (hreq : ReqAt w ⟨m, t, p, q, o, ⟨ha, hn, hc⟩, ⟨ba, bn, bc⟩⟩ x) (hmt : m.size ≤ reachBytes ∧ t.size ≤ reachBytes) (ht : (Env w ∧ EnvS w) ∧ EnvT w) (hlg : lngP (m.size + t.size) bn x.heads = true) :
    Calls Tryz.prog 10 #[.agg #[.string m, .string t, .string p, .string q, .string o, .slice ha hn hc, .slice ba bn bc], .int .i64 at_, .int .i64 what] w fun e w' => e = .returned (.bool true) ∧ Below w.heap.size w w' := by
  have LA := hideL (fun (W : World) (hb : Below w.heap.size w W) => awake_any W (ht.1.1.next hb) (ht.1.2.next hb))
  have HX := hideL (rq_box w m t p q o (.slice ha hn hc) (.slice ba bn bc))
  have HB1 := hideL ((Below.refl w.heap.size w).alloc (Nat.le_refl _) (rqQ m t p q o (.slice ha hn hc) (.slice ba bn bc)))
  have hsa : (m ++ t).size = m.size + t.size := ByteArray.size_append
  have LL := rlong_any (m ++ t) ha hn hc ba bn bc x.heads _ (hreq.2.2.2.2.2.1.below HB1.out)
  rw [hsa] at LL
  have n1 := max_two hmt.1 hmt.2
  have x0 := HX.out.c0
  have x1 := HX.out.c1
  have x2 := HX.out.c2
  have x3 := HX.out.c3
  have x4 := HX.out.c4
  have x5 := HX.out.c5
  have x6 := HX.out.c6
  rw [hlg] at LL
  have LL := hideL LL
  clear hreq hmt ht hsa hlg
  go_enter Tryz.func10, Tryz.ntmps10
  go_wp2_with (first
    | (go_at_call 21; (with_reducible refine (LL.out).mono ?_); rintro e w2 ⟨rfl, hB⟩
       have hz3 := hB
       have HX := hideL (HX.out.next hz3)
       have x0 := HX.out.c0
       have x1 := HX.out.c1
       have x2 := HX.out.c2
       have x3 := HX.out.c3
       have x4 := HX.out.c4
       have x5 := HX.out.c5
       have x6 := HX.out.c6
       have HB2 := hideL (HB1.out.trans (hz3.mono HB1.out.size))
       clear hB hz3)
    | (go_at_call 12; (with_reducible refine (LA.out _ HB2.out).mono ?_); rintro e w3 ⟨rfl, hB⟩
       have hz3 := hB
       have HX := hideL (HX.out.next hz3)
       have x0 := HX.out.c0
       have x1 := HX.out.c1
       have x2 := HX.out.c2
       have x3 := HX.out.c3
       have x4 := HX.out.c4
       have x5 := HX.out.c5
       have x6 := HX.out.c6
       have HB3 := hideL (HB2.out.trans (hz3.mono HB2.out.size))
       clear hB hz3))
  go_ret
  exact ⟨rfl, HB3.out⟩
set_option maxRecDepth 100000 in
set_option maxHeartbeats 8000000 in
theorem bare_body (m t p q o : ByteArray) (ha : Option Addr) (hn hc : Nat) (ba : Option Addr) (bn bc : Nat) (x : Rq) (at_ what : Int) (w : World) (hreq : ReqAt w ⟨m, t, p, q, o, ⟨ha, hn, hc⟩, ⟨ba, bn, bc⟩⟩ x) (hmt : m.size ≤ reachBytes ∧ t.size ≤ reachBytes) (ht : (Env w ∧ EnvS w) ∧ EnvT w) (hlg : lngP (m.size + t.size) bn x.heads = false) (hb : 0 < bn) :
    Calls Tryz.prog 10 #[.agg #[.string m, .string t, .string p, .string q, .string o, .slice ha hn hc, .slice ba bn bc], .int .i64 at_, .int .i64 what] w fun e w' => e = .returned (.bool true) ∧ Below w.heap.size w w' := by
  have LA := hideL (fun (W : World) (hb : Below w.heap.size w W) => awake_any W (ht.1.1.next hb) (ht.1.2.next hb))
  have HX := hideL (rq_box w m t p q o (.slice ha hn hc) (.slice ba bn bc))
  have HB1 := hideL ((Below.refl w.heap.size w).alloc (Nat.le_refl _) (rqQ m t p q o (.slice ha hn hc) (.slice ba bn bc)))
  have hsa : (m ++ t).size = m.size + t.size := ByteArray.size_append
  have LL := rlong_any (m ++ t) ha hn hc ba bn bc x.heads _ (hreq.2.2.2.2.2.1.below HB1.out)
  rw [hsa] at LL
  have n1 := max_two hmt.1 hmt.2
  have x0 := HX.out.c0
  have x1 := HX.out.c1
  have x2 := HX.out.c2
  have x3 := HX.out.c3
  have x4 := HX.out.c4
  have x5 := HX.out.c5
  have x6 := HX.out.c6
  rw [hlg] at LL
  have LL := hideL LL
  have i1 : (0 : Int) < (bn : Int) := by omega
  clear hreq hmt ht hsa hlg hb
  go_enter Tryz.func10, Tryz.ntmps10
  go_wp2_with (first
    | (go_at_call 21; (with_reducible refine (LL.out).mono ?_); rintro e w2 ⟨rfl, hB⟩
       have hz3 := hB
       have HX := hideL (HX.out.next hz3)
       have x0 := HX.out.c0
       have x1 := HX.out.c1
       have x2 := HX.out.c2
       have x3 := HX.out.c3
       have x4 := HX.out.c4
       have x5 := HX.out.c5
       have x6 := HX.out.c6
       have HB2 := hideL (HB1.out.trans (hz3.mono HB1.out.size))
       clear hB hz3)
    | (go_at_call 12; (with_reducible refine (LA.out _ HB2.out).mono ?_); rintro e w3 ⟨rfl, hB⟩
       have hz3 := hB
       have HX := hideL (HX.out.next hz3)
       have x0 := HX.out.c0
       have x1 := HX.out.c1
       have x2 := HX.out.c2
       have x3 := HX.out.c3
       have x4 := HX.out.c4
       have x5 := HX.out.c5
       have x6 := HX.out.c6
       have HB3 := hideL (HB2.out.trans (hz3.mono HB2.out.size))
       clear hB hz3))
  go_ret
  exact ⟨rfl, HB3.out⟩
set_option maxRecDepth 100000 in
set_option maxHeartbeats 8000000 in
theorem bare_no (m t p q o : ByteArray) (ha : Option Addr) (hn hc : Nat) (ba : Option Addr) (bn bc : Nat) (x : Rq) (at_ what : Int) (w : World) (hreq : ReqAt w ⟨m, t, p, q, o, ⟨ha, hn, hc⟩, ⟨ba, bn, bc⟩⟩ x) (hmt : m.size ≤ reachBytes ∧ t.size ≤ reachBytes) (ht : (Env w ∧ EnvS w) ∧ EnvT w) (hlg : lngP (m.size + t.size) bn x.heads = false) (hb0 : bn = 0) (hm : ¬ mayR x) :
    Calls Tryz.prog 10 #[.agg #[.string m, .string t, .string p, .string q, .string o, .slice ha hn hc, .slice ba bn bc], .int .i64 at_, .int .i64 what] w fun e w' => e = .returned (.bool true) ∧ Below w.heap.size w w' := by
  have LA := hideL (fun (W : World) (hb : Below w.heap.size w W) => awake_any W (ht.1.1.next hb) (ht.1.2.next hb))
  have HX := hideL (rq_box w m t p q o (.slice ha hn hc) (.slice ba bn bc))
  have HB1 := hideL ((Below.refl w.heap.size w).alloc (Nat.le_refl _) (rqQ m t p q o (.slice ha hn hc) (.slice ba bn bc)))
  have hsa : (m ++ t).size = m.size + t.size := ByteArray.size_append
  have LL := rlong_any (m ++ t) ha hn hc ba bn bc x.heads _ (hreq.2.2.2.2.2.1.below HB1.out)
  rw [hsa] at LL
  have n1 := max_two hmt.1 hmt.2
  have x0 := HX.out.c0
  have x1 := HX.out.c1
  have x2 := HX.out.c2
  have x3 := HX.out.c3
  have x4 := HX.out.c4
  have x5 := HX.out.c5
  have x6 := HX.out.c6
  rw [hlg] at LL
  have LL := hideL LL
  have i1 : ¬ (0 : Int) < (bn : Int) := by omega
  obtain ⟨hl1, hl2, hl3⟩ := lngP_no hlg
  have hbn : bn = x.body.length := hreq.2.2.2.2.2.2.le.1
  have hl4 := (longP_no hl3).1
  have hsz : m.size + t.size ≤ 900000 := by omega
  have hEn := fun (W : World) (hb : Below w.heap.size w W) => ht.1.1.next hb
  have hSn := fun (W : World) (hb : Below w.heap.size w W) => ht.1.2.next hb
  have hTn := fun (W : World) (hb : Below w.heap.size w W) => ht.2.next hb
  have LB := hideL (fun (W : World) (hb : Below w.heap.size w W) => bytes_badC hm m t p q o ha hn hc ba bn bc W (hreq.below hb) (longP_fits hl3) hsz (by omega) (by omega) (hEn W hb) (hSn W hb))
  clear hreq hmt ht hsa hlg hb0 hm hl1 hl2 hl3 hl4 hbn hsz hEn hSn hTn
  go_enter Tryz.func10, Tryz.ntmps10
  go_wp2_with (first
    | (go_at_call 21; (with_reducible refine (LL.out).mono ?_); rintro e w2 ⟨rfl, hB⟩
       have hz3 := hB
       have HX := hideL (HX.out.next hz3)
       have x0 := HX.out.c0
       have x1 := HX.out.c1
       have x2 := HX.out.c2
       have x3 := HX.out.c3
       have x4 := HX.out.c4
       have x5 := HX.out.c5
       have x6 := HX.out.c6
       have HB2 := hideL (HB1.out.trans (hz3.mono HB1.out.size))
       clear hB hz3)
    | (go_at_call 31; (with_reducible refine (LB.out _ HB2.out).mono ?_); rintro e w3 ⟨rfl, hB⟩
       have hz3 := hB
       have HX := hideL (HX.out.next hz3)
       have x0 := HX.out.c0
       have x1 := HX.out.c1
       have x2 := HX.out.c2
       have x3 := HX.out.c3
       have x4 := HX.out.c4
       have x5 := HX.out.c5
       have x6 := HX.out.c6
       have HB3 := hideL (HB2.out.trans (hz3.mono HB2.out.size))
       clear hB hz3)
    | (go_at_call 12; (with_reducible refine (LA.out _ HB3.out).mono ?_); rintro e w4 ⟨rfl, hB⟩
       have hz3 := hB
       have HX := hideL (HX.out.next hz3)
       have x0 := HX.out.c0
       have x1 := HX.out.c1
       have x2 := HX.out.c2
       have x3 := HX.out.c3
       have x4 := HX.out.c4
       have x5 := HX.out.c5
       have x6 := HX.out.c6
       have HB4 := hideL (HB3.out.trans (hz3.mono HB3.out.size))
       clear hB hz3))
  go_ret
  exact ⟨rfl, HB4.out⟩
set_option maxRecDepth 100000 in
set_option maxHeartbeats 8000000 in
theorem bare_big (m t p q o : ByteArray) (ha : Option Addr) (hn hc : Nat) (ba : Option Addr) (bn bc : Nat) (x : Rq) (at_ what : Int) (w : World) (hreq : ReqAt w ⟨m, t, p, q, o, ⟨ha, hn, hc⟩, ⟨ba, bn, bc⟩⟩ x) (hmt : m.size ≤ reachBytes ∧ t.size ≤ reachBytes) (ht : (Env w ∧ EnvS w) ∧ EnvT w) (hlg : lngP (m.size + t.size) bn x.heads = false) (hb0 : bn = 0) (hm : mayR x) (hbig : 3000 < (wrtP (rawP x)).length) :
    Calls Tryz.prog 10 #[.agg #[.string m, .string t, .string p, .string q, .string o, .slice ha hn hc, .slice ba bn bc], .int .i64 at_, .int .i64 what] w fun e w' => e = .returned (.bool true) ∧ Below w.heap.size w w' := by
  have LA := hideL (fun (W : World) (hb : Below w.heap.size w W) => awake_any W (ht.1.1.next hb) (ht.1.2.next hb))
  have HX := hideL (rq_box w m t p q o (.slice ha hn hc) (.slice ba bn bc))
  have HB1 := hideL ((Below.refl w.heap.size w).alloc (Nat.le_refl _) (rqQ m t p q o (.slice ha hn hc) (.slice ba bn bc)))
  have hsa : (m ++ t).size = m.size + t.size := ByteArray.size_append
  have LL := rlong_any (m ++ t) ha hn hc ba bn bc x.heads _ (hreq.2.2.2.2.2.1.below HB1.out)
  rw [hsa] at LL
  have n1 := max_two hmt.1 hmt.2
  have x0 := HX.out.c0
  have x1 := HX.out.c1
  have x2 := HX.out.c2
  have x3 := HX.out.c3
  have x4 := HX.out.c4
  have x5 := HX.out.c5
  have x6 := HX.out.c6
  rw [hlg] at LL
  have LL := hideL LL
  have i1 : ¬ (0 : Int) < (bn : Int) := by omega
  obtain ⟨hl1, hl2, hl3⟩ := lngP_no hlg
  have hbn : bn = x.body.length := hreq.2.2.2.2.2.2.le.1
  have hl4 := (longP_no hl3).1
  have hsz : m.size + t.size ≤ 900000 := by omega
  have hEn := fun (W : World) (hb : Below w.heap.size w W) => ht.1.1.next hb
  have hSn := fun (W : World) (hb : Below w.heap.size w W) => ht.1.2.next hb
  have hTn := fun (W : World) (hb : Below w.heap.size w W) => ht.2.next hb
  have LB := hideL (fun (W : World) (hb : Below w.heap.size w W) => bytes_okC hm m t p q o ha hn hc ba bn bc W (hreq.below hb) hsz (hEn W hb) (hSn W hb) (hTn W hb))
  have hlen := bare_len hm
  obtain ⟨L, hL⟩ : ∃ L, wrtP (rawP x) = L := ⟨_, rfl⟩
  unfold BytOk at LB
  rw [hL] at LB hlen
  rw [hL] at hbig
  have i2 : (3000 : Int) < (L.length : Int) := by omega
  have i3 : (0 : Int) < (L.length : Int) := by omega
  generalize hNL : L.length = n at *
  clear hreq hmt ht hsa hlg hb0 hm hl1 hl2 hl3 hl4 hbn hsz hEn hSn hTn hlen hL hbig
  go_enter Tryz.func10, Tryz.ntmps10
  go_wp2_with (first
    | (go_at_call 21; (with_reducible refine (LL.out).mono ?_); rintro e w2 ⟨rfl, hB⟩
       have hz3 := hB
       have HX := hideL (HX.out.next hz3)
       have x0 := HX.out.c0
       have x1 := HX.out.c1
       have x2 := HX.out.c2
       have x3 := HX.out.c3
       have x4 := HX.out.c4
       have x5 := HX.out.c5
       have x6 := HX.out.c6
       have HB2 := hideL (HB1.out.trans (hz3.mono HB1.out.size))
       clear hB hz3)
    | (go_at_call 31; (with_reducible refine (LB.out _ HB2.out).mono ?_); rintro e w3 ⟨⟨r1, rfl, hbr⟩, hB⟩
       have hz3 := hB
       have HX := hideL (HX.out.next hz3)
       have x0 := HX.out.c0
       have x1 := HX.out.c1
       have x2 := HX.out.c2
       have x3 := HX.out.c3
       have x4 := HX.out.c4
       have x5 := HX.out.c5
       have x6 := HX.out.c6
       have HB3 := hideL (HB2.out.trans (hz3.mono HB2.out.size))
       obtain ⟨ra, rc, hrv⟩ := hbr.gAt.len
       rw [hrv] at hbr ⊢
       have HR := hideL hbr.gAt
       rw [hNL] at HR ⊢
       clear hbr hrv
       clear hB hz3)
    | (go_at_call 12; (with_reducible refine (LA.out _ HB3.out).mono ?_); rintro e w4 ⟨rfl, hB⟩
       have hz3 := hB
       have HX := hideL (HX.out.next hz3)
       have x0 := HX.out.c0
       have x1 := HX.out.c1
       have x2 := HX.out.c2
       have x3 := HX.out.c3
       have x4 := HX.out.c4
       have x5 := HX.out.c5
       have x6 := HX.out.c6
       have HB4 := hideL (HB3.out.trans (hz3.mono HB3.out.size))
       clear hB hz3))
  go_ret
  exact ⟨rfl, HB4.out⟩
set_option maxRecDepth 100000 in
set_option maxHeartbeats 8000000 in
theorem bare_odd (m t p q o : ByteArray) (ha : Option Addr) (hn hc : Nat) (ba : Option Addr) (bn bc : Nat) (x : Rq) (at_ what : Int) (w : World) (hreq : ReqAt w ⟨m, t, p, q, o, ⟨ha, hn, hc⟩, ⟨ba, bn, bc⟩⟩ x) (hmt : m.size ≤ reachBytes ∧ t.size ≤ reachBytes) (ht : (Env w ∧ EnvS w) ∧ EnvT w) (hlg : lngP (m.size + t.size) bn x.heads = false) (hb0 : bn = 0) (hm : mayR x) (hbig : ¬ 3000 < (wrtP (rawP x)).length) (c : UInt8) (hcq : (wrtP (rawP x)).getD ((max 0 at_).toNat % (wrtP (rawP x)).length) 0 = c) (h13 : c ≠ 13) (h10 : c ≠ 10) (hp : bits BinOp.and IntKind.i64 what 1 = 0) :
    Calls Tryz.prog 10 #[.agg #[.string m, .string t, .string p, .string q, .string o, .slice ha hn hc, .slice ba bn bc], .int .i64 at_, .int .i64 what] w fun e w' => e = .returned (.bool true) ∧ Below w.heap.size w w' := by
  have LA := hideL (fun (W : World) (hb : Below w.heap.size w W) => awake_any W (ht.1.1.next hb) (ht.1.2.next hb))
  have HX := hideL (rq_box w m t p q o (.slice ha hn hc) (.slice ba bn bc))
  have HB1 := hideL ((Below.refl w.heap.size w).alloc (Nat.le_refl _) (rqQ m t p q o (.slice ha hn hc) (.slice ba bn bc)))
  have hsa : (m ++ t).size = m.size + t.size := ByteArray.size_append
  have LL := rlong_any (m ++ t) ha hn hc ba bn bc x.heads _ (hreq.2.2.2.2.2.1.below HB1.out)
  rw [hsa] at LL
  have n1 := max_two hmt.1 hmt.2
  have x0 := HX.out.c0
  have x1 := HX.out.c1
  have x2 := HX.out.c2
  have x3 := HX.out.c3
  have x4 := HX.out.c4
  have x5 := HX.out.c5
  have x6 := HX.out.c6
  rw [hlg] at LL
  have LL := hideL LL
  have i1 : ¬ (0 : Int) < (bn : Int) := by omega
  obtain ⟨hl1, hl2, hl3⟩ := lngP_no hlg
  have hbn : bn = x.body.length := hreq.2.2.2.2.2.2.le.1
  have hl4 := (longP_no hl3).1
  have hsz : m.size + t.size ≤ 900000 := by omega
  have hEn := fun (W : World) (hb : Below w.heap.size w W) => ht.1.1.next hb
  have hSn := fun (W : World) (hb : Below w.heap.size w W) => ht.1.2.next hb
  have hTn := fun (W : World) (hb : Below w.heap.size w W) => ht.2.next hb
  have LB := hideL (fun (W : World) (hb : Below w.heap.size w W) => bytes_okC hm m t p q o ha hn hc ba bn bc W (hreq.below hb) hsz (hEn W hb) (hSn W hb) (hTn W hb))
  have hlen := bare_len hm
  obtain ⟨L, hL⟩ : ∃ L, wrtP (rawP x) = L := ⟨_, rfl⟩
  unfold BytOk at LB
  rw [hL] at LB hlen
  rw [hL] at hcq hbig
  have hb0' : x.body = [] := List.eq_nil_of_length_eq_zero (by omega)
  have i2 : ¬ (3000 : Int) < (L.length : Int) := by omega
  have i3 : (0 : Int) < (L.length : Int) := by omega
  have i4 : ((L.length : Int) == 0) = false := by rw [beq_eq_false_iff_ne]; omega
  obtain ⟨z, hz⟩ : ∃ z : Nat, max 0 at_ = (z : Int) := ⟨(max 0 at_).toNat, by omega⟩
  obtain ⟨qk, hKn⟩ : ∃ qk, z % L.length = qk := ⟨_, rfl⟩
  have hKl : qk < L.length := by rw [← hKn]; exact Nat.mod_lt _ hlen
  have hKd : Int.tmod (z : Int) (L.length : Int) = (qk : Int) := by rw [← hKn]; rfl
  have hKe : (z : Int) % (L.length : Int) = (qk : Int) := by rw [← hKn]; rfl
  have j3 : (0 : Int) ≤ (qk : Int) := by omega
  have j4 : (qk : Int) < (L.length : Int) := by omega
  have hKb : L.getD qk 0 = c := by rw [← hKn, show z = (max 0 at_).toNat by omega]; exact hcq
  have c13 : ((c.toNat : Int) == 13) = false := by
    rw [beq_eq_false_iff_ne]
    intro e
    exact h13 (UInt8.toNat_inj.1 (by show c.toNat = 13; omega))
  have c10 : ((c.toNat : Int) == 10) = false := by
    rw [beq_eq_false_iff_ne]
    intro e
    exact h10 (UInt8.toNat_inj.1 (by show c.toNat = 10; omega))
  generalize hNL : L.length = n at *
  clear hreq hmt ht hsa hlg hb0 hm hl1 hl2 hl3 hl4 hbn hsz hEn hSn hTn hlen hL hbig hcq h13 h10 hKn hb0'
  go_enter Tryz.func10, Tryz.ntmps10
  go_wp2_with (first
    | (go_at_call 21; (with_reducible refine (LL.out).mono ?_); rintro e w2 ⟨rfl, hB⟩
       have hz3 := hB
       have HX := hideL (HX.out.next hz3)
       have x0 := HX.out.c0
       have x1 := HX.out.c1
       have x2 := HX.out.c2
       have x3 := HX.out.c3
       have x4 := HX.out.c4
       have x5 := HX.out.c5
       have x6 := HX.out.c6
       have HB2 := hideL (HB1.out.trans (hz3.mono HB1.out.size))
       clear hB hz3)
    | (go_at_call 31; (with_reducible refine (LB.out _ HB2.out).mono ?_); rintro e w3 ⟨⟨r1, rfl, hbr⟩, hB⟩
       have hz3 := hB
       have HX := hideL (HX.out.next hz3)
       have x0 := HX.out.c0
       have x1 := HX.out.c1
       have x2 := HX.out.c2
       have x3 := HX.out.c3
       have x4 := HX.out.c4
       have x5 := HX.out.c5
       have x6 := HX.out.c6
       have HB3 := hideL (HB2.out.trans (hz3.mono HB2.out.size))
       obtain ⟨ra, rc, hrv⟩ := hbr.gAt.len
       rw [hrv] at hbr ⊢
       have HR := hideL hbr.gAt
       rw [hNL] at HR ⊢
       obtain ⟨bb, oo, hra, hlt, hcell⟩ := gat_byte HR.out (k := qk) hKl
       subst hra
       rw [hKb] at hcell
       clear hbr hrv
       clear hB hz3)
    | (go_at_call 12; (with_reducible refine (LA.out _ HB3.out).mono ?_); rintro e w4 ⟨rfl, hB⟩
       have hz3 := hB
       have HX := hideL (HX.out.next hz3)
       have x0 := HX.out.c0
       have x1 := HX.out.c1
       have x2 := HX.out.c2
       have x3 := HX.out.c3
       have x4 := HX.out.c4
       have x5 := HX.out.c5
       have x6 := HX.out.c6
       have HB4 := hideL (HB3.out.trans (hz3.mono HB3.out.size))
       clear hB hz3))
  go_ret
  exact ⟨rfl, HB4.out⟩
set_option maxRecDepth 100000 in
set_option maxHeartbeats 8000000 in
theorem bare_last (m t p q o : ByteArray) (ha : Option Addr) (hn hc : Nat) (ba : Option Addr) (bn bc : Nat) (x : Rq) (at_ what : Int) (w : World) (hreq : ReqAt w ⟨m, t, p, q, o, ⟨ha, hn, hc⟩, ⟨ba, bn, bc⟩⟩ x) (hmt : m.size ≤ reachBytes ∧ t.size ≤ reachBytes) (ht : (Env w ∧ EnvS w) ∧ EnvT w) (hlg : lngP (m.size + t.size) bn x.heads = false) (hb0 : bn = 0) (hm : mayR x) (hbig : ¬ 3000 < (wrtP (rawP x)).length) (hcq : (max 0 at_).toNat % (wrtP (rawP x)).length = (wrtP (rawP x)).length - 1) (hp : bits BinOp.and IntKind.i64 what 1 ≠ 0) (hp2 : bits BinOp.and IntKind.i64 what 2 = 0) :
    Calls Tryz.prog 10 #[.agg #[.string m, .string t, .string p, .string q, .string o, .slice ha hn hc, .slice ba bn bc], .int .i64 at_, .int .i64 what] w fun e w' => e = .returned (.bool true) ∧ Below w.heap.size w w' := by
  have LA := hideL (fun (W : World) (hb : Below w.heap.size w W) => awake_any W (ht.1.1.next hb) (ht.1.2.next hb))
  have HX := hideL (rq_box w m t p q o (.slice ha hn hc) (.slice ba bn bc))
  have HB1 := hideL ((Below.refl w.heap.size w).alloc (Nat.le_refl _) (rqQ m t p q o (.slice ha hn hc) (.slice ba bn bc)))
  have hsa : (m ++ t).size = m.size + t.size := ByteArray.size_append
  have LL := rlong_any (m ++ t) ha hn hc ba bn bc x.heads _ (hreq.2.2.2.2.2.1.below HB1.out)
  rw [hsa] at LL
  have n1 := max_two hmt.1 hmt.2
  have x0 := HX.out.c0
  have x1 := HX.out.c1
  have x2 := HX.out.c2
  have x3 := HX.out.c3
  have x4 := HX.out.c4
  have x5 := HX.out.c5
  have x6 := HX.out.c6
  rw [hlg] at LL
  have LL := hideL LL
  have i1 : ¬ (0 : Int) < (bn : Int) := by omega
  obtain ⟨hl1, hl2, hl3⟩ := lngP_no hlg
  have hbn : bn = x.body.length := hreq.2.2.2.2.2.2.le.1
  have hl4 := (longP_no hl3).1
  have hsz : m.size + t.size ≤ 900000 := by omega
  have hEn := fun (W : World) (hb : Below w.heap.size w W) => ht.1.1.next hb
  have hSn := fun (W : World) (hb : Below w.heap.size w W) => ht.1.2.next hb
  have hTn := fun (W : World) (hb : Below w.heap.size w W) => ht.2.next hb
  have LB := hideL (fun (W : World) (hb : Below w.heap.size w W) => bytes_okC hm m t p q o ha hn hc ba bn bc W (hreq.below hb) hsz (hEn W hb) (hSn W hb) (hTn W hb))
  have hlen := bare_len hm
  obtain ⟨L, hL⟩ : ∃ L, wrtP (rawP x) = L := ⟨_, rfl⟩
  unfold BytOk at LB
  rw [hL] at LB hlen
  rw [hL] at hcq hbig
  have hb0' : x.body = [] := List.eq_nil_of_length_eq_zero (by omega)
  have i2 : ¬ (3000 : Int) < (L.length : Int) := by omega
  have i3 : (0 : Int) < (L.length : Int) := by omega
  have i4 : ((L.length : Int) == 0) = false := by rw [beq_eq_false_iff_ne]; omega
  obtain ⟨z, hz⟩ : ∃ z : Nat, max 0 at_ = (z : Int) := ⟨(max 0 at_).toNat, by omega⟩
  obtain ⟨qk, hKn⟩ : ∃ qk, z % L.length = qk := ⟨_, rfl⟩
  have hKl : qk < L.length := by rw [← hKn]; exact Nat.mod_lt _ hlen
  have hKd : Int.tmod (z : Int) (L.length : Int) = (qk : Int) := by rw [← hKn]; rfl
  have hKe : (z : Int) % (L.length : Int) = (qk : Int) := by rw [← hKn]; rfl
  have j3 : (0 : Int) ≤ (qk : Int) := by omega
  have j4 : (qk : Int) < (L.length : Int) := by omega
  have hKb : qk = L.length - 1 := by rw [← hKn, show z = (max 0 at_).toNat by omega]; exact hcq
  have p1 : (bits BinOp.and IntKind.i64 what 1 == 0) = false := by rw [beq_eq_false_iff_ne]; exact hp
  have hw1 : IntKind.i64.wrap ((L.length : Int) - 1) = (L.length : Int) - 1 := by rw [IntWalk.i64_in _ (by omega)]
  have k1 : ((qk : Int) == (L.length : Int) - 1) = true := by rw [beq_iff_eq]; omega
  generalize hNL : L.length = n at *
  clear hreq hmt ht hsa hlg hb0 hm hl1 hl2 hl3 hl4 hbn hsz hEn hSn hTn hlen hL hbig hcq hKn hb0' hp hKb
  go_enter Tryz.func10, Tryz.ntmps10
  go_wp2_with (first
    | (go_at_call 21; (with_reducible refine (LL.out).mono ?_); rintro e w2 ⟨rfl, hB⟩
       have hz3 := hB
       have HX := hideL (HX.out.next hz3)
       have x0 := HX.out.c0
       have x1 := HX.out.c1
       have x2 := HX.out.c2
       have x3 := HX.out.c3
       have x4 := HX.out.c4
       have x5 := HX.out.c5
       have x6 := HX.out.c6
       have HB2 := hideL (HB1.out.trans (hz3.mono HB1.out.size))
       clear hB hz3)
    | (go_at_call 31; (with_reducible refine (LB.out _ HB2.out).mono ?_); rintro e w3 ⟨⟨r1, rfl, hbr⟩, hB⟩
       have hz3 := hB
       have HX := hideL (HX.out.next hz3)
       have x0 := HX.out.c0
       have x1 := HX.out.c1
       have x2 := HX.out.c2
       have x3 := HX.out.c3
       have x4 := HX.out.c4
       have x5 := HX.out.c5
       have x6 := HX.out.c6
       have HB3 := hideL (HB2.out.trans (hz3.mono HB2.out.size))
       obtain ⟨ra, rc, hrv⟩ := hbr.gAt.len
       rw [hrv] at hbr ⊢
       have HR := hideL hbr.gAt
       rw [hNL] at HR ⊢
       clear hbr hrv
       clear hB hz3)
    | (go_at_call 12; (with_reducible refine (LA.out _ HB3.out).mono ?_); rintro e w4 ⟨rfl, hB⟩
       have hz3 := hB
       have HX := hideL (HX.out.next hz3)
       have x0 := HX.out.c0
       have x1 := HX.out.c1
       have x2 := HX.out.c2
       have x3 := HX.out.c3
       have x4 := HX.out.c4
       have x5 := HX.out.c5
       have x6 := HX.out.c6
       have HB4 := hideL (HB3.out.trans (hz3.mono HB3.out.size))
       clear hB hz3))
  go_ret
  exact ⟨rfl, HB4.out⟩
end Go.Proofs.YtfpdcokdponojaaGreatDoor
