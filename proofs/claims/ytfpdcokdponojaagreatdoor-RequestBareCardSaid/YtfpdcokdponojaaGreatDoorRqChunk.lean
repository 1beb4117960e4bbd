/- A body by chunks: appendChunks. -/
import Derived.Test.YtfpdcokdponojaaGreatDoorRqBrow
namespace Go.Proofs.YtfpdcokdponojaaGreatDoor
open Go.RowKit Go.Lib

def chkS (body : List UInt8) : List UInt8 := (if body = [] then [] else hexS body.length ++ 13 :: 10 :: (body ++ [13, 10])) ++ [48, 13, 10, 13, 10]
set_option maxRecDepth 100000 in
set_option maxHeartbeats 1000000 in
theorem appendChunks_any (B : Nat) (v : Value) (l : List UInt8) (ba : Option Addr) (bn bc : Nat) (body : List UInt8) (W : World) (hr : BRow W B v l) (hb : GAt KB W (.slice ba bn bc) body) (w0 : World) (h0b : GAt KB w0 (.slice ba bn bc) body) (hlt : w0.heap.size ≤ B) (hB : B ≤ W.heap.size)
    (hl : l.length ≤ 200000) (hbl : body.length ≤ 1024) (hT : EnvT W) : Calls Tryz.prog 51 #[v, .slice ba bn bc] W (fun e w' => ∃ r : Sl, e = .returned r.v ∧ BRow w' B r.v (l ++ chkS body) ∧ Below B W w') := by
  have hbn := hb.le.1
  unfold chkS
  by_cases h0 : body = []
  · rw [if_pos h0]
    have i0 : ¬ (0 : Int) < (bn : Int) := by rw [hbn, h0]; simp
    obtain ⟨v1, w1, hrun1, hr1, hb1⟩ := bpush_str W B v l hr ⟨#[48, 13, 10, 13, 10]⟩ (by rw [show (⟨#[48, 13, 10, 13, 10]⟩ : ByteArray).size = 5 from rfl]; omega) hB
    obtain ⟨r1, rfl⟩ := hr1.slv
    have HRUN1 := hideL hrun1
    have HR1 := hideL hr1
    have HB1 := hideL hb1
    clear hr hb h0b hlt hB hl hbl hT hbn h0 hrun1 hr1 hb1
    go_enter Tryz.func51, Tryz.ntmps51
    go_wp2_with (at_builtin; refine wpList_append_runP rfl (.tmp 19) (.const (.string ⟨#[48, 13, 10, 13, 10]⟩)) 22 9 22 rfl rfl _ _ r1.v w1 rfl rfl HRUN1.out ?_)
    go_ret
    exact ⟨r1, rfl, HR1.out, HB1.out⟩
  · rw [if_neg h0]
    obtain ⟨n, hn⟩ : ∃ n, body.length = n := ⟨_, rfl⟩
    have hp : 0 < body.length := List.length_pos_iff.2 h0
    rw [hn] at hbn hbl hp ⊢
    subst hbn
    have i0 : (0 : Int) < (bn : Int) := by omega
    have hx := (hexS_size hbl).2.2
    have hsz : (bo (hexS bn)).size = (hexS bn).length := bo_size _
    have n1 : ¬ 9223372036854775807 < (bo (hexS bn)).size + 2 := by omega
    have LF := hideL (formatInt_any bn hbl W hT)
    have hs2 : (bo (hexS bn) ++ (⟨#[13, 10]⟩ : ByteArray)).size = (hexS bn).length + 2 := by rw [ByteArray.size_append, hsz]; rfl
    have hl2 : (bo (hexS bn) ++ (⟨#[13, 10]⟩ : ByteArray)).data.toList = hexS bn ++ [13, 10] := by
      rw [ByteArray.data_append, Array.toList_append, bo_list]
    have LZ : HidL (∀ w2 : World, Below W.heap.size W w2 → ∃ (v1 v2 v3 v4 : Value) (w3 w4 w5 w6 : World),
        (Builtin.append_ #[22, 9] 22 #[v, .string (bo (hexS bn) ++ (⟨#[13, 10]⟩ : ByteArray))]).run Tryz.prog w2 = .ok v1 w3 ∧
        (Builtin.append_ #[22, 22] 22 #[v1, .slice ba bn bc]).run Tryz.prog w3 = .ok v2 w4 ∧
        (Builtin.append_ #[22, 9] 22 #[v2, .string ⟨#[13, 10]⟩]).run Tryz.prog w4 = .ok v3 w5 ∧
        (Builtin.append_ #[22, 9] 22 #[v3, .string ⟨#[48, 13, 10, 13, 10]⟩]).run Tryz.prog w5 = .ok v4 w6 ∧
        BRow w6 B v4 (l ++ (hexS bn ++ 13 :: 10 :: (body ++ [13, 10]) ++ [48, 13, 10, 13, 10])) ∧ Below B W w6) := ⟨fun w2 h2 => by
      have z2 := h2.size
      obtain ⟨v1, w3, q1, r1, b1⟩ := bpush_str w2 B v l (hr.below h2) (bo (hexS bn) ++ (⟨#[13, 10]⟩ : ByteArray)) (by rw [hs2]; omega) (by omega)
      have z3 := b1.size
      obtain ⟨v2, w4, q2, r2, b2⟩ := bpush w3 B v1 _ r1 (.slice ba bn bc) body (h0b.belowW (hb.below h2) b1 hlt) (by rw [List.length_append, hl2]; simp; omega) (by omega)
      have z4 := b2.size
      obtain ⟨v3, w5, q3, r3, b3⟩ := bpush_str w4 B v2 _ r2 ⟨#[13, 10]⟩ (by rw [show (⟨#[13, 10]⟩ : ByteArray).size = 2 from rfl, List.length_append, List.length_append, hl2]; simp; omega) (by omega)
      have z5 := b3.size
      obtain ⟨v4, w6, q4, r4, b4⟩ := bpush_str w5 B v3 _ r3 ⟨#[48, 13, 10, 13, 10]⟩ (by rw [show (⟨#[48, 13, 10, 13, 10]⟩ : ByteArray).size = 5 from rfl, List.length_append, List.length_append, List.length_append, hl2]; simp; omega) (by omega)
      refine ⟨v1, v2, v3, v4, w3, w4, w5, w6, q1, q2, q3, q4, ?_, ((((h2.mono hB).trans b1).trans b2).trans b3).trans b4⟩
      rw [hl2] at r4
      rw [show l ++ (hexS bn ++ 13 :: 10 :: (body ++ [13, 10]) ++ [48, 13, 10, 13, 10]) = l ++ (hexS bn ++ [13, 10]) ++ body ++ [13, 10] ++ [48, 13, 10, 13, 10] by simp]
      exact r4⟩
    clear hr hb h0b hlt hB hl hbl hT h0 hx hsz hs2 hl2 hn hp
    go_enter Tryz.func51, Tryz.ntmps51
    go_wp2_with (first
      | (go_at_call 89; refine LF.out.mono ?_; rintro e w2 ⟨rfl, hB2⟩
         obtain ⟨v1, v2, v3, v4, w3, w4, w5, w6, q1, q2, q3, q4, hr6, hb6⟩ := LZ.out w2 hB2
         have Q1 := hideL q1
         have Q2 := hideL q2
         have Q3 := hideL q3
         have Q4 := hideL q4
         have HR6 := hideL hr6
         have HB6 := hideL hb6
         clear q1 q2 q3 q4 hr6 hb6 hB2)
      | (at_builtin; refine wpList_append_runP rfl (.tmp 8) (.tmp 12) 22 9 22 rfl rfl _ _ v1 w3 rfl rfl Q1.out ?_)
      | (at_builtin; refine wpList_append_runP rfl (.tmp 14) (.tmp 15) 22 22 22 rfl rfl _ _ v2 w4 rfl rfl Q2.out ?_)
      | (at_builtin; refine wpList_append_runP rfl (.tmp 17) (.const (.string ⟨#[13, 10]⟩)) 22 9 22 rfl rfl _ _ v3 w5 rfl rfl Q3.out ?_)
      | (at_builtin; refine wpList_append_runP rfl (.tmp 19) (.const (.string ⟨#[48, 13, 10, 13, 10]⟩)) 22 9 22 rfl rfl _ _ v4 w6 rfl rfl Q4.out ?_))
    obtain ⟨r6, hr6⟩ := HR6.out.slv
    subst hr6
    go_ret
    exact ⟨r6, rfl, HR6.out, HB6.out⟩
end Go.Proofs.YtfpdcokdponojaaGreatDoor
