/- Ports, hosts, where a request leads: the program's. -/
import Derived.Test.YtafmgoekgijfgaaGreatDoorFRqHost
import Derived.Test.YtafmgoekgijfgaaGreatDoorFRqM3
import Derived.Shelf.Pu.ErrVarParseUint
namespace Go.Proofs.YtafmgoekgijfgaaGreatDoor
open Go.RowKit Go.Lib

def okP (d : List UInt8) : Bool := match Lib.parseUintB 16 d with
 | .ok _ => true
 | _ => false
theorem por_ok (d : List UInt8) : porP d = (okP d && !decide (d.head? = some 48)) := by
 have h := por_iff d
 unfold okP
 cases hp : Lib.parseUintB 16 d with
 | ok u =>
   rw [hp] at h
   by_cases h48 : d.head? = some 48
   · rw [decide_eq_true h48]
     cases hq : porP d with
     | false => rfl
     | true => exact absurd h48 (h.1 hq).2
   · rw [decide_eq_false h48]
     simp only [Bool.not_false, Bool.and_true]
     exact h.2 ⟨⟨u, rfl⟩, h48⟩
 | «syntax» =>
   rw [hp] at h
   cases hq : porP d with
   | false => rfl
   | true => obtain ⟨⟨u, hu⟩, _⟩ := h.1 hq; cases hu
 | range =>
   rw [hp] at h
   cases hq : porP d with
   | false => rfl
   | true => obtain ⟨⟨u, hu⟩, _⟩ := h.1 hq; cases hu
theorem spuint10_any (t : ByteArray) (hmax : t.size ≤ 1000000) (w : World) (hE : Env w) (hS : EnvS w) :
   Calls Tryz.prog 99 #[.string t, .int .i64 10, .int .i64 16] w fun e w' => (if okP t.data.toList = true then ∃ u : Nat, e = .returned (.tuple #[.int .u64 u, .nilIface]) else ∃ k N : Nat, e = .returned (.tuple #[.int .u64 k, .iface 201 (.pointer (some ⟨N, 0, none⟩))])) ∧ Below w.heap.size w w' := by
 unfold okP
 cases hp : Lib.parseUintB 16 t.data.toList with
 | ok u =>
   refine (Any.strconv_ParseUint_10_at16_ok Tryz.laysPu14 t (by omega) u hp w).mono ?_
   rintro e w' ⟨rfl, h⟩
   refine ⟨⟨u, rfl⟩, ?_⟩
   rcases h with rfl | rfl
   · exact Below.refl _ _
   · exact Lib.bytesWorld_below w _ t
 | «syntax» =>
   obtain ⟨ev, h1, h2⟩ := hS.err
   refine (Any.strconv_ParseUint_10_at16_syntax Tryz.laysPu14 t (by omega) hp ev w h1 h2).mono ?_
   rintro e w' ⟨N, rfl, _, _, hb⟩
   exact ⟨⟨0, N, rfl⟩, hb⟩
 | range =>
   obtain ⟨ev, h1, h2⟩ := hE.err
   refine (Any.strconv_ParseUint_10_at16_range Tryz.laysPu14 t (by omega) hp ev w h1 h2).mono ?_
   rintro e w' ⟨N, rfl, _, _, hb⟩
   exact ⟨⟨65535, N, rfl⟩, hb⟩
set_option maxRecDepth 100000 in
theorem mayPort_any (t : ByteArray) (hmax : t.size ≤ 1000000) (w : World) (hE : Env w) (hS : EnvS w) : Calls Tryz.prog 61 #[.string t] w (fun e w' => e = .returned (.bool (porP t.data.toList)) ∧ Below w.heap.size w w') := by
 have LU := spuint10_any t hmax w hE hS
 have LPRE := hideL (fun W : World => hasPre_any t ⟨#[48]⟩ W)
 have hpe : decide ((⟨#[48]⟩ : ByteArray).data.toList <+: t.data.toList) = decide (t.data.toList.head? = some 48) := hasPre_nought t
 rw [hpe] at LPRE
 rw [por_ok]
 clear hE hS hpe
 obtain ⟨z, hz⟩ : ∃ z, decide (t.data.toList.head? = some 48) = z := ⟨_, rfl⟩
 rw [hz] at LPRE ⊢
 cases hy : okP t.data.toList with
 | true =>
   rw [hy] at LU
   simp only [↓reduceIte] at LU
   have LU := hideL LU
   clear hy hz
   go_enter Tryz.func61, Tryz.ntmps61
   go_wp2_with (first
     | (go_at_call 99; refine LU.out.mono ?_; rintro e w2 ⟨⟨u, rfl⟩, hB2⟩)
     | (go_at_call 100; refine (LPRE.out _).mono ?_; rintro e w3 ⟨rfl, rfl⟩))
   go_ret
   exact ⟨by simp, hB2⟩
 | false =>
   rw [hy] at LU
   simp only [Bool.false_eq_true, ↓reduceIte] at LU
   have LU := hideL LU
   clear hy hz
   go_enter Tryz.func61, Tryz.ntmps61
   go_wp2_with (first
     | (go_at_call 99; refine LU.out.mono ?_; rintro e w2 ⟨⟨k, N, rfl⟩, hB2⟩)
     | (go_at_call 100; refine (LPRE.out _).mono ?_; rintro e w3 ⟨rfl, rfl⟩))
   go_ret
   exact ⟨by simp, hB2⟩
/-- What Trim of a host's bytes leaves. -/
abbrev hosA : ByteArray := ⟨#[97, 98, 99, 100, 101, 102, 103, 104, 105, 106, 107, 108, 109, 110, 111, 112, 113, 114, 115, 116, 117, 118, 119, 120, 121, 122, 48, 49, 50, 51, 52, 53, 54, 55, 56, 57, 46, 45]⟩
theorem hos_set : (fun c : UInt8 => hosA.data.toList.contains c) = hoB := by
 funext c
 exact all_u8 (P := fun c => hosA.data.toList.contains c = hoB c) (by decide +kernel) c
theorem dropW_nil (p : UInt8 → Bool) : ∀ l : List UInt8, l.dropWhile p = [] ↔ ∀ c ∈ l, p c = true
 | [] => by simp
 | c :: l => by
   by_cases h : p c = true
   · rw [List.dropWhile_cons_of_pos h, dropW_nil p l]
     simp [h]
   · rw [List.dropWhile_cons_of_neg h]
     simp [h]
theorem trim_nil (p : UInt8 → Bool) (s : List UInt8) : ((s.reverse.dropWhile p).reverse).dropWhile p = [] ↔ s.all p = true := by
 rw [dropW_nil, List.all_eq_true]
 constructor
 · intro h c hc
   have hd := List.takeWhile_append_dropWhile (p := p) (l := s.reverse)
   have hc' : c ∈ s.reverse := List.mem_reverse.2 hc
   rw [← hd] at hc'
   rcases List.mem_append.1 hc' with h1 | h1
   · exact List.all_eq_true.1 (List.all_takeWhile (p := p) (l := s.reverse)) c h1
   · exact h c (List.mem_reverse.2 h1)
 · intro h c hc
   exact h c (List.mem_reverse.1 ((List.dropWhile_sublist _).subset (List.mem_reverse.1 hc)))
/-- strings.Trim(s, hostLetters). -/
theorem trimH_any (s : ByteArray) (hs : s.size ≤ 1000000) (w : World) : Calls Tryz.prog 60 #[.string s, .string hosA] w (fun e w' => ∃ r : ByteArray, e = .returned (.string r) ∧ (r = ⟨#[]⟩ ↔ s.data.toList.all hoB = true) ∧ Below w.heap.size w w') := by
 have h := Any.strings_Trim_laid Tryz.lays160 (by kernel_rfl) s hosA w (by omega) (by decide) (ascii_of_all (by decide))
 refine h.mono ?_
 rintro e w' ⟨rfl, hb⟩
 refine ⟨_, rfl, ?_, hb⟩
 rw [← hos_set]
 have ht : Go.Lib.trimS s.data.toList hosA.data.toList = [] ↔ s.data.toList.all (fun c => hosA.data.toList.contains c) = true := by
   rw [← trim_nil]
   unfold Go.Lib.trimS Go.Lib.trimLeftS Go.Lib.trimRightS
   rfl
 rw [← ht]
 constructor
 · intro e; exact congrArg (fun b : ByteArray => b.data.toList) e
 · intro e
   exact bytes_ext e
set_option maxRecDepth 100000 in
theorem mayHost_walk (s h p : ByteArray) (b : Bool) (hc : ∀ W : World, Calls Tryz.prog 41 #[.string s, .string ⟨#[58]⟩] W (fun e w' => e = .returned (.tuple #[.string h, .string p, .bool b]) ∧ Below W.heap.size W w')) (hh : h.size ≤ 1000000) (hp : p.size ≤ 1000000) (w : World) (hE : Env w) (hS : EnvS w) : Calls Tryz.prog 21 #[.string s] w (fun e w' => e = .returned (.bool (!decide (h = ⟨#[]⟩) && (!decide (64 < s.size) && (h.data.toList.all hoB && (!b || porP p.data.toList))))) ∧ Below w.heap.size w w') := by
 have LC := hideL hc
 clear hc
 by_cases h0 : h = ⟨#[]⟩
 · subst h0
   rw [decide_eq_true rfl]
   clear hE hS
   go_enter Tryz.func21, Tryz.ntmps21
   go_wp2_with (go_at_call 41; refine (LC.out _).mono ?_; rintro e w2 ⟨rfl, hB2⟩)
   go_ret
   exact ⟨rfl, hB2⟩
 have hn := eqs_false h0
 rw [ByteArray.toList_eq ⟨#[]⟩] at hn
 rw [decide_eq_false h0]
 by_cases h64 : 64 < s.size
 · have i64 : (64 : Int) < (s.size : Int) := by omega
   rw [decide_eq_true h64]
   clear hE hS h0 h64
   go_enter Tryz.func21, Tryz.ntmps21
   go_wp2_with (go_at_call 41; refine (LC.out _).mono ?_; rintro e w2 ⟨rfl, hB2⟩)
   go_ret
   exact ⟨rfl, hB2⟩
 have i64 : ¬ (64 : Int) < (s.size : Int) := by omega
 rw [decide_eq_false h64]
 have LT := hideL (fun W : World => trimH_any h hh W)
 have LP := hideL (fun (W : World) (hb : Below w.heap.size w W) => mayPort_any p hp W (hE.next hb) (hS.next hb))
 clear hE hS h0 h64
 cases ha : h.data.toList.all hoB with
 | false =>
   rw [ha] at LT
   clear ha LP
   go_enter Tryz.func21, Tryz.ntmps21
   go_wp2_with (first
     | (go_at_call 41; refine (LC.out _).mono ?_; rintro e w2 ⟨rfl, hB2⟩)
     | (go_at_call 60; refine (LT.out _).mono ?_; rintro e w3 ⟨r, rfl, hr, hB3⟩; have hr1 := eqs_false (show r ≠ ⟨#[]⟩ from fun e => absurd (hr.1 e) Bool.false_ne_true); rw [ByteArray.toList_eq ⟨#[]⟩] at hr1; clear hr))
   go_ret
   exact ⟨rfl, hB2.trans (hB3.mono hB2.size)⟩
 | true =>
   rw [ha] at LT
   clear ha
   cases b with
   | false =>
     clear LP
     go_enter Tryz.func21, Tryz.ntmps21
     go_wp2_with (first
       | (go_at_call 41; refine (LC.out _).mono ?_; rintro e w2 ⟨rfl, hB2⟩)
       | (go_at_call 60; refine (LT.out _).mono ?_; rintro e w3 ⟨r, rfl, hr, hB3⟩; obtain rfl := hr.2 trivial; clear hr))
     go_ret
     exact ⟨rfl, hB2.trans (hB3.mono hB2.size)⟩
   | true =>
     obtain ⟨y, hy⟩ : ∃ y, porP p.data.toList = y := ⟨_, rfl⟩
     rw [hy] at LP ⊢
     clear hy
     go_enter Tryz.func21, Tryz.ntmps21
     go_wp2_with (first
       | (go_at_call 41; refine (LC.out _).mono ?_; rintro e w2 ⟨rfl, hB2⟩; have HB2 := hideL hB2; clear hB2)
       | (go_at_call 60; refine (LT.out _).mono ?_; rintro e w3 ⟨r, rfl, hr, hB3⟩; obtain rfl := hr.2 trivial; clear hr; have HB3 := hideL (HB2.out.trans (hB3.mono HB2.out.size)); clear hB3)
       | (go_at_call 61; refine (LP.out _ HB3.out).mono ?_; rintro e w4 ⟨rfl, hB4⟩))
     go_ret
     exact ⟨by simp, HB3.out.trans (hB4.mono HB3.out.size)⟩
theorem mayHost_any (s : ByteArray) (hs : s.size ≤ 1000000) (w : World) (hE : Env w) (hS : EnvS w) : Calls Tryz.prog 21 #[.string s] w (fun e w' => e = .returned (.bool (hosP s.data.toList).1) ∧ Below w.heap.size w w') := by
 have hz := size_list s
 have hsp := List.takeWhile_append_dropWhile (p := (· != (58 : UInt8))) (l := s.data.toList)
 have hno : (58 : UInt8) ∉ s.data.toList.takeWhile (· != 58) := fun hm => by
   have := List.all_eq_true.1 (List.all_takeWhile (p := (· != (58 : UInt8))) (l := s.data.toList)) 58 hm
   simp at this
 have hd := List.head?_dropWhile_not (p := (· != (58 : UInt8))) (l := s.data.toList)
 unfold hosP
 cases e : s.data.toList.dropWhile (· != 58) with
 | nil =>
   rw [e, List.append_nil] at hsp
   rw [hsp] at hno ⊢
   have h := mayHost_walk s s ⟨#[]⟩ false (cutB_none s 58 hno) hs (by decide) w hE hS
   refine h.mono ?_
   rintro v w' ⟨rfl, hb⟩
   refine ⟨?_, hb⟩
   congr 3
   have h0 : decide (s = ⟨#[]⟩) = decide (s.data.toList = []) := decide_eq_decide.2 ⟨fun h => by rw [h], fun h => bytes_ext h⟩
   rw [h0]
   by_cases h1 : 64 < s.data.toList.length
   · rw [if_pos (.inl h1), decide_eq_true (show 64 < s.size by omega)]; simp
   · rw [decide_eq_false (show ¬ 64 < s.size by omega)]
     by_cases h2 : s.data.toList = []
     · rw [if_pos (.inr (.inl h2)), decide_eq_true h2]; rfl
     · cases h3 : s.data.toList.all hoB with
       | false => rw [if_pos (.inr (.inr rfl))]; simp
       | true => rw [if_neg (by rintro (h | h | h); exact h1 h; exact h2 h; cases h), decide_eq_false h2]; rfl
 | cons x d =>
   rw [e] at hsp hd
   have hx : x = 58 := by simpa using hd
   subst hx
   obtain ⟨a, ha⟩ : ∃ a, s.data.toList.takeWhile (· != 58) = a := ⟨_, rfl⟩
   rw [ha] at hno hsp ⊢
   have hla : a.length ≤ s.size ∧ d.length ≤ s.size := by
     have := congrArg List.length hsp
     simp at this
     omega
   have h := mayHost_walk s (bo a) (bo d) true (cutB_hit s 58 a d hsp.symm hno hs) (by rw [bo_size]; omega) (by rw [bo_size]; omega) w hE hS
   rw [bo_list, bo_list] at h
   refine h.mono ?_
   rintro v w' ⟨rfl, hb⟩
   refine ⟨?_, hb⟩
   congr 3
   have h0 : decide (bo a = ⟨#[]⟩) = decide (a = []) := decide_eq_decide.2 ⟨fun h => by have := congrArg (fun b : ByteArray => b.data.toList) h; rwa [bo_list] at this, fun h => by rw [h]; rfl⟩
   rw [h0]
   by_cases h1 : 64 < s.data.toList.length
   · rw [if_pos (.inl h1), decide_eq_true (show 64 < s.size by omega)]; simp
   · rw [decide_eq_false (show ¬ 64 < s.size by omega)]
     by_cases h2 : a = []
     · rw [if_pos (.inr (.inl h2)), decide_eq_true h2]; rfl
     · cases h3 : a.all hoB with
       | false => rw [if_pos (.inr (.inr rfl))]; simp
       | true => rw [if_neg (by rintro (h | h | h); exact h1 h; exact h2 h; cases h), decide_eq_false h2]; simp
theorem hos_port (s : List UInt8) : (hosP s).2 = ((hosP s).1 && decide ((58 : UInt8) ∈ s)) := by
 unfold hosP
 split
 · rfl
 have hm : (58 : UInt8) ∈ s ↔ s.dropWhile (· != 58) ≠ [] := by
   rw [ne_eq, dropW_nil]
   constructor
   · intro h hx
     have := hx 58 h
     simp at this
   · intro h
     refine Decidable.byContradiction fun hn => h fun c hc => ?_
     have : c ≠ 58 := fun e => hn (e ▸ hc)
     simpa using this
 split
 · rename_i e
   rw [decide_eq_false (fun h => (hm.1 h) e)]
   rfl
 · rename_i e
   rw [decide_eq_true (hm.2 (by rw [e]; simp)), Bool.and_true]
set_option maxRecDepth 100000 in
theorem mayHostPort_any (s : ByteArray) (hs : s.size ≤ 1000000) (w : World) (hE : Env w) (hS : EnvS w) : Calls Tryz.prog 80 #[.string s] w (fun e w' => e = .returned (.bool (hosP s.data.toList).2) ∧ Below w.heap.size w w') := by
 have LM := hideL (mayHost_any s hs w hE hS)
 have LC := hideL (fun W => Any.strings_Contains_one Tryz.lays144 s 58 W)
 have hc : decide (0 ≤ Lib.indexByte s.data.toList 58) = decide ((58 : UInt8) ∈ s.data.toList) := by
   apply decide_eq_decide.2
   have := idx_iff (c := 58) (l := s.data.toList)
   constructor
   · intro h
     refine Decidable.byContradiction fun hn => ?_
     have := this.2 hn
     omega
   · intro h
     refine Decidable.byContradiction fun hn => ?_
     exact this.1 (by omega) h
 rw [hc] at LC
 rw [hos_port]
 clear hE hS hc
 obtain ⟨z, hz⟩ : ∃ z, decide ((58 : UInt8) ∈ s.data.toList) = z := ⟨_, rfl⟩
 obtain ⟨y, hy⟩ : ∃ y, (hosP s.data.toList).1 = y := ⟨_, rfl⟩
 rw [hz] at LC ⊢
 rw [hy] at LM ⊢
 clear hz hy
 cases y
 · go_enter Tryz.func80, Tryz.ntmps80
   go_wp2_with (go_at_call 21; refine LM.out.mono ?_; rintro e w2 ⟨rfl, hB2⟩)
   go_ret
   exact ⟨rfl, hB2⟩
 · go_enter Tryz.func80, Tryz.ntmps80
   go_wp2_with (first
     | (go_at_call 21; refine LM.out.mono ?_; rintro e w2 ⟨rfl, hB2⟩)
     | (go_at_call 131; refine (LC.out _).mono ?_; rintro e w3 ⟨rfl, rfl⟩))
   go_ret
   exact ⟨by simp, hB2⟩
/-- Where a request leads. -/
def desA (m t : List UInt8) : Value := match roaP m t with
 | some p => .tuple #[.string (bo p.1), .string (bo p.2), .int .i64 0]
 | none => .tuple #[.string ⟨#[]⟩, .string ⟨#[]⟩, .int .i64 2]
/-- Small letters or not: what may be a host is the same. -/
theorem sma_host (l : List UInt8) : (hosP (smaS l)).1 = (hosP (l.map smB)).1 ∧ (hosP (smaS l)).2 = (hosP (l.map smB)).2 ∧ ((hosP (smaS l)).1 = true → smaS l = l.map smB) := by
 unfold smaS
 by_cases ha : l.all asB = true
 · rw [if_pos ha]; exact ⟨rfl, rfl, fun _ => rfl⟩
 rw [if_neg ha]
 have hx : ∃ c ∈ l, asB c = false := by
   refine Decidable.byContradiction fun hn => ha (List.all_eq_true.2 fun c hc => ?_)
   cases h : asB c
   · exact absurd ⟨c, hc, h⟩ hn
   · rfl
 obtain ⟨c, hc, hcb⟩ := hx
 have hcb : ¬ c.toNat < 128 := of_decide_eq_false hcb
 have hno : ∀ s : List UInt8, c ∈ s → (hosP s).1 = false := fun s hs => by
   cases h : (hosP s).1
   · rfl
   · rcases (hos_bytes h).2 c hs with h1 | h1
     · unfold hoB at h1
       have := of_decide_eq_true h1
       omega
     · rw [h1] at hcb
       exact absurd (by decide) hcb
 have hcm : c ∈ l.map smB := List.mem_map.2 ⟨c, hc, by unfold smB; rw [if_neg (by omega)]⟩
 have h1 := hno l hc
 have h2 := hno _ hcm
 refine ⟨by rw [h1, h2], ?_, fun h => by rw [h1] at h; cases h⟩
 rw [hos_port, hos_port, h1, h2]
 rfl
theorem smaS_len (l : List UInt8) : (smaS l).length = l.length := by
 unfold smaS
 split
 · rw [List.length_map]
 · rfl
set_option maxRecDepth 100000 in
theorem destination_any (m t : ByteArray) (ht : t.size ≤ 1000000) (w : World) (hE : Env w) (hS : EnvS w) : Calls Tryz.prog 45 #[.string m, .string t] w (fun e w' => e = .returned (desA m.data.toList t.data.toList) ∧ Below w.heap.size w w') := by
 unfold desA roaP
 by_cases hm : m = ⟨#[67, 79, 78, 78, 69, 67, 84]⟩
 · have hml : m.data.toList = conL := by rw [hm]; rfl
   rw [if_pos hml]
   have e1 := eqs_true hm
   have LS := hideL (rsmall_any t ht w)
   have LH := hideL (fun W (hb : Below w.heap.size w W) => mayHostPort_any (bo (smaS t.data.toList)) (by rw [bo_size, smaS_len, size_list]; exact ht) W (hE.next hb) (hS.next hb))
   rw [bo_list, (sma_host t.data.toList).2.1] at LH
   obtain ⟨y, hy⟩ : ∃ y, (hosP (t.data.toList.map smB)).2 = y := ⟨_, rfl⟩
   rw [hy] at LH ⊢
   subst hm
   clear hE hS hy hml
   cases y
   · rw [if_neg Bool.false_ne_true]
     go_enter Tryz.func45, Tryz.ntmps45
     go_wp2_with (first
       | (go_at_call 44; refine LS.out.mono ?_; rintro e w2 ⟨rfl, hB2⟩; have HB2 := hideL hB2; clear hB2)
       | (go_at_call 80; refine (LH.out _ HB2.out).mono ?_; rintro e w3 ⟨rfl, hB3⟩))
     exact bodyPost_ret (v := .tuple #[.string ⟨#[]⟩, .string ⟨#[]⟩, .int .i64 2]) (by simp [results, Tryz.results45, go_sem]) rfl ⟨rfl, HB2.out.trans (hB3.mono HB2.out.size)⟩
   · rw [if_pos rfl]
     go_enter Tryz.func45, Tryz.ntmps45
     go_wp2_with (first
       | (go_at_call 44; refine LS.out.mono ?_; rintro e w2 ⟨rfl, hB2⟩; have HB2 := hideL hB2; clear hB2)
       | (go_at_call 80; refine (LH.out _ HB2.out).mono ?_; rintro e w3 ⟨rfl, hB3⟩))
     exact bodyPost_ret (v := .tuple #[.string ⟨#[]⟩, .string ⟨#[]⟩, .int .i64 0]) (by simp [results, Tryz.results45, go_sem]) rfl ⟨rfl, HB2.out.trans (hB3.mono HB2.out.size)⟩
 · have hml : m.data.toList ≠ conL := fun e => hm (bytes_ext e)
   rw [if_neg hml]
   have e1 := eqs_false hm
   rw [ByteArray.toList_eq ⟨#[67, 79, 78, 78, 69, 67, 84]⟩] at e1
   have LN := hideL (normal_any t ht w hS)
   unfold norA at LN
   clear hE hS hml hm
   cases hn : norP t.data.toList with
   | none =>
     rw [hn] at LN
     simp only at LN
     go_enter Tryz.func45, Tryz.ntmps45
     go_wp2_with (go_at_call 79; refine LN.out.mono ?_; rintro e w2 ⟨rfl, hB2⟩)
     exact bodyPost_ret (v := .tuple #[.string ⟨#[]⟩, .string ⟨#[]⟩, .int .i64 2]) (by simp [results, Tryz.results45, go_sem]) rfl ⟨rfl, hB2⟩
   | some p =>
     obtain ⟨p1, p2⟩ := p
     rw [hn] at LN
     simp only at LN
     go_enter Tryz.func45, Tryz.ntmps45
     go_wp2_with (go_at_call 79; refine LN.out.mono ?_; rintro e w2 ⟨rfl, hB2⟩)
     exact bodyPost_ret (v := .tuple #[.string (bo p1), .string (bo p2), .int .i64 0]) (by simp [results, Tryz.results45, go_sem]) rfl ⟨rfl, hB2⟩
end Go.Proofs.YtafmgoekgijfgaaGreatDoor
