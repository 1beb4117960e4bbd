/- A million letters a: their blocks, reckoned by the kernel in plain numbers. -/
import Derived.Test.YtjimeicfdcmfhaaPl
import Derived.Laws.BitsLemmas
namespace Go.Proofs.Ytjimeicfdcmfhaa
open Go.RowKit

def rorN (x p q : Nat) : Nat := Nat.lor (Nat.mod (Nat.mul x p) 4294967296) (Nat.div x q)
def turn1 (x : Nat) : Nat := Nat.xor (Nat.xor (rorN x 67108864 64) (rorN x 2097152 2048)) (rorN x 128 33554432)
def turn0 (x : Nat) : Nat := Nat.xor (Nat.xor (rorN x 1073741824 4) (rorN x 524288 8192)) (rorN x 1024 4194304)
def chN (e f g : Nat) : Nat := Nat.xor (Nat.land e f) (Nat.land (Nat.xor 4294967295 e) g)
def majN (a b c : Nat) : Nat := Nat.xor (Nat.xor (Nat.land a b) (Nat.land a c)) (Nat.land b c)
def rndN (k : Nat → Nat → Nat → Nat → Nat → Nat → Nat → Nat → List Nat) (a b c d e f g t1 : Nat) : List Nat :=
  k (Nat.mod (Nat.add t1 (Nat.add (turn0 a) (majN a b c))) 4294967296) a b c (Nat.mod (Nat.add d t1) 4294967296) e f g
noncomputable def roundsN : List Nat → Nat → Nat → Nat → Nat → Nat → Nat → Nat → Nat → (Nat → Nat → Nat → Nat → Nat → Nat → Nat → Nat → List Nat) → List Nat :=
  fun l => List.rec (motive := fun _ => Nat → Nat → Nat → Nat → Nat → Nat → Nat → Nat → (Nat → Nat → Nat → Nat → Nat → Nat → Nat → Nat → List Nat) → List Nat)
    (fun a b c d e f g h k => k a b c d e f g h)
    (fun kw _ ih a b c d e f g h k => rndN (fun a b c d e f g h => ih a b c d e f g h k) a b c d e f g (Nat.add (Nat.add h kw) (Nat.add (turn1 e) (chN e f g)))) l
def adN (x y : Nat) : Nat := Nat.mod (Nat.add x y) 4294967296
def kwN : List Nat := [2750124281, 3533219314, 4683095344, 5554781446, 2595759036, 3142742866, 4087407621, 4504535094, 5258152953, 1944370274, 2240997151, 3060653860, 3558850261, 3795850079, 4248659976, 4881994453, 7962470397, 8149304770, 1109373709, 1449834259, 1332383432, 1811277571, 5697566716, 4336890837, 4651386783, 7023905028, 4167673427, 6075095564, 3506461443, 6222891004, 3100717738, 957412701, 3211936012, 2525724465, 5192624004, 2750766458, 3733122911, 5785415788, 5302099131, 4510137934, 4494867471, 3051847127, 6841751890, 5493434369, 5416391400, 6288792078, 4206943767, 1385611443, 2838015846, 4615462549, 2870002303, 4911289699, 3868675357, 5105900214, 4192983651, 4114851946, 2567787456, 3518289627, 3043469264, 3431775655, 2875437985, 3700493388, 7133747437, 3572068108]
noncomputable def runN : Nat → Nat → Nat → Nat → Nat → Nat → Nat → Nat → Nat → List Nat :=
  fun n => Nat.rec (motive := fun _ => Nat → Nat → Nat → Nat → Nat → Nat → Nat → Nat → List Nat)
    (fun a b c d e f g h => [a, b, c, d, e, f, g, h])
    (fun _ ih a b c d e f g h => roundsN kwN a b c d e f g h (fun a' b' c' d' e' f' g' h' => ih (adN a a') (adN b b') (adN c c') (adN d d') (adN e e') (adN f f') (adN g g') (adN h h'))) n
theorem runN_succ (n a b c d e f g h : Nat) : runN (n + 1) a b c d e f g h = roundsN kwN a b c d e f g h (fun a' b' c' d' e' f' g' h' => runN n (adN a a') (adN b b') (adN c c') (adN d d') (adN e e') (adN f f') (adN g g') (adN h h')) := rfl
theorem roundsN_cons (kw : Nat) (l : List Nat) (a b c d e f g h : Nat) (k : Nat → Nat → Nat → Nat → Nat → Nat → Nat → Nat → List Nat) :
    roundsN (kw :: l) a b c d e f g h k = roundsN l (Nat.mod (Nat.add (Nat.add (Nat.add h kw) (Nat.add (turn1 e) (chN e f g))) (Nat.add (turn0 a) (majN a b c))) 4294967296) a b c (Nat.mod (Nat.add d (Nat.add (Nat.add h kw) (Nat.add (turn1 e) (chN e f g)))) 4294967296) e f g k := rfl

theorem wraps_u32 (n : Int) (h₀ : 0 ≤ n) (h₁ : n < 2 ^ 32) : IntKind.u32.wrap n = n := by rw [IntKind.wrap_u32]; omega
theorem u32_and (x y : Nat) (hx : x < 4294967296) (hy : y < 4294967296) : bits BinOp.and IntKind.u32 x y = ((Nat.land x y : Nat) : Int) := (bits_nat .u32 32 (by decide) wraps_u32 x y (by omega) (by omega)).1
theorem u32_or (x y : Nat) (hx : x < 4294967296) (hy : y < 4294967296) : bits BinOp.or IntKind.u32 x y = ((Nat.lor x y : Nat) : Int) := (bits_nat .u32 32 (by decide) wraps_u32 x y (by omega) (by omega)).2
theorem u32_xor (x y : Nat) (hx : x < 4294967296) (hy : y < 4294967296) : bits BinOp.xor IntKind.u32 x y = ((Nat.xor x y : Nat) : Int) := by
  have h : x ^^^ y < 2 ^ 32 := Nat.xor_lt_two_pow (n := 32) hx hy
  simp only [bits, BitVec.ofInt_natCast, BitVec.toNat_xor, BitVec.toNat_ofNat, show IntKind.u32.bits = 32 from rfl]
  rw [Nat.mod_eq_of_lt (a := x) (by omega), Nat.mod_eq_of_lt (a := y) (by omega)]
  exact wraps_u32 _ (by omega) (by omega)
theorem lt_xor {x y : Nat} (hx : x < 4294967296) (hy : y < 4294967296) : Nat.xor x y < 4294967296 := Nat.xor_lt_two_pow (n := 32) hx hy
theorem lt_and {x y : Nat} (_hx : x < 4294967296) (hy : y < 4294967296) : Nat.land x y < 4294967296 := Nat.and_lt_two_pow (n := 32) x hy
theorem lt_or {x y : Nat} (hx : x < 4294967296) (hy : y < 4294967296) : Nat.lor x y < 4294967296 := Nat.or_lt_two_pow (n := 32) hx hy

theorem rorN_lt (x p q : Nat) (hx : x < 4294967296) : rorN x p q < 4294967296 := by
  refine lt_or (Nat.mod_lt _ (by omega)) ?_
  exact Nat.lt_of_le_of_lt (Nat.div_le_self x q) hx
theorem rorN_eq (x n p q : Nat) (hx : x < 4294967296) (hp : (2 : Int) ^ (32 - n) = p) (hq : (2 : Int) ^ n = q) : rorS x n = (rorN x p q : Int) := by
  have h := u32_or (x * p % 4294967296) (x / q) (Nat.mod_lt _ (by omega)) (Nat.lt_of_le_of_lt (Nat.div_le_self _ _) hx)
  have e1 : (x : Int) * (p : Int) % 4294967296 = ((x * p % 4294967296 : Nat) : Int) := by
    have := Int.natCast_mul x p
    omega
  have e2 : (x : Int) / (q : Int) = ((x / q : Nat) : Int) := (Int.natCast_ediv x q).symm
  rw [rorS, hp, hq, e1, e2, h]
  rfl
theorem turn1_lt (x : Nat) (hx : x < 4294967296) : turn1 x < 4294967296 := lt_xor (lt_xor (rorN_lt _ _ _ hx) (rorN_lt _ _ _ hx)) (rorN_lt _ _ _ hx)
theorem turn0_lt (x : Nat) (hx : x < 4294967296) : turn0 x < 4294967296 := lt_xor (lt_xor (rorN_lt _ _ _ hx) (rorN_lt _ _ _ hx)) (rorN_lt _ _ _ hx)
theorem turn1_eq (x : Nat) (hx : x < 4294967296) : turnS x 6 11 25 = (turn1 x : Int) := by
  rw [turnS, rorN_eq x 6 67108864 64 hx (by decide) (by decide), rorN_eq x 11 2097152 2048 hx (by decide) (by decide), rorN_eq x 25 128 33554432 hx (by decide) (by decide), u32_xor _ _ (rorN_lt _ _ _ hx) (rorN_lt _ _ _ hx), u32_xor _ _ (lt_xor (rorN_lt _ _ _ hx) (rorN_lt _ _ _ hx)) (rorN_lt _ _ _ hx)]
  rfl
theorem turn0_eq (x : Nat) (hx : x < 4294967296) : turnS x 2 13 22 = (turn0 x : Int) := by
  rw [turnS, rorN_eq x 2 1073741824 4 hx (by decide) (by decide), rorN_eq x 13 524288 8192 hx (by decide) (by decide), rorN_eq x 22 1024 4194304 hx (by decide) (by decide), u32_xor _ _ (rorN_lt _ _ _ hx) (rorN_lt _ _ _ hx), u32_xor _ _ (lt_xor (rorN_lt _ _ _ hx) (rorN_lt _ _ _ hx)) (rorN_lt _ _ _ hx)]
  rfl
theorem chN_eq (e f g : Nat) (he : e < 4294967296) (hf : f < 4294967296) (hg : g < 4294967296) : chS e f g = (chN e f g : Int) := by
  have h0 : (4294967295 : Nat) < 4294967296 := by omega
  rw [chS, not32, show IntKind.u32.max = ((4294967295 : Nat) : Int) from rfl, u32_xor _ _ h0 he, u32_and _ _ he hf, u32_and _ _ (lt_xor h0 he) hg, u32_xor _ _ (lt_and he hf) (lt_and (lt_xor h0 he) hg)]
  rfl
theorem majN_eq (a b c : Nat) (ha : a < 4294967296) (hb : b < 4294967296) (hc : c < 4294967296) : majS a b c = (majN a b c : Int) := by
  rw [majS, u32_and _ _ ha hb, u32_and _ _ ha hc, u32_and _ _ hb hc, u32_xor _ _ (lt_and ha hb) (lt_and ha hc), u32_xor _ _ (lt_xor (lt_and ha hb) (lt_and ha hc)) (lt_and hb hc)]
  rfl

/-- Eight words as a state. -/
def stN (a b c d e f g h : Nat) : List Int := [a, b, c, d, e, f, g, h]
def small (a b c d e f g h : Nat) : Prop := a < 4294967296 ∧ b < 4294967296 ∧ c < 4294967296 ∧ d < 4294967296 ∧ e < 4294967296 ∧ f < 4294967296 ∧ g < 4294967296 ∧ h < 4294967296

theorem stepN (a b c d e f g h kw : Nat) (k w : Int) (hkw : k + w = kw) (hs : small a b c d e f g h) :
    stepS (stN a b c d e f g h) k w = stN (Nat.mod (Nat.add (Nat.add (Nat.add h kw) (Nat.add (turn1 e) (chN e f g))) (Nat.add (turn0 a) (majN a b c))) 4294967296) a b c (Nat.mod (Nat.add d (Nat.add (Nat.add h kw) (Nat.add (turn1 e) (chN e f g)))) 4294967296) e f g := by
  obtain ⟨ha, hb, hc, hd, he, hf, hg, hh⟩ := hs
  have e1 : t1S (stN a b c d e f g h) k w = ((Nat.add (Nat.add h kw) (Nat.add (turn1 e) (chN e f g)) : Nat) : Int) := by
    show (h : Int) + turnS (e : Int) 6 11 25 + chS (e : Int) (f : Int) (g : Int) + k + w = _
    rw [turn1_eq e he, chN_eq e f g he hf hg]
    generalize turn1 e = t
    generalize chN e f g = u
    show _ = ((h + kw + (t + u) : Nat) : Int)
    omega
  have e2 : t2S (stN a b c d e f g h) = ((Nat.add (turn0 a) (majN a b c) : Nat) : Int) := by
    show turnS (a : Int) 2 13 22 + majS (a : Int) (b : Int) (c : Int) = _
    rw [turn0_eq a ha, majN_eq a b c ha hb hc]
    rfl
  rw [stepS, e1, e2]
  generalize Nat.add (Nat.add h kw) (Nat.add (turn1 e) (chN e f g)) = t
  generalize Nat.add (turn0 a) (majN a b c) = u
  have q1 : ((t : Int) + u) % 4294967296 = (((t + u) % 4294967296 : Nat) : Int) := by omega
  have q2 : ((d : Int) + t) % 4294967296 = (((d + t) % 4294967296 : Nat) : Int) := by omega
  show [((t : Int) + u) % 4294967296, (a : Int), b, c, ((d : Int) + t) % 4294967296, e, f, g] = [(((t + u) % 4294967296 : Nat) : Int), (a : Int), b, c, (((d + t) % 4294967296 : Nat) : Int), e, f, g]
  rw [q1, q2]

/-- The words of a block of letters a, each with its key. -/
def aBlk : List Int := List.replicate 64 97
set_option maxRecDepth 100000 in
theorem kw_all : ∀ i : Fin 64, nth keysS i.val + nth (wordsS aBlk) i.val = ((kwN.getD i.val 0 : Nat) : Int) := by decide +kernel
theorem kw_len : kwN.length = 64 := by decide

theorem run_rounds (H : List Int) : ∀ n i a b c d e f g h, i + n = 64 → roundsS H keysS (wordsS aBlk) i = stN a b c d e f g h → small a b c d e f g h →
    ∃ a' b' c' d' e' f' g' h', roundsS H keysS (wordsS aBlk) 64 = stN a' b' c' d' e' f' g' h' ∧ small a' b' c' d' e' f' g' h' ∧ ∀ k, roundsN (kwN.drop i) a b c d e f g h k = k a' b' c' d' e' f' g' h'
  | 0, i, a, b, c, d, e, f, g, h, hi, hr, hs => by
    obtain rfl : i = 64 := by omega
    exact ⟨a, b, c, d, e, f, g, h, hr, hs, fun k => rfl⟩
  | n + 1, i, a, b, c, d, e, f, g, h, hi, hr, hs => by
    have hil : i < kwN.length := by rw [kw_len]; omega
    have hk := kw_all ⟨i, by omega⟩
    have hd : kwN.drop i = kwN.getD i 0 :: kwN.drop (i + 1) := by
      rw [List.drop_eq_getElem_cons hil, List.getD, List.getElem?_eq_getElem hil]
      rfl
    generalize kwN.getD i 0 = kw at hk hd
    have hstep := stepN a b c d e f g h kw _ _ hk hs
    rw [← hr] at hstep
    obtain ⟨a', b', c', d', e', f', g', h', r1, r2, r3⟩ := run_rounds H n (i + 1) _ _ _ _ _ _ _ _ (by omega) hstep ⟨Nat.mod_lt _ (by omega), hs.1, hs.2.1, hs.2.2.1, Nat.mod_lt _ (by omega), hs.2.2.2.2.1, hs.2.2.2.2.2.1, hs.2.2.2.2.2.2.1⟩
    refine ⟨a', b', c', d', e', f', g', h', r1, r2, fun k => ?_⟩
    rw [hd, roundsN_cons]
    exact r3 k

theorem addUp8 (a b c d e f g h a' b' c' d' e' f' g' h' : Nat) : addUp (stN a b c d e f g h) (stN a' b' c' d' e' f' g' h') 8 = stN (adN a a') (adN b b') (adN c c') (adN d d') (adN e e') (adN f f') (adN g g') (adN h h') := by
  have ad : ∀ x y : Nat, ((x : Int) + y) % 4294967296 = (adN x y : Int) := fun x y => by
    show _ = (((x + y) % 4294967296 : Nat) : Int)
    omega
  show [((a : Int) + a') % 4294967296, ((b : Int) + b') % 4294967296, ((c : Int) + c') % 4294967296, ((d : Int) + d') % 4294967296, ((e : Int) + e') % 4294967296, ((f : Int) + f') % 4294967296, ((g : Int) + g') % 4294967296, ((h : Int) + h') % 4294967296] = _
  simp only [ad]
  rfl

/-- n blocks of letters a. -/
theorem run_blocks (sv X : List Int) : ∀ n m a b c d e f g h, (∀ j, j < n → (X.drop (64 * (m + j))).take 64 = aBlk) → stAt sv X m = stN a b c d e f g h → small a b c d e f g h →
    ∀ a' b' c' d' e' f' g' h', runN n a b c d e f g h = [a', b', c', d', e', f', g', h'] → stAt sv X (m + n) = stN a' b' c' d' e' f' g' h' ∧ small a' b' c' d' e' f' g' h'
  | 0, m, a, b, c, d, e, f, g, h, _, hst, hs => fun a' b' c' d' e' f' g' h' hr => by
    have : [a, b, c, d, e, f, g, h] = [a', b', c', d', e', f', g', h'] := hr
    simp only [List.cons.injEq, and_true] at this
    obtain ⟨rfl, rfl, rfl, rfl, rfl, rfl, rfl, rfl⟩ := this
    exact ⟨hst, hs⟩
  | n + 1, m, a, b, c, d, e, f, g, h, hX, hst, hs => fun a' b' c' d' e' f' g' h' hr => by
    obtain ⟨a1, b1, c1, d1, e1, f1, g1, h1, r1, r2, r3⟩ := run_rounds (stN a b c d e f g h) 64 0 a b c d e f g h rfl rfl hs
    have hnext : stAt sv X (m + 1) = stN (adN a a1) (adN b b1) (adN c c1) (adN d d1) (adN e e1) (adN f f1) (adN g g1) (adN h h1) := by
      rw [stAt, show 64 * m = 64 * (m + 0) from by omega, hX 0 (by omega), hst, takeS, r1, addUp8]
    rw [runN_succ, show kwN = kwN.drop 0 from rfl, r3] at hr
    have := run_blocks sv X n (m + 1) _ _ _ _ _ _ _ _ (fun j hj => by rw [show m + 1 + j = m + (j + 1) from by omega]; exact hX (j + 1) (by omega)) hnext ⟨Nat.mod_lt _ (by omega), Nat.mod_lt _ (by omega), Nat.mod_lt _ (by omega), Nat.mod_lt _ (by omega), Nat.mod_lt _ (by omega), Nat.mod_lt _ (by omega), Nat.mod_lt _ (by omega), Nat.mod_lt _ (by omega)⟩ _ _ _ _ _ _ _ _ hr
    rw [show m + (n + 1) = m + 1 + n from by omega]
    exact this
end Go.Proofs.Ytjimeicfdcmfhaa
