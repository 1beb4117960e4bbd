/- Plain mathematics of SHA-256 in the model's own words for numbers: no program is named here. -/
import Derived.WalkKit
import Derived.Test.YteocienbfhgmjaaArr
namespace Go.Proofs.Yteocienbfhgmjaa
open Go.RowKit

/-- A word turned right by n places, as a left shift by 32 - n beside a right shift by n. -/
def rorS (x : Int) (n : Nat) : Int := bits BinOp.or IntKind.u32 (x * 2 ^ (32 - n) % 4294967296) (x / 2 ^ n)

def turnS (x : Int) (i j k : Nat) : Int := bits BinOp.xor IntKind.u32 (bits BinOp.xor IntKind.u32 (rorS x i) (rorS x j)) (rorS x k)

theorem and31 : ∀ k : Fin 32, 1 ≤ k.val → bits BinOp.and IntKind.u64 (IntKind.u64.wrap (-(k.val : Int))) 31 = ((32 - k.val : Nat) : Int) := by decide +kernel

def zeros64 : List Int := List.replicate 64 0
theorem length_zeros64 : zeros64.length = 64 := rfl

/-- The first sixteen words of a block, byte by byte: the word that byte k goes into, behind it; all words behind k bytes. -/
def packStep (old b : Int) : Int := bits BinOp.or IntKind.u32 (old * 256 % 4294967296) (b % 4294967296)
def packW (bs : List Int) : Nat → List Int
  | 0 => zeros64
  | k + 1 => (packW bs k).set (k / 4) (packStep (nth (packW bs k) (k / 4)) (nth bs k))
def packV (bs : List Int) (k : Nat) : Int := packStep (nth (packW bs k) (k / 4)) (nth bs k)
theorem length_packW (bs : List Int) : ∀ k, (packW bs k).length = 64
  | 0 => rfl
  | k + 1 => by rw [packW, List.length_set, length_packW bs k]

/-- The further words of a block. -/
def sig0 (x : Int) : Int := bits BinOp.xor IntKind.u32 (bits BinOp.xor IntKind.u32 (rorS x 7) (rorS x 18)) (x / 8)
def sig1 (x : Int) : Int := bits BinOp.xor IntKind.u32 (bits BinOp.xor IntKind.u32 (rorS x 17) (rorS x 19)) (x / 1024)
def schedVal (v : List Int) (k : Nat) : Int := (sig1 (nth v (k - 2)) + nth v (k - 7) + sig0 (nth v (k - 15)) + nth v (k - 16)) % 4294967296
def sched (v : List Int) : Nat → List Int
  | 0 => v
  | k + 1 => if 16 ≤ k then (sched v k).set k (schedVal (sched v k) k) else sched v k
theorem length_sched (v : List Int) : ∀ k, (sched v k).length = v.length
  | 0 => rfl
  | k + 1 => by
    rw [sched]
    split
    · rw [List.length_set, length_sched v k]
    · exact length_sched v k
theorem sched_succ (v : List Int) (k : Nat) (h : 16 ≤ k) : sched v (k + 1) = (sched v k).set k (schedVal (sched v k) k) := by rw [sched, if_pos h]
theorem sched_16 (v : List Int) : sched v 16 = v := by simp [sched]
/-- All words of a block. -/
def wordsS (bs : List Int) : List Int := sched (packW bs 64) 64
theorem length_wordsS (bs : List Int) : (wordsS bs).length = 64 := by rw [wordsS, length_sched, length_packW]

/-- The state behind a block. -/
def not32 (x : Int) : Int := bits BinOp.xor IntKind.u32 IntKind.u32.max x
def chS (e f g : Int) : Int := bits BinOp.xor IntKind.u32 (bits BinOp.and IntKind.u32 e f) (bits BinOp.and IntKind.u32 (not32 e) g)
def majS (a b c : Int) : Int := bits BinOp.xor IntKind.u32 (bits BinOp.xor IntKind.u32 (bits BinOp.and IntKind.u32 a b) (bits BinOp.and IntKind.u32 a c)) (bits BinOp.and IntKind.u32 b c)
def t1S (s : List Int) (k w : Int) : Int := nth s 7 + turnS (nth s 4) 6 11 25 + chS (nth s 4) (nth s 5) (nth s 6) + k + w
def t2S (s : List Int) : Int := turnS (nth s 0) 2 13 22 + majS (nth s 0) (nth s 1) (nth s 2)
def stepS (s : List Int) (k w : Int) : List Int :=
  [(t1S s k w + t2S s) % 4294967296, nth s 0, nth s 1, nth s 2, (nth s 3 + t1S s k w) % 4294967296, nth s 4, nth s 5, nth s 6]
def roundsS (h ks ws : List Int) : Nat → List Int
  | 0 => h
  | k + 1 => stepS (roundsS h ks ws k) (nth ks k) (nth ws k)
def addUp (h s : List Int) : Nat → List Int
  | 0 => h
  | i + 1 => (addUp h s i).set i ((nth (addUp h s i) i + nth s i) % 4294967296)
def takeS (h ks bs : List Int) : List Int := addUp h (roundsS h ks (wordsS bs) 64) 8
theorem length_roundsS (h ks ws : List Int) (hl : h.length = 8) : ∀ k, (roundsS h ks ws k).length = 8
  | 0 => hl
  | _ + 1 => rfl
theorem length_addUp (h s : List Int) : ∀ i, (addUp h s i).length = h.length
  | 0 => rfl
  | i + 1 => by rw [addUp, List.length_set, length_addUp h s i]
theorem length_takeS (h ks bs : List Int) : (takeS h ks bs).length = h.length := length_addUp _ _ _

/-- The bytes of a state. -/
def zeros32 : List Int := List.replicate 32 0
def byteOf (x : Int) (j : Nat) : Int := x / 2 ^ (24 - 8 * j) % 256
def bytesTo (sv : List Int) : Nat → List Int
  | 0 => zeros32
  | m + 1 => (bytesTo sv m).set m (byteOf (nth sv (m / 4)) (m % 4))
def outS (sv : List Int) : List Int := bytesTo sv 32
theorem length_bytesTo (sv : List Int) : ∀ m, (bytesTo sv m).length = 32
  | 0 => rfl
  | m + 1 => by rw [bytesTo, List.length_set, length_bytesTo sv m]
theorem length_outS (sv : List Int) : (outS sv).length = 32 := length_bytesTo sv 32
theorem bytesTo_succ (sv : List Int) (k j : Nat) (h : j < 4) : bytesTo sv (4 * k + j + 1) = (bytesTo sv (4 * k + j)).set (4 * k + j) (byteOf (nth sv k) j) := by
  rw [bytesTo, show (4 * k + j) / 4 = k from by omega, show (4 * k + j) % 4 = j from by omega]
end Go.Proofs.Yteocienbfhgmjaa
