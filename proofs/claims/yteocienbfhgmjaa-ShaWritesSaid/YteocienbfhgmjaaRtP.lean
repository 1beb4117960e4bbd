/- Plain mathematics of the document's roots, limb by limb as its answer reckons them: no program is named here. -/
import Derived.Test.YteocienbfhgmjaaPl
namespace Go.Proofs.Yteocienbfhgmjaa
open Go.RowKit

/-- The i-th number of a list; the list with another number there; its length: by the list's own steps, so that the kernel is quick. -/
def gt : List Nat → Nat → Nat
  | [], _ => 0
  | a :: _, 0 => a
  | _ :: l, i + 1 => gt l i
def st : List Nat → Nat → Nat → List Nat
  | [], _, _ => []
  | _ :: l, 0, v => v :: l
  | a :: l, i + 1, v => a :: st l i v
def ln : List Nat → Nat
  | [] => 0
  | _ :: l => ln l + 1

/-- A row of the product: a limb times b, put to out from place i on; none, where the answer's own index or number would not do. -/
def rowN (x : Nat) (b : List Nat) (i : Nat) : Nat → Nat → Nat → List Nat → Option (List Nat)
  | 0, _, _, _ => none
  | f + 1, k, c, out =>
    bif Nat.blt k (ln b) || Nat.blt 0 c then
      bif Nat.blt (i + k) (ln out) && Nat.blt (gt out (i + k) + c + x * gt b k) 18446744073709551616 then
        rowN x b i f (k + 1) ((gt out (i + k) + c + x * gt b k) / 65536) (st out (i + k) ((gt out (i + k) + c + x * gt b k) % 65536))
      else none
    else some out

def rowsN (a b : List Nat) : Nat → Option (List Nat)
  | 0 => some (List.replicate (ln a + ln b + 1) 0)
  | i + 1 => (rowsN a b i).bind fun out => rowN (gt a i) b i (ln b + 3) 0 0 out
def timesN (a b : List Nat) : Option (List Nat) := rowsN a b (ln a)

def limbsN (n : Nat) : List Nat := [n % 65536, n / 65536 % 65536, n / 4294967296 % 65536, n / 281474976710656 % 4294967296]

def wantN (n : Nat) (p up : Nat) : Nat → List Nat
  | 0 => List.replicate (n + up + 4) 0
  | i + 1 => st (wantN n p up i) (up + i) (gt (limbsN p) i)
def aboveN (l want : List Nat) : Nat → Bool
  | 0 => false
  | i + 1 => bif Nat.beq (gt l i) (gt want i) then aboveN l want i else Nat.blt (gt want i) (gt l i)

def powN (y : Nat) : Nat → Option (List Nat)
  | 0 => some (limbsN y)
  | i + 1 => (powN y i).bind fun l => timesN l (limbsN y)
def rootN (p power : Nat) : Nat → Option Nat
  | 0 => some 0
  | s + 1 => (rootN p power s).bind fun x => (powN (x ||| 2 ^ (39 - s)) (power - 1)).bind fun l =>
      bif aboveN l (wantN (ln l) p (2 * power) 4) (ln l + 2 * power + 4) then some x else some (x ||| 2 ^ (39 - s))

def primeN (p : Nat) : Nat → Bool
  | 0 => true
  | k + 1 => primeN p k && !(Nat.beq (p % (2 + k)) 0)
def rootsN (power : Nat) : Nat → Option (List Nat)
  | 0 => some []
  | j + 1 => (rootsN power j).bind fun l => bif primeN (2 + j) j then (rootN (2 + j) power 40).bind fun r => some (l ++ [r % 4294967296]) else some l

/-- The keys, and the first state, as natural numbers. -/
def keysN : List Nat := keysS.map Int.toNat
def firstN : List Nat := firstS.map Int.toNat
end Go.Proofs.Yteocienbfhgmjaa
