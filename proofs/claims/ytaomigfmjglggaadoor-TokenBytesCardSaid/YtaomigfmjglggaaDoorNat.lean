/- A number of 64 bits as a natural one. -/
import Derived.Test.YtaomigfmjglggaaDoorFrame
namespace Go.Proofs.YtaomigfmjglggaaDoor
open Go.ChangeShapes Go.WideShapes Go.ChangeAt Go.RowKit

theorem nat_of' {a : Int} (w0 : (Lit.int .u64 a).wf = true) : ∃ n : Nat, a = n ∧ n < 18446744073709551616 := by
  have h := w0
  simp [Lit.wf, IntKind.min, IntKind.max, IntKind.signed, IntKind.bits] at h
  exact ⟨a.toNat, by omega, by omega⟩
end Go.Proofs.YtaomigfmjglggaaDoor
