/- A row's copy. -/
import Derived.Test.YtjbfaaoeoggkpaaNmSort
namespace Go.Proofs.Ytjbfaaoeoggkpaa
open Go.RowKit Go.Lib

/-- A row's copy in memory of the call's own: append([]api.Name{}, l...). -/
theorem copy_nm (w : World) (sv : Value) (l : List Nm) (h : GAt KN w sv l) (hl : l.length ≤ 1000) :
    ∃ v' w', (Builtin.append_ #[37, 37] 37 #[.slice (some ⟨w.heap.size, 0, none⟩) 0 0, sv]).run Try.prog (w.alloc (.cells #[] 23)) = .ok v' w' ∧ GRow KN w' w.heap.size v' l ∧ Below w.heap.size w w' := by
  have hm : (1000 : Nat) ≤ maxLen := by decide
  have h0 := GRow.lit (K := KN) w w.heap.size [] (Nat.le_refl _) (by simp)
  have hb := (Below.refl w.heap.size w).alloc (Nat.le_refl _) (.cells #[] 23)
  obtain ⟨v', w', h1, h2, h3, _⟩ := append_g (K := KN) (P := Try.prog) 37 (.agg #[.string ByteArray.empty, .string ByteArray.empty]) 32 Try.underlying37 infoN rfl (w.alloc (.cells #[] 23)) w.heap.size _ [] h0 sv l (h.below hb) (by simp; omega) (by simp; omega) (by simp)
  exact ⟨v', w', h1, h2, hb.trans (h3.below (fun k hk => h0.ge hk) hb.size)⟩

end Go.Proofs.Ytjbfaaoeoggkpaa
