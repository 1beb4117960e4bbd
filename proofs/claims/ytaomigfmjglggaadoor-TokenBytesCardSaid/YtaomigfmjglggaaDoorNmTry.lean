/- A name's text, by trying where its parts lie. No program is named here. -/
import Derived.Test.YtaomigfmjglggaaDoorNmPl
namespace Go.Proofs.YtaomigfmjglggaaDoor

def nsAt (l : List UInt8) (i k : Nat) : List UInt8 := (l.drop i).take (k - i)
def saAt (l : List UInt8) (k : Nat) : List UInt8 := if k + 4 ≤ l.length then l.drop (k + 4) else []
def hitB (l : List UInt8) (i k : Nat) : Bool := labelS (nsAt l i k) && labelS (saAt l k) && decide (ntextS (nsAt l i k) (saAt l k) = l)
theorem hit_some {l : List UInt8} {i k : Nat} (h : hitB l i k = true) : parseS l = some (nsAt l i k, saAt l k) := by
  unfold hitB at h
  simp only [Bool.and_eq_true, decide_eq_true_eq] at h
  exact parseS_some.2 ⟨h.1.1, h.1.2, h.2⟩
theorem hit_of {l ns sa : List UInt8} (h : isText l ns sa) : hitB l 17 (17 + ns.length) = true := by
  obtain ⟨h1, h2, h3⟩ := h
  have hl : l.length = 21 + ns.length + sa.length := by rw [← h3, text_length]
  have e1 : nsAt l 17 (17 + ns.length) = ns := by
    unfold nsAt
    rw [← h3]
    unfold ntextS
    rw [List.drop_left' preS_length, show 17 + ns.length - 17 = ns.length by omega, List.take_left' rfl]
  have e2 : saAt l (17 + ns.length) = sa := by
    unfold saAt
    rw [if_pos (by omega), ← h3]
    unfold ntextS
    have : (preS ++ (ns ++ (midS ++ sa))) = (preS ++ ns ++ midS) ++ sa := by simp
    rw [this]
    exact List.drop_left' (by simp [preS_length, midS_length]; omega)
  unfold hitB
  rw [e1, e2, h1, h2, h3]
  simp
theorem hit_none {l : List UInt8} (h : ∀ i k, i ≤ k → k ≤ l.length → hitB l i k = false) : parseS l = none := by
  refine parseS_none fun ns sa hx => ?_
  have hl : l.length = 21 + ns.length + sa.length := by rw [← hx.2.2, text_length]
  have h1 := hit_of hx
  rw [h 17 (17 + ns.length) (by omega) (by omega)] at h1
  cases h1
theorem parse_len {l : List UInt8} (h : 64 < l.length) : parseS l = none := by
  refine parseS_none fun ns sa hx => ?_
  have hl : l.length = 21 + ns.length + sa.length := by rw [← hx.2.2, text_length]
  have h1 := labelS_len hx.1
  have h2 := labelS_len hx.2.1
  omega
theorem parse_text {ns sa : List UInt8} (h1 : labelS ns = true) (h2 : labelS sa = true) : parseS (ntextS ns sa) = some (ns, sa) := parseS_some.2 ⟨h1, h2, rfl⟩
theorem text_parse {l ns sa : List UInt8} (h : parseS l = some (ns, sa)) : labelS ns = true ∧ labelS sa = true ∧ ntextS ns sa = l ∧ l.length ≤ 64 := by
  obtain ⟨h1, h2, h3⟩ := parseS_some.1 h
  have := labelS_len h1
  have := labelS_len h2
  refine ⟨h1, h2, h3, ?_⟩
  rw [← h3, text_length]
  omega
end Go.Proofs.YtaomigfmjglggaaDoor
