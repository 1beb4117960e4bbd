/- An array of numbers as an argument; bytes as a string. -/
import Derived.Test.YtjfidelegmjnkaaPl
import Derived.Test.YtjfidelegmjnkaaFrame
import Derived.ChangeSlices
namespace Go.Proofs.Ytjfidelegmjnkaa
open Go.ChangeShapes Go.WideShapes Go.ChangeAt Go.RowKit

theorem nat_of' {a : Int} (w0 : (Lit.int .u64 a).wf = true) : ∃ n : Nat, a = n ∧ n < 18446744073709551616 := by
  have h := w0
  simp [Lit.wf, IntKind.min, IntKind.max, IntKind.signed, IntKind.bits] at h
  exact ⟨a.toNat, by omega, by omega⟩

theorem mapM_each {α β : Type} {f : α → Option β} : ∀ {L : List α} {ys : List β}, L.mapM f = some ys → ∀ i ∈ L, ∃ y, f i = some y
  | [], _, _, i, hi => by cases hi
  | a :: L, ys, h, i, hi => by
    rw [List.mapM_cons] at h
    simp only [bind, Option.bind_eq_some_iff, pure, Option.some.injEq] at h
    obtain ⟨y, hy, zs, hz, _⟩ := h
    rcases List.mem_cons.1 hi with rfl | hi
    · exact ⟨y, hy⟩
    · exact mapM_each hz i hi

theorem arg_arr {H : Type} {enc : TypeId × Value → H} {P : Program} {W : World} {r : Reach} {base : Nat} {t e : TypeId} {n : Nat} {k : IntKind} {v : Value} {d : DataW H} {p : List MemPlace} (hu : P.underlying t = some (.array n e)) (he : P.underlying e = some (.int k)) (hce : P.cellsOf e = 1) (hct : P.cellsOf t = n)
    (hval : Value.okWide P W r base t v) (h0 : DataW.Trod enc P W 0 (fun _ => true) true t v d p) : ∃ zs : List Int, v = .agg (cellsOf k zs) ∧ zs.length = n ∧ ∀ i, i < n → (Lit.int k (nth zs i)).wf = true := by
  simp only [Value.okWide, hu] at hval
  obtain ⟨cs, rfl, h2, _⟩ := hval
  rw [hct] at h2
  obtain ⟨fuel, hf⟩ := h0
  have hall : ∀ i, i < n → ∃ a, cs[i]? = some (.int k a) ∧ (Lit.int k a).wf = true := by
    cases fuel with
    | zero => simp [DataW.trod] at hf
    | succ m =>
      rw [DataW.trod_step] at hf
      unfold DataW.trodStep at hf
      simp only [hu, Value.cells] at hf
      rw [if_pos (by rw [hct]; simpa using h2)] at hf
      simp only [Option.map_eq_some_iff] at hf
      obtain ⟨ys, hy, _⟩ := hf
      intro i hi
      obtain ⟨y, hy2⟩ := mapM_each hy i (by simpa using hi)
      obtain ⟨a, ea, _, wa⟩ := DataW.trod_int he hy2
      rw [hce, Nat.mul_one] at ea
      refine ⟨a, ?_, wa⟩
      have := congrArg (fun l => l[0]?) ea
      simpa [List.getElem?_take, List.getElem?_drop] using this
  refine ⟨cs.toList.map (fun v => match v with | .int _ a => a | _ => 0), ?_, by simp [h2], fun i hi => ?_⟩
  · congr 1
    apply Array.ext'
    rw [toArray_cellsOf, List.map_map]
    apply List.ext_getElem?
    intro i
    rw [List.getElem?_map, Array.getElem?_toList]
    rcases Nat.lt_or_ge i n with hi | hi
    · obtain ⟨a, ha, _⟩ := hall i hi
      rw [ha]; rfl
    · rw [Array.getElem?_eq_none (by omega)]; rfl
  · obtain ⟨a, ha, hw⟩ := hall i hi
    have : nth (cs.toList.map (fun v => match v with | .int _ a => a | _ => 0)) i = a := by
      simp [nth, List.getD, List.getElem?_map, ha]
    rw [this]; exact hw
end Go.Proofs.Ytjfidelegmjnkaa
namespace Go.Proofs.Ytjfidelegmjnkaa
open Go.RowKit

theorem SlAt.string {P : Program} {w : World} {v : Value} {xs : List Int} (h : SlAt w v xs) (src e dst : Nat) (hs : P.underlying src = some (.slice e)) (he : P.underlying e = some (.int .u8)) (hd : P.underlying dst = some .string) :
    (convert src dst v).run P w = .ok (.string (strOfNums xs)) w := by
  obtain ⟨ao, cap, rfl, hn, _, ha⟩ := h
  cases hao : ao with
  | none =>
    obtain ⟨rfl, rfl⟩ := hn hao
    exact run_convert_bytes_nil w src e hs he _ _ dst hd
  | some ad =>
    by_cases h0 : 0 < xs.length
    · have hsp := (ha ad hao 0 h0).1
      obtain ⟨g, off, sp⟩ := ad
      cases hsp
      exact run_convert_bytes_arg w src e hs he g off xs.length cap xs rfl (fun i hi => by have := (ha _ hao i hi).2.2; rw [addr_plain'] at this; rw [this]; simp [nth]) dst hd
    · have hx : xs = [] := List.eq_nil_of_length_eq_zero (by omega)
      subst hx
      have hl : (loadCells ad 0).run P w = .ok #[] w := by simpa using run_loadCells_list (P := P) w ad [] (by simp)
      rw [show ([] : List Int).length = 0 from rfl, run_convert_bytes_string w src dst e _ 0 cap hs he hd, run_bytesToString w _ 0 cap [] (by simpa using hl)]
      rfl

end Go.Proofs.Ytjfidelegmjnkaa
