/- Package addr: Halves. -/
import Derived.Test.YtgikkjjnoakhdaaDoorAdHalf
import Derived.Test.YtgikkjjnoakhdaaDoorAdRow
namespace Go.Proofs.YtgikkjjnoakhdaaDoor
open Go.RowKit

/-- What Halves answers of a net with two halves. -/
def HalvesPost (w : World) (c : Net) (e : Ending) (w' : World) : Prop := ∃ v, e = .returned (.tuple #[v, .bool true]) ∧ CRow w' w.heap.size v [lowOf c, highOf c] ∧ Below w.heap.size w w'
def NonePost (w : World) (e : Ending) (w' : World) : Prop := e = .returned (.tuple #[.slice none 0 0, .bool false]) ∧ Below w.heap.size w w'

set_option maxRecDepth 100000 in
set_option maxHeartbeats 400000 in
theorem halves_no (c : Net) (ha : c.a < 4294967296) (h : mayB c = false ∨ c.b = 32) (w : World) : Calls Tryd.prog 22 #[c.val] w (NonePost w) := by
  have HM := hide (fun W => may_any c ha W)
  cases hm : mayB c with
  | false =>
    rw [hm] at HM
    clear hm h
    obtain ⟨a, b⟩ := c
    unfold Net.val at *
    dsimp only at *
    have HB0 : Hid (Below w.heap.size w (w.alloc (.cells #[.int .u32 a, .int .i64 b] 24))) := hide ((Below.refl _ _).alloc (Nat.le_refl _) _)
    go_enter Tryd.func22, Tryd.ntmps22
    go_wp2_with fail
    refine (HM.out _).mono ?_
    rintro e w2 ⟨rfl, hB⟩
    have HB2 := hide (HB0.out.trans (hB.mono HB0.out.size))
    clear hB
    go_wp2_with fail
    go_ret2
    exact ⟨rfl, HB2.out⟩
  | true =>
    rw [hm] at HM h
    clear hm
    obtain ⟨a, b⟩ := c
    unfold Net.val at *
    dsimp only at *
    obtain rfl : b = 32 := by simpa using h
    have HB0 : Hid (Below w.heap.size w (w.alloc (.cells #[.int .u32 a, .int .i64 32] 24))) := hide ((Below.refl _ _).alloc (Nat.le_refl _) _)
    have HX := hide (BoxAt.new w a 32)
    go_enter Tryd.func22, Tryd.ntmps22
    go_wp2_with fail
    refine (HM.out _).mono ?_
    rintro e w2 ⟨rfl, hB⟩
    have HB2 := hide (HB0.out.trans (hB.mono HB0.out.size))
    have c0 := (HX.out.next hB).c0
    have c1 := (HX.out.next hB).c1
    clear hB
    go_wp2_with fail
    go_ret2
    exact ⟨rfl, HB2.out⟩

set_option maxRecDepth 100000 in
set_option maxHeartbeats 400000 in
theorem halves_yes (c : Net) (ha : c.a < 4294967296) (ho : Ok c) (h : c.b < 32) (w : World) : Calls Tryd.prog 22 #[c.val] w (HalvesPost w c) := by
  have HM := hide (fun W => may_any c ha W)
  rw [(mayB_iff c).2 ho] at HM
  have HH := hide (fun W => halves_any c ha ho.dvd (by have := ho.lo; omega) ho.hi W)
  unfold TwoPost at HH
  unfold HalvesPost
  generalize lowOf c = x at HH ⊢
  generalize highOf c = y at HH ⊢
  have hb0 := ho.lo
  clear ho
  obtain ⟨a, b⟩ := c
  obtain ⟨x0, x1⟩ := x
  obtain ⟨y0, y1⟩ := y
  unfold Net.val at *
  dsimp only at *
  have HB0 : Hid (Below w.heap.size w (w.alloc (.cells #[.int .u32 a, .int .i64 b] 24))) := hide ((Below.refl _ _).alloc (Nat.le_refl _) _)
  have HX := hide (BoxAt.new w a b)
  have h32 : (b == 32) = false := by simp; omega
  go_enter Tryd.func22, Tryd.ntmps22
  go_wp2_with fail
  refine (HM.out _).mono ?_
  rintro e w2 ⟨rfl, hB⟩
  have HB2 := hide (HB0.out.trans (hB.mono HB0.out.size))
  have HX2 := hide (HX.out.next hB)
  have c0 := HX2.out.c0
  have c1 := HX2.out.c1
  clear hB HX HB0 HM
  go_wp2_with fail
  refine (HH.out _).mono ?_
  rintro e w3 ⟨rfl, hB⟩
  have HB3 := hide (HB2.out.trans (hB.mono HB2.out.size))
  clear hB HH c0 c1
  go_wp2_with fail
  refine bodyPost_ret (v := .tuple #[.slice (some ⟨w3.heap.size + 1 + 1, 0, none⟩) 2 2, .bool true]) (by simp [results, Tryd.results22, go_sem]) rfl ⟨_, rfl, ?_, ?_⟩
  · have hl := World.ownsRow_lit (base := w.heap.size) (e := 24) (size := 2) ((w3.alloc (.cells #[.int .u32 x0, .int .i64 x1] 24)).alloc (.cells #[.int .u32 y0, .int .i64 y1] 24)) #[.int .u32 x0, .int .i64 x1, .int .u32 y0, .int .i64 y1] 2 (by have := HB3.out.size; simp; omega) (by unfold maxLen; omega) rfl
    rw [World.size_alloc, World.size_alloc] at hl
    exact hl
  · have hz := HB3.out.size
    exact ((HB3.out.alloc hz _).alloc (by simp; omega) _).alloc (by simp; omega) _
end Go.Proofs.YtgikkjjnoakhdaaDoor
