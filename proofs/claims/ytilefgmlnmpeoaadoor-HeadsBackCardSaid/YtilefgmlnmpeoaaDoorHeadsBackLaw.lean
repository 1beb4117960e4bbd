/- The law HeadsBack (P9.6). -/
import Derived.Test.YtilefgmlnmpeoaaDoorHeadsBack1
import Derived.Test.YtilefgmlnmpeoaaDoorHeadsBack2
import Derived.Test.YtilefgmlnmpeoaaDoorHeadsBack3
import Derived.Test.YtilefgmlnmpeoaaDoorHeadsBack4
namespace Go.Proofs.YtilefgmlnmpeoaaDoor
open Go.RowKit Go.Lib

theorem back_law (h : Hd) (s : ByteArray) (ahead behind : Int) (large : Bool) (w0 : World) (hE : Env w0) : Calls Tryd.prog 6 #[hdV h, .string s, .int .i64 ahead, .int .i64 behind, .bool large] w0 (fun e w' => e = .returned (.bool true) ∧ Below w0.heap.size w0 w') := by
  cases hh : longH h
  · by_cases hs : 2000 < s.size
    · exact back_long1 h s ahead behind large w0 hE hh hs
    by_cases ha : ahead < 0
    · exact back_long2 h s ahead behind large w0 hE hh (by omega) ha
    by_cases ha2 : 20 < ahead
    · exact back_long3 h s ahead behind large w0 hE hh (by omega) ha ha2
    by_cases hb : behind < 0
    · exact back_long4 h s ahead behind large w0 hE hh (by omega) ha ha2 hb
    by_cases hb2 : 20 < behind
    · exact back_long5 h s ahead behind large w0 hE hh (by omega) ha ha2 hb hb2
    obtain ⟨⟨e0, rn, rv⟩, hr⟩ : ∃ r, readP s.data.toList = r := ⟨_, rfl⟩
    have ea : ahead = ((ahead.toNat : Nat) : Int) := by omega
    have eb : behind = ((behind.toNat : Nat) : Int) := by omega
    have ha3 : ahead.toNat ≤ 20 := by omega
    have hb3 : behind.toNat ≤ 20 := by omega
    have hs2 : s.size ≤ 2000 := by omega
    cases hg : goodP h
    · by_cases he : e0 = 0
      · exact back_bad_ok h s ahead behind large w0 hE _ _ ea eb ha3 hb3 hh hs2 hg e0 rn rv hr he
      · exact back_bad_no h s ahead behind large w0 hE _ _ ea eb ha3 hb3 hh hs2 hg e0 rn rv hr he
    · cases hlg : large
      · by_cases he : e0 = 0
        · exact back_small_ok h s ahead behind _ w0 hE _ _ ea eb ha3 hb3 hh hs2 hg e0 rn rv hr he rfl
        · exact back_small_no h s ahead behind _ w0 hE _ _ ea eb ha3 hb3 hh hs2 hg e0 rn rv hr he rfl
      · by_cases he : e0 = 0
        · exact back_large_ok h s ahead behind _ w0 hE _ _ ea eb ha3 hb3 hh hs2 hg e0 rn rv hr he rfl
        · exact back_large_no h s ahead behind _ w0 hE _ _ ea eb ha3 hb3 hh hs2 hg e0 rn rv hr he rfl
  · exact back_long0 h s ahead behind large w0 hE hh
end Go.Proofs.YtilefgmlnmpeoaaDoor
