/- The law HeadsTable (P9.3, P9.5). -/
import Derived.Test.YtilefgmlnmpeoaaDoorHeadsTable1
import Derived.Test.YtilefgmlnmpeoaaDoorHeadsTable2
import Derived.Test.YtilefgmlnmpeoaaDoorHeadsTable3
namespace Go.Proofs.YtilefgmlnmpeoaaDoor
open Go.RowKit Go.Lib

theorem table_law (v : Value) (l : List Hd) (h : Hd) (name : ByteArray) (w0 : World) (hv : GAt KH w0 v l) (hE : Env w0) : Calls Tryd.prog 4 #[v, hdV h, .string name] w0 (fun e w' => e = .returned (.bool true) ∧ Below w0.heap.size w0 w') := by
  cases hl : longP l
  · cases hh : longH h
    · by_cases hs : 1000 < name.size
      · exact table_long3 v l h name w0 hv hE hl hh hs
      · have hs2 : name.size ≤ 1000 := by omega
        cases ha : allP name l with
        | nil =>
          rcases addE_cases l h with he | he | he
          · exact table_yes_none v l h name w0 hv hE hl hh hs2 he ha
          · exact table_arg_none v l h name w0 hv hE hl hh hs2 he ha
          · exact table_full_none v l h name w0 hv hE hl hh hs2 he ha
        | cons x0 xr =>
          rcases addE_cases l h with he | he | he
          · exact table_yes_some v l h name w0 hv hE hl hh hs2 he x0 xr ha
          · exact table_arg_some v l h name w0 hv hE hl hh hs2 he x0 xr ha
          · exact table_full_some v l h name w0 hv hE hl hh hs2 he x0 xr ha
    · exact table_long2 v l h name w0 hv hE hl hh
  · exact table_long1 v l h name w0 hv hE hl
end Go.Proofs.YtilefgmlnmpeoaaDoor
