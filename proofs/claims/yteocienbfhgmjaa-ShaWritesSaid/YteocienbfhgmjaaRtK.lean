/- The document's keys are the table's. -/
import Derived.Test.YteocienbfhgmjaaRtF
namespace Go.Proofs.Yteocienbfhgmjaa
open Go.RowKit

set_option maxRecDepth 100000 in
theorem tab3_2 : rootN 2 3 40 = some 5411319704 := by decide +kernel
set_option maxRecDepth 100000 in
theorem tab3_3 : rootN 3 3 40 = some 6194414737 := by decide +kernel
set_option maxRecDepth 100000 in
theorem tab3_5 : rootN 5 3 40 = some 7344290767 := by decide +kernel
set_option maxRecDepth 100000 in
theorem tab3_7 : rootN 7 3 40 = some 8215976869 := by decide +kernel
set_option maxRecDepth 100000 in
theorem tab3_11 : rootN 11 3 40 = some 9551921755 := by decide +kernel
set_option maxRecDepth 100000 in
theorem tab3_13 : rootN 13 3 40 = some 10098905585 := by decide +kernel
set_option maxRecDepth 100000 in
theorem tab3_17 : rootN 17 3 40 = some 11043570340 := by decide +kernel
set_option maxRecDepth 100000 in
theorem tab3_19 : rootN 19 3 40 = some 11460697813 := by decide +kernel
set_option maxRecDepth 100000 in
theorem tab3_23 : rootN 23 3 40 = some 12214315672 := by decide +kernel
set_option maxRecDepth 100000 in
theorem tab3_29 : rootN 29 3 40 = some 13195500289 := by decide +kernel
set_option maxRecDepth 100000 in
theorem tab3_31 : rootN 31 3 40 = some 13492127166 := by decide +kernel
set_option maxRecDepth 100000 in
theorem tab3_37 : rootN 37 3 40 = some 14311783875 := by decide +kernel
set_option maxRecDepth 100000 in
theorem tab3_41 : rootN 41 3 40 = some 14809980276 := by decide +kernel
set_option maxRecDepth 100000 in
theorem tab3_43 : rootN 43 3 40 = some 15046980094 := by decide +kernel
set_option maxRecDepth 100000 in
theorem tab3_47 : rootN 47 3 40 = some 15499789991 := by decide +kernel
set_option maxRecDepth 100000 in
theorem tab3_53 : rootN 53 3 40 = some 16133124468 := by decide +kernel
set_option maxRecDepth 100000 in
theorem tab3_59 : rootN 59 3 40 = some 16720292289 := by decide +kernel
set_option maxRecDepth 100000 in
theorem tab3_61 : rootN 61 3 40 = some 16907126662 := by decide +kernel
set_option maxRecDepth 100000 in
theorem tab3_67 : rootN 67 3 40 = some 17444216262 := by decide +kernel
set_option maxRecDepth 100000 in
theorem tab3_71 : rootN 71 3 40 = some 17784676812 := by decide +kernel
set_option maxRecDepth 100000 in
theorem tab3_73 : rootN 73 3 40 = some 17950125167 := by decide +kernel
set_option maxRecDepth 100000 in
theorem tab3_79 : rootN 79 3 40 = some 18429019306 := by decide +kernel
set_option maxRecDepth 100000 in
theorem tab3_83 : rootN 83 3 40 = some 18734950876 := by decide +kernel
set_option maxRecDepth 100000 in
theorem tab3_89 : rootN 89 3 40 = some 19175934170 := by decide +kernel
set_option maxRecDepth 100000 in
theorem tab3_97 : rootN 97 3 40 = some 19734090066 := by decide +kernel
set_option maxRecDepth 100000 in
theorem tab3_101 : rootN 101 3 40 = some 20001703533 := by decide +kernel
set_option maxRecDepth 100000 in
theorem tab3_103 : rootN 103 3 40 = some 20132865992 := by decide +kernel
set_option maxRecDepth 100000 in
theorem tab3_107 : rootN 107 3 40 = some 20390182855 := by decide +kernel
set_option maxRecDepth 100000 in
theorem tab3_109 : rootN 109 3 40 = some 20516441075 := by decide +kernel
set_option maxRecDepth 100000 in
theorem tab3_113 : rootN 113 3 40 = some 20764397895 := by decide +kernel
set_option maxRecDepth 100000 in
theorem tab3_127 : rootN 127 3 40 = some 21588763473 := by decide +kernel
set_option maxRecDepth 100000 in
theorem tab3_131 : rootN 131 3 40 = some 21813078375 := by decide +kernel
set_option maxRecDepth 100000 in
theorem tab3_137 : rootN 137 3 40 = some 22141143685 := by decide +kernel
set_option maxRecDepth 100000 in
theorem tab3_139 : rootN 139 3 40 = some 22248366392 := by decide +kernel
set_option maxRecDepth 100000 in
theorem tab3_149 : rootN 149 3 40 = some 22769593852 := by decide +kernel
set_option maxRecDepth 100000 in
theorem tab3_151 : rootN 151 3 40 = some 22871018771 := by decide +kernel
set_option maxRecDepth 100000 in
theorem tab3_157 : rootN 157 3 40 = some 23170020180 := by decide +kernel
set_option maxRecDepth 100000 in
theorem tab3_163 : rootN 163 3 40 = some 23461497531 := by decide +kernel
set_option maxRecDepth 100000 in
theorem tab3_167 : rootN 167 3 40 = some 23651862830 := by decide +kernel
set_option maxRecDepth 100000 in
theorem tab3_173 : rootN 173 3 40 = some 23931792517 := by decide +kernel
set_option maxRecDepth 100000 in
theorem tab3_179 : rootN 179 3 40 = some 24205322401 := by decide +kernel
set_option maxRecDepth 100000 in
theorem tab3_181 : rootN 181 3 40 = some 24295138891 := by decide +kernel
set_option maxRecDepth 100000 in
theorem tab3_191 : rootN 191 3 40 = some 24734567280 := by decide +kernel
set_option maxRecDepth 100000 in
theorem tab3_193 : rootN 193 3 40 = some 24820601251 := by decide +kernel
set_option maxRecDepth 100000 in
theorem tab3_197 : rootN 197 3 40 = some 24990902297 := by decide +kernel
set_option maxRecDepth 100000 in
theorem tab3_199 : rootN 199 3 40 = some 25075189284 := by decide +kernel
set_option maxRecDepth 100000 in
theorem tab3_211 : rootN 211 3 40 = some 25569408389 := by decide +kernel
set_option maxRecDepth 100000 in
theorem tab3_223 : rootN 223 3 40 = some 26045227120 := by decide +kernel
set_option maxRecDepth 100000 in
theorem tab3_227 : rootN 227 3 40 = some 26200031510 := by decide +kernel
set_option maxRecDepth 100000 in
theorem tab3_229 : rootN 229 3 40 = some 26276752392 := by decide +kernel
set_option maxRecDepth 100000 in
theorem tab3_233 : rootN 233 3 40 = some 26428864332 := by decide +kernel
set_option maxRecDepth 100000 in
theorem tab3_239 : rootN 239 3 40 = some 26653801653 := by decide +kernel
set_option maxRecDepth 100000 in
theorem tab3_241 : rootN 241 3 40 = some 26727943347 := by decide +kernel
set_option maxRecDepth 100000 in
theorem tab3_251 : rootN 251 3 40 = some 27092625994 := by decide +kernel
set_option maxRecDepth 100000 in
theorem tab3_257 : rootN 257 3 40 = some 27306805839 := by decide +kernel
set_option maxRecDepth 100000 in
theorem tab3_263 : rootN 263 3 40 = some 27517677555 := by decide +kernel
set_option maxRecDepth 100000 in
theorem tab3_269 : rootN 269 3 40 = some 27725365998 := by decide +kernel
set_option maxRecDepth 100000 in
theorem tab3_271 : rootN 271 3 40 = some 27793908591 := by decide +kernel
set_option maxRecDepth 100000 in
theorem tab3_277 : rootN 277 3 40 = some 27997534228 := by decide +kernel
set_option maxRecDepth 100000 in
theorem tab3_281 : rootN 281 3 40 = some 28131656200 := by decide +kernel
set_option maxRecDepth 100000 in
theorem tab3_283 : rootN 283 3 40 = some 28198240250 := by decide +kernel
set_option maxRecDepth 100000 in
theorem tab3_293 : rootN 293 3 40 = some 28526537963 := by decide +kernel
set_option maxRecDepth 100000 in
theorem tab3_307 : rootN 307 3 40 = some 28973835255 := by decide +kernel
set_option maxRecDepth 100000 in
theorem tab3_311 : rootN 311 3 40 = some 29099129074 := by decide +kernel
def tab3 : List (Nat × Nat) := [(2, 5411319704), (3, 6194414737), (5, 7344290767), (7, 8215976869), (11, 9551921755), (13, 10098905585), (17, 11043570340), (19, 11460697813), (23, 12214315672), (29, 13195500289), (31, 13492127166), (37, 14311783875), (41, 14809980276), (43, 15046980094), (47, 15499789991), (53, 16133124468), (59, 16720292289), (61, 16907126662), (67, 17444216262), (71, 17784676812), (73, 17950125167), (79, 18429019306), (83, 18734950876), (89, 19175934170), (97, 19734090066), (101, 20001703533), (103, 20132865992), (107, 20390182855), (109, 20516441075), (113, 20764397895), (127, 21588763473), (131, 21813078375), (137, 22141143685), (139, 22248366392), (149, 22769593852), (151, 22871018771), (157, 23170020180), (163, 23461497531), (167, 23651862830), (173, 23931792517), (179, 24205322401), (181, 24295138891), (191, 24734567280), (193, 24820601251), (197, 24990902297), (199, 25075189284), (211, 25569408389), (223, 26045227120), (227, 26200031510), (229, 26276752392), (233, 26428864332), (239, 26653801653), (241, 26727943347), (251, 27092625994), (257, 27306805839), (263, 27517677555), (269, 27725365998), (271, 27793908591), (277, 27997534228), (281, 28131656200), (283, 28198240250), (293, 28526537963), (307, 28973835255), (311, 29099129074)]
theorem tab3_all : ∀ p r, (p, r) ∈ tab3 → rootN p 3 40 = some r := by
  intro p r hx
  simp only [tab3, List.mem_cons, List.not_mem_nil, or_false, Prod.mk.injEq] at hx
  rcases hx with ⟨rfl, rfl⟩ | ⟨rfl, rfl⟩ | ⟨rfl, rfl⟩ | ⟨rfl, rfl⟩ | ⟨rfl, rfl⟩ | ⟨rfl, rfl⟩ | ⟨rfl, rfl⟩ | ⟨rfl, rfl⟩ | ⟨rfl, rfl⟩ | ⟨rfl, rfl⟩ | ⟨rfl, rfl⟩ | ⟨rfl, rfl⟩ | ⟨rfl, rfl⟩ | ⟨rfl, rfl⟩ | ⟨rfl, rfl⟩ | ⟨rfl, rfl⟩ | ⟨rfl, rfl⟩ | ⟨rfl, rfl⟩ | ⟨rfl, rfl⟩ | ⟨rfl, rfl⟩ | ⟨rfl, rfl⟩ | ⟨rfl, rfl⟩ | ⟨rfl, rfl⟩ | ⟨rfl, rfl⟩ | ⟨rfl, rfl⟩ | ⟨rfl, rfl⟩ | ⟨rfl, rfl⟩ | ⟨rfl, rfl⟩ | ⟨rfl, rfl⟩ | ⟨rfl, rfl⟩ | ⟨rfl, rfl⟩ | ⟨rfl, rfl⟩ | ⟨rfl, rfl⟩ | ⟨rfl, rfl⟩ | ⟨rfl, rfl⟩ | ⟨rfl, rfl⟩ | ⟨rfl, rfl⟩ | ⟨rfl, rfl⟩ | ⟨rfl, rfl⟩ | ⟨rfl, rfl⟩ | ⟨rfl, rfl⟩ | ⟨rfl, rfl⟩ | ⟨rfl, rfl⟩ | ⟨rfl, rfl⟩ | ⟨rfl, rfl⟩ | ⟨rfl, rfl⟩ | ⟨rfl, rfl⟩ | ⟨rfl, rfl⟩ | ⟨rfl, rfl⟩ | ⟨rfl, rfl⟩ | ⟨rfl, rfl⟩ | ⟨rfl, rfl⟩ | ⟨rfl, rfl⟩ | ⟨rfl, rfl⟩ | ⟨rfl, rfl⟩ | ⟨rfl, rfl⟩ | ⟨rfl, rfl⟩ | ⟨rfl, rfl⟩ | ⟨rfl, rfl⟩ | ⟨rfl, rfl⟩ | ⟨rfl, rfl⟩ | ⟨rfl, rfl⟩ | ⟨rfl, rfl⟩ | ⟨rfl, rfl⟩
  · exact tab3_2
  · exact tab3_3
  · exact tab3_5
  · exact tab3_7
  · exact tab3_11
  · exact tab3_13
  · exact tab3_17
  · exact tab3_19
  · exact tab3_23
  · exact tab3_29
  · exact tab3_31
  · exact tab3_37
  · exact tab3_41
  · exact tab3_43
  · exact tab3_47
  · exact tab3_53
  · exact tab3_59
  · exact tab3_61
  · exact tab3_67
  · exact tab3_71
  · exact tab3_73
  · exact tab3_79
  · exact tab3_83
  · exact tab3_89
  · exact tab3_97
  · exact tab3_101
  · exact tab3_103
  · exact tab3_107
  · exact tab3_109
  · exact tab3_113
  · exact tab3_127
  · exact tab3_131
  · exact tab3_137
  · exact tab3_139
  · exact tab3_149
  · exact tab3_151
  · exact tab3_157
  · exact tab3_163
  · exact tab3_167
  · exact tab3_173
  · exact tab3_179
  · exact tab3_181
  · exact tab3_191
  · exact tab3_193
  · exact tab3_197
  · exact tab3_199
  · exact tab3_211
  · exact tab3_223
  · exact tab3_227
  · exact tab3_229
  · exact tab3_233
  · exact tab3_239
  · exact tab3_241
  · exact tab3_251
  · exact tab3_257
  · exact tab3_263
  · exact tab3_269
  · exact tab3_271
  · exact tab3_277
  · exact tab3_281
  · exact tab3_283
  · exact tab3_293
  · exact tab3_307
  · exact tab3_311

set_option maxRecDepth 100000 in
theorem rootsK3 : rootsN 3 310 = some keysN := by
  rw [table_roots 3 310 tab3 tab3_all (look_all (by decide +kernel)) 310 (Nat.le_refl _)]
  decide +kernel
set_option maxRecDepth 100000 in
theorem rootsS3 : ∀ j, j < 310 → ∃ o, rootsN 3 j = some o ∧ o.length < 64 := fun j hj => by
  rw [table_roots 3 310 tab3 tab3_all (look_all (by decide +kernel)) j (by omega)]
  have h : (List.range 310).all (fun j => match rootsT (look tab3) j with | some o => Nat.blt o.length 64 | none => false) = true := by decide +kernel
  have h2 := List.all_eq_true.1 h j (by simpa using hj)
  cases ho : rootsT (look tab3) j with
  | none => rw [ho] at h2; cases h2
  | some o => rw [ho] at h2; exact ⟨o, rfl, by simpa using h2⟩
end Go.Proofs.Yteocienbfhgmjaa
