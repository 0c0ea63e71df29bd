/- The page's own SHA-512: the eighty rounds. -/
import Derived.Test.YtjkcjlhcfkapkaaDoorRefA
namespace Go.Proofs.YtjkcjlhcfkapkaaDoor
open Go.RowKit
attribute [local go_sem] w_add w_xor w_and w_not
set_option maxRecDepth 100000 in
set_option maxHeartbeats 1000000 in
theorem ref_rounds (Q : Exit → Act → World → Prop) (p4 p7 p13 : Nat) (s ws : List (BitVec 64)) (hs : s.length = 8) (hws : ws.length = 80) (hn4 : p4 ≠ p13) (hn7 : p7 ≠ p13) (w : World)
    (h4 : w.heap[p4]? = some (.cells (wa kw) 36 (0, 0))) (h7 : w.heap[p7]? = some (.cells (wa ws) 36 (0, 0))) (h13 : w.heap[p13]? = some (.cells (wa s) 35 (0, 0))) (v0 v1 v2 v3 v5 v6 v8 v9 v10 v11 v12 v14 v15 v16 v17 v18 v19 v20 v21 v22 v23 v24 v25 v26 v27 v28 v29 v30 v31 v32 v33 v34 v35 v36 v37 v38 v39 v40 v41 v42 v43 v44 v45 v46 v47 v48 v49 v50 v51 v52 v53 v54 v55 v56 v57 v58 v59 v60 v61 v62 v63 v64 v65 v66 v67 v68 v69 v70 v71 v72 v73 v74 v75 v76 v77 v78 v79 v80 v81 v82 v83 v84 v85 v86 v87 v88 v89 v90 v91 v92 v93 v94 v95 v96 v97 v98 v99 v100 v101 v102 v103 v104 v105 v106 v107 v108 v109 v110 v111 v112 v113 v114 v115 v116 v117 v118 v119 v120 v121 v122 v123 v124 v126 v127 v128 v129 v130 v131 v132 v133 v134 v135 v136 v137 v138 v139 v140 v141 v142 v143 v144 v145 v146 v147 v148 v149 v150 v151 v152 v153 v154 v155 v156 v157 v158 v159 v160 v161 v162 v163 v164 v165 v166 v167 v168 v169 v170 v171 v172 v173 v174 v175 v176 v177 v178 v179 v180 v181 v182 v183 v184 v185 v186 v187 v188 v189 v190 v191 v192 v193 v194 v195 v196 v197 v198 v199 v200 v201 v202 v203 v204 v205 v206 v207 v208 v209 v210 v211 v212 v213 v214 v215 v216 v217 v218 v219 v220 v221 v222 v223 v224 v225 v226 v227 v228 v229 v230 v231 v232 v233 v234 v235 v236 v237 : Value)
    (hexit : ∀ (u14 u15 u16 u17 u18 u125 u126 u127 u128 u129 u130 u131 u132 u133 u134 u135 u136 u137 u138 u139 u140 u141 u142 u143 u144 u145 u146 u147 u148 u149 u150 u151 u152 u153 u154 u155 u156 u157 u158 u159 u160 u161 u162 u163 u164 u165 u166 u167 u168 u169 u170 u171 u172 u173 u174 u175 u176 u177 u178 u179 u180 u181 u182 u183 u184 u185 u186 u187 u188 u189 u190 u191 u192 u193 u194 u195 u196 u197 u198 u199 u200 u201 u202 u203 u204 u205 u206 : Value) (w' : World), w'.heap[p13]? = some (.cells (wa (rs s ws 80)) 35 (0, 0)) → Only p13 w w' → Q (.exit 12) ⟨List.toArray (v0 :: v1 :: v2 :: v3 :: .pointer (some ⟨p4, 0, none⟩) :: v5 :: v6 :: .pointer (some ⟨p7, 0, none⟩) :: v8 :: v9 :: v10 :: v11 :: v12 :: .pointer (some ⟨p13, 0, none⟩) :: u14 :: u15 :: u16 :: u17 :: u18 :: v19 :: v20 :: v21 :: v22 :: v23 :: v24 :: v25 :: v26 :: v27 :: v28 :: v29 :: v30 :: v31 :: v32 :: v33 :: v34 :: v35 :: v36 :: v37 :: v38 :: v39 :: v40 :: v41 :: v42 :: v43 :: v44 :: v45 :: v46 :: v47 :: v48 :: v49 :: v50 :: v51 :: v52 :: v53 :: v54 :: v55 :: v56 :: v57 :: v58 :: v59 :: v60 :: v61 :: v62 :: v63 :: v64 :: v65 :: v66 :: v67 :: v68 :: v69 :: v70 :: v71 :: v72 :: v73 :: v74 :: v75 :: v76 :: v77 :: v78 :: v79 :: v80 :: v81 :: v82 :: v83 :: v84 :: v85 :: v86 :: v87 :: v88 :: v89 :: v90 :: v91 :: v92 :: v93 :: v94 :: v95 :: v96 :: v97 :: v98 :: v99 :: v100 :: v101 :: v102 :: v103 :: v104 :: v105 :: v106 :: v107 :: v108 :: v109 :: v110 :: v111 :: v112 :: v113 :: v114 :: v115 :: v116 :: v117 :: v118 :: v119 :: v120 :: v121 :: v122 :: v123 :: v124 :: u125 :: u126 :: u127 :: u128 :: u129 :: u130 :: u131 :: u132 :: u133 :: u134 :: u135 :: u136 :: u137 :: u138 :: u139 :: u140 :: u141 :: u142 :: u143 :: u144 :: u145 :: u146 :: u147 :: u148 :: u149 :: u150 :: u151 :: u152 :: u153 :: u154 :: u155 :: u156 :: u157 :: u158 :: u159 :: u160 :: u161 :: u162 :: u163 :: u164 :: u165 :: u166 :: u167 :: u168 :: u169 :: u170 :: u171 :: u172 :: u173 :: u174 :: u175 :: u176 :: u177 :: u178 :: u179 :: u180 :: u181 :: u182 :: u183 :: u184 :: u185 :: u186 :: u187 :: u188 :: u189 :: u190 :: u191 :: u192 :: u193 :: u194 :: u195 :: u196 :: u197 :: u198 :: u199 :: u200 :: u201 :: u202 :: u203 :: u204 :: u205 :: u206 :: v207 :: v208 :: v209 :: v210 :: v211 :: v212 :: v213 :: v214 :: v215 :: v216 :: v217 :: v218 :: v219 :: v220 :: v221 :: v222 :: v223 :: v224 :: v225 :: v226 :: v227 :: v228 :: v229 :: v230 :: v231 :: v232 :: v233 :: v234 :: v235 :: v236 :: v237 :: []), []⟩ w') :
    Code.wp Tryd.prog (nav [1, 1, 1, 1, 1, 1, 1, 0, 0, 0, 1, 0, 0, 1, 1, 1, 1, 0, 1, 0] (Tryd.f10.body.getD .skip)) Q ⟨List.toArray (v0 :: v1 :: v2 :: v3 :: .pointer (some ⟨p4, 0, none⟩) :: v5 :: v6 :: .pointer (some ⟨p7, 0, none⟩) :: v8 :: v9 :: v10 :: v11 :: v12 :: .pointer (some ⟨p13, 0, none⟩) :: v14 :: v15 :: v16 :: v17 :: v18 :: v19 :: v20 :: v21 :: v22 :: v23 :: v24 :: v25 :: v26 :: v27 :: v28 :: v29 :: v30 :: v31 :: v32 :: v33 :: v34 :: v35 :: v36 :: v37 :: v38 :: v39 :: v40 :: v41 :: v42 :: v43 :: v44 :: v45 :: v46 :: v47 :: v48 :: v49 :: v50 :: v51 :: v52 :: v53 :: v54 :: v55 :: v56 :: v57 :: v58 :: v59 :: v60 :: v61 :: v62 :: v63 :: v64 :: v65 :: v66 :: v67 :: v68 :: v69 :: v70 :: v71 :: v72 :: v73 :: v74 :: v75 :: v76 :: v77 :: v78 :: v79 :: v80 :: v81 :: v82 :: v83 :: v84 :: v85 :: v86 :: v87 :: v88 :: v89 :: v90 :: v91 :: v92 :: v93 :: v94 :: v95 :: v96 :: v97 :: v98 :: v99 :: v100 :: v101 :: v102 :: v103 :: v104 :: v105 :: v106 :: v107 :: v108 :: v109 :: v110 :: v111 :: v112 :: v113 :: v114 :: v115 :: v116 :: v117 :: v118 :: v119 :: v120 :: v121 :: v122 :: v123 :: v124 :: .int .i64 0 :: v126 :: v127 :: v128 :: v129 :: v130 :: v131 :: v132 :: v133 :: v134 :: v135 :: v136 :: v137 :: v138 :: v139 :: v140 :: v141 :: v142 :: v143 :: v144 :: v145 :: v146 :: v147 :: v148 :: v149 :: v150 :: v151 :: v152 :: v153 :: v154 :: v155 :: v156 :: v157 :: v158 :: v159 :: v160 :: v161 :: v162 :: v163 :: v164 :: v165 :: v166 :: v167 :: v168 :: v169 :: v170 :: v171 :: v172 :: v173 :: v174 :: v175 :: v176 :: v177 :: v178 :: v179 :: v180 :: v181 :: v182 :: v183 :: v184 :: v185 :: v186 :: v187 :: v188 :: v189 :: v190 :: v191 :: v192 :: v193 :: v194 :: v195 :: v196 :: v197 :: v198 :: v199 :: v200 :: v201 :: v202 :: v203 :: v204 :: v205 :: v206 :: v207 :: v208 :: v209 :: v210 :: v211 :: v212 :: v213 :: v214 :: v215 :: v216 :: v217 :: v218 :: v219 :: v220 :: v221 :: v222 :: v223 :: v224 :: v225 :: v226 :: v227 :: v228 :: v229 :: v230 :: v231 :: v232 :: v233 :: v234 :: v235 :: v236 :: v237 :: []), []⟩ w := by
  conv => arg 2; whnf
  go_loopw [125] (fun i wr => ∃ j : Nat, j ≤ 80 ∧ i = .int .i64 j ∧ wr.heap[p13]? = some (.cells (wa (rs s ws j)) 35 (0, 0)) ∧ Only p13 w wr) (fun i _ => 80 - (intOf i).toNat)
  case atStart => exact ⟨0, by omega, rfl, h13, Only.refl _ _⟩
  case round =>
    obtain ⟨j, hj, rfl, q13, ho⟩ := hrel
    have hls : (rs s ws j).length = 8 := rs_len s ws hs j
    by_cases hlt : j < 80
    · have c4 := row_cell (ho.row hn4 h4) (j := j) (by exact hlt)
      have c7 := row_cell (ho.row hn7 h7) (j := j) (by omega)
      have d0 := row_cell q13 (j := 0) (by omega)
      have d1 := row_cell q13 (j := 1) (by omega)
      have d2 := row_cell q13 (j := 2) (by omega)
      have d3 := row_cell q13 (j := 3) (by omega)
      have d4 := row_cell q13 (j := 4) (by omega)
      have d5 := row_cell q13 (j := 5) (by omega)
      have d6 := row_cell q13 (j := 6) (by omega)
      have d7 := row_cell q13 (j := 7) (by omega)
      have hsz : (wa (rs s ws j)).size = 8 := by rw [wa_size, hls]
      have HS := hide hsz
      have Q13 := hide q13
      clear q13 hls h4 h7 h13 hexit hsz
      generalize hR : rs s ws j = R at d0 d1 d2 d3 d4 d5 d6 d7 Q13 HS
      generalize hx0 : R.getD 0 0 = x0 at d0
      generalize hx1 : R.getD 1 0 = x1 at d1
      generalize hx2 : R.getD 2 0 = x2 at d2
      generalize hx3 : R.getD 3 0 = x3 at d3
      generalize hx4 : R.getD 4 0 = x4 at d4
      generalize hx5 : R.getD 5 0 = x5 at d5
      generalize hx6 : R.getD 6 0 = x6 at d6
      generalize hx7 : R.getD 7 0 = x7 at d7
      generalize hkw : kw.getD j 0 = kk at c4
      generalize hww : ws.getD j 0 = ww at c7
      have HR := hide hR
      have HX := hide (And.intro hx0 (And.intro hx1 (And.intro hx2 (And.intro hx3 (And.intro hx4 (And.intro hx5 (And.intro hx6 hx7)))))))
      have HK := hide (And.intro hkw hww)
      clear hx0 hx1 hx2 hx3 hx4 hx5 hx6 hx7 hkw hww hR
      have b0 : (j : Int) < 80 := by omega
      go_wp2
      go_quiet (fail)
      revert nq
      intro n1
      have HO1 : Only p13 w (wr.drewN n1) := ho.drewN n1
      have Q1 : Hid ((wr.drewN n1).heap[p13]? = some (.cells (wa R) 35 (0, 0))) := hide Q13.out
      replace c4 : (wr.drewN n1).cell? ⟨p4, j, none⟩ = some (.int .u64 (wn kk)) := c4
      replace c7 : (wr.drewN n1).cell? ⟨p7, j, none⟩ = some (.int .u64 (wn ww)) := c7
      replace d0 : (wr.drewN n1).cell? ⟨p13, 0, none⟩ = some (.int .u64 (wn x0)) := d0
      replace d1 : (wr.drewN n1).cell? ⟨p13, 1, none⟩ = some (.int .u64 (wn x1)) := d1
      replace d2 : (wr.drewN n1).cell? ⟨p13, 2, none⟩ = some (.int .u64 (wn x2)) := d2
      replace d3 : (wr.drewN n1).cell? ⟨p13, 3, none⟩ = some (.int .u64 (wn x3)) := d3
      replace d4 : (wr.drewN n1).cell? ⟨p13, 4, none⟩ = some (.int .u64 (wn x4)) := d4
      replace d5 : (wr.drewN n1).cell? ⟨p13, 5, none⟩ = some (.int .u64 (wn x5)) := d5
      replace d6 : (wr.drewN n1).cell? ⟨p13, 6, none⟩ = some (.int .u64 (wn x6)) := d6
      replace d7 : (wr.drewN n1).cell? ⟨p13, 7, none⟩ = some (.int .u64 (wn x7)) := d7
      generalize wr.drewN n1 = W1 at HO1 Q1 c4 c7 d0 d1 d2 d3 d4 d5 d6 d7 ⊢
      clear ho Q13
      go_wp2
      go_quiet ((go_at_call 15; exact Calls.quiet_of_same (rotr_int _ _ (by omega) (by omega) _)))
      revert nq
      intro n2
      have HO2 : Only p13 w (W1.drewN n2) := HO1.drewN n2
      have Q2 : Hid ((W1.drewN n2).heap[p13]? = some (.cells (wa R) 35 (0, 0))) := hide Q1.out
      replace c4 : (W1.drewN n2).cell? ⟨p4, j, none⟩ = some (.int .u64 (wn kk)) := c4
      replace c7 : (W1.drewN n2).cell? ⟨p7, j, none⟩ = some (.int .u64 (wn ww)) := c7
      replace d0 : (W1.drewN n2).cell? ⟨p13, 0, none⟩ = some (.int .u64 (wn x0)) := d0
      replace d1 : (W1.drewN n2).cell? ⟨p13, 1, none⟩ = some (.int .u64 (wn x1)) := d1
      replace d2 : (W1.drewN n2).cell? ⟨p13, 2, none⟩ = some (.int .u64 (wn x2)) := d2
      replace d3 : (W1.drewN n2).cell? ⟨p13, 3, none⟩ = some (.int .u64 (wn x3)) := d3
      replace d4 : (W1.drewN n2).cell? ⟨p13, 4, none⟩ = some (.int .u64 (wn x4)) := d4
      replace d5 : (W1.drewN n2).cell? ⟨p13, 5, none⟩ = some (.int .u64 (wn x5)) := d5
      replace d6 : (W1.drewN n2).cell? ⟨p13, 6, none⟩ = some (.int .u64 (wn x6)) := d6
      replace d7 : (W1.drewN n2).cell? ⟨p13, 7, none⟩ = some (.int .u64 (wn x7)) := d7
      generalize W1.drewN n2 = W2 at HO2 Q2 c4 c7 d0 d1 d2 d3 d4 d5 d6 d7 ⊢
      clear HO1 Q1
      go_wp2
      go_quiet ((go_at_call 15; exact Calls.quiet_of_same (rotr_int _ _ (by omega) (by omega) _)))
      revert nq
      intro n3
      have HO3 : Only p13 w (W2.drewN n3) := HO2.drewN n3
      have Q3 : Hid ((W2.drewN n3).heap[p13]? = some (.cells (wa R) 35 (0, 0))) := hide Q2.out
      replace c4 : (W2.drewN n3).cell? ⟨p4, j, none⟩ = some (.int .u64 (wn kk)) := c4
      replace c7 : (W2.drewN n3).cell? ⟨p7, j, none⟩ = some (.int .u64 (wn ww)) := c7
      replace d0 : (W2.drewN n3).cell? ⟨p13, 0, none⟩ = some (.int .u64 (wn x0)) := d0
      replace d1 : (W2.drewN n3).cell? ⟨p13, 1, none⟩ = some (.int .u64 (wn x1)) := d1
      replace d2 : (W2.drewN n3).cell? ⟨p13, 2, none⟩ = some (.int .u64 (wn x2)) := d2
      replace d3 : (W2.drewN n3).cell? ⟨p13, 3, none⟩ = some (.int .u64 (wn x3)) := d3
      replace d4 : (W2.drewN n3).cell? ⟨p13, 4, none⟩ = some (.int .u64 (wn x4)) := d4
      replace d5 : (W2.drewN n3).cell? ⟨p13, 5, none⟩ = some (.int .u64 (wn x5)) := d5
      replace d6 : (W2.drewN n3).cell? ⟨p13, 6, none⟩ = some (.int .u64 (wn x6)) := d6
      replace d7 : (W2.drewN n3).cell? ⟨p13, 7, none⟩ = some (.int .u64 (wn x7)) := d7
      generalize W2.drewN n3 = W3 at HO3 Q3 c4 c7 d0 d1 d2 d3 d4 d5 d6 d7 ⊢
      clear HO2 Q2
      go_wp2_with (refine wpList_store_row rfl 35 (.tmp 13) (.tmp 205) rfl p13 (wa [t1w x4 x5 x6 x7 kk ww + t2w x0 x1 x2, x0, x1, x2, x3 + t1w x4 x5 x6 x7 kk ww, x4, x5, x6]) rfl rfl 35 (wa R) Q3.out size35 (by rw [HS.out]; rfl) (wa_one _) ?_)
      go_roundw
      case rel =>
        refine ⟨j + 1, by omega, by go_num, ?_, ?_⟩
        · rw [setRow_heap _ _ _ _ _ _ Q3.out, rs, HR.out, rnd, HK.out.1, HK.out.2, HX.out.1, HX.out.2.1, HX.out.2.2.1, HX.out.2.2.2.1, HX.out.2.2.2.2.1, HX.out.2.2.2.2.2.1, HX.out.2.2.2.2.2.2.1, HX.out.2.2.2.2.2.2.2]
        · exact HO3.setRow _
      case measure => simp [intOf]; omega
    · have hj8 : j = 80 := by omega
      rw [hj8] at q13
      go_wp2
      exact hexit _ _ _ _ _ _ _ _ _ _ _ _ _ _ _ _ _ _ _ _ _ _ _ _ _ _ _ _ _ _ _ _ _ _ _ _ _ _ _ _ _ _ _ _ _ _ _ _ _ _ _ _ _ _ _ _ _ _ _ _ _ _ _ _ _ _ _ _ _ _ _ _ _ _ _ _ _ _ _ _ _ _ _ _ _ _ _ _ q13 ho
end Go.Proofs.YtjkcjlhcfkapkaaDoor
