/- The page's own SHA-512: the words from sixteen to eighty. -/
import Derived.Test.YtjkcjlhcfkapkaaDoorRefA
namespace Go.Proofs.YtjkcjlhcfkapkaaDoor
open Go.RowKit
attribute [local go_sem] w_add w_xor w_shr6 w_shr7
set_option maxRecDepth 100000 in
set_option maxHeartbeats 1000000 in
theorem ref_next (Q : Exit → Act → World → Prop) (p7 : Nat) (ws : List (BitVec 64)) (hws : ws.length = 80) (w : World)
    (h7 : w.heap[p7]? = some (.cells (wa ws) 36 (0, 0))) (v0 v1 v2 v3 v4 v5 v6 v8 v9 v11 v12 v13 v14 v15 v16 v17 v18 v19 v20 v21 v22 v23 v24 v25 v26 v27 v28 v29 v30 v31 v32 v33 v34 v35 v36 v37 v38 v39 v40 v41 v42 v43 v44 v45 v46 v47 v48 v49 v50 v51 v52 v53 v54 v55 v56 v57 v58 v59 v60 v61 v62 v63 v64 v65 v66 v67 v68 v69 v70 v71 v72 v73 v74 v75 v76 v77 v78 v79 v80 v81 v82 v83 v84 v85 v86 v87 v88 v89 v90 v91 v92 v93 v94 v95 v96 v97 v98 v99 v100 v101 v102 v103 v104 v105 v106 v107 v108 v109 v110 v111 v112 v113 v114 v115 v116 v117 v118 v119 v120 v121 v122 v123 v124 v125 v126 v127 v128 v129 v130 v131 v132 v133 v134 v135 v136 v137 v138 v139 v140 v141 v142 v143 v144 v145 v146 v147 v148 v149 v150 v151 v152 v153 v154 v155 v156 v157 v158 v159 v160 v161 v162 v163 v164 v165 v166 v167 v168 v169 v170 v171 v172 v173 v174 v175 v176 v177 v178 v179 v180 v181 v182 v183 v184 v185 v186 v187 v188 v189 v190 v191 v192 v193 v194 v195 v196 v197 v198 v199 v200 v201 v202 v203 v204 v205 v206 v207 v208 v209 v210 v211 v212 v213 v214 v215 v216 v217 v218 v219 v220 v221 v222 v223 v224 v225 v226 v227 v228 v229 v230 v231 v232 v233 v234 v235 v236 v237 : Value)
    (hexit : ∀ (u10 u11 u12 u83 u84 u85 u86 u87 u88 u89 u90 u91 u92 u93 u94 u95 u96 u97 u98 u99 u100 u101 u102 u103 u104 u105 u106 u107 u108 u109 u110 u111 u112 u113 u114 u115 u116 u117 u118 u119 u120 u121 u122 u123 : Value) (w' : World), w'.heap[p7]? = some (.cells (wa (w2 ws 64)) 36 (0, 0)) → Only p7 w w' → Q (.exit 10) ⟨List.toArray (v0 :: v1 :: v2 :: v3 :: v4 :: v5 :: v6 :: .pointer (some ⟨p7, 0, none⟩) :: v8 :: v9 :: u10 :: u11 :: u12 :: v13 :: v14 :: v15 :: v16 :: v17 :: v18 :: v19 :: v20 :: v21 :: v22 :: v23 :: v24 :: v25 :: v26 :: v27 :: v28 :: v29 :: v30 :: v31 :: v32 :: v33 :: v34 :: v35 :: v36 :: v37 :: v38 :: v39 :: v40 :: v41 :: v42 :: v43 :: v44 :: v45 :: v46 :: v47 :: v48 :: v49 :: v50 :: v51 :: v52 :: v53 :: v54 :: v55 :: v56 :: v57 :: v58 :: v59 :: v60 :: v61 :: v62 :: v63 :: v64 :: v65 :: v66 :: v67 :: v68 :: v69 :: v70 :: v71 :: v72 :: v73 :: v74 :: v75 :: v76 :: v77 :: v78 :: v79 :: v80 :: v81 :: v82 :: u83 :: u84 :: u85 :: u86 :: u87 :: u88 :: u89 :: u90 :: u91 :: u92 :: u93 :: u94 :: u95 :: u96 :: u97 :: u98 :: u99 :: u100 :: u101 :: u102 :: u103 :: u104 :: u105 :: u106 :: u107 :: u108 :: u109 :: u110 :: u111 :: u112 :: u113 :: u114 :: u115 :: u116 :: u117 :: u118 :: u119 :: u120 :: u121 :: u122 :: u123 :: v124 :: v125 :: v126 :: v127 :: v128 :: v129 :: v130 :: v131 :: v132 :: v133 :: v134 :: v135 :: v136 :: v137 :: v138 :: v139 :: v140 :: v141 :: v142 :: v143 :: v144 :: v145 :: v146 :: v147 :: v148 :: v149 :: v150 :: v151 :: v152 :: v153 :: v154 :: v155 :: v156 :: v157 :: v158 :: v159 :: v160 :: v161 :: v162 :: v163 :: v164 :: v165 :: v166 :: v167 :: v168 :: v169 :: v170 :: v171 :: v172 :: v173 :: v174 :: v175 :: v176 :: v177 :: v178 :: v179 :: v180 :: v181 :: v182 :: v183 :: v184 :: v185 :: v186 :: v187 :: v188 :: v189 :: v190 :: v191 :: v192 :: v193 :: v194 :: v195 :: v196 :: v197 :: v198 :: v199 :: v200 :: v201 :: v202 :: v203 :: v204 :: v205 :: v206 :: v207 :: v208 :: v209 :: v210 :: v211 :: v212 :: v213 :: v214 :: v215 :: v216 :: v217 :: v218 :: v219 :: v220 :: v221 :: v222 :: v223 :: v224 :: v225 :: v226 :: v227 :: v228 :: v229 :: v230 :: v231 :: v232 :: v233 :: v234 :: v235 :: v236 :: v237 :: []), []⟩ w') :
    Code.wp Tryd.prog (nav [1, 1, 1, 1, 1, 1, 1, 0, 0, 0, 1, 0, 0, 1, 1, 0, 1, 0] (Tryd.f10.body.getD .skip)) Q ⟨List.toArray (v0 :: v1 :: v2 :: v3 :: v4 :: v5 :: v6 :: .pointer (some ⟨p7, 0, none⟩) :: v8 :: v9 :: .int .i64 16 :: v11 :: v12 :: v13 :: v14 :: v15 :: v16 :: v17 :: v18 :: v19 :: v20 :: v21 :: v22 :: v23 :: v24 :: v25 :: v26 :: v27 :: v28 :: v29 :: v30 :: v31 :: v32 :: v33 :: v34 :: v35 :: v36 :: v37 :: v38 :: v39 :: v40 :: v41 :: v42 :: v43 :: v44 :: v45 :: v46 :: v47 :: v48 :: v49 :: v50 :: v51 :: v52 :: v53 :: v54 :: v55 :: v56 :: v57 :: v58 :: v59 :: v60 :: v61 :: v62 :: v63 :: v64 :: v65 :: v66 :: v67 :: v68 :: v69 :: v70 :: v71 :: v72 :: v73 :: v74 :: v75 :: v76 :: v77 :: v78 :: v79 :: v80 :: v81 :: v82 :: v83 :: v84 :: v85 :: v86 :: v87 :: v88 :: v89 :: v90 :: v91 :: v92 :: v93 :: v94 :: v95 :: v96 :: v97 :: v98 :: v99 :: v100 :: v101 :: v102 :: v103 :: v104 :: v105 :: v106 :: v107 :: v108 :: v109 :: v110 :: v111 :: v112 :: v113 :: v114 :: v115 :: v116 :: v117 :: v118 :: v119 :: v120 :: v121 :: v122 :: v123 :: v124 :: v125 :: v126 :: v127 :: v128 :: v129 :: v130 :: v131 :: v132 :: v133 :: v134 :: v135 :: v136 :: v137 :: v138 :: v139 :: v140 :: v141 :: v142 :: v143 :: v144 :: v145 :: v146 :: v147 :: v148 :: v149 :: v150 :: v151 :: v152 :: v153 :: v154 :: v155 :: v156 :: v157 :: v158 :: v159 :: v160 :: v161 :: v162 :: v163 :: v164 :: v165 :: v166 :: v167 :: v168 :: v169 :: v170 :: v171 :: v172 :: v173 :: v174 :: v175 :: v176 :: v177 :: v178 :: v179 :: v180 :: v181 :: v182 :: v183 :: v184 :: v185 :: v186 :: v187 :: v188 :: v189 :: v190 :: v191 :: v192 :: v193 :: v194 :: v195 :: v196 :: v197 :: v198 :: v199 :: v200 :: v201 :: v202 :: v203 :: v204 :: v205 :: v206 :: v207 :: v208 :: v209 :: v210 :: v211 :: v212 :: v213 :: v214 :: v215 :: v216 :: v217 :: v218 :: v219 :: v220 :: v221 :: v222 :: v223 :: v224 :: v225 :: v226 :: v227 :: v228 :: v229 :: v230 :: v231 :: v232 :: v233 :: v234 :: v235 :: v236 :: v237 :: []), []⟩ w := by
  conv => arg 2; whnf
  go_loopw [10] (fun i wr => ∃ n : Nat, 16 ≤ n ∧ n ≤ 80 ∧ i = .int .i64 n ∧ wr.heap[p7]? = some (.cells (wa (w2 ws (n - 16))) 36 (0, 0)) ∧ Only p7 w wr) (fun i _ => 80 - (intOf i).toNat)
  case atStart => exact ⟨16, by omega, by omega, rfl, h7, Only.refl _ _⟩
  case round =>
    obtain ⟨n, hn, hj, rfl, q7, ho⟩ := hrel
    have hls : (w2 ws (n - 16)).length = 80 := by rw [w2_len, hws]
    by_cases hlt : n < 80
    · have c2 := row_cell q7 (j := n - 2) (by omega)
      have c7 := row_cell q7 (j := n - 7) (by omega)
      have c15 := row_cell q7 (j := n - 15) (by omega)
      have c16 := row_cell q7 (j := n - 16) (by omega)
      have c0 := row_cell q7 (j := n) (by omega)
      have hfro : wr.frozen? ⟨p7, n, none⟩ = false := frozen_of_row _ _ _ _ _ q7
      have Q7 := hide q7
      clear q7 hls h7 hexit
      generalize hx2 : (w2 ws (n - 16)).getD (n - 2) 0 = x2 at c2
      generalize hx7 : (w2 ws (n - 16)).getD (n - 7) 0 = x7 at c7
      generalize hx15 : (w2 ws (n - 16)).getD (n - 15) 0 = x15 at c15
      generalize hx16 : (w2 ws (n - 16)).getD (n - 16) 0 = x16 at c16
      generalize hx0 : (w2 ws (n - 16)).getD n 0 = x0 at c0
      have HX := hide (And.intro hx2 (And.intro hx7 (And.intro hx15 hx16)))
      clear hx2 hx7 hx15 hx16 hx0
      have b0 : (n : Int) < 80 := by omega
      have b2 : ((n - 2 : Nat) : Int) < 80 := by omega
      have e2 : IntKind.i64.wrap ((n : Int) - 2) = ((n - 2 : Nat) : Int) := by rw [i64_wrap _ (by omega)]; omega
      have b7 : ((n - 7 : Nat) : Int) < 80 := by omega
      have e7 : IntKind.i64.wrap ((n : Int) - 7) = ((n - 7 : Nat) : Int) := by rw [i64_wrap _ (by omega)]; omega
      have b15 : ((n - 15 : Nat) : Int) < 80 := by omega
      have e15 : IntKind.i64.wrap ((n : Int) - 15) = ((n - 15 : Nat) : Int) := by rw [i64_wrap _ (by omega)]; omega
      have b16 : ((n - 16 : Nat) : Int) < 80 := by omega
      have e16 : IntKind.i64.wrap ((n : Int) - 16) = ((n - 16 : Nat) : Int) := by rw [i64_wrap _ (by omega)]; omega
      go_wp2
      go_quiet (fail)
      revert nq
      intro n1
      have HO1 : Only p7 w (wr.drewN n1) := ho.drewN n1
      have Q1 : Hid ((wr.drewN n1).heap[p7]? = some (.cells (wa (w2 ws (n - 16))) 36 (0, 0))) := hide Q7.out
      replace c7 : (wr.drewN n1).cell? ⟨p7, n - 7, none⟩ = some (.int .u64 (wn x7)) := c7
      replace c16 : (wr.drewN n1).cell? ⟨p7, n - 16, none⟩ = some (.int .u64 (wn x16)) := c16
      replace c0 : (wr.drewN n1).cell? ⟨p7, n, none⟩ = some (.int .u64 (wn x0)) := c0
      replace hfro : (wr.drewN n1).frozen? ⟨p7, n, none⟩ = false := hfro
      clear c2 c15 Q7 ho
      generalize wr.drewN n1 = W1 at HO1 Q1 c7 c16 c0 hfro ⊢
      go_wp2
      go_region_held3 (fun w' => w'.cell? ⟨p7, n - 7, none⟩ = some (.int .u64 (wn x7)) ∧ w'.cell? ⟨p7, n - 16, none⟩ = some (.int .u64 (wn x16))) (first | (go_keep; done) | (exact ⟨keep_set (by omega) c7, keep_set (by omega) c16⟩)) ((go_at_call 15; refine (rotr_int _ _ (by omega) (by omega) _).mono ?_; rintro e w' ⟨rfl, rfl⟩))
      clear c7 c16 c0 b0 b2 b7 b15 b16 e2 e7 e15 e16
      go_wp2
      go_roundw
      case rel =>
        refine ⟨n + 1, by omega, by omega, by go_num, ?_, ?_⟩
        · rw [heap_drew, heap_setCell_same _ _ _ _ _ _ Q1.out, wa_set, show n + 1 - 16 = n - 16 + 1 by omega, w2]
          rw [show 16 + (n - 16) = n by omega, nxw, HX.out.1, HX.out.2.1, HX.out.2.2.1, HX.out.2.2.2]
          rfl
        · exact (HO1.setCell _ _).drew
      case measure => simp [intOf]; omega
    · have hj8 : n = 80 := by omega
      rw [hj8] at q7
      go_wp2
      exact hexit _ _ _ _ _ _ _ _ _ _ _ _ _ _ _ _ _ _ _ _ _ _ _ _ _ _ _ _ _ _ _ _ _ _ _ _ _ _ _ _ _ _ _ _ _ q7 ho
end Go.Proofs.YtjkcjlhcfkapkaaDoor
