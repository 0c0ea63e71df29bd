/- The page's own SHA-512: piece by piece. -/
import Derived.Test.YtjkcjlhcfkapkaaDoorRefB
import Derived.Test.YtjkcjlhcfkapkaaDoorRefE
import Derived.Test.YtjkcjlhcfkapkaaDoorRefF
import Derived.Test.YtjkcjlhcfkapkaaDoorRefG
import Derived.Test.YtjkcjlhcfkapkaaDoorRefH
import Derived.Test.YtjkcjlhcfkapkaaDoorInv
namespace Go.Proofs.YtjkcjlhcfkapkaaDoor
open Go.RowKit
/-- All that was there but the row p is as it was; there may be more. -/
structure Keep (p : Nat) (w w' : World) : Prop where
  below : Below p w w'
  old : ∀ i, i ≠ p → i < w.heap.size → w'.heap[i]? = w.heap[i]?
theorem Keep.refl (p : Nat) (w : World) : Keep p w w := ⟨Below.refl _ _, fun _ _ _ => rfl⟩
theorem Keep.size {p : Nat} {w w' : World} (h : Keep p w w') : w.heap.size ≤ w'.heap.size := h.below.size
theorem Keep.row {p i : Nat} {a w : World} {o : Option Obj} (h : Keep p a w) (hi : i ≠ p) (hl : i < a.heap.size) (hr : a.heap[i]? = o) : w.heap[i]? = o := (h.old i hi hl).trans hr
theorem Keep.range {p i o : Nat} {a w : World} {l : List Value} (h : Keep p a w) (hi : i ≠ p) (hl : i < a.heap.size) (hr : a.rangeAt i o l) : w.rangeAt i o l := fun j v hv => by
  rw [← hr j v hv]; simp only [World.cell?]; rw [h.old i hi hl]
theorem Keep.alloc {p : Nat} {a w : World} (h : Keep p a w) (o : Obj) (hp : p ≤ w.heap.size := by omega) : Keep p a (w.alloc o) :=
  ⟨h.below.alloc hp _, fun i hi hl => (Below.heap_alloc _ _ _ (Nat.lt_of_lt_of_le hl h.size)).trans (h.old i hi hl)⟩
theorem Keep.only {p q : Nat} {a w w' : World} (h : Keep p a w) (ho : Only q w w') (hq : q = p ∨ a.heap.size ≤ q) (hp : p ≤ q := by omega) : Keep p a w' :=
  ⟨h.below.trans (ho.below p hp), fun i hi hl => (ho.other i (by rcases hq with rfl | hq; exact hi; omega)).trans (h.old i hi hl)⟩
set_option maxRecDepth 100000 in
set_option maxHeartbeats 2000000 in
theorem ref_pieces (Q : Exit → Act → World → Prop) (p3 p4 q c K : Nat) (P : List UInt8) (hP : P.length = 128 * K) (hK : K ≤ 1000000000000) (hc : 128 * K ≤ c) (h34 : p3 ≠ p4) (hq3 : q ≠ p3) (w : World)
    (h3 : w.heap[p3]? = some (.cells (wa h0w) 35 (0, 0))) (h4 : w.heap[p4]? = some (.cells (wa kw) 36 (0, 0))) (hq : w.rangeAt q 0 (P.map bc)) (hl3 : p3 < w.heap.size) (hl4 : p4 < w.heap.size) (hlq : q < w.heap.size) (v0 v1 v2 v6 v7 v8 v9 v10 v11 v12 v13 v14 v15 v16 v17 v18 v19 v20 v21 v22 v23 v24 v25 v26 v27 v28 v29 v30 v31 v32 v33 v34 v35 v36 v37 v38 v39 v40 v41 v42 v43 v44 v45 v46 v47 v48 v49 v50 v51 v52 v53 v54 v55 v56 v57 v58 v59 v60 v61 v62 v63 v64 v65 v66 v67 v68 v69 v70 v71 v72 v73 v74 v75 v76 v77 v78 v79 v80 v81 v82 v83 v84 v85 v86 v87 v88 v89 v90 v91 v92 v93 v94 v95 v96 v97 v98 v99 v100 v101 v102 v103 v104 v105 v106 v107 v108 v109 v110 v111 v112 v113 v114 v115 v116 v117 v118 v119 v120 v121 v122 v123 v124 v125 v126 v127 v128 v129 v130 v131 v132 v133 v134 v135 v136 v137 v138 v139 v140 v141 v142 v143 v144 v145 v146 v147 v148 v149 v150 v151 v152 v153 v154 v155 v156 v157 v158 v159 v160 v161 v162 v163 v164 v165 v166 v167 v168 v169 v170 v171 v172 v173 v174 v175 v176 v177 v178 v179 v180 v181 v182 v183 v184 v185 v186 v187 v188 v189 v190 v191 v192 v193 v194 v195 v196 v197 v198 v199 v200 v201 v202 v203 v204 v205 v206 v207 v208 v209 v210 v211 v212 v213 v214 v215 v216 v217 v218 v219 v220 v221 v222 v223 v224 v225 v226 v227 v228 v229 v230 v231 v232 v233 v234 v235 v236 v237 : Value)
    (hexit : ∀ (u5 u7 u8 u9 u10 u11 u12 u13 u14 u15 u16 u17 u18 u19 u55 u56 u57 u58 u59 u60 u61 u62 u63 u64 u65 u66 u67 u68 u69 u70 u71 u72 u73 u74 u75 u76 u77 u78 u79 u80 u81 u82 u83 u84 u85 u86 u87 u88 u89 u90 u91 u92 u93 u94 u95 u96 u97 u98 u99 u100 u101 u102 u103 u104 u105 u106 u107 u108 u109 u110 u111 u112 u113 u114 u115 u116 u117 u118 u119 u120 u121 u122 u123 u124 u125 u126 u127 u128 u129 u130 u131 u132 u133 u134 u135 u136 u137 u138 u139 u140 u141 u142 u143 u144 u145 u146 u147 u148 u149 u150 u151 u152 u153 u154 u155 u156 u157 u158 u159 u160 u161 u162 u163 u164 u165 u166 u167 u168 u169 u170 u171 u172 u173 u174 u175 u176 u177 u178 u179 u180 u181 u182 u183 u184 u185 u186 u187 u188 u189 u190 u191 u192 u193 u194 u195 u196 u197 u198 u199 u200 u201 u202 u203 u204 u205 u206 u207 u208 u209 u210 u211 u212 u213 u214 u215 u216 u217 u218 : Value) (w' : World), w'.heap[p3]? = some (.cells (wa (stAt P K)) 35 (0, 0)) → Keep p3 w w' → Q (.exit 4) ⟨List.toArray (v0 :: v1 :: v2 :: .pointer (some ⟨p3, 0, none⟩) :: .pointer (some ⟨p4, 0, none⟩) :: u5 :: v6 :: u7 :: u8 :: u9 :: u10 :: u11 :: u12 :: u13 :: u14 :: u15 :: u16 :: u17 :: u18 :: u19 :: v20 :: v21 :: v22 :: v23 :: v24 :: v25 :: v26 :: v27 :: v28 :: v29 :: v30 :: v31 :: v32 :: v33 :: v34 :: v35 :: v36 :: v37 :: v38 :: v39 :: v40 :: v41 :: v42 :: v43 :: v44 :: v45 :: v46 :: v47 :: v48 :: v49 :: v50 :: v51 :: v52 :: v53 :: v54 :: u55 :: u56 :: u57 :: u58 :: u59 :: u60 :: u61 :: u62 :: u63 :: u64 :: u65 :: u66 :: u67 :: u68 :: u69 :: u70 :: u71 :: u72 :: u73 :: u74 :: u75 :: u76 :: u77 :: u78 :: u79 :: u80 :: u81 :: u82 :: u83 :: u84 :: u85 :: u86 :: u87 :: u88 :: u89 :: u90 :: u91 :: u92 :: u93 :: u94 :: u95 :: u96 :: u97 :: u98 :: u99 :: u100 :: u101 :: u102 :: u103 :: u104 :: u105 :: u106 :: u107 :: u108 :: u109 :: u110 :: u111 :: u112 :: u113 :: u114 :: u115 :: u116 :: u117 :: u118 :: u119 :: u120 :: u121 :: u122 :: u123 :: u124 :: u125 :: u126 :: u127 :: u128 :: u129 :: u130 :: u131 :: u132 :: u133 :: u134 :: u135 :: u136 :: u137 :: u138 :: u139 :: u140 :: u141 :: u142 :: u143 :: u144 :: u145 :: u146 :: u147 :: u148 :: u149 :: u150 :: u151 :: u152 :: u153 :: u154 :: u155 :: u156 :: u157 :: u158 :: u159 :: u160 :: u161 :: u162 :: u163 :: u164 :: u165 :: u166 :: u167 :: u168 :: u169 :: u170 :: u171 :: u172 :: u173 :: u174 :: u175 :: u176 :: u177 :: u178 :: u179 :: u180 :: u181 :: u182 :: u183 :: u184 :: u185 :: u186 :: u187 :: u188 :: u189 :: u190 :: u191 :: u192 :: u193 :: u194 :: u195 :: u196 :: u197 :: u198 :: u199 :: u200 :: u201 :: u202 :: u203 :: u204 :: u205 :: u206 :: u207 :: u208 :: u209 :: u210 :: u211 :: u212 :: u213 :: u214 :: u215 :: u216 :: u217 :: u218 :: v219 :: v220 :: v221 :: v222 :: v223 :: v224 :: v225 :: v226 :: v227 :: v228 :: v229 :: v230 :: v231 :: v232 :: v233 :: v234 :: v235 :: v236 :: v237 :: []), []⟩ w') :
    Code.wp Tryd.prog (nav [1, 1, 1, 1, 1, 1, 1, 0, 0] (Tryd.f10.body.getD .skip)) Q ⟨List.toArray (v0 :: v1 :: v2 :: .pointer (some ⟨p3, 0, none⟩) :: .pointer (some ⟨p4, 0, none⟩) :: .slice (some ⟨q, 0, none⟩) (128 * K) c :: v6 :: v7 :: v8 :: v9 :: v10 :: v11 :: v12 :: v13 :: v14 :: v15 :: v16 :: v17 :: v18 :: v19 :: v20 :: v21 :: v22 :: v23 :: v24 :: v25 :: v26 :: v27 :: v28 :: v29 :: v30 :: v31 :: v32 :: v33 :: v34 :: v35 :: v36 :: v37 :: v38 :: v39 :: v40 :: v41 :: v42 :: v43 :: v44 :: v45 :: v46 :: v47 :: v48 :: v49 :: v50 :: v51 :: v52 :: v53 :: v54 :: v55 :: v56 :: v57 :: v58 :: v59 :: v60 :: v61 :: v62 :: v63 :: v64 :: v65 :: v66 :: v67 :: v68 :: v69 :: v70 :: v71 :: v72 :: v73 :: v74 :: v75 :: v76 :: v77 :: v78 :: v79 :: v80 :: v81 :: v82 :: v83 :: v84 :: v85 :: v86 :: v87 :: v88 :: v89 :: v90 :: v91 :: v92 :: v93 :: v94 :: v95 :: v96 :: v97 :: v98 :: v99 :: v100 :: v101 :: v102 :: v103 :: v104 :: v105 :: v106 :: v107 :: v108 :: v109 :: v110 :: v111 :: v112 :: v113 :: v114 :: v115 :: v116 :: v117 :: v118 :: v119 :: v120 :: v121 :: v122 :: v123 :: v124 :: v125 :: v126 :: v127 :: v128 :: v129 :: v130 :: v131 :: v132 :: v133 :: v134 :: v135 :: v136 :: v137 :: v138 :: v139 :: v140 :: v141 :: v142 :: v143 :: v144 :: v145 :: v146 :: v147 :: v148 :: v149 :: v150 :: v151 :: v152 :: v153 :: v154 :: v155 :: v156 :: v157 :: v158 :: v159 :: v160 :: v161 :: v162 :: v163 :: v164 :: v165 :: v166 :: v167 :: v168 :: v169 :: v170 :: v171 :: v172 :: v173 :: v174 :: v175 :: v176 :: v177 :: v178 :: v179 :: v180 :: v181 :: v182 :: v183 :: v184 :: v185 :: v186 :: v187 :: v188 :: v189 :: v190 :: v191 :: v192 :: v193 :: v194 :: v195 :: v196 :: v197 :: v198 :: v199 :: v200 :: v201 :: v202 :: v203 :: v204 :: v205 :: v206 :: v207 :: v208 :: v209 :: v210 :: v211 :: v212 :: v213 :: v214 :: v215 :: v216 :: v217 :: v218 :: v219 :: v220 :: v221 :: v222 :: v223 :: v224 :: v225 :: v226 :: v227 :: v228 :: v229 :: v230 :: v231 :: v232 :: v233 :: v234 :: v235 :: v236 :: v237 :: []), []⟩ w := by
  conv => arg 2; whnf
  go_loopw [5] (fun sv wr => ∃ k : Nat, k ≤ K ∧ (∃ pt, sv = .slice pt (128 * (K - k)) (c - 128 * k) ∧ (k < K → pt = some ⟨q, 128 * k, none⟩)) ∧ wr.heap[p3]? = some (.cells (wa (stAt P k)) 35 (0, 0)) ∧ Keep p3 w wr) (fun sv _ => slen sv)
  case atStart => exact ⟨0, by omega, ⟨_, rfl, fun _ => rfl⟩, h3, Keep.refl _ _⟩
  case round =>
    obtain ⟨k, hk, ⟨pt, rfl, hpt⟩, q3, hkeep⟩ := hrel
    have hs8 : (stAt P k).length = 8 := stAt_len P k
    by_cases hlt : k < K
    · obtain rfl := hpt hlt
      have q4 := hkeep.row (Ne.symm h34) hl4 h4
      have qq := hkeep.range hq3 hlq hq
      have hszw := hkeep.size
      obtain ⟨bs, hbs⟩ : ∃ bs, bs = (P.drop (128 * k)).take 128 := ⟨_, rfl⟩
      have hbl : bs.length = 128 := by rw [hbs]; simp; omega
      have qb : wr.rangeAt q (128 * k) (bs.map bc) := by
        intro j u hu
        rw [hbs, List.map_take, List.map_drop, List.getElem?_take] at hu
        split at hu
        · rw [List.getElem?_drop] at hu
          have := qq (128 * k + j) u hu
          rwa [Nat.zero_add] at this
        · cases hu
      have hst : stAt P (k + 1) = foldW (stAt P k) (spreadW bs) := by rw [stAt, ← hbs]
      have HBS := hide hst
      clear hbs hst hexit h3 h4 hq qq hpt
      generalize hS : stAt P k = s at q3 hs8 HBS
      have HS := hide hS
      clear hS
      obtain ⟨n', hn'⟩ : ∃ n' : Nat, n' = 128 * (K - k) := ⟨_, rfl⟩
      obtain ⟨c', hc'⟩ : ∃ c' : Nat, c' = c - 128 * k := ⟨_, rfl⟩
      obtain ⟨o', ho'⟩ : ∃ o' : Nat, o' = 128 * k := ⟨_, rfl⟩
      rw [← hn', ← hc', ← ho']
      rw [← ho'] at qb
      have hn128 : 128 ≤ n' := by omega
      have hnc : n' ≤ c' := by omega
      have hnm : n' < 4611686018427387904 := by omega
      have HN := hide (And.intro hn' (And.intro hc' ho'))
      clear hn' hc' ho'
      have hpos : (0 : Int) < (n' : Int) := by omega
      have hz36 := zero36
      go_wp2
      clear hz36
      obtain ⟨W1, hW1⟩ : ∃ W1, W1 = wr.alloc (.cells (wa z80) 36) := ⟨_, rfl⟩
      obtain ⟨p7, hp7⟩ : ∃ p7, p7 = wr.heap.size := ⟨_, rfl⟩
      have a7 : W1.heap[p7]? = some (.cells (wa z80) 36 (0, 0)) := by rw [hW1, hp7]; exact heap_alloc_last _ _
      have a3 : W1.heap[p3]? = some (.cells (wa s) 35 (0, 0)) := by rw [hW1, Below.heap_alloc _ _ _ (by omega)]; exact q3
      have a4 : W1.heap[p4]? = some (.cells (wa kw) 36 (0, 0)) := by rw [hW1, Below.heap_alloc _ _ _ (by omega)]; exact q4
      have aq : W1.rangeAt q o' (bs.map bc) := by
        intro j u hu
        rw [← qb j u hu, hW1]; simp only [World.cell?]; rw [Below.heap_alloc _ _ _ (by omega)]
      have asz : W1.heap.size = p7 + 1 := by rw [hW1, hp7]; simp
      have akeep : Keep p3 w W1 := by rw [hW1]; exact hkeep.alloc _
      have n7 : p3 < p7 ∧ p4 < p7 ∧ q < p7 ∧ w.heap.size ≤ p7 := by omega
      rw [← hW1, ← hp7]
      clear hW1 hp7 q3 q4 qb hkeep
      refine ref_words _ p7 q o' n' c' bs hbl (by omega) hn128 hnm _ a7 aq _ _ _ _ _ _ _ _ _ _ _ _ _ _ _ _ _ _ _ _ _ _ _ _ _ _ _ _ _ _ _ _ _ _ _ _ _ _ _ _ _ _ _ _ _ _ _ _ _ _ _ _ _ _ _ _ _ _ _ _ _ _ _ _ _ _ _ _ _ _ _ _ _ _ _ _ _ _ _ _ _ _ _ _ _ _ _ _ _ _ _ _ _ _ _ _ _ _ _ _ _ _ _ _ _ _ _ _ _ _ _ _ _ _ _ _ _ _ _ _ _ _ _ _ _ _ _ _ _ _ _ _ _ _ _ _ _ _ _ _ _ _ _ _ _ _ _ _ _ _ _ _ _ _ _ _ _ _ _ _ _ _ _ _ _ _ _ _ _ _ _ _ _ _ _ _ _ _ _ _ _ _ _ _ _ _ _ _ _ _ _ _ _ _ _ _ _ _ _ _ _ _ _ _ _ _ _ _ _ _ _ _ _ _ _ _ _ _ _ _ _ _ _ _ _ _ _ _ _ _ _ _ _ _ _ ?_
      intro r8 r9 r60 r61 r62 r63 r64 r65 r66 r67 r68 r69 r70 r71 r72 r73 r74 r75 r76 r77 r78 r79 r80 r81 r82 X2 b7 bo
      have b3 := bo.row (show p3 ≠ p7 by omega) a3
      have b4 := bo.row (show p4 ≠ p7 by omega) a4
      have bsz := bo.size
      have bkeep := akeep.only bo (by omega)
      clear a7 a3 a4 aq akeep bo
      go_wp2
      refine ref_next _ p7 (w1 bs 128) (w1_len _ _) _ b7 _ _ _ _ _ _ _ _ _ _ _ _ _ _ _ _ _ _ _ _ _ _ _ _ _ _ _ _ _ _ _ _ _ _ _ _ _ _ _ _ _ _ _ _ _ _ _ _ _ _ _ _ _ _ _ _ _ _ _ _ _ _ _ _ _ _ _ _ _ _ _ _ _ _ _ _ _ _ _ _ _ _ _ _ _ _ _ _ _ _ _ _ _ _ _ _ _ _ _ _ _ _ _ _ _ _ _ _ _ _ _ _ _ _ _ _ _ _ _ _ _ _ _ _ _ _ _ _ _ _ _ _ _ _ _ _ _ _ _ _ _ _ _ _ _ _ _ _ _ _ _ _ _ _ _ _ _ _ _ _ _ _ _ _ _ _ _ _ _ _ _ _ _ _ _ _ _ _ _ _ _ _ _ _ _ _ _ _ _ _ _ _ _ _ _ _ _ _ _ _ _ _ _ _ _ _ _ _ _ _ _ _ _ _ _ _ _ _ _ _ _ _ _ _ _ _ _ _ _ _ _ _ _ _ _ _ ?_
      intro s10 s11 s12 s83 s84 s85 s86 s87 s88 s89 s90 s91 s92 s93 s94 s95 s96 s97 s98 s99 s100 s101 s102 s103 s104 s105 s106 s107 s108 s109 s110 s111 s112 s113 s114 s115 s116 s117 s118 s119 s120 s121 s122 s123 X3 c7 co
      have c3 := co.row (show p3 ≠ p7 by omega) b3
      have c4 := co.row (show p4 ≠ p7 by omega) b4
      have csz := co.size
      have ckeep := bkeep.only co (by omega)
      clear b7 b3 b4 bkeep co
      obtain ⟨p13, hp13⟩ : ∃ p13, X3.heap.size = p13 := ⟨_, rfl⟩
      have n13 : p7 < p13 := by omega
      clear csz bsz asz
      have hrow13 : (X3.alloc (.cells (wa z8) 35)).heap[p13]? = some (.cells (wa z8) 35 (0, 0)) := by rw [← hp13]; exact heap_alloc_last _ _
      have H13 := hide hrow13
      clear hrow13
      have hz35 : ∀ w, (zeroValue 35).run Tryd.prog w = .ok (.agg (wa z8)) w := zero35
      have hs8' : (wa s).size = 8 := by rw [wa_size, hs8]
      go_wp2_with (first | (refine wpList_load_row rfl 35 (.tmp 3) rfl p3 rfl 35 (wa s) (0,0) (.array 8 30) c3 und35 rfl (by rw [hs8']; exact size35) ?_) | (refine wpList_store_row rfl 35 (.tmp 13) (.tmp 124) rfl p13 (wa s) rfl rfl 35 (wa z8) H13.out (by rw [hs8']; exact size35) (by rw [hs8']; rfl) (wa_one _) ?_))
      clear hz35
      obtain ⟨W4, hW4⟩ : ∃ W4, W4 = (X3.alloc (.cells (wa z8) 35)).setRow p13 (wa s) := ⟨_, rfl⟩
      have d13 : W4.heap[p13]? = some (.cells (wa s) 35 (0, 0)) := by rw [hW4]; exact setRow_heap _ _ _ _ _ _ H13.out
      have d3 : W4.heap[p3]? = some (.cells (wa s) 35 (0, 0)) := by rw [hW4, setRow_other _ _ _ _ (by omega), Below.heap_alloc _ _ _ (by omega)]; exact c3
      have d4 : W4.heap[p4]? = some (.cells (wa kw) 36 (0, 0)) := by rw [hW4, setRow_other _ _ _ _ (by omega), Below.heap_alloc _ _ _ (by omega)]; exact c4
      have d7 : W4.heap[p7]? = some (.cells (wa (w2 (w1 bs 128) 64)) 36 (0, 0)) := by rw [hW4, setRow_other _ _ _ _ (by omega), Below.heap_alloc _ _ _ (by omega)]; exact c7
      have dkeep : Keep p3 w W4 := by rw [hW4]; exact (ckeep.alloc _).only ((Only.refl p13 _).setRow _) (by omega)
      rw [← hW4]
      clear hW4 H13 c3 c4 c7 ckeep hp13
      refine ref_rounds _ p4 p7 p13 s (w2 (w1 bs 128) 64) hs8 (by rw [w2_len, w1_len]) (by omega) (by omega) _ d4 d7 d13 _ _ _ _ _ _ _ _ _ _ _ _ _ _ _ _ _ _ _ _ _ _ _ _ _ _ _ _ _ _ _ _ _ _ _ _ _ _ _ _ _ _ _ _ _ _ _ _ _ _ _ _ _ _ _ _ _ _ _ _ _ _ _ _ _ _ _ _ _ _ _ _ _ _ _ _ _ _ _ _ _ _ _ _ _ _ _ _ _ _ _ _ _ _ _ _ _ _ _ _ _ _ _ _ _ _ _ _ _ _ _ _ _ _ _ _ _ _ _ _ _ _ _ _ _ _ _ _ _ _ _ _ _ _ _ _ _ _ _ _ _ _ _ _ _ _ _ _ _ _ _ _ _ _ _ _ _ _ _ _ _ _ _ _ _ _ _ _ _ _ _ _ _ _ _ _ _ _ _ _ _ _ _ _ _ _ _ _ _ _ _ _ _ _ _ _ _ _ _ _ _ _ _ _ _ _ _ _ _ _ _ _ _ _ _ _ _ _ _ _ _ _ _ _ _ _ _ _ _ _ _ _ _ _ ?_
      intro t14 t15 t16 t17 t18 t125 t126 t127 t128 t129 t130 t131 t132 t133 t134 t135 t136 t137 t138 t139 t140 t141 t142 t143 t144 t145 t146 t147 t148 t149 t150 t151 t152 t153 t154 t155 t156 t157 t158 t159 t160 t161 t162 t163 t164 t165 t166 t167 t168 t169 t170 t171 t172 t173 t174 t175 t176 t177 t178 t179 t180 t181 t182 t183 t184 t185 t186 t187 t188 t189 t190 t191 t192 t193 t194 t195 t196 t197 t198 t199 t200 t201 t202 t203 t204 t205 t206 X5 e13 eo
      have e3 := eo.row (show p3 ≠ p13 by omega) d3
      have ekeep := dkeep.only eo (by omega)
      clear d13 d3 d4 d7 dkeep eo
      go_wp2
      refine ref_add _ p3 p13 s (rs s (w2 (w1 bs 128) 64) 80) hs8 (rs_len _ _ hs8 _) (by omega) _ e3 e13 _ _ _ _ _ _ _ _ _ _ _ _ _ _ _ _ _ _ _ _ _ _ _ _ _ _ _ _ _ _ _ _ _ _ _ _ _ _ _ _ _ _ _ _ _ _ _ _ _ _ _ _ _ _ _ _ _ _ _ _ _ _ _ _ _ _ _ _ _ _ _ _ _ _ _ _ _ _ _ _ _ _ _ _ _ _ _ _ _ _ _ _ _ _ _ _ _ _ _ _ _ _ _ _ _ _ _ _ _ _ _ _ _ _ _ _ _ _ _ _ _ _ _ _ _ _ _ _ _ _ _ _ _ _ _ _ _ _ _ _ _ _ _ _ _ _ _ _ _ _ _ _ _ _ _ _ _ _ _ _ _ _ _ _ _ _ _ _ _ _ _ _ _ _ _ _ _ _ _ _ _ _ _ _ _ _ _ _ _ _ _ _ _ _ _ _ _ _ _ _ _ _ _ _ _ _ _ _ _ _ _ _ _ _ _ _ _ _ _ _ _ _ _ _ _ _ _ _ _ _ _ _ _ _ _ ?_
      intro y19 y207 y208 y209 y210 y211 y212 y213 y214 y215 y216 y217 y218 X6 f3 fo
      have fkeep := ekeep.only fo (by omega)
      have g3 : X6.heap[p3]? = some (.cells (wa (stAt P (k + 1))) 35 (0, 0)) := by rw [HBS.out]; exact f3
      clear e13 e3 ekeep fo f3
      go_wp2
      have hn' := HN.out.1
      have hc' := HN.out.2.1
      have ho' := HN.out.2.2
      refine ⟨⟨k + 1, by omega, ⟨if c' = 128 then some ⟨q, o', none⟩ else some ⟨q, o' + 128, none⟩, ?_, ?_⟩, g3, fkeep⟩, ?_⟩
      · rw [show 128 * (K - (k + 1)) = n' - 128 by omega, show c - 128 * (k + 1) = c' - 128 by omega]
      · intro hk1
        rw [if_neg (by omega), ho', Nat.mul_add]
      · simp only [slen]; omega
    · have hj8 : k = K := by omega
      rw [hj8] at q3
      have h0 : 128 * (K - k) = 0 := by omega
      rw [h0]
      go_wp2
      exact hexit _ _ _ _ _ _ _ _ _ _ _ _ _ _ _ _ _ _ _ _ _ _ _ _ _ _ _ _ _ _ _ _ _ _ _ _ _ _ _ _ _ _ _ _ _ _ _ _ _ _ _ _ _ _ _ _ _ _ _ _ _ _ _ _ _ _ _ _ _ _ _ _ _ _ _ _ _ _ _ _ _ _ _ _ _ _ _ _ _ _ _ _ _ _ _ _ _ _ _ _ _ _ _ _ _ _ _ _ _ _ _ _ _ _ _ _ _ _ _ _ _ _ _ _ _ _ _ _ _ _ _ _ _ _ _ _ _ _ _ _ _ _ _ _ _ _ _ _ _ _ _ _ _ _ _ _ _ _ _ _ _ _ _ _ _ _ _ _ _ _ _ _ _ _ _ _ _ _ _ q3 hkeep
end Go.Proofs.YtjkcjlhcfkapkaaDoor
