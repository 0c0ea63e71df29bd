/- SHA-512 as the page has it: what its call answers. -/
import Derived.Test.YtobgimpkkjaolaaGreatDoorMh
import Derived.Test.YtobgimpkkjaolaaGreatDoorMb
import Derived.OpenShut
import Derived.Deep.Matrix
import Derived.SizedLaws
import Derived.Great.BuildSlice
import Derived.Lib.AppendStr
import Derived.Deep.CutBlock
/- Bytes that came in, and how a hash and bytes stay while other memory is written. -/
namespace Go.Proofs.YtobgimpkkjaolaaGreatDoor.Sh
open Go.RowKit
def BsOld (w : World) (v : Value) (bs : List UInt8) : Prop :=
  ∃ ao c, v = .slice ao bs.length c ∧ bs.length ≤ c ∧ c ≤ maxLen ∧ (ao = none → c = 0) ∧ (bs ≠ [] → ∃ b o, ao = some ⟨b, o, none⟩ ∧ b < w.heap.size ∧ w.rangeAt b o (bs.map bc))
theorem BsOld.ext {W w : World} {v : Value} {bs : List UInt8} (h : BsOld W v bs) (he : Ext W w) : BsOld w v bs := by
  obtain ⟨ao, c, e, hc, hm, hn, hh⟩ := h
  refine ⟨ao, c, e, hc, hm, hn, fun hne => ?_⟩
  obtain ⟨b, o, e1, hb, hr⟩ := hh hne
  exact ⟨b, o, e1, Nat.lt_of_lt_of_le hb he.size, fun j u hu => (Below.cell he hb).trans (hr j u hu)⟩
set_option maxRecDepth 100000 in
theorem wp_append_bytes {o : Oper} {a : Act} {w : World} {K : Act → World → Prop} {Q : Exit → Act → World → Prop} (s x : Operand) (ho : o.op = .call { callee := .builtin .append, args := #[s, x], argTypes := #[22, 22] })
    (base : Nat) (v : Value) (bs1 : List UInt8) (hs : a.eval s = v) (hown : w.ownsRow base 5 1 v bs1.length (bs1.map bc)) (sv : Value) (bs2 : List UInt8) (hx : a.eval x = sv) (hsv : BsOld w sv bs2)
    (hn : bs1.length + bs2.length ≤ 1000000000000) (hbase : base ≤ w.heap.size)
    (h : ∀ v' w', w'.ownsRow base 5 1 v' (bs1 ++ bs2).length ((bs1 ++ bs2).map bc) → w.grownBy w' v.ownBlock → K (a.put o.dst v') w') : o.wp Tryz.prog a w K Q := by
  obtain ⟨i0, hi, hz0, hz1, hz2⟩ := info_parts info5
  obtain ⟨ao, c, rfl, hc, hm, hnil, hh⟩ := hsv
  cases ao with
  | none =>
    obtain rfl := hnil rfl
    have h0 : bs2 = [] := List.eq_nil_of_length_eq_zero (by omega)
    subst h0
    have hrun := run_append_owned_none (P := Tryz.prog) (w := w) base 22 o.type 5 i0 1 und22 hi v bs1.length (bs1.map bc) hown
    have hfin := h v w (by simpa using hown) (grown_refl w _)
    unfold Oper.wp
    simp [execOp, ho, resolve, invoke, builtin, hs, hx, hrun, Result.andThen]
    exact hfin
  | some ad =>
    refine wp_append_own w s x 22 ho base 5 i0 (.int .u8 0) 1 1 und22 hi hz0 hz1 hz2 rfl (by decide) v bs1.length (bs1.map bc) hs hown ad bs2.length c (bs2.map bc) hx (by simp) ?_ ?_ ?_ ?_ hbase ?_
    · intro j u hu
      have hne : bs2 ≠ [] := fun e => by subst e; simp at hu
      obtain ⟨b, o', e1, _, hr⟩ := hh hne
      injection e1 with e1
      subst e1
      rw [Addr.add_mid]; exact hr j u hu
    · intro u hu; rw [List.mem_map] at hu; obtain ⟨x, _, rfl⟩ := hu; rfl
    · unfold maxLen; omega
    · omega
    · intro v' w' h1 h2 _
      refine h v' w' ?_ h2
      rw [List.length_append, List.map_append]; exact h1
theorem wpList_append_bytes {ops : Array Oper} {rest : List Oper} {o : Oper} {a : Act} {w : World} {Q : Exit → Act → World → Prop} (hgd : o.guard = none) (s x : Operand) (ho : o.op = .call { callee := .builtin .append, args := #[s, x], argTypes := #[22, 22] })
    (base : Nat) (v : Value) (bs1 : List UInt8) (hs : a.eval s = v) (hown : w.ownsRow base 5 1 v bs1.length (bs1.map bc)) (sv : Value) (bs2 : List UInt8) (hx : a.eval x = sv) (hsv : BsOld w sv bs2)
    (hn : bs1.length + bs2.length ≤ 1000000000000) (hbase : base ≤ w.heap.size)
    (h : ∀ v' w', w'.ownsRow base 5 1 v' (bs1 ++ bs2).length ((bs1 ++ bs2).map bc) → w.grownBy w' v.ownBlock → wpList Tryz.prog ops Q rest (a.put o.dst v') w') : wpList Tryz.prog ops Q (o :: rest) a w :=
  wpList_plain hgd fun _ hK => wp_append_bytes s x ho base v bs1 hs hown sv bs2 hx hsv hn hbase fun v' w' h1 h2 => hK _ _ (h v' w' h1 h2)
end Go.Proofs.YtobgimpkkjaolaaGreatDoor.Sh
/- The page's own SHA-512, what its loops share: the way to a loop in the text; worlds that part in one row only; the table of constants. -/
namespace Go.Proofs.YtobgimpkkjaolaaGreatDoor.Sh
open Go.RowKit
def nav : List Nat → Code → Code
  | [], c => c
  | 0 :: p, .seq a _ => nav p a
  | _ :: p, .seq _ b => nav p b
  | 0 :: p, .cond _ a _ => nav p a
  | _ :: p, .cond _ _ b => nav p b
  | _ :: p, .block _ c => nav p c
  | _ :: p, .loop c => nav p c
  | _ :: p, .scope c => nav p c
  | _ :: _, c => c
structure Only (p : Nat) (w w' : World) : Prop where
  below : ∀ B, B ≤ p → Below B w w'
  size : w'.heap.size = w.heap.size
  other : ∀ i, i ≠ p → w'.heap[i]? = w.heap[i]?
theorem Only.refl (p : Nat) (w : World) : Only p w w := ⟨fun _ _ => Below.refl _ _, rfl, fun _ _ => rfl⟩
theorem Only.trans {p : Nat} {a b c : World} (h : Only p a b) (k : Only p b c) : Only p a c :=
  ⟨fun B hB => (h.below B hB).trans (k.below B hB), k.size.trans h.size, fun i hi => (k.other i hi).trans (h.other i hi)⟩
theorem Only.setCell {p : Nat} {a w : World} (h : Only p a w) (i : Nat) (v : Value) : Only p a (w.setCell ⟨p, i, none⟩ v) :=
  ⟨fun B hB => (h.below B hB).setCell hB _, by rw [← h.size]; simp [World.setCell], fun k hk => (heap_setCell_other _ _ _ _ hk).trans (h.other k hk)⟩
theorem Only.setRow {p : Nat} {a w : World} (h : Only p a w) (cs : Array Value) : Only p a (w.setRow p cs) :=
  ⟨fun B hB => Below.setRow (h.below B hB) _ _ hB, by rw [← h.size]; simp, fun k hk => (setRow_other w p k cs (by omega)).trans (h.other k hk)⟩
theorem Only.drew {p : Nat} {a w : World} (h : Only p a w) : Only p a w.drew := ⟨fun B hB => (h.below B hB).drew, h.size, h.other⟩
theorem Only.drewN {p : Nat} {a w : World} (h : Only p a w) (n : Nat) : Only p a (w.drewN n) := ⟨fun B hB => below_drewN (h.below B hB) n, h.size, h.other⟩
theorem Only.row {p i : Nat} {a w : World} {o : Option Obj} (h : Only p a w) (hi : i ≠ p) (hr : a.heap[i]? = o) : w.heap[i]? = o := (h.other i hi).trans hr
theorem Only.range {p i o : Nat} {a w : World} {l : List Value} (h : Only p a w) (hi : i ≠ p) (hr : a.rangeAt i o l) : w.rangeAt i o l := fun j v hv => by
  rw [← hr j v hv]; simp only [World.cell?]; rw [h.other i hi]
theorem row_cell {w : World} {g j t : Nat} {l : List (BitVec 64)} (h : w.heap[g]? = some (.cells (wa l) t (0, 0))) (hj : j < l.length) : w.cell? ⟨g, j, none⟩ = some (.int .u64 (wn (l.getD j 0))) := by
  rw [cell_of_row _ _ _ _ _ _ h, wa_get _ _ hj]
theorem rotr_int (x : BitVec 64) (m : Int) (h1 : 1 ≤ m) (h2 : m ≤ 63) (w : World) :
    Calls Tryz.prog 47 #[.int .u64 (wn x), .int .u64 m] w fun e w' => e = .returned (.int .u64 (wn (rotr x m.toNat))) ∧ w' = w := by
  obtain ⟨n, rfl⟩ := Int.eq_ofNat_of_zero_le (show 0 ≤ m by omega)
  exact ref_rotr x n (by omega) (by omega) w
theorem below1 (w : World) (a : Obj) : Below w.heap.size w (w.alloc a) := (Below.refl _ _).alloc (Nat.le_refl _) _
theorem kw80 : (wa kw).size = 80 := by rw [wa_size]; rfl
set_option maxRecDepth 100000 in
set_option maxHeartbeats 400000 in
theorem consts_any (w : World) : Calls Tryz.prog 46 #[] w fun e w' => e = .returned (.agg (wa kw)) ∧ Below w.heap.size w w' := by
  have hz := zero36
  go_enter Tryz.func46, Tryz.ntmps46
  go_wp2_with (first | (refine wpList_buildTo rfl 67 _ rfl (some 1) rfl (wa kw) (by kernel_rfl) ?_) | (refine wpList_store_row rfl 67 (.tmp 0) (.tmp 1) rfl w.heap.size (wa kw) rfl rfl 67 (wa z80) (heap_alloc_last _ _) (by rw [kw80]; exact size36) (by rw [kw80]; rfl) (wa_one _) ?_))
  refine bodyPost_ret_by (results_cell_row rfl _ _ w.heap.size 67 (wa kw) (0, 0) (.array 80 27) rfl (setRow_heap _ _ _ _ _ _ (heap_alloc_last _ _)) und36 rfl (by rw [kw80]; exact size36)) rfl ⟨rfl, ?_⟩
  exact Below.setRow (below1 _ _) _ _ (by omega)
end Go.Proofs.YtobgimpkkjaolaaGreatDoor.Sh
/- The page's own SHA-512: the zeros behind a message. -/
namespace Go.Proofs.YtobgimpkkjaolaaGreatDoor.Sh
open Go.RowKit
def slen : Value → Nat
  | .slice _ n _ => n
  | _ => 0
theorem own_slen {w : World} {base e sz n : Nat} {v : Value} {xs : List Value} (h : w.ownsRow base e sz v n xs) : slen v = n := by
  obtain ⟨_, ⟨rfl, rfl⟩ | ⟨g, c, cur, rfl, _⟩⟩ := h <;> rfl
set_option maxRecDepth 100000 in
set_option maxHeartbeats 1000000 in
theorem ref_zeros (Q : Exit → Act → World → Prop) (base n Z : Nat) (os : List UInt8) (sv : Value) (w : World) (h1 : 1 ≤ n) (hn : n ≤ 1000000000000) (hZ : Z < 128) (hZ2 : (n + Z) % 128 = 112) (hbase : base ≤ w.heap.size) (hown : w.ownsRow base 5 1 sv n (os.map bc)) (v0 v1 v2 v3 v4 v6 v7 v8 v9 v10 v11 v12 v13 v14 v15 v16 v17 v18 v19 v20 v21 v22 v23 v24 v25 v26 v27 v28 v29 v30 v31 v32 v33 v34 v35 v36 v37 v38 v39 v40 v41 v42 v43 v44 v45 v46 v47 v48 v49 v50 v51 v52 v53 v54 v55 v56 v57 v58 v59 v60 v61 v62 v63 v64 v65 v66 v67 v68 v69 v70 v71 v72 v73 v74 v75 v76 v77 v78 v79 v80 v81 v82 v83 v84 v85 v86 v87 v88 v89 v90 v91 v92 v93 v94 v95 v96 v97 v98 v99 v100 v101 v102 v103 v104 v105 v106 v107 v108 v109 v110 v111 v112 v113 v114 v115 v116 v117 v118 v119 v120 v121 v122 v123 v124 v125 v126 v127 v128 v129 v130 v131 v132 v133 v134 v135 v136 v137 v138 v139 v140 v141 v142 v143 v144 v145 v146 v147 v148 v149 v150 v151 v152 v153 v154 v155 v156 v157 v158 v159 v160 v161 v162 v163 v164 v165 v166 v167 v168 v169 v170 v171 v172 v173 v174 v175 v176 v177 v178 v179 v180 v181 v182 v183 v184 v185 v186 v187 v188 v189 v190 v191 v192 v193 v194 v195 v196 v197 v198 v199 v200 v201 v202 v203 v204 v205 v206 v207 v208 v209 v210 v211 v212 v213 v214 v215 v216 v217 v218 v219 v220 v221 v222 v223 v224 v225 v226 v227 v228 v229 v230 v231 v232 v233 v234 v235 v236 v237 : Value)
    (hexit : ∀ (u30 u31 u32 u33 u34 u35 u36 : Value) (sv' : Value) (w' : World), w'.ownsRow base 5 1 sv' (n + Z) ((os ++ List.replicate Z 0).map bc) → base ≤ w'.heap.size → Below base w w' → Q (.exit 0) ⟨List.toArray (v0 :: v1 :: v2 :: v3 :: v4 :: sv' :: v6 :: v7 :: v8 :: v9 :: v10 :: v11 :: v12 :: v13 :: v14 :: v15 :: v16 :: v17 :: v18 :: v19 :: v20 :: v21 :: v22 :: v23 :: v24 :: v25 :: v26 :: v27 :: v28 :: v29 :: u30 :: u31 :: u32 :: u33 :: u34 :: u35 :: u36 :: v37 :: v38 :: v39 :: v40 :: v41 :: v42 :: v43 :: v44 :: v45 :: v46 :: v47 :: v48 :: v49 :: v50 :: v51 :: v52 :: v53 :: v54 :: v55 :: v56 :: v57 :: v58 :: v59 :: v60 :: v61 :: v62 :: v63 :: v64 :: v65 :: v66 :: v67 :: v68 :: v69 :: v70 :: v71 :: v72 :: v73 :: v74 :: v75 :: v76 :: v77 :: v78 :: v79 :: v80 :: v81 :: v82 :: v83 :: v84 :: v85 :: v86 :: v87 :: v88 :: v89 :: v90 :: v91 :: v92 :: v93 :: v94 :: v95 :: v96 :: v97 :: v98 :: v99 :: v100 :: v101 :: v102 :: v103 :: v104 :: v105 :: v106 :: v107 :: v108 :: v109 :: v110 :: v111 :: v112 :: v113 :: v114 :: v115 :: v116 :: v117 :: v118 :: v119 :: v120 :: v121 :: v122 :: v123 :: v124 :: v125 :: v126 :: v127 :: v128 :: v129 :: v130 :: v131 :: v132 :: v133 :: v134 :: v135 :: v136 :: v137 :: v138 :: v139 :: v140 :: v141 :: v142 :: v143 :: v144 :: v145 :: v146 :: v147 :: v148 :: v149 :: v150 :: v151 :: v152 :: v153 :: v154 :: v155 :: v156 :: v157 :: v158 :: v159 :: v160 :: v161 :: v162 :: v163 :: v164 :: v165 :: v166 :: v167 :: v168 :: v169 :: v170 :: v171 :: v172 :: v173 :: v174 :: v175 :: v176 :: v177 :: v178 :: v179 :: v180 :: v181 :: v182 :: v183 :: v184 :: v185 :: v186 :: v187 :: v188 :: v189 :: v190 :: v191 :: v192 :: v193 :: v194 :: v195 :: v196 :: v197 :: v198 :: v199 :: v200 :: v201 :: v202 :: v203 :: v204 :: v205 :: v206 :: v207 :: v208 :: v209 :: v210 :: v211 :: v212 :: v213 :: v214 :: v215 :: v216 :: v217 :: v218 :: v219 :: v220 :: v221 :: v222 :: v223 :: v224 :: v225 :: v226 :: v227 :: v228 :: v229 :: v230 :: v231 :: v232 :: v233 :: v234 :: v235 :: v236 :: v237 :: []), []⟩ w') :
    Code.wp Tryz.prog (nav [1, 1, 1, 1, 0, 0] (Tryz.f20.body.getD .skip)) Q ⟨List.toArray (v0 :: v1 :: v2 :: v3 :: v4 :: sv :: v6 :: v7 :: v8 :: v9 :: v10 :: v11 :: v12 :: v13 :: v14 :: v15 :: v16 :: v17 :: v18 :: v19 :: v20 :: v21 :: v22 :: v23 :: v24 :: v25 :: v26 :: v27 :: v28 :: v29 :: v30 :: v31 :: v32 :: v33 :: v34 :: v35 :: v36 :: v37 :: v38 :: v39 :: v40 :: v41 :: v42 :: v43 :: v44 :: v45 :: v46 :: v47 :: v48 :: v49 :: v50 :: v51 :: v52 :: v53 :: v54 :: v55 :: v56 :: v57 :: v58 :: v59 :: v60 :: v61 :: v62 :: v63 :: v64 :: v65 :: v66 :: v67 :: v68 :: v69 :: v70 :: v71 :: v72 :: v73 :: v74 :: v75 :: v76 :: v77 :: v78 :: v79 :: v80 :: v81 :: v82 :: v83 :: v84 :: v85 :: v86 :: v87 :: v88 :: v89 :: v90 :: v91 :: v92 :: v93 :: v94 :: v95 :: v96 :: v97 :: v98 :: v99 :: v100 :: v101 :: v102 :: v103 :: v104 :: v105 :: v106 :: v107 :: v108 :: v109 :: v110 :: v111 :: v112 :: v113 :: v114 :: v115 :: v116 :: v117 :: v118 :: v119 :: v120 :: v121 :: v122 :: v123 :: v124 :: v125 :: v126 :: v127 :: v128 :: v129 :: v130 :: v131 :: v132 :: v133 :: v134 :: v135 :: v136 :: v137 :: v138 :: v139 :: v140 :: v141 :: v142 :: v143 :: v144 :: v145 :: v146 :: v147 :: v148 :: v149 :: v150 :: v151 :: v152 :: v153 :: v154 :: v155 :: v156 :: v157 :: v158 :: v159 :: v160 :: v161 :: v162 :: v163 :: v164 :: v165 :: v166 :: v167 :: v168 :: v169 :: v170 :: v171 :: v172 :: v173 :: v174 :: v175 :: v176 :: v177 :: v178 :: v179 :: v180 :: v181 :: v182 :: v183 :: v184 :: v185 :: v186 :: v187 :: v188 :: v189 :: v190 :: v191 :: v192 :: v193 :: v194 :: v195 :: v196 :: v197 :: v198 :: v199 :: v200 :: v201 :: v202 :: v203 :: v204 :: v205 :: v206 :: v207 :: v208 :: v209 :: v210 :: v211 :: v212 :: v213 :: v214 :: v215 :: v216 :: v217 :: v218 :: v219 :: v220 :: v221 :: v222 :: v223 :: v224 :: v225 :: v226 :: v227 :: v228 :: v229 :: v230 :: v231 :: v232 :: v233 :: v234 :: v235 :: v236 :: v237 :: []), []⟩ w := by
  conv => arg 2; whnf
  obtain ⟨i0, hi, hz0, hz1, hz2⟩ := info_parts info5
  go_loopw [5] (fun sv wr => ∃ z : Nat, z ≤ Z ∧ wr.ownsRow base 5 1 sv (n + z) ((os ++ List.replicate z 0).map bc) ∧ base ≤ wr.heap.size ∧ Below base w wr) (fun sv _ => n + Z - slen sv)
  case atStart => exact ⟨0, by omega, by simpa using hown, hbase, Below.refl _ _⟩
  case round =>
    clear hown
    obtain ⟨z, hk, hown, hbs, hb⟩ := hrel
    obtain ⟨g, cap, hv, hc1, hc2, hg1, hg2, hr⟩ := owns_shape hown (by omega)
    have hlen := own_slen hown
    obtain ⟨N, hN⟩ : ∃ N : Nat, N = n + z := ⟨_, rfl⟩
    rw [← hN] at hv
    obtain ⟨r, hr1, hr2⟩ : ∃ r : Nat, (N : Int) % 128 = (r : Int) ∧ r = N % 128 := ⟨N % 128, by omega, rfl⟩
    have HN := hide (And.intro hN hr2)
    clear hr hc1 hc2 hg1 hg2 hN hr2
    subst hv
    by_cases hlt : r = 112
    · have hzZ : z = Z := by have := HN.out.1; have := HN.out.2; omega
      rw [hzZ] at hown
      clear hlen
      subst hlt
      go_wp2
      exact hexit _ _ _ _ _ _ _ _ _ hown hbs hb
    · have hzZ : z < Z := by
        rcases Nat.lt_or_ge z Z with h | h
        · exact h
        · exfalso; have := HN.out.1; have := HN.out.2; omega
      have hrb : ((r : Int) == 112) = false := by simp; omega
      have HLEN := hide hlen
      clear hexit hlen
      go_wp2_with (at_builtin; go_must (refine wpList_append_own _ rfl (.tmp 34) (.tmp 35) 22 rfl base 5 i0 (.int .u8 0) 1 1 und22 hi hz0 hz1 hz2 rfl (by decide) _ (n + z) ((os ++ List.replicate z 0).map bc) rfl (hown.alloc _) ⟨wr.heap.size, 0, none⟩ 1 1 [.int .u8 0] rfl rfl (cell_one_new _ _ _) ?_ ?_ ?_ ?_ ?_))
      · intro u hu; simp at hu; subst hu; rfl
      · unfold maxLen; omega
      · omega
      · simp; omega
      intro v' w1 hown' hgrow _
      have R1 : w1.ownsRow base 5 1 v' (n + (z + 1)) ((os ++ List.replicate (z + 1) 0).map bc) := by
        have e : (os ++ List.replicate (z + 1) 0).map bc = (os ++ List.replicate z 0).map bc ++ [.int .u8 0] := by rw [List.replicate_succ']; simp [bc]; rfl
        rw [e]; simpa [Nat.add_assoc] using hown'
      have hb1 : Below base w w1 := (hb.alloc hbs _).grown hgrow (by simp; omega) (fun q hq => (hown.lt q hq).1)
      have hs1 : base ≤ w1.heap.size := by have := hgrow.size; simp at this; omega
      have hl1 := own_slen R1
      clear hown' hgrow hown
      go_wp2
      go_roundw
      case rel => exact ⟨z + 1, by omega, R1, hs1, hb1⟩
      case measure => have := HLEN.out; simp [hl1]; omega
end Go.Proofs.YtobgimpkkjaolaaGreatDoor.Sh
/- The page's own SHA-512: the length behind the zeros. -/
namespace Go.Proofs.YtobgimpkkjaolaaGreatDoor.Sh
open Go.RowKit
attribute [local go_sem] lb_wrap lb_mod
set_option maxRecDepth 100000 in
set_option maxHeartbeats 1000000 in
theorem ref_len (Q : Exit → Act → World → Prop) (base n L cap : Nat) (pt : Option Addr) (os : List UInt8) (x : BitVec 64) (sv : Value) (w : World) (hL : L ≤ 140737488355328) (hx8 : IntKind.u64.wrap ((L : Int) * 8) = wn x) (hn : n ≤ 1000000000000) (hbase : base ≤ w.heap.size) (hown : w.ownsRow base 5 1 sv n (os.map bc)) (v1 v2 v3 v4 v7 v8 v9 v10 v11 v12 v13 v14 v15 v16 v17 v18 v19 v20 v21 v22 v23 v24 v25 v26 v27 v28 v29 v30 v31 v32 v33 v34 v35 v36 v37 v38 v39 v40 v41 v42 v43 v44 v45 v46 v47 v48 v49 v50 v51 v52 v53 v54 v55 v56 v57 v58 v59 v60 v61 v62 v63 v64 v65 v66 v67 v68 v69 v70 v71 v72 v73 v74 v75 v76 v77 v78 v79 v80 v81 v82 v83 v84 v85 v86 v87 v88 v89 v90 v91 v92 v93 v94 v95 v96 v97 v98 v99 v100 v101 v102 v103 v104 v105 v106 v107 v108 v109 v110 v111 v112 v113 v114 v115 v116 v117 v118 v119 v120 v121 v122 v123 v124 v125 v126 v127 v128 v129 v130 v131 v132 v133 v134 v135 v136 v137 v138 v139 v140 v141 v142 v143 v144 v145 v146 v147 v148 v149 v150 v151 v152 v153 v154 v155 v156 v157 v158 v159 v160 v161 v162 v163 v164 v165 v166 v167 v168 v169 v170 v171 v172 v173 v174 v175 v176 v177 v178 v179 v180 v181 v182 v183 v184 v185 v186 v187 v188 v189 v190 v191 v192 v193 v194 v195 v196 v197 v198 v199 v200 v201 v202 v203 v204 v205 v206 v207 v208 v209 v210 v211 v212 v213 v214 v215 v216 v217 v218 v219 v220 v221 v222 v223 v224 v225 v226 v227 v228 v229 v230 v231 v232 v233 v234 v235 v236 v237 : Value)
    (hexit : ∀ (u6 u39 u40 u41 u42 u43 u44 u45 u46 u47 u48 u49 u50 u51 u52 u53 u54 : Value) (sv' : Value) (w' : World), w'.ownsRow base 5 1 sv' (n + 8) ((os ++ be8 x 8).map bc) → base ≤ w'.heap.size → Below base w w' → Q (.exit 2) ⟨List.toArray (.slice pt L cap :: v1 :: v2 :: v3 :: v4 :: sv' :: u6 :: v7 :: v8 :: v9 :: v10 :: v11 :: v12 :: v13 :: v14 :: v15 :: v16 :: v17 :: v18 :: v19 :: v20 :: v21 :: v22 :: v23 :: v24 :: v25 :: v26 :: v27 :: v28 :: v29 :: v30 :: v31 :: v32 :: v33 :: v34 :: v35 :: v36 :: v37 :: v38 :: u39 :: u40 :: u41 :: u42 :: u43 :: u44 :: u45 :: u46 :: u47 :: u48 :: u49 :: u50 :: u51 :: u52 :: u53 :: u54 :: v55 :: v56 :: v57 :: v58 :: v59 :: v60 :: v61 :: v62 :: v63 :: v64 :: v65 :: v66 :: v67 :: v68 :: v69 :: v70 :: v71 :: v72 :: v73 :: v74 :: v75 :: v76 :: v77 :: v78 :: v79 :: v80 :: v81 :: v82 :: v83 :: v84 :: v85 :: v86 :: v87 :: v88 :: v89 :: v90 :: v91 :: v92 :: v93 :: v94 :: v95 :: v96 :: v97 :: v98 :: v99 :: v100 :: v101 :: v102 :: v103 :: v104 :: v105 :: v106 :: v107 :: v108 :: v109 :: v110 :: v111 :: v112 :: v113 :: v114 :: v115 :: v116 :: v117 :: v118 :: v119 :: v120 :: v121 :: v122 :: v123 :: v124 :: v125 :: v126 :: v127 :: v128 :: v129 :: v130 :: v131 :: v132 :: v133 :: v134 :: v135 :: v136 :: v137 :: v138 :: v139 :: v140 :: v141 :: v142 :: v143 :: v144 :: v145 :: v146 :: v147 :: v148 :: v149 :: v150 :: v151 :: v152 :: v153 :: v154 :: v155 :: v156 :: v157 :: v158 :: v159 :: v160 :: v161 :: v162 :: v163 :: v164 :: v165 :: v166 :: v167 :: v168 :: v169 :: v170 :: v171 :: v172 :: v173 :: v174 :: v175 :: v176 :: v177 :: v178 :: v179 :: v180 :: v181 :: v182 :: v183 :: v184 :: v185 :: v186 :: v187 :: v188 :: v189 :: v190 :: v191 :: v192 :: v193 :: v194 :: v195 :: v196 :: v197 :: v198 :: v199 :: v200 :: v201 :: v202 :: v203 :: v204 :: v205 :: v206 :: v207 :: v208 :: v209 :: v210 :: v211 :: v212 :: v213 :: v214 :: v215 :: v216 :: v217 :: v218 :: v219 :: v220 :: v221 :: v222 :: v223 :: v224 :: v225 :: v226 :: v227 :: v228 :: v229 :: v230 :: v231 :: v232 :: v233 :: v234 :: v235 :: v236 :: v237 :: []), []⟩ w') :
    Code.wp Tryz.prog (nav [1, 1, 1, 1, 1, 1, 0, 1, 0] (Tryz.f20.body.getD .skip)) Q ⟨List.toArray (.slice pt L cap :: v1 :: v2 :: v3 :: v4 :: sv :: .int .i64 7 :: v7 :: v8 :: v9 :: v10 :: v11 :: v12 :: v13 :: v14 :: v15 :: v16 :: v17 :: v18 :: v19 :: v20 :: v21 :: v22 :: v23 :: v24 :: v25 :: v26 :: v27 :: v28 :: v29 :: v30 :: v31 :: v32 :: v33 :: v34 :: v35 :: v36 :: v37 :: v38 :: v39 :: v40 :: v41 :: v42 :: v43 :: v44 :: v45 :: v46 :: v47 :: v48 :: v49 :: v50 :: v51 :: v52 :: v53 :: v54 :: v55 :: v56 :: v57 :: v58 :: v59 :: v60 :: v61 :: v62 :: v63 :: v64 :: v65 :: v66 :: v67 :: v68 :: v69 :: v70 :: v71 :: v72 :: v73 :: v74 :: v75 :: v76 :: v77 :: v78 :: v79 :: v80 :: v81 :: v82 :: v83 :: v84 :: v85 :: v86 :: v87 :: v88 :: v89 :: v90 :: v91 :: v92 :: v93 :: v94 :: v95 :: v96 :: v97 :: v98 :: v99 :: v100 :: v101 :: v102 :: v103 :: v104 :: v105 :: v106 :: v107 :: v108 :: v109 :: v110 :: v111 :: v112 :: v113 :: v114 :: v115 :: v116 :: v117 :: v118 :: v119 :: v120 :: v121 :: v122 :: v123 :: v124 :: v125 :: v126 :: v127 :: v128 :: v129 :: v130 :: v131 :: v132 :: v133 :: v134 :: v135 :: v136 :: v137 :: v138 :: v139 :: v140 :: v141 :: v142 :: v143 :: v144 :: v145 :: v146 :: v147 :: v148 :: v149 :: v150 :: v151 :: v152 :: v153 :: v154 :: v155 :: v156 :: v157 :: v158 :: v159 :: v160 :: v161 :: v162 :: v163 :: v164 :: v165 :: v166 :: v167 :: v168 :: v169 :: v170 :: v171 :: v172 :: v173 :: v174 :: v175 :: v176 :: v177 :: v178 :: v179 :: v180 :: v181 :: v182 :: v183 :: v184 :: v185 :: v186 :: v187 :: v188 :: v189 :: v190 :: v191 :: v192 :: v193 :: v194 :: v195 :: v196 :: v197 :: v198 :: v199 :: v200 :: v201 :: v202 :: v203 :: v204 :: v205 :: v206 :: v207 :: v208 :: v209 :: v210 :: v211 :: v212 :: v213 :: v214 :: v215 :: v216 :: v217 :: v218 :: v219 :: v220 :: v221 :: v222 :: v223 :: v224 :: v225 :: v226 :: v227 :: v228 :: v229 :: v230 :: v231 :: v232 :: v233 :: v234 :: v235 :: v236 :: v237 :: []), []⟩ w := by
  conv => arg 2; whnf
  obtain ⟨i0, hi, hz0, hz1, hz2⟩ := info_parts info5
  go_loopw [5, 6] (fun sv iv wr => ∃ k : Nat, k ≤ 8 ∧ iv = .int .i64 (7 - (k : Int)) ∧ wr.ownsRow base 5 1 sv (n + k) ((os ++ be8 x k).map bc) ∧ base ≤ wr.heap.size ∧ Below base w wr) (fun _ i _ => (intOf i + 1).toNat)
  case atStart => exact ⟨0, by omega, rfl, by simpa [be8] using hown, hbase, Below.refl _ _⟩
  case round =>
    clear hown
    obtain ⟨k, hk, rfl, hown, hbs, hb⟩ := hrel
    by_cases hlt : k < 8
    · obtain ⟨m, hm⟩ : ∃ m : Nat, (7 : Int) - (k : Int) = (m : Int) := ⟨7 - k, by omega⟩
      rw [hm]
      obtain ⟨d, hd⟩ : ∃ d : Nat, d = 8 * m := ⟨_, rfl⟩
      have e8 : IntKind.i64.wrap (8 * (m : Int)) = (d : Int) := by rw [i64_wrap _ (by omega)]; omega
      have e1 : IntKind.i64.wrap ((m : Int) - 1) = 6 - (k : Int) := by rw [i64_wrap _ (by omega)]; omega
      have hx : wn x / 2 ^ d = wn (x >>> (56 - 8 * k)) := by rw [show d = 56 - 8 * k by omega, w_shr]
      have hm56 : d ≤ 56 := by omega
      have eL : IntKind.u64.wrap (L : Int) = (L : Int) := by rw [IntKind.wrap_u64]; omega
      have HM := hide hm
      clear hm hd hexit
      go_wp2_with (at_builtin; go_must (refine wpList_append_own _ rfl (.tmp 43) (.tmp 53) 22 rfl base 5 i0 (.int .u8 0) 1 1 und22 hi hz0 hz1 hz2 rfl (by decide) u5 (n + k) ((os ++ be8 x k).map bc) rfl (hown.alloc _) ⟨wr.heap.size, 0, none⟩ 1 1 [.int .u8 (bn (lb (x >>> (56 - 8 * k))))] rfl rfl (cell_one_new _ _ _) ?_ ?_ ?_ ?_ ?_))
      · intro u hu; simp at hu; subst hu; rfl
      · unfold maxLen; omega
      · omega
      · simp; omega
      intro v' w1 hown' hgrow _
      have R1 : w1.ownsRow base 5 1 v' (n + (k + 1)) ((os ++ be8 x (k + 1)).map bc) := by
        have e : (os ++ be8 x (k + 1)).map bc = List.map bc os ++ (List.map bc (be8 x k) ++ [.int .u8 (bn (lb (x >>> (56 - 8 * k))))]) := by simp [be8, bc]
        rw [e]; exact hown'
      have hb1 : Below base w w1 := (hb.alloc hbs _).grown hgrow (by simp; omega) (fun q hq => (hown.lt q hq).1)
      have hs1 : base ≤ w1.heap.size := by have := hgrow.size; simp at this; omega
      clear hown' hgrow hown
      go_wp2
      go_roundw
      case rel => exact ⟨k + 1, by omega, by have := HM.out; go_num, R1, hs1, hb1⟩
      case measure => have := HM.out; simp [intOf]; omega
    · obtain rfl : k = 8 := by omega
      go_wp2
      exact hexit _ _ _ _ _ _ _ _ _ _ _ _ _ _ _ _ _ _ _ hown hbs hb
end Go.Proofs.YtobgimpkkjaolaaGreatDoor.Sh
/- The page's own SHA-512: eight bytes make a word. -/
namespace Go.Proofs.YtobgimpkkjaolaaGreatDoor.Sh
open Go.RowKit
set_option linter.unusedSimpArgs false
attribute [local go_sem] w_or w_shl8 b64_wrap
set_option maxRecDepth 100000 in
set_option maxHeartbeats 1000000 in
theorem ref_bytes (Q : Exit → Act → World → Prop) (p7 q o n c i : Nat) (bs : List UInt8) (hbs : bs.length = 128) (hq : q ≠ p7) (hi : i < 16) (hn : 128 ≤ n) (hnm : n < 4611686018427387904) (w : World)
    (h7 : w.heap[p7]? = some (.cells (wa (w1 bs (8 * i))) 67 (0, 0))) (h5 : w.rangeAt q o (bs.map bc)) (v0 v1 v2 v3 v4 v6 v9 v10 v11 v12 v13 v14 v15 v16 v17 v18 v19 v20 v21 v22 v23 v24 v25 v26 v27 v28 v29 v30 v31 v32 v33 v34 v35 v36 v37 v38 v39 v40 v41 v42 v43 v44 v45 v46 v47 v48 v49 v50 v51 v52 v53 v54 v55 v56 v57 v58 v59 v60 v61 v62 v64 v65 v66 v67 v68 v69 v70 v71 v72 v73 v74 v75 v76 v77 v78 v79 v80 v81 v82 v83 v84 v85 v86 v87 v88 v89 v90 v91 v92 v93 v94 v95 v96 v97 v98 v99 v100 v101 v102 v103 v104 v105 v106 v107 v108 v109 v110 v111 v112 v113 v114 v115 v116 v117 v118 v119 v120 v121 v122 v123 v124 v125 v126 v127 v128 v129 v130 v131 v132 v133 v134 v135 v136 v137 v138 v139 v140 v141 v142 v143 v144 v145 v146 v147 v148 v149 v150 v151 v152 v153 v154 v155 v156 v157 v158 v159 v160 v161 v162 v163 v164 v165 v166 v167 v168 v169 v170 v171 v172 v173 v174 v175 v176 v177 v178 v179 v180 v181 v182 v183 v184 v185 v186 v187 v188 v189 v190 v191 v192 v193 v194 v195 v196 v197 v198 v199 v200 v201 v202 v203 v204 v205 v206 v207 v208 v209 v210 v211 v212 v213 v214 v215 v216 v217 v218 v219 v220 v221 v222 v223 v224 v225 v226 v227 v228 v229 v230 v231 v232 v233 v234 v235 v236 v237 : Value)
    (hexit : ∀ (u9 u63 u64 u65 u66 u67 u68 u69 u70 u71 u72 u73 u74 u75 u76 u77 u78 u79 u80 u81 : Value) (w' : World), w'.heap[p7]? = some (.cells (wa (w1 bs (8 * i + 8))) 67 (0, 0)) → Only p7 w w' → Q (.exit 8) ⟨List.toArray (v0 :: v1 :: v2 :: v3 :: v4 :: .slice (some ⟨q, o, none⟩) n c :: v6 :: .pointer (some ⟨p7, 0, none⟩) :: .int .i64 (i : Int) :: u9 :: v10 :: v11 :: v12 :: v13 :: v14 :: v15 :: v16 :: v17 :: v18 :: v19 :: v20 :: v21 :: v22 :: v23 :: v24 :: v25 :: v26 :: v27 :: v28 :: v29 :: v30 :: v31 :: v32 :: v33 :: v34 :: v35 :: v36 :: v37 :: v38 :: v39 :: v40 :: v41 :: v42 :: v43 :: v44 :: v45 :: v46 :: v47 :: v48 :: v49 :: v50 :: v51 :: v52 :: v53 :: v54 :: v55 :: v56 :: v57 :: v58 :: v59 :: v60 :: v61 :: v62 :: u63 :: u64 :: u65 :: u66 :: u67 :: u68 :: u69 :: u70 :: u71 :: u72 :: u73 :: u74 :: u75 :: u76 :: u77 :: u78 :: u79 :: u80 :: u81 :: v82 :: v83 :: v84 :: v85 :: v86 :: v87 :: v88 :: v89 :: v90 :: v91 :: v92 :: v93 :: v94 :: v95 :: v96 :: v97 :: v98 :: v99 :: v100 :: v101 :: v102 :: v103 :: v104 :: v105 :: v106 :: v107 :: v108 :: v109 :: v110 :: v111 :: v112 :: v113 :: v114 :: v115 :: v116 :: v117 :: v118 :: v119 :: v120 :: v121 :: v122 :: v123 :: v124 :: v125 :: v126 :: v127 :: v128 :: v129 :: v130 :: v131 :: v132 :: v133 :: v134 :: v135 :: v136 :: v137 :: v138 :: v139 :: v140 :: v141 :: v142 :: v143 :: v144 :: v145 :: v146 :: v147 :: v148 :: v149 :: v150 :: v151 :: v152 :: v153 :: v154 :: v155 :: v156 :: v157 :: v158 :: v159 :: v160 :: v161 :: v162 :: v163 :: v164 :: v165 :: v166 :: v167 :: v168 :: v169 :: v170 :: v171 :: v172 :: v173 :: v174 :: v175 :: v176 :: v177 :: v178 :: v179 :: v180 :: v181 :: v182 :: v183 :: v184 :: v185 :: v186 :: v187 :: v188 :: v189 :: v190 :: v191 :: v192 :: v193 :: v194 :: v195 :: v196 :: v197 :: v198 :: v199 :: v200 :: v201 :: v202 :: v203 :: v204 :: v205 :: v206 :: v207 :: v208 :: v209 :: v210 :: v211 :: v212 :: v213 :: v214 :: v215 :: v216 :: v217 :: v218 :: v219 :: v220 :: v221 :: v222 :: v223 :: v224 :: v225 :: v226 :: v227 :: v228 :: v229 :: v230 :: v231 :: v232 :: v233 :: v234 :: v235 :: v236 :: v237 :: []), []⟩ w') :
    Code.wp Tryz.prog (nav [1, 1, 1, 1, 1, 1, 1, 0, 0, 0, 1, 0, 0, 1, 0, 1, 0, 0, 1, 1, 0, 0, 1, 1, 0] (Tryz.f20.body.getD .skip)) Q ⟨List.toArray (v0 :: v1 :: v2 :: v3 :: v4 :: .slice (some ⟨q, o, none⟩) n c :: v6 :: .pointer (some ⟨p7, 0, none⟩) :: .int .i64 (i : Int) :: v9 :: v10 :: v11 :: v12 :: v13 :: v14 :: v15 :: v16 :: v17 :: v18 :: v19 :: v20 :: v21 :: v22 :: v23 :: v24 :: v25 :: v26 :: v27 :: v28 :: v29 :: v30 :: v31 :: v32 :: v33 :: v34 :: v35 :: v36 :: v37 :: v38 :: v39 :: v40 :: v41 :: v42 :: v43 :: v44 :: v45 :: v46 :: v47 :: v48 :: v49 :: v50 :: v51 :: v52 :: v53 :: v54 :: v55 :: v56 :: v57 :: v58 :: v59 :: v60 :: v61 :: v62 :: .int .i64 0 :: v64 :: v65 :: v66 :: v67 :: v68 :: v69 :: v70 :: v71 :: v72 :: v73 :: v74 :: v75 :: v76 :: v77 :: v78 :: v79 :: v80 :: v81 :: v82 :: v83 :: v84 :: v85 :: v86 :: v87 :: v88 :: v89 :: v90 :: v91 :: v92 :: v93 :: v94 :: v95 :: v96 :: v97 :: v98 :: v99 :: v100 :: v101 :: v102 :: v103 :: v104 :: v105 :: v106 :: v107 :: v108 :: v109 :: v110 :: v111 :: v112 :: v113 :: v114 :: v115 :: v116 :: v117 :: v118 :: v119 :: v120 :: v121 :: v122 :: v123 :: v124 :: v125 :: v126 :: v127 :: v128 :: v129 :: v130 :: v131 :: v132 :: v133 :: v134 :: v135 :: v136 :: v137 :: v138 :: v139 :: v140 :: v141 :: v142 :: v143 :: v144 :: v145 :: v146 :: v147 :: v148 :: v149 :: v150 :: v151 :: v152 :: v153 :: v154 :: v155 :: v156 :: v157 :: v158 :: v159 :: v160 :: v161 :: v162 :: v163 :: v164 :: v165 :: v166 :: v167 :: v168 :: v169 :: v170 :: v171 :: v172 :: v173 :: v174 :: v175 :: v176 :: v177 :: v178 :: v179 :: v180 :: v181 :: v182 :: v183 :: v184 :: v185 :: v186 :: v187 :: v188 :: v189 :: v190 :: v191 :: v192 :: v193 :: v194 :: v195 :: v196 :: v197 :: v198 :: v199 :: v200 :: v201 :: v202 :: v203 :: v204 :: v205 :: v206 :: v207 :: v208 :: v209 :: v210 :: v211 :: v212 :: v213 :: v214 :: v215 :: v216 :: v217 :: v218 :: v219 :: v220 :: v221 :: v222 :: v223 :: v224 :: v225 :: v226 :: v227 :: v228 :: v229 :: v230 :: v231 :: v232 :: v233 :: v234 :: v235 :: v236 :: v237 :: []), []⟩ w := by
  conv => arg 2; whnf
  go_loopw [63] (fun iv wr => ∃ j : Nat, j ≤ 8 ∧ iv = .int .i64 j ∧ wr.heap[p7]? = some (.cells (wa (w1 bs (8 * i + j))) 67 (0, 0)) ∧ Only p7 w wr) (fun i _ => 8 - (intOf i).toNat)
  case atStart => exact ⟨0, by omega, rfl, h7, Only.refl _ _⟩
  case round =>
    obtain ⟨j, hj, rfl, q7, ho⟩ := hrel
    have hls : (w1 bs (8 * i + j)).length = 80 := w1_len _ _
    by_cases hlt : j < 8
    · have c7 := row_cell q7 (j := i) (by omega)
      have c5 : wr.cell? ⟨q, o + (8 * i + j), none⟩ = some (.int .u8 (bn (bs.getD (8 * i + j) 0))) := ho.range hq h5 (8 * i + j) _ (by
        rw [List.getElem?_map, List.getD_eq_getElem?_getD, List.getElem?_eq_getElem (show 8 * i + j < bs.length by omega)]; rfl)
      have hfro : wr.frozen? ⟨p7, i, none⟩ = false := frozen_of_row _ _ _ _ _ q7
      have Q7 := hide q7
      clear q7 hls h7 hexit h5
      generalize hy : (w1 bs (8 * i + j)).getD i 0 = y at c7
      generalize hx : bs.getD (8 * i + j) 0 = x at c5
      have HX := hide (And.intro hy hx)
      clear hy hx
      have b0 : (i : Int) < 80 := by omega
      obtain ⟨m, hm⟩ : ∃ m : Nat, m = 8 * i := ⟨_, rfl⟩
      obtain ⟨k, hk⟩ : ∃ k : Nat, k = 8 * i + j := ⟨_, rfl⟩
      have e8 : IntKind.i64.wrap (8 * (i : Int)) = (m : Int) := by rw [i64_wrap _ (by omega)]; omega
      have e9 : IntKind.i64.wrap ((m : Int) + (j : Int)) = (k : Int) := by rw [i64_wrap _ (by omega)]; omega
      have b1 : (k : Int) < (n : Int) := by omega
      rw [← hk] at c5
      have HK := hide (And.intro hm hk)
      clear hm hk
      go_wp2
      refine wp_region_noPanic ?_
      refine wp_region_sink (S := fun w' => w'.cell? ⟨p7, i, none⟩ = some (.int .u64 (wn y)) ∧ w'.cell? ⟨q, o + k, none⟩ = some (.int .u8 (bn x))) 15 (by kernel_rfl) rfl rfl rfl rfl (by kernel_rfl) (by kernel_rfl) (by kernel_rfl) ⟨c7, c5⟩ (fun hS => ?_)
      simp only [List.setIfInBounds_toArray, List.set_cons_zero, List.set_cons_succ, Oper.idle]
      refine wpAnyH_take (i := 0) (v := .int .i64 (i : Int)) rfl (by kernel_rfl) (by kernel_rfl) (by kernel_rfl) (fun _ _ _ h => h) (Or.inl ⟨by rfl, fun w hSw => by obtain ⟨s1, s2⟩ := hSw; go_simp⟩) hS ?_
      simp only [List.getElem_toArray, List.getElem_cons_zero, List.getElem_cons_succ, Act.put, List.setIfInBounds_toArray, List.set_cons_zero, List.set_cons_succ]
      refine wpAnyH_take (i := 1) (v := .int .i64 (i : Int)) rfl (by kernel_rfl) (by kernel_rfl) (by kernel_rfl) (fun _ _ _ h => h) (Or.inl ⟨by rfl, fun w hSw => by obtain ⟨s1, s2⟩ := hSw; go_simp⟩) hS ?_
      simp only [List.getElem_toArray, List.getElem_cons_zero, List.getElem_cons_succ, Act.put, List.setIfInBounds_toArray, List.set_cons_zero, List.set_cons_succ]
      refine wpAnyH_take (i := 2) (v := .pointer (some ⟨p7, i, none⟩)) rfl (by kernel_rfl) (by kernel_rfl) (by kernel_rfl) (fun _ _ _ h => h) (Or.inl ⟨by rfl, fun w hSw => by obtain ⟨s1, s2⟩ := hSw; go_simp⟩) hS ?_
      simp only [List.getElem_toArray, List.getElem_cons_zero, List.getElem_cons_succ, Act.put, List.setIfInBounds_toArray, List.set_cons_zero, List.set_cons_succ]
      refine wpAnyH_take (i := 3) (v := .int .u64 (wn y)) rfl (by kernel_rfl) (by kernel_rfl) (by kernel_rfl) (fun _ _ _ h => h) (Or.inl ⟨by rfl, fun w hSw => by obtain ⟨s1, s2⟩ := hSw; go_simp⟩) hS ?_
      simp only [List.getElem_toArray, List.getElem_cons_zero, List.getElem_cons_succ, Act.put, List.setIfInBounds_toArray, List.set_cons_zero, List.set_cons_succ]
      refine wpAnyH_take (i := 4) (v := .int .u64 (wn (y <<< 8))) rfl (by kernel_rfl) (by kernel_rfl) (by kernel_rfl) (fun _ _ _ h => h) (Or.inl ⟨by rfl, fun w hSw => by obtain ⟨s1, s2⟩ := hSw; go_simp⟩) hS ?_
      simp only [List.getElem_toArray, List.getElem_cons_zero, List.getElem_cons_succ, Act.put, List.setIfInBounds_toArray, List.set_cons_zero, List.set_cons_succ]
      refine wpAnyH_take (i := 5) (v := .slice (some ⟨q, o, none⟩) n c) rfl (by kernel_rfl) (by kernel_rfl) (by kernel_rfl) (fun _ _ _ h => h) (Or.inl ⟨by rfl, fun w hSw => by obtain ⟨s1, s2⟩ := hSw; go_simp⟩) hS ?_
      simp only [List.getElem_toArray, List.getElem_cons_zero, List.getElem_cons_succ, Act.put, List.setIfInBounds_toArray, List.set_cons_zero, List.set_cons_succ]
      refine wpAnyH_take (i := 6) (v := .int .i64 (i : Int)) rfl (by kernel_rfl) (by kernel_rfl) (by kernel_rfl) (fun _ _ _ h => h) (Or.inl ⟨by rfl, fun w hSw => by obtain ⟨s1, s2⟩ := hSw; go_simp⟩) hS ?_
      simp only [List.getElem_toArray, List.getElem_cons_zero, List.getElem_cons_succ, Act.put, List.setIfInBounds_toArray, List.set_cons_zero, List.set_cons_succ]
      refine wpAnyH_take (i := 7) (v := .int .i64 (m : Int)) rfl (by kernel_rfl) (by kernel_rfl) (by kernel_rfl) (fun _ _ _ h => h) (Or.inl ⟨by rfl, fun w hSw => by obtain ⟨s1, s2⟩ := hSw; go_simp⟩) hS ?_
      simp only [List.getElem_toArray, List.getElem_cons_zero, List.getElem_cons_succ, Act.put, List.setIfInBounds_toArray, List.set_cons_zero, List.set_cons_succ]
      refine wpAnyH_take (i := 8) (v := .int .i64 (j : Int)) rfl (by kernel_rfl) (by kernel_rfl) (by kernel_rfl) (fun _ _ _ h => h) (Or.inl ⟨by rfl, fun w hSw => by obtain ⟨s1, s2⟩ := hSw; go_simp⟩) hS ?_
      simp only [List.getElem_toArray, List.getElem_cons_zero, List.getElem_cons_succ, Act.put, List.setIfInBounds_toArray, List.set_cons_zero, List.set_cons_succ]
      refine wpAnyH_take (i := 9) (v := .int .i64 (k : Int)) rfl (by kernel_rfl) (by kernel_rfl) (by kernel_rfl) (fun _ _ _ h => h) (Or.inl ⟨by rfl, fun w hSw => by obtain ⟨s1, s2⟩ := hSw; go_simp⟩) hS ?_
      simp only [List.getElem_toArray, List.getElem_cons_zero, List.getElem_cons_succ, Act.put, List.setIfInBounds_toArray, List.set_cons_zero, List.set_cons_succ]
      refine wpAnyH_take (i := 10) (v := .pointer (some ⟨q, o + k, none⟩)) rfl (by kernel_rfl) (by kernel_rfl) (by kernel_rfl) (fun _ _ _ h => h) (Or.inl ⟨by rfl, fun w hSw => by obtain ⟨s1, s2⟩ := hSw; go_simp⟩) hS ?_
      simp only [List.getElem_toArray, List.getElem_cons_zero, List.getElem_cons_succ, Act.put, List.setIfInBounds_toArray, List.set_cons_zero, List.set_cons_succ]
      refine wpAnyH_take (i := 11) (v := .int .u8 (bn x)) rfl (by kernel_rfl) (by kernel_rfl) (by kernel_rfl) (fun _ _ _ h => h) (Or.inl ⟨by rfl, fun w hSw => by obtain ⟨s1, s2⟩ := hSw; go_simp⟩) hS ?_
      simp only [List.getElem_toArray, List.getElem_cons_zero, List.getElem_cons_succ, Act.put, List.setIfInBounds_toArray, List.set_cons_zero, List.set_cons_succ]
      refine wpAnyH_take (i := 12) (v := .int .u64 (wn (b64 x))) rfl (by kernel_rfl) (by kernel_rfl) (by kernel_rfl) (fun _ _ _ h => h) (Or.inl ⟨by rfl, fun w hSw => by obtain ⟨s1, s2⟩ := hSw; go_simp⟩) hS ?_
      simp only [List.getElem_toArray, List.getElem_cons_zero, List.getElem_cons_succ, Act.put, List.setIfInBounds_toArray, List.set_cons_zero, List.set_cons_succ]
      refine wpAnyH_take (i := 13) (v := .int .u64 (wn (y <<< 8 ||| b64 x))) rfl (by kernel_rfl) (by kernel_rfl) (by kernel_rfl) (fun _ _ _ h => h) (Or.inl ⟨by rfl, fun w hSw => by obtain ⟨s1, s2⟩ := hSw; go_simp⟩) hS ?_
      simp only [List.getElem_toArray, List.getElem_cons_zero, List.getElem_cons_succ, Act.put, List.setIfInBounds_toArray, List.set_cons_zero, List.set_cons_succ]
      refine wpAnyH_take (i := 14) (v := .pointer (some ⟨p7, i, none⟩)) rfl (by kernel_rfl) (by kernel_rfl) (by kernel_rfl) (fun _ _ _ h => h) (Or.inl ⟨by rfl, fun w hSw => by obtain ⟨s1, s2⟩ := hSw; go_simp⟩) hS ?_
      simp only [List.getElem_toArray, List.getElem_cons_zero, List.getElem_cons_succ, Act.put, List.setIfInBounds_toArray, List.set_cons_zero, List.set_cons_succ]
      refine wpAnyH_take (i := 15) (v := .bool false) rfl (by kernel_rfl) (by kernel_rfl) (by kernel_rfl) (fun _ _ _ h => h) (Or.inl ⟨by rfl, fun w hSw => by obtain ⟨s1, s2⟩ := hSw; go_simp⟩) hS ?_
      simp only [List.getElem_toArray, List.getElem_cons_zero, List.getElem_cons_succ, Act.put, List.setIfInBounds_toArray, List.set_cons_zero, List.set_cons_succ]
      refine wpAnyH_done (by kernel_rfl) ?_ _
      go_wp2
      refine NoPanic.normal ?_
      go_wp2
      go_roundw
      case rel =>
        refine ⟨j + 1, by omega, by go_num, ?_, ?_⟩
        · rw [heap_drew, heap_setCell_same _ _ _ _ _ _ Q7.out, wa_set, ← Nat.add_assoc, w1, put, show (8 * i + j) / 8 = i by omega, HX.out.1, HX.out.2]
        · exact (ho.setCell _ _).drew
      case measure => simp [intOf]; omega
    · have hj8 : j = 8 := by omega
      rw [hj8] at q7
      go_wp2
      exact hexit _ _ _ _ _ _ _ _ _ _ _ _ _ _ _ _ _ _ _ _ _ q7 ho
end Go.Proofs.YtobgimpkkjaolaaGreatDoor.Sh
/- The page's own SHA-512: the first sixteen words. -/
namespace Go.Proofs.YtobgimpkkjaolaaGreatDoor.Sh
open Go.RowKit
set_option maxRecDepth 100000 in
set_option maxHeartbeats 1000000 in
theorem ref_words (Q : Exit → Act → World → Prop) (p7 q o n c : Nat) (bs : List UInt8) (hbs : bs.length = 128) (hq : q ≠ p7) (hn : 128 ≤ n) (hnm : n < 4611686018427387904) (w : World)
    (h7 : w.heap[p7]? = some (.cells (wa z80) 67 (0, 0))) (h5 : w.rangeAt q o (bs.map bc)) (v0 v1 v2 v3 v4 v6 v8 v9 v10 v11 v12 v13 v14 v15 v16 v17 v18 v19 v20 v21 v22 v23 v24 v25 v26 v27 v28 v29 v30 v31 v32 v33 v34 v35 v36 v37 v38 v39 v40 v41 v42 v43 v44 v45 v46 v47 v48 v49 v50 v51 v52 v53 v54 v55 v56 v57 v58 v59 v61 v62 v63 v64 v65 v66 v67 v68 v69 v70 v71 v72 v73 v74 v75 v76 v77 v78 v79 v80 v81 v82 v83 v84 v85 v86 v87 v88 v89 v90 v91 v92 v93 v94 v95 v96 v97 v98 v99 v100 v101 v102 v103 v104 v105 v106 v107 v108 v109 v110 v111 v112 v113 v114 v115 v116 v117 v118 v119 v120 v121 v122 v123 v124 v125 v126 v127 v128 v129 v130 v131 v132 v133 v134 v135 v136 v137 v138 v139 v140 v141 v142 v143 v144 v145 v146 v147 v148 v149 v150 v151 v152 v153 v154 v155 v156 v157 v158 v159 v160 v161 v162 v163 v164 v165 v166 v167 v168 v169 v170 v171 v172 v173 v174 v175 v176 v177 v178 v179 v180 v181 v182 v183 v184 v185 v186 v187 v188 v189 v190 v191 v192 v193 v194 v195 v196 v197 v198 v199 v200 v201 v202 v203 v204 v205 v206 v207 v208 v209 v210 v211 v212 v213 v214 v215 v216 v217 v218 v219 v220 v221 v222 v223 v224 v225 v226 v227 v228 v229 v230 v231 v232 v233 v234 v235 v236 v237 : Value)
    (hexit : ∀ (u8 u9 u60 u61 u62 u63 u64 u65 u66 u67 u68 u69 u70 u71 u72 u73 u74 u75 u76 u77 u78 u79 u80 u81 u82 : Value) (w' : World), w'.heap[p7]? = some (.cells (wa (w1 bs 128)) 67 (0, 0)) → Only p7 w w' → Q (.exit 6) ⟨List.toArray (v0 :: v1 :: v2 :: v3 :: v4 :: .slice (some ⟨q, o, none⟩) n c :: v6 :: .pointer (some ⟨p7, 0, none⟩) :: u8 :: u9 :: v10 :: v11 :: v12 :: v13 :: v14 :: v15 :: v16 :: v17 :: v18 :: v19 :: v20 :: v21 :: v22 :: v23 :: v24 :: v25 :: v26 :: v27 :: v28 :: v29 :: v30 :: v31 :: v32 :: v33 :: v34 :: v35 :: v36 :: v37 :: v38 :: v39 :: v40 :: v41 :: v42 :: v43 :: v44 :: v45 :: v46 :: v47 :: v48 :: v49 :: v50 :: v51 :: v52 :: v53 :: v54 :: v55 :: v56 :: v57 :: v58 :: v59 :: u60 :: u61 :: u62 :: u63 :: u64 :: u65 :: u66 :: u67 :: u68 :: u69 :: u70 :: u71 :: u72 :: u73 :: u74 :: u75 :: u76 :: u77 :: u78 :: u79 :: u80 :: u81 :: u82 :: v83 :: v84 :: v85 :: v86 :: v87 :: v88 :: v89 :: v90 :: v91 :: v92 :: v93 :: v94 :: v95 :: v96 :: v97 :: v98 :: v99 :: v100 :: v101 :: v102 :: v103 :: v104 :: v105 :: v106 :: v107 :: v108 :: v109 :: v110 :: v111 :: v112 :: v113 :: v114 :: v115 :: v116 :: v117 :: v118 :: v119 :: v120 :: v121 :: v122 :: v123 :: v124 :: v125 :: v126 :: v127 :: v128 :: v129 :: v130 :: v131 :: v132 :: v133 :: v134 :: v135 :: v136 :: v137 :: v138 :: v139 :: v140 :: v141 :: v142 :: v143 :: v144 :: v145 :: v146 :: v147 :: v148 :: v149 :: v150 :: v151 :: v152 :: v153 :: v154 :: v155 :: v156 :: v157 :: v158 :: v159 :: v160 :: v161 :: v162 :: v163 :: v164 :: v165 :: v166 :: v167 :: v168 :: v169 :: v170 :: v171 :: v172 :: v173 :: v174 :: v175 :: v176 :: v177 :: v178 :: v179 :: v180 :: v181 :: v182 :: v183 :: v184 :: v185 :: v186 :: v187 :: v188 :: v189 :: v190 :: v191 :: v192 :: v193 :: v194 :: v195 :: v196 :: v197 :: v198 :: v199 :: v200 :: v201 :: v202 :: v203 :: v204 :: v205 :: v206 :: v207 :: v208 :: v209 :: v210 :: v211 :: v212 :: v213 :: v214 :: v215 :: v216 :: v217 :: v218 :: v219 :: v220 :: v221 :: v222 :: v223 :: v224 :: v225 :: v226 :: v227 :: v228 :: v229 :: v230 :: v231 :: v232 :: v233 :: v234 :: v235 :: v236 :: v237 :: []), []⟩ w') :
    Code.wp Tryz.prog (nav [1, 1, 1, 1, 1, 1, 1, 0, 0, 0, 1, 0, 0, 1, 0, 1, 0] (Tryz.f20.body.getD .skip)) Q ⟨List.toArray (v0 :: v1 :: v2 :: v3 :: v4 :: .slice (some ⟨q, o, none⟩) n c :: v6 :: .pointer (some ⟨p7, 0, none⟩) :: v8 :: v9 :: v10 :: v11 :: v12 :: v13 :: v14 :: v15 :: v16 :: v17 :: v18 :: v19 :: v20 :: v21 :: v22 :: v23 :: v24 :: v25 :: v26 :: v27 :: v28 :: v29 :: v30 :: v31 :: v32 :: v33 :: v34 :: v35 :: v36 :: v37 :: v38 :: v39 :: v40 :: v41 :: v42 :: v43 :: v44 :: v45 :: v46 :: v47 :: v48 :: v49 :: v50 :: v51 :: v52 :: v53 :: v54 :: v55 :: v56 :: v57 :: v58 :: v59 :: .int .i64 0 :: v61 :: v62 :: v63 :: v64 :: v65 :: v66 :: v67 :: v68 :: v69 :: v70 :: v71 :: v72 :: v73 :: v74 :: v75 :: v76 :: v77 :: v78 :: v79 :: v80 :: v81 :: v82 :: v83 :: v84 :: v85 :: v86 :: v87 :: v88 :: v89 :: v90 :: v91 :: v92 :: v93 :: v94 :: v95 :: v96 :: v97 :: v98 :: v99 :: v100 :: v101 :: v102 :: v103 :: v104 :: v105 :: v106 :: v107 :: v108 :: v109 :: v110 :: v111 :: v112 :: v113 :: v114 :: v115 :: v116 :: v117 :: v118 :: v119 :: v120 :: v121 :: v122 :: v123 :: v124 :: v125 :: v126 :: v127 :: v128 :: v129 :: v130 :: v131 :: v132 :: v133 :: v134 :: v135 :: v136 :: v137 :: v138 :: v139 :: v140 :: v141 :: v142 :: v143 :: v144 :: v145 :: v146 :: v147 :: v148 :: v149 :: v150 :: v151 :: v152 :: v153 :: v154 :: v155 :: v156 :: v157 :: v158 :: v159 :: v160 :: v161 :: v162 :: v163 :: v164 :: v165 :: v166 :: v167 :: v168 :: v169 :: v170 :: v171 :: v172 :: v173 :: v174 :: v175 :: v176 :: v177 :: v178 :: v179 :: v180 :: v181 :: v182 :: v183 :: v184 :: v185 :: v186 :: v187 :: v188 :: v189 :: v190 :: v191 :: v192 :: v193 :: v194 :: v195 :: v196 :: v197 :: v198 :: v199 :: v200 :: v201 :: v202 :: v203 :: v204 :: v205 :: v206 :: v207 :: v208 :: v209 :: v210 :: v211 :: v212 :: v213 :: v214 :: v215 :: v216 :: v217 :: v218 :: v219 :: v220 :: v221 :: v222 :: v223 :: v224 :: v225 :: v226 :: v227 :: v228 :: v229 :: v230 :: v231 :: v232 :: v233 :: v234 :: v235 :: v236 :: v237 :: []), []⟩ w := by
  conv => arg 2; whnf
  go_loopw [60] (fun iv wr => ∃ i : Nat, i ≤ 16 ∧ iv = .int .i64 i ∧ wr.heap[p7]? = some (.cells (wa (w1 bs (8 * i))) 67 (0, 0)) ∧ Only p7 w wr) (fun i _ => 16 - (intOf i).toNat)
  case atStart => exact ⟨0, by omega, rfl, h7, Only.refl _ _⟩
  case round =>
    obtain ⟨i, hj, rfl, q7, ho⟩ := hrel
    by_cases hlt : i < 16
    · have q5 := ho.range hq h5
      clear h5 hexit
      have b0 : (i : Int) < 16 := by omega
      go_wp2
      refine ref_bytes _ p7 q o n c i bs hbs hq hlt hn hnm _ q7 q5 _ _ _ _ _ _ _ _ _ _ _ _ _ _ _ _ _ _ _ _ _ _ _ _ _ _ _ _ _ _ _ _ _ _ _ _ _ _ _ _ _ _ _ _ _ _ _ _ _ _ _ _ _ _ _ _ _ _ _ _ _ _ _ _ _ _ _ _ _ _ _ _ _ _ _ _ _ _ _ _ _ _ _ _ _ _ _ _ _ _ _ _ _ _ _ _ _ _ _ _ _ _ _ _ _ _ _ _ _ _ _ _ _ _ _ _ _ _ _ _ _ _ _ _ _ _ _ _ _ _ _ _ _ _ _ _ _ _ _ _ _ _ _ _ _ _ _ _ _ _ _ _ _ _ _ _ _ _ _ _ _ _ _ _ _ _ _ _ _ _ _ _ _ _ _ _ _ _ _ _ _ _ _ _ _ _ _ _ _ _ _ _ _ _ _ _ _ _ _ _ _ _ _ _ _ _ _ _ _ _ _ _ _ _ _ _ _ _ _ _ _ _ _ _ _ _ _ _ _ _ _ _ _ _ ?_
      intro r9 r63 r64 r65 r66 r67 r68 r69 r70 r71 r72 r73 r74 r75 r76 r77 r78 r79 r80 r81 w' k7 ko
      have HO := ho.trans ko
      clear q7 q5 ko ho
      go_wp2
      go_roundw
      case rel => exact ⟨i + 1, by omega, by go_num, k7, HO⟩
      case measure => simp [intOf]; omega
    · have hj8 : i = 16 := by omega
      rw [hj8] at q7
      go_wp2
      exact hexit _ _ _ _ _ _ _ _ _ _ _ _ _ _ _ _ _ _ _ _ _ _ _ _ _ _ q7 ho
end Go.Proofs.YtobgimpkkjaolaaGreatDoor.Sh
/- The page's own SHA-512: the words from sixteen to eighty. -/
namespace Go.Proofs.YtobgimpkkjaolaaGreatDoor.Sh
open Go.RowKit
attribute [local go_sem] w_add w_xor w_shr6 w_shr7
set_option maxRecDepth 100000 in
set_option maxHeartbeats 1000000 in
theorem ref_next (Q : Exit → Act → World → Prop) (p7 : Nat) (ws : List (BitVec 64)) (hws : ws.length = 80) (w : World)
    (h7 : w.heap[p7]? = some (.cells (wa ws) 67 (0, 0))) (v0 v1 v2 v3 v4 v5 v6 v8 v9 v11 v12 v13 v14 v15 v16 v17 v18 v19 v20 v21 v22 v23 v24 v25 v26 v27 v28 v29 v30 v31 v32 v33 v34 v35 v36 v37 v38 v39 v40 v41 v42 v43 v44 v45 v46 v47 v48 v49 v50 v51 v52 v53 v54 v55 v56 v57 v58 v59 v60 v61 v62 v63 v64 v65 v66 v67 v68 v69 v70 v71 v72 v73 v74 v75 v76 v77 v78 v79 v80 v81 v82 v83 v84 v85 v86 v87 v88 v89 v90 v91 v92 v93 v94 v95 v96 v97 v98 v99 v100 v101 v102 v103 v104 v105 v106 v107 v108 v109 v110 v111 v112 v113 v114 v115 v116 v117 v118 v119 v120 v121 v122 v123 v124 v125 v126 v127 v128 v129 v130 v131 v132 v133 v134 v135 v136 v137 v138 v139 v140 v141 v142 v143 v144 v145 v146 v147 v148 v149 v150 v151 v152 v153 v154 v155 v156 v157 v158 v159 v160 v161 v162 v163 v164 v165 v166 v167 v168 v169 v170 v171 v172 v173 v174 v175 v176 v177 v178 v179 v180 v181 v182 v183 v184 v185 v186 v187 v188 v189 v190 v191 v192 v193 v194 v195 v196 v197 v198 v199 v200 v201 v202 v203 v204 v205 v206 v207 v208 v209 v210 v211 v212 v213 v214 v215 v216 v217 v218 v219 v220 v221 v222 v223 v224 v225 v226 v227 v228 v229 v230 v231 v232 v233 v234 v235 v236 v237 : Value)
    (hexit : ∀ (u10 u11 u12 u83 u84 u85 u86 u87 u88 u89 u90 u91 u92 u93 u94 u95 u96 u97 u98 u99 u100 u101 u102 u103 u104 u105 u106 u107 u108 u109 u110 u111 u112 u113 u114 u115 u116 u117 u118 u119 u120 u121 u122 u123 : Value) (w' : World), w'.heap[p7]? = some (.cells (wa (w2 ws 64)) 67 (0, 0)) → Only p7 w w' → Q (.exit 10) ⟨List.toArray (v0 :: v1 :: v2 :: v3 :: v4 :: v5 :: v6 :: .pointer (some ⟨p7, 0, none⟩) :: v8 :: v9 :: u10 :: u11 :: u12 :: v13 :: v14 :: v15 :: v16 :: v17 :: v18 :: v19 :: v20 :: v21 :: v22 :: v23 :: v24 :: v25 :: v26 :: v27 :: v28 :: v29 :: v30 :: v31 :: v32 :: v33 :: v34 :: v35 :: v36 :: v37 :: v38 :: v39 :: v40 :: v41 :: v42 :: v43 :: v44 :: v45 :: v46 :: v47 :: v48 :: v49 :: v50 :: v51 :: v52 :: v53 :: v54 :: v55 :: v56 :: v57 :: v58 :: v59 :: v60 :: v61 :: v62 :: v63 :: v64 :: v65 :: v66 :: v67 :: v68 :: v69 :: v70 :: v71 :: v72 :: v73 :: v74 :: v75 :: v76 :: v77 :: v78 :: v79 :: v80 :: v81 :: v82 :: u83 :: u84 :: u85 :: u86 :: u87 :: u88 :: u89 :: u90 :: u91 :: u92 :: u93 :: u94 :: u95 :: u96 :: u97 :: u98 :: u99 :: u100 :: u101 :: u102 :: u103 :: u104 :: u105 :: u106 :: u107 :: u108 :: u109 :: u110 :: u111 :: u112 :: u113 :: u114 :: u115 :: u116 :: u117 :: u118 :: u119 :: u120 :: u121 :: u122 :: u123 :: v124 :: v125 :: v126 :: v127 :: v128 :: v129 :: v130 :: v131 :: v132 :: v133 :: v134 :: v135 :: v136 :: v137 :: v138 :: v139 :: v140 :: v141 :: v142 :: v143 :: v144 :: v145 :: v146 :: v147 :: v148 :: v149 :: v150 :: v151 :: v152 :: v153 :: v154 :: v155 :: v156 :: v157 :: v158 :: v159 :: v160 :: v161 :: v162 :: v163 :: v164 :: v165 :: v166 :: v167 :: v168 :: v169 :: v170 :: v171 :: v172 :: v173 :: v174 :: v175 :: v176 :: v177 :: v178 :: v179 :: v180 :: v181 :: v182 :: v183 :: v184 :: v185 :: v186 :: v187 :: v188 :: v189 :: v190 :: v191 :: v192 :: v193 :: v194 :: v195 :: v196 :: v197 :: v198 :: v199 :: v200 :: v201 :: v202 :: v203 :: v204 :: v205 :: v206 :: v207 :: v208 :: v209 :: v210 :: v211 :: v212 :: v213 :: v214 :: v215 :: v216 :: v217 :: v218 :: v219 :: v220 :: v221 :: v222 :: v223 :: v224 :: v225 :: v226 :: v227 :: v228 :: v229 :: v230 :: v231 :: v232 :: v233 :: v234 :: v235 :: v236 :: v237 :: []), []⟩ w') :
    Code.wp Tryz.prog (nav [1, 1, 1, 1, 1, 1, 1, 0, 0, 0, 1, 0, 0, 1, 1, 0, 1, 0] (Tryz.f20.body.getD .skip)) Q ⟨List.toArray (v0 :: v1 :: v2 :: v3 :: v4 :: v5 :: v6 :: .pointer (some ⟨p7, 0, none⟩) :: v8 :: v9 :: .int .i64 16 :: v11 :: v12 :: v13 :: v14 :: v15 :: v16 :: v17 :: v18 :: v19 :: v20 :: v21 :: v22 :: v23 :: v24 :: v25 :: v26 :: v27 :: v28 :: v29 :: v30 :: v31 :: v32 :: v33 :: v34 :: v35 :: v36 :: v37 :: v38 :: v39 :: v40 :: v41 :: v42 :: v43 :: v44 :: v45 :: v46 :: v47 :: v48 :: v49 :: v50 :: v51 :: v52 :: v53 :: v54 :: v55 :: v56 :: v57 :: v58 :: v59 :: v60 :: v61 :: v62 :: v63 :: v64 :: v65 :: v66 :: v67 :: v68 :: v69 :: v70 :: v71 :: v72 :: v73 :: v74 :: v75 :: v76 :: v77 :: v78 :: v79 :: v80 :: v81 :: v82 :: v83 :: v84 :: v85 :: v86 :: v87 :: v88 :: v89 :: v90 :: v91 :: v92 :: v93 :: v94 :: v95 :: v96 :: v97 :: v98 :: v99 :: v100 :: v101 :: v102 :: v103 :: v104 :: v105 :: v106 :: v107 :: v108 :: v109 :: v110 :: v111 :: v112 :: v113 :: v114 :: v115 :: v116 :: v117 :: v118 :: v119 :: v120 :: v121 :: v122 :: v123 :: v124 :: v125 :: v126 :: v127 :: v128 :: v129 :: v130 :: v131 :: v132 :: v133 :: v134 :: v135 :: v136 :: v137 :: v138 :: v139 :: v140 :: v141 :: v142 :: v143 :: v144 :: v145 :: v146 :: v147 :: v148 :: v149 :: v150 :: v151 :: v152 :: v153 :: v154 :: v155 :: v156 :: v157 :: v158 :: v159 :: v160 :: v161 :: v162 :: v163 :: v164 :: v165 :: v166 :: v167 :: v168 :: v169 :: v170 :: v171 :: v172 :: v173 :: v174 :: v175 :: v176 :: v177 :: v178 :: v179 :: v180 :: v181 :: v182 :: v183 :: v184 :: v185 :: v186 :: v187 :: v188 :: v189 :: v190 :: v191 :: v192 :: v193 :: v194 :: v195 :: v196 :: v197 :: v198 :: v199 :: v200 :: v201 :: v202 :: v203 :: v204 :: v205 :: v206 :: v207 :: v208 :: v209 :: v210 :: v211 :: v212 :: v213 :: v214 :: v215 :: v216 :: v217 :: v218 :: v219 :: v220 :: v221 :: v222 :: v223 :: v224 :: v225 :: v226 :: v227 :: v228 :: v229 :: v230 :: v231 :: v232 :: v233 :: v234 :: v235 :: v236 :: v237 :: []), []⟩ w := by
  conv => arg 2; whnf
  go_loopw [10] (fun i wr => ∃ n : Nat, 16 ≤ n ∧ n ≤ 80 ∧ i = .int .i64 n ∧ wr.heap[p7]? = some (.cells (wa (w2 ws (n - 16))) 67 (0, 0)) ∧ Only p7 w wr) (fun i _ => 80 - (intOf i).toNat)
  case atStart => exact ⟨16, by omega, by omega, rfl, h7, Only.refl _ _⟩
  case round =>
    obtain ⟨n, hn, hj, rfl, q7, ho⟩ := hrel
    have hls : (w2 ws (n - 16)).length = 80 := by rw [w2_len, hws]
    by_cases hlt : n < 80
    · have c2 := row_cell q7 (j := n - 2) (by omega)
      have c7 := row_cell q7 (j := n - 7) (by omega)
      have c15 := row_cell q7 (j := n - 15) (by omega)
      have c16 := row_cell q7 (j := n - 16) (by omega)
      have c0 := row_cell q7 (j := n) (by omega)
      have hfro : wr.frozen? ⟨p7, n, none⟩ = false := frozen_of_row _ _ _ _ _ q7
      have Q7 := hide q7
      clear q7 hls h7 hexit
      generalize hx2 : (w2 ws (n - 16)).getD (n - 2) 0 = x2 at c2
      generalize hx7 : (w2 ws (n - 16)).getD (n - 7) 0 = x7 at c7
      generalize hx15 : (w2 ws (n - 16)).getD (n - 15) 0 = x15 at c15
      generalize hx16 : (w2 ws (n - 16)).getD (n - 16) 0 = x16 at c16
      generalize hx0 : (w2 ws (n - 16)).getD n 0 = x0 at c0
      have HX := hide (And.intro hx2 (And.intro hx7 (And.intro hx15 hx16)))
      clear hx2 hx7 hx15 hx16 hx0
      have b0 : (n : Int) < 80 := by omega
      have b2 : ((n - 2 : Nat) : Int) < 80 := by omega
      have e2 : IntKind.i64.wrap ((n : Int) - 2) = ((n - 2 : Nat) : Int) := by rw [i64_wrap _ (by omega)]; omega
      have b7 : ((n - 7 : Nat) : Int) < 80 := by omega
      have e7 : IntKind.i64.wrap ((n : Int) - 7) = ((n - 7 : Nat) : Int) := by rw [i64_wrap _ (by omega)]; omega
      have b15 : ((n - 15 : Nat) : Int) < 80 := by omega
      have e15 : IntKind.i64.wrap ((n : Int) - 15) = ((n - 15 : Nat) : Int) := by rw [i64_wrap _ (by omega)]; omega
      have b16 : ((n - 16 : Nat) : Int) < 80 := by omega
      have e16 : IntKind.i64.wrap ((n : Int) - 16) = ((n - 16 : Nat) : Int) := by rw [i64_wrap _ (by omega)]; omega
      go_wp2
      go_quiet (fail)
      revert nq
      intro n1
      have HO1 : Only p7 w (wr.drewN n1) := ho.drewN n1
      have Q1 : Hid ((wr.drewN n1).heap[p7]? = some (.cells (wa (w2 ws (n - 16))) 67 (0, 0))) := hide Q7.out
      replace c7 : (wr.drewN n1).cell? ⟨p7, n - 7, none⟩ = some (.int .u64 (wn x7)) := c7
      replace c16 : (wr.drewN n1).cell? ⟨p7, n - 16, none⟩ = some (.int .u64 (wn x16)) := c16
      replace c0 : (wr.drewN n1).cell? ⟨p7, n, none⟩ = some (.int .u64 (wn x0)) := c0
      replace hfro : (wr.drewN n1).frozen? ⟨p7, n, none⟩ = false := hfro
      clear c2 c15 Q7 ho
      generalize wr.drewN n1 = W1 at HO1 Q1 c7 c16 c0 hfro ⊢
      go_wp2
      go_region_held3 (fun w' => w'.cell? ⟨p7, n - 7, none⟩ = some (.int .u64 (wn x7)) ∧ w'.cell? ⟨p7, n - 16, none⟩ = some (.int .u64 (wn x16))) (first | (go_keep; done) | (exact ⟨keep_set (by omega) c7, keep_set (by omega) c16⟩)) ((go_at_call 47; refine (rotr_int _ _ (by omega) (by omega) _).mono ?_; rintro e w' ⟨rfl, rfl⟩))
      clear c7 c16 c0 b0 b2 b7 b15 b16 e2 e7 e15 e16
      go_wp2
      go_roundw
      case rel =>
        refine ⟨n + 1, by omega, by omega, by go_num, ?_, ?_⟩
        · rw [heap_drew, heap_setCell_same _ _ _ _ _ _ Q1.out, wa_set, show n + 1 - 16 = n - 16 + 1 by omega, w2]
          rw [show 16 + (n - 16) = n by omega, nxw, HX.out.1, HX.out.2.1, HX.out.2.2.1, HX.out.2.2.2]
          rfl
        · exact (HO1.setCell _ _).drew
      case measure => simp [intOf]; omega
    · have hj8 : n = 80 := by omega
      rw [hj8] at q7
      go_wp2
      exact hexit _ _ _ _ _ _ _ _ _ _ _ _ _ _ _ _ _ _ _ _ _ _ _ _ _ _ _ _ _ _ _ _ _ _ _ _ _ _ _ _ _ _ _ _ _ q7 ho
end Go.Proofs.YtobgimpkkjaolaaGreatDoor.Sh
/- The page's own SHA-512: the eighty rounds. -/
namespace Go.Proofs.YtobgimpkkjaolaaGreatDoor.Sh
open Go.RowKit
attribute [local go_sem] w_add w_xor w_and w_not
set_option maxRecDepth 100000 in
set_option maxHeartbeats 1000000 in
theorem ref_rounds (Q : Exit → Act → World → Prop) (p4 p7 p13 : Nat) (s ws : List (BitVec 64)) (hs : s.length = 8) (hws : ws.length = 80) (hn4 : p4 ≠ p13) (hn7 : p7 ≠ p13) (w : World)
    (h4 : w.heap[p4]? = some (.cells (wa kw) 67 (0, 0))) (h7 : w.heap[p7]? = some (.cells (wa ws) 67 (0, 0))) (h13 : w.heap[p13]? = some (.cells (wa s) 66 (0, 0))) (v0 v1 v2 v3 v5 v6 v8 v9 v10 v11 v12 v14 v15 v16 v17 v18 v19 v20 v21 v22 v23 v24 v25 v26 v27 v28 v29 v30 v31 v32 v33 v34 v35 v36 v37 v38 v39 v40 v41 v42 v43 v44 v45 v46 v47 v48 v49 v50 v51 v52 v53 v54 v55 v56 v57 v58 v59 v60 v61 v62 v63 v64 v65 v66 v67 v68 v69 v70 v71 v72 v73 v74 v75 v76 v77 v78 v79 v80 v81 v82 v83 v84 v85 v86 v87 v88 v89 v90 v91 v92 v93 v94 v95 v96 v97 v98 v99 v100 v101 v102 v103 v104 v105 v106 v107 v108 v109 v110 v111 v112 v113 v114 v115 v116 v117 v118 v119 v120 v121 v122 v123 v124 v126 v127 v128 v129 v130 v131 v132 v133 v134 v135 v136 v137 v138 v139 v140 v141 v142 v143 v144 v145 v146 v147 v148 v149 v150 v151 v152 v153 v154 v155 v156 v157 v158 v159 v160 v161 v162 v163 v164 v165 v166 v167 v168 v169 v170 v171 v172 v173 v174 v175 v176 v177 v178 v179 v180 v181 v182 v183 v184 v185 v186 v187 v188 v189 v190 v191 v192 v193 v194 v195 v196 v197 v198 v199 v200 v201 v202 v203 v204 v205 v206 v207 v208 v209 v210 v211 v212 v213 v214 v215 v216 v217 v218 v219 v220 v221 v222 v223 v224 v225 v226 v227 v228 v229 v230 v231 v232 v233 v234 v235 v236 v237 : Value)
    (hexit : ∀ (u14 u15 u16 u17 u18 u125 u126 u127 u128 u129 u130 u131 u132 u133 u134 u135 u136 u137 u138 u139 u140 u141 u142 u143 u144 u145 u146 u147 u148 u149 u150 u151 u152 u153 u154 u155 u156 u157 u158 u159 u160 u161 u162 u163 u164 u165 u166 u167 u168 u169 u170 u171 u172 u173 u174 u175 u176 u177 u178 u179 u180 u181 u182 u183 u184 u185 u186 u187 u188 u189 u190 u191 u192 u193 u194 u195 u196 u197 u198 u199 u200 u201 u202 u203 u204 u205 u206 : Value) (w' : World), w'.heap[p13]? = some (.cells (wa (rs s ws 80)) 66 (0, 0)) → Only p13 w w' → Q (.exit 12) ⟨List.toArray (v0 :: v1 :: v2 :: v3 :: .pointer (some ⟨p4, 0, none⟩) :: v5 :: v6 :: .pointer (some ⟨p7, 0, none⟩) :: v8 :: v9 :: v10 :: v11 :: v12 :: .pointer (some ⟨p13, 0, none⟩) :: u14 :: u15 :: u16 :: u17 :: u18 :: v19 :: v20 :: v21 :: v22 :: v23 :: v24 :: v25 :: v26 :: v27 :: v28 :: v29 :: v30 :: v31 :: v32 :: v33 :: v34 :: v35 :: v36 :: v37 :: v38 :: v39 :: v40 :: v41 :: v42 :: v43 :: v44 :: v45 :: v46 :: v47 :: v48 :: v49 :: v50 :: v51 :: v52 :: v53 :: v54 :: v55 :: v56 :: v57 :: v58 :: v59 :: v60 :: v61 :: v62 :: v63 :: v64 :: v65 :: v66 :: v67 :: v68 :: v69 :: v70 :: v71 :: v72 :: v73 :: v74 :: v75 :: v76 :: v77 :: v78 :: v79 :: v80 :: v81 :: v82 :: v83 :: v84 :: v85 :: v86 :: v87 :: v88 :: v89 :: v90 :: v91 :: v92 :: v93 :: v94 :: v95 :: v96 :: v97 :: v98 :: v99 :: v100 :: v101 :: v102 :: v103 :: v104 :: v105 :: v106 :: v107 :: v108 :: v109 :: v110 :: v111 :: v112 :: v113 :: v114 :: v115 :: v116 :: v117 :: v118 :: v119 :: v120 :: v121 :: v122 :: v123 :: v124 :: u125 :: u126 :: u127 :: u128 :: u129 :: u130 :: u131 :: u132 :: u133 :: u134 :: u135 :: u136 :: u137 :: u138 :: u139 :: u140 :: u141 :: u142 :: u143 :: u144 :: u145 :: u146 :: u147 :: u148 :: u149 :: u150 :: u151 :: u152 :: u153 :: u154 :: u155 :: u156 :: u157 :: u158 :: u159 :: u160 :: u161 :: u162 :: u163 :: u164 :: u165 :: u166 :: u167 :: u168 :: u169 :: u170 :: u171 :: u172 :: u173 :: u174 :: u175 :: u176 :: u177 :: u178 :: u179 :: u180 :: u181 :: u182 :: u183 :: u184 :: u185 :: u186 :: u187 :: u188 :: u189 :: u190 :: u191 :: u192 :: u193 :: u194 :: u195 :: u196 :: u197 :: u198 :: u199 :: u200 :: u201 :: u202 :: u203 :: u204 :: u205 :: u206 :: v207 :: v208 :: v209 :: v210 :: v211 :: v212 :: v213 :: v214 :: v215 :: v216 :: v217 :: v218 :: v219 :: v220 :: v221 :: v222 :: v223 :: v224 :: v225 :: v226 :: v227 :: v228 :: v229 :: v230 :: v231 :: v232 :: v233 :: v234 :: v235 :: v236 :: v237 :: []), []⟩ w') :
    Code.wp Tryz.prog (nav [1, 1, 1, 1, 1, 1, 1, 0, 0, 0, 1, 0, 0, 1, 1, 1, 1, 0, 1, 0] (Tryz.f20.body.getD .skip)) Q ⟨List.toArray (v0 :: v1 :: v2 :: v3 :: .pointer (some ⟨p4, 0, none⟩) :: v5 :: v6 :: .pointer (some ⟨p7, 0, none⟩) :: v8 :: v9 :: v10 :: v11 :: v12 :: .pointer (some ⟨p13, 0, none⟩) :: v14 :: v15 :: v16 :: v17 :: v18 :: v19 :: v20 :: v21 :: v22 :: v23 :: v24 :: v25 :: v26 :: v27 :: v28 :: v29 :: v30 :: v31 :: v32 :: v33 :: v34 :: v35 :: v36 :: v37 :: v38 :: v39 :: v40 :: v41 :: v42 :: v43 :: v44 :: v45 :: v46 :: v47 :: v48 :: v49 :: v50 :: v51 :: v52 :: v53 :: v54 :: v55 :: v56 :: v57 :: v58 :: v59 :: v60 :: v61 :: v62 :: v63 :: v64 :: v65 :: v66 :: v67 :: v68 :: v69 :: v70 :: v71 :: v72 :: v73 :: v74 :: v75 :: v76 :: v77 :: v78 :: v79 :: v80 :: v81 :: v82 :: v83 :: v84 :: v85 :: v86 :: v87 :: v88 :: v89 :: v90 :: v91 :: v92 :: v93 :: v94 :: v95 :: v96 :: v97 :: v98 :: v99 :: v100 :: v101 :: v102 :: v103 :: v104 :: v105 :: v106 :: v107 :: v108 :: v109 :: v110 :: v111 :: v112 :: v113 :: v114 :: v115 :: v116 :: v117 :: v118 :: v119 :: v120 :: v121 :: v122 :: v123 :: v124 :: .int .i64 0 :: v126 :: v127 :: v128 :: v129 :: v130 :: v131 :: v132 :: v133 :: v134 :: v135 :: v136 :: v137 :: v138 :: v139 :: v140 :: v141 :: v142 :: v143 :: v144 :: v145 :: v146 :: v147 :: v148 :: v149 :: v150 :: v151 :: v152 :: v153 :: v154 :: v155 :: v156 :: v157 :: v158 :: v159 :: v160 :: v161 :: v162 :: v163 :: v164 :: v165 :: v166 :: v167 :: v168 :: v169 :: v170 :: v171 :: v172 :: v173 :: v174 :: v175 :: v176 :: v177 :: v178 :: v179 :: v180 :: v181 :: v182 :: v183 :: v184 :: v185 :: v186 :: v187 :: v188 :: v189 :: v190 :: v191 :: v192 :: v193 :: v194 :: v195 :: v196 :: v197 :: v198 :: v199 :: v200 :: v201 :: v202 :: v203 :: v204 :: v205 :: v206 :: v207 :: v208 :: v209 :: v210 :: v211 :: v212 :: v213 :: v214 :: v215 :: v216 :: v217 :: v218 :: v219 :: v220 :: v221 :: v222 :: v223 :: v224 :: v225 :: v226 :: v227 :: v228 :: v229 :: v230 :: v231 :: v232 :: v233 :: v234 :: v235 :: v236 :: v237 :: []), []⟩ w := by
  conv => arg 2; whnf
  go_loopw [125] (fun i wr => ∃ j : Nat, j ≤ 80 ∧ i = .int .i64 j ∧ wr.heap[p13]? = some (.cells (wa (rs s ws j)) 66 (0, 0)) ∧ Only p13 w wr) (fun i _ => 80 - (intOf i).toNat)
  case atStart => exact ⟨0, by omega, rfl, h13, Only.refl _ _⟩
  case round =>
    obtain ⟨j, hj, rfl, q13, ho⟩ := hrel
    have hls : (rs s ws j).length = 8 := rs_len s ws hs j
    by_cases hlt : j < 80
    · have c4 := row_cell (ho.row hn4 h4) (j := j) (by exact hlt)
      have c7 := row_cell (ho.row hn7 h7) (j := j) (by omega)
      have d0 := row_cell q13 (j := 0) (by omega)
      have d1 := row_cell q13 (j := 1) (by omega)
      have d2 := row_cell q13 (j := 2) (by omega)
      have d3 := row_cell q13 (j := 3) (by omega)
      have d4 := row_cell q13 (j := 4) (by omega)
      have d5 := row_cell q13 (j := 5) (by omega)
      have d6 := row_cell q13 (j := 6) (by omega)
      have d7 := row_cell q13 (j := 7) (by omega)
      have hsz : (wa (rs s ws j)).size = 8 := by rw [wa_size, hls]
      have HS := hide hsz
      have Q13 := hide q13
      clear q13 hls h4 h7 h13 hexit hsz
      generalize hR : rs s ws j = R at d0 d1 d2 d3 d4 d5 d6 d7 Q13 HS
      generalize hx0 : R.getD 0 0 = x0 at d0
      generalize hx1 : R.getD 1 0 = x1 at d1
      generalize hx2 : R.getD 2 0 = x2 at d2
      generalize hx3 : R.getD 3 0 = x3 at d3
      generalize hx4 : R.getD 4 0 = x4 at d4
      generalize hx5 : R.getD 5 0 = x5 at d5
      generalize hx6 : R.getD 6 0 = x6 at d6
      generalize hx7 : R.getD 7 0 = x7 at d7
      generalize hkw : kw.getD j 0 = kk at c4
      generalize hww : ws.getD j 0 = ww at c7
      have HR := hide hR
      have HX := hide (And.intro hx0 (And.intro hx1 (And.intro hx2 (And.intro hx3 (And.intro hx4 (And.intro hx5 (And.intro hx6 hx7)))))))
      have HK := hide (And.intro hkw hww)
      clear hx0 hx1 hx2 hx3 hx4 hx5 hx6 hx7 hkw hww hR
      have b0 : (j : Int) < 80 := by omega
      go_wp2
      go_quiet (fail)
      revert nq
      intro n1
      have HO1 : Only p13 w (wr.drewN n1) := ho.drewN n1
      have Q1 : Hid ((wr.drewN n1).heap[p13]? = some (.cells (wa R) 66 (0, 0))) := hide Q13.out
      replace c4 : (wr.drewN n1).cell? ⟨p4, j, none⟩ = some (.int .u64 (wn kk)) := c4
      replace c7 : (wr.drewN n1).cell? ⟨p7, j, none⟩ = some (.int .u64 (wn ww)) := c7
      replace d0 : (wr.drewN n1).cell? ⟨p13, 0, none⟩ = some (.int .u64 (wn x0)) := d0
      replace d1 : (wr.drewN n1).cell? ⟨p13, 1, none⟩ = some (.int .u64 (wn x1)) := d1
      replace d2 : (wr.drewN n1).cell? ⟨p13, 2, none⟩ = some (.int .u64 (wn x2)) := d2
      replace d3 : (wr.drewN n1).cell? ⟨p13, 3, none⟩ = some (.int .u64 (wn x3)) := d3
      replace d4 : (wr.drewN n1).cell? ⟨p13, 4, none⟩ = some (.int .u64 (wn x4)) := d4
      replace d5 : (wr.drewN n1).cell? ⟨p13, 5, none⟩ = some (.int .u64 (wn x5)) := d5
      replace d6 : (wr.drewN n1).cell? ⟨p13, 6, none⟩ = some (.int .u64 (wn x6)) := d6
      replace d7 : (wr.drewN n1).cell? ⟨p13, 7, none⟩ = some (.int .u64 (wn x7)) := d7
      generalize wr.drewN n1 = W1 at HO1 Q1 c4 c7 d0 d1 d2 d3 d4 d5 d6 d7 ⊢
      clear ho Q13
      go_wp2
      go_quiet ((go_at_call 47; exact Calls.quiet_of_same (rotr_int _ _ (by omega) (by omega) _)))
      revert nq
      intro n2
      have HO2 : Only p13 w (W1.drewN n2) := HO1.drewN n2
      have Q2 : Hid ((W1.drewN n2).heap[p13]? = some (.cells (wa R) 66 (0, 0))) := hide Q1.out
      replace c4 : (W1.drewN n2).cell? ⟨p4, j, none⟩ = some (.int .u64 (wn kk)) := c4
      replace c7 : (W1.drewN n2).cell? ⟨p7, j, none⟩ = some (.int .u64 (wn ww)) := c7
      replace d0 : (W1.drewN n2).cell? ⟨p13, 0, none⟩ = some (.int .u64 (wn x0)) := d0
      replace d1 : (W1.drewN n2).cell? ⟨p13, 1, none⟩ = some (.int .u64 (wn x1)) := d1
      replace d2 : (W1.drewN n2).cell? ⟨p13, 2, none⟩ = some (.int .u64 (wn x2)) := d2
      replace d3 : (W1.drewN n2).cell? ⟨p13, 3, none⟩ = some (.int .u64 (wn x3)) := d3
      replace d4 : (W1.drewN n2).cell? ⟨p13, 4, none⟩ = some (.int .u64 (wn x4)) := d4
      replace d5 : (W1.drewN n2).cell? ⟨p13, 5, none⟩ = some (.int .u64 (wn x5)) := d5
      replace d6 : (W1.drewN n2).cell? ⟨p13, 6, none⟩ = some (.int .u64 (wn x6)) := d6
      replace d7 : (W1.drewN n2).cell? ⟨p13, 7, none⟩ = some (.int .u64 (wn x7)) := d7
      generalize W1.drewN n2 = W2 at HO2 Q2 c4 c7 d0 d1 d2 d3 d4 d5 d6 d7 ⊢
      clear HO1 Q1
      go_wp2
      go_quiet ((go_at_call 47; exact Calls.quiet_of_same (rotr_int _ _ (by omega) (by omega) _)))
      revert nq
      intro n3
      have HO3 : Only p13 w (W2.drewN n3) := HO2.drewN n3
      have Q3 : Hid ((W2.drewN n3).heap[p13]? = some (.cells (wa R) 66 (0, 0))) := hide Q2.out
      replace c4 : (W2.drewN n3).cell? ⟨p4, j, none⟩ = some (.int .u64 (wn kk)) := c4
      replace c7 : (W2.drewN n3).cell? ⟨p7, j, none⟩ = some (.int .u64 (wn ww)) := c7
      replace d0 : (W2.drewN n3).cell? ⟨p13, 0, none⟩ = some (.int .u64 (wn x0)) := d0
      replace d1 : (W2.drewN n3).cell? ⟨p13, 1, none⟩ = some (.int .u64 (wn x1)) := d1
      replace d2 : (W2.drewN n3).cell? ⟨p13, 2, none⟩ = some (.int .u64 (wn x2)) := d2
      replace d3 : (W2.drewN n3).cell? ⟨p13, 3, none⟩ = some (.int .u64 (wn x3)) := d3
      replace d4 : (W2.drewN n3).cell? ⟨p13, 4, none⟩ = some (.int .u64 (wn x4)) := d4
      replace d5 : (W2.drewN n3).cell? ⟨p13, 5, none⟩ = some (.int .u64 (wn x5)) := d5
      replace d6 : (W2.drewN n3).cell? ⟨p13, 6, none⟩ = some (.int .u64 (wn x6)) := d6
      replace d7 : (W2.drewN n3).cell? ⟨p13, 7, none⟩ = some (.int .u64 (wn x7)) := d7
      generalize W2.drewN n3 = W3 at HO3 Q3 c4 c7 d0 d1 d2 d3 d4 d5 d6 d7 ⊢
      clear HO2 Q2
      go_wp2_with (refine wpList_store_row rfl 66 (.tmp 13) (.tmp 205) rfl p13 (wa [t1w x4 x5 x6 x7 kk ww + t2w x0 x1 x2, x0, x1, x2, x3 + t1w x4 x5 x6 x7 kk ww, x4, x5, x6]) rfl rfl 66 (wa R) Q3.out size35 (by rw [HS.out]; rfl) (wa_one _) ?_)
      go_roundw
      case rel =>
        refine ⟨j + 1, by omega, by go_num, ?_, ?_⟩
        · rw [setRow_heap _ _ _ _ _ _ Q3.out, rs, HR.out, rnd, HK.out.1, HK.out.2, HX.out.1, HX.out.2.1, HX.out.2.2.1, HX.out.2.2.2.1, HX.out.2.2.2.2.1, HX.out.2.2.2.2.2.1, HX.out.2.2.2.2.2.2.1, HX.out.2.2.2.2.2.2.2]
        · exact HO3.setRow _
      case measure => simp [intOf]; omega
    · have hj8 : j = 80 := by omega
      rw [hj8] at q13
      go_wp2
      exact hexit _ _ _ _ _ _ _ _ _ _ _ _ _ _ _ _ _ _ _ _ _ _ _ _ _ _ _ _ _ _ _ _ _ _ _ _ _ _ _ _ _ _ _ _ _ _ _ _ _ _ _ _ _ _ _ _ _ _ _ _ _ _ _ _ _ _ _ _ _ _ _ _ _ _ _ _ _ _ _ _ _ _ _ _ _ _ _ _ q13 ho
end Go.Proofs.YtobgimpkkjaolaaGreatDoor.Sh
/- The page's own SHA-512: what is added at a piece's end. -/
namespace Go.Proofs.YtobgimpkkjaolaaGreatDoor.Sh
open Go.RowKit
attribute [local go_sem] w_add
set_option maxRecDepth 100000 in
set_option maxHeartbeats 1000000 in
theorem ref_add (Q : Exit → Act → World → Prop) (p3 p13 : Nat) (s R : List (BitVec 64)) (hs : s.length = 8) (hR : R.length = 8) (hne : p13 ≠ p3) (w : World)
    (h3 : w.heap[p3]? = some (.cells (wa s) 66 (0, 0))) (h13 : w.heap[p13]? = some (.cells (wa R) 66 (0, 0))) (v0 v1 v2 v4 v5 v6 v7 v8 v9 v10 v11 v12 v14 v15 v16 v17 v18 v19 v20 v21 v22 v23 v24 v25 v26 v27 v28 v29 v30 v31 v32 v33 v34 v35 v36 v37 v38 v39 v40 v41 v42 v43 v44 v45 v46 v47 v48 v49 v50 v51 v52 v53 v54 v55 v56 v57 v58 v59 v60 v61 v62 v63 v64 v65 v66 v67 v68 v69 v70 v71 v72 v73 v74 v75 v76 v77 v78 v79 v80 v81 v82 v83 v84 v85 v86 v87 v88 v89 v90 v91 v92 v93 v94 v95 v96 v97 v98 v99 v100 v101 v102 v103 v104 v105 v106 v107 v108 v109 v110 v111 v112 v113 v114 v115 v116 v117 v118 v119 v120 v121 v122 v123 v124 v125 v126 v127 v128 v129 v130 v131 v132 v133 v134 v135 v136 v137 v138 v139 v140 v141 v142 v143 v144 v145 v146 v147 v148 v149 v150 v151 v152 v153 v154 v155 v156 v157 v158 v159 v160 v161 v162 v163 v164 v165 v166 v167 v168 v169 v170 v171 v172 v173 v174 v175 v176 v177 v178 v179 v180 v181 v182 v183 v184 v185 v186 v187 v188 v189 v190 v191 v192 v193 v194 v195 v196 v197 v198 v199 v200 v201 v202 v203 v204 v205 v206 v208 v209 v210 v211 v212 v213 v214 v215 v216 v217 v218 v219 v220 v221 v222 v223 v224 v225 v226 v227 v228 v229 v230 v231 v232 v233 v234 v235 v236 v237 : Value)
    (hexit : ∀ (u19 u207 u208 u209 u210 u211 u212 u213 u214 u215 u216 u217 u218 : Value) (w' : World), w'.heap[p3]? = some (.cells (wa (addTo s R 8)) 66 (0, 0)) → Only p3 w w' → Q (.exit 14) ⟨List.toArray (v0 :: v1 :: v2 :: .pointer (some ⟨p3, 0, none⟩) :: v4 :: v5 :: v6 :: v7 :: v8 :: v9 :: v10 :: v11 :: v12 :: .pointer (some ⟨p13, 0, none⟩) :: v14 :: v15 :: v16 :: v17 :: v18 :: u19 :: v20 :: v21 :: v22 :: v23 :: v24 :: v25 :: v26 :: v27 :: v28 :: v29 :: v30 :: v31 :: v32 :: v33 :: v34 :: v35 :: v36 :: v37 :: v38 :: v39 :: v40 :: v41 :: v42 :: v43 :: v44 :: v45 :: v46 :: v47 :: v48 :: v49 :: v50 :: v51 :: v52 :: v53 :: v54 :: v55 :: v56 :: v57 :: v58 :: v59 :: v60 :: v61 :: v62 :: v63 :: v64 :: v65 :: v66 :: v67 :: v68 :: v69 :: v70 :: v71 :: v72 :: v73 :: v74 :: v75 :: v76 :: v77 :: v78 :: v79 :: v80 :: v81 :: v82 :: v83 :: v84 :: v85 :: v86 :: v87 :: v88 :: v89 :: v90 :: v91 :: v92 :: v93 :: v94 :: v95 :: v96 :: v97 :: v98 :: v99 :: v100 :: v101 :: v102 :: v103 :: v104 :: v105 :: v106 :: v107 :: v108 :: v109 :: v110 :: v111 :: v112 :: v113 :: v114 :: v115 :: v116 :: v117 :: v118 :: v119 :: v120 :: v121 :: v122 :: v123 :: v124 :: v125 :: v126 :: v127 :: v128 :: v129 :: v130 :: v131 :: v132 :: v133 :: v134 :: v135 :: v136 :: v137 :: v138 :: v139 :: v140 :: v141 :: v142 :: v143 :: v144 :: v145 :: v146 :: v147 :: v148 :: v149 :: v150 :: v151 :: v152 :: v153 :: v154 :: v155 :: v156 :: v157 :: v158 :: v159 :: v160 :: v161 :: v162 :: v163 :: v164 :: v165 :: v166 :: v167 :: v168 :: v169 :: v170 :: v171 :: v172 :: v173 :: v174 :: v175 :: v176 :: v177 :: v178 :: v179 :: v180 :: v181 :: v182 :: v183 :: v184 :: v185 :: v186 :: v187 :: v188 :: v189 :: v190 :: v191 :: v192 :: v193 :: v194 :: v195 :: v196 :: v197 :: v198 :: v199 :: v200 :: v201 :: v202 :: v203 :: v204 :: v205 :: v206 :: u207 :: u208 :: u209 :: u210 :: u211 :: u212 :: u213 :: u214 :: u215 :: u216 :: u217 :: u218 :: v219 :: v220 :: v221 :: v222 :: v223 :: v224 :: v225 :: v226 :: v227 :: v228 :: v229 :: v230 :: v231 :: v232 :: v233 :: v234 :: v235 :: v236 :: v237 :: []), []⟩ w') :
    Code.wp Tryz.prog (nav [1, 1, 1, 1, 1, 1, 1, 0, 0, 0, 1, 0, 0, 1, 1, 1, 1, 1, 1, 0] (Tryz.f20.body.getD .skip)) Q ⟨List.toArray (v0 :: v1 :: v2 :: .pointer (some ⟨p3, 0, none⟩) :: v4 :: v5 :: v6 :: v7 :: v8 :: v9 :: v10 :: v11 :: v12 :: .pointer (some ⟨p13, 0, none⟩) :: v14 :: v15 :: v16 :: v17 :: v18 :: v19 :: v20 :: v21 :: v22 :: v23 :: v24 :: v25 :: v26 :: v27 :: v28 :: v29 :: v30 :: v31 :: v32 :: v33 :: v34 :: v35 :: v36 :: v37 :: v38 :: v39 :: v40 :: v41 :: v42 :: v43 :: v44 :: v45 :: v46 :: v47 :: v48 :: v49 :: v50 :: v51 :: v52 :: v53 :: v54 :: v55 :: v56 :: v57 :: v58 :: v59 :: v60 :: v61 :: v62 :: v63 :: v64 :: v65 :: v66 :: v67 :: v68 :: v69 :: v70 :: v71 :: v72 :: v73 :: v74 :: v75 :: v76 :: v77 :: v78 :: v79 :: v80 :: v81 :: v82 :: v83 :: v84 :: v85 :: v86 :: v87 :: v88 :: v89 :: v90 :: v91 :: v92 :: v93 :: v94 :: v95 :: v96 :: v97 :: v98 :: v99 :: v100 :: v101 :: v102 :: v103 :: v104 :: v105 :: v106 :: v107 :: v108 :: v109 :: v110 :: v111 :: v112 :: v113 :: v114 :: v115 :: v116 :: v117 :: v118 :: v119 :: v120 :: v121 :: v122 :: v123 :: v124 :: v125 :: v126 :: v127 :: v128 :: v129 :: v130 :: v131 :: v132 :: v133 :: v134 :: v135 :: v136 :: v137 :: v138 :: v139 :: v140 :: v141 :: v142 :: v143 :: v144 :: v145 :: v146 :: v147 :: v148 :: v149 :: v150 :: v151 :: v152 :: v153 :: v154 :: v155 :: v156 :: v157 :: v158 :: v159 :: v160 :: v161 :: v162 :: v163 :: v164 :: v165 :: v166 :: v167 :: v168 :: v169 :: v170 :: v171 :: v172 :: v173 :: v174 :: v175 :: v176 :: v177 :: v178 :: v179 :: v180 :: v181 :: v182 :: v183 :: v184 :: v185 :: v186 :: v187 :: v188 :: v189 :: v190 :: v191 :: v192 :: v193 :: v194 :: v195 :: v196 :: v197 :: v198 :: v199 :: v200 :: v201 :: v202 :: v203 :: v204 :: v205 :: v206 :: .int .i64 0 :: v208 :: v209 :: v210 :: v211 :: v212 :: v213 :: v214 :: v215 :: v216 :: v217 :: v218 :: v219 :: v220 :: v221 :: v222 :: v223 :: v224 :: v225 :: v226 :: v227 :: v228 :: v229 :: v230 :: v231 :: v232 :: v233 :: v234 :: v235 :: v236 :: v237 :: []), []⟩ w := by
  conv => arg 2; whnf
  go_loopw [207] (fun i wr => ∃ j : Nat, j ≤ 8 ∧ i = .int .i64 j ∧ wr.heap[p3]? = some (.cells (wa (addTo s R j)) 66 (0, 0)) ∧ Only p3 w wr) (fun i _ => 8 - (intOf i).toNat)
  case atStart => exact ⟨0, by omega, rfl, h3, Only.refl _ _⟩
  case round =>
    obtain ⟨j, hj, rfl, q3, ho⟩ := hrel
    have hls : (addTo s R j).length = 8 := by rw [addTo_len, hs]
    have q13 := ho.row hne h13
    by_cases hlt : j < 8
    · have c3 := row_cell q3 (j := j) (by omega)
      have c13 := row_cell q13 (j := j) (by omega)
      have hfro : wr.frozen? ⟨p3, j, none⟩ = false := frozen_of_row _ _ _ _ _ q3
      have Q3 := hide q3
      clear q3 q13 hls h3 h13 hexit
      generalize hy : (addTo s R j).getD j 0 = y at c3
      generalize hx : R.getD j 0 = x at c13
      have HY := hide (And.intro hy hx)
      clear hy hx
      have b0 : (j : Int) < 8 := by omega
      go_wp2
      go_region
      go_wp2
      go_roundw
      case rel =>
        refine ⟨j + 1, by omega, by go_num, ?_, ?_⟩
        · rw [heap_drew, heap_setCell_same _ _ _ _ _ _ Q3.out, wa_set, addTo, HY.out.1, HY.out.2]
        · exact (ho.setCell _ _).drew
      case measure => simp [intOf]; omega
    · have hj8 : j = 8 := by omega
      rw [hj8] at q3
      go_wp2
      exact hexit _ _ _ _ _ _ _ _ _ _ _ _ _ _ q3 ho
end Go.Proofs.YtobgimpkkjaolaaGreatDoor.Sh
/- The page's own SHA-512: a word's eight bytes go out. -/
namespace Go.Proofs.YtobgimpkkjaolaaGreatDoor.Sh
open Go.RowKit
attribute [local go_sem] lb_wrap lb_mod
set_option maxRecDepth 100000 in
set_option maxHeartbeats 1000000 in
theorem ref_out (Q : Exit → Act → World → Prop) (base n : Nat) (os : List UInt8) (x : BitVec 64) (sv : Value) (w : World) (hn : n ≤ 1000000000000) (hbase : base ≤ w.heap.size) (hown : w.ownsRow base 5 1 sv n (os.map bc)) (v0 v1 v2 v3 v4 v5 v6 v7 v8 v9 v10 v11 v12 v13 v14 v15 v16 v17 v18 v19 v21 v24 v25 v26 v27 v28 v29 v30 v31 v32 v33 v34 v35 v36 v37 v38 v39 v40 v41 v42 v43 v44 v45 v46 v47 v48 v49 v50 v51 v52 v53 v54 v55 v56 v57 v58 v59 v60 v61 v62 v63 v64 v65 v66 v67 v68 v69 v70 v71 v72 v73 v74 v75 v76 v77 v78 v79 v80 v81 v82 v83 v84 v85 v86 v87 v88 v89 v90 v91 v92 v93 v94 v95 v96 v97 v98 v99 v100 v101 v102 v103 v104 v105 v106 v107 v108 v109 v110 v111 v112 v113 v114 v115 v116 v117 v118 v119 v120 v121 v122 v123 v124 v125 v126 v127 v128 v129 v130 v131 v132 v133 v134 v135 v136 v137 v138 v139 v140 v141 v142 v143 v144 v145 v146 v147 v148 v149 v150 v151 v152 v153 v154 v155 v156 v157 v158 v159 v160 v161 v162 v163 v164 v165 v166 v167 v168 v169 v170 v171 v172 v173 v174 v175 v176 v177 v178 v179 v180 v181 v182 v183 v184 v185 v186 v187 v188 v189 v190 v191 v192 v193 v194 v195 v196 v197 v198 v199 v200 v201 v202 v203 v204 v205 v206 v207 v208 v209 v210 v211 v212 v213 v214 v215 v216 v217 v218 v219 v220 v221 v222 v223 v224 v225 v226 v227 v228 v229 v230 v231 v232 v233 v234 v235 v236 v237 : Value)
    (hexit : ∀ (u23 u223 u224 u225 u226 u227 u228 u229 u230 u231 u232 u233 u234 u235 : Value) (sv' : Value) (w' : World), w'.ownsRow base 5 1 sv' (n + 8) ((os ++ be8 x 8).map bc) → base ≤ w'.heap.size → Below base w w' → Q (.exit 18) ⟨List.toArray (v0 :: v1 :: v2 :: v3 :: v4 :: v5 :: v6 :: v7 :: v8 :: v9 :: v10 :: v11 :: v12 :: v13 :: v14 :: v15 :: v16 :: v17 :: v18 :: v19 :: sv' :: v21 :: .int .u64 (wn x) :: u23 :: v24 :: v25 :: v26 :: v27 :: v28 :: v29 :: v30 :: v31 :: v32 :: v33 :: v34 :: v35 :: v36 :: v37 :: v38 :: v39 :: v40 :: v41 :: v42 :: v43 :: v44 :: v45 :: v46 :: v47 :: v48 :: v49 :: v50 :: v51 :: v52 :: v53 :: v54 :: v55 :: v56 :: v57 :: v58 :: v59 :: v60 :: v61 :: v62 :: v63 :: v64 :: v65 :: v66 :: v67 :: v68 :: v69 :: v70 :: v71 :: v72 :: v73 :: v74 :: v75 :: v76 :: v77 :: v78 :: v79 :: v80 :: v81 :: v82 :: v83 :: v84 :: v85 :: v86 :: v87 :: v88 :: v89 :: v90 :: v91 :: v92 :: v93 :: v94 :: v95 :: v96 :: v97 :: v98 :: v99 :: v100 :: v101 :: v102 :: v103 :: v104 :: v105 :: v106 :: v107 :: v108 :: v109 :: v110 :: v111 :: v112 :: v113 :: v114 :: v115 :: v116 :: v117 :: v118 :: v119 :: v120 :: v121 :: v122 :: v123 :: v124 :: v125 :: v126 :: v127 :: v128 :: v129 :: v130 :: v131 :: v132 :: v133 :: v134 :: v135 :: v136 :: v137 :: v138 :: v139 :: v140 :: v141 :: v142 :: v143 :: v144 :: v145 :: v146 :: v147 :: v148 :: v149 :: v150 :: v151 :: v152 :: v153 :: v154 :: v155 :: v156 :: v157 :: v158 :: v159 :: v160 :: v161 :: v162 :: v163 :: v164 :: v165 :: v166 :: v167 :: v168 :: v169 :: v170 :: v171 :: v172 :: v173 :: v174 :: v175 :: v176 :: v177 :: v178 :: v179 :: v180 :: v181 :: v182 :: v183 :: v184 :: v185 :: v186 :: v187 :: v188 :: v189 :: v190 :: v191 :: v192 :: v193 :: v194 :: v195 :: v196 :: v197 :: v198 :: v199 :: v200 :: v201 :: v202 :: v203 :: v204 :: v205 :: v206 :: v207 :: v208 :: v209 :: v210 :: v211 :: v212 :: v213 :: v214 :: v215 :: v216 :: v217 :: v218 :: v219 :: v220 :: v221 :: v222 :: u223 :: u224 :: u225 :: u226 :: u227 :: u228 :: u229 :: u230 :: u231 :: u232 :: u233 :: u234 :: u235 :: v236 :: v237 :: []), []⟩ w') :
    Code.wp Tryz.prog (nav [1, 1, 1, 1, 1, 1, 1, 1, 1, 0, 1, 0, 0, 1, 1, 0, 0, 1, 1, 0] (Tryz.f20.body.getD .skip)) Q ⟨List.toArray (v0 :: v1 :: v2 :: v3 :: v4 :: v5 :: v6 :: v7 :: v8 :: v9 :: v10 :: v11 :: v12 :: v13 :: v14 :: v15 :: v16 :: v17 :: v18 :: v19 :: sv :: v21 :: .int .u64 (wn x) :: .int .i64 7 :: v24 :: v25 :: v26 :: v27 :: v28 :: v29 :: v30 :: v31 :: v32 :: v33 :: v34 :: v35 :: v36 :: v37 :: v38 :: v39 :: v40 :: v41 :: v42 :: v43 :: v44 :: v45 :: v46 :: v47 :: v48 :: v49 :: v50 :: v51 :: v52 :: v53 :: v54 :: v55 :: v56 :: v57 :: v58 :: v59 :: v60 :: v61 :: v62 :: v63 :: v64 :: v65 :: v66 :: v67 :: v68 :: v69 :: v70 :: v71 :: v72 :: v73 :: v74 :: v75 :: v76 :: v77 :: v78 :: v79 :: v80 :: v81 :: v82 :: v83 :: v84 :: v85 :: v86 :: v87 :: v88 :: v89 :: v90 :: v91 :: v92 :: v93 :: v94 :: v95 :: v96 :: v97 :: v98 :: v99 :: v100 :: v101 :: v102 :: v103 :: v104 :: v105 :: v106 :: v107 :: v108 :: v109 :: v110 :: v111 :: v112 :: v113 :: v114 :: v115 :: v116 :: v117 :: v118 :: v119 :: v120 :: v121 :: v122 :: v123 :: v124 :: v125 :: v126 :: v127 :: v128 :: v129 :: v130 :: v131 :: v132 :: v133 :: v134 :: v135 :: v136 :: v137 :: v138 :: v139 :: v140 :: v141 :: v142 :: v143 :: v144 :: v145 :: v146 :: v147 :: v148 :: v149 :: v150 :: v151 :: v152 :: v153 :: v154 :: v155 :: v156 :: v157 :: v158 :: v159 :: v160 :: v161 :: v162 :: v163 :: v164 :: v165 :: v166 :: v167 :: v168 :: v169 :: v170 :: v171 :: v172 :: v173 :: v174 :: v175 :: v176 :: v177 :: v178 :: v179 :: v180 :: v181 :: v182 :: v183 :: v184 :: v185 :: v186 :: v187 :: v188 :: v189 :: v190 :: v191 :: v192 :: v193 :: v194 :: v195 :: v196 :: v197 :: v198 :: v199 :: v200 :: v201 :: v202 :: v203 :: v204 :: v205 :: v206 :: v207 :: v208 :: v209 :: v210 :: v211 :: v212 :: v213 :: v214 :: v215 :: v216 :: v217 :: v218 :: v219 :: v220 :: v221 :: v222 :: v223 :: v224 :: v225 :: v226 :: v227 :: v228 :: v229 :: v230 :: v231 :: v232 :: v233 :: v234 :: v235 :: v236 :: v237 :: []), []⟩ w := by
  conv => arg 2; whnf
  obtain ⟨i0, hi, hz0, hz1, hz2⟩ := info_parts info5
  go_loopw [20, 23] (fun sv iv wr => ∃ k : Nat, k ≤ 8 ∧ iv = .int .i64 (7 - (k : Int)) ∧ wr.ownsRow base 5 1 sv (n + k) ((os ++ be8 x k).map bc) ∧ base ≤ wr.heap.size ∧ Below base w wr) (fun _ i _ => (intOf i + 1).toNat)
  case atStart => exact ⟨0, by omega, rfl, by simpa [be8] using hown, hbase, Below.refl _ _⟩
  case round =>
    clear hown
    obtain ⟨k, hk, rfl, hown, hbs, hb⟩ := hrel
    by_cases hlt : k < 8
    · obtain ⟨m, hm⟩ : ∃ m : Nat, (7 : Int) - (k : Int) = (m : Int) := ⟨7 - k, by omega⟩
      rw [hm]
      obtain ⟨d, hd⟩ : ∃ d : Nat, d = 8 * m := ⟨_, rfl⟩
      have e8 : IntKind.i64.wrap (8 * (m : Int)) = (d : Int) := by rw [i64_wrap _ (by omega)]; omega
      have e1 : IntKind.i64.wrap ((m : Int) - 1) = 6 - (k : Int) := by rw [i64_wrap _ (by omega)]; omega
      have hx : wn x / 2 ^ d = wn (x >>> (56 - 8 * k)) := by rw [show d = 56 - 8 * k by omega, w_shr]
      have hm56 : d ≤ 56 := by omega
      have HM := hide hm
      clear hm hd hexit
      go_wp2_with (at_builtin; go_must (refine wpList_append_own _ rfl (.tmp 227) (.tmp 234) 22 rfl base 5 i0 (.int .u8 0) 1 1 und22 hi hz0 hz1 hz2 rfl (by decide) u20 (n + k) ((os ++ be8 x k).map bc) rfl (hown.alloc _) ⟨wr.heap.size, 0, none⟩ 1 1 [.int .u8 (bn (lb (x >>> (56 - 8 * k))))] rfl rfl (cell_one_new _ _ _) ?_ ?_ ?_ ?_ ?_))
      · intro u hu; simp at hu; subst hu; rfl
      · unfold maxLen; omega
      · omega
      · simp; omega
      intro v' w1 hown' hgrow _
      have R1 : w1.ownsRow base 5 1 v' (n + (k + 1)) ((os ++ be8 x (k + 1)).map bc) := by
        have e : (os ++ be8 x (k + 1)).map bc = List.map bc os ++ (List.map bc (be8 x k) ++ [.int .u8 (bn (lb (x >>> (56 - 8 * k))))]) := by simp [be8, bc]
        rw [e]; exact hown'
      have hb1 : Below base w w1 := (hb.alloc hbs _).grown hgrow (by simp; omega) (fun q hq => (hown.lt q hq).1)
      have hs1 : base ≤ w1.heap.size := by have := hgrow.size; simp at this; omega
      clear hown' hgrow hown
      go_wp2
      go_roundw
      case rel => exact ⟨k + 1, by omega, by have := HM.out; go_num, R1, hs1, hb1⟩
      case measure => have := HM.out; simp [intOf]; omega
    · obtain rfl : k = 8 := by omega
      go_wp2
      exact hexit _ _ _ _ _ _ _ _ _ _ _ _ _ _ _ _ hown hbs hb
end Go.Proofs.YtobgimpkkjaolaaGreatDoor.Sh
/- The page's own SHA-512: all eight words go out. -/
namespace Go.Proofs.YtobgimpkkjaolaaGreatDoor.Sh
open Go.RowKit
theorem own_none (w : World) (base : Nat) : w.ownsRow base 5 1 (.slice none 0 0) 0 [] := ⟨rfl, .inl ⟨rfl, rfl⟩⟩
set_option maxRecDepth 100000 in
set_option maxHeartbeats 1000000 in
theorem ref_sum (Q : Exit → Act → World → Prop) (base : Nat) (s : List (BitVec 64)) (hs : s.length = 8) (w : World) (hbase : base ≤ w.heap.size) (v0 v1 v2 v3 v4 v5 v6 v7 v8 v9 v10 v11 v12 v13 v14 v15 v16 v17 v18 v19 v21 v22 v23 v24 v25 v26 v27 v28 v29 v30 v31 v32 v33 v34 v35 v36 v37 v38 v39 v40 v41 v42 v43 v44 v45 v46 v47 v48 v49 v50 v51 v52 v53 v54 v55 v56 v57 v58 v59 v60 v61 v62 v63 v64 v65 v66 v67 v68 v69 v70 v71 v72 v73 v74 v75 v76 v77 v78 v79 v80 v81 v82 v83 v84 v85 v86 v87 v88 v89 v90 v91 v92 v93 v94 v95 v96 v97 v98 v99 v100 v101 v102 v103 v104 v105 v106 v107 v108 v109 v110 v111 v112 v113 v114 v115 v116 v117 v118 v119 v120 v121 v122 v123 v124 v125 v126 v127 v128 v129 v130 v131 v132 v133 v134 v135 v136 v137 v138 v139 v140 v141 v142 v143 v144 v145 v146 v147 v148 v149 v150 v151 v152 v153 v154 v155 v156 v157 v158 v159 v160 v161 v162 v163 v164 v165 v166 v167 v168 v169 v170 v171 v172 v173 v174 v175 v176 v177 v178 v179 v180 v181 v182 v183 v184 v185 v186 v187 v188 v189 v190 v191 v192 v193 v194 v195 v196 v197 v198 v199 v200 v201 v202 v203 v204 v205 v206 v207 v208 v209 v210 v211 v212 v213 v214 v215 v216 v217 v218 v221 v222 v223 v224 v225 v226 v227 v228 v229 v230 v231 v232 v233 v234 v235 v236 v237 : Value)
    (hexit : ∀ (u22 u23 u220 u221 u222 u223 u224 u225 u226 u227 u228 u229 u230 u231 u232 u233 u234 u235 u236 : Value) (sv' : Value) (w' : World), w'.ownsRow base 5 1 sv' 64 ((words s 8).map bc) → base ≤ w'.heap.size → Below base w w' → Q (.exit 16) ⟨List.toArray (v0 :: v1 :: v2 :: v3 :: v4 :: v5 :: v6 :: v7 :: v8 :: v9 :: v10 :: v11 :: v12 :: v13 :: v14 :: v15 :: v16 :: v17 :: v18 :: v19 :: sv' :: v21 :: u22 :: u23 :: v24 :: v25 :: v26 :: v27 :: v28 :: v29 :: v30 :: v31 :: v32 :: v33 :: v34 :: v35 :: v36 :: v37 :: v38 :: v39 :: v40 :: v41 :: v42 :: v43 :: v44 :: v45 :: v46 :: v47 :: v48 :: v49 :: v50 :: v51 :: v52 :: v53 :: v54 :: v55 :: v56 :: v57 :: v58 :: v59 :: v60 :: v61 :: v62 :: v63 :: v64 :: v65 :: v66 :: v67 :: v68 :: v69 :: v70 :: v71 :: v72 :: v73 :: v74 :: v75 :: v76 :: v77 :: v78 :: v79 :: v80 :: v81 :: v82 :: v83 :: v84 :: v85 :: v86 :: v87 :: v88 :: v89 :: v90 :: v91 :: v92 :: v93 :: v94 :: v95 :: v96 :: v97 :: v98 :: v99 :: v100 :: v101 :: v102 :: v103 :: v104 :: v105 :: v106 :: v107 :: v108 :: v109 :: v110 :: v111 :: v112 :: v113 :: v114 :: v115 :: v116 :: v117 :: v118 :: v119 :: v120 :: v121 :: v122 :: v123 :: v124 :: v125 :: v126 :: v127 :: v128 :: v129 :: v130 :: v131 :: v132 :: v133 :: v134 :: v135 :: v136 :: v137 :: v138 :: v139 :: v140 :: v141 :: v142 :: v143 :: v144 :: v145 :: v146 :: v147 :: v148 :: v149 :: v150 :: v151 :: v152 :: v153 :: v154 :: v155 :: v156 :: v157 :: v158 :: v159 :: v160 :: v161 :: v162 :: v163 :: v164 :: v165 :: v166 :: v167 :: v168 :: v169 :: v170 :: v171 :: v172 :: v173 :: v174 :: v175 :: v176 :: v177 :: v178 :: v179 :: v180 :: v181 :: v182 :: v183 :: v184 :: v185 :: v186 :: v187 :: v188 :: v189 :: v190 :: v191 :: v192 :: v193 :: v194 :: v195 :: v196 :: v197 :: v198 :: v199 :: v200 :: v201 :: v202 :: v203 :: v204 :: v205 :: v206 :: v207 :: v208 :: v209 :: v210 :: v211 :: v212 :: v213 :: v214 :: v215 :: v216 :: v217 :: v218 :: .agg (wa s) :: u220 :: u221 :: u222 :: u223 :: u224 :: u225 :: u226 :: u227 :: u228 :: u229 :: u230 :: u231 :: u232 :: u233 :: u234 :: u235 :: u236 :: v237 :: []), []⟩ w') :
    Code.wp Tryz.prog (nav [1, 1, 1, 1, 1, 1, 1, 1, 1, 0, 1, 0] (Tryz.f20.body.getD .skip)) Q ⟨List.toArray (v0 :: v1 :: v2 :: v3 :: v4 :: v5 :: v6 :: v7 :: v8 :: v9 :: v10 :: v11 :: v12 :: v13 :: v14 :: v15 :: v16 :: v17 :: v18 :: v19 :: .slice none 0 0 :: v21 :: v22 :: v23 :: v24 :: v25 :: v26 :: v27 :: v28 :: v29 :: v30 :: v31 :: v32 :: v33 :: v34 :: v35 :: v36 :: v37 :: v38 :: v39 :: v40 :: v41 :: v42 :: v43 :: v44 :: v45 :: v46 :: v47 :: v48 :: v49 :: v50 :: v51 :: v52 :: v53 :: v54 :: v55 :: v56 :: v57 :: v58 :: v59 :: v60 :: v61 :: v62 :: v63 :: v64 :: v65 :: v66 :: v67 :: v68 :: v69 :: v70 :: v71 :: v72 :: v73 :: v74 :: v75 :: v76 :: v77 :: v78 :: v79 :: v80 :: v81 :: v82 :: v83 :: v84 :: v85 :: v86 :: v87 :: v88 :: v89 :: v90 :: v91 :: v92 :: v93 :: v94 :: v95 :: v96 :: v97 :: v98 :: v99 :: v100 :: v101 :: v102 :: v103 :: v104 :: v105 :: v106 :: v107 :: v108 :: v109 :: v110 :: v111 :: v112 :: v113 :: v114 :: v115 :: v116 :: v117 :: v118 :: v119 :: v120 :: v121 :: v122 :: v123 :: v124 :: v125 :: v126 :: v127 :: v128 :: v129 :: v130 :: v131 :: v132 :: v133 :: v134 :: v135 :: v136 :: v137 :: v138 :: v139 :: v140 :: v141 :: v142 :: v143 :: v144 :: v145 :: v146 :: v147 :: v148 :: v149 :: v150 :: v151 :: v152 :: v153 :: v154 :: v155 :: v156 :: v157 :: v158 :: v159 :: v160 :: v161 :: v162 :: v163 :: v164 :: v165 :: v166 :: v167 :: v168 :: v169 :: v170 :: v171 :: v172 :: v173 :: v174 :: v175 :: v176 :: v177 :: v178 :: v179 :: v180 :: v181 :: v182 :: v183 :: v184 :: v185 :: v186 :: v187 :: v188 :: v189 :: v190 :: v191 :: v192 :: v193 :: v194 :: v195 :: v196 :: v197 :: v198 :: v199 :: v200 :: v201 :: v202 :: v203 :: v204 :: v205 :: v206 :: v207 :: v208 :: v209 :: v210 :: v211 :: v212 :: v213 :: v214 :: v215 :: v216 :: v217 :: v218 :: .agg (wa s) :: .int .i64 0 :: v221 :: v222 :: v223 :: v224 :: v225 :: v226 :: v227 :: v228 :: v229 :: v230 :: v231 :: v232 :: v233 :: v234 :: v235 :: v236 :: v237 :: []), []⟩ w := by
  conv => arg 2; whnf
  go_loopw [20, 220] (fun sv iv wr => ∃ k : Nat, k ≤ 8 ∧ iv = .int .i64 k ∧ wr.ownsRow base 5 1 sv (8 * k) ((words s k).map bc) ∧ base ≤ wr.heap.size ∧ Below base w wr) (fun _ i _ => 8 - (intOf i).toNat)
  case atStart => exact ⟨0, by omega, rfl, own_none _ _, hbase, Below.refl _ _⟩
  case round =>
    obtain ⟨k, hk, rfl, hown, hbs, hb⟩ := hrel
    by_cases hlt : k < 8
    · have hidx := run_index_arr und35 Tryz.underlying27 rfl size30 (wa s) k hlt _ (wa_get s k (by omega))
      clear hexit
      generalize hx : s.getD k 0 = x at hidx
      have HX := hide hx
      clear hx
      have b0 : (k : Int) < 8 := by omega
      go_wp2
      refine ref_out _ base (8 * k) _ x _ _ (by omega) hbs hown _ _ _ _ _ _ _ _ _ _ _ _ _ _ _ _ _ _ _ _ _ _ _ _ _ _ _ _ _ _ _ _ _ _ _ _ _ _ _ _ _ _ _ _ _ _ _ _ _ _ _ _ _ _ _ _ _ _ _ _ _ _ _ _ _ _ _ _ _ _ _ _ _ _ _ _ _ _ _ _ _ _ _ _ _ _ _ _ _ _ _ _ _ _ _ _ _ _ _ _ _ _ _ _ _ _ _ _ _ _ _ _ _ _ _ _ _ _ _ _ _ _ _ _ _ _ _ _ _ _ _ _ _ _ _ _ _ _ _ _ _ _ _ _ _ _ _ _ _ _ _ _ _ _ _ _ _ _ _ _ _ _ _ _ _ _ _ _ _ _ _ _ _ _ _ _ _ _ _ _ _ _ _ _ _ _ _ _ _ _ _ _ _ _ _ _ _ _ _ _ _ _ _ _ _ _ _ _ _ _ _ _ _ _ _ _ _ _ _ _ _ _ _ _ _ _ _ _ _ _ _ _ _ _ _ ?_
      intro r23 r223 r224 r225 r226 r227 r228 r229 r230 r231 r232 r233 r234 r235 sv' w' hown' hbs' hb'
      have HB := hb.trans hb'
      have HOW : w'.ownsRow base 5 1 sv' (8 * (k + 1)) ((words s (k + 1)).map bc) := by
        rw [words, HX.out]; exact hown'
      clear hown' hown hb hb' hidx
      go_wp2
      go_roundw
      case rel => exact ⟨k + 1, by omega, by go_num, HOW, hbs', HB⟩
      case measure => simp [intOf]; omega
    · have hj8 : k = 8 := by omega
      rw [hj8] at hown
      go_wp2
      exact hexit _ _ _ _ _ _ _ _ _ _ _ _ _ _ _ _ _ _ _ _ _ hown hbs hb
end Go.Proofs.YtobgimpkkjaolaaGreatDoor.Sh
/- Eight zeros behind bytes of the call's own ('append(b, make(8))' as one operation). -/
namespace Go.Proofs.YtobgimpkkjaolaaGreatDoor.Sh
open Go.RowKit
def zs8 : ByteArray := ⟨#[0, 0, 0, 0, 0, 0, 0, 0]⟩
theorem zs8_size : zs8.size = 8 := rfl
def zc8 : List Value := List.replicate 8 (.int .u8 0)
theorem zc8_zero : Builtin.zeroCells (Value.int .u8 0).cells 8 = zc8.toArray := by kernel_rfl
theorem zc8_first (w : World) : (Builtin.firstCells 1 8 (.string zs8)).run Tryz.prog w = .ok zc8.toArray w := by
  have h := Lib.run_firstCells_string (P := Tryz.prog) w 1 zs8
  rw [show Lib.strCells zs8 = zc8 from rfl] at h
  exact h
theorem run_zeros (ty : TypeId) (b : Option Addr) (n cap : Nat) (w : World) (hn : n ≤ 1000000000000) :
    (Builtin.append_ #[22, 3] ty #[.slice b n cap, .int .i64 8]).run Tryz.prog w = (Builtin.append_ #[22, 9] ty #[.slice b n cap, .string zs8]).run Tryz.prog w := by
  obtain ⟨i0, hi, hz0, hz1, hz2⟩ := info_parts info5
  have h8 : IntKind.i64.wrap 8 = 8 := by rfl
  by_cases hroom : n + 8 ≤ cap
  · simp [Builtin.append_, run_underlying und22, run_underlying Tryz.underlying3, run_underlying Tryz.underlying9, sizeOf, typeInfo, hi, hz0, hz1, hz2, zeroValue, Builtin.lenOf, zs8_size, hroom, zc8_zero, zc8_first, asInt, asIntOf, h8]
  · have h48 : ¬ (281474976710656 < Builtin.nextslicecap (n + 8) cap) := by
      have := nextslicecap_le (need := n + 8) (old := cap) (by omega)
      omega
    simp [Builtin.append_, run_underlying und22, run_underlying Tryz.underlying3, run_underlying Tryz.underlying9, sizeOf, typeInfo, hi, hz0, hz1, hz2, zeroValue, Builtin.lenOf, zs8_size, hroom, zc8_zero, zc8_first, asInt, asIntOf, h8, h48]
    intro hbad
    exact absurd hbad (by omega)
theorem wpList_append_zeros {ops : Array Oper} {rest : List Oper} {o : Oper} {a : Act} {w : World} {Q : Exit → Act → World → Prop} (hgd : o.guard = none) (s : Operand) (ho : o.op = .call { callee := .builtin .append, args := #[s, .const (.int .i64 8)], argTypes := #[22, 3] })
    (base : Nat) (v : Value) (n : Nat) (os : List UInt8) (hs : a.eval s = v) (hown : w.ownsRow base 5 1 v n (os.map bc)) (hn : n ≤ 1000000000000) (hbase : base ≤ w.heap.size)
    (h : ∀ v' w', w'.ownsRow base 5 1 v' (n + 8) ((os ++ List.replicate 8 0).map bc) → w.grownBy w' v.ownBlock → wpList Tryz.prog ops Q rest (a.put o.dst v') w') : wpList Tryz.prog ops Q (o :: rest) a w := by
  refine wpList_plain hgd fun K hK => ?_
  obtain ⟨i0, hi, hz0, hz1, hz2⟩ := info_parts info5
  obtain ⟨v', w', hr, h2, h3, h4⟩ := Lib.run_append_own_string (P := Tryz.prog) w base 22 9 o.type 5 i0 und22 Tryz.underlying9 hi hz0 hz1 hz2 v n (os.map bc) hown zs8 (by rw [zs8_size]; unfold maxLen; omega) (by rw [zs8_size]; omega) hbase
  have hv : ∃ b cap, v = .slice b n cap := by
    obtain ⟨_, ⟨rfl, rfl⟩ | ⟨g, c, cur, rfl, _⟩⟩ := hown
    · exact ⟨_, _, rfl⟩
    · exact ⟨_, _, rfl⟩
  have hrun : (Builtin.append_ #[22, 3] o.type #[v, .int .i64 8]).run Tryz.prog w = .ok v' w' := by
    obtain ⟨b, cap, rfl⟩ := hv
    rw [run_zeros _ _ _ _ _ hn]; exact hr
  have he : a.eval (.const (.int .i64 8)) = .int .i64 8 := rfl
  have hfin := hK _ _ (h v' w' (by rw [List.map_append]; exact h2) h3)
  unfold Oper.wp
  simp [execOp, ho, resolve, invoke, builtin, hs, he, hrun, Result.andThen]
  exact hfin
end Go.Proofs.YtobgimpkkjaolaaGreatDoor.Sh
/- The page's own SHA-512: piece by piece. -/
namespace Go.Proofs.YtobgimpkkjaolaaGreatDoor.Sh
open Go.RowKit
structure Keep (p : Nat) (w w' : World) : Prop where
  below : Below p w w'
  old : ∀ i, i ≠ p → i < w.heap.size → w'.heap[i]? = w.heap[i]?
theorem Keep.refl (p : Nat) (w : World) : Keep p w w := ⟨Below.refl _ _, fun _ _ _ => rfl⟩
theorem Keep.size {p : Nat} {w w' : World} (h : Keep p w w') : w.heap.size ≤ w'.heap.size := h.below.size
theorem Keep.row {p i : Nat} {a w : World} {o : Option Obj} (h : Keep p a w) (hi : i ≠ p) (hl : i < a.heap.size) (hr : a.heap[i]? = o) : w.heap[i]? = o := (h.old i hi hl).trans hr
theorem Keep.range {p i o : Nat} {a w : World} {l : List Value} (h : Keep p a w) (hi : i ≠ p) (hl : i < a.heap.size) (hr : a.rangeAt i o l) : w.rangeAt i o l := fun j v hv => by
  rw [← hr j v hv]; simp only [World.cell?]; rw [h.old i hi hl]
theorem Keep.alloc {p : Nat} {a w : World} (h : Keep p a w) (o : Obj) (hp : p ≤ w.heap.size := by omega) : Keep p a (w.alloc o) :=
  ⟨h.below.alloc hp _, fun i hi hl => (Below.heap_alloc _ _ _ (Nat.lt_of_lt_of_le hl h.size)).trans (h.old i hi hl)⟩
theorem Keep.only {p q : Nat} {a w w' : World} (h : Keep p a w) (ho : Only q w w') (hq : q = p ∨ a.heap.size ≤ q) (hp : p ≤ q := by omega) : Keep p a w' :=
  ⟨h.below.trans (ho.below p hp), fun i hi hl => (ho.other i (by rcases hq with rfl | hq; exact hi; omega)).trans (h.old i hi hl)⟩
set_option maxRecDepth 100000 in
set_option maxHeartbeats 2000000 in
theorem ref_pieces (Q : Exit → Act → World → Prop) (p3 p4 q c K : Nat) (P : List UInt8) (hP : P.length = 128 * K) (hK : K ≤ 1000000000000) (hc : 128 * K ≤ c) (h34 : p3 ≠ p4) (hq3 : q ≠ p3) (w : World)
    (h3 : w.heap[p3]? = some (.cells (wa h0w) 66 (0, 0))) (h4 : w.heap[p4]? = some (.cells (wa kw) 67 (0, 0))) (hq : w.rangeAt q 0 (P.map bc)) (hl3 : p3 < w.heap.size) (hl4 : p4 < w.heap.size) (hlq : q < w.heap.size) (v0 v1 v2 v6 v7 v8 v9 v10 v11 v12 v13 v14 v15 v16 v17 v18 v19 v20 v21 v22 v23 v24 v25 v26 v27 v28 v29 v30 v31 v32 v33 v34 v35 v36 v37 v38 v39 v40 v41 v42 v43 v44 v45 v46 v47 v48 v49 v50 v51 v52 v53 v54 v55 v56 v57 v58 v59 v60 v61 v62 v63 v64 v65 v66 v67 v68 v69 v70 v71 v72 v73 v74 v75 v76 v77 v78 v79 v80 v81 v82 v83 v84 v85 v86 v87 v88 v89 v90 v91 v92 v93 v94 v95 v96 v97 v98 v99 v100 v101 v102 v103 v104 v105 v106 v107 v108 v109 v110 v111 v112 v113 v114 v115 v116 v117 v118 v119 v120 v121 v122 v123 v124 v125 v126 v127 v128 v129 v130 v131 v132 v133 v134 v135 v136 v137 v138 v139 v140 v141 v142 v143 v144 v145 v146 v147 v148 v149 v150 v151 v152 v153 v154 v155 v156 v157 v158 v159 v160 v161 v162 v163 v164 v165 v166 v167 v168 v169 v170 v171 v172 v173 v174 v175 v176 v177 v178 v179 v180 v181 v182 v183 v184 v185 v186 v187 v188 v189 v190 v191 v192 v193 v194 v195 v196 v197 v198 v199 v200 v201 v202 v203 v204 v205 v206 v207 v208 v209 v210 v211 v212 v213 v214 v215 v216 v217 v218 v219 v220 v221 v222 v223 v224 v225 v226 v227 v228 v229 v230 v231 v232 v233 v234 v235 v236 v237 : Value)
    (hexit : ∀ (u5 u7 u8 u9 u10 u11 u12 u13 u14 u15 u16 u17 u18 u19 u55 u56 u57 u58 u59 u60 u61 u62 u63 u64 u65 u66 u67 u68 u69 u70 u71 u72 u73 u74 u75 u76 u77 u78 u79 u80 u81 u82 u83 u84 u85 u86 u87 u88 u89 u90 u91 u92 u93 u94 u95 u96 u97 u98 u99 u100 u101 u102 u103 u104 u105 u106 u107 u108 u109 u110 u111 u112 u113 u114 u115 u116 u117 u118 u119 u120 u121 u122 u123 u124 u125 u126 u127 u128 u129 u130 u131 u132 u133 u134 u135 u136 u137 u138 u139 u140 u141 u142 u143 u144 u145 u146 u147 u148 u149 u150 u151 u152 u153 u154 u155 u156 u157 u158 u159 u160 u161 u162 u163 u164 u165 u166 u167 u168 u169 u170 u171 u172 u173 u174 u175 u176 u177 u178 u179 u180 u181 u182 u183 u184 u185 u186 u187 u188 u189 u190 u191 u192 u193 u194 u195 u196 u197 u198 u199 u200 u201 u202 u203 u204 u205 u206 u207 u208 u209 u210 u211 u212 u213 u214 u215 u216 u217 u218 : Value) (w' : World), w'.heap[p3]? = some (.cells (wa (stAt P K)) 66 (0, 0)) → Keep p3 w w' → Q (.exit 4) ⟨List.toArray (v0 :: v1 :: v2 :: .pointer (some ⟨p3, 0, none⟩) :: .pointer (some ⟨p4, 0, none⟩) :: u5 :: v6 :: u7 :: u8 :: u9 :: u10 :: u11 :: u12 :: u13 :: u14 :: u15 :: u16 :: u17 :: u18 :: u19 :: v20 :: v21 :: v22 :: v23 :: v24 :: v25 :: v26 :: v27 :: v28 :: v29 :: v30 :: v31 :: v32 :: v33 :: v34 :: v35 :: v36 :: v37 :: v38 :: v39 :: v40 :: v41 :: v42 :: v43 :: v44 :: v45 :: v46 :: v47 :: v48 :: v49 :: v50 :: v51 :: v52 :: v53 :: v54 :: u55 :: u56 :: u57 :: u58 :: u59 :: u60 :: u61 :: u62 :: u63 :: u64 :: u65 :: u66 :: u67 :: u68 :: u69 :: u70 :: u71 :: u72 :: u73 :: u74 :: u75 :: u76 :: u77 :: u78 :: u79 :: u80 :: u81 :: u82 :: u83 :: u84 :: u85 :: u86 :: u87 :: u88 :: u89 :: u90 :: u91 :: u92 :: u93 :: u94 :: u95 :: u96 :: u97 :: u98 :: u99 :: u100 :: u101 :: u102 :: u103 :: u104 :: u105 :: u106 :: u107 :: u108 :: u109 :: u110 :: u111 :: u112 :: u113 :: u114 :: u115 :: u116 :: u117 :: u118 :: u119 :: u120 :: u121 :: u122 :: u123 :: u124 :: u125 :: u126 :: u127 :: u128 :: u129 :: u130 :: u131 :: u132 :: u133 :: u134 :: u135 :: u136 :: u137 :: u138 :: u139 :: u140 :: u141 :: u142 :: u143 :: u144 :: u145 :: u146 :: u147 :: u148 :: u149 :: u150 :: u151 :: u152 :: u153 :: u154 :: u155 :: u156 :: u157 :: u158 :: u159 :: u160 :: u161 :: u162 :: u163 :: u164 :: u165 :: u166 :: u167 :: u168 :: u169 :: u170 :: u171 :: u172 :: u173 :: u174 :: u175 :: u176 :: u177 :: u178 :: u179 :: u180 :: u181 :: u182 :: u183 :: u184 :: u185 :: u186 :: u187 :: u188 :: u189 :: u190 :: u191 :: u192 :: u193 :: u194 :: u195 :: u196 :: u197 :: u198 :: u199 :: u200 :: u201 :: u202 :: u203 :: u204 :: u205 :: u206 :: u207 :: u208 :: u209 :: u210 :: u211 :: u212 :: u213 :: u214 :: u215 :: u216 :: u217 :: u218 :: v219 :: v220 :: v221 :: v222 :: v223 :: v224 :: v225 :: v226 :: v227 :: v228 :: v229 :: v230 :: v231 :: v232 :: v233 :: v234 :: v235 :: v236 :: v237 :: []), []⟩ w') :
    Code.wp Tryz.prog (nav [1, 1, 1, 1, 1, 1, 1, 0, 0] (Tryz.f20.body.getD .skip)) Q ⟨List.toArray (v0 :: v1 :: v2 :: .pointer (some ⟨p3, 0, none⟩) :: .pointer (some ⟨p4, 0, none⟩) :: .slice (some ⟨q, 0, none⟩) (128 * K) c :: v6 :: v7 :: v8 :: v9 :: v10 :: v11 :: v12 :: v13 :: v14 :: v15 :: v16 :: v17 :: v18 :: v19 :: v20 :: v21 :: v22 :: v23 :: v24 :: v25 :: v26 :: v27 :: v28 :: v29 :: v30 :: v31 :: v32 :: v33 :: v34 :: v35 :: v36 :: v37 :: v38 :: v39 :: v40 :: v41 :: v42 :: v43 :: v44 :: v45 :: v46 :: v47 :: v48 :: v49 :: v50 :: v51 :: v52 :: v53 :: v54 :: v55 :: v56 :: v57 :: v58 :: v59 :: v60 :: v61 :: v62 :: v63 :: v64 :: v65 :: v66 :: v67 :: v68 :: v69 :: v70 :: v71 :: v72 :: v73 :: v74 :: v75 :: v76 :: v77 :: v78 :: v79 :: v80 :: v81 :: v82 :: v83 :: v84 :: v85 :: v86 :: v87 :: v88 :: v89 :: v90 :: v91 :: v92 :: v93 :: v94 :: v95 :: v96 :: v97 :: v98 :: v99 :: v100 :: v101 :: v102 :: v103 :: v104 :: v105 :: v106 :: v107 :: v108 :: v109 :: v110 :: v111 :: v112 :: v113 :: v114 :: v115 :: v116 :: v117 :: v118 :: v119 :: v120 :: v121 :: v122 :: v123 :: v124 :: v125 :: v126 :: v127 :: v128 :: v129 :: v130 :: v131 :: v132 :: v133 :: v134 :: v135 :: v136 :: v137 :: v138 :: v139 :: v140 :: v141 :: v142 :: v143 :: v144 :: v145 :: v146 :: v147 :: v148 :: v149 :: v150 :: v151 :: v152 :: v153 :: v154 :: v155 :: v156 :: v157 :: v158 :: v159 :: v160 :: v161 :: v162 :: v163 :: v164 :: v165 :: v166 :: v167 :: v168 :: v169 :: v170 :: v171 :: v172 :: v173 :: v174 :: v175 :: v176 :: v177 :: v178 :: v179 :: v180 :: v181 :: v182 :: v183 :: v184 :: v185 :: v186 :: v187 :: v188 :: v189 :: v190 :: v191 :: v192 :: v193 :: v194 :: v195 :: v196 :: v197 :: v198 :: v199 :: v200 :: v201 :: v202 :: v203 :: v204 :: v205 :: v206 :: v207 :: v208 :: v209 :: v210 :: v211 :: v212 :: v213 :: v214 :: v215 :: v216 :: v217 :: v218 :: v219 :: v220 :: v221 :: v222 :: v223 :: v224 :: v225 :: v226 :: v227 :: v228 :: v229 :: v230 :: v231 :: v232 :: v233 :: v234 :: v235 :: v236 :: v237 :: []), []⟩ w := by
  conv => arg 2; whnf
  go_loopw [5] (fun sv wr => ∃ k : Nat, k ≤ K ∧ (∃ pt, sv = .slice pt (128 * (K - k)) (c - 128 * k) ∧ (k < K → pt = some ⟨q, 128 * k, none⟩)) ∧ wr.heap[p3]? = some (.cells (wa (stAt P k)) 66 (0, 0)) ∧ Keep p3 w wr) (fun sv _ => slen sv)
  case atStart => exact ⟨0, by omega, ⟨_, rfl, fun _ => rfl⟩, h3, Keep.refl _ _⟩
  case round =>
    obtain ⟨k, hk, ⟨pt, rfl, hpt⟩, q3, hkeep⟩ := hrel
    have hs8 : (stAt P k).length = 8 := stAt_len P k
    by_cases hlt : k < K
    · obtain rfl := hpt hlt
      have q4 := hkeep.row (Ne.symm h34) hl4 h4
      have qq := hkeep.range hq3 hlq hq
      have hszw := hkeep.size
      obtain ⟨bs, hbs⟩ : ∃ bs, bs = (P.drop (128 * k)).take 128 := ⟨_, rfl⟩
      have hbl : bs.length = 128 := by rw [hbs]; simp; omega
      have qb : wr.rangeAt q (128 * k) (bs.map bc) := by
        intro j u hu
        rw [hbs, List.map_take, List.map_drop, List.getElem?_take] at hu
        split at hu
        · rw [List.getElem?_drop] at hu
          have := qq (128 * k + j) u hu
          rwa [Nat.zero_add] at this
        · cases hu
      have hst : stAt P (k + 1) = foldW (stAt P k) (spreadW bs) := by rw [stAt, ← hbs]
      have HBS := hide hst
      clear hbs hst hexit h3 h4 hq qq hpt
      generalize hS : stAt P k = s at q3 hs8 HBS
      have HS := hide hS
      clear hS
      obtain ⟨n', hn'⟩ : ∃ n' : Nat, n' = 128 * (K - k) := ⟨_, rfl⟩
      obtain ⟨c', hc'⟩ : ∃ c' : Nat, c' = c - 128 * k := ⟨_, rfl⟩
      obtain ⟨o', ho'⟩ : ∃ o' : Nat, o' = 128 * k := ⟨_, rfl⟩
      rw [← hn', ← hc', ← ho']
      rw [← ho'] at qb
      have hn128 : 128 ≤ n' := by omega
      have hnc : n' ≤ c' := by omega
      have hnm : n' < 4611686018427387904 := by omega
      have HN := hide (And.intro hn' (And.intro hc' ho'))
      clear hn' hc' ho'
      have hpos : (0 : Int) < (n' : Int) := by omega
      have hz36 := zero36
      go_wp2
      clear hz36
      obtain ⟨W1, hW1⟩ : ∃ W1, W1 = wr.alloc (.cells (wa z80) 67) := ⟨_, rfl⟩
      obtain ⟨p7, hp7⟩ : ∃ p7, p7 = wr.heap.size := ⟨_, rfl⟩
      have a7 : W1.heap[p7]? = some (.cells (wa z80) 67 (0, 0)) := by rw [hW1, hp7]; exact heap_alloc_last _ _
      have a3 : W1.heap[p3]? = some (.cells (wa s) 66 (0, 0)) := by rw [hW1, Below.heap_alloc _ _ _ (by omega)]; exact q3
      have a4 : W1.heap[p4]? = some (.cells (wa kw) 67 (0, 0)) := by rw [hW1, Below.heap_alloc _ _ _ (by omega)]; exact q4
      have aq : W1.rangeAt q o' (bs.map bc) := by
        intro j u hu
        rw [← qb j u hu, hW1]; simp only [World.cell?]; rw [Below.heap_alloc _ _ _ (by omega)]
      have asz : W1.heap.size = p7 + 1 := by rw [hW1, hp7]; simp
      have akeep : Keep p3 w W1 := by rw [hW1]; exact hkeep.alloc _
      have n7 : p3 < p7 ∧ p4 < p7 ∧ q < p7 ∧ w.heap.size ≤ p7 := by omega
      rw [← hW1, ← hp7]
      clear hW1 hp7 q3 q4 qb hkeep
      refine ref_words _ p7 q o' n' c' bs hbl (by omega) hn128 hnm _ a7 aq _ _ _ _ _ _ _ _ _ _ _ _ _ _ _ _ _ _ _ _ _ _ _ _ _ _ _ _ _ _ _ _ _ _ _ _ _ _ _ _ _ _ _ _ _ _ _ _ _ _ _ _ _ _ _ _ _ _ _ _ _ _ _ _ _ _ _ _ _ _ _ _ _ _ _ _ _ _ _ _ _ _ _ _ _ _ _ _ _ _ _ _ _ _ _ _ _ _ _ _ _ _ _ _ _ _ _ _ _ _ _ _ _ _ _ _ _ _ _ _ _ _ _ _ _ _ _ _ _ _ _ _ _ _ _ _ _ _ _ _ _ _ _ _ _ _ _ _ _ _ _ _ _ _ _ _ _ _ _ _ _ _ _ _ _ _ _ _ _ _ _ _ _ _ _ _ _ _ _ _ _ _ _ _ _ _ _ _ _ _ _ _ _ _ _ _ _ _ _ _ _ _ _ _ _ _ _ _ _ _ _ _ _ _ _ _ _ _ _ _ _ _ _ _ _ _ _ _ _ _ _ _ _ _ _ ?_
      intro r8 r9 r60 r61 r62 r63 r64 r65 r66 r67 r68 r69 r70 r71 r72 r73 r74 r75 r76 r77 r78 r79 r80 r81 r82 X2 b7 bo
      have b3 := bo.row (show p3 ≠ p7 by omega) a3
      have b4 := bo.row (show p4 ≠ p7 by omega) a4
      have bsz := bo.size
      have bkeep := akeep.only bo (by omega)
      clear a7 a3 a4 aq akeep bo
      go_wp2
      refine ref_next _ p7 (w1 bs 128) (w1_len _ _) _ b7 _ _ _ _ _ _ _ _ _ _ _ _ _ _ _ _ _ _ _ _ _ _ _ _ _ _ _ _ _ _ _ _ _ _ _ _ _ _ _ _ _ _ _ _ _ _ _ _ _ _ _ _ _ _ _ _ _ _ _ _ _ _ _ _ _ _ _ _ _ _ _ _ _ _ _ _ _ _ _ _ _ _ _ _ _ _ _ _ _ _ _ _ _ _ _ _ _ _ _ _ _ _ _ _ _ _ _ _ _ _ _ _ _ _ _ _ _ _ _ _ _ _ _ _ _ _ _ _ _ _ _ _ _ _ _ _ _ _ _ _ _ _ _ _ _ _ _ _ _ _ _ _ _ _ _ _ _ _ _ _ _ _ _ _ _ _ _ _ _ _ _ _ _ _ _ _ _ _ _ _ _ _ _ _ _ _ _ _ _ _ _ _ _ _ _ _ _ _ _ _ _ _ _ _ _ _ _ _ _ _ _ _ _ _ _ _ _ _ _ _ _ _ _ _ _ _ _ _ _ _ _ _ _ _ _ _ ?_
      intro s10 s11 s12 s83 s84 s85 s86 s87 s88 s89 s90 s91 s92 s93 s94 s95 s96 s97 s98 s99 s100 s101 s102 s103 s104 s105 s106 s107 s108 s109 s110 s111 s112 s113 s114 s115 s116 s117 s118 s119 s120 s121 s122 s123 X3 c7 co
      have c3 := co.row (show p3 ≠ p7 by omega) b3
      have c4 := co.row (show p4 ≠ p7 by omega) b4
      have csz := co.size
      have ckeep := bkeep.only co (by omega)
      clear b7 b3 b4 bkeep co
      obtain ⟨p13, hp13⟩ : ∃ p13, X3.heap.size = p13 := ⟨_, rfl⟩
      have n13 : p7 < p13 := by omega
      clear csz bsz asz
      have hrow13 : (X3.alloc (.cells (wa z8) 66)).heap[p13]? = some (.cells (wa z8) 66 (0, 0)) := by rw [← hp13]; exact heap_alloc_last _ _
      have H13 := hide hrow13
      clear hrow13
      have hz35 : ∀ w, (zeroValue 66).run Tryz.prog w = .ok (.agg (wa z8)) w := zero35
      have hs8' : (wa s).size = 8 := by rw [wa_size, hs8]
      go_wp2_with (first | (refine wpList_load_row rfl 66 (.tmp 3) rfl p3 rfl 66 (wa s) (0,0) (.array 8 27) c3 und35 rfl (by rw [hs8']; exact size35) ?_) | (refine wpList_store_row rfl 66 (.tmp 13) (.tmp 124) rfl p13 (wa s) rfl rfl 66 (wa z8) H13.out (by rw [hs8']; exact size35) (by rw [hs8']; rfl) (wa_one _) ?_))
      clear hz35
      obtain ⟨W4, hW4⟩ : ∃ W4, W4 = (X3.alloc (.cells (wa z8) 66)).setRow p13 (wa s) := ⟨_, rfl⟩
      have d13 : W4.heap[p13]? = some (.cells (wa s) 66 (0, 0)) := by rw [hW4]; exact setRow_heap _ _ _ _ _ _ H13.out
      have d3 : W4.heap[p3]? = some (.cells (wa s) 66 (0, 0)) := by rw [hW4, setRow_other _ _ _ _ (by omega), Below.heap_alloc _ _ _ (by omega)]; exact c3
      have d4 : W4.heap[p4]? = some (.cells (wa kw) 67 (0, 0)) := by rw [hW4, setRow_other _ _ _ _ (by omega), Below.heap_alloc _ _ _ (by omega)]; exact c4
      have d7 : W4.heap[p7]? = some (.cells (wa (w2 (w1 bs 128) 64)) 67 (0, 0)) := by rw [hW4, setRow_other _ _ _ _ (by omega), Below.heap_alloc _ _ _ (by omega)]; exact c7
      have dkeep : Keep p3 w W4 := by rw [hW4]; exact (ckeep.alloc _).only ((Only.refl p13 _).setRow _) (by omega)
      rw [← hW4]
      clear hW4 H13 c3 c4 c7 ckeep hp13
      refine ref_rounds _ p4 p7 p13 s (w2 (w1 bs 128) 64) hs8 (by rw [w2_len, w1_len]) (by omega) (by omega) _ d4 d7 d13 _ _ _ _ _ _ _ _ _ _ _ _ _ _ _ _ _ _ _ _ _ _ _ _ _ _ _ _ _ _ _ _ _ _ _ _ _ _ _ _ _ _ _ _ _ _ _ _ _ _ _ _ _ _ _ _ _ _ _ _ _ _ _ _ _ _ _ _ _ _ _ _ _ _ _ _ _ _ _ _ _ _ _ _ _ _ _ _ _ _ _ _ _ _ _ _ _ _ _ _ _ _ _ _ _ _ _ _ _ _ _ _ _ _ _ _ _ _ _ _ _ _ _ _ _ _ _ _ _ _ _ _ _ _ _ _ _ _ _ _ _ _ _ _ _ _ _ _ _ _ _ _ _ _ _ _ _ _ _ _ _ _ _ _ _ _ _ _ _ _ _ _ _ _ _ _ _ _ _ _ _ _ _ _ _ _ _ _ _ _ _ _ _ _ _ _ _ _ _ _ _ _ _ _ _ _ _ _ _ _ _ _ _ _ _ _ _ _ _ _ _ _ _ _ _ _ _ _ _ _ _ _ _ _ ?_
      intro t14 t15 t16 t17 t18 t125 t126 t127 t128 t129 t130 t131 t132 t133 t134 t135 t136 t137 t138 t139 t140 t141 t142 t143 t144 t145 t146 t147 t148 t149 t150 t151 t152 t153 t154 t155 t156 t157 t158 t159 t160 t161 t162 t163 t164 t165 t166 t167 t168 t169 t170 t171 t172 t173 t174 t175 t176 t177 t178 t179 t180 t181 t182 t183 t184 t185 t186 t187 t188 t189 t190 t191 t192 t193 t194 t195 t196 t197 t198 t199 t200 t201 t202 t203 t204 t205 t206 X5 e13 eo
      have e3 := eo.row (show p3 ≠ p13 by omega) d3
      have ekeep := dkeep.only eo (by omega)
      clear d13 d3 d4 d7 dkeep eo
      go_wp2
      refine ref_add _ p3 p13 s (rs s (w2 (w1 bs 128) 64) 80) hs8 (rs_len _ _ hs8 _) (by omega) _ e3 e13 _ _ _ _ _ _ _ _ _ _ _ _ _ _ _ _ _ _ _ _ _ _ _ _ _ _ _ _ _ _ _ _ _ _ _ _ _ _ _ _ _ _ _ _ _ _ _ _ _ _ _ _ _ _ _ _ _ _ _ _ _ _ _ _ _ _ _ _ _ _ _ _ _ _ _ _ _ _ _ _ _ _ _ _ _ _ _ _ _ _ _ _ _ _ _ _ _ _ _ _ _ _ _ _ _ _ _ _ _ _ _ _ _ _ _ _ _ _ _ _ _ _ _ _ _ _ _ _ _ _ _ _ _ _ _ _ _ _ _ _ _ _ _ _ _ _ _ _ _ _ _ _ _ _ _ _ _ _ _ _ _ _ _ _ _ _ _ _ _ _ _ _ _ _ _ _ _ _ _ _ _ _ _ _ _ _ _ _ _ _ _ _ _ _ _ _ _ _ _ _ _ _ _ _ _ _ _ _ _ _ _ _ _ _ _ _ _ _ _ _ _ _ _ _ _ _ _ _ _ _ _ _ _ _ _ ?_
      intro y19 y207 y208 y209 y210 y211 y212 y213 y214 y215 y216 y217 y218 X6 f3 fo
      have fkeep := ekeep.only fo (by omega)
      have g3 : X6.heap[p3]? = some (.cells (wa (stAt P (k + 1))) 66 (0, 0)) := by rw [HBS.out]; exact f3
      clear e13 e3 ekeep fo f3
      go_wp2
      have hn' := HN.out.1
      have hc' := HN.out.2.1
      have ho' := HN.out.2.2
      refine ⟨⟨k + 1, by omega, ⟨if c' = 128 then some ⟨q, o', none⟩ else some ⟨q, o' + 128, none⟩, ?_, ?_⟩, g3, fkeep⟩, ?_⟩
      · rw [show 128 * (K - (k + 1)) = n' - 128 by omega, show c - 128 * (k + 1) = c' - 128 by omega]
      · intro hk1
        rw [if_neg (by omega), ho', Nat.mul_add]
      · simp only [slen]; omega
    · have hj8 : k = K := by omega
      rw [hj8] at q3
      have h0 : 128 * (K - k) = 0 := by omega
      rw [h0]
      go_wp2
      exact hexit _ _ _ _ _ _ _ _ _ _ _ _ _ _ _ _ _ _ _ _ _ _ _ _ _ _ _ _ _ _ _ _ _ _ _ _ _ _ _ _ _ _ _ _ _ _ _ _ _ _ _ _ _ _ _ _ _ _ _ _ _ _ _ _ _ _ _ _ _ _ _ _ _ _ _ _ _ _ _ _ _ _ _ _ _ _ _ _ _ _ _ _ _ _ _ _ _ _ _ _ _ _ _ _ _ _ _ _ _ _ _ _ _ _ _ _ _ _ _ _ _ _ _ _ _ _ _ _ _ _ _ _ _ _ _ _ _ _ _ _ _ _ _ _ _ _ _ _ _ _ _ _ _ _ _ _ _ _ _ _ _ _ _ _ _ _ _ _ _ _ _ _ _ _ _ _ _ _ _ q3 hkeep
end Go.Proofs.YtobgimpkkjaolaaGreatDoor.Sh
/- The page's own SHA-512: what it answers, for bytes that lie anywhere. -/
namespace Go.Proofs.YtobgimpkkjaolaaGreatDoor.Sh
open Go.RowKit
theorem h0w_cells : wa h0w = #[.int .u64 7640891576956012808, .int .u64 13503953896175478587, .int .u64 4354685564936845355, .int .u64 11912009170470909681, .int .u64 5840696475078001361, .int .u64 11170449401992604703, .int .u64 2270897969802886507, .int .u64 6620516959819538809] := by kernel_rfl
theorem pad_eq (bs : List UInt8) (L : Nat) (hL : bs.length = L) (h : L < 1000000000000) : bs ++ [(128 : UInt8)] ++ List.replicate (zeros L) (0 : UInt8) ++ List.replicate 8 (0 : UInt8) ++ be8 (BitVec.ofNat 64 L <<< 3) 8 = padded bs := by
  have h0 : BitVec.ofNat 64 L >>> 61 = 0 := by
    apply BitVec.eq_of_toNat_eq
    rw [BitVec.toNat_ushiftRight, BitVec.toNat_ofNat, Nat.mod_eq_of_lt (by omega), Nat.shiftRight_eq_div_pow, Nat.div_eq_of_lt (by omega)]; rfl
  have h1 : be8 (0 : BitVec 64) 8 = List.replicate 8 0 := by kernel_rfl
  have h2 : (BitVec.ofNat 64 L).toNat = L := by rw [BitVec.toNat_ofNat, Nat.mod_eq_of_lt (by omega)]
  rw [padded, hL, padB, h0, h1, h2]
  simp [List.append_assoc]
set_option maxRecDepth 100000 in
set_option maxHeartbeats 2000000 in
theorem ref_any (bs : List UInt8) (v : Value) (w : World) (hold : BsOld w v bs) (hlen : bs.length ≤ 100000000000) :
    Calls Tryz.prog 20 #[v] w fun e w' => ∃ v', e = .returned v' ∧ w'.ownsRow w.heap.size 5 1 v' 64 ((shaB bs).map bc) ∧ Below w.heap.size w w' := by
  obtain ⟨i0, hi, hz0, hz1, hz2⟩ := info_parts info5
  obtain ⟨ao, c0, rfl, -⟩ := id hold
  obtain ⟨L, hL⟩ : ∃ L : Nat, bs.length = L := ⟨_, rfl⟩
  rw [hL] at hlen hold ⊢
  have HI := hide (And.intro hi (And.intro hz0 (And.intro hz1 hz2)))
  have HOLD := hide hold
  clear hi hz0 hz1 hz2 hold
  go_enter Tryz.func20, Tryz.ntmps20
  go_wp2_with fail
  obtain ⟨W0, hW0⟩ : ∃ W0, W0 = w.alloc (.cells (wa h0w) 66) := ⟨_, rfl⟩
  have a3 : W0.heap[w.heap.size]? = some (.cells (wa h0w) 66 (0, 0)) := by rw [hW0]; exact heap_alloc_last _ _
  have ab : Below w.heap.size w W0 := by rw [hW0]; exact below1 _ _
  have asz : W0.heap.size = w.heap.size + 1 := by rw [hW0]; simp
  rw [h0w_cells] at hW0
  rw [← hW0]
  clear hW0
  refine (consts_any _).mono ?_
  rintro e w1 ⟨rfl, hb1⟩
  have b3 : w1.heap[w.heap.size]? = some (.cells (wa h0w) 66 (0, 0)) := (hb1.block _ (by omega)).trans a3
  have bb : Below w.heap.size w w1 := ab.trans (hb1.mono (by omega))
  have bs1 := hb1.size
  rw [asz] at bs1
  clear a3 ab asz hb1
  have hz36 := zero36
  go_upto_region 3 with (refine wpList_store_row rfl 67 (.tmp 4) (.tmp 25) rfl w1.heap.size (wa kw) rfl rfl 67 (wa z80) (heap_alloc_last _ _) (by rw [kw80]; exact size36) (by rw [kw80]; rfl) (wa_one _) ?_)
  clear hz36
  obtain ⟨p3, hp3⟩ : ∃ p3, p3 = w.heap.size := ⟨_, rfl⟩
  obtain ⟨p4, hp4⟩ : ∃ p4, p4 = w1.heap.size := ⟨_, rfl⟩
  obtain ⟨W2, hW2⟩ : ∃ W2, W2 = (w1.alloc (.cells (wa z80) 67)).setRow w1.heap.size (wa kw) := ⟨_, rfl⟩
  have c4 : W2.heap[p4]? = some (.cells (wa kw) 67 (0, 0)) := by rw [hW2, hp4]; exact setRow_heap _ _ _ _ _ _ (heap_alloc_last _ _)
  have c3 : W2.heap[p3]? = some (.cells (wa h0w) 66 (0, 0)) := by rw [hW2, hp3, setRow_other _ _ _ _ (by omega), Below.heap_alloc _ _ _ (by omega)]; exact b3
  have cb : Below p3 w W2 := by rw [hW2, hp3]; exact Below.setRow (bb.alloc (by omega) _) _ _ (by omega)
  have cs : W2.heap.size = p4 + 1 := by rw [hW2, hp4]; simp
  have n34 : p3 < p4 := by omega
  have cold : BsOld W2 (.slice ao L c0) bs := HOLD.out.ext (by rw [hp3] at cb; exact cb)
  rw [← hW2, ← hp4]
  rw [← hp3]
  have HP := hide hp3
  clear hW2 hp4 hp3 b3 bb bs1 HOLD
  go_wp2_with (at_builtin; go_must (refine wpList_append_bytes rfl (.const (.slice none 0 0)) (.tmp 26) rfl (p4 + 1) (.slice none 0 0) [] rfl (own_none _ _) (.slice ao L c0) bs rfl cold (by simp; omega) (by omega) ?_))
  intro v1 x1 hown1 hg1
  have db : Below (p4 + 1) W2 x1 := (Below.refl _ _).grown hg1 (by omega) (by simp [Value.ownBlock])
  have ds : p4 + 1 ≤ x1.heap.size := by have := hg1.size; omega
  clear hg1 cold
  go_wp2_with (at_builtin; go_must (refine wpList_append_own _ rfl (.tmp 27) (.tmp 28) 22 rfl (p4 + 1) 5 i0 (.int .u8 0) 1 1 und22 HI.out.1 HI.out.2.1 HI.out.2.2.1 HI.out.2.2.2 rfl (by decide) v1 L (bs.map bc) rfl (hown1.alloc _) ⟨x1.heap.size, 0, none⟩ 1 1 [.int .u8 128] rfl rfl (cell_one_new _ _ _) ?_ ?_ ?_ ?_ ?_))
  · intro u hu; simp at hu; subst hu; rfl
  · unfold maxLen; omega
  · omega
  · simp; omega
  intro v2 x2 hown2' hg2 _
  have hown2 : x2.ownsRow (p4 + 1) 5 1 v2 (L + 1) ((bs ++ [128]).map bc) := by rw [List.map_append]; exact hown2'
  have eb : Below (p4 + 1) W2 x2 := (db.alloc ds _).grown hg2 (by simp; omega) (fun q hq => (hown1.lt q hq).1)
  have es : p4 + 1 ≤ x2.heap.size := by have := hg2.size; simp at this; omega
  clear hown2' hg2 db ds hown1
  go_wp2
  refine ref_zeros _ (p4 + 1) (L + 1) (zeros L) (bs ++ [128]) v2 x2 (by omega) (by omega) (by unfold zeros; omega) (by unfold zeros; omega) es hown2 _ _ _ _ _ _ _ _ _ _ _ _ _ _ _ _ _ _ _ _ _ _ _ _ _ _ _ _ _ _ _ _ _ _ _ _ _ _ _ _ _ _ _ _ _ _ _ _ _ _ _ _ _ _ _ _ _ _ _ _ _ _ _ _ _ _ _ _ _ _ _ _ _ _ _ _ _ _ _ _ _ _ _ _ _ _ _ _ _ _ _ _ _ _ _ _ _ _ _ _ _ _ _ _ _ _ _ _ _ _ _ _ _ _ _ _ _ _ _ _ _ _ _ _ _ _ _ _ _ _ _ _ _ _ _ _ _ _ _ _ _ _ _ _ _ _ _ _ _ _ _ _ _ _ _ _ _ _ _ _ _ _ _ _ _ _ _ _ _ _ _ _ _ _ _ _ _ _ _ _ _ _ _ _ _ _ _ _ _ _ _ _ _ _ _ _ _ _ _ _ _ _ _ _ _ _ _ _ _ _ _ _ _ _ _ _ _ _ _ _ _ _ _ _ _ _ _ _ _ _ _ _ _ _ _ _ _ ?_
  intro r30 r31 r32 r33 r34 r35 r36 v3 x3 hown3 fs fb
  replace fb := eb.trans fb
  clear eb es hown2
  have hzl : zeros L < 128 := by unfold zeros; omega
  go_wp2_with (at_builtin; go_must (refine wpList_append_zeros rfl (.tmp 37) rfl (p4 + 1) v3 (L + 1 + zeros L) (bs ++ [128] ++ List.replicate (zeros L) 0) rfl hown3 (by omega) fs ?_))
  intro v4 x4 hown4 hg4
  have gb : Below (p4 + 1) W2 x4 := fb.grown hg4 fs (fun q hq => (hown3.lt q hq).1)
  have gs : p4 + 1 ≤ x4.heap.size := by have := hg4.size; omega
  have hown4' : x4.ownsRow (p4 + 1) 5 1 v4 (L + 1 + zeros L + 8) ((bs ++ [(128 : UInt8)] ++ List.replicate (zeros L) (0 : UInt8) ++ List.replicate 8 (0 : UInt8)).map bc) := by simpa using hown4
  clear hg4 fb fs hown3
  go_wp2
  have hx8 : IntKind.u64.wrap ((L : Int) * 8) = wn (BitVec.ofNat 64 L <<< 3) := by
    rw [← w_shl]; unfold wn; rw [BitVec.toNat_ofNat, Nat.mod_eq_of_lt (by omega)]; rfl
  refine ref_len _ (p4 + 1) (L + 1 + zeros L + 8) L c0 ao (bs ++ [128] ++ List.replicate (zeros L) 0 ++ List.replicate 8 0) (BitVec.ofNat 64 L <<< 3) v4 x4 (by omega) hx8 (by omega) gs hown4' _ _ _ _ _ _ _ _ _ _ _ _ _ _ _ _ _ _ _ _ _ _ _ _ _ _ _ _ _ _ _ _ _ _ _ _ _ _ _ _ _ _ _ _ _ _ _ _ _ _ _ _ _ _ _ _ _ _ _ _ _ _ _ _ _ _ _ _ _ _ _ _ _ _ _ _ _ _ _ _ _ _ _ _ _ _ _ _ _ _ _ _ _ _ _ _ _ _ _ _ _ _ _ _ _ _ _ _ _ _ _ _ _ _ _ _ _ _ _ _ _ _ _ _ _ _ _ _ _ _ _ _ _ _ _ _ _ _ _ _ _ _ _ _ _ _ _ _ _ _ _ _ _ _ _ _ _ _ _ _ _ _ _ _ _ _ _ _ _ _ _ _ _ _ _ _ _ _ _ _ _ _ _ _ _ _ _ _ _ _ _ _ _ _ _ _ _ _ _ _ _ _ _ _ _ _ _ _ _ _ _ _ _ _ _ _ _ _ _ _ _ _ _ _ _ _ _ _ _ _ _ _ _ _ _ ?_
  intro s6 s39 s40 s41 s42 s43 s44 s45 s46 s47 s48 s49 s50 s51 s52 s53 s54 v5 x5 hown5 hs5 hb5
  replace hb5 := gb.trans hb5
  clear gb gs hown4 hown4' hx8
  have hpad : bs ++ [(128 : UInt8)] ++ List.replicate (zeros L) (0 : UInt8) ++ List.replicate 8 (0 : UInt8) ++ be8 (BitVec.ofNat 64 L <<< 3) 8 = padded bs := pad_eq bs L hL (by omega)
  rw [hpad] at hown5
  obtain ⟨K, hK1, hK2⟩ : ∃ K, (padded bs).length = 128 * K ∧ L + 1 + zeros L + 8 + 8 = 128 * K := by
    have h1 := padded_len bs (by omega)
    have h2 : (padded bs).length = L + 1 + zeros L + 8 + 8 := by rw [← hpad]; simp [be8_len, hL]; omega
    exact ⟨(padded bs).length / 128, by omega, by omega⟩
  rw [hK2] at hown5
  obtain ⟨q, c, rfl, hc1, hc2, hq1, hq2, hqr⟩ := owns_shape hown5 (by omega)
  have k3 : x5.heap[p3]? = some (.cells (wa h0w) 66 (0, 0)) := (hb5.block _ (by omega)).trans c3
  have k4 : x5.heap[p4]? = some (.cells (wa kw) 67 (0, 0)) := (hb5.block _ (by omega)).trans c4
  have hshaP : shaB bs = words (stAt (padded bs) K) 8 := by rw [shaB, hK1, Nat.mul_div_cancel_left _ (by omega)]
  have hHB := hide hshaP
  replace cb := cb.trans (hb5.mono (by omega))
  clear hown5 c3 c4 hb5 hpad hshaP
  generalize hPP : padded bs = P at hK1 hqr hHB
  clear hPP
  go_wp2
  refine ref_pieces _ p3 p4 q c K P hK1 (by omega) (by omega) (by omega) (by omega) _ k3 k4 hqr (by omega) (by omega) (by omega) _ _ _ _ _ _ _ _ _ _ _ _ _ _ _ _ _ _ _ _ _ _ _ _ _ _ _ _ _ _ _ _ _ _ _ _ _ _ _ _ _ _ _ _ _ _ _ _ _ _ _ _ _ _ _ _ _ _ _ _ _ _ _ _ _ _ _ _ _ _ _ _ _ _ _ _ _ _ _ _ _ _ _ _ _ _ _ _ _ _ _ _ _ _ _ _ _ _ _ _ _ _ _ _ _ _ _ _ _ _ _ _ _ _ _ _ _ _ _ _ _ _ _ _ _ _ _ _ _ _ _ _ _ _ _ _ _ _ _ _ _ _ _ _ _ _ _ _ _ _ _ _ _ _ _ _ _ _ _ _ _ _ _ _ _ _ _ _ _ _ _ _ _ _ _ _ _ _ _ _ _ _ _ _ _ _ _ _ _ _ _ _ _ _ _ _ _ _ _ _ _ _ _ _ _ _ _ _ _ _ _ _ _ _ _ _ _ _ _ _ _ _ _ _ _ _ _ _ _ _ _ _ _ _ _ ?_
  intro t5 t7 t8 t9 t10 t11 t12 t13 t14 t15 t16 t17 t18 t19 t55 t56 t57 t58 t59 t60 t61 t62 t63 t64 t65 t66 t67 t68 t69 t70 t71 t72 t73 t74 t75 t76 t77 t78 t79 t80 t81 t82 t83 t84 t85 t86 t87 t88 t89 t90 t91 t92 t93 t94 t95 t96 t97 t98 t99 t100 t101 t102 t103 t104 t105 t106 t107 t108 t109 t110 t111 t112 t113 t114 t115 t116 t117 t118 t119 t120 t121 t122 t123 t124 t125 t126 t127 t128 t129 t130 t131 t132 t133 t134 t135 t136 t137 t138 t139 t140 t141 t142 t143 t144 t145 t146 t147 t148 t149 t150 t151 t152 t153 t154 t155 t156 t157 t158 t159 t160 t161 t162 t163 t164 t165 t166 t167 t168 t169 t170 t171 t172 t173 t174 t175 t176 t177 t178 t179 t180 t181 t182 t183 t184 t185 t186 t187 t188 t189 t190 t191 t192 t193 t194 t195 t196 t197 t198 t199 t200 t201 t202 t203 t204 t205 t206 t207 t208 t209 t210 t211 t212 t213 t214 t215 t216 t217 t218 x6 l3 lkeep
  have lb' : Below p3 w x6 := cb.trans lkeep.below
  have ls := lkeep.size
  clear lkeep k3 k4 hqr cb
  have hs8 : (stAt P K).length = 8 := stAt_len P K
  have hw8 : (wa (stAt P K)).size = 8 := by rw [wa_size, hs8]
  generalize hSS : stAt P K = s at l3 hs8 hw8 hHB
  clear hSS
  go_wp2_with (refine wpList_load_row rfl 66 (.tmp 3) rfl p3 rfl 66 (wa s) (0,0) (.array 8 27) l3 und35 rfl (by rw [hw8]; exact size35) ?_)
  refine ref_sum _ p3 s hs8 _ (by omega) _ _ _ _ _ _ _ _ _ _ _ _ _ _ _ _ _ _ _ _ _ _ _ _ _ _ _ _ _ _ _ _ _ _ _ _ _ _ _ _ _ _ _ _ _ _ _ _ _ _ _ _ _ _ _ _ _ _ _ _ _ _ _ _ _ _ _ _ _ _ _ _ _ _ _ _ _ _ _ _ _ _ _ _ _ _ _ _ _ _ _ _ _ _ _ _ _ _ _ _ _ _ _ _ _ _ _ _ _ _ _ _ _ _ _ _ _ _ _ _ _ _ _ _ _ _ _ _ _ _ _ _ _ _ _ _ _ _ _ _ _ _ _ _ _ _ _ _ _ _ _ _ _ _ _ _ _ _ _ _ _ _ _ _ _ _ _ _ _ _ _ _ _ _ _ _ _ _ _ _ _ _ _ _ _ _ _ _ _ _ _ _ _ _ _ _ _ _ _ _ _ _ _ _ _ _ _ _ _ _ _ _ _ _ _ _ _ _ _ _ _ _ _ _ _ _ _ _ _ _ _ _ _ _ _ ?_
  intro y22 y23 y220 y221 y222 y223 y224 y225 y226 y227 y228 y229 y230 y231 y232 y233 y234 y235 y236 v7 x7 hown7 hs7 hb7
  replace hb7 := lb'.trans hb7
  clear lb' l3 ls hw8
  go_wp2
  go_ret
  rw [hHB.out, ← HP.out]
  exact ⟨_, rfl, hown7, hb7⟩
end Go.Proofs.YtobgimpkkjaolaaGreatDoor.Sh
