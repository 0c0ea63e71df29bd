/- The page's own SHA-512: what it answers, for bytes that lie anywhere. -/
import Derived.Test.YtjkcjlhcfkapkaaDoorRefC
import Derived.Test.YtjkcjlhcfkapkaaDoorRefJ
import Derived.Test.YtjkcjlhcfkapkaaDoorRefK
import Derived.Test.YtjkcjlhcfkapkaaDoorRefL
import Derived.Test.YtjkcjlhcfkapkaaDoorArgs
import Derived.Test.YtjkcjlhcfkapkaaDoorInv
import Derived.Deep.CutBlock
namespace Go.Proofs.YtjkcjlhcfkapkaaDoor
open Go.RowKit
theorem h0w_cells : wa h0w = #[.int .u64 7640891576956012808, .int .u64 13503953896175478587, .int .u64 4354685564936845355, .int .u64 11912009170470909681, .int .u64 5840696475078001361, .int .u64 11170449401992604703, .int .u64 2270897969802886507, .int .u64 6620516959819538809] := by kernel_rfl
theorem pad_eq (bs : List UInt8) (L : Nat) (hL : bs.length = L) (h : L < 1000000000000) : bs ++ [(128 : UInt8)] ++ List.replicate (zeros L) (0 : UInt8) ++ List.replicate 8 (0 : UInt8) ++ be8 (BitVec.ofNat 64 L <<< 3) 8 = padded bs := by
  have h0 : BitVec.ofNat 64 L >>> 61 = 0 := by
    apply BitVec.eq_of_toNat_eq
    rw [BitVec.toNat_ushiftRight, BitVec.toNat_ofNat, Nat.mod_eq_of_lt (by omega), Nat.shiftRight_eq_div_pow, Nat.div_eq_of_lt (by omega)]; rfl
  have h1 : be8 (0 : BitVec 64) 8 = List.replicate 8 0 := by kernel_rfl
  have h2 : (BitVec.ofNat 64 L).toNat = L := by rw [BitVec.toNat_ofNat, Nat.mod_eq_of_lt (by omega)]
  rw [padded, hL, padB, h0, h1, h2]
  simp [List.append_assoc]
set_option maxRecDepth 100000 in
set_option maxHeartbeats 2000000 in
theorem ref_any (bs : List UInt8) (v : Value) (w : World) (hold : BsOld w v bs) (hlen : bs.length ≤ 100000000000) :
    Calls Tryd.prog 10 #[v] w fun e w' => ∃ v', e = .returned v' ∧ w'.ownsRow w.heap.size 5 1 v' 64 ((shaB bs).map bc) ∧ Below w.heap.size w w' := by
  obtain ⟨i0, hi, hz0, hz1, hz2⟩ := info_parts info5
  obtain ⟨ao, c0, rfl, -⟩ := id hold
  obtain ⟨L, hL⟩ : ∃ L : Nat, bs.length = L := ⟨_, rfl⟩
  rw [hL] at hlen hold ⊢
  have HI := hide (And.intro hi (And.intro hz0 (And.intro hz1 hz2)))
  have HOLD := hide hold
  clear hi hz0 hz1 hz2 hold
  go_enter Tryd.func10, Tryd.ntmps10
  go_wp2_with fail
  obtain ⟨W0, hW0⟩ : ∃ W0, W0 = w.alloc (.cells (wa h0w) 35) := ⟨_, rfl⟩
  have a3 : W0.heap[w.heap.size]? = some (.cells (wa h0w) 35 (0, 0)) := by rw [hW0]; exact heap_alloc_last _ _
  have ab : Below w.heap.size w W0 := by rw [hW0]; exact below1 _ _
  have asz : W0.heap.size = w.heap.size + 1 := by rw [hW0]; simp
  rw [h0w_cells] at hW0
  rw [← hW0]
  clear hW0
  refine (consts_any _).mono ?_
  rintro e w1 ⟨rfl, hb1⟩
  have b3 : w1.heap[w.heap.size]? = some (.cells (wa h0w) 35 (0, 0)) := (hb1.block _ (by omega)).trans a3
  have bb : Below w.heap.size w w1 := ab.trans (hb1.mono (by omega))
  have bs1 := hb1.size
  rw [asz] at bs1
  clear a3 ab asz hb1
  have hz36 := zero36
  go_upto_region 3 with (refine wpList_store_row rfl 36 (.tmp 4) (.tmp 25) rfl w1.heap.size (wa kw) rfl rfl 36 (wa z80) (heap_alloc_last _ _) (by rw [kw80]; exact size36) (by rw [kw80]; rfl) (wa_one _) ?_)
  clear hz36
  obtain ⟨p3, hp3⟩ : ∃ p3, p3 = w.heap.size := ⟨_, rfl⟩
  obtain ⟨p4, hp4⟩ : ∃ p4, p4 = w1.heap.size := ⟨_, rfl⟩
  obtain ⟨W2, hW2⟩ : ∃ W2, W2 = (w1.alloc (.cells (wa z80) 36)).setRow w1.heap.size (wa kw) := ⟨_, rfl⟩
  have c4 : W2.heap[p4]? = some (.cells (wa kw) 36 (0, 0)) := by rw [hW2, hp4]; exact setRow_heap _ _ _ _ _ _ (heap_alloc_last _ _)
  have c3 : W2.heap[p3]? = some (.cells (wa h0w) 35 (0, 0)) := by rw [hW2, hp3, setRow_other _ _ _ _ (by omega), Below.heap_alloc _ _ _ (by omega)]; exact b3
  have cb : Below p3 w W2 := by rw [hW2, hp3]; exact Below.setRow (bb.alloc (by omega) _) _ _ (by omega)
  have cs : W2.heap.size = p4 + 1 := by rw [hW2, hp4]; simp
  have n34 : p3 < p4 := by omega
  have cold : BsOld W2 (.slice ao L c0) bs := HOLD.out.ext (by rw [hp3] at cb; exact cb)
  rw [← hW2, ← hp4]
  rw [← hp3]
  have HP := hide hp3
  clear hW2 hp4 hp3 b3 bb bs1 HOLD
  go_wp2_with (at_builtin; go_must (refine wpList_append_bytes rfl (.const (.slice none 0 0)) (.tmp 26) rfl (p4 + 1) (.slice none 0 0) [] rfl (own_none _ _) (.slice ao L c0) bs rfl cold (by simp; omega) (by omega) ?_))
  intro v1 x1 hown1 hg1
  have db : Below (p4 + 1) W2 x1 := (Below.refl _ _).grown hg1 (by omega) (by simp [Value.ownBlock])
  have ds : p4 + 1 ≤ x1.heap.size := by have := hg1.size; omega
  clear hg1 cold
  go_wp2_with (at_builtin; go_must (refine wpList_append_own _ rfl (.tmp 27) (.tmp 28) 22 rfl (p4 + 1) 5 i0 (.int .u8 0) 1 1 und22 HI.out.1 HI.out.2.1 HI.out.2.2.1 HI.out.2.2.2 rfl (by decide) v1 L (bs.map bc) rfl (hown1.alloc _) ⟨x1.heap.size, 0, none⟩ 1 1 [.int .u8 128] rfl rfl (cell_one_new _ _ _) ?_ ?_ ?_ ?_ ?_))
  · intro u hu; simp at hu; subst hu; rfl
  · unfold maxLen; omega
  · omega
  · simp; omega
  intro v2 x2 hown2' hg2 _
  have hown2 : x2.ownsRow (p4 + 1) 5 1 v2 (L + 1) ((bs ++ [128]).map bc) := by rw [List.map_append]; exact hown2'
  have eb : Below (p4 + 1) W2 x2 := (db.alloc ds _).grown hg2 (by simp; omega) (fun q hq => (hown1.lt q hq).1)
  have es : p4 + 1 ≤ x2.heap.size := by have := hg2.size; simp at this; omega
  clear hown2' hg2 db ds hown1
  go_wp2
  refine ref_zeros _ (p4 + 1) (L + 1) (zeros L) (bs ++ [128]) v2 x2 (by omega) (by omega) (by unfold zeros; omega) (by unfold zeros; omega) es hown2 _ _ _ _ _ _ _ _ _ _ _ _ _ _ _ _ _ _ _ _ _ _ _ _ _ _ _ _ _ _ _ _ _ _ _ _ _ _ _ _ _ _ _ _ _ _ _ _ _ _ _ _ _ _ _ _ _ _ _ _ _ _ _ _ _ _ _ _ _ _ _ _ _ _ _ _ _ _ _ _ _ _ _ _ _ _ _ _ _ _ _ _ _ _ _ _ _ _ _ _ _ _ _ _ _ _ _ _ _ _ _ _ _ _ _ _ _ _ _ _ _ _ _ _ _ _ _ _ _ _ _ _ _ _ _ _ _ _ _ _ _ _ _ _ _ _ _ _ _ _ _ _ _ _ _ _ _ _ _ _ _ _ _ _ _ _ _ _ _ _ _ _ _ _ _ _ _ _ _ _ _ _ _ _ _ _ _ _ _ _ _ _ _ _ _ _ _ _ _ _ _ _ _ _ _ _ _ _ _ _ _ _ _ _ _ _ _ _ _ _ _ _ _ _ _ _ _ _ _ _ _ _ _ _ _ _ _ ?_
  intro r30 r31 r32 r33 r34 r35 r36 v3 x3 hown3 fs fb
  replace fb := eb.trans fb
  clear eb es hown2
  have hzl : zeros L < 128 := by unfold zeros; omega
  go_wp2_with (at_builtin; go_must (refine wpList_append_zeros rfl (.tmp 37) rfl (p4 + 1) v3 (L + 1 + zeros L) (bs ++ [128] ++ List.replicate (zeros L) 0) rfl hown3 (by omega) fs ?_))
  intro v4 x4 hown4 hg4
  have gb : Below (p4 + 1) W2 x4 := fb.grown hg4 fs (fun q hq => (hown3.lt q hq).1)
  have gs : p4 + 1 ≤ x4.heap.size := by have := hg4.size; omega
  have hown4' : x4.ownsRow (p4 + 1) 5 1 v4 (L + 1 + zeros L + 8) ((bs ++ [(128 : UInt8)] ++ List.replicate (zeros L) (0 : UInt8) ++ List.replicate 8 (0 : UInt8)).map bc) := by simpa using hown4
  clear hg4 fb fs hown3
  go_wp2
  have hx8 : IntKind.u64.wrap ((L : Int) * 8) = wn (BitVec.ofNat 64 L <<< 3) := by
    rw [← w_shl]; unfold wn; rw [BitVec.toNat_ofNat, Nat.mod_eq_of_lt (by omega)]; rfl
  refine ref_len _ (p4 + 1) (L + 1 + zeros L + 8) L c0 ao (bs ++ [128] ++ List.replicate (zeros L) 0 ++ List.replicate 8 0) (BitVec.ofNat 64 L <<< 3) v4 x4 (by omega) hx8 (by omega) gs hown4' _ _ _ _ _ _ _ _ _ _ _ _ _ _ _ _ _ _ _ _ _ _ _ _ _ _ _ _ _ _ _ _ _ _ _ _ _ _ _ _ _ _ _ _ _ _ _ _ _ _ _ _ _ _ _ _ _ _ _ _ _ _ _ _ _ _ _ _ _ _ _ _ _ _ _ _ _ _ _ _ _ _ _ _ _ _ _ _ _ _ _ _ _ _ _ _ _ _ _ _ _ _ _ _ _ _ _ _ _ _ _ _ _ _ _ _ _ _ _ _ _ _ _ _ _ _ _ _ _ _ _ _ _ _ _ _ _ _ _ _ _ _ _ _ _ _ _ _ _ _ _ _ _ _ _ _ _ _ _ _ _ _ _ _ _ _ _ _ _ _ _ _ _ _ _ _ _ _ _ _ _ _ _ _ _ _ _ _ _ _ _ _ _ _ _ _ _ _ _ _ _ _ _ _ _ _ _ _ _ _ _ _ _ _ _ _ _ _ _ _ _ _ _ _ _ _ _ _ _ _ _ _ _ _ _ ?_
  intro s6 s39 s40 s41 s42 s43 s44 s45 s46 s47 s48 s49 s50 s51 s52 s53 s54 v5 x5 hown5 hs5 hb5
  replace hb5 := gb.trans hb5
  clear gb gs hown4 hown4' hx8
  have hpad : bs ++ [(128 : UInt8)] ++ List.replicate (zeros L) (0 : UInt8) ++ List.replicate 8 (0 : UInt8) ++ be8 (BitVec.ofNat 64 L <<< 3) 8 = padded bs := pad_eq bs L hL (by omega)
  rw [hpad] at hown5
  obtain ⟨K, hK1, hK2⟩ : ∃ K, (padded bs).length = 128 * K ∧ L + 1 + zeros L + 8 + 8 = 128 * K := by
    have h1 := padded_len bs (by omega)
    have h2 : (padded bs).length = L + 1 + zeros L + 8 + 8 := by rw [← hpad]; simp [be8_len, hL]; omega
    exact ⟨(padded bs).length / 128, by omega, by omega⟩
  rw [hK2] at hown5
  obtain ⟨q, c, rfl, hc1, hc2, hq1, hq2, hqr⟩ := owns_shape hown5 (by omega)
  have k3 : x5.heap[p3]? = some (.cells (wa h0w) 35 (0, 0)) := (hb5.block _ (by omega)).trans c3
  have k4 : x5.heap[p4]? = some (.cells (wa kw) 36 (0, 0)) := (hb5.block _ (by omega)).trans c4
  have hshaP : shaB bs = words (stAt (padded bs) K) 8 := by rw [shaB, hK1, Nat.mul_div_cancel_left _ (by omega)]
  have hHB := hide hshaP
  replace cb := cb.trans (hb5.mono (by omega))
  clear hown5 c3 c4 hb5 hpad hshaP
  generalize hPP : padded bs = P at hK1 hqr hHB
  clear hPP
  go_wp2
  refine ref_pieces _ p3 p4 q c K P hK1 (by omega) (by omega) (by omega) (by omega) _ k3 k4 hqr (by omega) (by omega) (by omega) _ _ _ _ _ _ _ _ _ _ _ _ _ _ _ _ _ _ _ _ _ _ _ _ _ _ _ _ _ _ _ _ _ _ _ _ _ _ _ _ _ _ _ _ _ _ _ _ _ _ _ _ _ _ _ _ _ _ _ _ _ _ _ _ _ _ _ _ _ _ _ _ _ _ _ _ _ _ _ _ _ _ _ _ _ _ _ _ _ _ _ _ _ _ _ _ _ _ _ _ _ _ _ _ _ _ _ _ _ _ _ _ _ _ _ _ _ _ _ _ _ _ _ _ _ _ _ _ _ _ _ _ _ _ _ _ _ _ _ _ _ _ _ _ _ _ _ _ _ _ _ _ _ _ _ _ _ _ _ _ _ _ _ _ _ _ _ _ _ _ _ _ _ _ _ _ _ _ _ _ _ _ _ _ _ _ _ _ _ _ _ _ _ _ _ _ _ _ _ _ _ _ _ _ _ _ _ _ _ _ _ _ _ _ _ _ _ _ _ _ _ _ _ _ _ _ _ _ _ _ _ _ _ _ _ ?_
  intro t5 t7 t8 t9 t10 t11 t12 t13 t14 t15 t16 t17 t18 t19 t55 t56 t57 t58 t59 t60 t61 t62 t63 t64 t65 t66 t67 t68 t69 t70 t71 t72 t73 t74 t75 t76 t77 t78 t79 t80 t81 t82 t83 t84 t85 t86 t87 t88 t89 t90 t91 t92 t93 t94 t95 t96 t97 t98 t99 t100 t101 t102 t103 t104 t105 t106 t107 t108 t109 t110 t111 t112 t113 t114 t115 t116 t117 t118 t119 t120 t121 t122 t123 t124 t125 t126 t127 t128 t129 t130 t131 t132 t133 t134 t135 t136 t137 t138 t139 t140 t141 t142 t143 t144 t145 t146 t147 t148 t149 t150 t151 t152 t153 t154 t155 t156 t157 t158 t159 t160 t161 t162 t163 t164 t165 t166 t167 t168 t169 t170 t171 t172 t173 t174 t175 t176 t177 t178 t179 t180 t181 t182 t183 t184 t185 t186 t187 t188 t189 t190 t191 t192 t193 t194 t195 t196 t197 t198 t199 t200 t201 t202 t203 t204 t205 t206 t207 t208 t209 t210 t211 t212 t213 t214 t215 t216 t217 t218 x6 l3 lkeep
  have lb' : Below p3 w x6 := cb.trans lkeep.below
  have ls := lkeep.size
  clear lkeep k3 k4 hqr cb
  have hs8 : (stAt P K).length = 8 := stAt_len P K
  have hw8 : (wa (stAt P K)).size = 8 := by rw [wa_size, hs8]
  generalize hSS : stAt P K = s at l3 hs8 hw8 hHB
  clear hSS
  go_wp2_with (refine wpList_load_row rfl 35 (.tmp 3) rfl p3 rfl 35 (wa s) (0,0) (.array 8 30) l3 und35 rfl (by rw [hw8]; exact size35) ?_)
  refine ref_sum _ p3 s hs8 _ (by omega) _ _ _ _ _ _ _ _ _ _ _ _ _ _ _ _ _ _ _ _ _ _ _ _ _ _ _ _ _ _ _ _ _ _ _ _ _ _ _ _ _ _ _ _ _ _ _ _ _ _ _ _ _ _ _ _ _ _ _ _ _ _ _ _ _ _ _ _ _ _ _ _ _ _ _ _ _ _ _ _ _ _ _ _ _ _ _ _ _ _ _ _ _ _ _ _ _ _ _ _ _ _ _ _ _ _ _ _ _ _ _ _ _ _ _ _ _ _ _ _ _ _ _ _ _ _ _ _ _ _ _ _ _ _ _ _ _ _ _ _ _ _ _ _ _ _ _ _ _ _ _ _ _ _ _ _ _ _ _ _ _ _ _ _ _ _ _ _ _ _ _ _ _ _ _ _ _ _ _ _ _ _ _ _ _ _ _ _ _ _ _ _ _ _ _ _ _ _ _ _ _ _ _ _ _ _ _ _ _ _ _ _ _ _ _ _ _ _ _ _ _ _ _ _ _ _ _ _ _ _ _ _ _ _ _ ?_
  intro y22 y23 y220 y221 y222 y223 y224 y225 y226 y227 y228 y229 y230 y231 y232 y233 y234 y235 y236 v7 x7 hown7 hs7 hb7
  replace hb7 := lb'.trans hb7
  clear lb' l3 ls hw8
  go_wp2
  go_ret
  rw [hHB.out, ← HP.out]
  exact ⟨_, rfl, hown7, hb7⟩
end Go.Proofs.YtjkcjlhcfkapkaaDoor
