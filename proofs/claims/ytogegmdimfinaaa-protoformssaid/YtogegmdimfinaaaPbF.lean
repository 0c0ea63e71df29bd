/- Any fields, any numbers: the bytes are as the page has them: the law ProtoForms answers true for all fields to put. -/
import Derived.Test.YtogegmdimfinaaaPbT
namespace Go.Proofs.Ytogegmdimfinaaa
open Go.RowKit
set_option linter.unusedSimpArgs false in
set_option maxRecDepth 100000 in
set_option maxHeartbeats 8000000 in
theorem forms_few {v : Value} {ps : List Pu} {n : Nat} {w : World} (h : PsAt w v ps) (hn : n < 18446744073709551616) (m : Int) (hm : -9223372036854775808 ≤ m ∧ m ≤ 9223372036854775807) (hcv : ∀ W : World, (convert 23 2 (.int .u64 (n : Int))).run Try.prog W = .ok (.int .i64 m) W) :
    Calls Try.prog 3 #[v, .int .u64 (n : Int)] w fun e w' => e = .returned (.bool true) ∧ Below w.heap.size w w' := by
  have HF := hide (few_any h)
  have H0 := hide h
  have HN := hide (And.intro hn hm)
  have HCV := hide hcv
  obtain ⟨b, o, c, ao, rfl, hc, hl, hh⟩ := h
  have HH := hide hh
  clear hh hn hm hcv
  go_enter Try.func3, Try.ntmps3
  go_wp2_with fail
  refine HF.out.mono ?_
  rintro e w1 ⟨Fw, rfl, hFw, b1⟩
  cases Fw with
  | false =>
    have HB := hide b1
    clear hFw b1
    go_wp2_with fail
    refine (awake_any w1).mono ?_
    rintro e w2 ⟨rfl, b2⟩
    have R := hide (Below.chain HB.out b2)
    clear b2
    go_wp2
    go_ret
    exact ⟨rfl, R.out⟩
  | true =>
    have hS := few_small (hFw rfl)
    have HB := hide b1
    have HSM := hide hS
    have M0 := hide (MAt.new (A := notOf (.slice none 0 0)) w1)
    have B0 := hide (alloc_below w1 (.cells #[.pointer none] 29))
    clear hFw b1 hS
    go_wp2
    go_loopw [17, 6] (fun i s wr => ∃ k : Nat, k ≤ ps.length ∧ i = .int .i64 (k : Int) ∧ MAtX wr (notOf s) w1.heap.size (pieces (ps.take k)) ∧ Own wr w1.heap.size s (pieces (ps.take k)).flatten ∧ Below w1.heap.size w1 wr) (fun i _ _ => ps.length - (intOf i).toNat)
    case atStart => exact ⟨0, Nat.zero_le _, rfl, M0.out, own_nil _ _ (by simp), B0.out⟩
    case round =>
      obtain ⟨k, hk, rfl, hM, hO, hB⟩ := hrel
      by_cases hlt : k < ps.length
      · obtain ⟨rfl, hbb, hps⟩ := HH.out (fun e => by subst e; simp at hlt)
        obtain ⟨p, hp⟩ : ∃ p, ps[k]? = some p := ⟨_, List.getElem?_eq_getElem hlt⟩
        obtain ⟨bv, hbs, ⟨hpn, hpN, hbl⟩, hcs⟩ := (hps k p hp).read hbb
        obtain ⟨c0, c1, c2, c3⟩ := hcs wr (Below.chain HB.out hB)
        have HBS := hide hbs
        have hix := fun w_ => ix_puts w_ b o ps.length c k hlt
        have hst := pieces_step ps k p hp
        have hle := pieces_le ps (k + 1)
        have hbnd : (pieces (ps.take k)).flatten.length + (putP p).flatten.length ≤ 6000 := by
          have h1 := HSM.out.2
          rw [hst, List.flatten_append, List.length_append] at hle
          omega
        have hfl : (pieces (ps.take (k + 1))).flatten = (pieces (ps.take k)).flatten ++ (putP p).flatten := by rw [hst, List.flatten_append]
        obtain ⟨ba, bc, rfl, _, _⟩ := hbs.len
        obtain ⟨PK, hPK⟩ : ∃ PK, pieces (ps.take k) = PK := ⟨_, rfl⟩
        rw [hPK] at hst hM hO hbnd hfl
        have b2 := alloc_below wr (.cells #[.int .i64 p.num, .bool p.whole, .int .u64 (p.n : Int), .slice ba p.b.length bc] 32)
        have HX := hide (And.intro (hM.ext b2) (And.intro (hO.ext b2) (And.intro (Below.chain hB b2) (And.intro hbnd (And.intro hfl (And.intro hst hpN))))))
        clear hst hM hO hB hbs hps hPK hbb hle hbnd hfl b2 hcs
        cases hwh : p.whole with
        | true =>
          rw [hwh] at c1 HX
          have hpp : putP p = putR p.num p.b := by unfold putP; rw [if_pos hwh]
          have HC := hide (Raw_any (num := p.num) HX.out.1 (HBS.out.ext (Below.chain HB.out HX.out.2.2.1)) (not_fresh HX.out.2.1))
          rw [← hpp] at HC
          have HC2 : Hid (∀ W : World, Below w.heap.size w W → Calls Try.prog 12 #[.int .i64 p.num, .slice ba p.b.length bc] W fun e w' => ∃ u, e = .returned u ∧ Own w' W.heap.size u (putP p).flatten ∧ Below W.heap.size W w') := fun W hW => by rw [hpp]; exact rRaw_any (HBS.out.ext hW)
          obtain ⟨PP, hPP⟩ : ∃ PP, putP p = PP := ⟨_, rfl⟩
          rw [hPP] at HC HC2 HX
          clear hpp hPP
          go_wp2_with fail
          refine HC.out.mono ?_
          rintro e w3 ⟨rfl, m3, g3⟩
          obtain ⟨hM, hO, hB, hbnd, hfl, hst, hpN⟩ := HX.out
          have hrow := heap_off g3 (heap_alloc_last wr (.cells #[.int .i64 p.num, .bool true, .int .u64 (p.n : Int), .slice ba p.b.length bc] 32)) (hM.offs (by decide))
          have x0 := (row_reads hrow).1
          have d0 := x0 0
          have d3 := x0 3
          simp only [List.getElem?_toArray, List.getElem?_cons_zero, List.getElem?_cons_succ] at d0 d3
          have hB3 : Below w1.heap.size w1 w3 := hB.grown g3 hB.size (fun q hq => by injection hq with hq; omega)
          have H3 := hide (And.intro m3 (And.intro (hO.off g3 (hM.offs (by decide))) (And.intro hB3 (And.intro hbnd (And.intro hfl hst)))))
          clear hM hO hB hbnd hfl hst hpN hrow x0 hB3 m3 g3 HX HC c0 c1 c2 c3 hix
          go_wp2_with fail
          refine (HC2.out _ (Below.chain HB.out H3.out.2.2.1)).mono ?_
          rintro e w4 ⟨u4, rfl, o4, b4⟩
          have H4 := hide (And.intro (H3.out.1.ext b4) (And.intro (H3.out.2.1.ext b4) (And.intro (Below.chain H3.out.2.2.1 b4) (And.intro o4.at H3.out.2.2.2))))
          clear o4 b4 HC2 d0 d3 H3
          obtain ⟨PF, hPF⟩ : ∃ PF, PK.flatten = PF := ⟨_, rfl⟩
          obtain ⟨QF, hQF⟩ : ∃ QF, PP.flatten = QF := ⟨_, rfl⟩
          rw [hPF, hQF] at H4
          clear hPF hQF
          go_wp2_with (at_builtin; refine wpList_append_at rfl (.tmp 29) (.tmp 34) rfl (base := w1.heap.size) (l := PF) (m := QF) H4.out.2.1 H4.out.2.2.2.1 (by have := H4.out.2.2.2.2.1; omega) H4.out.2.2.1.size ?_)
          intro v5 w5 o5 g5 hat5
          have H5 := hide (And.intro (msg_append H4.out.1 H4.out.2.1 g5 hat5) (And.intro o5 (And.intro (below_gr H4.out.2.2.1 H4.out.2.1 (Nat.le_refl _) g5) (And.intro H4.out.2.2.2.2.2.1 H4.out.2.2.2.2.2.2))))
          clear o5 g5 hat5 H4
          go_wp2
          go_roundw
          case rel => exact ⟨k + 1, by omega, by go_num, by rw [H5.out.2.2.2.2]; exact H5.out.1, by rw [H5.out.2.2.2.1]; exact H5.out.2.1, H5.out.2.2.1⟩
          case measure => simp [intOf]; omega
        | false =>
          rw [hwh] at c1 HX
          have hpp : putP p = putI p.num p.n := by unfold putP; rw [if_neg (by rw [hwh]; decide)]
          have HC := hide (Int_any (num := p.num) HX.out.1 HX.out.2.2.2.2.2.2 (not_fresh HX.out.2.1))
          rw [← hpp] at HC
          have HC2 : Hid (∀ W : World, Below w.heap.size w W → Calls Try.prog 14 #[.int .i64 p.num, .int .u64 (p.n : Int)] W fun e w' => ∃ u, e = .returned u ∧ Own w' W.heap.size u (putP p).flatten ∧ Below W.heap.size W w') := fun W hW => by rw [hpp]; exact rInt_any HX.out.2.2.2.2.2.2
          obtain ⟨PP, hPP⟩ : ∃ PP, putP p = PP := ⟨_, rfl⟩
          rw [hPP] at HC HC2 HX
          clear hpp hPP
          go_wp2_with fail
          refine HC.out.mono ?_
          rintro e w3 ⟨rfl, m3, g3⟩
          obtain ⟨hM, hO, hB, hbnd, hfl, hst, hpN⟩ := HX.out
          have hrow := heap_off g3 (heap_alloc_last wr (.cells #[.int .i64 p.num, .bool false, .int .u64 (p.n : Int), .slice ba p.b.length bc] 32)) (hM.offs (by decide))
          have x0 := (row_reads hrow).1
          have d0 := x0 0
          have d3 := x0 2
          simp only [List.getElem?_toArray, List.getElem?_cons_zero, List.getElem?_cons_succ] at d0 d3
          have hB3 : Below w1.heap.size w1 w3 := hB.grown g3 hB.size (fun q hq => by injection hq with hq; omega)
          have H3 := hide (And.intro m3 (And.intro (hO.off g3 (hM.offs (by decide))) (And.intro hB3 (And.intro hbnd (And.intro hfl hst)))))
          clear hM hO hB hbnd hfl hst hpN hrow x0 hB3 m3 g3 HX HC c0 c1 c2 c3 hix
          go_wp2_with fail
          refine (HC2.out _ (Below.chain HB.out H3.out.2.2.1)).mono ?_
          rintro e w4 ⟨u4, rfl, o4, b4⟩
          have H4 := hide (And.intro (H3.out.1.ext b4) (And.intro (H3.out.2.1.ext b4) (And.intro (Below.chain H3.out.2.2.1 b4) (And.intro o4.at H3.out.2.2.2))))
          clear o4 b4 HC2 d0 d3 H3
          obtain ⟨PF, hPF⟩ : ∃ PF, PK.flatten = PF := ⟨_, rfl⟩
          obtain ⟨QF, hQF⟩ : ∃ QF, PP.flatten = QF := ⟨_, rfl⟩
          rw [hPF, hQF] at H4
          clear hPF hQF
          go_wp2_with (at_builtin; refine wpList_append_at rfl (.tmp 42) (.tmp 47) rfl (base := w1.heap.size) (l := PF) (m := QF) H4.out.2.1 H4.out.2.2.2.1 (by have := H4.out.2.2.2.2.1; omega) H4.out.2.2.1.size ?_)
          intro v5 w5 o5 g5 hat5
          have H5 := hide (And.intro (msg_append H4.out.1 H4.out.2.1 g5 hat5) (And.intro o5 (And.intro (below_gr H4.out.2.2.1 H4.out.2.1 (Nat.le_refl _) g5) (And.intro H4.out.2.2.2.2.2.1 H4.out.2.2.2.2.2.2))))
          clear o5 g5 hat5 H4
          go_wp2
          go_roundw
          case rel => exact ⟨k + 1, by omega, by go_num, by rw [H5.out.2.2.2.2]; exact H5.out.1, by rw [H5.out.2.2.2.1]; exact H5.out.2.1, H5.out.2.2.1⟩
          case measure => simp [intOf]; omega
      · obtain rfl : k = ps.length := by omega
        rw [List.take_of_length_le (Nat.le_refl _)] at hM hO
        obtain ⟨PC, hPC⟩ : ∃ PC, pieces ps = PC := ⟨_, rfl⟩
        have hsm := HSM.out
        rw [hPC] at hM hO hsm
        obtain ⟨FL, hFL⟩ : ∃ FL, PC.flatten = FL := ⟨_, rfl⟩
        rw [hFL] at hO
        have HM := hide hM.plain
        have HW := hide hO.at
        have HS := hide (show PC.length ≤ 100000 ∧ PC.flatten.length ≤ 100000000 ∧ PC.flatten = FL from ⟨by omega, by omega, hFL⟩)
        have HBB := hide (Below.chain HB.out hB)
        clear hM hO hB hPC hFL hsm hk
        obtain ⟨g, hg⟩ : ∃ g, w1.heap.size = g := ⟨_, rfl⟩
        rw [hg] at HM ⊢
        clear hg
        go_wp2_with fail
        refine wp_region_typed (tys := fun ix_ => List.getD [ism g PC, isb (FL), isv (.string (sob (FL))), isv (.bool true), isv (.int .u64 (n : Int)), isb (vbn n), isv (.string (sob (vbn n))), isv (.int .i64 m), isv (.int .u64 ((zig m : Nat) : Int)), isv (.int .i64 (zag n))] ix_ anyv) (pre := [(1, 4), (5, 0), (6, 1)])
          (plan := [([(5, 0)], 0), ([(50, 0)], 1), ([(51, 1)], 2), ([(6, 1)], 1), ([(53, 1)], 2), ([(52, 2), (54, 2)], 3), ([(55, 3)], 3), ([(56, 3), (1, 4)], 4), ([(56, 3), (57, 4)], 5), ([(56, 3), (58, 5)], 6), ([(56, 3), (1, 4)], 4), ([(56, 3), (60, 4)], 5), ([(56, 3), (61, 5)], 6), ([(56, 3), (59, 6), (62, 6)], 3), ([(56, 3), (63, 3)], 3), ([(64, 3)], 3), ([(65, 3), (1, 4)], 4), ([(65, 3), (66, 4)], 7), ([(65, 3), (67, 7)], 8), ([(65, 3), (1, 4)], 4), ([(65, 3), (69, 4)], 7), ([(65, 3), (70, 7)], 8), ([(65, 3), (68, 8), (71, 8)], 3), ([(65, 3), (72, 3)], 3), ([(73, 3)], 3), ([(74, 3), (1, 4)], 4), ([(74, 3), (75, 4)], 9), ([(74, 3), (1, 4)], 4), ([(74, 3), (77, 4)], 9), ([(74, 3), (76, 9), (78, 9)], 3), ([(74, 3), (79, 3)], 3), ([(80, 3)], 3), ([(81, 3)], 3), ([(81, 3), (82, 3)], 3), ([(83, 3)], 3)])
          (by kernel_rfl) 84 (by kernel_rfl) rfl ⟨rfl, ⟨⟨rfl, HM.out⟩, ⟨HW.out, trivial⟩⟩⟩
            (OkL.cons (fun a w X_ h => g_move (wanted_none rfl) (.inl rfl) h.1)
            (OkL.cons (fun a w X_ h => g_call1 (wanted_none rfl) (by kernel_rfl) rfl (h_bytes h.1 HS.out.1 HS.out.2.1 HS.out.2.2))
            (OkL.cons (fun a w X_ h => g_str (wanted_none rfl) rfl h.1 rfl)
            (OkL.cons (fun a w X_ h => g_move (wanted_none rfl) (.inl rfl) h.1)
            (OkL.cons (fun a w X_ h => g_str (wanted_none rfl) rfl h.1 rfl)
            (OkL.cons (fun a w X_ h => g_eqs (wanted_none rfl) rfl h.1 h.2.1 (sob_t rfl))
            (OkL.cons (fun a w X_ h => g_move (wanted_none rfl) (.inl rfl) h.1)
            (OkL.cons (fun a w X_ h => g_move (wanted_some rfl rfl h.1) (.inl rfl) h.2.1)
            (OkL.cons (fun a w X_ h => g_call1 (wanted_some rfl rfl h.1) (by kernel_rfl) rfl (h_varw h.2.1 HN.out.1))
            (OkL.cons (fun a w X_ h => g_str (wanted_some rfl rfl h.1) rfl h.2.1 rfl)
            (OkL.cons (fun a w X_ h => g_move (wanted_some rfl rfl h.1) (.inl rfl) h.2.1)
            (OkL.cons (fun a w X_ h => g_call1 (wanted_some rfl rfl h.1) (by kernel_rfl) rfl (h_varr h.2.1 HN.out.1))
            (OkL.cons (fun a w X_ h => g_str (wanted_some rfl rfl h.1) rfl h.2.1 rfl)
            (OkL.cons (fun a w X_ h => g_eqs (wanted_some rfl rfl h.1) rfl h.2.1 h.2.2.1 (sob_t rfl))
            (OkL.cons (fun a w X_ h => g_pick (wanted_none rfl) rfl h.1 h.2.1)
            (OkL.cons (fun a w X_ h => g_move (wanted_none rfl) (.inl rfl) h.1)
            (OkL.cons (fun a w X_ h => g_move (wanted_some rfl rfl h.1) (.inl rfl) h.2.1)
            (OkL.cons (fun a w X_ h => g_conv (wanted_some rfl rfl h.1) rfl (u := .int .i64 m) (by rw [show a.eval (.tmp 66) = .int .u64 (n : Int) from h.2.1]; exact HCV.out _) rfl)
            (OkL.cons (fun a w X_ h => g_call1 (wanted_some rfl rfl h.1) (by kernel_rfl) rfl (h_zigw h.2.1 HN.out.2))
            (OkL.cons (fun a w X_ h => g_move (wanted_some rfl rfl h.1) (.inl rfl) h.2.1)
            (OkL.cons (fun a w X_ h => g_conv (wanted_some rfl rfl h.1) rfl (u := .int .i64 m) (by rw [show a.eval (.tmp 69) = .int .u64 (n : Int) from h.2.1]; exact HCV.out _) rfl)
            (OkL.cons (fun a w X_ h => g_call1 (wanted_some rfl rfl h.1) (by kernel_rfl) rfl (h_zigr h.2.1 HN.out.2))
            (OkL.cons (fun a w X_ h => g_bin (wanted_some rfl rfl h.1) rfl (v := .bool true) (by rw [show a.eval (.tmp 68) = .int .u64 ((zig m : Nat) : Int) from h.2.1, show a.eval (.tmp 71) = .int .u64 ((zig m : Nat) : Int) from h.2.2.1]; go_simp) rfl)
            (OkL.cons (fun a w X_ h => g_pick (wanted_none rfl) rfl h.1 h.2.1)
            (OkL.cons (fun a w X_ h => g_move (wanted_none rfl) (.inl rfl) h.1)
            (OkL.cons (fun a w X_ h => g_move (wanted_some rfl rfl h.1) (.inl rfl) h.2.1)
            (OkL.cons (fun a w X_ h => g_call1 (wanted_some rfl rfl h.1) (by kernel_rfl) rfl (h_zagw h.2.1 HN.out.1))
            (OkL.cons (fun a w X_ h => g_move (wanted_some rfl rfl h.1) (.inl rfl) h.2.1)
            (OkL.cons (fun a w X_ h => g_call1 (wanted_some rfl rfl h.1) (by kernel_rfl) rfl (h_zagr h.2.1 HN.out.1))
            (OkL.cons (fun a w X_ h => g_bin (wanted_some rfl rfl h.1) rfl (v := .bool true) (by rw [show a.eval (.tmp 76) = .int .i64 (zag n) from h.2.1, show a.eval (.tmp 78) = .int .i64 (zag n) from h.2.2.1]; go_simp) rfl)
            (OkL.cons (fun a w X_ h => g_pick (wanted_none rfl) rfl h.1 h.2.1)
            (OkL.cons (fun a w X_ h => g_move (wanted_none rfl) (.inl rfl) h.1)
            (OkL.cons (fun a w X_ h => g_call0 (wanted_some rfl rfl h.1) (by kernel_rfl) rfl (h_awake))
            (OkL.cons (fun a w X_ h => g_pick (wanted_none rfl) rfl h.1 h.2.1)
            (OkL.cons (fun a w X_ h => g_move (wanted_none rfl) (.inr rfl) h.1)
            OkL.nil))))))))))))))))))))))))))))))))))) ?_
        rintro w9 X9 v50 - v51 - _ rfl v53 - _ rfl _ rfl _ rfl _ rfl v58 - _ rfl _ rfl v61 - _ rfl _ rfl _ rfl _ rfl _ rfl _ rfl _ rfl _ rfl _ rfl _ rfl _ rfl _ rfl _ rfl _ rfl _ rfl _ rfl _ rfl _ rfl _ rfl _ rfl _ rfl _ rfl _ rfl
        refine FinL.done ?_
        simp only [Act.put, List.setIfInBounds_toArray, List.set_cons_zero, List.set_cons_succ]
        replace HBB := hide (Below.chain HBB.out X9)
        clear X9
        go_wp2
        go_ret
        exact ⟨rfl, HBB.out⟩
theorem conv_i64 (n : Nat) : ∃ m : Int, (-9223372036854775808 ≤ m ∧ m ≤ 9223372036854775807) ∧ ∀ W : World, (convert 23 2 (.int .u64 (n : Int))).run Try.prog W = .ok (.int .i64 m) W := by
  refine ⟨wrap64 (n : Int), by unfold wrap64; omega, fun W => ?_⟩
  go_simp
  rw [IntKind.wrap_i64]; unfold wrap64; omega
theorem forms_walk (v : Value) (ps : List Pu) (n : Nat) (w : World) (h : PsAt w v ps) (hn : n < 18446744073709551616) :
    Calls Try.prog 3 #[v, .int .u64 (n : Int)] w fun e w' => e = .returned (.bool true) ∧ Below w.heap.size w w' := by
  obtain ⟨m, hm, hc⟩ := conv_i64 n
  exact forms_few h hn m hm hc
end Go.Proofs.Ytogegmdimfinaaa
