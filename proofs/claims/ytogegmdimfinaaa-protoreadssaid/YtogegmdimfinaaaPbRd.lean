/- Any bytes, near fields or far from them: the program reads as the page reads: the law ProtoReads answers true for all inputs. -/
import Derived.Test.YtogegmdimfinaaaPbS
import Derived.Test.YtogegmdimfinaaaPbT
namespace Go.Proofs.Ytogegmdimfinaaa
open Go.RowKit
theorem Own.set {w : World} {base g cap k : Nat} {l : List Nat} (h : Own w base (.slice (some ⟨g, 0, none⟩) k cap) l) (j n : Nat) (hn : n < 256) : Own (w.setCell ⟨g, j, none⟩ (.int .u8 (n : Int))) base (.slice (some ⟨g, 0, none⟩) k cap) (l.set j n) := by
  have hk : k = l.length := by
    rcases h.row.2 with ⟨e, _⟩ | ⟨_, _, _, e, _⟩
    · cases e
    · injection e
  subst hk
  exact ⟨by
    have := (h.row.stored j (.int .u8 (n : Int))).1
    rw [List.length_set, show nv (l.set j n) = (nv l).set j (.int .u8 (n : Int)) by simp [nv, List.map_set]]
    exact this, fun i => by
    by_cases e : j = i
    · subst e
      rw [List.getD_eq_getElem?_getD, List.getElem?_set]
      simp only [if_true]
      split
      · exact hn
      · decide
    · rw [getD_set_ne' e]; exact h.lim i⟩
theorem xor8 (a b : Nat) : ∃ y : Nat, y < 256 ∧ bits .xor .u8 (a : Int) (b : Int) = (y : Int) :=
  ⟨(bits .xor .u8 (a : Int) (b : Int)).toNat, by have := bits_hi_u8 .xor (a : Int) (b : Int); have := bits_lo_u8 .xor (a : Int) (b : Int); omega, by have := bits_lo_u8 .xor (a : Int) (b : Int); omega⟩
/-- A place within so many. -/
theorem place_in (z : Int) (N : Nat) (hN : 0 < N) : ∃ j : Nat, j < N ∧ (IntKind.u64.wrap z).tmod (N : Int) = (j : Int) := by
  have h3 : 0 ≤ IntKind.u64.wrap z := by rw [IntKind.wrap_u64]; omega
  rw [Int.tmod_eq_emod_of_nonneg h3]
  have h4 := Int.emod_nonneg (IntKind.u64.wrap z) (show (N : Int) ≠ 0 by omega)
  have h5 := Int.emod_lt_of_pos (IntKind.u64.wrap z) (show (0 : Int) < N by omega)
  exact ⟨(IntKind.u64.wrap z % (N : Int)).toNat, by omega, by omega⟩
theorem ix_int (w : World) (b o n c k : Nat) (hk : k < n) : (Instr.indexAt 42 (.slice (some ⟨b, o, none⟩) n c) (.int .i64 (k : Int))).run Try.prog w = .ok (.pointer (some ⟨b, o + k, none⟩)) w := by
  have h1 : decide ((k : Int) < 0) = false := decide_eq_false (by omega)
  have h2 : ¬ ((n : Int) ≤ (k : Int)) := by omega
  go_simp
theorem ix_two (a b : Value) : (∀ w : World, (Instr.index 43 (.agg #[a, b]) (.int .i64 0)).run Try.prog w = .ok a w) ∧ (∀ w : World, (Instr.index 43 (.agg #[a, b]) (.int .i64 1)).run Try.prog w = .ok b w) :=
  ⟨fun w => by kernel_rfl, fun w => by kernel_rfl⟩
set_option maxRecDepth 100000 in
set_option maxHeartbeats 8000000 in
theorem reads_walk (v pv rw : Value) (ps : List Pu) (zs : List Int) (x : Nat) (cut : Int) (raw : List Nat) (w : World) (h : PsAt w v ps) (hz : IsAt w pv zs) (hr : BsAt w rw raw) :
    Calls Try.prog 4 #[v, pv, .int .u8 (x : Int), .int .i64 cut, rw] w fun e w' => e = .returned (.bool true) ∧ Below w.heap.size w w' := by
  have HF := hide (few_any h)
  have HRW := hide hr
  obtain ⟨b, o, c, ao, rfl, hc, hl, hh⟩ := h
  obtain ⟨zb, zo, zc, zao, rfl, hzc, hzm, _, hzh⟩ := hz
  obtain ⟨ra, rc, rfl, _, _⟩ := hr.len
  have HH := hide (And.intro hh hzh)
  clear hh hzh hr
  go_enter Try.func4, Try.ntmps4
  go_wp2_with fail
  refine HF.out.mono ?_
  rintro e w1 ⟨Fw, rfl, hFw, b1⟩
  cases Fw with
  | false =>
    have HB := hide b1
    clear hFw b1
    go_wp2_with fail
    refine (awake_any w1).mono ?_
    rintro e w2 ⟨rfl, b2⟩
    have R := hide (Below.chain HB.out b2)
    clear b2
    go_wp2
    go_ret
    exact ⟨rfl, R.out⟩
  | true =>
    by_cases hr5 : raw.length ≤ 500
    · have hd5 : decide ((500 : Int) < (raw.length : Int)) = false := decide_eq_false (by omega)
      have hS := few_small (hFw rfl)
      have HB := hide b1
      have HSM := hide hS
      clear hFw b1 hS
      go_wp2
      go_loopw [34, 11] (fun i s wr => ∃ k : Nat, k ≤ ps.length ∧ i = .int .i64 (k : Int) ∧ Own wr w1.heap.size s (pieces (ps.take k)).flatten ∧ Below w1.heap.size w1 wr) (fun i _ _ => ps.length - (intOf i).toNat)
      case atStart => exact ⟨0, Nat.zero_le _, rfl, own_nil _ _ (Nat.le_refl _), Below.refl _ _⟩
      case round =>
        obtain ⟨k, hk, rfl, hO, hB⟩ := hrel
        by_cases hlt : k < ps.length
        · obtain ⟨rfl, hbb, hps⟩ := HH.out.1 (fun e => by subst e; simp at hlt)
          obtain ⟨p, hp⟩ : ∃ p, ps[k]? = some p := ⟨_, List.getElem?_eq_getElem hlt⟩
          obtain ⟨bv, hbs, ⟨hpn, hpN, hbl⟩, hcs⟩ := (hps k p hp).read hbb
          obtain ⟨c0, c1, c2, c3⟩ := hcs wr (Below.chain HB.out hB)
          have HBS := hide hbs
          have hix := fun w_ => ix_puts w_ b o ps.length c k hlt
          have hst := pieces_step ps k p hp
          have hle := pieces_le ps (k + 1)
          have hbnd : (pieces (ps.take k)).flatten.length + (putP p).flatten.length ≤ 6000 := by
            have h1 := HSM.out.2
            rw [hst, List.flatten_append, List.length_append] at hle
            omega
          have hfl : (pieces (ps.take (k + 1))).flatten = (pieces (ps.take k)).flatten ++ (putP p).flatten := by rw [hst, List.flatten_append]
          obtain ⟨ba, bc, rfl, _, _⟩ := hbs.len
          obtain ⟨PK, hPK⟩ : ∃ PK, pieces (ps.take k) = PK := ⟨_, rfl⟩
          rw [hPK] at hst hO hbnd hfl
          have b2 := alloc_below wr (.cells #[.int .i64 p.num, .bool p.whole, .int .u64 (p.n : Int), .slice ba p.b.length bc] 32)
          have HX := hide (And.intro (hO.ext b2) (And.intro (Below.chain hB b2) (And.intro hbnd (And.intro hfl (And.intro hst hpN)))))
          clear hst hO hB hbs hps hPK hbb hle hbnd hfl b2 hcs
          cases hwh : p.whole with
          | true =>
            rw [hwh] at c1 HX
            have hpp : putP p = putR p.num p.b := by unfold putP; rw [if_pos hwh]
            have HC2 : Hid (∀ W : World, Below w.heap.size w W → Calls Try.prog 12 #[.int .i64 p.num, .slice ba p.b.length bc] W fun e w' => ∃ u, e = .returned u ∧ Own w' W.heap.size u (putP p).flatten ∧ Below W.heap.size W w') := fun W hW => by rw [hpp]; exact rRaw_any (HBS.out.ext hW)
            obtain ⟨PP, hPP⟩ : ∃ PP, putP p = PP := ⟨_, rfl⟩
            rw [hPP] at HC2 HX
            clear hpp hPP
            obtain ⟨PF, hPF⟩ : ∃ PF, PK.flatten = PF := ⟨_, rfl⟩
            obtain ⟨QF, hQF⟩ : ∃ QF, PP.flatten = QF := ⟨_, rfl⟩
            rw [hPF, hQF] at HX
            rw [hQF] at HC2
            clear hPF hQF
            go_wp2_with fail
            refine (HC2.out _ (Below.chain HB.out HX.out.2.1)).mono ?_
            rintro e w4 ⟨ur, rfl, o4, b4⟩
            have H4 := hide (And.intro (HX.out.1.ext b4) (And.intro (Below.chain HX.out.2.1 b4) (And.intro o4.at (And.intro HX.out.2.2.1 (And.intro HX.out.2.2.2.1 HX.out.2.2.2.2.1)))))
            clear o4 b4 HC2 c0 c1 c2 c3 hix HX
            go_wp2_with (at_builtin; refine wpList_append_b rfl (.tmp 40) (.tmp 45) rfl (base := w1.heap.size) (l := PF) (m := QF) H4.out.1 H4.out.2.2.1 (by have := H4.out.2.2.2.1; omega) H4.out.2.1.size ?_)
            intro v5 w5 o5 g5
            have H5 := hide (And.intro o5 (And.intro (below_gr H4.out.2.1 H4.out.1 (Nat.le_refl _) g5) H4.out.2.2.2.2.1))
            clear o5 g5 H4
            go_wp2
            go_roundw
            case rel => exact ⟨k + 1, by omega, by go_num, by rw [H5.out.2.2]; exact H5.out.1, H5.out.2.1⟩
            case measure => simp [intOf]; omega
          | false =>
            rw [hwh] at c1 HX
            have hpp : putP p = putI p.num p.n := by unfold putP; rw [if_neg (by rw [hwh]; decide)]
            have HC2 : Hid (∀ W : World, Below w.heap.size w W → Calls Try.prog 14 #[.int .i64 p.num, .int .u64 (p.n : Int)] W fun e w' => ∃ u, e = .returned u ∧ Own w' W.heap.size u (putP p).flatten ∧ Below W.heap.size W w') := fun W hW => by rw [hpp]; exact rInt_any HX.out.2.2.2.2.2
            obtain ⟨PP, hPP⟩ : ∃ PP, putP p = PP := ⟨_, rfl⟩
            rw [hPP] at HC2 HX
            clear hpp hPP
            obtain ⟨PF, hPF⟩ : ∃ PF, PK.flatten = PF := ⟨_, rfl⟩
            obtain ⟨QF, hQF⟩ : ∃ QF, PP.flatten = QF := ⟨_, rfl⟩
            rw [hPF, hQF] at HX
            rw [hQF] at HC2
            clear hPF hQF
            go_wp2_with fail
            refine (HC2.out _ (Below.chain HB.out HX.out.2.1)).mono ?_
            rintro e w4 ⟨ur, rfl, o4, b4⟩
            have H4 := hide (And.intro (HX.out.1.ext b4) (And.intro (Below.chain HX.out.2.1 b4) (And.intro o4.at (And.intro HX.out.2.2.1 (And.intro HX.out.2.2.2.1 HX.out.2.2.2.2.1)))))
            clear o4 b4 HC2 c0 c1 c2 c3 hix HX
            go_wp2_with (at_builtin; refine wpList_append_b rfl (.tmp 47) (.tmp 52) rfl (base := w1.heap.size) (l := PF) (m := QF) H4.out.1 H4.out.2.2.1 (by have := H4.out.2.2.2.1; omega) H4.out.2.1.size ?_)
            intro v5 w5 o5 g5
            have H5 := hide (And.intro o5 (And.intro (below_gr H4.out.2.1 H4.out.1 (Nat.le_refl _) g5) H4.out.2.2.2.2.1))
            clear o5 g5 H4
            go_wp2
            go_roundw
            case rel => exact ⟨k + 1, by omega, by go_num, by rw [H5.out.2.2]; exact H5.out.1, H5.out.2.1⟩
            case measure => simp [intOf]; omega
        · obtain rfl : k = ps.length := by omega
          rw [List.take_of_length_le (Nat.le_refl _)] at hO
          have hsm := HSM.out.2
          obtain ⟨FL, hFL⟩ : ∃ FL, (pieces ps).flatten = FL := ⟨_, rfl⟩
          rw [hFL] at hO hsm
          have HO := hide (And.intro hO hB)
          obtain ⟨ga, gc, hv, _, _⟩ := hO.at.len
          clear hO hB hFL hk
          by_cases hN : 0 < FL.length
          · obtain ⟨g, cap, hv2, hg1, hg2, hcap, hcm⟩ := HO.out.1.form hN
            subst hv2
            clear hv
            obtain ⟨N, hNN⟩ : ∃ N, FL.length = N := ⟨_, rfl⟩
            rw [hNN] at hN hcap hsm ⊢
            have hdN : decide ((0 : Int) < (N : Int)) = true := decide_eq_true (by omega)
            have eN : IntKind.u64.wrap (N : Int) = (N : Int) := by rw [IntKind.wrap_u64]; omega
            have HNN := hide (And.intro hNN hg1)
            clear hNN hg1 hg2
            go_wp2
            go_loopw [61] (fun i wq => ∃ (k : Nat) (L : List Nat), k ≤ zs.length ∧ i = .int .i64 (k : Int) ∧ L.length = N ∧ Own wq w1.heap.size (.slice (some ⟨g, 0, none⟩) N cap) L ∧ Below w1.heap.size w1 wq) (fun i _ => zs.length - (intOf i).toNat)
            case atStart => exact ⟨0, FL, Nat.zero_le _, rfl, HNN.out.1, by have h1 := HO.out.1; rw [HNN.out.1] at h1; exact h1, HO.out.2⟩
            case round =>
              obtain ⟨k, L, hk, rfl, hL, hOL, hBL⟩ := hrel
              by_cases hlt2 : k < zs.length
              · obtain ⟨rfl, hzb, hzs⟩ := HH.out.2 (fun e => by subst e; simp at hlt2)
                obtain ⟨z, hzk⟩ : ∃ z, zs[k]? = some z := ⟨_, List.getElem?_eq_getElem hlt2⟩
                have cz := (Below.cell (p := ⟨zb, zo + k, none⟩) (Below.chain HB.out hBL) hzb).trans (hzs k z hzk)
                have hzi := fun w_ => ix_int w_ zb zo zs.length zc k hlt2
                by_cases hk3 : k < 3
                · have hd3 : decide ((k : Int) < 3) = true := decide_eq_true (by omega)
                  obtain ⟨j, hj, ej⟩ := place_in z N hN
                  have cj : wr.cell? ⟨g, j, none⟩ = some (.int .u8 ((L.getD j 0 : Nat) : Int)) := by
                    have hOL2 := hOL
                    rw [← hL] at hOL2
                    rw [hOL2.row.cellAt j (by omega), nv_get L j (by omega)]
                  have fj : wr.frozen? ⟨g, j, none⟩ = false := by
                    have hOL2 := hOL
                    rw [← hL] at hOL2
                    exact hOL2.row.frozenAt j
                  have gix := fun w_ => run_ix w_ g 0 N cap j hj
                  simp only [Nat.zero_add] at gix
                  obtain ⟨y, hy, ey⟩ := xor8 (L.getD j 0) x
                  have HX := hide (And.intro hL (And.intro (hOL.set j y hy) (Below.setCell hBL (p := ⟨g, j, none⟩) HNN.out.2 (.int .u8 (y : Int)))))
                  generalize L.getD j 0 = lj at *
                  clear hL hOL hBL hzs
                  go_wp2
                  go_roundw
                  case rel => exact ⟨k + 1, L.set j y, by omega, by go_num, by rw [List.length_set]; exact HX.out.1, HX.out.2.1, HX.out.2.2⟩
                  case measure => simp [intOf]; omega
                · have hd3 : decide ((k : Int) < 3) = false := decide_eq_false (by omega)
                  have HX := hide (And.intro hL (And.intro hOL hBL))
                  clear hL hOL hBL hzs
                  go_wp2
                  go_roundw
                  case rel => exact ⟨k + 1, L, by omega, by go_num, HX.out.1, HX.out.2.1, HX.out.2.2⟩
                  case measure => simp [intOf]; omega
              · obtain rfl : k = zs.length := by omega
                obtain ⟨j, hj, ej⟩ := place_in cut N hN
                have HT0 := hide (Own.cut (k := N - j) hOL (by omega))
                have HBT := hide (Below.chain HB.out hBL)
                have hNj : N - j ≤ cap := by omega
                obtain ⟨M, hM⟩ : ∃ M, N - j = M := ⟨_, rfl⟩
                rw [hM] at HT0 hNj
                have eM : (N : Int) - (j : Int) = (M : Int) := by omega
                clear hL hOL hBL hM hk
                obtain ⟨W1, hW1⟩ : ∃ W1, wr = W1 := ⟨_, rfl⟩
                rw [hW1] at HT0 HBT ⊢
                clear hW1
                obtain ⟨LL, hLL⟩ : ∃ LL, L.take M = LL := ⟨_, rfl⟩
                rw [hLL] at HT0
                clear hLL
                have HT : Hid (BsAt W1 (.slice (some ⟨g, 0, none⟩) M cap) LL) := HT0.out.at
                clear HT0
                go_wp2
                go_loopw [94] (fun i wq => ∃ k : Nat, k ≤ 2 ∧ i = .int .i64 (k : Int) ∧ Below W1.heap.size W1 wq) (fun i _ => 2 - (intOf i).toNat)
                case atStart => exact ⟨0, by decide, rfl, Below.refl _ _⟩
                case round =>
                  obtain ⟨k, hk, rfl, hBq⟩ := hrel
                  obtain rfl | rfl | rfl : k = 0 ∨ k = 1 ∨ k = 2 := by omega
                  · have HA := hide (Fields_any (HT.out.ext hBq))
                    obtain ⟨j0, j1⟩ := ix_two (.slice (some ⟨g, 0, none⟩) M cap) (.slice ra raw.length rc)
                    have HBQ := hide hBq
                    clear hBq hk
                    go_wp2_with fail
                    refine HA.out.mono ?_
                    rintro e wa ⟨ua, rfl, fa, ba1⟩
                    have HA2 := hide (rFields_any ((HT.out.ext HBQ.out).ext ba1))
                    have HFA := hide (And.intro fa (Below.chain HBQ.out ba1))
                    clear fa ba1 HA
                    go_wp2_with fail
                    refine HA2.out.mono ?_
                    rintro e wb ⟨ub, rfl, fb, bb1⟩
                    have HA3 := hide (same_any (HFA.out.1.ext bb1) fb)
                    have HFB := hide (Below.chain HFA.out.2 bb1)
                    clear fb bb1 HA2
                    go_wp2_with fail
                    refine HA3.out.mono ?_
                    rintro e wc ⟨rfl, bc1⟩
                    have HFC := hide (Below.chain HFB.out bc1)
                    clear bc1 HA3
                    go_wp2
                    go_roundw
                    case rel => exact ⟨1, by decide, by go_num, HFC.out⟩
                    case measure => simp [intOf]
                  · have HA := hide (Fields_any (HRW.out.ext (Below.chain HBT.out hBq)))
                    obtain ⟨j0, j1⟩ := ix_two (.slice (some ⟨g, 0, none⟩) M cap) (.slice ra raw.length rc)
                    have HBQ := hide hBq
                    clear hBq hk
                    go_wp2_with fail
                    refine HA.out.mono ?_
                    rintro e wa ⟨ua, rfl, fa, ba1⟩
                    have HA2 := hide (rFields_any (HRW.out.ext (Below.chain HBT.out (Below.chain HBQ.out ba1))))
                    have HFA := hide (And.intro fa (Below.chain HBQ.out ba1))
                    clear fa ba1 HA
                    go_wp2_with fail
                    refine HA2.out.mono ?_
                    rintro e wb ⟨ub, rfl, fb, bb1⟩
                    have HA3 := hide (same_any (HFA.out.1.ext bb1) fb)
                    have HFB := hide (Below.chain HFA.out.2 bb1)
                    clear fb bb1 HA2
                    go_wp2_with fail
                    refine HA3.out.mono ?_
                    rintro e wc ⟨rfl, bc1⟩
                    have HFC := hide (Below.chain HFB.out bc1)
                    clear bc1 HA3
                    go_wp2
                    go_roundw
                    case rel => exact ⟨2, by decide, by go_num, HFC.out⟩
                    case measure => simp [intOf]
                  · have HFC := hide (Below.chain HBT.out hBq)
                    clear hBq hk
                    go_wp2_with fail
                    refine (awake_any wr).mono ?_
                    rintro e wz ⟨rfl, bz⟩
                    have R := hide (Below.chain HFC.out bz)
                    clear bz
                    go_wp2
                    go_ret
                    exact ⟨rfl, R.out⟩
          · have hdN : decide ((0 : Int) < (FL.length : Int)) = false := decide_eq_false (by omega)
            obtain rfl : FL = [] := List.eq_nil_of_length_eq_zero (by omega)
            rw [List.length_nil] at hv
            subst hv
            have HT := hide HO.out.1.at
            have HBT := hide (Below.chain HB.out HO.out.2)
            obtain ⟨W1, hW1⟩ : ∃ W1, wr = W1 := ⟨_, rfl⟩
            rw [hW1] at HT HBT ⊢
            clear hW1 hN HO
            go_wp2
            go_loopw [94] (fun i wq => ∃ k : Nat, k ≤ 2 ∧ i = .int .i64 (k : Int) ∧ Below W1.heap.size W1 wq) (fun i _ => 2 - (intOf i).toNat)
            case atStart => exact ⟨0, by decide, rfl, Below.refl _ _⟩
            case round =>
              obtain ⟨k, hk, rfl, hBq⟩ := hrel
              obtain rfl | rfl | rfl : k = 0 ∨ k = 1 ∨ k = 2 := by omega
              · have HA := hide (Fields_any (HT.out.ext hBq))
                obtain ⟨j0, j1⟩ := ix_two (.slice ga 0 gc) (.slice ra raw.length rc)
                have HBQ := hide hBq
                clear hBq hk
                go_wp2_with fail
                refine HA.out.mono ?_
                rintro e wa ⟨ua, rfl, fa, ba1⟩
                have HA2 := hide (rFields_any ((HT.out.ext HBQ.out).ext ba1))
                have HFA := hide (And.intro fa (Below.chain HBQ.out ba1))
                clear fa ba1 HA
                go_wp2_with fail
                refine HA2.out.mono ?_
                rintro e wb ⟨ub, rfl, fb, bb1⟩
                have HA3 := hide (same_any (HFA.out.1.ext bb1) fb)
                have HFB := hide (Below.chain HFA.out.2 bb1)
                clear fb bb1 HA2
                go_wp2_with fail
                refine HA3.out.mono ?_
                rintro e wc ⟨rfl, bc1⟩
                have HFC := hide (Below.chain HFB.out bc1)
                clear bc1 HA3
                go_wp2
                go_roundw
                case rel => exact ⟨1, by decide, by go_num, HFC.out⟩
                case measure => simp [intOf]
              · have HA := hide (Fields_any (HRW.out.ext (Below.chain HBT.out hBq)))
                obtain ⟨j0, j1⟩ := ix_two (.slice ga 0 gc) (.slice ra raw.length rc)
                have HBQ := hide hBq
                clear hBq hk
                go_wp2_with fail
                refine HA.out.mono ?_
                rintro e wa ⟨ua, rfl, fa, ba1⟩
                have HA2 := hide (rFields_any (HRW.out.ext (Below.chain HBT.out (Below.chain HBQ.out ba1))))
                have HFA := hide (And.intro fa (Below.chain HBQ.out ba1))
                clear fa ba1 HA
                go_wp2_with fail
                refine HA2.out.mono ?_
                rintro e wb ⟨ub, rfl, fb, bb1⟩
                have HA3 := hide (same_any (HFA.out.1.ext bb1) fb)
                have HFB := hide (Below.chain HFA.out.2 bb1)
                clear fb bb1 HA2
                go_wp2_with fail
                refine HA3.out.mono ?_
                rintro e wc ⟨rfl, bc1⟩
                have HFC := hide (Below.chain HFB.out bc1)
                clear bc1 HA3
                go_wp2
                go_roundw
                case rel => exact ⟨2, by decide, by go_num, HFC.out⟩
                case measure => simp [intOf]
              · have HFC := hide (Below.chain HBT.out hBq)
                clear hBq hk
                go_wp2_with fail
                refine (awake_any wr).mono ?_
                rintro e wz ⟨rfl, bz⟩
                have R := hide (Below.chain HFC.out bz)
                clear bz
                go_wp2
                go_ret
                exact ⟨rfl, R.out⟩
    · have hd5 : decide ((500 : Int) < (raw.length : Int)) = true := decide_eq_true (by omega)
      have HB := hide b1
      clear hFw b1
      go_wp2_with fail
      refine (awake_any w1).mono ?_
      rintro e w2 ⟨rfl, b2⟩
      have R := hide (Below.chain HB.out b2)
      clear b2
      go_wp2
      go_ret
      exact ⟨rfl, R.out⟩
end Go.Proofs.Ytogegmdimfinaaa
