/- The page's own fields, read. -/
import Derived.Test.YtogegmdimfinaaaPbA
namespace Go.Proofs.Ytogegmdimfinaaa
open Go.RowKit
theorem and7 (t : Nat) (h : t < 18446744073709551616) : bits .and .u64 (t : Int) 7 = ((t % 8 : Nat) : Int) := by
  have := bits_and_u64_nat t 7 h (by omega)
  rw [show t &&& 7 = t % 8 from Nat.and_two_pow_sub_one_eq_mod t 3] at this
  exact this
set_option maxRecDepth 100000 in
set_option maxHeartbeats 4000000 in
theorem rFields_any {v : Value} {l : List Nat} {w : World} (h : BsAt w v l) : Calls Try.prog 23 #[v] w fun e w' => ∃ u, e = .returned (.tuple #[u, .int .i64 ((rdF l).err : Int)]) ∧ FsAt 53 w' w.heap.size u (rdF l).got ∧ Below w.heap.size w w' := by
  by_cases hl : l.length ≤ 65536
  · obtain ⟨R, hR⟩ : ∃ R, rdF l = R := ⟨_, rfl⟩
    rw [hR]
    unfold rdF at hR
    rw [if_pos hl] at hR
    have H0 := hide (And.intro h (And.intro hR hl))
    obtain ⟨va, vc, rfl, _, _⟩ := h.len
    have hd : decide ((65536 : Int) < (l.length : Int)) = false := decide_eq_false (by omega)
    clear h hR hl
    go_enter Try.func23, Try.ntmps23
    go_wp2
    go_loopg [0, 4] l.length (fun k s0 s4 wr => ∃ (A : List Fld) (r : List Nat), r.length ≤ k ∧ BsAt w s0 r ∧ FsAt 53 wr w.heap.size s4 A ∧ (flds k r).behind A = R ∧ limB r ∧ A.length + r.length ≤ 65536 ∧ Below w.heap.size w wr)
    case atStart =>
      refine ⟨[], l, Nat.le_refl _, H0.out.1, FsAt.nil _ _ _, ?_, H0.out.1.limB, by have := H0.out.2.2; simp; omega, Below.refl _ _⟩
      rw [H0.out.2.1]; cases R <;> rfl
    case round =>
      obtain ⟨A, r, hk, hb, hF, hR, hlr, hAr, hB⟩ := hrel
      obtain ⟨ra, rc, rfl, _, _⟩ := hb.len
      have HX := hide (And.intro hk (And.intro hb (And.intro hF (And.intro hR (And.intro hlr (And.intro hAr hB))))))
      clear hk hb hF hR hlr hAr hB
      by_cases hr0 : 0 < r.length
      · obtain ⟨k', hk'⟩ : ∃ k', gk = k' + 1 := ⟨gk - 1, by have := HX.out.1; omega⟩
        have HK := hide hk'
        have hrne := hide (show r ≠ [] from fun e => by subst e; simp at hr0)
        clear hk'
        have HV := hide (varint_rr (HX.out.2.1.ext HX.out.2.2.2.2.2.2))
        cases hrv : rv 0 0 r with
        | bad e =>
          rw [hrv] at HV
          have hne : ((e : Int) != 0) = true := by rcases rv_bad _ _ _ _ hrv with rfl | rfl <;> rfl
          have hRb : R = .bad e := by rw [← HX.out.2.2.2.1, HK.out, flds_bad (e := e) (by unfold fld1; rw [hrv]) hrne.out]; rfl
          have HZ := hide (And.intro hRb HX.out.2.2.2.2.2.2)
          unfold rvt at HV
          clear hRb hrv
          go_wp2_with fail
          refine HV.out.mono ?_
          rintro e w1 ⟨rfl, rfl⟩
          go_wp2
          go_ret2
          rw [HZ.out.1]
          exact ⟨_, rfl, FsAt.nil _ _ _, HZ.out.2⟩
        | ok tag kk =>
          rw [hrv] at HV
          unfold rvt at HV
          obtain ⟨ht64, hkl, hdr, hkle⟩ := rv_dec HX.out.2.2.2.2.1 hrv
          obtain ⟨vd, sd, _, bd⟩ := slice_from HX.out.2.1 kk hkle
          have e7 := and7 tag ht64
          have HRV := hide (And.intro hrv (And.intro bd ht64))
          obtain ⟨q, hq⟩ : ∃ q, tag / 8 = q := ⟨_, rfl⟩
          obtain ⟨m, hm⟩ : ∃ m, tag % 8 = m := ⟨_, rfl⟩
          have es : (tag : Int) / 8 = (q : Int) := by omega
          rw [hm] at e7
          have HQM := hide (And.intro hq hm)
          obtain ⟨r1, hr1⟩ : ∃ r1, r.drop kk = r1 := ⟨_, rfl⟩
          rw [hr1] at bd HRV
          have HR1 := hide hr1
          obtain ⟨da, dc, hvd, _, _⟩ := bd.len
          subst hvd
          clear hr1
          have hq64 : q < 2305843009213693952 := by omega
          clear hrv bd hdr hkl hq hm
          by_cases hc : (q < 1 ∨ 100 < q) ∨ (m ≠ 0 ∧ m ≠ 2)
          · have hRb : R = .bad 3 := by rw [← HX.out.2.2.2.1, HK.out, flds_bad (fld1_bad3 HRV.out.1 (by rw [HQM.out.1, HQM.out.2]; exact hc)) hrne.out]; rfl
            have HZ := hide (And.intro hRb HX.out.2.2.2.2.2.2)
            clear hRb
            go_wp2_with fail
            refine HV.out.mono ?_
            rintro e w1 ⟨rfl, rfl⟩
            by_cases hmm : m ≠ 0 ∧ m ≠ 2
            · have f0 : ((m : Int) != 0) = true := by simp; omega
              have f2 : ((m : Int) != 2) = true := by simp; omega
              clear hc hmm
              go_wp2
              go_ret2
              rw [HZ.out.1]
              exact ⟨_, rfl, FsAt.nil _ _ _, HZ.out.2⟩
            · have hm02 : m = 0 ∨ m = 2 := by omega
              by_cases hq1 : q < 1
              · obtain rfl : q = 0 := by omega
                rcases hm02 with rfl | rfl
                all_goals
                  clear hc hmm hq1
                  go_wp2
                  go_ret2
                  rw [HZ.out.1]
                  exact ⟨_, rfl, FsAt.nil _ _ _, HZ.out.2⟩
              · have hq100 : 100 < q := by omega
                have hd1 : decide ((q : Int) < 1) = false := decide_eq_false (by omega)
                have hd2 : decide ((100 : Int) < (q : Int)) = true := decide_eq_true (by omega)
                rcases hm02 with rfl | rfl
                all_goals
                  clear hc hmm
                  go_wp2
                  go_ret2
                  rw [HZ.out.1]
                  exact ⟨_, rfl, FsAt.nil _ _ _, HZ.out.2⟩
          · have hd1 : decide ((q : Int) < 1) = false := decide_eq_false (by omega)
            have hd2 : decide ((100 : Int) < (q : Int)) = false := decide_eq_false (by omega)
            have hf1 := fld1_go HRV.out.1 (by rw [HQM.out.1, HQM.out.2]; exact hc)
            rw [HQM.out.1, HQM.out.2] at hf1
            have HF1 := hide hf1
            have hq100 : q ≤ 100 := by omega
            have hm02 : m = 0 ∨ m = 2 := by omega
            clear hf1 hc
            go_wp2_with fail
            refine HV.out.mono ?_
            rintro e w1 ⟨rfl, hw1⟩
            replace hw1 := hw1.symm
            subst hw1
            rcases hm02 with rfl | rfl
            · have bA := alloc_below wr (.cells #[.int .i64 (q : Int), .bool false, .int .u64 0, .slice none 0 0] 53)
              have HV2 := hide (varint_rr ((HRV.out.2.1.ext HX.out.2.2.2.2.2.2).ext bA))
              cases hrv2 : rv 0 0 r1 with
              | bad e =>
                rw [hrv2] at HV2
                unfold rvt at HV2
                have hne : ((e : Int) != 0) = true := by rcases rv_bad _ _ _ _ hrv2 with rfl | rfl <;> rfl
                have hRb : R = .bad e := by rw [← HX.out.2.2.2.1, HK.out, flds_bad (e := e) (by rw [HF1.out, HR1.out]; exact fld2_bad hrv2) hrne.out]; rfl
                have HZ := hide (And.intro hRb (Below.chain HX.out.2.2.2.2.2.2 bA))
                clear hRb hrv2 bA
                go_wp2_with fail
                refine HV2.out.mono ?_
                rintro e w2 ⟨rfl, hw2⟩
                replace hw2 := hw2.symm
                subst hw2
                go_wp2
                go_ret2
                rw [HZ.out.1]
                exact ⟨_, rfl, FsAt.nil _ _ _, HZ.out.2⟩
              | ok n k2 =>
                rw [hrv2] at HV2
                unfold rvt at HV2
                obtain ⟨hn64, -, hdr2, hk2⟩ := rv_dec HRV.out.2.1.limB hrv2
                obtain ⟨v2, sd2, _, bd2⟩ := slice_from HRV.out.2.1 k2 hk2
                have hf : fld1 r = .ok ⟨q, false, n, []⟩ (r1.drop k2) := by rw [HF1.out, HR1.out]; exact fld2_num hrv2
                obtain ⟨r2, hr2⟩ : ∃ r2, r1.drop k2 = r2 := ⟨_, rfl⟩
                rw [hr2] at bd2 hf
                obtain ⟨ea, ec, hv2, _, _⟩ := bd2.len
                subst hv2
                have H2 := hide (And.intro bd2 hf)
                clear bd2 hf hr2 hrv2 hdr2 hn64 bA
                go_wp2_with fail
                refine HV2.out.mono ?_
                rintro e w2 ⟨rfl, hw2⟩
                replace hw2 := hw2.symm
                subst hw2
                have b1 := hide (Below.chain (alloc_below wr (.cells #[.int .i64 (q : Int), .bool false, .int .u64 (n : Int), .slice none 0 0] 53)) (alloc_below _ (.cells #[.int .i64 (q : Int), .bool false, .int .u64 (n : Int), .slice none 0 0] 53)))
                go_wp2_with (at_builtin; refine wpList_append_fld appR (by decide) rfl (.tmp 82) (.tmp 84) rfl (base := w.heap.size) (fs := A) ⟨q, false, n, []⟩ (bv := .slice none 0 0) (HX.out.2.2.1.ext b1.out) (own_nil _ _ (Nat.le_trans HX.out.2.2.2.2.2.2.size b1.out.size)) rfl (by have h9 := heap_alloc_last (wr.alloc (.cells #[.int .i64 (q : Int), .bool false, .int .u64 (n : Int), .slice none 0 0] 53)) (.cells #[.int .i64 (q : Int), .bool false, .int .u64 (n : Int), .slice none 0 0] 53); simpa using h9) (by have := HX.out.2.2.2.2.2.1; omega) (Nat.le_trans HX.out.2.2.2.2.2.2.size b1.out.size) ?_)
                intro v5 w5 hF5 hg5 _ hk5
                have hB5 : Below w.heap.size w w5 := (Below.chain HX.out.2.2.2.2.2.2 b1.out).grown hg5 (Below.chain HX.out.2.2.2.2.2.2 b1.out).size hk5
                have hd2 := fld1_dec HX.out.2.2.2.2.1 H2.out.2
                have htl : r2.length ≤ k' ∧ (A ++ [(⟨q, false, n, []⟩ : Fld)]).length + r2.length ≤ 65536 := by
                  have h3 := enc_pos (⟨q, false, n, []⟩ : Fld)
                  have h4 := congrArg List.length hd2.2
                  rw [List.length_append] at h4
                  have h5 := HX.out.1
                  have h6 := HX.out.2.2.2.2.2.1
                  have h7 := HK.out
                  simp only [List.length_append, List.length_cons, List.length_nil]
                  omega
                have hRk : (flds k' r2).behind (A ++ [⟨q, false, n, []⟩]) = R := by
                  rw [← HX.out.2.2.2.1, HK.out, flds_cons H2.out.2 hrne.out]
                  cases flds k' r2 <;> simp [Rs.behind]
                have hlt : limB r2 := fun c hc => HX.out.2.2.2.2.1 c (by rw [hd2.2]; simp [hc])
                have F := hide (And.intro hF5 (And.intro hB5 (And.intro htl (And.intro hRk (And.intro hlt H2.out.1)))))
                clear hF5 hg5 hk5 hB5 hd2 htl hRk hlt
                go_wp2
                go_roundg k'
                case measure => have := HK.out; omega
                case rel => exact ⟨A ++ [⟨q, false, n, []⟩], r2, F.out.2.2.1.1, F.out.2.2.2.2.2, F.out.1, F.out.2.2.2.1, F.out.2.2.2.2.1, F.out.2.2.1.2, F.out.2.1⟩
            · have bA := alloc_below wr (.cells #[.int .i64 (q : Int), .bool true, .int .u64 0, .slice none 0 0] 53)
              have HV2 := hide (varint_rr ((HRV.out.2.1.ext HX.out.2.2.2.2.2.2).ext bA))
              cases hrv2 : rv 0 0 r1 with
              | bad e =>
                rw [hrv2] at HV2
                unfold rvt at HV2
                have hne : ((e : Int) != 0) = true := by rcases rv_bad _ _ _ _ hrv2 with rfl | rfl <;> rfl
                have hRb : R = .bad e := by rw [← HX.out.2.2.2.1, HK.out, flds_bad (e := e) (by rw [HF1.out, HR1.out]; exact fld2_bad hrv2) hrne.out]; rfl
                have HZ := hide (And.intro hRb (Below.chain HX.out.2.2.2.2.2.2 bA))
                clear hRb hrv2 bA
                go_wp2_with fail
                refine HV2.out.mono ?_
                rintro e w2 ⟨rfl, hw2⟩
                replace hw2 := hw2.symm
                subst hw2
                go_wp2
                go_ret2
                rw [HZ.out.1]
                exact ⟨_, rfl, FsAt.nil _ _ _, HZ.out.2⟩
              | ok n k2 =>
                rw [hrv2] at HV2
                unfold rvt at HV2
                obtain ⟨hn64, -, hdr2, hk2⟩ := rv_dec HRV.out.2.1.limB hrv2
                obtain ⟨v2, sd2, _, bd2⟩ := slice_from HRV.out.2.1 k2 hk2
                obtain ⟨r2, hr2⟩ : ∃ r2, r1.drop k2 = r2 := ⟨_, rfl⟩
                rw [hr2] at bd2
                obtain ⟨ea, ec, hv2, _, _⟩ := bd2.len
                subst hv2
                have hl2 : r2.length ≤ 65536 := by
                  have h1 := HX.out.2.2.2.2.2.1
                  have h2 := congrArg List.length HR1.out
                  have h3 := congrArg List.length hr2
                  simp only [List.length_drop] at h2 h3
                  omega
                have ew : IntKind.u64.wrap ((r2.length : Nat) : Int) = ((r2.length : Nat) : Int) := by rw [IntKind.wrap_u64]; omega
                by_cases hn : r2.length < n
                · have hd3 : decide ((r2.length : Int) < (n : Int)) = true := decide_eq_true (by omega)
                  have hRb : R = .bad 2 := by rw [← HX.out.2.2.2.1, HK.out, flds_bad (e := 2) (by rw [HF1.out, HR1.out]; exact fld2_short hrv2 (by rw [hr2]; exact hn)) hrne.out]; rfl
                  have HZ := hide (And.intro hRb (Below.chain HX.out.2.2.2.2.2.2 bA))
                  clear hRb hrv2 bA bd2 hr2 hdr2
                  go_wp2_with fail
                  refine HV2.out.mono ?_
                  rintro e w2 ⟨rfl, hw2⟩
                  replace hw2 := hw2.symm
                  subst hw2
                  go_wp2
                  go_ret2
                  rw [HZ.out.1]
                  exact ⟨_, rfl, FsAt.nil _ _ _, HZ.out.2⟩
                · have hd3 : decide ((r2.length : Int) < (n : Int)) = false := decide_eq_false (by omega)
                  obtain ⟨vt, _, st, bt⟩ := slice_upto bd2 n (by omega)
                  obtain ⟨v3, _, sd3, bd3⟩ := slice_from bd2 n (by omega)
                  have hf : fld1 r = .ok ⟨q, true, 0, r2.take n⟩ (r2.drop n) := by
                    rw [HF1.out, HR1.out]
                    have h1 := fld2_whole (num := q) hrv2 (by rw [hr2]; exact hn)
                    rw [hr2] at h1
                    exact h1
                  have htl2 : (r2.take n).length ≤ 65536 := by rw [List.length_take]; omega
                  obtain ⟨r3, hr3⟩ : ∃ r3, r2.drop n = r3 := ⟨_, rfl⟩
                  obtain ⟨tb, htb⟩ : ∃ tb, r2.take n = tb := ⟨_, rfl⟩
                  rw [hr3] at bd3 hf
                  rw [htb] at bt hf htl2
                  obtain ⟨fa, fc, hv3, _, _⟩ := bd3.len
                  subst hv3
                  have H2 := hide (And.intro bd3 hf)
                  have HT := hide (And.intro bt htl2)
                  clear bd2 bd3 bt hf hr2 hr3 htb hrv2 hdr2 hn64 bA htl2
                  go_wp2_with fail
                  refine HV2.out.mono ?_
                  rintro e w2 ⟨rfl, hw2⟩
                  replace hw2 := hw2.symm
                  subst hw2
                  have b1 := hide (alloc_below wr (.cells #[.int .i64 (q : Int), .bool true, .int .u64 0, .slice none 0 0] 53))
                  have O0 := hide (own_nil (wr.alloc (.cells #[.int .i64 (q : Int), .bool true, .int .u64 0, .slice none 0 0] 53)) _ (Nat.le_refl _))
                  go_wp2_with (at_builtin; refine wpList_append_b rfl (.const (.slice none 0 0)) (.tmp 74) rfl (base := (wr.alloc (.cells #[.int .i64 (q : Int), .bool true, .int .u64 0, .slice none 0 0] 53)).heap.size) (l := []) (m := tb) O0.out (HT.out.1.ext (Below.chain HX.out.2.2.2.2.2.2 b1.out)) (by have := HT.out.2; simp; omega) (Nat.le_refl _) ?_)
                  intro ub w4 o4 g4
                  have hb4 := below_gr (Below.refl _ _) O0.out (Nat.le_refl _) g4
                  have hrow4 := Below.heap hb4 (by simp) (heap_alloc_last wr (.cells #[.int .i64 (q : Int), .bool true, .int .u64 0, .slice none 0 0] 53))
                  obtain ⟨x4, y4⟩ := row_reads hrow4
                  have q0 := x4 0
                  have q1 := x4 1
                  have q2 := x4 2
                  have q3 := x4 3
                  have z3 := y4 3
                  simp only [List.getElem?_toArray, List.getElem?_cons_zero, List.getElem?_cons_succ] at q0 q1 q2 q3
                  obtain ⟨ua, uc, hub, _, _⟩ := o4.at.len
                  subst hub
                  have hs4 : wr.heap.size + 1 ≤ w4.heap.size := by have := hb4.size; simpa using this
                  have hne4 : wr.heap.size ≠ w4.heap.size := by omega
                  have b5 : Below wr.heap.size wr (w4.setCell ⟨wr.heap.size, 3, none⟩ (.slice ua tb.length uc)) := Below.setCell (Below.chain b1.out hb4) (Nat.le_refl _) _
                  have b6 := Below.chain b5 (alloc_below _ (.cells #[.int .i64 (q : Int), .bool true, .int .u64 0, .slice ua tb.length uc] 53))
                  have O6 := hide (((o4.keep (w' := w4.setCell ⟨wr.heap.size, 3, none⟩ (.slice ua tb.length uc)) (fun k hk => Below.heap_setCell _ ⟨wr.heap.size, 3, none⟩ _ k (by show k ≠ wr.heap.size; omega))).ext (alloc_below _ (.cells #[.int .i64 (q : Int), .bool true, .int .u64 0, .slice ua tb.length uc] 53))).low (show w.heap.size ≤ wr.heap.size + 1 from Nat.le_succ_of_le HX.out.2.2.2.2.2.2.size))
                  have B6 := hide b6
                  have L6 := heap_alloc_last (w4.setCell ⟨wr.heap.size, 3, none⟩ (.slice ua tb.length uc)) (.cells #[.int .i64 (q : Int), .bool true, .int .u64 0, .slice ua tb.length uc] 53)
                  rw [show (w4.setCell ⟨wr.heap.size, 3, none⟩ (.slice ua tb.length uc)).heap.size = w4.heap.size by simp] at L6
                  have HL6 := hide L6
                  clear hrow4 x4 y4 o4 g4 hb4 b5 b6 L6 O0 HT st
                  go_wp2_with (at_builtin; refine wpList_append_fld appR (by decide) rfl (.tmp 82) (.tmp 84) rfl (base := w.heap.size) (fs := A) ⟨q, true, 0, tb⟩ (bv := .slice ua tb.length uc) (HX.out.2.2.1.ext B6.out) O6.out rfl HL6.out (by have := HX.out.2.2.2.2.2.1; omega) (Nat.le_trans HX.out.2.2.2.2.2.2.size B6.out.size) ?_)
                  intro v5 w5 hF5 hg5 _ hk5
                  have hB5 : Below w.heap.size w w5 := (Below.chain HX.out.2.2.2.2.2.2 B6.out).grown hg5 (Below.chain HX.out.2.2.2.2.2.2 B6.out).size hk5
                  clear q0 q1 q2 q3 z3
                  have hd2 := fld1_dec HX.out.2.2.2.2.1 H2.out.2
                  have htl : r3.length ≤ k' ∧ (A ++ [(⟨q, true, 0, tb⟩ : Fld)]).length + r3.length ≤ 65536 := by
                    have h3 := enc_pos (⟨q, true, 0, tb⟩ : Fld)
                    have h4 := congrArg List.length hd2.2
                    rw [List.length_append] at h4
                    have h5 := HX.out.1
                    have h6 := HX.out.2.2.2.2.2.1
                    have h7 := HK.out
                    simp only [List.length_append, List.length_cons, List.length_nil]
                    omega
                  have hRk : (flds k' r3).behind (A ++ [⟨q, true, 0, tb⟩]) = R := by
                    rw [← HX.out.2.2.2.1, HK.out, flds_cons H2.out.2 hrne.out]
                    cases flds k' r3 <;> simp [Rs.behind]
                  have hlt : limB r3 := fun c hc => HX.out.2.2.2.2.1 c (by rw [hd2.2]; simp [hc])
                  have F := hide (And.intro hF5 (And.intro hB5 (And.intro htl (And.intro hRk (And.intro hlt H2.out.1)))))
                  clear hF5 hg5 hk5 hB5 hd2 htl hRk hlt
                  go_wp2
                  go_roundg k'
                  case measure => have := HK.out; omega
                  case rel => exact ⟨A ++ [⟨q, true, 0, tb⟩], r3, F.out.2.2.1.1, F.out.2.2.2.2.2, F.out.1, F.out.2.2.2.1, F.out.2.2.2.2.1, F.out.2.2.1.2, F.out.2.1⟩
      · obtain rfl : r = [] := List.eq_nil_of_length_eq_zero (by omega)
        have hRk : R = .ok A := by
          rw [← HX.out.2.2.2.1]
          cases gk <;> simp [flds, Rs.behind]
        have F := hide (And.intro hRk (And.intro HX.out.2.2.1 HX.out.2.2.2.2.2.2))
        clear hRk HX hr0
        go_wp2
        go_ret2
        rw [F.out.1]
        exact ⟨_, rfl, F.out.2.1, F.out.2.2⟩
  · have hR : rdF l = .bad 4 := by unfold rdF; rw [if_neg hl]
    rw [hR]
    obtain ⟨va, vc, rfl, _, _⟩ := h.len
    have hd : decide ((65536 : Int) < (l.length : Int)) = true := decide_eq_true (by omega)
    clear h hR
    go_enter Try.func23, Try.ntmps23
    go_wp2
    go_ret2
    exact ⟨_, rfl, FsAt.nil _ _ _, Below.refl _ _⟩
end Go.Proofs.Ytogegmdimfinaaa
