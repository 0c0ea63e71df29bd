/- A point of the page's so often as bytes say, as its call answers it. -/
import Derived.Test.YtobgimpkkjaolaaGreatDoorRf2
namespace Go.Proofs.YtobgimpkkjaolaaGreatDoor
open Go.RowKit
set_option maxRecDepth 100000 in
set_option maxHeartbeats 4000000 in
theorem r_times {P : Pt} {u v : Value} {l : List Nat} {w : World} (h1 : (qp P).p w u) (h : BsAt w v l) (hl : l.length ≤ 100) : Hands Tryz.prog 17 #[u, v] w (qp (Pt.mul (bval (l.take 32)) P)) := by
  obtain ⟨C0, rfl, hq0⟩ := h1
  suffices HH : ∀ R_ : STy, (∀ W C, RP C (Pt.mul (bval (l.take 32)) P) → R_.p W (.agg C)) → Hands Tryz.prog 17 #[.agg C0, v] w R_ from HH _ (fun _ C h => ⟨C, rfl, h⟩)
  intro R_ hR_
  have HR := hide hR_
  have NP0 := hide hq0
  have HLIM := hide h.lim
  have HLIM2 := hide (take_lim h.lim 32)
  have HN : Hid (bval (l.take 32) < 2 ^ 256) := Nat.lt_of_lt_of_le (bval_lt2 _ (take_lim h.lim 32)) (Nat.pow_le_pow_right (by decide) (by rw [List.length_take]; omega))
  have HB := hide h
  obtain ⟨ao, cp, rfl, hcap, hcm⟩ := h.len
  obtain ⟨n, hn⟩ : ∃ n, l.length = n := ⟨_, rfl⟩
  rw [hn] at hl HB hcap ⊢
  have HLEN := hide hn
  obtain ⟨N, hN⟩ : ∃ N, bval (l.take 32) = N := ⟨_, rfl⟩
  rw [hN] at HR HN
  have EN := hide hN
  clear hR_ hq0 h hn hN hcap
  unfold Hands
  go_enter Tryz.func17, Tryz.ntmps17
  go_upto_region 1 with fail
  refine cut_world (fun W => Below w.heap.size w W ∧ (w.heap.size < W.heap.size ∧ W.heap[w.heap.size]? = some (.cells C0 39 (0, 0))) ∧ (w.heap.size + 1 < W.heap.size ∧ W.heap[w.heap.size + 1]? = some (.cells zq 39 (0, 0)))) ⟨below2 _ _ _, ⟨by simp; omega, heap2_0 _ _ _⟩, by simp, heap2_1 _ _ _⟩ ?_
  rintro W1 ⟨BEL, R2, R4⟩
  have SW1 := R4.1
  replace BEL := hide BEL
  replace R2 := hide R2
  replace R4 := hide R4
  have SZ := hide BEL.out.size
  refine wrl3 (tl := [qp Pt.zero]) (pre := [])
    (plan := [Pk.val [] 0, Pk.alc 39 64, Pk.sto 1 7 0])
    [] [] [] 37 (by kernel_rfl) rfl (by kernel_rfl) ⟨.inr (lull_qp _ _ _), trivial⟩
    snkAt0 snk0 trivial
   (Oc3 (fun a w X_ h => g_call0 (wq0 rfl) (by kernel_rfl) rfl (r_zero))
   (Oc3 (alc_of zq rfl rfl rfl newQ)
   (Oc3 (⟨rfl, _, _, _, rfl, rfl, rfl, by kernel_rfl, row_qp _⟩)
      OkL3.nil))) ?_
  rintro W2 X2 v7 - g5 c5 ⟨L5, Z5, -⟩ r5 H5
  refine FinL3.fill ?_
  refine Fd3 ?_
  simp only [Act.put, List.setIfInBounds_toArray, List.set_cons_zero, List.set_cons_succ]
  have N5 := hide (qp_of H5)
  have R5 := hide (And.intro Z5 r5)
  clear r5
  replace R2 := hide (X2.row out0 R2.out)
  replace R4 := hide (X2.row out0 R4.out)
  replace BEL := hide (X2.on BEL.out SZ.out none_le)
  replace SZ := hide BEL.out.size
  have SW2 := X2.size
  clear X2 H5
  go_wp2
  go_loopw [6] (fun i wr => ∃ (k : Nat) (C : Array Value), k ≤ 256 ∧ i = .int .i64 ((k : Int) - 1) ∧ RP C (Pt.mul (N / 2 ^ k) P) ∧ (g5 < wr.heap.size ∧ wr.heap[g5]? = some (.cells C 39 (0, 0))) ∧ (w.heap.size < wr.heap.size ∧ wr.heap[w.heap.size]? = some (.cells C0 39 (0, 0))) ∧ (w.heap.size + 1 < wr.heap.size ∧ wr.heap[w.heap.size + 1]? = some (.cells zq 39 (0, 0))) ∧ Below w.heap.size w wr) (fun i _ => (intOf i + 1).toNat)
  case atStart =>
    refine ⟨256, c5, Nat.le_refl _, rfl, ?_, R5.out, R2.out, R4.out, BEL.out⟩
    rw [Nat.div_eq_of_lt HN.out, mul_none]; exact N5.out
  case round =>
    clear N5 R5 R2 R4 BEL SZ
    obtain ⟨k, C, hk, rfl, hfr, hr5, hr2, hr4, hbel⟩ := hrel
    have N5 := hide hfr
    have R5 := hide hr5
    have R2 := hide hr2
    have R4 := hide hr4
    have BEL := hide hbel
    have SZ := hide BEL.out.size
    clear hfr hr5 hr2 hr4 hbel
    cases k with
    | zero =>
      go_upto_region 8 with fail
      refine wrl3 (tl := [isv (.pointer (some ⟨g5, 0, none⟩)), qp (Pt.mul (N / 2 ^ 0) P)]) (pre := [(5, 0)])
        (plan := [Pk.val [(5, 0)] 1, Pk.put 0 4 36 1])
        [] [(w.heap.size + 1, 39, 64)] [(0, 4)] 37 (by kernel_rfl) rfl (by kernel_rfl) ⟨.inr (lv0 _ _ _), ⟨.inr (lull_qp _ _ _), trivial⟩⟩
        (snkAt1 R4.out rfl rfl) (snk1 _) ⟨rfl, trivial⟩
          (Oc3 (fun a w X_ h => g_ldqp N5.out (wq0 rfl) rfl h.1 (X_.at_ R5.out.1 (out1 (by omega)) R5.out.2))
          (Oc3 (⟨rfl, _, _, _, rfl, rfl, by kernel_rfl, row_qp _⟩)
          OkL3.nil)) ?_
      rintro W3 X3 v36 - c4 r4 H4
      refine Fd3 ?_
      simp only [Act.put, List.setIfInBounds_toArray, List.set_cons_zero, List.set_cons_succ]
      have N4 := hide (qp_of H4)
      replace R4 := hide (And.intro (Nat.lt_of_lt_of_le R4.out.1 X3.size) r4)
      clear r4
      replace BEL := hide (X3.on BEL.out SZ.out (one_le (by omega)))
      clear X3
      rw [Nat.pow_zero, Nat.div_one] at N4
      go_wp2
      exact bodyPost_ret_by (results_cell_row rfl _ _ (w.heap.size + 1) 39 _ (0, 0) _ rfl R4.out.2 und36 rfl (by rw [N4.out.size]; exact sizeQ)) rfl ⟨_, rfl, BEL.out, HR.out _ _ N4.out⟩
    | succ j =>
      rw [show (((j + 1 : Nat) : Int) - 1) = (j : Int) by omega]
      have HK := hide hk
      have b0 : (0 : Int) ≤ (j : Int) := by omega
      have b1 : (j : Int) < 256 := by omega
      have d0 : decide ((0 : Int) ≤ (j : Int)) = true := decide_eq_true b0
      clear hk
      go_upto_region 5 with fail
      refine wrl3 (tl := [qp (Pt.mul (N / 2 ^ (j + 1)) P), qp ((Pt.mul (N / 2 ^ (j + 1)) P).add (Pt.mul (N / 2 ^ (j + 1)) P))]) (pre := [])
        (plan := [Pk.ld 0 5 0, Pk.ld 0 5 0, Pk.val [(12, 0), (13, 0)] 1, Pk.put 0 5 14 1])
        [] [(g5, 39, 64)] [(0, 5)] 37 (by kernel_rfl) rfl (by kernel_rfl) ⟨.inr (lull_qp _ _ _), ⟨.inr (lull_qp _ _ _), trivial⟩⟩
        (snkAt1 R5.out (N5.out.size) rfl) (snk1 _) trivial
          (Oc3 (fun a w X_ h hr => g_ldqp N5.out (wq0 rfl) rfl h (hr.trans R5.out.2))
          (Oc3 (fun a w X_ h hr => g_ldqp N5.out (wq0 rfl) rfl h (hr.trans R5.out.2))
          (Oc3 (fun a w X_ h => g_call2 (wq0 rfl) (by kernel_rfl) rfl (r_plus h.1 h.2.1))
          (Oc3 (⟨rfl, _, _, _, rfl, rfl, by kernel_rfl, row_qp _⟩)
          OkL3.nil)))) ?_
      rintro W3 X3 v12 - v13 - v14 - c5 r5 H5
      refine Fd3 ?_
      simp only [Act.put, List.setIfInBounds_toArray, List.set_cons_zero, List.set_cons_succ]
      replace N5 := hide (qp_of H5)
      replace R5 := hide (And.intro (Nat.lt_of_lt_of_le R5.out.1 X3.size) r5)
      clear r5
      replace R2 := hide (X3.row (out1 (by omega)) R2.out)
      replace R4 := hide (X3.row (out1 (by omega)) R4.out)
      replace BEL := hide (X3.on BEL.out SZ.out (one_le (by omega)))
      replace SZ := hide BEL.out.size
      have SW3 := X3.size
      clear X3 H5
      have hbit := bit_byte (l.take 32) HLIM2.out j
      rw [EN.out] at hbit
      have hgt : (l.take 32).getD (j / 8) 0 = l.getD (j / 8) 0 := by
        rw [List.getD_eq_getElem?_getD, List.getD_eq_getElem?_getD, List.getElem?_take, if_pos (by omega)]
      rw [hgt] at hbit
      have b3 : (0 : Int) ≤ (j : Int) / 8 := by omega
      have b4 : (0 : Int) ≤ (j : Int) % 8 := by omega
      have b5 : (j : Int) % 8 < 8 := by omega
      by_cases hq : j / 8 < n
      · have d3 : decide ((j : Int) / 8 < (n : Int)) = true := decide_eq_true (by omega)
        have b2 : (j : Int) / 8 < (n : Int) := by omega
        have hq8 : j / 8 < l.length := by rw [HLEN.out]; exact hq
        obtain ⟨b, of, c', ao', e', _, _, _, hh⟩ := HB.out
        injection e' with e1 e2 e3
        subst e1
        obtain ⟨rfl, hb, hcell⟩ := hh (fun e => by subst e; simp at hq8)
        have hcb : W3.cell? ⟨b, of + j / 8, none⟩ = some (.int .u8 ((l.getD (j / 8) 0 : Nat) : Int)) := (Below.cell (p := ⟨b, of + j / 8, none⟩) BEL.out hb).trans (hcell _ hq8)
        have hb1 : l.getD (j / 8) 0 < 256 := HLIM.out _
        obtain ⟨yy, hy⟩ : ∃ yy, l.getD (j / 8) 0 = yy := ⟨_, rfl⟩
        rw [hy] at hcb hbit hb1
        have hcc := and_bit8 yy (j % 8) hb1
        obtain ⟨cb, hcb1⟩ : ∃ m, yy / 2 ^ (j % 8) % 2 = m := ⟨_, rfl⟩
        rw [hcb1] at hcc hbit
        have hcb2 : cb = 0 ∨ cb = 1 := by rw [← hcb1]; omega
        have HMB := hide (mul_bit N j cb hbit.symm P)
        clear hh hcell hq8 hy hcb1 hbit hb1 e2 e3 hgt hq
        rcases hcb2 with rfl | rfl
        · have d4 : (((0 : Nat) : Int) == 1) = false := rfl
          go_wp2
          go_roundw
          case rel =>
            refine ⟨j, _, by have := HK.out; omega, rfl, ?_, R5.out, R2.out, R4.out, BEL.out⟩
            rw [HMB.out, if_neg (by decide)]
            exact N5.out
          case measure => simp [intOf]
        · have d4 : (((1 : Nat) : Int) == 1) = true := rfl
          go_upto_region 7 with fail
          clear hcb b2 b3 b4 b5 hcc d3 d4
          refine wrl3 (tl := [qp ((Pt.mul (N / 2 ^ (j + 1)) P).add (Pt.mul (N / 2 ^ (j + 1)) P)), isv (.pointer (some ⟨w.heap.size, 0, none⟩)), qp P, qp (((Pt.mul (N / 2 ^ (j + 1)) P).add (Pt.mul (N / 2 ^ (j + 1)) P)).add P)]) (pre := [(2, 1)])
            (plan := [Pk.ld 0 5 0, Pk.val [(2, 1)] 2, Pk.val [(33, 0), (34, 2)] 3, Pk.put 0 5 35 3])
            [] [(g5, 39, 64)] [(0, 5)] 37 (by kernel_rfl) rfl (by kernel_rfl) ⟨.inr (lull_qp _ _ _), ⟨.inr (lv0 _ _ _), ⟨.inr (lull_qp _ _ _), ⟨.inr (lull_qp _ _ _), trivial⟩⟩⟩⟩
            (snkAt1 R5.out (N5.out.size) rfl) (snk1 _) ⟨rfl, trivial⟩
              (Oc3 (fun a w X_ h hr => g_ldqp N5.out (wq0 rfl) rfl h (hr.trans R5.out.2))
              (Oc3 (fun a w X_ h => g_ldqp NP0.out (wq0 rfl) rfl h.1 (X_.at_ R2.out.1 (out1 (by omega)) R2.out.2))
              (Oc3 (fun a w X_ h => g_call2 (wq0 rfl) (by kernel_rfl) rfl (r_plus h.1 h.2.1))
              (Oc3 (⟨rfl, _, _, _, rfl, rfl, by kernel_rfl, row_qp _⟩)
              OkL3.nil)))) ?_
          rintro W4 X4 v33 - v34 - v35 - c6 r6 H6
          refine Fd3 ?_
          simp only [Act.put, List.setIfInBounds_toArray, List.set_cons_zero, List.set_cons_succ]
          replace N5 := hide (qp_of H6)
          replace R5 := hide (And.intro (Nat.lt_of_lt_of_le R5.out.1 X4.size) r6)
          clear r6
          replace R2 := hide (X4.row (out1 (by omega)) R2.out)
          replace R4 := hide (X4.row (out1 (by omega)) R4.out)
          replace BEL := hide (X4.on BEL.out SZ.out (one_le (by omega)))
          clear X4 H6
          go_wp2
          go_roundw
          case rel =>
            refine ⟨j, _, by have := HK.out; omega, rfl, ?_, R5.out, R2.out, R4.out, BEL.out⟩
            rw [HMB.out, if_pos rfl]
            exact N5.out
          case measure => simp [intOf]
      · have d3 : decide ((j : Int) / 8 < (n : Int)) = false := decide_eq_false (by omega)
        have hz : l.getD (j / 8) 0 = 0 := by
          rw [List.getD_eq_getElem?_getD, List.getElem?_eq_none (by rw [HLEN.out]; omega)]; rfl
        rw [hz, Nat.zero_div, Nat.zero_mod] at hbit
        have HMB := hide (mul_bit N j 0 hbit.symm P)
        clear hbit hgt hz hq
        go_wp2
        go_roundw
        case rel =>
          refine ⟨j, _, by have := HK.out; omega, rfl, ?_, R5.out, R2.out, R4.out, BEL.out⟩
          rw [HMB.out, if_neg (by decide)]
          exact N5.out
        case measure => simp [intOf]
end Go.Proofs.YtobgimpkkjaolaaGreatDoor
