/- The law of numbers: so many bytes as sevens of bits, read as it was, signs behind and back: true for all numbers. -/
import Derived.Test.YtogegmdimfinaaaPb11
namespace Go.Proofs.Ytogegmdimfinaaa
open Go.RowKit
theorem fcs_len : ∀ ps : List (Fld × Value), (fcs ps).length = 4 * ps.length
  | [] => rfl
  | p :: ps => by rw [show fcs (p :: ps) = fcs [p] ++ fcs ps from fcs_app [p] ps, List.length_append, fcs_len ps]; simp [fcs]; omega
theorem fcs_get : ∀ (ps : List (Fld × Value)) (i : Nat) (p : Fld × Value), ps[i]? = some p →
    (fcs ps)[4 * i]? = some (.int .i64 (p.1.num : Int)) ∧ (fcs ps)[4 * i + 1]? = some (.bool p.1.whole) ∧ (fcs ps)[4 * i + 2]? = some (.int .u64 (p.1.n : Int)) ∧ (fcs ps)[4 * i + 3]? = some p.2
  | [], i, p, h => by simp at h
  | q :: ps, 0, p, h => by
    have : q = p := by simpa using h
    subst this
    rw [show fcs (q :: ps) = fcs [q] ++ fcs ps from fcs_app [q] ps]
    simp [fcs]
  | q :: ps, i + 1, p, h => by
    have h2 := fcs_get ps i p (by simpa using h)
    rw [show fcs (q :: ps) = fcs [q] ++ fcs ps from fcs_app [q] ps]
    have hl : (fcs [q]).length = 4 := fcs_len [q]
    refine ⟨?_, ?_, ?_, ?_⟩
    · rw [List.getElem?_append_right (by omega), hl, show 4 * (i + 1) - 4 = 4 * i by omega]; exact h2.1
    · rw [List.getElem?_append_right (by omega), hl, show 4 * (i + 1) + 1 - 4 = 4 * i + 1 by omega]; exact h2.2.1
    · rw [List.getElem?_append_right (by omega), hl, show 4 * (i + 1) + 2 - 4 = 4 * i + 2 by omega]; exact h2.2.2.1
    · rw [List.getElem?_append_right (by omega), hl, show 4 * (i + 1) + 3 - 4 = 4 * i + 3 by omega]; exact h2.2.2.2
/-- What the cells of a row of fields hold. -/
theorem FsAt.cells {T : TypeId} {w : World} {base : Nat} {v : Value} {fs : List Fld} (h : FsAt T w base v fs) (hne : 0 < fs.length) :
    ∃ g cap, v = .slice (some ⟨g, 0, none⟩) fs.length cap ∧ fs.length ≤ cap ∧ cap ≤ 9223372036854775807 ∧ g < w.heap.size ∧ base ≤ g ∧
      ∀ i f, fs[i]? = some f → ∃ bv, w.cell? ⟨g, 4 * i, none⟩ = some (.int .i64 (f.num : Int)) ∧ w.cell? ⟨g, 4 * i + 1, none⟩ = some (.bool f.whole) ∧ w.cell? ⟨g, 4 * i + 2, none⟩ = some (.int .u64 (f.n : Int)) ∧ w.cell? ⟨g, 4 * i + 3, none⟩ = some bv ∧ Own w base bv f.b := by
  obtain ⟨ps, e1, e2, e3⟩ := h
  have hpl : ps.length = fs.length := by rw [← e1]; simp
  rcases e2.2 with ⟨_, h0⟩ | ⟨g, cap, cur, rfl, hb, hr, hn, hm, hs, ht⟩
  · omega
  · refine ⟨g, cap, rfl, hn, by unfold maxLen at hm; omega, (Array.getElem?_eq_some_iff.1 hr).1, hb, fun i f hf => ?_⟩
    have hi : i < fs.length := (List.getElem?_eq_some_iff.1 hf).1
    obtain ⟨p, hp⟩ : ∃ p, ps[i]? = some p := ⟨_, List.getElem?_eq_getElem (by omega)⟩
    have hpf : p.1 = f := by
      rw [← e1, List.getElem?_map, hp] at hf
      simpa using hf
    subst hpf
    obtain ⟨c0, c1, c2, c3⟩ := fcs_get ps i p hp
    exact ⟨p.2, by rw [e2.cellAt _ (by omega)]; exact c0, by rw [e2.cellAt _ (by omega)]; exact c1, by rw [e2.cellAt _ (by omega)]; exact c2, by rw [e2.cellAt _ (by omega)]; exact c3, e3 p (List.mem_of_getElem? hp)⟩
theorem FsAt.empty {T : TypeId} {w : World} {base : Nat} {v : Value} (h : FsAt T w base v []) : ∃ ao c, v = .slice ao 0 c := by
  obtain ⟨ps, e1, e2, e3⟩ := h
  rcases e2.2 with ⟨rfl, h0⟩ | ⟨g, cap, cur, rfl, hb, hr, hn, hm, hs, ht⟩
  · exact ⟨_, _, rfl⟩
  · exact ⟨_, _, rfl⟩
theorem FsAt.len {T : TypeId} {w : World} {base : Nat} {v : Value} {fs : List Fld} (h : FsAt T w base v fs) : ∃ ao c, v = .slice ao fs.length c := by
  obtain ⟨ps, e1, e2, e3⟩ := h
  rcases e2.2 with ⟨rfl, h0⟩ | ⟨g, cap, cur, rfl, hb, hr, hn, hm, hs, ht⟩
  · rw [h0]; exact ⟨_, _, rfl⟩
  · exact ⟨_, _, rfl⟩
theorem vb_last : ∀ (k i x : Nat), i + k = 9 → x < 2 ^ (64 - 7 * i) → (vb k x).getD ((vb k x).length - 1) 0 < 128
  | 0, i, x, h, hx => by
    obtain rfl : i = 9 := by omega
    have : x < 2 := by simpa using hx
    simp [vb]; omega
  | k + 1, i, x, h, hx => by
    unfold vb
    by_cases hlt : x < 128
    · rw [if_pos hlt]; simpa using hlt
    · rw [if_neg hlt]
      have ih := vb_last k (i + 1) (x / 128) (by omega) (pow_step i (by omega) x hx)
      have hp := vb_pos k (x / 128)
      obtain ⟨m, hm⟩ : ∃ m, (vb k (x / 128)).length = m + 1 := ⟨_, (Nat.succ_pred_eq_of_pos hp).symm⟩
      rw [hm] at ih
      rw [List.length_cons, hm, show m + 1 + 1 - 1 = m + 1 by omega, List.getD_cons_succ]
      exact ih
theorem vbn_last {n : Nat} (h : n < 18446744073709551616) : (vbn n).getD ((vbn n).length - 1) 0 < 128 := vb_last 9 0 n rfl h
/-- What is left to count. -/
def left (i y : Nat) : Nat := if y = 0 then 0 else (vb (8 - i) y).length
theorem left_start (n : Nat) : (vbn n).length = 0 + 1 + left 0 (n / 128) := by
  unfold vbn left
  rw [show (9 : Nat) = 8 + 1 from rfl, vb]
  by_cases h : n < 128
  · rw [if_pos h, if_pos (by omega)]; rfl
  · rw [if_neg h, if_neg (by omega)]; simp; omega
theorem left_step {i y : Nat} (hi : i ≤ 8) (hy : y < 2 ^ (64 - 7 * (i + 1))) (h0 : 0 < y) : left i y = 1 + left (i + 1) (y / 128) := by
  unfold left
  rw [if_neg (by omega)]
  by_cases h8 : i = 8
  · subst h8
    have : y < 2 := by simpa using hy
    rw [if_pos (by omega)]; simp [vb]
  · rw [show 8 - i = (8 - (i + 1)) + 1 by omega, vb]
    by_cases h : y < 128
    · rw [if_pos h, if_pos (by omega)]; rfl
    · rw [if_neg h, if_neg (by omega)]; simp; omega
theorem one_enc (n : Nat) : [8] ++ vbn n = (⟨1, false, n, []⟩ : Fld).enc := by
  unfold Fld.enc
  rw [if_neg (by simp)]
  rfl
theorem one_ok {n : Nat} (h : n < 18446744073709551616) : (⟨1, false, n, []⟩ : Fld).Ok := ⟨Nat.le_refl 1, show 1 ≤ 100 by decide, h, by simp, fun c hc => absurd hc (by simp), (fun e => by cases e), fun _ => rfl⟩
theorem one_read {n : Nat} (h : n < 18446744073709551616) : rdF ([8] ++ vbn n) = .ok [⟨1, false, n, []⟩] := by
  have hl := vbn_le n
  unfold rdF
  rw [if_pos (by simp; omega), one_enc]
  have := flds_all (fs := [⟨1, false, n, []⟩]) (m := (⟨1, false, n, []⟩ : Fld).enc.length) (by simpa using one_ok h) (by simp [encs_cons, encs_nil])
  rwa [encs_cons, encs_nil, List.append_nil] at this
set_option maxRecDepth 100000 in
set_option maxHeartbeats 2000000 in
theorem numbers_walk (n : Nat) (m : Int) (w : World) (hn : n < 18446744073709551616) (h1 : -9223372036854775808 ≤ m) (h2 : m ≤ 9223372036854775807) :
    Calls Try.prog 6 #[.int .u64 (n : Int), .int .i64 m] w fun e w' => e = .returned (.bool true) ∧ Below w.heap.size w w' := by
  have HV := hide (varint_w n w hn)
  have HL := hide (And.intro (left_start n) (And.intro (vbn_last hn) (And.intro (one_read hn) (vbn_le n))))
  have hn7 := hide (show n / 128 < 2 ^ (64 - 7 * (0 + 1)) from pow_step 0 (by decide) n hn)
  have HN := hide (And.intro hn (And.intro h1 h2))
  generalize vbn n = V at *
  clear hn h1 h2
  go_enter Try.func6, Try.ntmps6
  go_wp2_with fail
  refine HV.out.mono ?_
  rintro e w1 ⟨v1, rfl, o1, b1⟩
  have H1 := hide (And.intro o1 b1)
  clear o1 b1 HV
  go_wp2
  go_loopw [6, 7] (fun k x wr => ∃ (i y : Nat), k = .int .i64 ((i + 1 : Nat) : Int) ∧ x = .int .u64 (y : Int) ∧ i ≤ 9 ∧ y < 2 ^ (64 - 7 * (i + 1)) ∧ V.length = i + 1 + left i y ∧ wr = w1) (fun _ x _ => (intOf x).toNat)
  case atStart => exact ⟨0, n / 128, rfl, by go_num, by decide, hn7.out, HL.out.1, rfl⟩
  case round =>
    obtain ⟨i, y, rfl, rfl, hi, hy, hV, hwr⟩ := hrel
    replace hwr := hwr.symm
    subst hwr
    by_cases hy0 : 0 < y
    · have hi8 : i ≤ 8 := by
        rcases Nat.lt_or_ge i 9 with h | h
        · omega
        · obtain rfl : i = 9 := by omega
          have : y < 1 := hy
          omega
      have hst := left_step hi8 hy hy0
      have hp := pow_step (i + 1)
      have HX := hide (And.intro hV (And.intro hst (And.intro hy hi8)))
      clear hV hst hy hp hi
      go_wp2
      go_roundw
      case rel =>
        obtain ⟨hV, hst, hy, hi8⟩ := HX.out
        refine ⟨i + 1, y / 128, by go_num, by go_num, by omega, ?_, by omega, by first | rfl | trivial⟩
        by_cases e8 : i = 8
        · subst e8
          have : y < 2 := by simpa using hy
          rw [show y / 128 = 0 by omega]; exact Nat.two_pow_pos _
        · exact pow_step (i + 1) (by omega) y hy
      case measure => simp [intOf]; omega
    · obtain rfl : y = 0 := by omega
      have hV2 : V.length = i + 1 := by rw [hV]; simp [left]
      obtain ⟨g, cap, rfl, hg1, hg2, hcap, hcm⟩ := H1.out.1.form (by omega)
      have hlast := HL.out.2.1
      rw [hV2, show i + 1 - 1 = i by omega] at hlast
      have hci : w1.cell? ⟨g, i, none⟩ = some (.int .u8 ((V.getD i 0 : Nat) : Int)) := by rw [H1.out.1.row.cellAt i (by omega), nv_get V i (by omega)]
      have hix := fun w_ => run_ix w_ g 0 (i + 1) cap i (by omega)
      simp only [Nat.zero_add] at hix
      have HX := hide (And.intro hV hV2)
      generalize V.getD i 0 = lb at *
      have hdl : decide ((127 : Int) < (lb : Int)) = false := decide_eq_false (by omega)
      rw [hV2]
      clear hV hV2 hy hg1 hg2 hcm
      have hO8 : Hid (Own (w1.alloc (.cells #[.int .u8 8] 5)) w1.heap.size (.slice (some ⟨w1.heap.size, 0, none⟩) 1 1) [8]) := own_lit [8] (lim_list (by decide)) (by decide)
      have hV1 := H1.out.1.at
      rw [HX.out.2] at hV1
      have HVA := hide (hV1.ext (alloc_below w1 (.cells #[.int .u8 8] 5)))
      clear hV1
      go_wp2_with (at_builtin; refine wpList_append_b rfl (.tmp 34) (.tmp 35) rfl (base := w1.heap.size) (l := [8]) (m := V) hO8.out HVA.out (by have := HL.out.2.2.2; simp; omega) (alloc_below _ _).size ?_)
      intro v2 w2 o2 g2
      have hB2 := Below.chain H1.out.2 (below_gr (alloc_below _ _) hO8.out (Nat.le_refl _) g2)
      have HF := hide (Fields_any o2.at)
      rw [show rdF (8 :: V) = _ from HL.out.2.2.1] at HF
      have HB2 := hide hB2
      clear o2 g2 hB2 hO8 HVA hix hci hdl hlast hcap
      go_wp2_with fail
      refine HF.out.mono ?_
      rintro e w3 ⟨u3, rfl, hf3, b3⟩
      obtain ⟨g3, cap3, rfl, hc3, hcm3, hg3, _, hcs⟩ := hf3.cells (by simp [Rs.got])
      obtain ⟨bv, d0, d1, d2, d3, _⟩ := hcs 0 ⟨1, false, n, []⟩ rfl
      simp only [Nat.mul_zero, Nat.zero_add] at d0 d1 d2
      rw [show (Rs.got (.ok [(⟨1, false, n, []⟩ : Fld)])).length = 1 from rfl] at hc3 ⊢
      rw [show Rs.err (.ok [(⟨1, false, n, []⟩ : Fld)]) = 0 from rfl]
      have HB3 := hide (Below.chain HB2.out b3)
      clear hf3 b3 hcs d3 HF
      obtain ⟨hn, h1, h2⟩ := HN.out
      have HZ1 := hide (zig_w m w3 h1 h2)
      have HZ2 := hide (zag_w (zig m) w3 (zig_lt h1 h2))
      rw [zag_zig] at HZ2
      have HZ3 := hide (zag_w n w3 hn)
      have HZ4 := hide (zig_w (zag n) w3 (zag_in hn).1 (zag_in hn).2)
      rw [zig_zag] at HZ4
      have hodd := zig_odd m
      have hand := and1 (zig m) (zig_lt h1 h2)
      rw [hodd] at hand
      have HA := hide (awake_any w3)
      generalize zig m = z at *
      generalize zag n = q at *
      clear hn h1 h2 hodd
      go_wp2_with fail
      refine HZ1.out.mono ?_
      rintro e w4 ⟨rfl, rfl⟩
      go_wp2_with fail
      refine HZ2.out.mono ?_
      rintro e w5 ⟨rfl, rfl⟩
      go_wp2_with fail
      refine HZ3.out.mono ?_
      rintro e w6 ⟨rfl, rfl⟩
      go_wp2_with fail
      refine HZ4.out.mono ?_
      rintro e w7 ⟨rfl, rfl⟩
      by_cases hm : m < 0
      · rw [if_pos hm] at hand
        have hdm : decide (m < 0) = true := decide_eq_true hm
        clear hm
        go_wp2_with fail
        refine HA.out.mono ?_
        rintro e w8 ⟨rfl, b8⟩
        have R := hide (Below.chain HB3.out b8)
        clear b8
        go_wp2
        go_ret
        exact ⟨rfl, R.out⟩
      · rw [if_neg hm] at hand
        have hdm : decide (m < 0) = false := decide_eq_false hm
        clear hm
        go_wp2_with fail
        refine HA.out.mono ?_
        rintro e w8 ⟨rfl, b8⟩
        have R := hide (Below.chain HB3.out b8)
        clear b8
        go_wp2
        go_ret
        exact ⟨rfl, R.out⟩
end Go.Proofs.Ytogegmdimfinaaa
