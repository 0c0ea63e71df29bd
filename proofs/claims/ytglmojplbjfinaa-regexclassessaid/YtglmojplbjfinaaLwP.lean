/- RegexPlain: the law's call answers true. -/
import Derived.Test.YtglmojplbjfinaaLwD
import Derived.Test.YtglmojplbjfinaaRxPlain
namespace Go.Proofs.Ytglmojplbjfinaa
open Go.RowKit
theorem sl_one (x : ByteArray) (j : Nat) (h : j < x.size) (w : World) : (Instr.sliceAt 9 (.string x) (some (.int .i64 (j : Int))) (some (.int .i64 ((j : Int) + 1))) none).run Try.prog w = .ok (.string (x.extract j (j + 1))) w := by
  have g5 : ((j : Int) + 1).toNat = j + 1 := by omega
  go_simp
  rw [if_pos ⟨by omega, by omega⟩, if_pos (by omega)]
theorem bl_one (s : ByteArray) (j : Nat) (h : j < s.size) : bl (s.extract j (j + 1)) = [bt s j] := by
  have h1 : (s.extract j (j + 1)).data.toList = (s.data.toList.drop j).take 1 := by
    rw [ByteArray.data_extract, Array.toList_extract, List.extract_eq_take_drop, show j + 1 - j = 1 by omega]
  have h2 : j < s.data.toList.length := h
  have h3 : s.data[j]? = some s.data.toList[j] := by rw [← Array.getElem?_toList, List.getElem?_eq_getElem h2]
  unfold bl bt
  rw [h1, List.drop_eq_getElem_cons h2, h3]
  rfl
theorem bl_take (s : ByteArray) (j : Nat) (h : j < s.size) : (bl s).take (j + 1) = (bl s).take j ++ [bt s j] := by
  have h1 : (bl s)[j]? = some (bt s j) := by
    have h2 : j < s.data.toList.length := h
    unfold bl bt
    rw [List.getElem?_map, ← Array.getElem?_toList, List.getElem?_eq_getElem h2]
    rfl
  rw [List.take_add_one, h1]
  rfl
theorem bl_at (s : ByteArray) (j : Nat) (h : j < s.size) : (bl s)[j]? = some (bt s j) := by
  have h2 : j < s.data.toList.length := h
  unfold bl bt
  rw [List.getElem?_map, ← Array.getElem?_toList, List.getElem?_eq_getElem h2]
  rfl
theorem bt_lt (s : ByteArray) (j : Nat) : bt s j < 256 := (s.data[j]?.getD 0).toNat_lt
theorem plain_at {s : ByteArray} {j : Nat} (h : j < s.size) : (plF 0 ((bl s).map onlyI ++ [stepI 6]))[j]? = some (onlyI (bt s j)) := by
  rw [plF_at, List.getElem?_append_left (by rw [List.length_map, bl_len]; exact h), List.getElem?_map, bl_at s j h]
  show some (plI _ _) = _
  rw [pl_only]
theorem want_at {c : Nat} (hc : c < 256) : ([.int .u64 0, .int .u64 0, .int .u64 0, .int .u64 0].set (c / 64) (.int .u64 ((2 ^ (c % 64) : Nat) : Int)) : List Value).toArray = #[.int .u64 ((onlyI c).s 0 : Int), .int .u64 ((onlyI c).s 1 : Int), .int .u64 ((onlyI c).s 2 : Int), .int .u64 ((onlyI c).s 3 : Int)] := by
  rw [only_set, only_set, only_set, only_set]
  obtain h0 | h0 | h0 | h0 : c / 64 = 0 ∨ c / 64 = 1 ∨ c / 64 = 2 ∨ c / 64 = 3 := by omega
  all_goals (rw [h0]; rfl)
theorem shl_u (q : Nat) (h : q < 64) : IntKind.u64.wrap (2 ^ q) = ((2 ^ q : Nat) : Int) := by
  have h1 : (2 : Nat) ^ q < 2 ^ 64 := Nat.pow_lt_pow_right (by decide) h
  rw [IntKind.wrap_u64, Int.emod_eq_of_lt (Int.pow_nonneg (by decide)) (by have h3 : ((2 ^ q : Nat) : Int) < ((2 ^ 64 : Nat) : Int) := Int.ofNat_lt.2 h1; simpa using h3)]
  simp
theorem eq_row (a b c d : Int) (w : World) :
    (Op.equalIn 10000 28 (.agg #[.int .u64 a, .int .u64 b, .int .u64 c, .int .u64 d]) (.agg #[.int .u64 a, .int .u64 b, .int .u64 c, .int .u64 d])).run Try.prog w = .ok true w := by
  have hp : ∀ (xs : Array Value) (i : Nat) (v : Value) (w : World), xs[i]? = some v → (part 27 xs i).run Try.prog w = .ok v w := by
    intro xs i v w h
    have hagg : (isAgg 27).run Try.prog w = .ok false w := by kernel_rfl
    simp [part, hagg, h]
  have hi : ∀ (x y : Int) (w : World), (Op.equalIn 9999 27 (.int .u64 x) (.int .u64 y)).run Try.prog w = .ok (x == y) w := fun x y w => run_equalIn_int w 9998 27 .u64 .u64 x y Try.underlying27
  have hs : (Go.sizeOf 27).run Try.prog w = .ok 1 w := by kernel_rfl
  rw [show (10000 : Nat) = 9999 + 1 from rfl, Op.equalIn]
  rw [Sem.run_bind, run_underlying Try.underlying28, Result.andThen_ok]
  simp only [Sem.run_bind, hs, Result.andThen_ok, Std.Legacy.Range.forIn_eq_forIn_range', Std.Legacy.Range.size]
  simp [List.range', hp, hi]
set_option maxRecDepth 100000 in
set_option maxHeartbeats 1000000 in
theorem plain_walk (s : ByteArray) : Says 3 #[.string s] (.bool true) := by
  intro w
  have HB0 := hide (Below.refl w.heap.size w)
  rcases Nat.lt_or_ge 100 s.size with hl | hl
  · have hd : decide ((100 : Int) < (s.size : Int)) = true := decide_eq_true (by omega)
    go_enter Try.func3, Try.ntmps3
    go_wp2_with fail
    refine (awake_any _).mono ?_
    rintro e_ w2 ⟨rfl, b2⟩
    have HB := hide b2
    clear b2
    go_wp2
    go_ret
    exact ⟨rfl, HB.out⟩

  · obtain ⟨n, hn⟩ : ∃ n, s.size = n := ⟨_, rfl⟩
    have HN := hide hn
    have hln : n ≤ 100 := by omega
    have hdn : decide ((100 : Int) < (n : Int)) = false := decide_eq_false (by omega)
    go_enter Try.func3, Try.ntmps3
    go_wp2
    go_loopw [3, 15] (fun s3 s15 wr => ∃ (j : Nat) (P : ByteArray), j ≤ n ∧ s15 = .int .i64 (j : Int) ∧ s3 = .string P ∧ Hid (bl P = esc ((bl s).take j)) ∧ wr = w) (fun _ i _ => n - (intOf i).toNat)
    case atStart => exact ⟨0, ⟨#[]⟩, Nat.zero_le _, rfl, rfl, rfl, rfl⟩
    case round =>
      obtain ⟨j, P, hj, rfl, rfl, HP, hw⟩ := hrel
      replace hw := hw.symm
      subst hw
      by_cases hlt : j < n
      · have hd : decide ((j : Int) < (n : Int)) = true := decide_eq_true (by omega)
        have hsl := sl_one s j (by omega)
        have hE := bl_one s j (by omega)
        have hzE : (s.extract j (j + 1)).size = 1 := by rw [← bl_len, hE]; rfl
        have hzP : P.size ≤ 200 := by rw [← bl_len, HP.out, esc_len]; simp; omega
        generalize s.extract j (j + 1) = E at *
        have z1 : ¬ 9223372036854775807 < 1 + E.size := by omega
        have z2 : ¬ 9223372036854775807 < P.size + (1 + E.size) := by omega
        have HE := hide hE
        clear hE hzE hzP
        go_wp2
        go_roundw
        case rel => exact ⟨j + 1, _, by omega, by go_num, rfl, by show bl _ = _; rw [bl_add, bl_add, HP.out, HE.out, bl_take s j (by have := HN.out; omega), esc_app]; rfl, trivial⟩
        case measure => simp [intOf]; omega
      · obtain rfl : j = n := by omega
        have hcp : comp (bl P) = .ok ((bl s).map onlyI ++ [stepI 6]) [] := by
          rw [HP.out, List.take_of_length_le (by rw [bl_len, HN.out]; exact Nat.le_refl _)]
          exact cp_esc _ (by rw [bl_len, HN.out]; omega)
        have hC := Compile_any P (w := w)
        rw [hcp] at hC
        have HC := hide hC
        clear hcp hC
        go_wp2_with fail
        refine HC.out.mono ?_
        rintro e_ w1 ⟨⟨v1, rfl, gv⟩, b1⟩
        obtain ⟨g, cap, rfl, hc1, hc2, hg, hr⟩ := gv
        have hlen : (plF 0 ((bl s).map onlyI ++ [stepI 6])).length = j + 1 := by rw [plF_len, List.length_append, List.length_map, bl_len, HN.out]; rfl
        rw [hlen] at hc1 ⊢
        clear hlen
        replace HB0 := hide (Below.chain HB0.out b1)
        have HR : Hid (∀ i, i < j → ∀ q, q < 7 → w1.cell? ⟨g, i * 7 + q, none⟩ = (ic (onlyI (bt s i)))[q]?) := hide (fun i hi q hq => hr i _ (plain_at (by rw [HN.out]; exact hi)) q hq)
        clear hr b1
        go_wp2
        go_loopw [44] (fun s44 wr => ∃ i : Nat, i ≤ j ∧ s44 = .int .i64 (i : Int) ∧ Hid (Below w1.heap.size w1 wr)) (fun i _ => j - (intOf i).toNat)
        case atStart => exact ⟨0, Nat.zero_le _, rfl, Below.refl _ _⟩
        case round =>
          obtain ⟨i, hi, rfl, HB⟩ := hrel
          by_cases hlt2 : i < j
          · have hd2 : decide ((i : Int) < (j : Int)) = true := decide_eq_true (by omega)
            have hix := str_ix s i (by omega)
            have hcl := bt_lt s i
            have HRi := hide (HR.out i hlt2)
            generalize bt s i = c at *
            have HA := hide (heap_alloc_last wr (.cells #[.int .u64 0, .int .u64 0, .int .u64 0, .int .u64 0] 28))
            have HW := hide (want_at hcl)
            obtain ⟨x0, y0⟩ := row_reads HA.out
            have r1 : (wr.alloc (.cells #[.int .u64 0, .int .u64 0, .int .u64 0, .int .u64 0] 28)).cell? ⟨wr.heap.size, c / 64, none⟩ = some (.int .u64 0) := by
              rw [x0]
              obtain h0 | h0 | h0 | h0 : c / 64 = 0 ∨ c / 64 = 1 ∨ c / 64 = 2 ∨ c / 64 = 3 := by omega
              all_goals (rw [h0]; rfl)
            have r2 := y0 (c / 64)
            have q1 : IntKind.u8.wrap ((c : Int) / 64) = ((c / 64 : Nat) : Int) := by rw [IntKind.wrap_u8]; omega
            have q1b : (c : Int) / 64 = ((c / 64 : Nat) : Int) := by omega
            have q1d : IntKind.u8.wrap ((c / 64 : Nat) : Int) = ((c / 64 : Nat) : Int) := by rw [IntKind.wrap_u8]; omega
            have q2d : IntKind.u8.wrap ((c % 64 : Nat) : Int) = ((c % 64 : Nat) : Int) := by rw [IntKind.wrap_u8]; omega
            have q1c : (c : Int).tdiv 64 = ((c / 64 : Nat) : Int) := by rw [Int.tdiv_eq_ediv_of_nonneg (by omega)]; omega
            have q2 : (c : Int).tmod 64 = ((c % 64 : Nat) : Int) := by rw [Int.tmod_eq_emod_of_nonneg (by omega)]; omega
            have q3 := shl_u (c % 64) (Nat.mod_lt _ (by decide))
            have ha : ((c / 64 : Nat) : Int) < 4 := by omega
            have han : c / 64 < 4 := by omega
            have hq : c % 64 < 64 := Nat.mod_lt _ (by decide)
            clear x0 y0
            generalize c / 64 = a at *
            generalize c % 64 = q at *
            generalize (2 ^ q : Nat) = p at *
            go_wp2_with fail
            go_region
            rw [HW.out]
            have HX : Hid (Below wr.heap.size wr (wr.alloc (.cells #[.int .u64 ((onlyI c).s 0 : Int), .int .u64 ((onlyI c).s 1 : Int), .int .u64 ((onlyI c).s 2 : Int), .int .u64 ((onlyI c).s 3 : Int)] 28)).drew) := hide ((alloc_below wr _).drew)
            have HV : Hid ((wr.alloc (.cells #[.int .u64 ((onlyI c).s 0 : Int), .int .u64 ((onlyI c).s 1 : Int), .int .u64 ((onlyI c).s 2 : Int), .int .u64 ((onlyI c).s 3 : Int)] 28)).drew.heap[wr.heap.size]? = some (.cells #[.int .u64 ((onlyI c).s 0 : Int), .int .u64 ((onlyI c).s 1 : Int), .int .u64 ((onlyI c).s 2 : Int), .int .u64 ((onlyI c).s 3 : Int)] 28 (0, 0))) := hide (heap_alloc_last wr _)
            generalize (wr.alloc (.cells #[.int .u64 ((onlyI c).s 0 : Int), .int .u64 ((onlyI c).s 1 : Int), .int .u64 ((onlyI c).s 2 : Int), .int .u64 ((onlyI c).s 3 : Int)] 28)).drew = w5 at HX HV ⊢
            have BX := Below.chain HB.out HX.out
            have k0 := (Below.cell (p := ⟨g, i * 7, none⟩) BX hg).trans (HRi.out 0 (by decide))
            have k1 : w5.cell? ⟨g, i * 7 + 1, none⟩ = some (.int .u64 ((onlyI c).s 0 : Int)) := (Below.cell (p := ⟨g, i * 7 + 1, none⟩) BX hg).trans (HRi.out 1 (by decide))
            have k2 : w5.cell? ⟨g, i * 7 + 1 + 1, none⟩ = some (.int .u64 ((onlyI c).s 1 : Int)) := (Below.cell (p := ⟨g, i * 7 + 1 + 1, none⟩) BX hg).trans (HRi.out 2 (by decide))
            have k3 : w5.cell? ⟨g, i * 7 + 1 + 2, none⟩ = some (.int .u64 ((onlyI c).s 2 : Int)) := (Below.cell (p := ⟨g, i * 7 + 1 + 2, none⟩) BX hg).trans (HRi.out 3 (by decide))
            have k4 : w5.cell? ⟨g, i * 7 + 1 + 3, none⟩ = some (.int .u64 ((onlyI c).s 3 : Int)) := (Below.cell (p := ⟨g, i * 7 + 1 + 3, none⟩) BX hg).trans (HRi.out 4 (by decide))
            obtain ⟨x0, _⟩ := row_reads HV.out
            have j0 : w5.cell? ⟨wr.heap.size, 0, none⟩ = some (.int .u64 ((onlyI c).s 0 : Int)) := x0 0
            have j1 : w5.cell? ⟨wr.heap.size, 1, none⟩ = some (.int .u64 ((onlyI c).s 1 : Int)) := x0 1
            have j2 : w5.cell? ⟨wr.heap.size, 2, none⟩ = some (.int .u64 ((onlyI c).s 2 : Int)) := x0 2
            have j3 : w5.cell? ⟨wr.heap.size, 3, none⟩ = some (.int .u64 ((onlyI c).s 3 : Int)) := x0 3
            replace k0 : w5.cell? ⟨g, i * 7, none⟩ = some (.int .i64 1) := k0
            replace HX := hide BX
            clear x0 BX r1 r2 q1 q1b q1c q1d q2 q2d q3 HV HW hix ha han hq hcl HRi HA
            generalize ((onlyI c).s 0 : Int) = s0 at *
            generalize ((onlyI c).s 1 : Int) = s1 at *
            generalize ((onlyI c).s 2 : Int) = s2 at *
            generalize ((onlyI c).s 3 : Int) = s3 at *
            have hij : (i : Int) < (j : Int) + 1 := by omega
            have heq := eq_row s0 s1 s2 s3
            have hijn : i < j + 1 := by omega
            go_wp2_with fail
            go_quiet (fail)
            have HY := hide (Below.chain HX.out (drewN_below w5 nq))
            clear k0 k1 k2 k3 k4 j0 j1 j2 j3 heq
            generalize w5.drewN nq = w6 at HY ⊢
            go_wp2
            go_roundw
            case rel => exact ⟨i + 1, by omega, by go_num, HY⟩
            case measure => simp [intOf]; omega
          · obtain rfl : i = j := by omega
            go_wp2_with fail
            refine (awake_any _).mono ?_
            rintro e_ w9 ⟨rfl, b9⟩
            have HZ := hide (Below.chain HB0.out (Below.chain HB.out b9))
            clear b9
            go_wp2
            go_ret
            exact ⟨rfl, HZ.out⟩

end Go.Proofs.Ytglmojplbjfinaa
