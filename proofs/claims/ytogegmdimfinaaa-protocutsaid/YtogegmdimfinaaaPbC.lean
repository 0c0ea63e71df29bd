/- The law of what is cut: with its last byte gone a field is short; so is a row of fields with a byte more: true for all fields. -/
import Derived.Test.YtogegmdimfinaaaPbN
namespace Go.Proofs.Ytogegmdimfinaaa
open Go.RowKit
/-- A field's bytes as they are put. -/
theorem putI_enc {k n : Nat} (h : 1 ≤ k ∧ k ≤ 100) : putI (k : Int) n = [(⟨k, false, n, []⟩ : Fld).enc] := by
  unfold putI pbs Fld.enc
  rw [if_pos (by omega), if_neg (by simp), show ((k : Int)).toNat = k by omega]
  rfl
theorem putR_enc {k : Nat} {b : List Nat} (h : 1 ≤ k ∧ k ≤ 100) (hl : b.length ≤ 65536) : putR (k : Int) b = [(⟨k, true, 0, b⟩ : Fld).enc] := by
  unfold putR pbs Fld.enc
  rw [if_pos hl, if_pos (by omega), if_pos rfl, show ((k : Int)).toNat = k by omega, List.append_assoc]
theorem num_ok {k n : Nat} (h : 1 ≤ k ∧ k ≤ 100) (hn : n < 18446744073709551616) : (⟨k, false, n, []⟩ : Fld).Ok := ⟨h.1, h.2, hn, by simp, fun c hc => absurd hc (by simp), (fun e => by cases e), fun _ => rfl⟩
theorem raw_ok {k : Nat} {b : List Nat} (h : 1 ≤ k ∧ k ≤ 100) (hl : b.length ≤ 65536) (hb : limB b) : (⟨k, true, 0, b⟩ : Fld).Ok := ⟨h.1, h.2, show 0 < 18446744073709551616 by decide, show b.length < _ by omega, hb, (fun _ => rfl), (fun e => by cases e)⟩
theorem enc_len {f : Fld} {m : Nat} (h : f.b.length ≤ m) : f.enc.length ≤ 20 + m := by
  unfold Fld.enc
  have h1 := vbn_le (8 * f.num + 2)
  have h2 := vbn_le (8 * f.num)
  have h3 := vbn_le f.n
  have h4 := vbn_le f.b.length
  split <;> simp <;> omega
/-- What is told of a field that is cut, and of one with a byte more. -/
theorem cut_read {f : Fld} (h : f.Ok) (hl : f.b.length ≤ 1000) : rdF (f.enc.take (f.enc.length - 1)) = .bad 2 ∧ rdF (f.enc ++ [8]) = .bad 2 := by
  have h1 := enc_len hl
  have h2 := enc_two f
  unfold rdF
  constructor
  · rw [if_pos (by rw [List.length_take]; omega)]
    have h3 : (f.enc.take (f.enc.length - 1)).length = (f.enc.length - 2) + 1 := by rw [List.length_take]; omega
    rw [h3]
    exact flds_cut h _
  · rw [if_pos (by simp; omega)]
    exact flds_eight h _ (Nat.le_refl _)
set_option maxRecDepth 100000 in
set_option maxHeartbeats 2000000 in
/-- From the message on. -/
theorem cut_tail {num : Int} {n : Nat} {bv : Value} {b : List Nat} {wh : Bool} {k : Nat} {w : World} (hb : BsAt w bv b) (hl : b.length ≤ 300) (hn : n < 18446744073709551616)
    (hk : wrap64 (1 + wrap64 ((IntKind.u64.wrap num).tmod 100)) = (k : Int)) (hk1 : 1 ≤ k ∧ k ≤ 100) :
    Calls Try.prog 8 #[.int .i64 num, .int .u64 (n : Int), bv, .bool wh] w fun e w' => e = .returned (.bool true) ∧ Below w.heap.size w w' := by
  have B0 := hide (alloc_below w (.cells #[.pointer none] 29))
  have HI : Hid (wh = false → Calls Try.prog 13 #[.pointer (some ⟨w.heap.size, 0, none⟩), .int .i64 (k : Int), .int .u64 (n : Int)] (w.alloc (.cells #[.pointer none] 29)) fun e w' => e = .returned (.tuple #[]) ∧ MAt w' w.heap.size [(⟨k, false, n, []⟩ : Fld).enc] ∧ (w.alloc (.cells #[.pointer none] 29)).grownBy w' (some w.heap.size)) := fun _ => by
    have h1 := Int_any (n := n) (num := (k : Int)) (MAt.new (A := fun _ => True) w) hn
    rw [List.nil_append, putI_enc hk1] at h1
    exact h1
  have HR : Hid (wh = true → Calls Try.prog 11 #[.pointer (some ⟨w.heap.size, 0, none⟩), .int .i64 (k : Int), bv] (w.alloc (.cells #[.pointer none] 29)) fun e w' => e = .returned (.tuple #[]) ∧ MAt w' w.heap.size [(⟨k, true, 0, b⟩ : Fld).enc] ∧ (w.alloc (.cells #[.pointer none] 29)).grownBy w' (some w.heap.size)) := fun _ => by
    have h1 := Raw_any (num := (k : Int)) (MAt.new (A := fun _ => True) w) (hb.ext B0.out)
    rw [List.nil_append, putR_enc hk1 (by omega)] at h1
    exact h1
  obtain ⟨ba, bc, rfl, _, _⟩ := hb.len
  have hd : decide ((300 : Int) < (b.length : Int)) = false := decide_eq_false (by omega)
  have HO := hide (And.intro (num_ok hk1 hn) (And.intro (raw_ok hk1 (by omega) hb.limB) hl))
  clear hb hn hl
  cases wh with
  | false =>
    go_enter Try.func8, Try.ntmps8
    go_wp2_with fail
    refine (HI.out trivial).mono ?_
    rintro e w1 ⟨rfl, m1, g1⟩
    have hB1 : Below w.heap.size w w1 := B0.out.grown g1 (by simp) (fun q hq => by injection hq with hq; omega)
    have hbl : (⟨k, false, n, []⟩ : Fld).b.length ≤ 1000 := Nat.zero_le _
    have hel := enc_len hbl
    have hcr := cut_read HO.out.1 hbl
    have h2 := enc_two ⟨k, false, n, []⟩
    have HC := hide (Bytes_any m1 (by simp) (by simp; omega))
    rw [show ([(⟨k, false, n, []⟩ : Fld).enc] : List (List Nat)).flatten = (⟨k, false, n, []⟩ : Fld).enc by simp] at HC
    have HE := hide (And.intro hcr (And.intro hel (And.intro hB1 h2)))
    clear m1 g1 hB1 hel hcr h2 hbl HI HR HO B0
    generalize (⟨k, false, n, []⟩ : Fld).enc = E at *
    go_wp2_with fail
    refine HC.out.mono ?_
    rintro e w2 ⟨u2, rfl, o2, b2⟩
    obtain ⟨g, cap, rfl, hg1, hg2, hcap, hcm⟩ := o2.form (by have := HE.out.2.2.2; omega)
    obtain ⟨vt, st, _, bt⟩ := slice_upto o2.at (E.length - 1) (by omega)
    have h2 := HE.out.2.2.2
    have ek : ((E.length - 1 : Nat) : Int) = (E.length : Int) - 1 := by omega
    simp only [ek] at st
    have hd2 : decide ((E.length : Int) < 2) = false := decide_eq_false (by omega)
    have hE2 : ¬ E.length < 2 := by omega
    have HF := hide (Fields_any bt)
    rw [HE.out.1.1] at HF
    have HB2 := hide (And.intro (Below.chain HE.out.2.2.1 b2) o2)
    clear o2 b2 HC bt ek
    go_wp2_with fail
    refine HF.out.mono ?_
    rintro e w3 ⟨u3, rfl, hf3, b3⟩
    obtain ⟨fa, fc, rfl⟩ := FsAt.empty hf3
    rw [show (Rs.bad 2).err = 2 from rfl]
    have HB3 := hide (And.intro (Below.chain HB2.out.1 b3) (HB2.out.2.ext b3))
    clear hf3 b3 HF HB2 st
    have B3e := hide (alloc_below w3 (.cells #[] 5))
    go_wp2_with (at_builtin; refine wpList_append_b rfl (.tmp 50) (.tmp 51) rfl (base := w3.heap.size) (l := []) (m := E) own_none0 (HB3.out.2.at.ext B3e.out) (by have := HE.out.2.1; simp; omega) (by simp) ?_)
    intro v4 w4 o4 g4
    have hB4 := below_gr B3e.out own_none0 (Nat.le_refl _) g4
    have HB4 := hide (And.intro (Below.chain HB3.out.1 hB4) (And.intro o4 (And.intro hB4.size HB3.out.1.size)))
    clear o4 g4 hB4 B3e HB3
    have B4e := hide (alloc_below w4 (.cells #[.int .u8 8] 5))
    go_wp2_with (at_builtin; refine wpList_append_b rfl (.tmp 52) (.tmp 53) rfl (base := w3.heap.size) (l := E) (m := [8]) (HB4.out.2.1.ext B4e.out) (one_at 8 (by decide)) (by have := HE.out.2.1; simp; omega) (Nat.le_trans HB4.out.2.2.1 B4e.out.size) ?_)
    intro v5 w5 o5 g5
    have hB5 : Below w.heap.size w w5 := (Below.chain HB4.out.1 B4e.out).grown g5 (Below.chain HB4.out.1 B4e.out).size (fun q hq => Nat.le_trans HB4.out.2.2.2 ((HB4.out.2.1.ext B4e.out).row.lt q hq).1)
    have HF2 := hide (Fields_any o5.at)
    rw [HE.out.1.2] at HF2
    have HB5 := hide hB5
    clear o5 g5 hB5 B4e HB4
    go_wp2_with fail
    refine HF2.out.mono ?_
    rintro e w6 ⟨u6, rfl, hf6, b6⟩
    rw [show (Rs.bad 2).err = 2 from rfl]
    have HB6 := hide (Below.chain HB5.out b6)
    clear hf6 b6 HF2 HB5
    go_wp2_with fail
    refine (awake_any w6).mono ?_
    rintro e w7 ⟨rfl, b7⟩
    have R := hide (Below.chain HB6.out b7)
    clear b7
    go_wp2
    go_ret
    exact ⟨rfl, R.out⟩
  | true =>
    go_enter Try.func8, Try.ntmps8
    go_wp2_with fail
    refine (HR.out trivial).mono ?_
    rintro e w1 ⟨rfl, m1, g1⟩
    have hB1 : Below w.heap.size w w1 := B0.out.grown g1 (by simp) (fun q hq => by injection hq with hq; omega)
    have hbl : (⟨k, true, 0, b⟩ : Fld).b.length ≤ 1000 := Nat.le_trans HO.out.2.2 (by decide)
    have hel := enc_len hbl
    have hcr := cut_read HO.out.2.1 hbl
    have h2 := enc_two ⟨k, true, 0, b⟩
    have HC := hide (Bytes_any m1 (by simp) (by simp; omega))
    rw [show ([(⟨k, true, 0, b⟩ : Fld).enc] : List (List Nat)).flatten = (⟨k, true, 0, b⟩ : Fld).enc by simp] at HC
    have HE := hide (And.intro hcr (And.intro hel (And.intro hB1 h2)))
    clear m1 g1 hB1 hel hcr h2 hbl HI HR HO B0
    generalize (⟨k, true, 0, b⟩ : Fld).enc = E at *
    go_wp2_with fail
    refine HC.out.mono ?_
    rintro e w2 ⟨u2, rfl, o2, b2⟩
    obtain ⟨g, cap, rfl, hg1, hg2, hcap, hcm⟩ := o2.form (by have := HE.out.2.2.2; omega)
    obtain ⟨vt, st, _, bt⟩ := slice_upto o2.at (E.length - 1) (by omega)
    have h2 := HE.out.2.2.2
    have ek : ((E.length - 1 : Nat) : Int) = (E.length : Int) - 1 := by omega
    simp only [ek] at st
    have hd2 : decide ((E.length : Int) < 2) = false := decide_eq_false (by omega)
    have hE2 : ¬ E.length < 2 := by omega
    have HF := hide (Fields_any bt)
    rw [HE.out.1.1] at HF
    have HB2 := hide (And.intro (Below.chain HE.out.2.2.1 b2) o2)
    clear o2 b2 HC bt ek
    go_wp2_with fail
    refine HF.out.mono ?_
    rintro e w3 ⟨u3, rfl, hf3, b3⟩
    obtain ⟨fa, fc, rfl⟩ := FsAt.empty hf3
    rw [show (Rs.bad 2).err = 2 from rfl]
    have HB3 := hide (And.intro (Below.chain HB2.out.1 b3) (HB2.out.2.ext b3))
    clear hf3 b3 HF HB2 st
    have B3e := hide (alloc_below w3 (.cells #[] 5))
    go_wp2_with (at_builtin; refine wpList_append_b rfl (.tmp 50) (.tmp 51) rfl (base := w3.heap.size) (l := []) (m := E) own_none0 (HB3.out.2.at.ext B3e.out) (by have := HE.out.2.1; simp; omega) (by simp) ?_)
    intro v4 w4 o4 g4
    have hB4 := below_gr B3e.out own_none0 (Nat.le_refl _) g4
    have HB4 := hide (And.intro (Below.chain HB3.out.1 hB4) (And.intro o4 (And.intro hB4.size HB3.out.1.size)))
    clear o4 g4 hB4 B3e HB3
    have B4e := hide (alloc_below w4 (.cells #[.int .u8 8] 5))
    go_wp2_with (at_builtin; refine wpList_append_b rfl (.tmp 52) (.tmp 53) rfl (base := w3.heap.size) (l := E) (m := [8]) (HB4.out.2.1.ext B4e.out) (one_at 8 (by decide)) (by have := HE.out.2.1; simp; omega) (Nat.le_trans HB4.out.2.2.1 B4e.out.size) ?_)
    intro v5 w5 o5 g5
    have hB5 : Below w.heap.size w w5 := (Below.chain HB4.out.1 B4e.out).grown g5 (Below.chain HB4.out.1 B4e.out).size (fun q hq => Nat.le_trans HB4.out.2.2.2 ((HB4.out.2.1.ext B4e.out).row.lt q hq).1)
    have HF2 := hide (Fields_any o5.at)
    rw [HE.out.1.2] at HF2
    have HB5 := hide hB5
    clear o5 g5 hB5 B4e HB4
    go_wp2_with fail
    refine HF2.out.mono ?_
    rintro e w6 ⟨u6, rfl, hf6, b6⟩
    rw [show (Rs.bad 2).err = 2 from rfl]
    have HB6 := hide (Below.chain HB5.out b6)
    clear hf6 b6 HF2 HB5
    go_wp2_with fail
    refine (awake_any w6).mono ?_
    rintro e w7 ⟨rfl, b7⟩
    have R := hide (Below.chain HB6.out b7)
    clear b7
    go_wp2
    go_ret
    exact ⟨rfl, R.out⟩
theorem cut_num (num : Int) : ∃ k : Nat, wrap64 (1 + wrap64 ((IntKind.u64.wrap num).tmod 100)) = (k : Int) ∧ 1 ≤ k ∧ k ≤ 100 := by
  have h3 : 0 ≤ IntKind.u64.wrap num := by rw [IntKind.wrap_u64]; omega
  rw [Int.tmod_eq_emod_of_nonneg h3]
  generalize IntKind.u64.wrap num = q at *
  have e1 : wrap64 (q % 100) = q % 100 := by unfold wrap64; omega
  rw [e1]
  have e2 : wrap64 (1 + q % 100) = 1 + q % 100 := by unfold wrap64; omega
  rw [e2]
  exact ⟨(1 + q % 100).toNat, by omega, by omega, by omega⟩
set_option maxRecDepth 100000 in
theorem cut_walk (num : Int) (n : Nat) (bv : Value) (b : List Nat) (wh : Bool) (w : World) (hb : BsAt w bv b) (hn : n < 18446744073709551616) :
    Calls Try.prog 8 #[.int .i64 num, .int .u64 (n : Int), bv, .bool wh] w fun e w' => e = .returned (.bool true) ∧ Below w.heap.size w w' := by
  obtain ⟨k, hk, hk1⟩ := cut_num num
  by_cases hl : b.length ≤ 300
  · exact cut_tail hb hl hn hk hk1
  · obtain ⟨ba, bc, rfl, _, _⟩ := hb.len
    have hd : decide ((300 : Int) < (b.length : Int)) = true := decide_eq_true (by omega)
    clear hb hn
    go_enter Try.func8, Try.ntmps8
    go_wp2_with fail
    refine (awake_any w).mono ?_
    rintro e w1 ⟨rfl, b1⟩
    go_wp2
    go_ret
    exact ⟨rfl, b1⟩
end Go.Proofs.Ytogegmdimfinaaa
