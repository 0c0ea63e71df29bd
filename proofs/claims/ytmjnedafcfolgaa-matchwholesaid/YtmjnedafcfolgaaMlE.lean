/- MatchEnds: the law's call answers true. -/
import Derived.Test.YtmjnedafcfolgaaMlS
namespace Go.Proofs.Ytmjnedafcfolgaa
open Go.RowKit
/-- What begins a text. -/
def Pre (l t : List Nat) : Prop := ∀ (i c : Nat), l[i]? = some c → t[i]? = some c
theorem Pre.len {l t : List Nat} (h : Pre l t) : l.length ≤ t.length := by
  cases hl : l.length with
  | zero => exact Nat.zero_le _
  | succ n =>
    have h1 := h n _ (List.getElem?_eq_getElem (by omega))
    have := (List.getElem?_eq_some_iff.1 h1).1
    omega
theorem fr_fst {l t : List Nat} {p q : Nat} : Fr ([stepI 4] ++ l.map onlyI) t p q ↔ p = 0 ∧ q = l.length ∧ Pre l t := by
  rw [Fr.app (clo_step (by decide) (by decide)) (clo_bytes l)]
  constructor
  · rintro ⟨r, h1, h2⟩
    obtain ⟨rfl, rfl⟩ := Fr.fst.1 h1
    obtain ⟨h3, h4⟩ := (Fr.bytes l _ _).1 h2
    exact ⟨rfl, by omega, fun i c hc => by have := h4 i c hc; rw [Nat.zero_add] at this; exact this⟩
  · rintro ⟨rfl, rfl, h⟩
    exact ⟨0, Fr.fst.2 ⟨rfl, rfl⟩, (Fr.bytes l _ _).2 ⟨by omega, fun i c hc => by rw [Nat.zero_add]; exact h i c hc⟩⟩
theorem pre_app (l t : List Nat) : Pre l (l ++ t) := fun i c h => by
  rw [List.getElem?_append_left (List.getElem?_eq_some_iff.1 h).1]; exact h
theorem fit_lst (l t : List Nat) : Fr (l.map onlyI ++ [stepI 5]) (t ++ l) t.length (t ++ l).length := by
  rw [Fr.app (clo_bytes l) (clo_step (by decide) (by decide))]
  refine ⟨(t ++ l).length, (Fr.bytes l _ _).2 ⟨by simp, fun i c hc => ?_⟩, Fr.lst.2 ⟨rfl, rfl⟩⟩
  rw [List.getElem?_append_right (by omega), Nat.add_sub_cancel_left]
  exact hc
theorem rep_any (t : List Nat) : ∀ j, j ≤ t.length → Rep (Fr [charI (othS zs)] t) (t.length - j) t.length := by
  intro j
  induction j with
  | zero => intro _; exact .nil
  | succ j ih =>
    intro h
    refine .cons (Fr.chr.2 ⟨_, List.getElem?_eq_getElem (by omega), has_any _, rfl⟩) ?_
    rw [show t.length - (j + 1) + 1 = t.length - j by omega]
    exact ih (by omega)
theorem fr_any {l t : List Nat} : Fr (l.map onlyI ++ starL [charI (othS zs)]) t 0 t.length ↔ Pre l t := by
  rw [Fr.app (clo_bytes l) (clo_char _).star]
  constructor
  · rintro ⟨r, h1, _⟩
    obtain ⟨_, h4⟩ := (Fr.bytes l _ _).1 h1
    exact fun i c hc => by have := h4 i c hc; rw [Nat.zero_add] at this; exact this
  · intro h
    refine ⟨l.length, (Fr.bytes l _ _).2 ⟨by omega, fun i c hc => by rw [Nat.zero_add]; exact h i c hc⟩, (Fr.star (clo_char _)).2 ?_⟩
    have := rep_any t (t.length - l.length) (by omega)
    rw [show t.length - (t.length - l.length) = l.length by have := h.len; omega] at this
    exact this
theorem sl_upto (x : ByteArray) (j : Nat) (h : j ≤ x.size) (w : World) : (Instr.sliceAt 9 (.string x) none (some (.int .i64 (j : Int))) none).run Try.prog w = .ok (.string (x.extract 0 j)) w := by
  go_simp
theorem bl_inj {a b : ByteArray} (h : bl a = bl b) : a = b := by
  have h2 : a.data.toList = b.data.toList := by
    unfold bl at h
    exact List.map_inj_right (fun x y hxy => UInt8.toNat_inj.1 hxy) |>.1 h
  have h3 : a.data = b.data := Array.toList_inj.1 h2
  cases a; cases b; cases h3; rfl
theorem bl_upto (s : ByteArray) (j : Nat) : bl (s.extract 0 j) = (bl s).take j := by
  have h1 : (s.extract 0 j).data.toList = s.data.toList.take j := by
    rw [ByteArray.data_extract, Array.toList_extract, List.extract_eq_take_drop, Nat.sub_zero, List.drop_zero]
  unfold bl
  rw [h1, List.map_take]
theorem pre_eq {s t : ByteArray} : t.extract 0 s.size = s ↔ Pre (bl s) (bl t) := by
  constructor
  · intro e i c hc
    have h1 : (bl t).take s.size = bl s := by rw [← bl_upto t s.size, e]
    rw [← h1, List.getElem?_take] at hc
    split at hc
    · exact hc
    · cases hc
  · intro hp
    apply bl_inj
    rw [bl_upto t s.size]
    apply List.ext_getElem?
    intro i
    rw [List.getElem?_take]
    split
    · rename_i hi
      have := hp i _ (List.getElem?_eq_getElem (by rw [bl_len]; exact hi))
      rw [this, List.getElem?_eq_getElem (by rw [bl_len]; exact hi)]
    · rename_i hi
      rw [List.getElem?_eq_none (by rw [bl_len]; omega)]
set_option maxRecDepth 100000 in
set_option maxHeartbeats 4000000 in
theorem ends_walk (s t : ByteArray) : Says 5 #[.string s, .string t] (.bool true) := by
  intro w
  have HB0 := Below.refl w.heap.size w
  by_cases hs : 60 < s.size
  · have hd : decide ((60 : Int) < (s.size : Int)) = true := decide_eq_true (by omega)
    go_enter Try.func5, Try.ntmps5
    go_wp2_with fail
    refine (awake_end HB0).mono ?_
    rintro e_ w2 ⟨rfl, HB⟩
    go_wp2
    go_ret
    exact ⟨rfl, HB.out⟩
  have hd : decide ((60 : Int) < (s.size : Int)) = false := decide_eq_false (by omega)
  by_cases ht : 60 < t.size
  · have hd2 : decide ((60 : Int) < (t.size : Int)) = true := decide_eq_true (by omega)
    go_enter Try.func5, Try.ntmps5
    go_wp2_with fail
    refine (awake_end HB0).mono ?_
    rintro e_ w2 ⟨rfl, HB⟩
    go_wp2
    go_ret
    exact ⟨rfl, HB.out⟩
  have hd2 : decide ((60 : Int) < (t.size : Int)) = false := decide_eq_false (by omega)
  replace HB0 := hide HB0
  obtain ⟨n, hn⟩ : ∃ n, s.size = n := ⟨_, rfl⟩
  obtain ⟨m, hm⟩ : ∃ m, t.size = m := ⟨_, rfl⟩
  have HN := hide (And.intro hn hm)
  have hn60 : n ≤ 60 := by omega
  have hm60 : m ≤ 60 := by omega
  rw [hn] at hd
  rw [hm] at hd2
  clear hs ht
  obtain ⟨v, hv⟩ := bool_of (Pre (bl s) (bl t))
  have HV := hide hv
  clear hv
  go_enter Try.func5, Try.ntmps5
  go_wp2
  go_loopw [5, 28] (fun s5 s28 wr => ∃ (j : Nat) (P : ByteArray), j ≤ n ∧ s28 = .int .i64 (j : Int) ∧ s5 = .string P ∧ Hid (bl P = esc ((bl s).take j)) ∧ wr = w) (fun _ i _ => n - (intOf i).toNat)
  case atStart => exact ⟨0, ⟨#[]⟩, Nat.zero_le _, rfl, rfl, rfl, rfl⟩
  case round =>
    obtain ⟨j, P, hj, rfl, rfl, HP, hw⟩ := hrel
    replace hw := hw.symm
    subst hw
    by_cases hlt : j < n
    · have hd : decide ((j : Int) < (n : Int)) = true := decide_eq_true (by omega)
      have hsl := sl_one s j (by omega)
      have hE := bl_one s j (by omega)
      have hzE : (s.extract j (j + 1)).size = 1 := by rw [← bl_len, hE]; rfl
      have hzP : P.size ≤ 200 := by rw [← bl_len, HP.out, esc_len]; simp; omega
      generalize s.extract j (j + 1) = E at *
      have z1 : ¬ 9223372036854775807 < 1 + E.size := by omega
      have z2 : ¬ 9223372036854775807 < P.size + (1 + E.size) := by omega
      have HE := hide hE
      clear hE hzE hzP
      go_wp2
      go_roundw
      case rel => exact ⟨j + 1, _, by omega, by go_num, rfl, by show bl _ = _; rw [bl_add, bl_add, HP.out, HE.out, bl_take s j (by have := HN.out; omega), esc_app]; rfl, trivial⟩
      case measure => simp [intOf]; omega
    · obtain rfl : j = n := by omega
      have hbP : bl P = esc (bl s) := by rw [HP.out, List.take_of_length_le (by rw [bl_len]; omega)]
      have hzP : P.size ≤ 200 := by rw [← bl_len, hbP, esc_len, bl_len]; omega
      have hl : (bl s).length ≤ 120 := by rw [bl_len]; omega
      have z1 : ¬ 9223372036854775807 < 1 + P.size := by omega
      have z2 : ¬ 9223372036854775807 < s.size + t.size := by omega
      have z3 : ¬ 9223372036854775807 < P.size + 1 := by omega
      have z4 : ¬ 9223372036854775807 < t.size + s.size := by omega
      have z5 : ¬ 9223372036854775807 < P.size + 2 := by omega
      have y1 : comp (bl ((⟨#[94]⟩ : ByteArray) ++ P)) = .ok ([stepI 4] ++ (bl s).map onlyI ++ [stepI 6]) [] := by rw [bl_add, hbP]; exact cp_fst _ hl
      have y2 : comp (bl (P ++ (⟨#[36]⟩ : ByteArray))) = .ok ((bl s).map onlyI ++ [stepI 5] ++ [stepI 6]) [] := by rw [bl_add, hbP]; exact cp_lst _ hl
      have y3 : comp (bl (P ++ (⟨#[46, 42]⟩ : ByteArray))) = .ok ((bl s).map onlyI ++ starL [charI (othS zs)] ++ [stepI 6]) [] := by rw [bl_add, hbP]; exact cp_any _ hl
      have s1 : (s ++ t).size = s.size + t.size := by simp
      have s2 : (t ++ s).size = t.size + s.size := by simp
      have C0 := hide (find_says (q := ⟨#[]⟩) (s := t) (st := []) (b := true) (mR_of (by omega) cp_none) ⟨fun _ => ⟨0, 0, Nat.zero_le _, Fr.nil.2 rfl⟩, fun _ => rfl⟩)
      have C1 := hide (find_says (s := s ++ t) (b := true) (mR_of (by omega) y1) ⟨fun _ => ⟨0, (bl s).length, by rw [bl_len]; omega, fr_fst.2 ⟨rfl, rfl, by rw [bl_add]; exact pre_app _ _⟩⟩, fun _ => rfl⟩)
      have C2 := hide (find_says (s := t ++ s) (b := true) (mR_of (by omega) y2) ⟨fun _ => ⟨(bl t).length, (bl t ++ bl s).length, by rw [List.length_append, bl_len, bl_len]; omega, by rw [bl_add]; exact fit_lst _ _⟩, fun _ => rfl⟩)
      have C3 := hide (find_says (s := t) (b := v) (mR_of (by omega) y1) (by
        rw [HV.out]
        constructor
        · intro h; exact ⟨0, (bl s).length, by have := h.len; rw [bl_len, bl_len] at this; rw [bl_len]; exact this, fr_fst.2 ⟨rfl, rfl, h⟩⟩
        · rintro ⟨p0, p1, _, h⟩; exact (fr_fst.1 h).2.2))
      have C4 := hide (whole_says (s := t) (b := v) (mR_of (by omega) y3) (by rw [HV.out, ← bl_len t]; exact fr_any.symm))
      clear hbP hl y1 y2 y3 s1 s2 hzP
      go_wp2_with fail
      refine (C0.out _).mono ?_
      rintro e_ w1 ⟨rfl, b1⟩
      have B1 := hide (Below.chain HB0.out b1)
      clear b1
      go_wp2_with fail
      refine (C1.out _).mono ?_
      rintro e_ w2 ⟨rfl, b1⟩
      have B2 := hide (Below.chain B1.out b1)
      clear b1
      go_wp2_with fail
      refine (C2.out _).mono ?_
      rintro e_ w3 ⟨rfl, b1⟩
      have B3 := hide (Below.chain B2.out b1)
      clear b1
      go_wp2_with fail
      refine (C3.out _).mono ?_
      rintro e_ w4 ⟨rfl, b1⟩
      have B4 := hide (Below.chain B3.out b1)
      clear b1
      go_wp2_with fail
      refine (C4.out _).mono ?_
      rintro e_ w5 ⟨rfl, b1⟩
      have B5 := hide (Below.chain B4.out b1)
      clear b1 C0 C1 C2 C3 C4
      by_cases hc : j ≤ m
      · have hdc : decide ((j : Int) ≤ (m : Int)) = true := decide_eq_true (by omega)
        have hdc2 : decide (j ≤ m) = true := decide_eq_true hc
        have hsl := sl_upto t j (by have := HN.out; omega)
        have heq : ((t.extract 0 j).toList == s.toList) = v := by
          have h1 : t.extract 0 j = s ↔ Pre (bl s) (bl t) := by rw [← HN.out.1]; exact pre_eq
          rw [Bool.eq_iff_iff, HV.out, beq_iff_eq, ← h1, ByteArray.toList_eq, ByteArray.toList_eq, Array.toList_inj]
          constructor
          · intro h; cases hx : t.extract 0 j; cases hy : s; rw [hx, hy] at h; simp at h; rw [h]
          · intro h; rw [h]
        generalize t.extract 0 j = T at *
        cases v with
        | true =>
          go_wp2_with fail
          refine (awake_end B5.out).mono ?_
          rintro e_ w6 ⟨rfl, HB⟩
          go_wp2
          go_ret
          exact ⟨rfl, HB.out⟩
        | false =>
          go_wp2_with fail
          refine (awake_end B5.out).mono ?_
          rintro e_ w6 ⟨rfl, HB⟩
          go_wp2
          go_ret
          exact ⟨rfl, HB.out⟩
      · have hdc : decide ((j : Int) ≤ (m : Int)) = false := decide_eq_false (by omega)
        have hdc2 : decide (j ≤ m) = false := decide_eq_false hc
        obtain rfl : v = false := by
          cases v with
          | false => rfl
          | true =>
            have := (HV.out.1 rfl).len
            rw [bl_len, bl_len] at this
            have := HN.out
            omega
        clear hc
        go_wp2_with fail
        refine (awake_end B5.out).mono ?_
        rintro e_ w6 ⟨rfl, HB⟩
        go_wp2
        go_ret
        exact ⟨rfl, HB.out⟩
end Go.Proofs.Ytmjnedafcfolgaa
