/- What is printed is read as it was; a later moment is the later text; what another length has is no date. -/
import Derived.Test.YteicdlomjhjiiaaDoorDt10
import Derived.Laws.Strings
import Derived.Laws.Cover1
namespace Go.Proofs.YteicdlomjhjiiaaDoor
open Go.RowKit
/-- A digit. -/
def dgt (n : Nat) : UInt8 := UInt8.ofNat (48 + n % 10)
theorem dgt_nat (n : Nat) : (dgt n).toNat = 48 + n % 10 := by
  unfold dgt
  rw [UInt8.toNat_ofNat']
  omega
theorem dg_dgt (n : Nat) : dg (dgt n).toNat = n % 10 := by
  rw [dgt_nat]; unfold dg; omega
theorem okc_dgt (n : Nat) : okc 48 (dgt n).toNat = true := by
  unfold okc
  rw [if_pos rfl, dgt_nat]
  exact decide_eq_true (by omega)
theorem okc_same (p : Nat) (h : p ≠ 48) : okc p p = true := by
  unfold okc
  rw [if_neg h]
  exact decide_eq_true rfl
/-- A date without its offset. -/
def loc19 (y m d h i s : Nat) : ByteArray :=
  ⟨#[dgt (y / 10 / 10 / 10), dgt (y / 10 / 10), dgt (y / 10), dgt y, 45, dgt (m / 10), dgt m, 45, dgt (d / 10), dgt d, 84, dgt (h / 10), dgt h, 58, dgt (i / 10), dgt i, 58, dgt (s / 10), dgt s]⟩
/-- An offset. -/
def off6 (c : UInt8) (h m : Nat) : ByteArray := ⟨#[c, dgt (h / 10), dgt h, 58, dgt (m / 10), dgt m]⟩
theorem txt_list (y m d h i s : Nat) : (txt y m d h i s).data.toList = pw y 4 ++ ([45] ++ (pw m 2 ++ ([45] ++ (pw d 2 ++ ([84] ++ (pw h 2 ++ ([58] ++ (pw i 2 ++ ([58] ++ (pw s 2 ++ [90])))))))))) := by
  unfold txt pd
  simp only [ByteArray.data_append, Array.toList_append, List.append_assoc]
theorem txt_loc (y m d h i s : Nat) : txt y m d h i s = loc19 y m d h i s ++ ⟨#[90]⟩ := by
  apply ByteArray.ext
  apply Array.toList_inj.1
  rw [txt_list]
  unfold loc19
  simp only [pw, dgt, ByteArray.data_append, Array.toList_append, List.nil_append, List.cons_append]
theorem off_eq (c : UInt8) (h m : Nat) : (⟨#[c]⟩ : ByteArray) ++ (pd h 2 ++ ⟨#[58]⟩ ++ pd m 2) = off6 c h m := by
  apply ByteArray.ext
  unfold off6 pd
  simp only [ByteArray.data_append]
  rfl
theorem loc_size (y m d h i s : Nat) : (loc19 y m d h i s).size = 19 := rfl
theorem off_size (c : UInt8) (h m : Nat) : (off6 c h m).size = 6 := rfl
theorem loc_fit (y m d h i s : Nat) : fitB (loc19 y m d h i s) shL = true := by
  refine fit_yes rfl fun j hj => ?_
  have hj' : j < 19 := hj
  obtain rfl | rfl | rfl | rfl | rfl | rfl | rfl | rfl | rfl | rfl | rfl | rfl | rfl | rfl | rfl | rfl | rfl | rfl | rfl : j = 0 ∨ j = 1 ∨ j = 2 ∨ j = 3 ∨ j = 4 ∨ j = 5 ∨ j = 6 ∨ j = 7 ∨ j = 8 ∨ j = 9 ∨ j = 10 ∨ j = 11 ∨ j = 12 ∨ j = 13 ∨ j = 14 ∨ j = 15 ∨ j = 16 ∨ j = 17 ∨ j = 18 := by omega
  all_goals first | exact okc_dgt _ | exact okc_same 45 (by decide) | exact okc_same 84 (by decide) | exact okc_same 58 (by decide)
theorem off_fitA (h m : Nat) : fitB (off6 43 h m) shA = true := by
  refine fit_yes rfl fun j hj => ?_
  have hj' : j < 6 := hj
  obtain rfl | rfl | rfl | rfl | rfl | rfl : j = 0 ∨ j = 1 ∨ j = 2 ∨ j = 3 ∨ j = 4 ∨ j = 5 := by omega
  all_goals first | exact okc_dgt _ | exact okc_same 43 (by decide) | exact okc_same 58 (by decide)
theorem off_fitB (h m : Nat) : fitB (off6 45 h m) shB = true := by
  refine fit_yes rfl fun j hj => ?_
  have hj' : j < 6 := hj
  obtain rfl | rfl | rfl | rfl | rfl | rfl : j = 0 ∨ j = 1 ∨ j = 2 ∨ j = 3 ∨ j = 4 ∨ j = 5 := by omega
  all_goals first | exact okc_dgt _ | exact okc_same 45 (by decide) | exact okc_same 58 (by decide)
theorem n2_dgt {s : ByteArray} {k n : Nat} (h0 : bt s k = (dgt (n / 10)).toNat) (h1 : bt s (k + 1) = (dgt n).toNat) (hn : n < 100) : n2 s k = (n : Int) := by
  unfold n2
  rw [h0, h1, dg_dgt, dg_dgt]
  omega
theorem n4_dgt {s : ByteArray} {n : Nat} (h0 : bt s 0 = (dgt (n / 10 / 10 / 10)).toNat) (h1 : bt s 1 = (dgt (n / 10 / 10)).toNat) (h2 : bt s 2 = (dgt (n / 10)).toNat) (h3 : bt s 3 = (dgt n).toNat) (hn : n < 10000) : n4 s = (n : Int) := by
  unfold n4 n2
  rw [h0, h1, h2, h3, dg_dgt, dg_dgt, dg_dgt, dg_dgt]
  omega
theorem ckV_ok {h m x : Int} (c : okC h m x = true) : ckV h m x = 3600 * h + 60 * m + x := by unfold ckV; rw [if_pos c]
theorem loc_says {y m d h i s : Nat} (hy : y < 10000) (hm : m < 100) (hd : d < 100) (hh : h < 24) (hi : i < 60) (hs : s < 60) (hI : isD y m d = true) :
    locB (loc19 y m d h i s) = true ∧ locV (loc19 y m d h i s) = dn y m d * 86400 + (3600 * (h : Int) + 60 * i + s) := by
  have e4 : n4 (loc19 y m d h i s) = (y : Int) := n4_dgt rfl rfl rfl rfl hy
  have a5 : n2 (loc19 y m d h i s) 5 = (m : Int) := n2_dgt rfl rfl hm
  have a8 : n2 (loc19 y m d h i s) 8 = (d : Int) := n2_dgt rfl rfl hd
  have a11 : n2 (loc19 y m d h i s) 11 = (h : Int) := n2_dgt rfl rfl (by omega)
  have a14 : n2 (loc19 y m d h i s) 14 = (i : Int) := n2_dgt rfl rfl (by omega)
  have a17 : n2 (loc19 y m d h i s) 17 = (s : Int) := n2_dgt rfl rfl (by omega)
  have hc : okC h i s = true := decide_eq_true ⟨by omega, by omega, by omega⟩
  constructor
  · unfold locB
    rw [loc_fit, e4, a5, a8, a11, a14, a17, hI, hc]; rfl
  · unfold locV
    rw [loc_fit, if_pos rfl, e4, a5, a8, a11, a14, a17, ckV_ok hc]
    unfold dv
    rw [hI, if_pos rfl]
/-- A date out of both parts. -/
theorem pr_parts {l z : ByteArray} {n v : Int} (hl : l.size = 19) (hb : locB l = true) (hv : locV l = n) (hz : offB z = true) (ho : offV z = v) (hm : okM (n - v) = true) : prB (l ++ z) = true ∧ prV (l ++ z) = n - v := by
  have e1 : (l ++ z).extract 0 19 = l := ByteArray.extract_append_eq_left hl.symm
  have e2 : (l ++ z).extract 19 (l ++ z).size = z := ByteArray.extract_append_eq_right hl.symm ByteArray.size_append
  have hN : prN (l ++ z) = n - v := by unfold prN; rw [e1, e2, hv, ho]
  have hB : prB (l ++ z) = true := by
    unfold prB
    rw [e1, e2, hb, hz, hN, hm, decide_eq_true (by rw [ByteArray.size_append]; omega)]; rfl
  exact ⟨hB, by unfold prV; rw [hB, if_pos rfl, hN]⟩
theorem z_says : offB ⟨#[90]⟩ = true ∧ offV ⟨#[90]⟩ = 0 := by
  have h : isZ ⟨#[90]⟩ = true := by decide +kernel
  exact ⟨by unfold offB; rw [h]; rfl, by unfold offV; rw [h]; rfl⟩
theorem len_noZ {z : ByteArray} (h : z.size = 6) : isZ z = false := by
  unfold isZ
  rw [ByteArray.toList_eq, beq_eq_false_iff_ne]
  intro e
  have := congrArg List.length e
  have h2 : z.data.toList.length = 6 := h
  rw [h2] at this
  cases this
theorem a_says {h m : Nat} (hh : h < 24) (hm : m < 60) : offB (off6 43 h m) = true ∧ offV (off6 43 h m) = 3600 * (h : Int) + 60 * m := by
  have a1 : n2 (off6 43 h m) 1 = (h : Int) := n2_dgt rfl rfl (by omega)
  have a4 : n2 (off6 43 h m) 4 = (m : Int) := n2_dgt rfl rfl (by omega)
  have hc : okC h m 0 = true := decide_eq_true ⟨by omega, by omega, by omega⟩
  have hz := len_noZ (off_size 43 h m)
  have hB : fitB (off6 43 h m) shB = false := Bool.eq_false_iff.2 fun h2 => by
    have h3 := fit_at (i := 0) h2 (by decide)
    exact absurd (show okc 45 43 = true from h3) (by decide)
  constructor
  · unfold offB; rw [hz, off_fitA, a1, a4, hc]; rfl
  · unfold offV; rw [hz, hB, off_fitA, a1, a4, ckV_ok hc]
    show 3600 * (h : Int) + 60 * m + 0 = _
    omega
theorem b_says {h m : Nat} (hh : h < 24) (hm : m < 60) : offB (off6 45 h m) = true ∧ offV (off6 45 h m) = -(3600 * (h : Int) + 60 * m) := by
  have a1 : n2 (off6 45 h m) 1 = (h : Int) := n2_dgt rfl rfl (by omega)
  have a4 : n2 (off6 45 h m) 4 = (m : Int) := n2_dgt rfl rfl (by omega)
  have hc : okC h m 0 = true := decide_eq_true ⟨by omega, by omega, by omega⟩
  have hz := len_noZ (off_size 45 h m)
  constructor
  · unfold offB; rw [hz, off_fitB, a1, a4, hc, Bool.or_true]; rfl
  · unfold offV; rw [hz, off_fitB, a1, a4, ckV_ok hc]
    show -(3600 * (h : Int) + 60 * m + 0) = _
    omega
/-- What is printed of a moment. -/
theorem prt_loc {n : Int} (ho : okM n = true) : ∃ l : ByteArray, prt n = l ++ ⟨#[90]⟩ ∧ l.size = 19 ∧ locB l = true ∧ locV l = n := by
  obtain ⟨n0, n1⟩ := of_decide_eq_true ho
  obtain ⟨y, m, d, e1, e2, e3, y1, m0, m1, d0, d1, hI, hK⟩ := ymd_at (k := n / 86400) (by omega) (by omega)
  obtain ⟨c, h, i, s, e4, e5, e6, e7, h1, i1, s1, c1, hc⟩ := clk_at n
  have hV := prt_at ho e1 e2 e3 e4 e5 e6 e7
  obtain ⟨p, q⟩ := loc_says (y := y) (m := m) (d := d) (h := h) (i := i) (s := s) y1 (by omega) (by omega) h1 i1 s1 hI
  exact ⟨loc19 y m d h i s, by rw [hV, txt_loc], rfl, p, by rw [q, hK]; omega⟩
theorem prt_size {n : Int} (ho : okM n = true) : (prt n).size = 20 := by
  obtain ⟨l, e, hl, _⟩ := prt_loc ho
  rw [e, ByteArray.size_append, hl]; rfl
theorem prt_back {n : Int} (ho : okM n = true) : prB (prt n) = true ∧ prV (prt n) = n := by
  obtain ⟨l, e, hl, hb, hv⟩ := prt_loc ho
  have := pr_parts hl hb hv z_says.1 z_says.2 (by rw [Int.sub_zero]; exact ho)
  rw [e, this.1, this.2, Int.sub_zero]
  exact ⟨rfl, rfl⟩
theorem pr_ok {s : ByteArray} (h : prB s = true) : okM (prV s) = true := by
  have e : prV s = prN s := by unfold prV; rw [h, if_pos rfl]
  rw [e]
  unfold prB at h
  simp only [Bool.and_eq_true] at h
  exact h.2.2.2
theorem pr_nil {s : ByteArray} (h : prB s = false) : prV s = 0 := by unfold prV; rw [h]; rfl
theorem off_ahead {n : Int} {h m : Nat} (ho : okM n = true) (hh : h < 24) (hm : m < 60) (hr : okM (n - (3600 * (h : Int) + 60 * m)) = true) :
    prB ((prt n).extract 0 19 ++ ⟨#[43]⟩ ++ (pd h 2 ++ ⟨#[58]⟩ ++ pd m 2)) = true ∧ prV ((prt n).extract 0 19 ++ ⟨#[43]⟩ ++ (pd h 2 ++ ⟨#[58]⟩ ++ pd m 2)) = n - (3600 * (h : Int) + 60 * m) := by
  obtain ⟨l, e, hl, hb, hv⟩ := prt_loc ho
  rw [e, ByteArray.extract_append_eq_left hl.symm, ByteArray.append_assoc, off_eq]
  exact pr_parts hl hb hv (a_says hh hm).1 (a_says hh hm).2 hr
theorem off_behind {n : Int} {h m : Nat} (ho : okM n = true) (hh : h < 24) (hm : m < 60) (hr : okM (n + (3600 * (h : Int) + 60 * m)) = true) :
    prB ((prt n).extract 0 19 ++ ⟨#[45]⟩ ++ (pd h 2 ++ ⟨#[58]⟩ ++ pd m 2)) = true ∧ prV ((prt n).extract 0 19 ++ ⟨#[45]⟩ ++ (pd h 2 ++ ⟨#[58]⟩ ++ pd m 2)) = n + (3600 * (h : Int) + 60 * m) := by
  obtain ⟨l, e, hl, hb, hv⟩ := prt_loc ho
  rw [e, ByteArray.extract_append_eq_left hl.symm, ByteArray.append_assoc, off_eq]
  have := pr_parts hl hb hv (b_says hh hm).1 (b_says hh hm).2 (by rw [Int.sub_neg]; exact hr)
  rw [Int.sub_neg] at this
  exact this
/-- Other lengths. -/
theorem pr_len {s : ByteArray} (h : prB s = true) : s.size = 20 ∨ s.size = 25 := by
  unfold prB at h
  simp only [Bool.and_eq_true] at h
  have h19 := of_decide_eq_true h.1
  have hz : (s.extract 19 s.size).size = s.size - 19 := by rw [ByteArray.size_extract]; omega
  have hb := h.2.2.1
  unfold offB at hb
  simp only [Bool.or_eq_true, Bool.and_eq_true] at hb
  rcases hb with hb | ⟨hb | hb, _⟩
  · unfold isZ at hb
    rw [ByteArray.toList_eq] at hb
    have := congrArg List.length (eq_of_beq hb)
    have e : (s.extract 19 s.size).data.toList.length = (s.extract 19 s.size).size := rfl
    rw [e, hz] at this
    simp at this
    omega
  · have := fit_size hb
    rw [hz] at this
    have e : shA.size = 6 := rfl
    omega
  · have := fit_size hb
    rw [hz] at this
    have e : shB.size = 6 := rfl
    omega
theorem pr_other {s : ByteArray} (h : s.size ≠ 20 ∧ s.size ≠ 25) : prB s = false := Bool.eq_false_iff.2 fun hb => by
  rcases pr_len hb with e | e
  · exact h.1 e
  · exact h.2 e
/-- The order of texts. -/
theorem bl_left : ∀ (p l r : List UInt8), Op.bytesLess (p ++ l) (p ++ r) = Op.bytesLess l r
  | [], _, _ => rfl
  | a :: p, l, r => by
    show (decide (a < a) || (a == a && Op.bytesLess (p ++ l) (p ++ r))) = _
    rw [bl_left p l r]
    simp
theorem bl_first : ∀ {l r : List UInt8} (x y : List UInt8), l.length = r.length → Op.bytesLess l r = true → Op.bytesLess (l ++ x) (r ++ y) = true
  | [], [], _, _, _, h => by simp [Op.bytesLess] at h
  | [], _ :: _, _, _, hl, _ => by simp at hl
  | _ :: _, [], _, _, hl, _ => by simp at hl
  | a :: l, b :: r, x, y, hl, h => by
    have h2 : (decide (a < b) || (a == b && Op.bytesLess l r)) = true := h
    show (decide (a < b) || (a == b && Op.bytesLess (l ++ x) (r ++ y))) = true
    rcases (Bool.or_eq_true _ _).mp h2 with h3 | h3
    · rw [h3]; rfl
    · obtain ⟨h4, h5⟩ := (Bool.and_eq_true _ _).mp h3
      rw [h4, bl_first x y (by simpa using hl) h5]; simp
theorem bl_irr : ∀ l : List UInt8, Op.bytesLess l l = false
  | [] => rfl
  | a :: l => by
    show (decide (a < a) || (a == a && Op.bytesLess l l)) = false
    rw [bl_irr l]; simp
theorem bl_asym : ∀ {l r : List UInt8}, Op.bytesLess l r = true → Op.bytesLess r l = false
  | [], [], h => by simp [Op.bytesLess] at h
  | [], _ :: _, _ => rfl
  | _ :: _, [], h => by simp [Op.bytesLess] at h
  | a :: l, b :: r, h => by
    have h2 : (decide (a < b) || (a == b && Op.bytesLess l r)) = true := h
    show (decide (b < a) || (b == a && Op.bytesLess r l)) = false
    rcases (Bool.or_eq_true _ _).mp h2 with h3 | h3
    · have h4 : a < b := of_decide_eq_true h3
      have h5 : ¬ b < a := fun h6 => by
        have := UInt8.lt_iff_toNat_lt.1 h4
        have := UInt8.lt_iff_toNat_lt.1 h6
        omega
      have h7 : (b == a) = false := beq_eq_false_iff_ne.2 fun e => by
        subst e
        have := UInt8.lt_iff_toNat_lt.1 h4
        omega
      rw [decide_eq_false h5, h7]; rfl
    · obtain ⟨h4, h5⟩ := (Bool.and_eq_true _ _).mp h3
      have e : a = b := eq_of_beq h4
      subst e
      rw [bl_asym h5]
      simp
theorem pw_lt : ∀ (k : Nat) {n m : Nat}, n < m → m < 10 ^ k → Op.bytesLess (pw n k) (pw m k) = true
  | 0, n, m, h, hk => by
    have : (10 : Nat) ^ 0 = 1 := rfl
    omega
  | k + 1, n, m, h, hk => by
    unfold pw
    by_cases e : n / 10 = m / 10
    · rw [e, bl_left]
      show (decide (UInt8.ofNat (48 + n % 10) < UInt8.ofNat (48 + m % 10)) || (_ && _)) = true
      have : UInt8.ofNat (48 + n % 10) < UInt8.ofNat (48 + m % 10) := by
        rw [UInt8.lt_iff_toNat_lt]
        have a := dgt_nat n
        have b := dgt_nat m
        unfold dgt at a b
        rw [a, b]
        omega
      rw [decide_eq_true this]; rfl
    · have h10 : (10 : Nat) ^ (k + 1) = 10 ^ k * 10 := Nat.pow_succ ..
      generalize (10 : Nat) ^ (k + 1) = P at *
      generalize hQ : (10 : Nat) ^ k = Q at *
      refine bl_first _ _ (by rw [pw_len, pw_len]) (pw_lt k (by omega) ?_)
      rw [hQ]; omega
theorem txt_lt {y m d h i s y' m' d' h' i' s' : Nat} (hy : y' < 10000) (hm : m' < 100) (hd : d' < 100) (hh : h' < 100) (hi : i' < 100) (hs : s' < 100)
    (c : y < y' ∨ (y = y' ∧ (m < m' ∨ (m = m' ∧ (d < d' ∨ (d = d' ∧ (h < h' ∨ (h = h' ∧ (i < i' ∨ (i = i' ∧ s < s')))))))))) :
    Op.bytesLess (txt y m d h i s).data.toList (txt y' m' d' h' i' s').data.toList = true := by
  have p2 : (10 : Nat) ^ 2 = 100 := rfl
  have p4 : (10 : Nat) ^ 4 = 10000 := rfl
  rw [txt_list, txt_list]
  have L : ∀ (k a b : Nat), (pw a k).length = (pw b k).length := fun k a b => by rw [pw_len, pw_len]
  rcases c with c | ⟨rfl, c⟩
  · exact bl_first _ _ (L _ _ _) (pw_lt 4 c (by rw [p4]; exact hy))
  rw [bl_left, bl_left]
  rcases c with c | ⟨rfl, c⟩
  · exact bl_first _ _ (L _ _ _) (pw_lt 2 c (by rw [p2]; exact hm))
  rw [bl_left, bl_left]
  rcases c with c | ⟨rfl, c⟩
  · exact bl_first _ _ (L _ _ _) (pw_lt 2 c (by rw [p2]; exact hd))
  rw [bl_left, bl_left]
  rcases c with c | ⟨rfl, c⟩
  · exact bl_first _ _ (L _ _ _) (pw_lt 2 c (by rw [p2]; exact hh))
  rw [bl_left, bl_left]
  rcases c with c | ⟨rfl, c⟩
  · exact bl_first _ _ (L _ _ _) (pw_lt 2 c (by rw [p2]; exact hi))
  rw [bl_left, bl_left]
  exact bl_first _ _ (L _ _ _) (pw_lt 2 c (by rw [p2]; exact hs))
theorem day_lt {y m d y' m' d' : Int} (h : isD y m d = true) (h' : isD y' m' d' = true) (e : dn y m d < dn y' m' d') : y < y' ∨ (y = y' ∧ (m < m' ∨ (m = m' ∧ d < d'))) := by
  have r := day_range h
  have r' := day_range h'
  rcases Int.lt_trichotomy y y' with l | l | l
  · exact .inl l
  · subst l
    refine .inr ⟨rfl, ?_⟩
    obtain ⟨a, b, c, ee, f, g⟩ := (isD_iff y m d).1 h
    obtain ⟨_, _, c', e', f', g'⟩ := (isD_iff y m' d').1 h'
    obtain ⟨j, hj⟩ : ∃ j : Nat, (m - 1).toNat = j := ⟨_, rfl⟩
    obtain ⟨j', hj'⟩ : ∃ j : Nat, (m' - 1).toNat = j := ⟨_, rfl⟩
    have hm : m = (j : Int) + 1 := by omega
    have hm' : m' = (j' : Int) + 1 := by omega
    subst hm; subst hm'
    unfold dn at e
    rw [hj, hj'] at e
    have q2 : cu y (j' + 1) = cu y j' + md y ((j' : Int) + 1) := rfl
    rcases Nat.lt_trichotomy j j' with l | l | l
    · exact .inl (by omega)
    · subst l; exact .inr ⟨rfl, by omega⟩
    · have := cu_le (y := y) (k := j' + 1) (j := j) (by omega); omega
  · have := ah_mono (y := y' + 1) (z := y) (by omega); omega
theorem prt_lt {a b : Int} (ha : okM a = true) (hb : okM b = true) (h : a < b) : Op.bytesLess (prt a).data.toList (prt b).data.toList = true := by
  obtain ⟨a0, a1⟩ := of_decide_eq_true ha
  obtain ⟨b0, b1⟩ := of_decide_eq_true hb
  obtain ⟨y, m, d, e1, e2, e3, y1, m0, m1, d0, d1, hI, hK⟩ := ymd_at (k := a / 86400) (by omega) (by omega)
  obtain ⟨c, hh, i, s, e4, e5, e6, e7, h1, i1, s1, c1, hc⟩ := clk_at a
  obtain ⟨y', m', d', e1', e2', e3', y1', m0', m1', d0', d1', hI', hK'⟩ := ymd_at (k := b / 86400) (by omega) (by omega)
  obtain ⟨c', hh', i', s', e4', e5', e6', e7', h1', i1', s1', c1', hc'⟩ := clk_at b
  rw [prt_at ha e1 e2 e3 e4 e5 e6 e7, prt_at hb e1' e2' e3' e4' e5' e6' e7']
  refine txt_lt y1' (by omega) (by omega) (by omega) (by omega) (by omega) ?_
  rcases Int.lt_trichotomy (a / 86400) (b / 86400) with l | l | l
  · rcases day_lt hI hI' (by rw [hK, hK']; exact l) with g | ⟨g, g | ⟨g1, g2⟩⟩
    · exact .inl (by omega)
    · exact .inr ⟨by omega, .inl (by omega)⟩
    · exact .inr ⟨by omega, .inr ⟨by omega, .inl (by omega)⟩⟩
  · obtain ⟨g1, g2, g3⟩ := day_one hI hI' (by rw [hK, hK']; exact l)
    refine .inr ⟨by omega, .inr ⟨by omega, .inr ⟨by omega, ?_⟩⟩⟩
    have hcc : c < c' := by omega
    by_cases q : hh < hh'
    · exact .inl q
    · have q1 : hh = hh' := by omega
      refine .inr ⟨q1, ?_⟩
      by_cases q2 : i < i'
      · exact .inl q2
      · exact .inr ⟨by omega, by omega⟩
  · omega
/-- The texts of two moments, held against each other. -/
theorem prt_cmp {a b : Int} (ha : okM a = true) (hb : okM b = true) : Op.bytesLess (prt a).toList (prt b).toList = decide (a < b) ∧ ((prt a).toList == (prt b).toList) = decide (a = b) := by
  rw [ByteArray.toList_eq, ByteArray.toList_eq]
  rcases Int.lt_trichotomy a b with l | l | l
  · have h := prt_lt ha hb l
    refine ⟨by rw [h, decide_eq_true l], ?_⟩
    rw [decide_eq_false (by omega), beq_eq_false_iff_ne]
    intro e
    rw [e, bl_irr] at h
    cases h
  · subst l
    exact ⟨by rw [bl_irr, decide_eq_false (by omega)], by rw [decide_eq_true rfl]; exact beq_self_eq_true _⟩
  · have h := prt_lt hb ha l
    refine ⟨by rw [bl_asym h, decide_eq_false (by omega)], ?_⟩
    rw [decide_eq_false (by omega), beq_eq_false_iff_ne]
    intro e
    rw [e, bl_irr] at h
    cases h
end Go.Proofs.YteicdlomjhjiiaaDoor
