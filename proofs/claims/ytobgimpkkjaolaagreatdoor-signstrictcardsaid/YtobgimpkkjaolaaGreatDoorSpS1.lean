/- A number and the order more, byte by byte: without any program. -/
import Derived.Test.YtobgimpkkjaolaaGreatDoorSgR1
namespace Go.Proofs.YtobgimpkkjaolaaGreatDoor
def l16 : List Nat := [237, 211, 245, 92, 26, 99, 18, 88, 214, 156, 247, 162, 222, 249, 222, 20]
def lbs : List Nat := (l16 ++ zz 16).set 31 16
theorem lbs_len : lbs.length = 32 := by decide
theorem lbs_ll : Sc.bval lbs = Sc.ll := by decide +kernel
theorem l16_lim : ∀ i, l16.getD i 0 < 256 := lim_list (by decide)
theorem lbs_lim : ∀ i, lbs.getD i 0 < 256 := lim_list (by decide)
theorem ba_l16 : ba l16 = #[.int .u8 237, .int .u8 211, .int .u8 245, .int .u8 92, .int .u8 26, .int .u8 99, .int .u8 18, .int .u8 88, .int .u8 214, .int .u8 156, .int .u8 247, .int .u8 162, .int .u8 222, .int .u8 249, .int .u8 222, .int .u8 20] := rfl
def cyq (S L : List Nat) : Nat → Nat
  | 0 => 0
  | k + 1 => (cyq S L k + (S.getD k 0 + L.getD k 0)) / 256
def dsum (S L : List Nat) : Nat → List Nat
  | 0 => []
  | k + 1 => dsum S L k ++ [(cyq S L k + (S.getD k 0 + L.getD k 0)) % 256]
theorem dsum_len (S L : List Nat) : ∀ k, (dsum S L k).length = k
  | 0 => rfl
  | k + 1 => by simp [dsum, dsum_len S L k]
theorem cyq_le {S L : List Nat} (h1 : ∀ i, S.getD i 0 < 256) (h2 : ∀ i, L.getD i 0 < 256) : ∀ k, cyq S L k ≤ 1
  | 0 => Nat.zero_le _
  | k + 1 => by
    have := cyq_le h1 h2 k
    have := h1 k
    have := h2 k
    rw [cyq]; omega
theorem takeq_up {l : List Nat} {k : Nat} (h : k < l.length) : l.take (k + 1) = l.take k ++ [l.getD k 0] := by
  rw [List.take_add_one, List.getElem?_eq_getElem h, List.getD_eq_getElem?_getD, List.getElem?_eq_getElem h]; rfl
theorem oneq_val (x : Nat) : Sc.bval [x] = x := by show x + 256 * 0 = x; omega
theorem dsum_val (S L : List Nat) (hS : S.length = 32) (hL : L.length = 32) : ∀ k, k ≤ 32 → Sc.bval (dsum S L k) + 256 ^ k * cyq S L k = Sc.bval (S.take k) + Sc.bval (L.take k)
  | 0, _ => rfl
  | k + 1, h => by
    have ih := dsum_val S L hS hL k (by omega)
    rw [takeq_up (by omega : k < S.length), takeq_up (by omega : k < L.length), dsum, Sc.bval_append, Sc.bval_append, Sc.bval_append, oneq_val, oneq_val, oneq_val, dsum_len, List.length_take, List.length_take, Nat.min_eq_left (by omega), Nat.min_eq_left (by omega), cyq]
    have e : cyq S L k + (S.getD k 0 + L.getD k 0) = 256 * ((cyq S L k + (S.getD k 0 + L.getD k 0)) / 256) + (cyq S L k + (S.getD k 0 + L.getD k 0)) % 256 := (Nat.div_add_mod _ _).symm
    generalize (cyq S L k + (S.getD k 0 + L.getD k 0)) / 256 = q at *
    generalize (cyq S L k + (S.getD k 0 + L.getD k 0)) % 256 = r at *
    generalize cyq S L k = c at *
    generalize S.getD k 0 = a at *
    generalize L.getD k 0 = b at *
    generalize Sc.bval (dsum S L k) = D at *
    generalize Sc.bval (S.take k) = X at *
    generalize Sc.bval (L.take k) = Y at *
    rw [Nat.pow_succ]
    generalize 256 ^ k = p at *
    have e2 : p * (c + (a + b)) = p * (256 * q + r) := by rw [e]
    rw [Nat.mul_add, Nat.mul_add, Nat.mul_add, ← Nat.mul_assoc] at e2
    omega
theorem two_ll : Sc.ll + Sc.ll < 256 ^ 32 := by decide +kernel
theorem sum_over (S : List Nat) (hS : S.length = 32) (hm : Sc.mayb S = true) : cyq S lbs 32 = 0 ∧ Sc.mayb (dsum S lbs 32) = false := by
  have hlt : Sc.bval S < Sc.ll := by
    unfold Sc.mayb at hm
    exact (of_decide_eq_true hm).2
  have h := dsum_val S lbs hS lbs_len 32 (Nat.le_refl _)
  rw [List.take_of_length_le (by omega : S.length ≤ 32), List.take_of_length_le (by rw [lbs_len]; exact Nat.le_refl _), lbs_ll] at h
  have h2 := two_ll
  generalize Sc.bval S = X at *
  obtain ⟨D, hD⟩ : ∃ D, Sc.bval (dsum S lbs 32) = D := ⟨_, rfl⟩
  rw [hD] at h
  have hc : cyq S lbs 32 = 0 := by
    rcases Nat.eq_zero_or_pos (cyq S lbs 32) with h0 | h0
    · exact h0
    · exfalso
      have h3 : 256 ^ 32 * 1 ≤ 256 ^ 32 * cyq S lbs 32 := Nat.mul_le_mul_left _ h0
      generalize (256 : Nat) ^ 32 = p at *
      generalize Sc.ll = q at *
      generalize p * cyq S lbs 32 = r at *
      omega
  refine ⟨hc, ?_⟩
  unfold Sc.mayb
  refine decide_eq_false fun hx => ?_
  rw [hc, Nat.mul_zero, Nat.add_zero] at h
  have h4 := hx.2
  rw [hD] at h4
  generalize Sc.ll = q at *
  omega
def bigk (A L : List Nat) (k : Nat) : List Nat := A.take 32 ++ (dsum (A.drop 32) L k ++ A.drop (32 + k))
theorem bigk_zero (A L : List Nat) : bigk A L 0 = A := by unfold bigk dsum; simp
theorem bigk_len (A L : List Nat) (h : A.length = 64) (k : Nat) (hk : k ≤ 32) : (bigk A L k).length = 64 := by
  unfold bigk; rw [List.length_append, List.length_append, dsum_len, List.length_take, List.length_drop]; omega
theorem setq_mid {X Y : List Nat} {y z n : Nat} {T : List Nat} (hn : X.length + Y.length = n) : (X ++ (Y ++ y :: T)).set n z = X ++ ((Y ++ [z]) ++ T) := by
  subst hn
  rw [List.set_append_right _ _ (by omega), Nat.add_sub_cancel_left, List.set_append_right _ _ (by omega), Nat.sub_self]
  simp
theorem bigk_step (A L : List Nat) (h : A.length = 64) (k : Nat) (hk : k < 32) : (bigk A L k).set (32 + k) ((cyq (A.drop 32) L k + (A.getD (32 + k) 0 + L.getD k 0)) % 256) = bigk A L (k + 1) := by
  unfold bigk
  have e : A.drop (32 + k) = A.getD (32 + k) 0 :: A.drop (32 + (k + 1)) := by
    rw [List.drop_eq_getElem_cons (by omega : 32 + k < A.length), List.getD_eq_getElem?_getD, List.getElem?_eq_getElem (by omega : 32 + k < A.length)]; rfl
  rw [e, setq_mid (by rw [List.length_take, dsum_len]; omega), dsum]
  have e2 : (A.drop 32).getD k 0 = A.getD (32 + k) 0 := by rw [List.getD_eq_getElem?_getD, List.getD_eq_getElem?_getD, List.getElem?_drop]
  rw [e2]
theorem cyq_step (A L : List Nat) (k : Nat) : cyq (A.drop 32) L (k + 1) = (cyq (A.drop 32) L k + (A.getD (32 + k) 0 + L.getD k 0)) / 256 := by
  have e2 : (A.drop 32).getD k 0 = A.getD (32 + k) 0 := by rw [List.getD_eq_getElem?_getD, List.getD_eq_getElem?_getD, List.getElem?_drop]
  rw [cyq, e2]
theorem bigk_end (A L : List Nat) (h : A.length = 64) : (bigk A L 32).drop 32 = dsum (A.drop 32) L 32 := by
  unfold bigk
  rw [List.drop_append_of_le_length (by rw [List.length_take]; omega), List.drop_of_length_le (by rw [List.length_take]; omega), List.drop_of_length_le (by omega : A.length ≤ 32 + 32)]
  simp
end Go.Proofs.YtobgimpkkjaolaaGreatDoor
