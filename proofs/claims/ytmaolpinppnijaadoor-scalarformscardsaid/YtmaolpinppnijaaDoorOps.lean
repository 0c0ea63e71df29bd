/- Whether bytes may be a number, what they leave by the order, sums and products: as the program's calls answer them, in any world where the order lies as the program's text lays it. -/
import Derived.Test.YtmaolpinppnijaaDoorTimes
import Derived.Test.YtmaolpinppnijaaDoorRem
namespace Go.Proofs.YtmaolpinppnijaaDoor
open Go.RowKit
theorem bytesAt {w : World} {g c : Nat} {l : List Nat} (h : w.heap[g]? = some (.cells (ba l) 5 (0, 0))) (hg : g < w.heap.size) (hl : ∀ i, l.getD i 0 < 256) (hc : l.length ≤ c) (hm : c ≤ maxLen) : BsAt w (.slice (some ⟨g, 0, none⟩) l.length c) l :=
  ⟨g, 0, c, _, rfl, hc, hm, hl, fun _ => ⟨rfl, hg, fun i hi => by rw [Nat.zero_add, cell_of_row _ _ _ _ _ _ h, ba_get _ _ hi]⟩⟩
theorem byt_lt (x i : Nat) : byt x i < 256 := Nat.mod_lt _ (by decide)
theorem bys_lim (x : Nat) : ∀ i, (bys x 32).getD i 0 < 256 := fun i => by
  rw [bys_get x 32 i (Nat.le_refl _)]
  split
  · exact byt_lt _ _
  · decide
theorem byt_val (x : Nat) : ∀ n, ∀ l : List Nat, l.length = n → (∀ i, i < n → l.getD i 0 = byt x i) → bval l = x % 256 ^ n := by
  intro n
  induction n generalizing x with
  | zero =>
    intro l hl _
    have : l = [] := List.eq_nil_of_length_eq_zero hl
    subst this; simp [bval, Nat.mod_one]
  | succ n ih =>
    intro l hl hw
    cases l with
    | nil => simp at hl
    | cons a t =>
      have ha := hw 0 (by omega)
      have ht := ih (x / 256) t (by simpa using hl) (fun i hi => by
        have := hw (i + 1) (by omega)
        rw [List.getD_cons_succ] at this
        rw [this, byt, byt, Nat.pow_succ, Nat.mul_comm, Nat.div_div_eq_div_mul])
      simp only [List.getD_cons_zero, byt, Nat.pow_zero, Nat.div_one] at ha
      rw [bval, ht, ha, Nat.pow_succ, Nat.mul_comm (256 ^ n), Nat.mod_mul]
theorem bys_val (x : Nat) (hx : x < 115792089237316195423570985008687907853269984665640564039457584007913129639936) : bval (bys x 32) = x := by
  rw [byt_val x 32 _ (bys_len x 32), Nat.mod_eq_of_lt hx]
  intro i hi
  rw [bys_get x 32 i (Nat.le_refl _), if_pos hi]
theorem bval_all {l : List Nat} (h : ∀ i, l.getD i 0 < 256) : bval l < 256 ^ l.length := by
  have := bval_lt h l.length
  rwa [List.take_of_length_le (Nat.le_refl _)] at this
theorem bval_32 {l : List Nat} (h : ∀ i, l.getD i 0 < 256) (hl : l.length = 32) : bval l < 115792089237316195423570985008687907853269984665640564039457584007913129639936 := by
  have := bval_all h
  rw [hl] at this
  exact this
theorem bval_64 {l : List Nat} (h : ∀ i, l.getD i 0 < 256) (hl : l.length ≤ 64) : bval l < 18446744073709551616 ^ 8 := by
  have h1 := bval_all h
  have h2 : 256 ^ l.length ≤ 256 ^ 64 := Nat.pow_le_pow_right (by decide) hl
  have h3 : (256 : Nat) ^ 64 = 18446744073709551616 ^ 8 := by decide +kernel
  omega
theorem BsAt.lim {w : World} {v : Value} {bs : List Nat} (h : BsAt w v bs) : ∀ i, bs.getD i 0 < 256 := by
  obtain ⟨_, _, _, _, _, _, _, hl, _⟩ := h
  exact hl
/-- Bytes are returned. -/
def Bret (w : World) (l : List Nat) (e : Ending) (w' : World) : Prop := ∃ v, e = .returned v ∧ BsAt w' v l ∧ Below w.heap.size w w'
theorem lt_big {x : Nat} (h : x < ll) : x < 115792089237316195423570985008687907853269984665640564039457584007913129639936 := Nat.lt_trans h (by decide)
theorem bytes_ret (x : Nat) (hx : x < 115792089237316195423570985008687907853269984665640564039457584007913129639936) (w : World) : Calls Tryd.prog 25 #[.agg (el x)] w (Bret w (bys x 32)) := by
  refine (bytes_any x hx w).mono ?_
  rintro e w' ⟨g, rfl, _, hg2, hrow, hb⟩
  have h := bytesAt (c := 32) hrow hg2 (bys_lim x) (by rw [bys_len]; exact Nat.le_refl _) (by unfold maxLen; omega)
  rw [bys_len] at h
  exact ⟨_, rfl, h, hb⟩
set_option maxRecDepth 100000 in
set_option maxHeartbeats 1000000 in
theorem may_32 (v : Value) (bs : List Nat) (w : World) (h : BsAt w v bs) (hL : Laid w) (hlen : bs.length = 32) :
    Calls Tryd.prog 9 #[v] w fun e w' => e = .returned (.bool (decide (bval bs < ll))) ∧ Below w.heap.size w w' := by
  have hx := bval_32 h.lim hlen
  have HF := hide (from_any v bs (by omega) w h)
  have HLOW : Hid (∀ W : World, _) := low_any (bval bs) (bval_64 h.lim (by omega))
  rw [Nat.mod_eq_of_lt hx] at HLOW
  have HT : Hid (∀ W : World, Laid W → _) := take_any (bval bs) hx
  have LD := hide hL
  obtain ⟨ao, c, rfl, _, hc⟩ := h.len
  rw [hlen] at HF ⊢
  generalize el8 (bval bs) = E8 at *
  generalize el (bval bs) = E at *
  obtain ⟨q0, q1, q2, q3, hq⟩ : ∃ a b c d : Nat, el (if bval bs < ll then bval bs else bval bs - ll) = #[.int .u64 (a : Int), .int .u64 (b : Int), .int .u64 (c : Int), .int .u64 (d : Int)] := ⟨_, _, _, _, rfl⟩
  rw [hq] at HT
  generalize decide (bval bs < ll) = dd at *
  clear hq hL h hx hlen
  go_enter Tryd.func9, Tryd.ntmps9
  go_wp2_with fail
  refine HF.out.mono ?_
  rintro e w1 ⟨rfl, b1⟩
  go_wp2_with fail
  refine (HLOW.out _).mono ?_
  rintro e w2 ⟨rfl, b2⟩
  go_wp2_with fail
  refine (HT.out _ ((LD.out.step b1).step b2)).mono ?_
  rintro e w3 ⟨rfl, b3⟩
  have HB := hide (Below.chain (Below.chain b1 b2) b3)
  clear b1 b2 b3 HF HLOW HT
  go_wp2
  go_ret
  exact ⟨rfl, HB.out.alloc HB.out.size _⟩
set_option maxHeartbeats 1000000 in
theorem may_other (v : Value) (bs : List Nat) (w : World) (h : BsAt w v bs) (hlen : bs.length ≠ 32) :
    Calls Tryd.prog 9 #[v] w fun e w' => e = .returned (.bool false) ∧ Below w.heap.size w w' := by
  obtain ⟨ao, c, rfl, _, hc⟩ := h.len
  have hne : ((bs.length : Int) == 32) = false := by rw [beq_eq_false_iff_ne]; omega
  clear h hlen
  go_enter Tryd.func9, Tryd.ntmps9
  go_wp2
  go_ret
  exact ⟨rfl, Below.refl _ _⟩
set_option maxRecDepth 100000 in
set_option maxHeartbeats 1000000 in
theorem reduce_ret (v : Value) (bs : List Nat) (w : World) (h : BsAt w v bs) (hL : Laid w) (hlen : bs.length ≤ 64) :
    Calls Tryd.prog 11 #[v] w (Bret w (bys (bval bs % ll) 32)) := by
  have HF := hide (from_any v bs hlen w h)
  have HR : Hid (∀ W : World, Laid W → _) := rem_any (bval bs) (bval_64 h.lim hlen)
  have HY := hide (bytes_ret (bval bs % ll) (lt_big (ll_mod _)))
  have LD := hide hL
  obtain ⟨ao, c, rfl, _, hc⟩ := h.len
  have hd : decide ((64 : Int) < (bs.length : Int)) = false := decide_eq_false (by omega)
  generalize el8 (bval bs) = E8 at *
  generalize el (bval bs % ll) = E at *
  generalize bys (bval bs % ll) 32 = Y at *
  clear hL h hlen
  go_enter Tryd.func11, Tryd.ntmps11
  go_wp2_with fail
  refine HF.out.mono ?_
  rintro e w1 ⟨rfl, b1⟩
  go_wp2_with fail
  refine (HR.out _ (LD.out.step b1)).mono ?_
  rintro e w2 ⟨rfl, b2⟩
  go_wp2_with fail
  refine (HY.out _).mono ?_
  rintro e w3 ⟨u, rfl, hu, b3⟩
  have HB := hide (Below.chain (Below.chain b1 b2) b3)
  have HU := hide hu
  clear b1 b2 b3 HF HR HY hu
  go_wp2
  go_ret
  exact ⟨_, rfl, HU.out, HB.out⟩
set_option maxHeartbeats 1000000 in
theorem reduce_long (v : Value) (bs : List Nat) (w : World) (h : BsAt w v bs) (hlen : 64 < bs.length) :
    Calls Tryd.prog 11 #[v] w fun e w' => e = .returned (.slice none 0 0) ∧ Below w.heap.size w w' := by
  obtain ⟨ao, c, rfl, _, hc⟩ := h.len
  have hd : decide ((64 : Int) < (bs.length : Int)) = true := decide_eq_true (by omega)
  clear h hlen
  go_enter Tryd.func11, Tryd.ntmps11
  go_wp2
  go_ret
  exact ⟨rfl, Below.refl _ _⟩
theorem mad_big {x y z : Nat} (hx : x < 115792089237316195423570985008687907853269984665640564039457584007913129639936) (hy : y < 115792089237316195423570985008687907853269984665640564039457584007913129639936) (hz : z < 115792089237316195423570985008687907853269984665640564039457584007913129639936) : x * y + z < 18446744073709551616 ^ 8 := by
  have h : x * y ≤ (115792089237316195423570985008687907853269984665640564039457584007913129639936 - 1) * (115792089237316195423570985008687907853269984665640564039457584007913129639936 - 1) := Nat.mul_le_mul (by omega) (by omega)
  have h3 : (115792089237316195423570985008687907853269984665640564039457584007913129639936 - 1) * (115792089237316195423570985008687907853269984665640564039457584007913129639936 - 1) + 115792089237316195423570985008687907853269984665640564039457584007913129639936 ≤ 18446744073709551616 ^ 8 := by decide +kernel
  omega
end Go.Proofs.YtmaolpinppnijaaDoor
