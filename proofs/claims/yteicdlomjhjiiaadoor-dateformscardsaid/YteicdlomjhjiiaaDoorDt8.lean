/- Digits of a number: the program's call, the page's, the law's. -/
import Derived.Test.YteicdlomjhjiiaaDoorDt6
import Derived.Test.YteicdlomjhjiiaaDoorShelf
import Derived.Lib.LaidTab
import Derived.Laws.Externs
import Derived.Laws.IdiomStrings
namespace Go.Proofs.YteicdlomjhjiiaaDoor
open Go.RowKit Go.Shelf
/-- The name of the table of powers of ten; it holds what the rows list. -/
def nmP : String := ((Rows.dateFormsRow.laid.map Prod.fst)[2]?).getD default
def TabP (w : World) : Prop := Lib.TabIs Tryd.prog w nmP .u64 Lib.pow10Tab
theorem grow_below (w : World) (k : Nat) (os : Array Obj) : Below w.heap.size w (Go.Sort.grow (w.drewN k) os) :=
  ⟨rfl, rfl, rfl, by show w.heap.size ≤ (w.heap ++ os).size; rw [Array.size_append]; omega, fun j hj => by show (w.heap ++ os)[j]? = _; rw [Array.getElem?_append_left hj]⟩
theorem drew_below (w : World) (k : Nat) : Below w.heap.size w (w.drewN k) := ⟨rfl, rfl, rfl, Nat.le_refl _, fun _ _ => rfl⟩
theorem TabP.ext {W w : World} (h : TabP W) (he : Below W.heap.size W w) : TabP w := by
  unfold TabP Lib.TabIs World.var? at *
  cases hg : Tryd.prog.globalNamed nmP with
  | none => simp [hg] at h
  | some g =>
    simp only [hg, Option.bind_some] at h ⊢
    have hlt : g < W.heap.size := by
      rcases Nat.lt_or_ge g W.heap.size with h' | h'
      · exact h'
      · rw [Array.getElem?_eq_none h'] at h; simp at h
    rw [he.block g hlt]
    exact h
theorem itoa_any (n : Nat) (hn : n ≤ 9223372036854775807) (w : World) (h : TabP w) : Calls Tryd.prog 38 #[.int .i64 (n : Int)] w fun e w' => e = .returned (.string ⟨(Lib.decDigits n).toArray⟩) ∧ Below w.heap.size w w' := by
  rw [← Lib.itoa_nonneg]
  refine (Any.strconv_Itoa Tryd.laysM171 (n : Int) (by omega) (by omega) w h).mono ?_
  rintro e w' ⟨rfl, k, os, rfl⟩
  exact ⟨rfl, grow_below w k os⟩
/-- A text of digits, so many of them, the last ones of n. -/
def pw (n : Nat) : Nat → List UInt8
  | 0 => []
  | k + 1 => pw (n / 10) k ++ [UInt8.ofNat (48 + n % 10)]
def pd (n k : Nat) : ByteArray := ⟨(pw n k).toArray⟩
theorem pw_len : ∀ (k n : Nat), (pw n k).length = k
  | 0, _ => rfl
  | k + 1, n => by unfold pw; rw [List.length_append, pw_len k]; rfl
theorem pd_size (n k : Nat) : (pd n k).size = k := pw_len k n
theorem rep48 (c : Nat) : Lib.repeatL (⟨#[48]⟩ : ByteArray).data.toList c = List.replicate c 48 := by
  have := Lib.repeatL_replicate 48 1 c
  rw [Nat.mul_one] at this
  exact this
theorem dec_pw {n k : Nat} (h : (k = 2 ∧ n < 100) ∨ (k = 4 ∧ n < 10000)) : (Lib.decDigits n).length ≤ k ∧ List.replicate (k - (Lib.decDigits n).length) 48 ++ Lib.decDigits n = pw n k := by
  have d1 : ∀ i, i < 10 → Lib.decDigits i = [UInt8.ofNat (48 + i)] := fun i hi => Lib.decDigits_one hi
  have ds : ∀ i, ¬ i < 10 → Lib.decDigits i = Lib.decDigits (i / 10) ++ [UInt8.ofNat (48 + i % 10)] := fun i hi => by rw [Lib.decDigits, dif_neg hi]
  rcases h with ⟨rfl, h⟩ | ⟨rfl, h⟩
  · by_cases h1 : n < 10
    · have e1 : n / 10 = 0 := by omega
      have e2 : n % 10 = n := by omega
      rw [d1 n h1]
      simp [pw, e1, e2]
    · have e1 : n / 10 < 10 := by omega
      rw [ds n h1, d1 _ e1]
      have e2 : n / 10 % 10 = n / 10 := by omega
      simp [pw, e2]
  · by_cases h1 : n < 10
    · have e1 : n / 10 = 0 := by omega
      have e2 : n % 10 = n := by omega
      rw [d1 n h1]
      simp [pw, e1, e2, List.replicate]
    · by_cases h2 : n < 100
      · have e1 : n / 10 < 10 := by omega
        rw [ds n h1, d1 _ e1]
        have e2 : n / 10 % 10 = n / 10 := by omega
        have e3 : n / 10 / 10 = 0 := by omega
        simp [pw, e2, e3, List.replicate]
      · by_cases h3 : n < 1000
        · have e1 : n / 10 / 10 < 10 := by omega
          rw [ds n h1, ds (n / 10) (by omega), d1 _ e1]
          have e2 : n / 10 / 10 % 10 = n / 10 / 10 := by omega
          have e3 : n / 10 / 10 / 10 = 0 := by omega
          simp [pw, e2, e3]
        · have e1 : n / 10 / 10 / 10 < 10 := by omega
          rw [ds n h1, ds (n / 10) (by omega), ds (n / 10 / 10) (by omega), d1 _ e1]
          have e2 : n / 10 / 10 / 10 % 10 = n / 10 / 10 / 10 := by omega
          simp [pw, e2]
theorem app_pd {n k : Nat} (h : (k = 2 ∧ n < 100) ∨ (k = 4 ∧ n < 10000)) : (⟨(Lib.repeatL (⟨#[48]⟩ : ByteArray).data.toList (k - (Lib.decDigits n).length)).toArray⟩ : ByteArray) ++ ⟨(Lib.decDigits n).toArray⟩ = pd n k := by
  apply ByteArray.ext
  rw [ByteArray.data_append, rep48]
  unfold pd
  rw [← (dec_pw h).2]
  simp
set_option maxRecDepth 100000 in
set_option maxHeartbeats 1000000 in
theorem digits_any (n k : Nat) (h : (k = 2 ∧ n < 100) ∨ (k = 4 ∧ n < 10000)) (w : World) (hT : TabP w) : Calls Tryd.prog 31 #[.int .i64 (n : Int), .int .i64 (k : Int)] w fun e w' => e = .returned (.string (pd n k)) ∧ Below w.heap.size w w' := by
  have HI := hide (itoa_any n (by omega) w hT)
  obtain ⟨g1, g2⟩ := dec_pw h
  have HA := hide (app_pd h)
  have HR := hide fun w_ : World => Tryd.strings_Repeat ⟨#[48]⟩ (k - (Lib.decDigits n).length) w_ (by omega) (by show 1 * _ ≤ _; omega)
  have hzz : (⟨(Lib.decDigits n).toArray⟩ : ByteArray).size = (Lib.decDigits n).length := rfl
  have hzr : (⟨(Lib.repeatL (⟨#[48]⟩ : ByteArray).data.toList (k - (Lib.decDigits n).length)).toArray⟩ : ByteArray).size = k - (Lib.decDigits n).length := by
    show (Lib.repeatL (⟨#[48]⟩ : ByteArray).data.toList (k - (Lib.decDigits n).length)).toArray.size = _
    rw [rep48]; simp
  clear g2
  generalize (⟨(Lib.decDigits n).toArray⟩ : ByteArray) = ds at *
  generalize (Lib.decDigits n).length = dl at *
  generalize (⟨(Lib.repeatL (⟨#[48]⟩ : ByteArray).data.toList (k - dl)).toArray⟩ : ByteArray) = rs at *
  have hds : (ds.size : Int) = (dl : Int) := by omega
  have hk : ((k : Int) - (dl : Int)) = ((k - dl : Nat) : Int) := by omega
  have hm : (if (0 : Int) < ((k - dl : Nat) : Int) then ((k - dl : Nat) : Int) else 0) = ((k - dl : Nat) : Int) := by split <;> omega
  have hk4 : k ≤ 4 := by omega
  generalize hc : k - dl = c at *
  go_enter Tryd.func31, Tryd.ntmps31
  go_wp2_with fail
  refine HI.out.mono ?_
  rintro e_ w1 ⟨rfl, b1⟩
  have HB := hide b1
  clear b1
  go_wp2_with fail
  refine (HR.out _).mono ?_
  rintro e_ w2 ⟨rfl, b2⟩
  replace HB := hide (Below.chain HB.out b2)
  clear b2
  go_wp2
  go_ret
  exact ⟨by rw [← HA.out]; try rfl, HB.out⟩
end Go.Proofs.YteicdlomjhjiiaaDoor
