/- What is told is a term that may be: whatever code, whatever terms. -/
import Derived.Test.YteiacgpaocnofaaGreatOf
import Derived.Test.YteiacgpaocnofaaGreatOp2
import Derived.Test.YteiacgpaocnofaaGreatOpM
import Derived.Test.YteiacgpaocnofaaGreatOp4
import Derived.Test.YteiacgpaocnofaaGreatUn
namespace Go.Proofs.YteiacgpaocnofaaGreat
open Go.RowKit
theorem good_set {l : List Tm} {r : Tm} {E : Int} (h : SetR l r E) : GoodR r E := by
  cases hf : fitB l with
  | true =>
    obtain ⟨rfl, zs, rfl, hz, _⟩ := h.1 hf
    refine ⟨fun _ => ?_, fun e => absurd rfl e⟩
    unfold fixT
    rw [set_may hf hz]
    rfl
  | false =>
    obtain ⟨rfl, rfl⟩ := h.2 hf
    exact good_zt (by decide)
theorem good_join {a b r : Tm} {E : Int} (h : JoinR a b r E) : GoodR r E := by
  cases hl : likeS a b with
  | false =>
    obtain ⟨rfl, rfl⟩ := h.1 hl
    exact good_zt (by decide)
  | true =>
    by_cases h16 : 16 < (a.l ++ sel a false b.l).length
    · obtain ⟨rfl, rfl⟩ := h.2.1 hl h16
      exact good_zt (by decide)
    · exact good_set (h.2.2 hl (by omega))
variable {a b : Tm} {a1 : Option Addr} {c1 : Nat} {a2 : Option Addr} {c2 : Nat} {w : World}
theorem bin_good (c : Int) (hM : MaxL w) (ha : TAt w a a1 c1) (hb : TAt w b a2 c2) : Calls Tryz.prog 106 #[.int .i64 c, tv a a1 c1, tv b a2 c2] w (OpA GoodR w) := by
  cases fa : fixT a with
  | false => exact OpF.good (bin_a ha hb fa) zt_fl (good_zt (by decide))
  | true =>
  cases fb : fixT b with
  | false => exact OpF.good (bin_b ha hb fa fb) zt_fl (good_zt (by decide))
  | true =>
  by_cases hc : 1 ≤ c ∧ c ≤ 19
  · have na := ha.fits.2.1
    have nb := hb.fits.2.1
    have la := fix_list fa
    have lb := fix_list fb
    have T7 : GoodR zt 7 := good_zt (by decide)
    have hcc : c = 1 ∨ c = 2 ∨ c = 3 ∨ c = 4 ∨ c = 5 ∨ c = 6 ∨ c = 7 ∨ c = 8 ∨ c = 9 ∨ c = 10 ∨ c = 11 ∨ c = 12 ∨ c = 13 ∨ c = 14 ∨ c = 15 ∨ c = 16 ∨ c = 17 ∨ c = 18 ∨ c = 19 := by omega
    rcases hcc with rfl | rfl | rfl | rfl | rfl | rfl | rfl | rfl | rfl | rfl | rfl | rfl | rfl | rfl | rfl | rfl | rfl | rfl | rfl
    · cases hk : (bothB 2 a.k b.k || bothB 4 a.k b.k) with
      | false => exact OpF.good (bin1_type ha hb fa fb hk) zt_fl T7
      | true => exact bin1 ha hb fa fb hk fun W _ _ _ => OpF.good (less_any _ _ _ _ _ _ _ _ _ _ _ _ W) (trueT_fl _) (good_true _)
    · cases hk : (bothB 2 a.k b.k || bothB 4 a.k b.k) with
      | false => exact OpF.good (bin2_type ha hb fa fb hk) zt_fl T7
      | true => exact bin2 ha hb fa fb hk fun W _ _ _ => OpF.good (more_any _ _ _ _ _ _ _ _ _ _ _ _ W) (trueT_fl _) (good_true _)
    · cases hk : (bothB 2 a.k b.k || bothB 4 a.k b.k) with
      | false => exact OpF.good (bin3_type ha hb fa fb hk) zt_fl T7
      | true => exact bin3 ha hb fa fb hk fun W _ _ _ => OpF.good (atMost_any _ _ _ _ _ _ _ _ _ _ _ _ W) (trueT_fl _) (good_true _)
    · cases hk : (bothB 2 a.k b.k || bothB 4 a.k b.k) with
      | false => exact OpF.good (bin4_type ha hb fa fb hk) zt_fl T7
      | true => exact bin4 ha hb fa fb hk fun W _ _ _ => OpF.good (atLeast_any _ _ _ _ _ _ _ _ _ _ _ _ W) (trueT_fl _) (good_true _)
    · cases hk : ((a.k == b.k) && fixK a.k) with
      | false => exact OpF.good (bin5_type ha hb fa fb hk) zt_fl T7
      | true => exact bin5 ha hb fa fb hk fun W _ hA hB => OpF.good (same_any hA hB) (trueT_fl _) (good_true _)
    · cases hk : ((a.k == b.k) && fixK a.k) with
      | false => exact OpF.good (bin6_type ha hb fa fb hk) zt_fl T7
      | true => exact bin6 ha hb fa fb hk fun W _ hA hB => OpF.good (other_any hA hB) (trueT_fl _) (good_true _)
    · cases hk : (bothB 2 a.k b.k || bothB 3 a.k b.k) with
      | false => exact OpF.good (bin7_type ha hb fa fb hk) zt_fl T7
      | true =>
        refine bin7 ha hb fa fb hk fun W _ _ _ => ?_
        by_cases h3 : a.k = 3
        · have hb3 : b.k = 3 := by
            simp only [Bool.or_eq_true, both_iff] at hk
            omega
          have sa := (fix_text fa (.inl h3)).1
          have sb := (fix_text fb (.inl hb3)).1
          unfold sv
          rw [h3]
          by_cases hs : 256 < a.s.size + b.s.size
          · exact OpF.good (add_long _ _ _ _ _ _ _ _ _ _ _ sa sb hs W) zt_fl (good_zt (by decide))
          · have he : (a.s ++ b.s).size ≤ 256 := by rw [ByteArray.size_append]; omega
            exact OpF.good (add_text _ _ _ _ _ _ _ _ _ _ _ sa sb hs W) (textT_fl (by omega)) ⟨fun _ => fix_textT he, fun h => absurd rfl h⟩
        · exact OpF.good (add_num _ _ _ _ _ _ _ _ _ _ _ _ na nb h3 W) (numR_fl _) (good_num _)
    · cases hk : (bothB 2 a.k b.k) with
      | false => exact OpF.good (bin8_type ha hb fa fb hk) zt_fl T7
      | true => exact bin8 ha hb fa fb hk fun W _ _ _ => OpF.good (subtract_any _ _ _ _ _ _ _ _ _ _ _ _ na nb W) (numR_fl _) (good_num _)
    · cases hk : (bothB 2 a.k b.k) with
      | false => exact OpF.good (bin9_type ha hb fa fb hk) zt_fl T7
      | true => exact bin9 ha hb fa fb hk fun W _ _ _ => OpF.good (multiply_any _ _ _ _ _ _ _ _ _ _ _ _ na nb W) (numR_fl _) (good_num _)
    · cases hk : (bothB 2 a.k b.k) with
      | false => exact OpF.good (bin10_type ha hb fa fb hk) zt_fl T7
      | true =>
        refine bin10 ha hb fa fb hk fun W _ _ _ => ?_
        by_cases h0 : b.n = 0
        · unfold sv
          rw [h0]
          exact OpF.good (divide_zero _ _ _ _ _ _ _ _ _ _ _ W) zt_fl (good_zt (by decide))
        · exact OpF.good (divide_any _ _ _ _ _ _ _ _ _ _ _ _ na nb h0 W) (numR_fl _) (good_num _)
    · cases hk : (bothB 3 a.k b.k || ((a.k == 7) && fixK b.k)) with
      | false => exact OpF.good (bin11_type ha hb fa fb hk) zt_fl T7
      | true =>
        refine bin11 ha hb fa fb hk fun W hW hA hB => ?_
        by_cases h3 : a.k = 3
        · have sa := (fix_text fa (.inl h3)).1
          unfold sv
          rw [h3]
          exact OpF.good (contains_text _ _ _ _ _ _ _ _ _ _ _ (by omega) (hM.ext hW)) (trueT_fl _) (good_true _)
        · by_cases h7 : b.k = 7
          · exact OpF.good (contains_set hA hB h3 h7 lb.1) (trueT_fl _) (good_true _)
          · exact OpF.good (contains_one hA hB h3 h7) (trueT_fl _) (good_true _)
    · cases hk : (bothB 3 a.k b.k || bothB 5 a.k b.k) with
      | false => exact OpF.good (bin12_type ha hb fa fb hk) zt_fl T7
      | true => exact bin12 ha hb fa fb hk fun W _ _ _ => OpF.good (starts_any _ _ _ _ _ _ _ _ _ _ _ _ W) (trueT_fl _) (good_true _)
    · cases hk : (bothB 3 a.k b.k || bothB 5 a.k b.k) with
      | false => exact OpF.good (bin13_type ha hb fa fb hk) zt_fl T7
      | true => exact bin13 ha hb fa fb hk fun W _ _ _ => OpF.good (ends_any _ _ _ _ _ _ _ _ _ _ _ _ ha.fits.2.2.1 W) (trueT_fl _) (good_true _)
    · cases hk : (bothB 3 a.k b.k) with
      | false => exact OpF.good (bin14_type ha hb fa fb hk) zt_fl T7
      | true => exact bin14 ha hb fa fb hk fun W _ _ _ => matches_any _ _ _ _ _ _ _ _ _ _ _ _ W
    · cases hk : (bothB 7 a.k b.k) with
      | false => exact OpF.good (bin15_type ha hb fa fb hk) zt_fl T7
      | true => exact bin15 ha hb fa fb hk fun W _ hA hB => OpA.good (meet_any hA hB la.1) fun _ _ => good_set
    · cases hk : (bothB 7 a.k b.k) with
      | false => exact OpF.good (bin16_type ha hb fa fb hk) zt_fl T7
      | true =>
        refine bin16 ha hb fa fb hk fun W _ hA hB => ?_
        cases hl : likeS a b with
        | false => exact OpA.good (join_unlike hA hB hl) fun _ _ => good_join
        | true => exact OpA.good (join_like hA hB hl la.1 lb.1 la.2 lb.2) fun _ _ => good_join
    · cases hk : (bothB 2 a.k b.k) with
      | false => exact OpF.good (bin17_type ha hb fa fb hk) zt_fl T7
      | true => exact bin17 ha hb fa fb hk fun W _ _ _ => OpF.good (andBits_any _ _ _ _ _ _ _ _ _ _ _ _ W) (numT_fl (bits_in _ _ _)) (good_numT _)
    · cases hk : (bothB 2 a.k b.k) with
      | false => exact OpF.good (bin18_type ha hb fa fb hk) zt_fl T7
      | true => exact bin18 ha hb fa fb hk fun W _ _ _ => OpF.good (orBits_any _ _ _ _ _ _ _ _ _ _ _ _ W) (numT_fl (bits_in _ _ _)) (good_numT _)
    · cases hk : (bothB 2 a.k b.k) with
      | false => exact OpF.good (bin19_type ha hb fa fb hk) zt_fl T7
      | true => exact bin19 ha hb fa fb hk fun W _ _ _ => OpF.good (xorBits_any _ _ _ _ _ _ _ _ _ _ _ _ W) (numT_fl (bits_in _ _ _)) (good_numT _)
  · exact OpF.good (bin_c ha hb fa fb hc) zt_fl (good_zt (by decide))
/-- A code of one side: what is told. -/
theorem un_good (c : Int) (ha : TAt w a a1 c1) : ∃ r E, Calls Tryz.prog 105 #[.int .i64 c, tv a a1 c1] w (OpF r E w) ∧ Fl r ∧ GoodR r E := by
  cases fa : fixT a with
  | false => exact ⟨zt, 1, un_unfixed ha c fa, zt_fl, good_zt (by decide)⟩
  | true =>
  by_cases h1 : c < 1
  · exact ⟨zt, 1, un_low ha c fa h1, zt_fl, good_zt (by decide)⟩
  by_cases h3 : 3 < c
  · exact ⟨zt, 1, un_high ha c fa h3, zt_fl, good_zt (by decide)⟩
  have na := ha.fits.2.1
  have hcc : c = 1 ∨ c = 2 ∨ c = 3 := by omega
  have T7 : GoodR zt 7 := good_zt (by decide)
  rcases hcc with rfl | rfl | rfl
  · by_cases h6 : a.k = 6
    · exact ⟨_, 0, un_not ha fa fun W => by unfold tv; rw [h6]; exact not_any _ _ _ _ _ W, trueT_fl _, good_true _⟩
    · exact ⟨_, 7, un_not ha fa fun W => not_bad _ _ _ _ _ _ h6 W, zt_fl, T7⟩
  · by_cases h2 : a.k = 2
    · exact ⟨_, _, un_negative ha fa fun W => by unfold tv; rw [h2]; exact neg_any _ _ _ _ _ na W, numR_fl _, good_num _⟩
    · exact ⟨_, 7, un_negative ha fa fun W => neg_bad _ _ _ _ _ _ h2 W, zt_fl, T7⟩
  · have hs := ha.fits.2.2.1
    have hl := ha.list.1
    have hl2 := ha.list.2.1
    by_cases e3 : a.k = 3
    · exact ⟨_, 0, un_length ha fa fun W => by unfold tv; rw [e3]; exact len3_any _ _ _ _ _ W, numT_fl ⟨by omega, by omega⟩, good_numT _⟩
    by_cases e5 : a.k = 5
    · exact ⟨_, 0, un_length ha fa fun W => by unfold tv; rw [e5]; exact len5_any _ _ _ _ _ W, numT_fl ⟨by omega, by omega⟩, good_numT _⟩
    by_cases e7 : a.k = 7
    · exact ⟨_, 0, un_length ha fa fun W => by unfold tv; rw [e7]; exact len7_any _ _ _ _ _ W, numT_fl ⟨by omega, by omega⟩, good_numT _⟩
    · exact ⟨_, 7, un_length ha fa fun W => len_bad _ _ _ _ _ _ e3 e5 e7 W, zt_fl, T7⟩
end Go.Proofs.YteiacgpaocnofaaGreat
