/- All pieces of a message, one behind the other: a row turned about, room for bytes, bytes of many slices. -/
import Derived.Test.YtogegmdimfinaaaPb8
import Derived.Shelf.RegionOpenPlain
namespace Go.Proofs.Ytogegmdimfinaaa
open Go.RowKit
theorem set2_row {w : World} {B g n cap : Nat} {T : TypeId} {ys : List Value} (h : w.ownsRow B T 1 (.slice (some ⟨g, 0, none⟩) n cap) n ys) (i j : Nat) (x y : Value) :
    (((w.setCell ⟨g, i, none⟩ x).setCell ⟨g, j, none⟩ y).drew).ownsRow B T 1 (.slice (some ⟨g, 0, none⟩) n cap) n ((ys.set i x).set j y) :=
  ((h.stored i x).1.stored j y).1.drew
theorem grown_set2 {a w : World} {g : Nat} (h : a.grownBy w (some g)) (i j : Nat) (x y : Value) : a.grownBy (((w.setCell ⟨g, i, none⟩ x).setCell ⟨g, j, none⟩ y).drew) (some g) := by
  refine grown_trans h ⟨rfl, rfl, rfl, by simp, fun k _ hne => ?_⟩
  show ((w.setCell ⟨g, i, none⟩ x).setCell ⟨g, j, none⟩ y).heap[k]? = _
  rw [Below.heap_setCell _ ⟨g, j, none⟩ y k (fun e => hne (by rw [e])), Below.heap_setCell _ ⟨g, i, none⟩ x k (fun e => hne (by rw [e]))]
theorem swap_get {ys us : List Value} {n k J : Nat} {x1 x2 : Value} (hl : ys.length = n) (hJ : J = n - 1 - k) (hlt : 2 * k + 1 < n) (h1 : ys[k]? = some x1) (h2 : ys[J]? = some x2)
    (hys : ∀ i, i < n → ys[i]? = if i < k ∨ n - k ≤ i then us[n - 1 - i]? else us[i]?) : ∀ i, i < n → ((ys.set k x2).set J x1)[i]? = if i < k + 1 ∨ n - (k + 1) ≤ i then us[n - 1 - i]? else us[i]? := fun i hi => by
  have e1 := hys k (by omega)
  have e2 := hys J (by omega)
  rw [if_neg (by omega), h1] at e1
  rw [if_neg (by omega), h2] at e2
  by_cases hij : i = J
  · subst hij
    rw [List.getElem?_set_self (by simp; omega), if_pos (by omega), show n - 1 - i = k by omega]
    exact e1
  · rw [List.getElem?_set_ne (fun e => hij e.symm)]
    by_cases hik : i = k
    · subst hik
      rw [List.getElem?_set_self (by omega), if_pos (by omega), ← hJ]
      exact e2
    · rw [List.getElem?_set_ne (fun e => hik e.symm), hys i hi]
      by_cases hc : i < k ∨ n - k ≤ i
      · rw [if_pos hc, if_pos (by omega)]
      · rw [if_neg hc, if_neg (by omega)]
theorem set_form {ys : List Value} (h : ∀ u ∈ ys, ∃ a l c, u = Value.slice a l c) (i j : Nat) {x y : Value} (hx : ∃ a l c, x = Value.slice a l c) (hy : ∃ a l c, y = Value.slice a l c) : ∀ u ∈ (ys.set i x).set j y, ∃ a l c, u = Value.slice a l c := fun u hu => by
  rcases List.mem_or_eq_of_mem_set hu with h1 | rfl
  · rcases List.mem_or_eq_of_mem_set h1 with h2 | rfl
    · exact h u h2
    · exact hx
  · exact hy
set_option maxRecDepth 100000 in
set_option maxHeartbeats 2000000 in
/-- A row of slices, turned about. -/
theorem rev_any {B n : Nat} {v : Value} {us : List Value} {w : World} (h : w.ownsRow B 30 1 v n us) (hn : n ≤ 1000000) (hus : ∀ u ∈ us, ∃ a l c, u = .slice a l c) :
    Calls Try.prog 27 #[v] w fun e w' => e = .returned (.tuple #[]) ∧ w'.ownsRow B 30 1 v n us.reverse ∧ w.grownBy w' v.ownBlock := by
  have hlen : us.length = n := by have := h.1; omega
  rcases h.2 with ⟨rfl, h0⟩ | ⟨g, cap, cur, rfl, hB, hr, hnc, hm, hs, ht⟩
  · subst h0
    have hnil : us = [] := List.eq_nil_of_length_eq_zero hlen
    subst hnil
    have H0 := hide h
    clear h hlen hus
    go_enter Try.func27, Try.ntmps27
    go_wp2
    go_loopg [2, 3] 0 (fun _ s2 s3 wr => s2 = .int .i64 0 ∧ s3 = .int .i64 (-1) ∧ wr = w)
    case atStart => exact ⟨rfl, rfl, rfl⟩
    case round =>
      obtain ⟨rfl, rfl, rfl⟩ := hrel
      go_wp2
      go_end0
      exact ⟨rfl, H0.out, grown_refl _ _⟩
  · have H0 := hide (And.intro h (And.intro hlen hus))
    clear h hlen hus hr hs ht hB hm
    go_enter Try.func27, Try.ntmps27
    go_wp2
    go_loopg [2, 3] n (fun kk s2 s3 wr => ∃ (k : Nat) (ys : List Value), k + kk = n ∧ s2 = .int .i64 (k : Int) ∧ s3 = .int .i64 ((n : Int) - 1 - (k : Int)) ∧ wr.ownsRow B 30 1 (.slice (some ⟨g, 0, none⟩) n cap) n ys ∧ w.grownBy wr (some g) ∧ (∀ u ∈ ys, ∃ a l c, u = .slice a l c) ∧
      ∀ i, i < n → ys[i]? = if i < k ∨ n - k ≤ i then us[n - 1 - i]? else us[i]?)
    case atStart => exact ⟨0, us, by omega, rfl, by simp, H0.out.1, grown_refl _ _, H0.out.2.2, fun i hi => by rw [if_neg (by omega)]⟩
    case round =>
      obtain ⟨k, ys, hkk, rfl, rfl, hrow, hgr, hform, hys⟩ := hrel
      have hyl : ys.length = n := by have := hrow.1; omega
      by_cases hlt : 2 * k + 1 < n
      · have hk1 : k < n := by omega
        obtain ⟨J, hJ, hjj⟩ : ∃ J : Nat, J = n - 1 - k ∧ (n : Int) - 1 - (k : Int) = (J : Int) := ⟨n - 1 - k, rfl, by omega⟩
        have hj1 : J < n := by omega
        obtain ⟨x1, hx1⟩ : ∃ x, ys[k]? = some x := ⟨_, List.getElem?_eq_getElem (by omega)⟩
        obtain ⟨x2, hx2⟩ : ∃ x, ys[J]? = some x := ⟨_, List.getElem?_eq_getElem (by omega)⟩
        have cI := (hrow.cellAt k (by omega)).trans hx1
        have cJ := (hrow.cellAt J (by omega)).trans hx2
        have fI := hrow.frozenAt k
        have fJ := hrow.frozenAt J
        obtain ⟨a1, l1, c1, rfl⟩ := hform x1 (List.mem_of_getElem? hx1)
        obtain ⟨a2, l2, c2, rfl⟩ := hform x2 (List.mem_of_getElem? hx2)
        have i1 := fun w_ => ix_rows w_ g n cap k hk1
        have i2 := fun w_ => ix_rows w_ g n cap J hj1
        have hne : k ≠ J := by omega
        have hkJ : k < J := by omega
        rw [hjj]
        have HX := hide (And.intro hrow (And.intro hgr (And.intro hform (And.intro hys (And.intro hx1 (And.intro hx2 (And.intro hkk (And.intro hlt (And.intro hjj (And.intro hJ hyl))))))))))
        clear hrow hgr hform hys hx1 hx2 hkk hlt hjj hJ hyl
        have mixed : Try.prog.follows .mixedOrders = true := by kernel_rfl
        go_wp2_with fail
        go_region_o
        all_goals
          obtain ⟨hrow, hgr, hform, hys, hx1, hx2, hkk, hlt, hjj, hJ, hyl⟩ := HX.out
          have hns := swap_get hyl hJ hlt hx1 hx2 hys
          have hnf := set_form hform k J (x := .slice a2 l2 c2) (y := .slice a1 l1 c1) ⟨_, _, _, rfl⟩ ⟨_, _, _, rfl⟩
          first
            | have R := hide (And.intro (set2_row hrow k J (.slice a2 l2 c2) (.slice a1 l1 c1)) (And.intro (grown_set2 hgr k J (.slice a2 l2 c2) (.slice a1 l1 c1)) (And.intro hns (And.intro hnf (And.intro hkk (And.intro hlt hjj))))))
              clear hrow hgr hform hys hx1 hx2 hkk hlt hjj hJ hyl hns hnf i1 i2 cI cJ fI fJ
              go_wp2
              go_roundg (gk - 1)
              case measure => have := R.out.2.2.2.2.1; have := R.out.2.2.2.2.2.1; omega
              case rel => exact ⟨k + 1, (ys.set k (.slice a2 l2 c2)).set J (.slice a1 l1 c1), by have := R.out.2.2.2.2.1; have := R.out.2.2.2.2.2.1; omega, by go_num, by have := R.out.2.2.2.2.2.2; congr 1; omega, R.out.1, R.out.2.1, R.out.2.2.2.1, R.out.2.2.1⟩
            | have R := hide (And.intro (set2_row hrow J k (.slice a1 l1 c1) (.slice a2 l2 c2)) (And.intro (grown_set2 hgr J k (.slice a1 l1 c1) (.slice a2 l2 c2)) (And.intro hns (And.intro hnf (And.intro hkk (And.intro hlt hjj))))))
              rw [List.set_comm _ _ (fun e => hne e.symm)] at R
              clear hrow hgr hform hys hx1 hx2 hkk hlt hjj hJ hyl hns hnf i1 i2 cI cJ fI fJ
              go_wp2
              go_roundg (gk - 1)
              case measure => have := R.out.2.2.2.2.1; have := R.out.2.2.2.2.2.1; omega
              case rel => exact ⟨k + 1, (ys.set k (.slice a2 l2 c2)).set J (.slice a1 l1 c1), by have := R.out.2.2.2.2.1; have := R.out.2.2.2.2.2.1; omega, by go_num, by have := R.out.2.2.2.2.2.2; congr 1; omega, R.out.1, R.out.2.1, R.out.2.2.2.1, R.out.2.2.1⟩
      · have hnl : ¬ ((k : Int) < (n : Int) - 1 - (k : Int)) := by omega
        have hd : decide ((k : Int) < (n : Int) - 1 - (k : Int)) = false := decide_eq_false hnl
        have he : ys = us.reverse := by
          refine List.ext_getElem? fun i => ?_
          have hul := H0.out.2.1
          by_cases hi : i < n
          · rw [hys i hi, List.getElem?_reverse (by omega), hul]
            by_cases hc : i < k ∨ n - k ≤ i
            · rw [if_pos hc]
            · rw [if_neg hc]; congr 1; omega
          · rw [List.getElem?_eq_none (by omega), List.getElem?_eq_none (by simp; omega)]
        have R := hide (And.intro hrow (And.intro hgr he))
        clear hrow hgr hform hys hkk hyl he
        go_wp2
        go_end0
        exact ⟨rfl, by rw [← R.out.2.2]; exact R.out.1, R.out.2.1⟩
end Go.Proofs.Ytogegmdimfinaaa
