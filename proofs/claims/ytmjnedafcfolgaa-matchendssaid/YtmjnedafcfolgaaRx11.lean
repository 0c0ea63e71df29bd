/- Patterns read whole, and made into programs: the program's calls. -/
import Derived.Test.YtmjnedafcfolgaaRx10
namespace Go.Proofs.Ytmjnedafcfolgaa
open Go.RowKit
/-- What was read ahead, and what is read behind it. -/
def apre (ls : List (List In)) : Rd (List In) → Rd (List In)
  | .ok b v => .ok (ls.foldr eitherL b) v
  | .bad e => .bad e
theorem alt_bad {pat : Nat → List Nat → Rd (List In)} {d k e : Nat} {r : List Nat} (h : rowF pat d (r.length + 1) r = .bad e) : altF pat d (k + 1) r = .bad e := by rw [altF, h]
theorem alt_last {pat : Nat → List Nat → Rd (List In)} {d k : Nat} {r u : List Nat} {a : List In} (h : rowF pat d (r.length + 1) r = .ok a u) (hu : u.head? ≠ some 124) : altF pat d (k + 1) r = .ok a u := by rw [altF, h]; simp only []; rw [if_neg hu]
theorem alt_on {pat : Nat → List Nat → Rd (List In)} {d k : Nat} {r u : List Nat} {a : List In} (h : rowF pat d (r.length + 1) r = .ok a (124 :: u)) (ls : List (List In)) : apre ls (altF pat d (k + 1) r) = apre (ls ++ [a]) (altF pat d k u) := by
  rw [altF, h]
  simp only [List.head?_cons, if_true, List.tail_cons]
  cases altF pat d k u <;> simp [apre]
theorem eitherL_len (a b : List In) : (eitherL a b).length = a.length + b.length + 2 := by simp [eitherL]; omega
theorem fold_len (a : List In) (ls : List (List In)) : (ls.foldr eitherL a).length = ls.flatten.length + 2 * ls.length + a.length := by
  induction ls with
  | nil => simp
  | cons l ls ih => rw [List.foldr_cons, eitherL_len, ih, List.flatten_cons, List.length_append, List.length_cons]; omega
theorem Lss.gr {w w' : World} {vs : List Value} {ls : List (List In)} (h : Lss w vs ls) {g : Nat} {s : ByteArray} {r : List Nat} {d : Nat} (hp : PAt w g s r d) (hg : w.grownBy w' (some g)) : Lss w' vs ls := by
  induction h with
  | nil => exact .nil
  | cons h1 _ ih => exact .cons (h1.gr hp hg) ih
theorem Lss.snoc {w : World} {vs : List Value} {ls : List (List In)} {v : Value} {l : List In} (h : Lss w vs ls) (hv : LsAt w v l) : Lss w (vs ++ [v]) (ls ++ [l]) := by
  induction h with
  | nil => exact .cons hv .nil
  | cons h1 _ ih => exact .cons h1 ih
theorem Lss.one {w : World} {vs : List Value} {ls : List (List In)} (h : Lss w vs ls) : ∀ u ∈ vs, u.oneCell' = true := by
  induction h with
  | nil => intro u hu; cases hu
  | cons h1 _ ih =>
    intro u hu
    rcases List.mem_cons.1 hu with rfl | hu
    · obtain ⟨_, _, rfl, _⟩ := h1.len; rfl
    · exact ih u hu
theorem Lss.off {w w' : World} {vs : List Value} {ls : List (List In)} (h : Lss w vs ls) {X : Option Nat} (hg : w.grownBy w' X) {T : TypeId} (hT : T ≠ 49) (hX : ∀ k, X = some k → ∃ c fr, w.heap[k]? = some (.cells c T fr)) : Lss w' vs ls := by
  induction h with
  | nil => exact .nil
  | cons h1 _ ih => exact .cons (h1.off hg hT hX) ih
theorem ss_one {w : World} {g : Nat} {v : Value} (h : w.heap[g]? = some (.cells #[v] 34 (0, 0))) (hv : v.oneCell' = true) : CsAt w 1 1 (.slice (some ⟨g, 0, none⟩) 1 1) [v] := by
  refine ⟨rfl, g, 0, 1, _, rfl, Nat.le_refl _, by omega, fun _ => ⟨rfl, (Array.getElem?_eq_some_iff.1 h).1, fun j u hu => ?_⟩, fun u hu => ?_⟩
  · rw [Nat.zero_add, cell_of_row _ _ _ _ _ _ h]
    simpa using hu
  · simp at hu; subst hu; exact hv
theorem row_form {w : World} {base e n : Nat} {v : Value} {xs : List Value} (h : w.ownsRow base e 1 v (n + 1) xs) : ∃ gg cap, v = .slice (some ⟨gg, 0, none⟩) (n + 1) cap ∧ (n + 1 ≤ cap ∧ gg < w.heap.size) ∧ ∀ j x, xs[j]? = some x → w.cell? ⟨gg, j, none⟩ = some x := by
  obtain ⟨h1, h2⟩ := h
  rcases h2 with ⟨_, h2⟩ | ⟨g, cap, cur, rfl, hb, hr, hn, hm, hs, ht⟩
  · omega
  · refine ⟨g, cap, rfl, ⟨hn, (Array.getElem?_eq_some_iff.1 hr).1⟩, fun j x hx => ?_⟩
    rw [cell_of_row _ _ _ _ _ _ hr]
    have hj := (List.getElem?_eq_some_iff.1 hx).1
    rw [← ht, List.getElem?_take, if_pos (by omega)] at hx
    simpa using hx
/-- What stands while alternatives are read. -/
def AR (pat : Nat → List Nat → Rd (List In)) (W w : World) (g : Nat) (s : ByteArray) (d n : Nat) (R : Rd (List In)) (k : Nat) (v : Value) (vs : List Value) (ls : List (List In)) (r : List Nat) : Prop :=
  w.ownsRow W.heap.size 34 1 v vs.length vs ∧ Lss w vs ls ∧ PAt w g s r d ∧ W.grownBy w (some g) ∧ (r.length < k ∧ apre ls (altF pat d k r) = R) ∧ ls.flatten.length + 2 * ls.length + 3 * r.length ≤ n
theorem drop_fold {ls : List (List In)} {q : Nat} {l a : List In} (h : ls[q]? = some l) : (ls.drop q).foldr eitherL a = eitherL l ((ls.drop (q + 1)).foldr eitherL a) := by
  obtain ⟨h1, h2⟩ := List.getElem?_eq_some_iff.1 h
  rw [List.drop_eq_getElem_cons h1, h2, List.foldr_cons]
theorem flat_at {ls : List (List In)} {q : Nat} {l : List In} (h : ls[q]? = some l) : l.length ≤ ls.flatten.length := by
  have h1 := congrArg List.length (take_flat h)
  have h2 := take_flat_len ls (q + 1)
  rw [List.length_append] at h1
  omega
theorem drop_flat (ls : List (List In)) (q : Nat) : (ls.drop q).flatten.length + 2 * (ls.drop q).length ≤ ls.flatten.length + 2 * ls.length := by
  have h1 := congrArg (fun l => l.flatten.length) (List.take_append_drop q ls)
  have h2 := congrArg List.length (List.take_append_drop q ls)
  simp only [List.flatten_append, List.length_append] at h1 h2
  omega
set_option maxRecDepth 100000 in
set_option maxHeartbeats 4000000 in
theorem pat_step {pat : Nat → List Nat → Rd (List In)} {w : World} {g : Nat} {s : ByteArray} {t : List Nat} {d : Nat} (hP : d < 20 → PatC pat (d + 1)) (hq : Short pat) (h : PAt w g s t d) : Calls Try.prog 19 #[.pointer (some ⟨g, 0, none⟩)] w (Ans w g s d (altF pat d (t.length + 1) t)) := by
  have hg := h.lt
  have hsh := h.short
  obtain ⟨R, hR⟩ : ∃ R, altF pat d (t.length + 1) t = R := ⟨_, rfl⟩
  rw [hR]
  obtain ⟨n, hn⟩ : ∃ n, 3 * t.length = n := ⟨_, rfl⟩
  have hn2 : n ≤ 768 := by omega
  have H1 : Hid (AR pat w w g s d n R (t.length + 1) (.slice none 0 0) [] [] t) := hide ⟨World.ownsRow_nil _ _ _ _, .nil, h, grown_refl _ _, ⟨by omega, by rw [← hR]; cases altF pat d (t.length + 1) t <;> rfl⟩, by rw [← hn]; simp⟩
  have HP := hide (And.intro hP hq)
  clear h hR hsh hn hP hq
  go_enter Try.func19, Try.ntmps19
  go_wp2
  go_loopg [4] (t.length + 1) (fun k s4 wr => ∃ (vs : List Value) (ls : List (List In)) (r : List Nat), Hid (AR pat w wr g s d n R k s4 vs ls r))
  case atStart => exact ⟨[], [], t, H1⟩
  case round =>
    clear H1
    obtain ⟨vs, ls, r, HX⟩ := hrel
    obtain ⟨k, hk⟩ : ∃ k, gk = k + 1 := ⟨gk - 1, by have := HX.out.2.2.2.2.1.1; omega⟩
    have HK := hide hk
    have HC : Hid (r.length < k + 1 ∧ apre ls (altF pat d (k + 1) r) = R) := by have h9 := HX.out.2.2.2.2.1; rw [hk] at h9; exact h9
    clear hk
    have HA := prow_any HP.out.1 HP.out.2 HX.out.2.2.1
    cases hR : rowF pat d (r.length + 1) r with
    | bad e =>
      rw [hR] at HA
      obtain rfl : R = .bad e := by rw [← HC.out.2, alt_bad hR]; rfl
      replace HA := hide HA
      clear hR
      go_wp2_with fail
      refine HA.out.mono ?_
      rintro e_ w1 ⟨⟨rfl, he3⟩, g1⟩
      have hne := err_ne he3
      have HE := hide (And.intro he3 (grown_trans HX.out.2.2.2.1 g1))
      clear he3 g1
      go_wp2
      go_ret2
      exact ⟨⟨rfl, HE.out.1⟩, HE.out.2⟩
    | ok a u =>
      rw [hR] at HA
      replace HA := hide HA
      have hl1 := row_len HP.out.2 d _ _ _ _ hR
      have hl4 := HX.out.2.2.2.2.2
      have hl5 := HC.out.1
      have hl6 := HX.out.2.1.len
      have HL : Hid (vs.length = ls.length ∧ vs.length ≤ 1000 ∧ a.length + 3 * u.length ≤ 3 * r.length ∧ ls.flatten.length + 2 * ls.length + a.length + 3 * u.length ≤ n ∧ u.length ≤ k) := hide ⟨hl6, by omega, hl1, by omega, by omega⟩
      have HR := hide hR
      clear hl1 hl4 hl5 hl6 hR
      go_wp2_with fail
      refine HA.out.mono ?_
      rintro e_ w1 ⟨⟨v1, rfl, h1, p1⟩, g1⟩
      obtain ⟨ao, ca, rfl, _, _⟩ := h1.len
      have HW : Hid ((w1.alloc (.cells #[.slice ao a.length ca] 34)).ownsRow w.heap.size 34 1 _ vs.length vs ∧ CsAt (w1.alloc (.cells #[.slice ao a.length ca] 34)) 1 1 (.slice (some ⟨w1.heap.size, 0, none⟩) 1 1) [.slice ao a.length ca]) := hide ⟨row_ext (row_gr HX.out.1 g1 hg) (alloc_below _ _), ss_one (heap_alloc_last _ _) rfl⟩
      have HV : Hid (Lss (w1.alloc (.cells #[.slice ao a.length ca] 34)) (vs ++ [.slice ao a.length ca]) (ls ++ [a]) ∧ PAt (w1.alloc (.cells #[.slice ao a.length ca] 34)) g s u d ∧ w.grownBy (w1.alloc (.cells #[.slice ao a.length ca] 34)) (some g)) :=
        hide ⟨((HX.out.2.1.gr HX.out.2.2.1 g1).snoc h1).ext (alloc_below _ _), p1.ext (alloc_below _ _), grown_trans (grown_trans HX.out.2.2.2.1 g1) (grown_alloc _ _ _)⟩
      clear h1 p1 g1 HA
      obtain ⟨na, hna⟩ : ∃ na, a.length = na := ⟨_, rfl⟩
      rw [hna] at HW HV
      rw [hna]
      have HNA := hide hna
      clear hna
      obtain ⟨m, hm⟩ : ∃ m, vs.length = m := ⟨_, rfl⟩
      rw [hm] at HW
      have HM := hide (And.intro hm (show m ≤ 1000 by rw [← hm]; exact HL.out.2.1))
      clear hm
      go_wp2_with (at_builtin; refine wpList_append_cs appS rfl (.tmp 18) (.tmp 20) rfl (base := w.heap.size) HW.out.1 HW.out.2 ?c1 ?c2 HV.out.2.2.size ?_)
      case c1 => have h9 := HM.out.2; omega
      case c2 => have h9 := HM.out.2; omega
      intro v2 w2 h2 g2
      have H2 := hide (And.intro h2 (And.intro (HV.out.1.off g2 (T := 34) (by decide) (row_ty HW.out.1)) (And.intro (HV.out.2.1.gr g2 (fun k hk => by have := row_blk HW.out.1 k hk; omega)) (gr_trans HV.out.2.2 g2 (fun k hk => .inr (row_blk HW.out.1 k hk))))))
      clear h2 g2 HW HV
      by_cases hu : u.head? = some 124
      · obtain ⟨u', rfl⟩ := head_of hu
        clear hu
        go_wp2_with fail
        refine (take_yes H2.out.2.2.1).mono ?_
        rintro e_ w3 ⟨rfl, h3, g3⟩
        have H3 : Hid (AR pat w w3 g s d n R k v2 (vs ++ [.slice ao na ca]) (ls ++ [a]) u') := hide ⟨by rw [List.length_append, HM.out.1]; exact row_gr H2.out.1 g3 hg, H2.out.2.1.gr H2.out.2.2.1 g3, h3, grown_trans H2.out.2.2.2 g3, ⟨by have h9 := HL.out.2.2.2.2; rw [List.length_cons] at h9; omega, by rw [← HC.out.2]; exact (alt_on HR.out ls).symm⟩, by
          have h9 := HL.out.2.2.2.1
          rw [List.length_cons] at h9
          rw [List.flatten_append, List.length_append, List.length_append, List.length_singleton, show [a].flatten = a by simp]
          omega⟩
        clear h3 g3
        go_wp2
        go_roundg k
        case measure => have := HK.out; omega
        case rel => exact ⟨_, _, _, H3⟩
      · have HU := hide hu
        clear hu
        obtain rfl : R = .ok (ls.foldr eitherL a) u := by rw [← HC.out.2, alt_last HR.out HU.out]; rfl
        go_wp2_with fail
        refine (take_no H2.out.2.2.1 HU.out).mono ?_
        rintro e_ w3 ⟨rfl, h3, g3⟩
        have hrow := row_gr H2.out.1 g3 hg
        obtain ⟨gg, cap, rfl, hcap, hcell⟩ := row_form hrow
        have H3 := hide (And.intro (H2.out.2.1.gr H2.out.2.2.1 g3) (And.intro h3 (And.intro (grown_trans H2.out.2.2.2 g3) hcell)))
        have hml := HM.out.2
        have hc1 : w3.cell? ⟨gg, m, none⟩ = some (.slice ao na ca) := hcell m _ (by rw [List.getElem?_append_right (by rw [HM.out.1]; exact Nat.le_refl _), HM.out.1]; simp)
        have hlast : LsAt w3 (.slice ao na ca) a := by
          obtain ⟨v9, l9, e1, e2, h9⟩ := H3.out.1.at m (by rw [List.length_append, HM.out.1]; simp)
          rw [List.getElem?_append_right (by rw [HM.out.1]; exact Nat.le_refl _), HM.out.1] at e1
          rw [List.getElem?_append_right (by rw [← HL.out.1, HM.out.1]; exact Nat.le_refl _), ← HL.out.1, HM.out.1] at e2
          simp at e1 e2
          subst e1 e2
          exact h9
        have HLA := hide hlast
        clear h3 g3 hrow hcell hlast H2 HX HC
        obtain ⟨hcp, hgg⟩ := hcap
        go_wp2
        go_loopw [8, 9] (fun s8 s9 wr => ∃ (z : Int) (S : List In), (-1 ≤ z ∧ z < m) ∧ s9 = .int .i64 z ∧ Hid (S = (ls.drop (z + 1).toNat).foldr eitherL a) ∧ Hid (LsAt wr s8 S) ∧ Hid (Below w3.heap.size w3 wr)) (fun _ i _ => (intOf i + 1).toNat)
        case atStart => exact ⟨(m : Int) - 1, a, ⟨by omega, by omega⟩, by go_num, hide (by rw [show ((m : Int) - 1 + 1).toNat = ls.length by rw [← HL.out.1, HM.out.1]; omega, List.drop_length]; rfl), HLA, Below.refl _ _⟩
        case round =>
          obtain ⟨z, S, ⟨hz1, hz2⟩, rfl, ES, HS, HB⟩ := hrel
          by_cases hz : 0 ≤ z
          · obtain ⟨q, rfl⟩ : ∃ q : Nat, z = (q : Int) := ⟨z.toNat, by omega⟩
            obtain ⟨v9, l9, e1, e2, h9⟩ := H3.out.1.at q (by rw [List.length_append, HM.out.1]; simp; omega)
            have hcq := (Below.cell (p := ⟨gg, q, none⟩) HB.out hgg).trans (H3.out.2.2.2 q _ e1)
            rw [List.getElem?_append_left (by rw [← HL.out.1, HM.out.1]; omega)] at e2
            have HQ : Hid (LsAt _ v9 l9 ∧ l9.length ≤ 1000 ∧ S.length ≤ 1000 ∧ eitherL l9 S = (ls.drop q).foldr eitherL a) := hide ⟨h9.ext HB.out, by have h8 := flat_at e2; have h7 := HL.out.2.2.2.1; omega, by
              rw [ES.out, fold_len]
              have h8 := drop_flat ls ((q : Int) + 1).toNat
              have h7 := HL.out.2.2.2.1
              omega, by rw [ES.out, show ((q : Int) + 1).toNat = q + 1 by omega]; exact (drop_fold e2).symm⟩
            clear h9 e1 e2
            have hd : decide ((0 : Int) ≤ (q : Int)) = true := decide_eq_true (by omega)
            go_wp2_with fail
            refine (either_any HQ.out.1 HQ.out.2.1 HS.out HQ.out.2.2.1).mono ?_
            rintro e_ w5 ⟨v5, rfl, h5, b5⟩
            have H5 := hide (And.intro h5 (Below.chain HB.out b5))
            clear h5 b5
            go_wp2
            go_roundw
            case rel => exact ⟨(q : Int) - 1, eitherL l9 S, ⟨by omega, by omega⟩, by go_num, hide (by rw [HQ.out.2.2.2]; congr 2; omega), H5.out.1, H5.out.2⟩
            case measure => simp [intOf]
          · obtain rfl : z = -1 := by omega
            have HF := hide (show S = ls.foldr eitherL a by rw [ES.out]; rfl)
            have HE := hide (And.intro (H3.out.2.1.ext HB.out) (grown_trans H3.out.2.2.1 (Ext.gr HB.out _)))
            go_wp2
            go_ret2
            exact ⟨⟨_, rfl, by rw [← HF.out]; exact HS.out, HE.out.1⟩, HE.out.2⟩

/-- The call that reads a pattern, at whatever depth. -/
theorem pat_any : ∀ (f d : Nat), f + d = 20 → PatC (patF (f + 1)) d := by
  intro f
  induction f with
  | zero => intro d hd w g s t h; exact pat_step (pat := patF 0) (fun h20 => by omega) (pat_len 0) h
  | succ f ih => intro d hd w g s t h; exact pat_step (pat := patF (f + 1)) (fun h20 => ih (d + 1) (by omega)) (pat_len (f + 1)) h
end Go.Proofs.Ytmjnedafcfolgaa
