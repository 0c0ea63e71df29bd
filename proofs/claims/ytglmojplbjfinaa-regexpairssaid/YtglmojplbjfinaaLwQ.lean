/- RegexPairs: the law's call answers true. -/
import Derived.Test.YtglmojplbjfinaaLwD
import Derived.Test.YtglmojplbjfinaaRxPair2
namespace Go.Proofs.Ytglmojplbjfinaa
open Go.RowKit
/-- What Compile answers, in one form. -/
theorem cmp_gen (s : ByteArray) {R : Rd (List In)} (h : comp (bl s) = R) {x n : Nat} (hx : R.err = x) (hn : R.got.length = n) (w : World) : Calls Try.prog 8 #[.string s] w fun e w' => ∃ ao c, e = .returned (.tuple #[.slice ao n c, .int .i64 (x : Int)]) ∧ n ≤ c ∧ Below w.heap.size w w' ∧ (x = 0 → Got w' (.slice ao n c) (plF 0 R.got)) := by
  subst hx hn
  have h1 := Compile_any s (w := w)
  rw [h] at h1
  refine h1.mono fun e w' ha => ?_
  cases R with
  | ok l t =>
    obtain ⟨⟨v, rfl, hg⟩, hb⟩ := ha
    have hg2 := hg
    obtain ⟨g, cap, rfl, hc, _⟩ := hg
    rw [plF_len] at *
    exact ⟨_, cap, rfl, hc, hb, fun _ => hg2⟩
  | bad n =>
    obtain ⟨⟨rfl, hn⟩, hb⟩ := ha
    exact ⟨none, 0, rfl, Nat.le_refl _, hb, fun h0 => by rcases hn with rfl | rfl <;> cases h0⟩
theorem cls_err : ∀ (f : Nat) (s : Nat → Nat) (r : List Nat) (e : Nat), clsF f s r = .bad e → e = 3 ∨ e = 4 := by
  intro f
  induction f with
  | zero => intro s r e h; injection h with h; exact .inl h.symm
  | succ f ih =>
    intro s r e h
    unfold clsF at h
    split at h
    · injection h with h; exact .inl h.symm
    · split at h
      · cases h
      · exact ih _ _ _ h
theorem class_err {r : List Nat} {e : Nat} (h : classS r = .bad e) : e = 3 ∨ e = 4 := by
  unfold classS at h
  split at h
  · split at h
    · rename_i e' hc
      injection h with h; subst h; exact cls_err _ _ _ _ hc
    · cases h
  · split at h
    · rename_i e' hc
      injection h with h; subst h; exact cls_err _ _ _ _ hc
    · cases h
/-- Errors have the numbers three and four. -/
def Errs (pat : Nat → List Nat → Rd (List In)) : Prop := ∀ d r e, pat d r = .bad e → e = 3 ∨ e = 4
theorem atom_err {pat : Nat → List Nat → Rd (List In)} (hp : Errs pat) {d c e : Nat} {t : List Nat} (h : atomF pat d c t = .bad e) : e = 3 ∨ e = 4 := by
  unfold atomF at h
  split at h
  · unfold escS at h
    split at h
    · injection h with h; exact .inl h.symm
    · cases h
  split at h
  · cases h
  split at h
  · exact class_err h
  split at h
  · unfold groupF at h
    split at h
    · injection h with h; exact .inr h.symm
    · split at h
      · rename_i hr
        injection h with h; subst h; exact hp _ _ _ hr
      · split at h
        · cases h
        · injection h with h; exact .inl h.symm
  split at h
  · cases h
  split at h
  · cases h
  split at h
  · injection h with h; exact .inl h.symm
  · cases h
theorem row_err {pat : Nat → List Nat → Rd (List In)} (hp : Errs pat) (d : Nat) : ∀ (f : Nat) (r : List Nat) (e : Nat), rowF pat d f r = .bad e → e = 3 ∨ e = 4 := by
  intro f
  induction f with
  | zero => intro r e h; injection h with h; exact .inl h.symm
  | succ f ih =>
    intro r e h
    unfold rowF at h
    split at h
    · cases h
    · split at h
      · cases h
      · split at h
        · rename_i hx
          injection h with h; subst h; exact atom_err hp hx
        · split at h
          · rename_i hb
            injection h with h; subst h; exact ih _ _ hb
          · cases h
theorem alt_err {pat : Nat → List Nat → Rd (List In)} (hp : Errs pat) (d : Nat) : ∀ (f : Nat) (r : List Nat) (e : Nat), altF pat d f r = .bad e → e = 3 ∨ e = 4 := by
  intro f
  induction f with
  | zero => intro r e h; injection h with h; exact .inl h.symm
  | succ f ih =>
    intro r e h
    unfold altF at h
    split at h
    · rename_i hx
      injection h with h; subst h; exact row_err hp _ _ _ _ hx
    · split at h
      · split at h
        · rename_i hb
          injection h with h; subst h; exact ih _ _ hb
        · cases h
      · cases h
theorem pat_errs : ∀ f, Errs (patF f) := by
  intro f
  induction f with
  | zero => intro d r e h; injection h with h; exact .inl h.symm
  | succ f ih => intro d r e h; exact alt_err ih d _ _ _ h
theorem comp_err {r : List Nat} {R : Rd (List In)} (h : comp r = R) : R.err = 0 ∧ (∃ l, R = .ok l [] ∧ l.length ≤ 769) ∨ R.err = 3 ∨ R.err = 4 := by
  unfold comp at h
  split at h
  · subst h; exact .inr (.inr rfl)
  · split at h
    · rename_i e he
      subst h
      exact .inr (pat_errs _ _ _ _ he)
    · rename_i hl _ st t hR
      split at h
      · subst h
        have h9 := pat_len 21 _ _ _ _ hR
        exact .inl ⟨rfl, _, rfl, by simp; omega⟩
      · subst h; exact .inr (.inl rfl)
set_option maxRecDepth 100000 in
set_option maxHeartbeats 2000000 in
theorem pairs_walk (a b : ByteArray) (ha : a.size ≤ 140737488355328) (hb : b.size ≤ 140737488355328) : Says 4 #[.string a, .string b] (.bool true) := by
  intro w
  have HB0 := hide (Below.refl w.heap.size w)
  by_cases hl : 200 < a.size + b.size
  · have hd : decide ((200 : Int) < (a.size : Int) + (b.size : Int)) = true := decide_eq_true (by omega)
    have ha' : (a.size : Int) ≤ 140737488355328 := by omega
    have hb' : (b.size : Int) ≤ 140737488355328 := by omega
    go_enter Try.func4, Try.ntmps4
    go_wp2_with fail
    refine (awake_any _).mono ?_
    rintro e_ w2 ⟨rfl, b2⟩
    replace HB0 := hide (Below.chain HB0.out b2)
    clear b2
    go_wp2
    go_ret
    exact ⟨rfl, HB0.out⟩

  · have hd : decide ((200 : Int) < (a.size : Int) + (b.size : Int)) = false := decide_eq_false (by omega)
    have ha' : (a.size : Int) ≤ 140737488355328 := by omega
    have hb' : (b.size : Int) ≤ 140737488355328 := by omega
    have HLn : Hid ((bl a).length + (bl b).length ≤ 200) := hide (by rw [bl_len, bl_len]; omega)
    have z1 : ¬ 9223372036854775807 < 1 + a.size := by omega
    have z2 : ¬ 9223372036854775807 < 1 + a.size + 3 := by omega
    have z3 : ¬ 9223372036854775807 < 1 + a.size + 3 + b.size := by omega
    have z4 : ¬ 9223372036854775807 < 1 + a.size + 3 + b.size + 1 := by omega
    have z5 : ¬ 9223372036854775807 < 1 + a.size + 2 := by omega
    have z6 : ¬ 9223372036854775807 < 1 + a.size + 2 + b.size := by omega
    have z7 : ¬ 9223372036854775807 < 1 + a.size + 2 + b.size + 1 := by omega
    have q3 : bl ((⟨#[40]⟩ : ByteArray) ++ a ++ ⟨#[41, 124, 40]⟩ ++ b ++ ⟨#[41]⟩) = orT (bl a) (bl b) := by
      simp only [bl_add, show bl ⟨#[40]⟩ = [40] from rfl, show bl ⟨#[41, 124, 40]⟩ = [41, 124, 40] from rfl, show bl ⟨#[41]⟩ = [41] from rfl]
      simp [orT]
    have q4 : bl ((⟨#[40]⟩ : ByteArray) ++ a ++ ⟨#[41, 40]⟩ ++ b ++ ⟨#[41]⟩) = twoT (bl a) (bl b) := by
      simp only [bl_add, show bl ⟨#[40]⟩ = [40] from rfl, show bl ⟨#[41, 40]⟩ = [41, 40] from rfl, show bl ⟨#[41]⟩ = [41] from rfl]
      simp [twoT]
    obtain ⟨R1, h1⟩ : ∃ R, comp (bl a) = R := ⟨_, rfl⟩
    obtain ⟨R2, h2⟩ : ∃ R, comp (bl b) = R := ⟨_, rfl⟩
    obtain ⟨R3, h3⟩ : ∃ R, comp (orT (bl a) (bl b)) = R := ⟨_, rfl⟩
    obtain ⟨R4, h4⟩ : ∃ R, comp (twoT (bl a) (bl b)) = R := ⟨_, rfl⟩
    obtain ⟨x1, hx1⟩ : ∃ x, R1.err = x := ⟨_, rfl⟩
    obtain ⟨n1, hn1⟩ : ∃ n, R1.got.length = n := ⟨_, rfl⟩
    obtain ⟨x2, hx2⟩ : ∃ x, R2.err = x := ⟨_, rfl⟩
    obtain ⟨n2, hn2⟩ : ∃ n, R2.got.length = n := ⟨_, rfl⟩
    obtain ⟨x3, hx3⟩ : ∃ x, R3.err = x := ⟨_, rfl⟩
    obtain ⟨n3, hn3⟩ : ∃ n, R3.got.length = n := ⟨_, rfl⟩
    obtain ⟨x4, hx4⟩ : ∃ x, R4.err = x := ⟨_, rfl⟩
    obtain ⟨n4, hn4⟩ : ∃ n, R4.got.length = n := ⟨_, rfl⟩
    have C1 := hide (cmp_gen a h1 hx1 hn1)
    have C2 := hide (cmp_gen b h2 hx2 hn2)
    have C3 := hide (cmp_gen _ ((congrArg comp q3).trans h3) hx3 hn3)
    have C4 := hide (cmp_gen _ ((congrArg comp q4).trans h4) hx4 hn4)
    have HX := hide (And.intro hx1 (And.intro hx2 (And.intro hx3 hx4)))
    have HN := hide (And.intro hn1 (And.intro hn2 (And.intro hn3 hn4)))
    have HH := hide (And.intro h1 (And.intro h2 (And.intro h3 h4)))
    clear q3 q4 hl h1 h2 h3 h4 hx1 hx2 hx3 hx4 hn1 hn2 hn3 hn4
    go_enter Try.func4, Try.ntmps4
    go_wp2_with fail
    refine (C1.out _).mono ?_
    rintro e_ w1 ⟨o1, c1, rfl, _, b1, G1⟩
    replace HB0 := hide (Below.chain HB0.out b1)
    have HG1 := hide G1
    clear b1 G1
    go_wp2_with fail
    refine (C2.out _).mono ?_
    rintro e_ w2 ⟨o2, c2, rfl, _, b2, G2⟩
    replace HB0 := hide (Below.chain HB0.out b2)
    have HG2 := hide G2
    clear b2 G2
    go_wp2_with fail
    refine (C3.out _).mono ?_
    rintro e_ w3 ⟨o3, c3, rfl, _, b3, G3⟩
    replace HB0 := hide (Below.chain HB0.out b3)
    have HG3 := hide G3
    clear b3 G3
    go_wp2_with fail
    refine (C4.out _).mono ?_
    rintro e_ w4 ⟨o4, c4, rfl, _, b4, G4⟩
    replace HB0 := hide (Below.chain HB0.out b4)
    have HG4 := hide G4
    have HB4 := hide b4
    clear b4 G4
    rcases comp_err HH.out.1 with ⟨e1, X, hX, lX⟩ | e1
    · rcases comp_err HH.out.2.1 with ⟨e2, Y, hY, lY⟩ | e2
      · obtain rfl : x1 = 0 := HX.out.1.symm.trans e1
        obtain rfl : x2 = 0 := HX.out.2.1.symm.trans e2
        rcases pair_comp HLn.out (HH.out.1.trans hX) (HH.out.2.1.trans hY) with hp | ⟨Z, W, hz, hw, hp⟩
        · obtain rfl : x3 = 4 := by rw [← HX.out.2.2.1, ← HH.out.2.2.1, hp]; rfl
          clear hp e1 e2 lX lY hX hY
          go_wp2_with fail
          refine (awake_any _).mono ?_
          rintro e_ w9 ⟨rfl, b9⟩
          replace HB0 := hide (Below.chain HB0.out b9)
          clear b9
          go_wp2
          go_ret
          exact ⟨rfl, HB0.out⟩

        · have r3 : R3 = .ok Z [] := HH.out.2.2.1.symm.trans hz
          have r4 : R4 = .ok W [] := HH.out.2.2.2.symm.trans hw
          obtain rfl : x3 = 0 := by rw [← HX.out.2.2.1, r3]; rfl
          obtain rfl : x4 = 0 := by rw [← HX.out.2.2.2, r4]; rfl
          have m1 : X.length = n1 := by rw [← HN.out.1, hX]; rfl
          have m2 : Y.length = n2 := by rw [← HN.out.2.1, hY]; rfl
          have m3 : Z.length = n3 := by rw [← HN.out.2.2.1, r3]; rfl
          have m4 : W.length = n4 := by rw [← HN.out.2.2.2, r4]; rfl
          obtain ⟨p1, p2, p3, p4, i, hi, hk⟩ := hp
          have g3 := HG3.out rfl
          rw [r3] at g3
          obtain ⟨g, cap, hv, hcap, _, hg, hr⟩ := g3
          have k0 : w4.cell? ⟨g, 0, none⟩ = some (.int .i64 2) := by
            have h9 := hr 0 i hi 0 (by decide)
            rw [show (ic i)[0]? = some (.int .i64 i.k) from rfl, hk] at h9
            exact (Below.cell (p := ⟨g, 0, none⟩) HB4.out hg).trans h9
          injection hv with hv1 hv2 hv3
          subst hv1
          rw [m1] at p1 p2 p3 lX
          rw [m2] at p1 p2 p4 lY
          rw [m3] at p1
          rw [m4] at p2
          clear m1 m2 m3 m4 e1 e2 hz hw hr hi hk hcap hv2 hv3 hX hY r3 r4
          have lx : (n1 : Int) ≤ 1000 := by omega
          have ly : (n2 : Int) ≤ 1000 := by omega
          have lx0 : 1 ≤ (n1 : Int) := by omega
          have ly0 : 1 ≤ (n2 : Int) := by omega
          have t1 : ((n3 : Int) == (n1 : Int) + (n2 : Int) + 1) = true := beq_iff_eq.2 (by omega)
          have t2 : ((n4 : Int) == (n1 : Int) + (n2 : Int) - 1) = true := beq_iff_eq.2 (by omega)
          have t3 : (0 : Int) < (n3 : Int) := by omega
          have t3n : 0 < n3 := by omega
          clear p1 p2 p3 p4 lX lY
          go_wp2_with fail
          refine (awake_any _).mono ?_
          rintro e_ w9 ⟨rfl, b9⟩
          replace HB0 := hide (Below.chain HB0.out b9)
          clear b9
          go_wp2
          go_ret
          exact ⟨rfl, HB0.out⟩

      · have hne : ((x2 : Int) != 0) = true := err_ne (by rw [← HX.out.2.1]; exact e2)
        obtain rfl : x1 = 0 := HX.out.1.symm.trans e1
        clear e1 e2 lX hX
        go_wp2_with fail
        refine (awake_any _).mono ?_
        rintro e_ w9 ⟨rfl, b9⟩
        replace HB0 := hide (Below.chain HB0.out b9)
        clear b9
        go_wp2
        go_ret
        exact ⟨rfl, HB0.out⟩

    · have hne : ((x1 : Int) != 0) = true := err_ne (by rw [← HX.out.1]; exact e1)
      clear e1
      go_wp2_with fail
      refine (awake_any _).mono ?_
      rintro e_ w9 ⟨rfl, b9⟩
      replace HB0 := hide (Below.chain HB0.out b9)
      clear b9
      go_wp2
      go_ret
      exact ⟨rfl, HB0.out⟩

end Go.Proofs.Ytglmojplbjfinaa
