/- What parentheses hold, how an atom is read, how often it is: the program's calls. -/
import Derived.Test.YtmjnedafcfolgaaRx8
namespace Go.Proofs.Ytmjnedafcfolgaa
open Go.RowKit
/-- The call that reads a pattern answers so, with so many parentheses open. -/
def PatC (pat : Nat → List Nat → Rd (List In)) (d : Nat) : Prop := ∀ (w : World) (g : Nat) (s : ByteArray) (t : List Nat), PAt w g s t d → Calls Try.prog 19 #[.pointer (some ⟨g, 0, none⟩)] w (Ans w g s d (pat d t))
theorem err_ne {e : Nat} (h : e = 3 ∨ e = 4) : ((e : Int) != 0) = true := by rcases h with rfl | rfl <;> rfl
theorem grp_20 {pat : Nat → List Nat → Rd (List In)} {t : List Nat} : groupF pat 20 t = .bad 4 := by unfold groupF; rw [if_pos rfl]
theorem grp_bad {pat : Nat → List Nat → Rd (List In)} {d e : Nat} {t : List Nat} (hd : d ≠ 20) (h : pat (d + 1) t = .bad e) : groupF pat d t = .bad e := by unfold groupF; rw [if_neg hd, h]
theorem grp_ok {pat : Nat → List Nat → Rd (List In)} {d : Nat} {t u : List Nat} {a : List In} (hd : d ≠ 20) (h : pat (d + 1) t = .ok a (41 :: u)) : groupF pat d t = .ok a u := by unfold groupF; rw [if_neg hd, h]; rfl
theorem grp_open {pat : Nat → List Nat → Rd (List In)} {d : Nat} {t u : List Nat} {a : List In} (hd : d ≠ 20) (h : pat (d + 1) t = .ok a u) (hu : u.head? ≠ some 41) : groupF pat d t = .bad 3 := by unfold groupF; rw [if_neg hd, h]; simp only []; rw [if_neg hu]
set_option maxRecDepth 100000 in
theorem group_20 {w : World} {g : Nat} {s : ByteArray} {t : List Nat} {d : Nat} (h : PAt w g s t d) (hd : d = 20) : Calls Try.prog 36 #[.pointer (some ⟨g, 0, none⟩)] w (Ans w g s d (.bad 4)) := by
  subst hd
  obtain ⟨i, ib, dm, c0, c1, c2, f1, f2, SA, SD⟩ := PAt.cells h
  clear h SA SD
  go_enter Try.func36, Try.ntmps36
  go_wp2
  go_ret2
  exact ⟨⟨rfl, .inr rfl⟩, grown_refl _ _⟩

set_option maxRecDepth 100000 in
set_option maxHeartbeats 1000000 in
theorem group_bad {pat : Nat → List Nat → Rd (List In)} {w : World} {g : Nat} {s : ByteArray} {t : List Nat} {d : Nat} (hP : d < 20 → PatC pat (d + 1)) (h : PAt w g s t d) (hd : d ≠ 20) {e : Nat} (hR : pat (d + 1) t = .bad e) : Calls Try.prog 36 #[.pointer (some ⟨g, 0, none⟩)] w (Ans w g s d (.bad e)) := by
  have H0 := hide h
  have HP := hide hP
  clear hP
  obtain ⟨i, ib, dm, c0, c1, c2, f1, f2, SA, SD⟩ := PAt.cells h
  clear h
  have he : ((d : Int) == 20) = false := beq_eq_false_iff_ne.2 (by omega)
  have hd0 : (d : Int) ≤ 20 := by omega
  have HS : Hid (PAt (w.setCell ⟨g, 2, none⟩ (.int .i64 ((d : Int) + 1))) g s t (d + 1) ∧ w.grownBy (w.setCell ⟨g, 2, none⟩ (.int .i64 ((d : Int) + 1))) (some g)) := hide ⟨SD.out (d + 1) (by omega), grown_set _ _ _ _⟩
  have HC := HP.out (by omega) _ _ _ _ HS.out.1
  rw [hR] at HC
  replace HC := hide HC
  clear SA SD hR hd
  go_enter Try.func36, Try.ntmps36
  go_wp2_with fail
  refine HC.out.mono ?_
  rintro e_ w2 ⟨⟨rfl, he3⟩, g2⟩
  have hne := err_ne he3
  have HE := hide (And.intro he3 (grown_trans HS.out.2 g2))
  clear he3 g2
  go_wp2
  go_ret2
  exact ⟨⟨rfl, HE.out.1⟩, HE.out.2⟩

set_option maxRecDepth 100000 in
set_option maxHeartbeats 1000000 in
theorem group_open {pat : Nat → List Nat → Rd (List In)} {w : World} {g : Nat} {s : ByteArray} {t : List Nat} {d : Nat} (hP : d < 20 → PatC pat (d + 1)) (h : PAt w g s t d) (hd : d ≠ 20) {a : List In} {u : List Nat} (hR : pat (d + 1) t = .ok a u) (hu : u.head? ≠ some 41) : Calls Try.prog 36 #[.pointer (some ⟨g, 0, none⟩)] w (Ans w g s d (.bad 3)) := by
  have H0 := hide h
  have HP := hide hP
  clear hP
  obtain ⟨i, ib, dm, c0, c1, c2, f1, f2, SA, SD⟩ := PAt.cells h
  clear h
  have he : ((d : Int) == 20) = false := beq_eq_false_iff_ne.2 (by omega)
  have hd0 : (d : Int) ≤ 20 := by omega
  have HS : Hid (PAt (w.setCell ⟨g, 2, none⟩ (.int .i64 ((d : Int) + 1))) g s t (d + 1) ∧ w.grownBy (w.setCell ⟨g, 2, none⟩ (.int .i64 ((d : Int) + 1))) (some g)) := hide ⟨SD.out (d + 1) (by omega), grown_set _ _ _ _⟩
  have HC := HP.out (by omega) _ _ _ _ HS.out.1
  rw [hR] at HC
  replace HC := hide HC
  clear SA SD hR hd
  go_enter Try.func36, Try.ntmps36
  go_wp2_with fail
  refine HC.out.mono ?_
  rintro e_ w2 ⟨⟨v, rfl, h2, p2⟩, g2⟩
  have H2 := hide (And.intro h2 (And.intro p2 (grown_trans HS.out.2 g2)))
  clear h2 p2 g2
  go_wp2_with fail
  refine (take_no H2.out.2.1 hu).mono ?_
  rintro e_ w3 ⟨rfl, h3, g3⟩
  have HE := hide (grown_trans H2.out.2.2 g3)
  clear h3 g3
  go_wp2
  go_ret2
  exact ⟨⟨rfl, .inl rfl⟩, HE.out⟩

set_option maxRecDepth 100000 in
set_option maxHeartbeats 1000000 in
theorem group_ok {pat : Nat → List Nat → Rd (List In)} {w : World} {g : Nat} {s : ByteArray} {t : List Nat} {d : Nat} (hP : d < 20 → PatC pat (d + 1)) (h : PAt w g s t d) (hd : d ≠ 20) {a : List In} {u : List Nat} (hR : pat (d + 1) t = .ok a (41 :: u)) : Calls Try.prog 36 #[.pointer (some ⟨g, 0, none⟩)] w (Ans w g s d (.ok a u)) := by
  have H0 := hide h
  have HP := hide hP
  clear hP
  obtain ⟨i, ib, dm, c0, c1, c2, f1, f2, SA, SD⟩ := PAt.cells h
  clear h
  have he : ((d : Int) == 20) = false := beq_eq_false_iff_ne.2 (by omega)
  have hd0 : (d : Int) ≤ 20 := by omega
  have HS : Hid (PAt (w.setCell ⟨g, 2, none⟩ (.int .i64 ((d : Int) + 1))) g s t (d + 1) ∧ w.grownBy (w.setCell ⟨g, 2, none⟩ (.int .i64 ((d : Int) + 1))) (some g)) := hide ⟨SD.out (d + 1) (by omega), grown_set _ _ _ _⟩
  have HC := HP.out (by omega) _ _ _ _ HS.out.1
  rw [hR] at HC
  replace HC := hide HC
  clear SA SD hR hd
  go_enter Try.func36, Try.ntmps36
  go_wp2_with fail
  refine HC.out.mono ?_
  rintro e_ w2 ⟨⟨v, rfl, h2, p2⟩, g2⟩
  have H2 := hide (And.intro h2 (And.intro p2 (grown_trans HS.out.2 g2)))
  clear h2 p2 g2
  go_wp2_with fail
  refine (take_yes H2.out.2.1).mono ?_
  rintro e_ w3 ⟨rfl, h3, g3⟩
  have H3 := hide (And.intro (H2.out.1.gr H2.out.2.1 g3) (And.intro h3 (grown_trans H2.out.2.2 g3)))
  clear h3 g3
  obtain ⟨ib, ibb, dmb, c0b, c1b, c2b, f1b, f2b, SAb, SDb⟩ := PAt.cells H3.out.2.1
  rw [show ((d + 1 : Nat) : Int) = (d : Int) + 1 from rfl] at c2b
  have HF := hide (And.intro (SDb.out d (by omega)) (And.intro (H3.out.1.gr H3.out.2.1 (grown_set w3 g 2 (.int .i64 (d : Int)))) (grown_trans H3.out.2.2 (grown_set w3 g 2 (.int .i64 (d : Int))))))
  clear SAb SDb
  go_wp2
  go_ret2
  exact ⟨⟨_, rfl, HF.out.2.1, HF.out.1⟩, HF.out.2.2⟩

set_option maxRecDepth 100000 in
theorem group_any {pat : Nat → List Nat → Rd (List In)} {w : World} {g : Nat} {s : ByteArray} {t : List Nat} {d : Nat} (hP : d < 20 → PatC pat (d + 1)) (h : PAt w g s t d) : Calls Try.prog 36 #[.pointer (some ⟨g, 0, none⟩)] w (Ans w g s d (groupF pat d t)) := by
  by_cases hd : d = 20
  · rw [show groupF pat d t = .bad 4 by subst hd; exact grp_20]
    exact group_20 h hd
  · cases hR : pat (d + 1) t with
    | bad e => rw [grp_bad hd hR]; exact group_bad hP h hd hR
    | ok a u =>
      by_cases hu : u.head? = some 41
      · obtain ⟨v, rfl⟩ : ∃ v, u = 41 :: v := by
          cases u with
          | nil => cases hu
          | cons a v => simp at hu; exact ⟨v, by rw [hu]⟩
        rw [grp_ok hd hR]; exact group_ok hP h hd hR
      · rw [grp_open hd hR hu]; exact group_open hP h hd hR hu

/-- A call that answers v and leaves memory as it was. -/
abbrev Tells (f : FuncId) (args : Array Value) (v : Value) : Prop := ∀ w : World, Calls Try.prog f args w fun e w' => e = .returned v ∧ w' = w
set_option maxRecDepth 100000 in
theorem atom_92 (g : Nat) : Tells 29 #[.pointer (some ⟨g, 0, none⟩), .int .u8 92] (.func (.func 33) #[.pointer (some ⟨g, 0, none⟩)] #[]) := by
  intro w
  go_enter Try.func29, Try.ntmps29
  go_wp2
  go_ret
  exact ⟨rfl, rfl⟩

set_option maxRecDepth 100000 in
theorem atom_46 (g : Nat) : Tells 29 #[.pointer (some ⟨g, 0, none⟩), .int .u8 46] (.func (.func 34) #[.pointer (some ⟨g, 0, none⟩)] #[]) := by
  intro w
  go_enter Try.func29, Try.ntmps29
  go_wp2
  go_ret
  exact ⟨rfl, rfl⟩

set_option maxRecDepth 100000 in
theorem atom_91 (g : Nat) : Tells 29 #[.pointer (some ⟨g, 0, none⟩), .int .u8 91] (.func (.func 35) #[.pointer (some ⟨g, 0, none⟩)] #[]) := by
  intro w
  go_enter Try.func29, Try.ntmps29
  go_wp2
  go_ret
  exact ⟨rfl, rfl⟩

set_option maxRecDepth 100000 in
theorem atom_40 (g : Nat) : Tells 29 #[.pointer (some ⟨g, 0, none⟩), .int .u8 40] (.func (.func 36) #[.pointer (some ⟨g, 0, none⟩)] #[]) := by
  intro w
  go_enter Try.func29, Try.ntmps29
  go_wp2
  go_ret
  exact ⟨rfl, rfl⟩

set_option maxRecDepth 100000 in
theorem atom_94 (g : Nat) : Tells 29 #[.pointer (some ⟨g, 0, none⟩), .int .u8 94] (.func (.func 37) #[.pointer (some ⟨g, 0, none⟩)] #[]) := by
  intro w
  go_enter Try.func29, Try.ntmps29
  go_wp2
  go_ret
  exact ⟨rfl, rfl⟩

set_option maxRecDepth 100000 in
theorem atom_36 (g : Nat) : Tells 29 #[.pointer (some ⟨g, 0, none⟩), .int .u8 36] (.func (.func 38) #[.pointer (some ⟨g, 0, none⟩)] #[]) := by
  intro w
  go_enter Try.func29, Try.ntmps29
  go_wp2
  go_ret
  exact ⟨rfl, rfl⟩

set_option maxRecDepth 100000 in
theorem atom_42 (g : Nat) : Tells 29 #[.pointer (some ⟨g, 0, none⟩), .int .u8 42] (.func (.func 39) #[.pointer (some ⟨g, 0, none⟩)] #[]) := by
  intro w
  go_enter Try.func29, Try.ntmps29
  go_wp2
  go_ret
  exact ⟨rfl, rfl⟩

set_option maxRecDepth 100000 in
theorem atom_43 (g : Nat) : Tells 29 #[.pointer (some ⟨g, 0, none⟩), .int .u8 43] (.func (.func 39) #[.pointer (some ⟨g, 0, none⟩)] #[]) := by
  intro w
  go_enter Try.func29, Try.ntmps29
  go_wp2
  go_ret
  exact ⟨rfl, rfl⟩

set_option maxRecDepth 100000 in
theorem atom_63 (g : Nat) : Tells 29 #[.pointer (some ⟨g, 0, none⟩), .int .u8 63] (.func (.func 39) #[.pointer (some ⟨g, 0, none⟩)] #[]) := by
  intro w
  go_enter Try.func29, Try.ntmps29
  go_wp2
  go_ret
  exact ⟨rfl, rfl⟩

set_option maxRecDepth 100000 in
theorem atom_else (g : Nat) {c : Nat} (n92 : c ≠ 92) (n46 : c ≠ 46) (n91 : c ≠ 91) (n40 : c ≠ 40) (n94 : c ≠ 94) (n36 : c ≠ 36) (n42 : c ≠ 42) (n43 : c ≠ 43) (n63 : c ≠ 63) : Tells 29 #[.pointer (some ⟨g, 0, none⟩), .int .u8 (c : Int)] (.func (.func 40) #[.pointer (some ⟨g, 0, none⟩)] #[]) := by
  intro w
  have e92 : ((c : Int) == 92) = false := beq_eq_false_iff_ne.2 (by omega)
  have e46 : ((c : Int) == 46) = false := beq_eq_false_iff_ne.2 (by omega)
  have e91 : ((c : Int) == 91) = false := beq_eq_false_iff_ne.2 (by omega)
  have e40 : ((c : Int) == 40) = false := beq_eq_false_iff_ne.2 (by omega)
  have e94 : ((c : Int) == 94) = false := beq_eq_false_iff_ne.2 (by omega)
  have e36 : ((c : Int) == 36) = false := beq_eq_false_iff_ne.2 (by omega)
  have e42 : ((c : Int) == 42) = false := beq_eq_false_iff_ne.2 (by omega)
  have e43 : ((c : Int) == 43) = false := beq_eq_false_iff_ne.2 (by omega)
  have e63 : ((c : Int) == 63) = false := beq_eq_false_iff_ne.2 (by omega)
  clear n92 n46 n91 n40 n94 n36 n42 n43 n63
  go_enter Try.func29, Try.ntmps29
  go_wp2
  go_ret
  exact ⟨rfl, rfl⟩

set_option maxRecDepth 100000 in
theorem atom_any {pat : Nat → List Nat → Rd (List In)} {g : Nat} {s : ByteArray} {t : List Nat} {d c : Nat} (hP : d < 20 → PatC pat (d + 1)) (hp : ∃ p, bl s = p ++ c :: t) : ∃ fn, (∀ (xs : Array Value) (w : World), (callFunc fn xs).run Try.prog w = .ok (.enter fn xs) w) ∧ Tells 29 #[.pointer (some ⟨g, 0, none⟩), .int .u8 (c : Int)] (.func (.func fn) #[.pointer (some ⟨g, 0, none⟩)] #[]) ∧ ∀ w : World, PAt w g s t d → Calls Try.prog fn #[.pointer (some ⟨g, 0, none⟩)] w (Ans w g s d (atomF pat d c t)) := by
  by_cases n92 : c = 92
  · subst n92
    exact ⟨_, Try.call33, atom_92 g, fun w h => escaped_any h⟩
  by_cases n46 : c = 46
  · subst n46
    exact ⟨_, Try.call34, atom_46 g, fun w h => any_any h⟩
  by_cases n91 : c = 91
  · subst n91
    exact ⟨_, Try.call35, atom_91 g, fun w h => class_any h⟩
  by_cases n40 : c = 40
  · subst n40
    exact ⟨_, Try.call36, atom_40 g, fun w h => group_any hP h⟩
  by_cases n94 : c = 94
  · subst n94
    exact ⟨_, Try.call37, atom_94 g, fun w h => first_any h⟩
  by_cases n36 : c = 36
  · subst n36
    exact ⟨_, Try.call38, atom_36 g, fun w h => last_any h⟩
  by_cases n42 : c = 42
  · subst n42
    exact ⟨_, Try.call39, atom_42 g, fun w h => nothing_any⟩
  by_cases n43 : c = 43
  · subst n43
    exact ⟨_, Try.call39, atom_43 g, fun w h => nothing_any⟩
  by_cases n63 : c = 63
  · subst n63
    exact ⟨_, Try.call39, atom_63 g, fun w h => nothing_any⟩
  rw [show atomF pat d c t = .ok [onlyI c] t by unfold atomF; rw [if_neg n92, if_neg n46, if_neg n91, if_neg n40, if_neg n94, if_neg n36, if_neg (by omega)]]
  exact ⟨_, Try.call40, atom_else g n92 n46 n91 n40 n94 n36 n42 n43 n63, fun w h => itself_any h hp⟩

set_option maxRecDepth 100000 in
set_option maxHeartbeats 1000000 in
theorem rep_42 {w : World} {g : Nat} {s : ByteArray} {d : Nat} {v : Value} {a : List In} {u : List Nat} (h : PAt w g s (42 :: u) d) (hv : LsAt w v a) (hl : a.length ≤ 1000) : Calls Try.prog 30 #[.pointer (some ⟨g, 0, none⟩), v] w fun e w' => ∃ v', e = .returned v' ∧ LsAt w' v' (starL a) ∧ PAt w' g s (u) d ∧ w.grownBy w' (some g) := by
  have H0 := hide (And.intro h (And.intro hv hl))
  clear h hv hl
  go_enter Try.func30, Try.ntmps30
  go_wp2_with fail
  refine (take_yes H0.out.1).mono ?_
  rintro e_ w1 ⟨rfl, h_, g_⟩
  have T1 := hide (And.intro h_ (And.intro (LsAt.gr H0.out.2.1 H0.out.1 g_) (grown_trans (grown_refl w (some g)) g_)))
  clear h_ g_
  go_wp2_with fail
  refine (star_any T1.out.2.1 H0.out.2.2).mono ?_
  rintro e_ w9 ⟨v9, rfl, h9, b9⟩
  have T9 := hide (And.intro h9 (And.intro (T1.out.1.ext b9) (grown_trans T1.out.2.2 (Ext.gr b9 _))))
  clear h9 b9
  go_wp2
  go_ret
  exact ⟨_, rfl, T9.out.1, T9.out.2.1, T9.out.2.2⟩

set_option maxRecDepth 100000 in
set_option maxHeartbeats 1000000 in
theorem rep_43 {w : World} {g : Nat} {s : ByteArray} {d : Nat} {v : Value} {a : List In} {u : List Nat} (h : PAt w g s (43 :: u) d) (hv : LsAt w v a) (hl : a.length ≤ 1000) : Calls Try.prog 30 #[.pointer (some ⟨g, 0, none⟩), v] w fun e w' => ∃ v', e = .returned v' ∧ LsAt w' v' (plusL a) ∧ PAt w' g s (u) d ∧ w.grownBy w' (some g) := by
  have H0 := hide (And.intro h (And.intro hv hl))
  clear h hv hl
  go_enter Try.func30, Try.ntmps30
  go_wp2_with fail
  refine (take_no H0.out.1 (by simp)).mono ?_
  rintro e_ w1 ⟨rfl, h_, g_⟩
  have T1 := hide (And.intro h_ (And.intro (LsAt.gr H0.out.2.1 H0.out.1 g_) (grown_trans (grown_refl w (some g)) g_)))
  clear h_ g_
  go_wp2_with fail
  refine (take_yes T1.out.1).mono ?_
  rintro e_ w2 ⟨rfl, h_, g_⟩
  have T2 := hide (And.intro h_ (And.intro (LsAt.gr T1.out.2.1 T1.out.1 g_) (grown_trans T1.out.2.2 g_)))
  clear h_ g_
  go_wp2_with fail
  refine (plus_any T2.out.2.1 H0.out.2.2).mono ?_
  rintro e_ w9 ⟨v9, rfl, h9, b9⟩
  have T9 := hide (And.intro h9 (And.intro (T2.out.1.ext b9) (grown_trans T2.out.2.2 (Ext.gr b9 _))))
  clear h9 b9
  go_wp2
  go_ret
  exact ⟨_, rfl, T9.out.1, T9.out.2.1, T9.out.2.2⟩

set_option maxRecDepth 100000 in
set_option maxHeartbeats 1000000 in
theorem rep_63 {w : World} {g : Nat} {s : ByteArray} {d : Nat} {v : Value} {a : List In} {u : List Nat} (h : PAt w g s (63 :: u) d) (hv : LsAt w v a) (hl : a.length ≤ 1000) : Calls Try.prog 30 #[.pointer (some ⟨g, 0, none⟩), v] w fun e w' => ∃ v', e = .returned v' ∧ LsAt w' v' (optL a) ∧ PAt w' g s (u) d ∧ w.grownBy w' (some g) := by
  have H0 := hide (And.intro h (And.intro hv hl))
  clear h hv hl
  go_enter Try.func30, Try.ntmps30
  go_wp2_with fail
  refine (take_no H0.out.1 (by simp)).mono ?_
  rintro e_ w1 ⟨rfl, h_, g_⟩
  have T1 := hide (And.intro h_ (And.intro (LsAt.gr H0.out.2.1 H0.out.1 g_) (grown_trans (grown_refl w (some g)) g_)))
  clear h_ g_
  go_wp2_with fail
  refine (take_no T1.out.1 (by simp)).mono ?_
  rintro e_ w2 ⟨rfl, h_, g_⟩
  have T2 := hide (And.intro h_ (And.intro (LsAt.gr T1.out.2.1 T1.out.1 g_) (grown_trans T1.out.2.2 g_)))
  clear h_ g_
  go_wp2_with fail
  refine (take_yes T2.out.1).mono ?_
  rintro e_ w3 ⟨rfl, h_, g_⟩
  have T3 := hide (And.intro h_ (And.intro (LsAt.gr T2.out.2.1 T2.out.1 g_) (grown_trans T2.out.2.2 g_)))
  clear h_ g_
  go_wp2_with fail
  refine (option_any T3.out.2.1 H0.out.2.2).mono ?_
  rintro e_ w9 ⟨v9, rfl, h9, b9⟩
  have T9 := hide (And.intro h9 (And.intro (T3.out.1.ext b9) (grown_trans T3.out.2.2 (Ext.gr b9 _))))
  clear h9 b9
  go_wp2
  go_ret
  exact ⟨_, rfl, T9.out.1, T9.out.2.1, T9.out.2.2⟩

set_option maxRecDepth 100000 in
set_option maxHeartbeats 1000000 in
theorem rep_none {w : World} {g : Nat} {s : ByteArray} {d : Nat} {v : Value} {a : List In} {u : List Nat} (h : PAt w g s u d) (hv : LsAt w v a) (n1 : u.head? ≠ some 42) (n2 : u.head? ≠ some 43) (n3 : u.head? ≠ some 63) : Calls Try.prog 30 #[.pointer (some ⟨g, 0, none⟩), v] w fun e w' => ∃ v', e = .returned v' ∧ LsAt w' v' (a) ∧ PAt w' g s (u) d ∧ w.grownBy w' (some g) := by
  have H0 := hide (And.intro h hv)
  have HN := hide (And.intro n1 (And.intro n2 n3))
  clear h hv n1 n2 n3
  go_enter Try.func30, Try.ntmps30
  go_wp2_with fail
  refine (take_no H0.out.1 HN.out.1).mono ?_
  rintro e_ w1 ⟨rfl, h_, g_⟩
  have T1 := hide (And.intro h_ (And.intro (LsAt.gr H0.out.2 H0.out.1 g_) (grown_trans (grown_refl w (some g)) g_)))
  clear h_ g_
  go_wp2_with fail
  refine (take_no T1.out.1 HN.out.2.1).mono ?_
  rintro e_ w2 ⟨rfl, h_, g_⟩
  have T2 := hide (And.intro h_ (And.intro (LsAt.gr T1.out.2.1 T1.out.1 g_) (grown_trans T1.out.2.2 g_)))
  clear h_ g_
  go_wp2_with fail
  refine (take_no T2.out.1 HN.out.2.2).mono ?_
  rintro e_ w3 ⟨rfl, h_, g_⟩
  have T3 := hide (And.intro h_ (And.intro (LsAt.gr T2.out.2.1 T2.out.1 g_) (grown_trans T2.out.2.2 g_)))
  clear h_ g_
  go_wp2
  go_ret
  exact ⟨_, rfl, T3.out.2.1, T3.out.1, T3.out.2.2⟩

theorem head_of {u : List Nat} {c : Nat} (h : u.head? = some c) : ∃ v, u = c :: v := by
  cases u with
  | nil => cases h
  | cons a v => simp at h; exact ⟨v, by rw [h]⟩
set_option maxRecDepth 100000 in
theorem repeated_any {w : World} {g : Nat} {s : ByteArray} {d : Nat} {v : Value} {a : List In} {u : List Nat} (h : PAt w g s u d) (hv : LsAt w v a) (hl : a.length ≤ 1000) : Calls Try.prog 30 #[.pointer (some ⟨g, 0, none⟩), v] w fun e w' => ∃ v', e = .returned v' ∧ LsAt w' v' (repA a u) ∧ PAt w' g s (repR u) d ∧ w.grownBy w' (some g) := by
  by_cases n1 : u.head? = some 42
  · obtain ⟨x, rfl⟩ := head_of n1
    exact rep_42 h hv hl
  by_cases n2 : u.head? = some 43
  · obtain ⟨x, rfl⟩ := head_of n2
    exact rep_43 h hv hl
  by_cases n3 : u.head? = some 63
  · obtain ⟨x, rfl⟩ := head_of n3
    exact rep_63 h hv hl
  rw [show repA a u = a by unfold repA; rw [if_neg n1, if_neg n2, if_neg n3], show repR u = u by unfold repR; rw [if_neg n1, if_neg n2, if_neg n3]]
  exact rep_none h hv n1 n2 n3

end Go.Proofs.Ytmjnedafcfolgaa
