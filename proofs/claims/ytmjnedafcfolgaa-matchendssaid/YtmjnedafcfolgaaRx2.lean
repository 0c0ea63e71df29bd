/- Bytes taken, bytes of classes, and ranges of them, as they are read. -/
import Derived.Test.YtmjnedafcfolgaaRx1
namespace Go.Proofs.Ytmjnedafcfolgaa
open Go.RowKit
set_option maxRecDepth 100000 in
theorem take_yes {w : World} {g : Nat} {s : ByteArray} {k : Nat} {t : List Nat} {d : Nat} (h : PAt w g s (k :: t) d) : Calls Try.prog 26 #[.pointer (some ⟨g, 0, none⟩), .int .u8 (k : Int)] w fun e w' => e = .returned (.bool true) ∧ PAt w' g s t d ∧ w.grownBy w' (some g) := by
  have H0 := hide h
  clear h
  go_enter Try.func26, Try.ntmps26
  go_wp2_with fail
  refine (next_cons H0.out).mono ?_
  rintro e_ w1 ⟨rfl, h1_, h2_⟩
  have H1 := hide (And.intro h1_ h2_)
  clear h1_ h2_
  obtain ⟨i, ib, dm, c0, c1, c2, f1, f2, SA, SD⟩ := PAt.cells H1.out.1
  have HS := hide (And.intro (SA.out _ _ rfl) (grown_trans H1.out.2 (grown_set w1 g 1 (.int .i64 ((i : Int) + 1)))))
  clear SA SD
  go_wp2
  go_ret
  exact ⟨rfl, HS.out.1, HS.out.2⟩

set_option maxRecDepth 100000 in
theorem take_no {w : World} {g : Nat} {s : ByteArray} {k : Nat} {r : List Nat} {d : Nat} (h : PAt w g s r d) (hk : r.head? ≠ some k) : Calls Try.prog 26 #[.pointer (some ⟨g, 0, none⟩), .int .u8 (k : Int)] w fun e w' => e = .returned (.bool false) ∧ PAt w' g s r d ∧ w.grownBy w' (some g) := by
  have H0 := hide h
  clear h
  cases r with
  | nil =>
    clear hk
    go_enter Try.func26, Try.ntmps26
    go_wp2_with fail
    refine (next_nil H0.out).mono ?_
    rintro e_ w1 ⟨rfl, h1_, h2_⟩
    have H1 := hide (And.intro h1_ h2_)
    clear h1_ h2_
    go_wp2
    go_ret
    exact ⟨rfl, H1.out.1, H1.out.2⟩

  | cons c t =>
    have hne : ((c : Int) == (k : Int)) = false := beq_eq_false_iff_ne.2 (by intro hc; apply hk; simp; omega)
    clear hk
    go_enter Try.func26, Try.ntmps26
    go_wp2_with fail
    refine (next_cons H0.out).mono ?_
    rintro e_ w1 ⟨rfl, h1_, h2_⟩
    have H1 := hide (And.intro h1_ h2_)
    clear h1_ h2_
    go_wp2
    go_ret
    exact ⟨rfl, H1.out.1, H1.out.2⟩

set_option maxRecDepth 100000 in
theorem isb_0 {w : World} {g : Nat} {s : ByteArray} {d : Nat} (h : PAt w g s [] d) : Calls Try.prog 50 #[.pointer (some ⟨g, 0, none⟩)] w fun e w' => e = .returned (.bool false) ∧ PAt w' g s [] d ∧ w.grownBy w' (some g) := by
  have H0 := hide h
  obtain ⟨i, u, c0, c1, hsl, hu⟩ := PAt.rest h
  have hsz := bl_len u
  rw [hu] at hsz
  have hd : decide ((1 : Int) < (u.size : Int)) = false := decide_eq_false (by simp at hsz; omega)
  clear hu hsz h
  go_enter Try.func50, Try.ntmps50
  go_wp2_with fail
  go_quiet (fail)
  have HA := hide (And.intro (H0.out.ext (drewN_below w nq)) (Ext.gr (drewN_below w nq) (some g)))
  generalize w.drewN nq = w2 at HA ⊢
  go_wp2
  go_ret
  exact ⟨rfl, HA.out.1, HA.out.2⟩

set_option maxRecDepth 100000 in
theorem isb_1 {w : World} {g : Nat} {s : ByteArray} {d : Nat} {a : Nat} (h : PAt w g s [a] d) : Calls Try.prog 50 #[.pointer (some ⟨g, 0, none⟩)] w fun e w' => e = .returned (.bool false) ∧ PAt w' g s [a] d ∧ w.grownBy w' (some g) := by
  have H0 := hide h
  obtain ⟨i, u, c0, c1, hsl, hu⟩ := PAt.rest h
  have hsz := bl_len u
  rw [hu] at hsz
  have hd : decide ((1 : Int) < (u.size : Int)) = false := decide_eq_false (by simp at hsz; omega)
  clear hu hsz h
  go_enter Try.func50, Try.ntmps50
  go_wp2_with fail
  go_quiet (fail)
  have HA := hide (And.intro (H0.out.ext (drewN_below w nq)) (Ext.gr (drewN_below w nq) (some g)))
  generalize w.drewN nq = w2 at HA ⊢
  go_wp2
  go_ret
  exact ⟨rfl, HA.out.1, HA.out.2⟩

set_option maxRecDepth 100000 in
theorem isb_2 {w : World} {g : Nat} {s : ByteArray} {d : Nat} {a b : Nat} {t : List Nat} (h : PAt w g s (a :: b :: t) d) (ha : a ≠ 45) : Calls Try.prog 50 #[.pointer (some ⟨g, 0, none⟩)] w fun e w' => e = .returned (.bool false) ∧ PAt w' g s (a :: b :: t) d ∧ w.grownBy w' (some g) := by
  have H0 := hide h
  obtain ⟨i, u, c0, c1, hsl, hu⟩ := PAt.rest h
  have hsz := bl_len u
  rw [hu] at hsz
  have hd : decide ((1 : Int) < (u.size : Int)) = true := decide_eq_true (by simp at hsz; omega)
  obtain ⟨k0, b0⟩ := bt_bl hu 0 a rfl
  obtain ⟨k1, b1⟩ := bt_bl hu 1 b rfl
  have i0 : ∀ W : World, (Instr.index 9 (.string u) (.int .i64 0)).run Try.prog W = .ok (.int .u8 (a : Int)) W := by have := str_ix u 0 k0; rw [b0] at this; exact this
  have i1 : ∀ W : World, (Instr.index 9 (.string u) (.int .i64 1)).run Try.prog W = .ok (.int .u8 (b : Int)) W := by have := str_ix u 1 k1; rw [b1] at this; exact this
  clear k0 b0 k1 b1
  have e0 : ((a : Int) == 45) = false := beq_eq_false_iff_ne.2 (by omega)
  clear ha
  clear hu hsz h
  go_enter Try.func50, Try.ntmps50
  go_wp2_with fail
  go_quiet (fail)
  have HA := hide (And.intro (H0.out.ext (drewN_below w nq)) (Ext.gr (drewN_below w nq) (some g)))
  generalize w.drewN nq = w2 at HA ⊢
  go_wp2
  go_ret
  exact ⟨rfl, HA.out.1, HA.out.2⟩

set_option maxRecDepth 100000 in
theorem isb_3 {w : World} {g : Nat} {s : ByteArray} {d : Nat} {a b : Nat} {t : List Nat} (h : PAt w g s (a :: b :: t) d) (ha : a = 45) (hb : b = 93) : Calls Try.prog 50 #[.pointer (some ⟨g, 0, none⟩)] w fun e w' => e = .returned (.bool false) ∧ PAt w' g s (a :: b :: t) d ∧ w.grownBy w' (some g) := by
  have H0 := hide h
  obtain ⟨i, u, c0, c1, hsl, hu⟩ := PAt.rest h
  have hsz := bl_len u
  rw [hu] at hsz
  subst ha hb
  have hd : decide ((1 : Int) < (u.size : Int)) = true := decide_eq_true (by simp at hsz; omega)
  obtain ⟨k0, b0⟩ := bt_bl hu 0 45 rfl
  obtain ⟨k1, b1⟩ := bt_bl hu 1 93 rfl
  have i0 : ∀ W : World, (Instr.index 9 (.string u) (.int .i64 0)).run Try.prog W = .ok (.int .u8 45) W := by have := str_ix u 0 k0; rw [b0] at this; exact this
  have i1 : ∀ W : World, (Instr.index 9 (.string u) (.int .i64 1)).run Try.prog W = .ok (.int .u8 93) W := by have := str_ix u 1 k1; rw [b1] at this; exact this
  clear k0 b0 k1 b1
  clear hu hsz h
  go_enter Try.func50, Try.ntmps50
  go_wp2_with fail
  go_quiet (fail)
  have HA := hide (And.intro (H0.out.ext (drewN_below w nq)) (Ext.gr (drewN_below w nq) (some g)))
  generalize w.drewN nq = w2 at HA ⊢
  go_wp2
  go_ret
  exact ⟨rfl, HA.out.1, HA.out.2⟩

set_option maxRecDepth 100000 in
theorem isb_4 {w : World} {g : Nat} {s : ByteArray} {d : Nat} {a b : Nat} {t : List Nat} (h : PAt w g s (a :: b :: t) d) (ha : a = 45) (hb : b ≠ 93) : Calls Try.prog 50 #[.pointer (some ⟨g, 0, none⟩)] w fun e w' => e = .returned (.bool true) ∧ PAt w' g s (a :: b :: t) d ∧ w.grownBy w' (some g) := by
  have H0 := hide h
  obtain ⟨i, u, c0, c1, hsl, hu⟩ := PAt.rest h
  have hsz := bl_len u
  rw [hu] at hsz
  subst ha
  have hd : decide ((1 : Int) < (u.size : Int)) = true := decide_eq_true (by simp at hsz; omega)
  obtain ⟨k0, b0⟩ := bt_bl hu 0 45 rfl
  obtain ⟨k1, b1⟩ := bt_bl hu 1 b rfl
  have i0 : ∀ W : World, (Instr.index 9 (.string u) (.int .i64 0)).run Try.prog W = .ok (.int .u8 45) W := by have := str_ix u 0 k0; rw [b0] at this; exact this
  have i1 : ∀ W : World, (Instr.index 9 (.string u) (.int .i64 1)).run Try.prog W = .ok (.int .u8 (b : Int)) W := by have := str_ix u 1 k1; rw [b1] at this; exact this
  clear k0 b0 k1 b1
  have e1 : ((b : Int) == 93) = false := beq_eq_false_iff_ne.2 (by omega)
  clear hb
  clear hu hsz h
  go_enter Try.func50, Try.ntmps50
  go_wp2_with fail
  go_quiet (fail)
  have HA := hide (And.intro (H0.out.ext (drewN_below w nq)) (Ext.gr (drewN_below w nq) (some g)))
  generalize w.drewN nq = w2 at HA ⊢
  go_wp2
  go_ret
  refine ⟨?_, HA.out.1, HA.out.2⟩
  show Ending.returned (.bool ((b : Int) != 93)) = _
  rw [bne, e1]
  rfl

set_option maxRecDepth 100000 in
theorem isb_any {w : World} {g : Nat} {s : ByteArray} {r : List Nat} {d : Nat} (h : PAt w g s r d) : Calls Try.prog 50 #[.pointer (some ⟨g, 0, none⟩)] w fun e w' => e = .returned (.bool (btw r)) ∧ PAt w' g s r d ∧ w.grownBy w' (some g) := by
  match r, h with
  | [], h => exact isb_0 h
  | [a], h => exact isb_1 h
  | a :: b :: t, h =>
    by_cases ha : a = 45
    · by_cases hb : b = 93
      · rw [show btw (a :: b :: t) = false by subst ha hb; rfl]; exact isb_3 h ha hb
      · rw [show btw (a :: b :: t) = true by subst ha; simp [btw, hb]]; exact isb_4 h ha hb
    · rw [show btw (a :: b :: t) = false by simp [btw, ha]]; exact isb_2 h ha

set_option maxRecDepth 100000 in
theorem mem_a {w : World} {g : Nat} {s : ByteArray} {d : Nat} (h : PAt w g s [] d) : Calls Try.prog 49 #[.pointer (some ⟨g, 0, none⟩)] w fun e w' => e = .returned (.tuple #[.int .u8 0, .bool false]) ∧ w.grownBy w' (some g) := by
  have H0 := hide h
  clear h
  go_enter Try.func49, Try.ntmps49
  go_wp2_with fail
  refine (next_nil H0.out).mono ?_
  rintro e_ w1 ⟨rfl, h1_, h2_⟩
  have H1 := hide (And.intro h1_ h2_)
  clear h1_ h2_
  go_wp2
  go_ret2
  exact ⟨rfl, H1.out.2⟩

set_option maxRecDepth 100000 in
theorem mem_b {w : World} {g : Nat} {s : ByteArray} {t : List Nat} {d : Nat} (h : PAt w g s (93 :: t) d) : Calls Try.prog 49 #[.pointer (some ⟨g, 0, none⟩)] w fun e w' => e = .returned (.tuple #[.int .u8 0, .bool false]) ∧ w.grownBy w' (some g) := by
  have H0 := hide h
  clear h
  go_enter Try.func49, Try.ntmps49
  go_wp2_with fail
  refine (next_cons H0.out).mono ?_
  rintro e_ w1 ⟨rfl, h1_, h2_⟩
  have H1 := hide (And.intro h1_ h2_)
  clear h1_ h2_
  go_wp2
  go_ret2
  exact ⟨rfl, H1.out.2⟩

set_option maxRecDepth 100000 in
theorem mem_c {w : World} {g : Nat} {s : ByteArray} {d : Nat} (h : PAt w g s [92] d) : Calls Try.prog 49 #[.pointer (some ⟨g, 0, none⟩)] w fun e w' => e = .returned (.tuple #[.int .u8 0, .bool false]) ∧ w.grownBy w' (some g) := by
  have H0 := hide h
  clear h
  go_enter Try.func49, Try.ntmps49
  go_wp2_with fail
  refine (next_cons H0.out).mono ?_
  rintro e_ w1 ⟨rfl, h1_, h2_⟩
  have H1 := hide (And.intro h1_ h2_)
  clear h1_ h2_
  obtain ⟨i, ib, dm, c0, c1, c2, f1, f2, SA, SD⟩ := PAt.cells H1.out.1
  have HS := hide (And.intro (SA.out _ _ rfl) (grown_trans H1.out.2 (grown_set w1 g 1 (.int .i64 ((i : Int) + 1)))))
  clear SA SD
  go_wp2_with fail
  refine (next_nil HS.out.1).mono ?_
  rintro e_ w3 ⟨rfl, h1_, h2_⟩
  have H3 := hide (And.intro h1_ h2_)
  clear h1_ h2_
  have HE := hide (grown_trans HS.out.2 H3.out.2)
  go_wp2
  go_ret2
  exact ⟨rfl, HE.out⟩

set_option maxRecDepth 100000 in
theorem mem_d {w : World} {g : Nat} {s : ByteArray} {a : Nat} {u : List Nat} {d : Nat} (h : PAt w g s (92 :: a :: u) d) : Calls Try.prog 49 #[.pointer (some ⟨g, 0, none⟩)] w fun e w' => e = .returned (.tuple #[.int .u8 (a : Int), .bool true]) ∧ PAt w' g s u d ∧ w.grownBy w' (some g) := by
  have H0 := hide h
  clear h
  go_enter Try.func49, Try.ntmps49
  go_wp2_with fail
  refine (next_cons H0.out).mono ?_
  rintro e_ w1 ⟨rfl, h1_, h2_⟩
  have H1 := hide (And.intro h1_ h2_)
  clear h1_ h2_
  obtain ⟨i, ib, dm, c0, c1, c2, f1, f2, SA, SD⟩ := PAt.cells H1.out.1
  have HS := hide (And.intro (SA.out _ _ rfl) (grown_trans H1.out.2 (grown_set w1 g 1 (.int .i64 ((i : Int) + 1)))))
  clear SA SD
  go_wp2_with fail
  refine (next_cons HS.out.1).mono ?_
  rintro e_ w3 ⟨rfl, h1_, h2_⟩
  have H3 := hide (And.intro h1_ h2_)
  clear h1_ h2_
  obtain ⟨ib, ibb, dmb, c0b, c1b, c2b, f1b, f2b, SAb, SDb⟩ := PAt.cells H3.out.1
  have HT := hide (And.intro (SAb.out _ _ rfl) (grown_trans (grown_trans HS.out.2 H3.out.2) (grown_set w3 g 1 (.int .i64 ((ib : Int) + 1)))))
  clear SAb SDb
  go_wp2
  go_ret2
  exact ⟨rfl, HT.out.1, HT.out.2⟩

set_option maxRecDepth 100000 in
theorem mem_e {w : World} {g : Nat} {s : ByteArray} {a : Nat} {u : List Nat} {d : Nat} (h : PAt w g s (a :: u) d) (n1 : a ≠ 93) (n2 : a ≠ 92) : Calls Try.prog 49 #[.pointer (some ⟨g, 0, none⟩)] w fun e w' => e = .returned (.tuple #[.int .u8 (a : Int), .bool true]) ∧ PAt w' g s u d ∧ w.grownBy w' (some g) := by
  have H0 := hide h
  clear h
  have e1 : ((a : Int) == 93) = false := beq_eq_false_iff_ne.2 (by omega)
  have e2 : ((a : Int) == 92) = false := beq_eq_false_iff_ne.2 (by omega)
  clear n1 n2
  go_enter Try.func49, Try.ntmps49
  go_wp2_with fail
  refine (next_cons H0.out).mono ?_
  rintro e_ w1 ⟨rfl, h1_, h2_⟩
  have H1 := hide (And.intro h1_ h2_)
  clear h1_ h2_
  obtain ⟨i, ib, dm, c0, c1, c2, f1, f2, SA, SD⟩ := PAt.cells H1.out.1
  have HS := hide (And.intro (SA.out _ _ rfl) (grown_trans H1.out.2 (grown_set w1 g 1 (.int .i64 ((i : Int) + 1)))))
  clear SA SD
  go_wp2
  go_ret2
  exact ⟨rfl, HS.out.1, HS.out.2⟩

set_option maxRecDepth 100000 in
theorem member_none {w : World} {g : Nat} {s : ByteArray} {r : List Nat} {d : Nat} (h : PAt w g s r d) (hm : memberS r = none) : Calls Try.prog 49 #[.pointer (some ⟨g, 0, none⟩)] w fun e w' => e = .returned (.tuple #[.int .u8 0, .bool false]) ∧ w.grownBy w' (some g) := by
  unfold memberS at hm
  split at hm
  · exact mem_a h
  · rename_i c t
    split at hm
    · rename_i hc; subst hc; exact mem_b h
    · split at hm
      · rename_i hc; subst hc
        split at hm
        · exact mem_c h
        · cases hm
      · cases hm

set_option maxRecDepth 100000 in
theorem member_some {w : World} {g : Nat} {s : ByteArray} {r t : List Nat} {c d : Nat} (h : PAt w g s r d) (hm : memberS r = some (c, t)) : Calls Try.prog 49 #[.pointer (some ⟨g, 0, none⟩)] w fun e w' => e = .returned (.tuple #[.int .u8 (c : Int), .bool true]) ∧ PAt w' g s t d ∧ w.grownBy w' (some g) := by
  unfold memberS at hm
  split at hm
  · cases hm
  · rename_i c1 t1
    split at hm
    · cases hm
    · rename_i n1
      split at hm
      · rename_i hc; subst hc
        split at hm
        · cases hm
        · injection hm with hm; injection hm with e1 e2; subst e1 e2; exact mem_d h
      · rename_i n2
        injection hm with hm; injection hm with e1 e2; subst e1 e2; exact mem_e h n1 n2

set_option maxRecDepth 100000 in
theorem spn_a {w : World} {g : Nat} {s : ByteArray} {r : List Nat} {d : Nat} (h : PAt w g s r d) (hm : memberS r = none) : Calls Try.prog 47 #[.pointer (some ⟨g, 0, none⟩)] w fun e w' => ∃ x y : Int, e = .returned (.tuple #[.int .u8 x, .int .u8 y, .bool false]) ∧ w.grownBy w' (some g) := by
  have H0 := hide (And.intro h hm)
  clear h hm
  go_enter Try.func47, Try.ntmps47
  go_wp2_with fail
  refine (member_none H0.out.1 H0.out.2).mono ?_
  rintro e_ w1 ⟨rfl, h2_⟩
  have H1 := hide h2_
  clear h2_
  go_wp2
  go_ret3
  exact ⟨_, _, rfl, H1.out⟩

set_option maxRecDepth 100000 in
theorem spn_b {w : World} {g : Nat} {s : ByteArray} {r t : List Nat} {a d : Nat} (h : PAt w g s r d) (hm : memberS r = some (a, t)) (hb : btw t = false) : Calls Try.prog 47 #[.pointer (some ⟨g, 0, none⟩)] w fun e w' => e = .returned (.tuple #[.int .u8 (a : Int), .int .u8 (a : Int), .bool true]) ∧ PAt w' g s t d ∧ w.grownBy w' (some g) := by
  have H0 := hide (And.intro h hm)
  clear h hm
  go_enter Try.func47, Try.ntmps47
  go_wp2_with fail
  refine (member_some H0.out.1 H0.out.2).mono ?_
  rintro e_ w1 ⟨rfl, h1_, h2_⟩
  have H1 := hide (And.intro h1_ h2_)
  clear h1_ h2_
  go_wp2_with fail
  refine (isb_any H1.out.1).mono ?_
  rintro e_ w2 ⟨rfl, h1_, h2_⟩
  have H2 := hide (And.intro h1_ h2_)
  clear h1_ h2_
  have HE := hide (And.intro H2.out.1 (grown_trans H1.out.2 H2.out.2))
  rw [hb]
  clear hb
  go_wp2
  go_ret3
  exact ⟨rfl, HE.out.1, HE.out.2⟩

set_option maxRecDepth 100000 in
theorem spn_c {w : World} {g : Nat} {s : ByteArray} {r t : List Nat} {a x d : Nat} (h : PAt w g s r d) (hm : memberS r = some (a, x :: t)) (hb : btw (x :: t) = true) (hn : memberS t = none) : Calls Try.prog 47 #[.pointer (some ⟨g, 0, none⟩)] w fun e w' => ∃ x y : Int, e = .returned (.tuple #[.int .u8 x, .int .u8 y, .bool false]) ∧ w.grownBy w' (some g) := by
  have H0 := hide (And.intro h (And.intro hm hn))
  clear h hm hn
  go_enter Try.func47, Try.ntmps47
  go_wp2_with fail
  refine (member_some H0.out.1 H0.out.2.1).mono ?_
  rintro e_ w1 ⟨rfl, h1_, h2_⟩
  have H1 := hide (And.intro h1_ h2_)
  clear h1_ h2_
  go_wp2_with fail
  refine (isb_any H1.out.1).mono ?_
  rintro e_ w2 ⟨rfl, h1_, h2_⟩
  have H2 := hide (And.intro h1_ h2_)
  clear h1_ h2_
  rw [hb]
  clear hb
  obtain ⟨i, ib, dm, c0, c1, c2, f1, f2, SA, SD⟩ := PAt.cells H2.out.1
  have HS := hide (And.intro (SA.out _ _ rfl) (grown_trans (grown_trans H1.out.2 H2.out.2) (grown_set w2 g 1 (.int .i64 ((i : Int) + 1)))))
  clear SA SD
  go_wp2_with fail
  refine (member_none HS.out.1 H0.out.2.2).mono ?_
  rintro e_ w3 ⟨rfl, h2_⟩
  have H3 := hide h2_
  clear h2_
  have HE := hide (grown_trans HS.out.2 H3.out)
  go_wp2
  go_ret3
  exact ⟨_, _, rfl, HE.out⟩

set_option maxRecDepth 100000 in
theorem spn_d {w : World} {g : Nat} {s : ByteArray} {r t u : List Nat} {a b x d : Nat} (h : PAt w g s r d) (hm : memberS r = some (a, x :: t)) (hb : btw (x :: t) = true) (hn : memberS t = some (b, u)) (hc : a ≤ b) : Calls Try.prog 47 #[.pointer (some ⟨g, 0, none⟩)] w fun e w' => e = .returned (.tuple #[.int .u8 (a : Int), .int .u8 (b : Int), .bool true]) ∧ PAt w' g s u d ∧ w.grownBy w' (some g) := by
  have H0 := hide (And.intro h (And.intro hm hn))
  clear h hm hn
  have hd : decide (a ≤ b) = true := decide_eq_true (by omega)
  clear hc
  go_enter Try.func47, Try.ntmps47
  go_wp2_with fail
  refine (member_some H0.out.1 H0.out.2.1).mono ?_
  rintro e_ w1 ⟨rfl, h1_, h2_⟩
  have H1 := hide (And.intro h1_ h2_)
  clear h1_ h2_
  go_wp2_with fail
  refine (isb_any H1.out.1).mono ?_
  rintro e_ w2 ⟨rfl, h1_, h2_⟩
  have H2 := hide (And.intro h1_ h2_)
  clear h1_ h2_
  rw [hb]
  clear hb
  obtain ⟨i, ib, dm, c0, c1, c2, f1, f2, SA, SD⟩ := PAt.cells H2.out.1
  have HS := hide (And.intro (SA.out _ _ rfl) (grown_trans (grown_trans H1.out.2 H2.out.2) (grown_set w2 g 1 (.int .i64 ((i : Int) + 1)))))
  clear SA SD
  go_wp2_with fail
  refine (member_some HS.out.1 H0.out.2.2).mono ?_
  rintro e_ w3 ⟨rfl, h1_, h2_⟩
  have H3 := hide (And.intro h1_ h2_)
  clear h1_ h2_
  have HE := hide (And.intro H3.out.1 (grown_trans HS.out.2 H3.out.2))
  go_wp2
  go_ret3
  exact ⟨rfl, HE.out.1, HE.out.2⟩

set_option maxRecDepth 100000 in
theorem spn_e {w : World} {g : Nat} {s : ByteArray} {r t u : List Nat} {a b x d : Nat} (h : PAt w g s r d) (hm : memberS r = some (a, x :: t)) (hb : btw (x :: t) = true) (hn : memberS t = some (b, u)) (hc : ¬ a ≤ b) : Calls Try.prog 47 #[.pointer (some ⟨g, 0, none⟩)] w fun e w' => ∃ x y : Int, e = .returned (.tuple #[.int .u8 x, .int .u8 y, .bool false]) ∧ w.grownBy w' (some g) := by
  have H0 := hide (And.intro h (And.intro hm hn))
  clear h hm hn
  have hd : decide (a ≤ b) = false := decide_eq_false (by omega)
  clear hc
  go_enter Try.func47, Try.ntmps47
  go_wp2_with fail
  refine (member_some H0.out.1 H0.out.2.1).mono ?_
  rintro e_ w1 ⟨rfl, h1_, h2_⟩
  have H1 := hide (And.intro h1_ h2_)
  clear h1_ h2_
  go_wp2_with fail
  refine (isb_any H1.out.1).mono ?_
  rintro e_ w2 ⟨rfl, h1_, h2_⟩
  have H2 := hide (And.intro h1_ h2_)
  clear h1_ h2_
  rw [hb]
  clear hb
  obtain ⟨i, ib, dm, c0, c1, c2, f1, f2, SA, SD⟩ := PAt.cells H2.out.1
  have HS := hide (And.intro (SA.out _ _ rfl) (grown_trans (grown_trans H1.out.2 H2.out.2) (grown_set w2 g 1 (.int .i64 ((i : Int) + 1)))))
  clear SA SD
  go_wp2_with fail
  refine (member_some HS.out.1 H0.out.2.2).mono ?_
  rintro e_ w3 ⟨rfl, h1_, h2_⟩
  have H3 := hide (And.intro h1_ h2_)
  clear h1_ h2_
  have HE := hide (And.intro H3.out.1 (grown_trans HS.out.2 H3.out.2))
  go_wp2
  go_ret3
  exact ⟨_, _, rfl, HE.out.2⟩

set_option maxRecDepth 100000 in
theorem btw_cons {t : List Nat} (h : btw t = true) : ∃ x u, t = x :: u := by
  cases t with
  | nil => cases h
  | cons x u => exact ⟨x, u, rfl⟩

set_option maxRecDepth 100000 in
theorem span_none {w : World} {g : Nat} {s : ByteArray} {r : List Nat} {d : Nat} (h : PAt w g s r d) (hm : spanS r = none) : Calls Try.prog 47 #[.pointer (some ⟨g, 0, none⟩)] w fun e w' => ∃ x y : Int, e = .returned (.tuple #[.int .u8 x, .int .u8 y, .bool false]) ∧ w.grownBy w' (some g) := by
  unfold spanS at hm
  split at hm
  · rename_i h1; exact spn_a h h1
  · rename_i lo t h1
    split at hm
    · rename_i hb
      obtain ⟨x, v, rfl⟩ := btw_cons hb
      split at hm
      · rename_i h2; exact spn_c h h1 hb h2
      · rename_i hi u h2
        split at hm
        · cases hm
        · rename_i hc; exact spn_e h h1 hb h2 hc
    · cases hm

set_option maxRecDepth 100000 in
theorem span_some {w : World} {g : Nat} {s : ByteArray} {r u : List Nat} {a b d : Nat} (h : PAt w g s r d) (hm : spanS r = some (a, b, u)) : Calls Try.prog 47 #[.pointer (some ⟨g, 0, none⟩)] w fun e w' => e = .returned (.tuple #[.int .u8 (a : Int), .int .u8 (b : Int), .bool true]) ∧ PAt w' g s u d ∧ w.grownBy w' (some g) := by
  unfold spanS at hm
  split at hm
  · cases hm
  · rename_i lo t h1
    split at hm
    · rename_i hb
      obtain ⟨x, v, rfl⟩ := btw_cons hb
      split at hm
      · cases hm
      · rename_i hi u1 h2
        split at hm
        · rename_i hc
          injection hm with hm; injection hm with e1 hm; injection hm with e2 e3; subst e1 e2 e3
          exact spn_d h h1 hb h2 hc
        · cases hm
    · rename_i hb
      injection hm with hm; injection hm with e1 hm; injection hm with e2 e3; subst e1 e2 e3
      exact spn_b h h1 (by simpa using hb)


end Go.Proofs.Ytmjnedafcfolgaa
