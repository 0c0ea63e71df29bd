/- Texts that fit a pattern, whole or in part: the program's calls Whole and Find. -/
import Derived.Test.YtmjnedafcfolgaaMs6
namespace Go.Proofs.Ytmjnedafcfolgaa
open Go.RowKit
/-- What a call that asks whether a text fits answers. -/
def FtA (X : List In → Prop) (w : World) (R : Rd (List In)) (e : Ending) (w' : World) : Prop :=
  match R with
  | .ok l _ => (∃ b : Bool, e = .returned (.tuple #[.bool b, .int .i64 0]) ∧ (b = true ↔ X l)) ∧ Below w.heap.size w w'
  | .bad n => (e = .returned (.tuple #[.bool false, .int .i64 (n : Int)]) ∧ (n = 1 ∨ n = 3 ∨ n = 4)) ∧ Below w.heap.size w w'
/-- A pattern's steps without the last one, or the error. -/
def mR (q s : ByteArray) : Rd (List In) := if 256 < s.size then .bad 1 else match comp (bl q) with | .ok l _ => .ok l.dropLast [] | .bad n => .bad n
theorem mR_long {q s : ByteArray} (h : 256 < s.size) : mR q s = .bad 1 := by unfold mR; rw [if_pos h]
theorem mR_bad {q s : ByteArray} {n : Nat} (h : ¬ 256 < s.size) (hR : comp (bl q) = .bad n) : mR q s = .bad n := by unfold mR; rw [if_neg h, hR]
theorem mR_ok {q s : ByteArray} {l st : List In} {u : List Nat} (h : ¬ 256 < s.size) (hR : comp (bl q) = .ok l u) (hp : Pg l st) : mR q s = .ok st [] := by
  unfold mR; rw [if_neg h, hR]; simp only []; rw [hp.1, List.dropLast_concat]
theorem err_ne3 {e : Nat} (h : e = 1 ∨ e = 3 ∨ e = 4) : ((e : Int) != 0) = true := by rcases h with rfl | rfl | rfl <;> rfl
theorem comp_sm {r t : List Nat} {l : List In} (h : comp r = .ok l t) : Sm l := by
  unfold comp at h
  split at h
  · cases h
  · cases hR : patF 21 0 r with
    | bad e => rw [hR] at h; cases h
    | ok x u =>
      rw [hR] at h
      simp only [] at h
      split at h
      · injection h with h1 h2
        subst h1
        exact (pat_sm _ _ _ _ _ hR).app (Sm.step 6)
      · cases h
theorem From.turn {B r : Nat} {x y : Sb} (h : From B r x y) : From B r y x := ⟨h.1, h.2.2, h.2.1⟩
theorem From.all {B r : Nat} {x y : Sb} (h : From B r x y) : ∀ z ∈ r :: (x.all ++ y.all), B ≤ z := by
  intro z hz
  rcases List.mem_cons.1 hz with rfl | hz
  · exact h.1
  · rcases List.mem_append.1 hz with hz | hz
    · exact h.2.1 z hz
    · exact h.2.2 z hz
theorem Kp.chain {S : List Nat} {W a b : World} (h : Below W.heap.size W a) (k : Kp S a b) (hS : ∀ z ∈ S, W.heap.size ≤ z) : Below W.heap.size W b := h.trans (k.below h.size hS)
theorem EC.nil (l : List In) (n p : Nat) : EC l n p [] := fun i h => by cases h
/-- What stands while a whole text is read. -/
def WhX (W w : World) (r : Nat) (s : ByteArray) (l : List In) (St : Nat → Prop) (p : Nat) : Prop :=
  ∃ g cap x y L M, RnAt w r g cap s l p x y L M ∧ All l (bl s) St p L ∧ From W.heap.size r x y ∧ Below W.heap.size W w
set_option maxRecDepth 100000 in
set_option maxHeartbeats 2000000 in
theorem whole_bad (q s : ByteArray) {w : World} {X : List In → Prop} {n : Nat} (hn : Calls Try.prog 10 #[.string q, .string s] w (NrA w s (.bad n))) : Calls Try.prog 8 #[.string q, .string s] w (FtA X w (.bad n)) := by
  have HC := hide hn
  clear hn
  go_enter Try.func8, Try.ntmps8
  go_wp2_with fail
  refine HC.out.mono ?_
  rintro e_ w1 ⟨⟨rfl, he⟩, b1⟩
  have hne := err_ne3 he
  have HE := hide (And.intro he b1)
  clear he b1
  go_wp2
  go_ret2
  exact ⟨⟨rfl, HE.out.1⟩, HE.out.2⟩
set_option maxRecDepth 100000 in
set_option maxHeartbeats 2000000 in
theorem find_bad (q s : ByteArray) {w : World} {X : List In → Prop} {n : Nat} (hn : Calls Try.prog 10 #[.string q, .string s] w (NrA w s (.bad n))) : Calls Try.prog 9 #[.string q, .string s] w (FtA X w (.bad n)) := by
  have HC := hide hn
  clear hn
  go_enter Try.func9, Try.ntmps9
  go_wp2_with fail
  refine HC.out.mono ?_
  rintro e_ w1 ⟨⟨rfl, he⟩, b1⟩
  have hne := err_ne3 he
  have HE := hide (And.intro he b1)
  clear he b1
  go_wp2
  go_ret2
  exact ⟨⟨rfl, HE.out.1⟩, HE.out.2⟩
set_option maxRecDepth 100000 in
set_option maxHeartbeats 2000000 in
theorem whole_ok (q s : ByteArray) {w : World} {l st : List In} {u : List Nat} (hn : Calls Try.prog 10 #[.string q, .string s] w (NrA w s (.ok l u))) (hp : Pg l st) (hs : Sm l) : Calls Try.prog 8 #[.string q, .string s] w (FtA (fun st => Fr st (bl s) 0 s.size) w (.ok st [])) := by
  have HC := hide hn
  have HP := hide (And.intro hp hs)
  clear hn hp hs
  go_enter Try.func8, Try.ntmps8
  go_wp2_with fail
  refine HC.out.mono ?_
  rintro e_ w1 ⟨⟨r, g, cap, x, y, rfl, h1, f1⟩, b1⟩
  have H1 := hide (And.intro h1 (And.intro f1 b1))
  clear h1 f1 b1 HC
  go_wp2_with fail
  refine (begin_any HP.out.1 H1.out.1 (EC.nil l s.size 0)).mono ?_
  rintro e_ w2 ⟨rfl, L, h2, e2, k2⟩
  have H2 : Hid (WhX w w2 r s l (fun p => p = 0) 0) := hide ⟨g, cap, x, y, L, [], h2, (Most.zero l (bl s) (fun p => p = 0)).begin HP.out.1 rfl (by rw [bl_len]; exact e2), H1.out.2.1, H1.out.2.2.trans (k2.below H1.out.2.2.size H1.out.2.1.2.1)⟩
  clear h2 e2 k2 H1
  go_wp2
  go_loopg [] (s.size + 1) (fun k wr => ∃ p : Nat, Hid (p + k = s.size + 1) ∧ Hid (WhX w wr r s l (fun p => p = 0) p))
  case atStart => exact ⟨0, by unfold Hid; omega, H2⟩
  case round =>
    clear H2
    obtain ⟨p, HK, HX⟩ := hrel
    obtain ⟨g, cap, x, y, L, M, hX⟩ := HX.out
    have HR := hide hX
    clear hX HX
    by_cases hlt : p < s.size
    · go_wp2_with fail
      refine (read_on HP.out.1 HP.out.2 HR.out.1 hlt).mono ?_
      rintro e_ w3 ⟨rfl, L2, h3, a3, k3⟩
      have H3 : Hid (WhX w w3 r s l (fun p => p = 0) (p + 1)) := hide ⟨g, cap, y, x, L2, L, h3, (a3.most HP.out.1 (Nat.le_refl _) HR.out.2.1).all HP.out.1 (by omega), HR.out.2.2.1.turn, k3.chain HR.out.2.2.2 HR.out.2.2.1.all⟩
      clear h3 a3 k3
      obtain ⟨k, hk⟩ : ∃ k, gk = k + 1 := ⟨gk - 1, by have := HK.out; omega⟩
      have HK2 : Hid (p + 1 + k = s.size + 1 ∧ k < gk) := hide ⟨by have := HK.out; omega, by omega⟩
      clear hk HK
      go_wp2
      go_roundg k
      case measure => exact HK2.out.2
      case rel => exact ⟨p + 1, HK2.out.1, H3⟩
    · have hp : p = s.size := by have := HR.out.1.2.2.2.2.2; omega
      have HE := hide hp
      clear hlt hp
      go_wp2_with fail
      refine (read_end HR.out.1 HE.out).mono ?_
      rintro e_ w3 ⟨rfl, h3, k3⟩
      have H3 := hide (And.intro h3 (k3.chain HR.out.2.2.2 (by simp)))
      clear h3 k3
      go_wp2_with fail
      refine (isDone_any HP.out.1 H3.out.1).mono ?_
      rintro e_ w4 ⟨rfl, h4, k4⟩
      have H4 : Hid ((decide (st.length ∈ L) = true ↔ Fr st (bl s) 0 s.size) ∧ Below w.heap.size w w4) := by
        refine hide ⟨?_, k4.chain H3.out.2 (by simp)⟩
        rw [decide_eq_true_iff, all_done HP.out.1 HR.out.2.1, HE.out]
        constructor
        · rintro ⟨p0, rfl, h⟩; exact h
        · intro h; exact ⟨0, rfl, h⟩
      clear h4 k4
      generalize decide (st.length ∈ L) = b at *
      go_wp2
      go_ret2
      exact ⟨⟨b, rfl, H4.out.1⟩, H4.out.2⟩
/-- What stands while a part is looked for. -/
def FiX (W w : World) (r : Nat) (s : ByteArray) (l st : List In) (p : Nat) : Prop :=
  ∃ g cap x y L M, RnAt w r g cap s l p x y L M ∧ Most l (bl s) (fun _ => True) p L ∧ From W.heap.size r x y ∧ Below W.heap.size W w ∧ ∀ p1, p1 < p → ∀ p0, ¬ Fr st (bl s) p0 p1
set_option maxRecDepth 100000 in
set_option maxHeartbeats 2000000 in
theorem find_ok (q s : ByteArray) {w : World} {l st : List In} {u : List Nat} (hn : Calls Try.prog 10 #[.string q, .string s] w (NrA w s (.ok l u))) (hp : Pg l st) (hs : Sm l) : Calls Try.prog 9 #[.string q, .string s] w (FtA (fun st => ∃ p0 p1, p1 ≤ s.size ∧ Fr st (bl s) p0 p1) w (.ok st [])) := by
  have HC := hide hn
  have HP := hide (And.intro hp hs)
  clear hn hp hs
  go_enter Try.func9, Try.ntmps9
  go_wp2_with fail
  refine HC.out.mono ?_
  rintro e_ w1 ⟨⟨r, g, cap, x, y, rfl, h1, f1⟩, b1⟩
  have H1 : Hid (FiX w w1 r s l st 0) := hide ⟨g, cap, x, y, [], [], h1, Most.zero _ _ _, f1, b1, fun p1 h => absurd h (by omega)⟩
  clear h1 f1 b1 HC
  go_wp2
  go_loopg [] (s.size + 1) (fun k wr => ∃ p : Nat, Hid (p + k = s.size + 1) ∧ Hid (FiX w wr r s l st p))
  case atStart => exact ⟨0, by unfold Hid; omega, H1⟩
  case round =>
    clear H1
    obtain ⟨p, HK, HX⟩ := hrel
    obtain ⟨g, cap, x, y, L, M, hX⟩ := HX.out
    have HR := hide hX
    clear hX HX
    go_wp2_with fail
    refine (begin_any HP.out.1 HR.out.1 (by have := HR.out.2.1.2.1; rw [bl_len] at this; exact this)).mono ?_
    rintro e_ w2 ⟨rfl, L2, h2, e2, k2⟩
    have H2 := hide (And.intro h2 (And.intro (HR.out.2.1.begin HP.out.1 trivial (by rw [bl_len]; exact e2)) (k2.chain HR.out.2.2.2.1 HR.out.2.2.1.2.1)))
    clear h2 e2 k2
    go_wp2_with fail
    refine (isDone_any HP.out.1 H2.out.1).mono ?_
    rintro e_ w3 ⟨rfl, h3, k3⟩
    have H3 := hide (And.intro h3 (k3.chain H2.out.2.2 (by simp)))
    clear h3 k3
    by_cases hm : st.length ∈ L2
    · have hd : decide (st.length ∈ L2) = true := decide_eq_true hm
      have HF := hide ((all_done HP.out.1 H2.out.2.1).1 hm)
      rw [hd]
      clear hm hd
      go_wp2
      go_ret2
      refine ⟨⟨true, rfl, ?_⟩, H3.out.2⟩
      obtain ⟨p0, _, h0⟩ := HF.out
      exact ⟨fun _ => ⟨p0, p, HR.out.1.2.2.2.2.2, h0⟩, fun _ => rfl⟩
    · have hd : decide (st.length ∈ L2) = false := decide_eq_false hm
      have HF : Hid (∀ p0, ¬ Fr st (bl s) p0 p) := hide (fun p0 h => hm ((all_done HP.out.1 H2.out.2.1).2 ⟨p0, trivial, h⟩))
      rw [hd]
      clear hm hd
      by_cases hlt : p < s.size
      · go_wp2_with fail
        refine (read_on HP.out.1 HP.out.2 H3.out.1 hlt).mono ?_
        rintro e_ w4 ⟨rfl, L3, h4, a4, k4⟩
        have H4 : Hid (FiX w w4 r s l st (p + 1)) := hide ⟨g, cap, y, x, L3, L2, h4, a4.most HP.out.1 (Nat.le_refl _) H2.out.2.1, HR.out.2.2.1.turn, k4.chain H3.out.2 HR.out.2.2.1.all, fun p1 h p0 => by
          by_cases e : p1 = p
          · subst e; exact HF.out p0
          · exact HR.out.2.2.2.2 p1 (by omega) p0⟩
        clear h4 a4 k4
        obtain ⟨k, hk⟩ : ∃ k, gk = k + 1 := ⟨gk - 1, by have := HK.out; omega⟩
        have HK2 : Hid (p + 1 + k = s.size + 1 ∧ k < gk) := hide ⟨by have := HK.out; omega, by omega⟩
        clear hk HK
        go_wp2
        go_roundg k
        case measure => exact HK2.out.2
        case rel => exact ⟨p + 1, HK2.out.1, H4⟩
      · have hp : p = s.size := by have := HR.out.1.2.2.2.2.2; omega
        have HE := hide hp
        clear hlt hp
        go_wp2_with fail
        refine (read_end H3.out.1 HE.out).mono ?_
        rintro e_ w4 ⟨rfl, h4, k4⟩
        have H4 := hide (k4.chain H3.out.2 (by simp))
        clear h4 k4
        go_wp2
        go_ret2
        refine ⟨⟨false, rfl, ?_⟩, H4.out⟩
        refine ⟨fun h => (by cases h), ?_⟩
        rintro ⟨p0, p1, h1, h2⟩
        exfalso
        by_cases e : p1 = p
        · subst e; exact HF.out p0 h2
        · exact HR.out.2.2.2.2 p1 (by have := HE.out; omega) p0 h2
theorem Whole_any (q s : ByteArray) {w : World} : Calls Try.prog 8 #[.string q, .string s] w (FtA (fun st => Fr st (bl s) 0 s.size) w (mR q s)) := by
  by_cases h : 256 < s.size
  · rw [mR_long h]; exact whole_bad q s (newRun_long q s h)
  · cases hR : comp (bl q) with
    | bad n => rw [mR_bad h hR]; exact whole_bad q s (newRun_bad q s h hR)
    | ok l u =>
      obtain ⟨st, hp, _⟩ := comp_pg hR
      rw [mR_ok h hR hp]
      exact whole_ok q s (newRun_ok q s h hR hp) hp (comp_sm hR)
theorem Find_any (q s : ByteArray) {w : World} : Calls Try.prog 9 #[.string q, .string s] w (FtA (fun st => ∃ p0 p1, p1 ≤ s.size ∧ Fr st (bl s) p0 p1) w (mR q s)) := by
  by_cases h : 256 < s.size
  · rw [mR_long h]; exact find_bad q s (newRun_long q s h)
  · cases hR : comp (bl q) with
    | bad n => rw [mR_bad h hR]; exact find_bad q s (newRun_bad q s h hR)
    | ok l u =>
      obtain ⟨st, hp, _⟩ := comp_pg hR
      rw [mR_ok h hR hp]
      exact find_ok q s (newRun_ok q s h hR hp) hp (comp_sm hR)
end Go.Proofs.Ytmjnedafcfolgaa
