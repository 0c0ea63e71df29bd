/- Texts held against a shape: the program's call, and the page's. -/
import Derived.Test.YteicdlomjhjiiaaDoorDt4
namespace Go.Proofs.YteicdlomjhjiiaaDoor
open Go.RowKit
/-- Does a byte fit the shape's byte? -/
def okc (p c : Nat) : Bool := if p = 48 then dig c else decide (c = p)
/-- Does a text fit a shape? -/
def fitB (s p : ByteArray) : Bool := decide (s.size = p.size) && (List.range s.size).all fun i => okc (bt p i) (bt s i)
theorem dN (w : World) (m n : Nat) : ∃ k, (w.drewN m).drewN n = w.drewN k := ⟨_, World.drewN_drewN _ _ _⟩
theorem fit_next {s p : ByteArray} {k : Nat} (h : ∀ j, j < k → okc (bt p j) (bt s j) = true) (h2 : okc (bt p k) (bt s k) = true) : ∀ j, j < k + 1 → okc (bt p j) (bt s j) = true := fun j hj => by
  by_cases e : j = k
  · rw [e]; exact h2
  · exact h j (by omega)
theorem fit_no {s p : ByteArray} {k : Nat} (hk : k < s.size) (h : okc (bt p k) (bt s k) = false) : fitB s p = false := by
  have : ((List.range s.size).all fun i => okc (bt p i) (bt s i)) = false := by
    rw [List.all_eq_false]
    exact ⟨k, List.mem_range.2 hk, by rw [h]; decide⟩
  unfold fitB
  rw [this, Bool.and_false]
theorem fit_yes {s p : ByteArray} (h1 : s.size = p.size) (h5 : ∀ j, j < s.size → okc (bt p j) (bt s j) = true) : fitB s p = true := by
  have : ((List.range s.size).all fun i => okc (bt p i) (bt s i)) = true := List.all_eq_true.2 fun i hi => h5 i (List.mem_range.1 hi)
  unfold fitB
  rw [this, Bool.and_true]
  exact decide_eq_true h1
set_option maxRecDepth 100000 in
set_option maxHeartbeats 2000000 in
theorem fits_any (s p : ByteArray) (hs : s.size ≤ 9223372036854775807) : Quiet 33 #[.string s, .string p] (.bool (fitB s p)) := by
  intro w
  obtain ⟨R, hR⟩ : ∃ R, fitB s p = R := ⟨_, rfl⟩
  rw [hR]
  by_cases h1 : s.size = p.size
  · have hixs : ∀ k, k < s.size → ∀ w_ : World, (Instr.index 9 (.string s) (.int .i64 (k : Int))).run Tryd.prog w_ = .ok (.int .u8 (bt s k : Int)) w_ := fun k hk w_ => str_ix s k hk w_
    have hixp : ∀ k, k < s.size → ∀ w_ : World, (Instr.index 9 (.string p) (.int .i64 (k : Int))).run Tryd.prog w_ = .ok (.int .u8 (bt p k : Int)) w_ := fun k hk w_ => str_ix p k (by omega) w_
    have HR := hide (And.intro hR (And.intro h1 (And.intro hixs hixp)))
    have hne : ((s.size : Int) == (p.size : Int)) = true := by rw [h1]; exact beq_self_eq_true _
    clear hR hixs hixp
    go_enter Tryd.func33, Tryd.ntmps33
    go_wp2
    clear hne
    go_loopw [13] (fun i wr => ∃ k : Nat, k ≤ s.size ∧ i = .int .i64 (k : Int) ∧ (∀ j, j < k → okc (bt p j) (bt s j) = true) ∧ ∃ m, wr = w.drewN m) (fun i _ => s.size - (intOf i).toNat)
    case atStart => exact ⟨0, Nat.zero_le _, rfl, fun j h => absurd h (Nat.not_lt_zero _), 0, rfl⟩
    case round =>
      obtain ⟨k, hk, rfl, hall, m, rfl⟩ := hrel
      by_cases hlt : k < s.size
      · have hk1 := HR.out.2.2.1 k hlt
        have hk2 := HR.out.2.2.2 k hlt
        have HF := hide (And.intro hall (And.intro (@fit_no s p k hlt) (@fit_next s p k hall)))
        have b1 := bt_lt s k
        clear hall
        have hd : decide ((k : Int) < (s.size : Int)) = true := decide_eq_true (by omega)
        generalize bt s k = c at *
        generalize bt p k = q at *
        have HG := hide (digit_any c b1)
        by_cases c1 : q = 48
        · by_cases c2 : 48 ≤ c
          · by_cases c3 : c ≤ 57
            · have HO := hide (show okc q c = true by unfold okc; rw [if_pos c1]; exact decide_eq_true ⟨c2, c3⟩)
              have e1 : ((q : Int) == 48) = true := by rw [c1]; rfl
              have e4 : ((q : Int) != 48) = false := by unfold bne; rw [e1]; rfl
              have hg : dig c = true := decide_eq_true ⟨c2, c3⟩
              go_wp2_with fail
              refine (HG.out _).mono ?_
              rintro e_ w_ ⟨rfl, hw_⟩
              replace hw_ := hw_.symm
              subst hw_
              rw [hg]
              go_wp2_with fail
              go_quiet (fail)
              go_wp2
              go_roundw
              case rel => exact ⟨k + 1, hlt, by go_num, HF.out.2.2 HO.out, by first | exact ⟨_, rfl⟩ | exact dN _ _ _⟩
              case measure => simp [intOf]; omega
            · have HO := hide (show okc q c = false by unfold okc; rw [if_pos c1]; exact decide_eq_false fun h => c3 h.2)
              have HV := hide (show R = false by rw [← HR.out.1]; exact HF.out.2.1 HO.out)
              have e1 : ((q : Int) == 48) = true := by rw [c1]; rfl
              have e4 : ((q : Int) != 48) = false := by unfold bne; rw [e1]; rfl
              have hg : dig c = false := decide_eq_false fun h => c3 h.2
              go_wp2_with fail
              refine (HG.out _).mono ?_
              rintro e_ w_ ⟨rfl, hw_⟩
              replace hw_ := hw_.symm
              subst hw_
              rw [hg]
              go_wp2
              go_ret
              exact ⟨by rw [HV.out]; rfl, by first | exact ⟨_, rfl⟩ | exact dN _ _ _⟩
          · have HO := hide (show okc q c = false by unfold okc; rw [if_pos c1]; exact decide_eq_false fun h => c2 h.1)
            have HV := hide (show R = false by rw [← HR.out.1]; exact HF.out.2.1 HO.out)
            have e1 : ((q : Int) == 48) = true := by rw [c1]; rfl
            have e4 : ((q : Int) != 48) = false := by unfold bne; rw [e1]; rfl
            have hg : dig c = false := decide_eq_false fun h => c2 h.1
            go_wp2_with fail
            refine (HG.out _).mono ?_
            rintro e_ w_ ⟨rfl, hw_⟩
            replace hw_ := hw_.symm
            subst hw_
            rw [hg]
            go_wp2
            go_ret
            exact ⟨by rw [HV.out]; rfl, by first | exact ⟨_, rfl⟩ | exact dN _ _ _⟩
        · by_cases c4 : c = q
          · have HO := hide (show okc q c = true by unfold okc; rw [if_neg c1]; exact decide_eq_true c4)
            have e1 : ((q : Int) == 48) = false := by rw [beq_eq_false_iff_ne]; omega
            have e4 : ((q : Int) != 48) = true := by unfold bne; rw [e1]; rfl
            have e2 : ((c : Int) == (q : Int)) = true := by rw [c4]; exact beq_self_eq_true _
            have e3 : ((q : Int) == (c : Int)) = true := by rw [c4]; exact beq_self_eq_true _
            have e5 : ((c : Int) != (q : Int)) = !((c : Int) == (q : Int)) := rfl
            have e6 : ((q : Int) != (c : Int)) = !((q : Int) == (c : Int)) := rfl
            rw [e2] at e5
            rw [e3] at e6
            go_wp2_with fail
            go_quiet (fail)
            go_wp2
            go_roundw
            case rel => exact ⟨k + 1, hlt, by go_num, HF.out.2.2 HO.out, by first | exact ⟨_, rfl⟩ | exact dN _ _ _⟩
            case measure => simp [intOf]; omega
          · have HO := hide (show okc q c = false by unfold okc; rw [if_neg c1]; exact decide_eq_false c4)
            have HV := hide (show R = false by rw [← HR.out.1]; exact HF.out.2.1 HO.out)
            have e1 : ((q : Int) == 48) = false := by rw [beq_eq_false_iff_ne]; omega
            have e4 : ((q : Int) != 48) = true := by unfold bne; rw [e1]; rfl
            have e2 : ((c : Int) == (q : Int)) = false := by rw [beq_eq_false_iff_ne]; omega
            have e3 : ((q : Int) == (c : Int)) = false := by rw [beq_eq_false_iff_ne]; omega
            have e5 : ((c : Int) != (q : Int)) = !((c : Int) == (q : Int)) := rfl
            have e6 : ((q : Int) != (c : Int)) = !((q : Int) == (c : Int)) := rfl
            rw [e2] at e5
            rw [e3] at e6
            go_wp2_with fail
            go_quiet (fail)
            go_wp2
            go_ret
            exact ⟨by rw [HV.out]; rfl, by first | exact ⟨_, rfl⟩ | exact dN _ _ _⟩
      · obtain rfl : k = s.size := by omega
        have HV := hide (show R = true by rw [← HR.out.1]; exact fit_yes HR.out.2.1 hall)
        clear hall
        go_wp2
        go_ret
        exact ⟨by rw [HV.out]; rfl, _, rfl⟩
  · have HV := hide (show R = false by rw [← hR]; unfold fitB; rw [decide_eq_false h1, Bool.false_and])
    clear hR
    have hne : ((s.size : Int) == (p.size : Int)) = false := by rw [beq_eq_false_iff_ne]; omega
    go_enter Tryd.func33, Tryd.ntmps33
    go_wp2
    go_ret
    exact ⟨by rw [HV.out]; rfl, 0, rfl⟩
set_option maxRecDepth 100000 in
set_option maxHeartbeats 2000000 in
theorem shaped_any (s p : ByteArray) (hs : s.size ≤ 9223372036854775807) : Quiet 22 #[.string s, .string p] (.bool (fitB s p)) := by
  intro w
  obtain ⟨R, hR⟩ : ∃ R, fitB s p = R := ⟨_, rfl⟩
  rw [hR]
  by_cases h1 : s.size = p.size
  · have hixs : ∀ k, k < s.size → ∀ w_ : World, (Instr.index 9 (.string s) (.int .i64 (k : Int))).run Tryd.prog w_ = .ok (.int .u8 (bt s k : Int)) w_ := fun k hk w_ => str_ix s k hk w_
    have hixp : ∀ k, k < s.size → ∀ w_ : World, (Instr.index 9 (.string p) (.int .i64 (k : Int))).run Tryd.prog w_ = .ok (.int .u8 (bt p k : Int)) w_ := fun k hk w_ => str_ix p k (by omega) w_
    have HR := hide (And.intro hR (And.intro h1 (And.intro hixs hixp)))
    have hne : ((s.size : Int) == (p.size : Int)) = true := by rw [h1]; exact beq_self_eq_true _
    clear hR hixs hixp
    go_enter Tryd.func22, Tryd.ntmps22
    go_wp2
    clear hne
    go_loopw [14] (fun i wr => ∃ k : Nat, k ≤ s.size ∧ i = .int .i64 (k : Int) ∧ (∀ j, j < k → okc (bt p j) (bt s j) = true) ∧ ∃ m, wr = w.drewN m) (fun i _ => s.size - (intOf i).toNat)
    case atStart => exact ⟨0, Nat.zero_le _, rfl, fun j h => absurd h (Nat.not_lt_zero _), 0, rfl⟩
    case round =>
      obtain ⟨k, hk, rfl, hall, m, rfl⟩ := hrel
      by_cases hlt : k < s.size
      · have hk1 := HR.out.2.2.1 k hlt
        have hk2 := HR.out.2.2.2 k hlt
        have HF := hide (And.intro hall (And.intro (@fit_no s p k hlt) (@fit_next s p k hall)))
        have b1 := bt_lt s k
        clear hall
        have hd : decide ((k : Int) < (s.size : Int)) = true := decide_eq_true (by omega)
        generalize bt s k = c at *
        generalize bt p k = q at *
        have HG := hide (digit_any c b1)
        by_cases c1 : q = 48
        · by_cases c2 : 48 ≤ c
          · by_cases c3 : c ≤ 57
            · have HO := hide (show okc q c = true by unfold okc; rw [if_pos c1]; exact decide_eq_true ⟨c2, c3⟩)
              have e1 : ((q : Int) == 48) = true := by rw [c1]; rfl
              have e4 : ((q : Int) != 48) = false := by unfold bne; rw [e1]; rfl
              have hg : dig c = true := decide_eq_true ⟨c2, c3⟩
              have g1 : decide ((48 : Int) ≤ (c : Int)) = true := decide_eq_true (by omega)
              have g2 : decide ((c : Int) ≤ 57) = true := decide_eq_true (by omega)
              go_wp2_with fail
              go_quiet (fail)
              go_wp2
              go_roundw
              case rel => exact ⟨k + 1, hlt, by go_num, HF.out.2.2 HO.out, by first | exact ⟨_, rfl⟩ | exact dN _ _ _⟩
              case measure => simp [intOf]; omega
            · have HO := hide (show okc q c = false by unfold okc; rw [if_pos c1]; exact decide_eq_false fun h => c3 h.2)
              have HV := hide (show R = false by rw [← HR.out.1]; exact HF.out.2.1 HO.out)
              have e1 : ((q : Int) == 48) = true := by rw [c1]; rfl
              have e4 : ((q : Int) != 48) = false := by unfold bne; rw [e1]; rfl
              have hg : dig c = false := decide_eq_false fun h => c3 h.2
              have g1 : decide ((48 : Int) ≤ (c : Int)) = true := decide_eq_true (by omega)
              have g2 : decide ((c : Int) ≤ 57) = false := decide_eq_false (by omega)
              go_wp2_with fail
              go_quiet (fail)
              go_wp2
              go_ret
              exact ⟨by rw [HV.out]; rfl, by first | exact ⟨_, rfl⟩ | exact dN _ _ _⟩
          · have HO := hide (show okc q c = false by unfold okc; rw [if_pos c1]; exact decide_eq_false fun h => c2 h.1)
            have HV := hide (show R = false by rw [← HR.out.1]; exact HF.out.2.1 HO.out)
            have e1 : ((q : Int) == 48) = true := by rw [c1]; rfl
            have e4 : ((q : Int) != 48) = false := by unfold bne; rw [e1]; rfl
            have hg : dig c = false := decide_eq_false fun h => c2 h.1
            have g1 : decide ((48 : Int) ≤ (c : Int)) = false := decide_eq_false (by omega)
            go_wp2_with fail
            go_quiet (fail)
            go_wp2
            go_ret
            exact ⟨by rw [HV.out]; rfl, by first | exact ⟨_, rfl⟩ | exact dN _ _ _⟩
        · by_cases c4 : c = q
          · have HO := hide (show okc q c = true by unfold okc; rw [if_neg c1]; exact decide_eq_true c4)
            have e1 : ((q : Int) == 48) = false := by rw [beq_eq_false_iff_ne]; omega
            have e4 : ((q : Int) != 48) = true := by unfold bne; rw [e1]; rfl
            have e2 : ((c : Int) == (q : Int)) = true := by rw [c4]; exact beq_self_eq_true _
            have e3 : ((q : Int) == (c : Int)) = true := by rw [c4]; exact beq_self_eq_true _
            have e5 : ((c : Int) != (q : Int)) = !((c : Int) == (q : Int)) := rfl
            have e6 : ((q : Int) != (c : Int)) = !((q : Int) == (c : Int)) := rfl
            rw [e2] at e5
            rw [e3] at e6
            by_cases c2 : 48 ≤ c
            · by_cases c3 : c ≤ 57
              · have g1 : decide ((48 : Int) ≤ (c : Int)) = true := decide_eq_true (by omega)
                have g2 : decide ((c : Int) ≤ 57) = true := decide_eq_true (by omega)
                go_wp2_with fail
                go_quiet (fail)
                go_wp2
                go_roundw
                case rel => exact ⟨k + 1, hlt, by go_num, HF.out.2.2 HO.out, by first | exact ⟨_, rfl⟩ | exact dN _ _ _⟩
                case measure => simp [intOf]; omega
              · have g1 : decide ((48 : Int) ≤ (c : Int)) = true := decide_eq_true (by omega)
                have g2 : decide ((c : Int) ≤ 57) = false := decide_eq_false (by omega)
                go_wp2_with fail
                go_quiet (fail)
                go_wp2
                go_roundw
                case rel => exact ⟨k + 1, hlt, by go_num, HF.out.2.2 HO.out, by first | exact ⟨_, rfl⟩ | exact dN _ _ _⟩
                case measure => simp [intOf]; omega
            · have g1 : decide ((48 : Int) ≤ (c : Int)) = false := decide_eq_false (by omega)
              go_wp2_with fail
              go_quiet (fail)
              go_wp2
              go_roundw
              case rel => exact ⟨k + 1, hlt, by go_num, HF.out.2.2 HO.out, by first | exact ⟨_, rfl⟩ | exact dN _ _ _⟩
              case measure => simp [intOf]; omega
          · have HO := hide (show okc q c = false by unfold okc; rw [if_neg c1]; exact decide_eq_false c4)
            have HV := hide (show R = false by rw [← HR.out.1]; exact HF.out.2.1 HO.out)
            have e1 : ((q : Int) == 48) = false := by rw [beq_eq_false_iff_ne]; omega
            have e4 : ((q : Int) != 48) = true := by unfold bne; rw [e1]; rfl
            have e2 : ((c : Int) == (q : Int)) = false := by rw [beq_eq_false_iff_ne]; omega
            have e3 : ((q : Int) == (c : Int)) = false := by rw [beq_eq_false_iff_ne]; omega
            have e5 : ((c : Int) != (q : Int)) = !((c : Int) == (q : Int)) := rfl
            have e6 : ((q : Int) != (c : Int)) = !((q : Int) == (c : Int)) := rfl
            rw [e2] at e5
            rw [e3] at e6
            by_cases c2 : 48 ≤ c
            · by_cases c3 : c ≤ 57
              · have g1 : decide ((48 : Int) ≤ (c : Int)) = true := decide_eq_true (by omega)
                have g2 : decide ((c : Int) ≤ 57) = true := decide_eq_true (by omega)
                go_wp2_with fail
                go_quiet (fail)
                go_wp2
                go_ret
                exact ⟨by rw [HV.out]; rfl, by first | exact ⟨_, rfl⟩ | exact dN _ _ _⟩
              · have g1 : decide ((48 : Int) ≤ (c : Int)) = true := decide_eq_true (by omega)
                have g2 : decide ((c : Int) ≤ 57) = false := decide_eq_false (by omega)
                go_wp2_with fail
                go_quiet (fail)
                go_wp2
                go_ret
                exact ⟨by rw [HV.out]; rfl, by first | exact ⟨_, rfl⟩ | exact dN _ _ _⟩
            · have g1 : decide ((48 : Int) ≤ (c : Int)) = false := decide_eq_false (by omega)
              go_wp2_with fail
              go_quiet (fail)
              go_wp2
              go_ret
              exact ⟨by rw [HV.out]; rfl, by first | exact ⟨_, rfl⟩ | exact dN _ _ _⟩
      · obtain rfl : k = s.size := by omega
        have HV := hide (show R = true by rw [← HR.out.1]; exact fit_yes HR.out.2.1 hall)
        clear hall
        go_wp2
        go_ret
        exact ⟨by rw [HV.out]; rfl, _, rfl⟩
  · have HV := hide (show R = false by rw [← hR]; unfold fitB; rw [decide_eq_false h1, Bool.false_and])
    clear hR
    have hne : ((s.size : Int) == (p.size : Int)) = false := by rw [beq_eq_false_iff_ne]; omega
    go_enter Tryd.func22, Tryd.ntmps22
    go_wp2
    go_ret
    exact ⟨by rw [HV.out]; rfl, 0, rfl⟩
end Go.Proofs.YteicdlomjhjiiaaDoor
