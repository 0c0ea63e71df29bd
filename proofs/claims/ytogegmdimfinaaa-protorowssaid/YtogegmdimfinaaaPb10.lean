/- Room for bytes, bytes of many slices, and all bytes of a message. -/
import Derived.Test.YtogegmdimfinaaaPb9
namespace Go.Proofs.Ytogegmdimfinaaa
open Go.RowKit
set_option maxRecDepth 100000 in
set_option maxHeartbeats 1000000 in
theorem grow_any (n : Nat) (w : World) (hn : n ≤ 100000000000) : Calls Try.prog 31 #[.slice none 0 0, .int .i64 (n : Int)] w fun e w' => ∃ v, e = .returned v ∧ Own w' w.heap.size v [] ∧ Below w.heap.size w w' := by
  have hd0 : decide ((n : Int) < 0) = false := decide_eq_false (by omega)
  have O0 := hide (own_nil w w.heap.size (Nat.le_refl _))
  by_cases h0 : 0 < n
  · have hd1 : decide ((0 : Int) < (n : Int)) = true := decide_eq_true (by omega)
    have HN := hide hn
    go_enter Try.func31, Try.ntmps31
    go_wp2_with (at_builtin; refine wpList_append_z rfl n (by omega) (.tmp 20) _ rfl rfl (base := w.heap.size) (l := []) O0.out (by have := HN.out; simp; omega) (Nat.le_refl _) ?_)
    intro v2 w2 o2 g2
    have B := hide (below_gr (Below.refl _ _) O0.out (Nat.le_refl _) g2)
    obtain ⟨g, cap, hv, _, _, hc, hm⟩ := o2.form (by rw [zz_len]; exact h0)
    rw [zz_len] at hv hc
    subst hv
    have OC := hide (Own.cut (k := 0) o2 (Nat.zero_le _))
    clear o2 g2 O0
    go_wp2
    go_ret
    exact ⟨_, rfl, by have := OC.out; rwa [List.take_zero] at this, B.out⟩
  · obtain rfl : n = 0 := by omega
    go_enter Try.func31, Try.ntmps31
    go_wp2
    go_ret
    exact ⟨_, rfl, O0.out, Below.refl _ _⟩
set_option maxRecDepth 100000 in
set_option maxHeartbeats 2000000 in
theorem concat_any {v : Value} {ls : List (List Nat)} {w : World} (h : RsAt w v ls) (hl : ls.flatten.length ≤ 100000000) : Calls Try.prog 28 #[v] w fun e w' => ∃ u, e = .returned u ∧ Own w' w.heap.size u ls.flatten ∧ Below w.heap.size w w' := by
  obtain ⟨F, hF⟩ : ∃ F, ls.flatten = F := ⟨_, rfl⟩
  rw [hF]
  have H0 := hide (And.intro hF hl)
  obtain ⟨ao, b, c, vs, rfl, hvl, hpl, hpc, hh⟩ := h
  have HH := hide hh
  clear hF hl hh hvl
  go_enter Try.func28, Try.ntmps28
  go_wp2
  go_loopw [11, 3] (fun i s wr => ∃ j : Nat, j ≤ ls.length ∧ i = .int .i64 (j : Int) ∧ s = .int .i64 (((ls.take j).flatten.length : Nat) : Int) ∧ wr = w) (fun i _ _ => ls.length - (intOf i).toNat)
  case atStart => exact ⟨0, Nat.zero_le _, rfl, rfl, rfl⟩
  case round =>
    obtain ⟨j, hj, rfl, rfl, hwr⟩ := hrel
    replace hwr := hwr.symm
    subst hwr
    by_cases hlt : j < ls.length
    · obtain ⟨rfl, hbb, hcs⟩ := HH.out (fun e => by subst e; simp at hlt)
      obtain ⟨hcell, hbs⟩ := hcs j hlt
      have hix := fun w_ => ix_rows w_ b ls.length c j hlt
      have hfl := flat_le ls (j + 1)
      have hst : (ls.take (j + 1)).flatten.length = (ls.take j).flatten.length + (ls.getD j []).length := by rw [flat_step ls j hlt, List.length_append]
      have hF := H0.out
      rw [← hF.1] at hF
      obtain ⟨a1, c1, hv1, _, _⟩ := hbs.len
      rw [hv1] at hcell
      obtain ⟨S, hS⟩ : ∃ S, (ls.take j).flatten.length = S := ⟨_, rfl⟩
      obtain ⟨M, hM⟩ : ∃ M, (ls.getD j []).length = M := ⟨_, rfl⟩
      rw [hS, hM] at hst
      rw [hS]
      rw [hM] at hcell
      have HX := hide hst
      have hbnd : S + M ≤ 100000000 := by omega
      clear hbs hfl hst hF hcs hv1 hS hM hbb
      go_wp2
      go_roundw
      case rel => exact ⟨j + 1, by omega, by go_num, by rw [HX.out]; go_num, by first | rfl | trivial⟩
      case measure => simp [intOf]; omega
    · obtain rfl : j = ls.length := by omega
      rw [List.take_of_length_le (Nat.le_refl _), H0.out.1]
      obtain ⟨fl, hfl⟩ : ∃ fl, F.length = fl := ⟨_, rfl⟩
      rw [hfl]
      have HG := hide (grow_any fl w (by rw [← hfl, ← H0.out.1]; have := H0.out.2; omega))
      clear hfl
      go_wp2_with fail
      refine HG.out.mono ?_
      rintro e w1 ⟨v1, rfl, o1, b1⟩
      have H1 := hide (And.intro o1 b1)
      clear o1 b1 HG
      go_wp2
      go_loopw [27, 6] (fun i f wq => ∃ j : Nat, j ≤ ls.length ∧ i = .int .i64 (j : Int) ∧ Own wq w.heap.size f (ls.take j).flatten ∧ Below w.heap.size w wq) (fun i _ _ => ls.length - (intOf i).toNat)
      case atStart => exact ⟨0, Nat.zero_le _, rfl, by simpa using H1.out.1, H1.out.2⟩
      case round =>
        obtain ⟨j, hj, rfl, hO, hB⟩ := hrel
        by_cases hlt2 : j < ls.length
        · obtain ⟨rfl, hbb, hcs⟩ := HH.out (fun e => by subst e; simp at hlt2)
          obtain ⟨hcell, hbs⟩ := hcs j hlt2
          have hcr : wr.cell? ⟨b, j, none⟩ = some (vs.getD j undef) := (hB.cell (p := ⟨b, j, none⟩) hbb).trans hcell
          have hix := fun w_ => ix_rows w_ b ls.length c j hlt2
          have hfl := flat_le ls (j + 1)
          have hnx := flat_step ls j hlt2
          rw [hnx, List.length_append] at hfl
          have hbd : (ls.take j).flatten.length + (ls.getD j []).length ≤ 1000000000000 := by have h2 := H0.out.2; omega
          obtain ⟨S, hS⟩ : ∃ S, (ls.take j).flatten = S := ⟨_, rfl⟩
          obtain ⟨PJ, hPJ⟩ : ∃ PJ, ls.getD j [] = PJ := ⟨_, rfl⟩
          rw [hS] at hO hnx hbd
          rw [hPJ] at hbs hnx hbd
          have HX := hide (And.intro hO (And.intro hB (And.intro (hbs.ext hB) (And.intro hbd hnx))))
          generalize vs.getD j undef = pj at *
          clear hO hB hbs hfl hcell hcs hbb hnx hbd hS hPJ
          go_wp2_with (at_builtin; refine wpList_append_b rfl (.tmp 31) (.tmp 32) rfl (base := w.heap.size) (l := S) (m := PJ) HX.out.1 HX.out.2.2.1 HX.out.2.2.2.1 HX.out.2.1.size ?_)
          intro v2 w2 o2 g2
          have R := hide (And.intro o2 (And.intro (below_gr HX.out.2.1 HX.out.1 (Nat.le_refl _) g2) HX.out.2.2.2.2))
          clear o2 g2 HX hcr hix
          go_wp2
          go_roundw
          case rel => exact ⟨j + 1, by omega, by go_num, by rw [R.out.2.2]; exact R.out.1, R.out.2.1⟩
          case measure => simp [intOf]; omega
        · obtain rfl : j = ls.length := by omega
          rw [List.take_of_length_le (Nat.le_refl _), H0.out.1] at hO
          have R := hide (And.intro hO hB)
          clear hO hB
          go_wp2
          go_ret
          exact ⟨_, rfl, R.out.1, R.out.2⟩
end Go.Proofs.Ytogegmdimfinaaa
