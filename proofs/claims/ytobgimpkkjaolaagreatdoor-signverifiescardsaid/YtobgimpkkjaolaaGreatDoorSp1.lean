/- The page's own keys and signatures: what its calls Sha, join, Public and Sign answer. -/
import Derived.Test.YtobgimpkkjaolaaGreatDoorMg
import Derived.Test.YtobgimpkkjaolaaGreatDoorMr
import Derived.Test.YtobgimpkkjaolaaGreatDoorMp
import Derived.Test.YtobgimpkkjaolaaGreatDoorRf3
namespace Go.Proofs.YtobgimpkkjaolaaGreatDoor
open Go.RowKit
theorem old_of {w : World} {v : Value} {l : List Nat} (h : BsAt w v l) (hne : l ≠ []) : Sh.BsOld w v (u8s l) := by
  obtain ⟨b, o, c, ao, e, hc, hm, hl, hh⟩ := h
  obtain ⟨e1, hb, hr⟩ := hh hne
  refine ⟨ao, c, by rw [u8s_len]; exact e, by rw [u8s_len]; exact hc, hm, fun e2 => (by rw [e1] at e2; cases e2), fun _ => ⟨b, o, e1, hb, ?_⟩⟩
  rw [nv_bc hl]
  exact range_of hr
theorem r_sha {v : Value} {l : List Nat} {w : World} (h : BsAt w v l) (hne : l ≠ []) (hl : l.length ≤ 100000000000) : Calls Tryz.prog 20 #[v] w fun e w' => ∃ v', e = .returned v' ∧ Own w' w.heap.size v' (shn l) ∧ Below w.heap.size w w' :=
  (Sh.ref_any (u8s l) v w (old_of h hne) (by rw [u8s_len]; exact hl)).mono fun _ _ ⟨v', he, ho, hb⟩ => ⟨v', he, own_sh ho (Sh.shaB_len _), hb⟩
set_option maxRecDepth 100000 in
set_option maxHeartbeats 1000000 in
theorem join_any {v : Value} {ls : List (List Nat)} {w : World} (hr : RsAt w v ls) (hm : ls.flatten.length ≤ 100000000) : Calls Tryz.prog 23 #[v] w fun e w' => ∃ v', e = .returned v' ∧ Own w' w.heap.size v' ls.flatten ∧ Below w.heap.size w w' := by
  obtain ⟨b, vs, rfl, hb, hvl, hn, hc⟩ := hr
  obtain ⟨n, hln⟩ : ∃ n, ls.length = n := ⟨_, rfl⟩
  rw [hln] at hvl hn hc ⊢
  have HC := hide (And.intro hc (And.intro hb (And.intro hm hln)))
  clear hc hb hln hm
  go_enter Tryz.func23, Tryz.ntmps23
  go_wp2
  go_loopw [3, 8] (fun sv i wr => ∃ k : Nat, k ≤ n ∧ i = .int .i64 (k : Int) ∧ Own wr w.heap.size sv (ls.take k).flatten ∧ Below w.heap.size w wr) (fun _ i _ => n - (intOf i).toNat)
  case atStart => exact ⟨0, Nat.zero_le _, rfl, by simpa using own_nil w w.heap.size (Nat.le_refl _), Below.refl _ _⟩
  case round =>
    obtain ⟨k, hk, rfl, ho, hbe⟩ := hrel
    by_cases hlt : k < n
    · have hd : decide ((k : Int) < (n : Int)) = true := decide_eq_true (by omega)
      obtain ⟨hc, hb, hm, hln⟩ := HC.out
      obtain ⟨hcell, hbs⟩ := hc k hlt
      have hcr : wr.cell? ⟨b, k, none⟩ = some (vs.getD k undef) := (Below.cell hbe hb).trans hcell
      have hbl := flat_le ls (k + 1)
      rw [flat_step ls k (by omega), List.length_append] at hbl
      have HX := hide (And.intro (hbs.ext hbe) (And.intro (Nat.le_trans hbl hm) hln))
      have HO := hide (And.intro ho hbe)
      have hix := fun w_ => ix_rows w_ b n n k hlt
      generalize vs.getD k undef = pv at *
      clear hc hb hm hln hcell hbs hbl ho hbe
      go_wp2_with (at_builtin; refine wpList_append_b rfl (.tmp 12) (.tmp 13) rfl (base := w.heap.size) (l := (ls.take k).flatten) (m := ls.getD k []) HO.out.1 HX.out.1 (Nat.le_trans HX.out.2.1 (by decide)) HO.out.2.size ?_)
      intro u1 w1 o1 g1
      have R := hide (And.intro (show Own w1 w.heap.size u1 (ls.take (k + 1)).flatten by rw [flat_step ls k (by have := HX.out.2.2; omega)]; exact o1) (below_gr HO.out.2 HO.out.1 (Nat.le_refl _) g1))
      clear o1 g1 hix hcr
      go_wp2
      go_roundw
      case rel => exact ⟨k + 1, by omega, by go_num, R.out.1, R.out.2⟩
      case measure => simp [intOf]; omega
    · obtain rfl : k = n := by omega
      have hd : decide ((k : Int) < (k : Int)) = false := decide_eq_false (by omega)
      have HR := hide (And.intro ho hbe)
      clear ho hbe
      go_wp2
      go_ret
      obtain ⟨h1, h2⟩ := HR.out
      rw [List.take_of_length_le (by rw [HC.out.2.2.2]; exact Nat.le_refl _)] at h1
      exact ⟨_, rfl, h1, h2⟩
end Go.Proofs.YtobgimpkkjaolaaGreatDoor
