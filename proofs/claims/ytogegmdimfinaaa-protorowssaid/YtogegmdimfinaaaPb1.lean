/- The bytes of a number, as the program's call and the page's call make them; signs behind and back. -/
import Derived.Test.YtogegmdimfinaaaOwn2
import Derived.Laws.Bits64b
import Derived.Laws.BitsAllLaws
namespace Go.Proofs.Ytogegmdimfinaaa
open Go.RowKit
theorem and127 (y : Nat) (h : y < 18446744073709551616) : bits .and .u64 (y : Int) 127 = ((y % 128 : Nat) : Int) := by
  have := bits_and_u64_nat y 127 h (by omega)
  rw [show y &&& 127 = y % 128 from Nat.and_two_pow_sub_one_eq_mod y 7] at this
  exact this
theorem or128 (z : Nat) (h : z < 128) : bits .or .u64 (z : Int) 128 = ((z + 128 : Nat) : Int) := by
  have := bits_or_u64_nat z 128 (by omega) (by omega)
  rw [show z ||| 128 = z + 128 by rw [Nat.or_comm]; exact (Nat.two_pow_add_eq_or_of_lt (i := 7) (b := z) (by omega) 1 ▸ by omega)] at this
  exact this
theorem or128b (z : Nat) (h : z < 256) : bits .or .u8 (z : Int) 128 = ((z % 128 + 128 : Nat) : Int) := by
  have : ∀ y : Fin 256, bits .or .u8 ((y.1 : Nat) : Int) 128 = ((y.1 % 128 + 128 : Nat) : Int) := by decide +kernel
  exact this ⟨z, h⟩
set_option maxRecDepth 100000 in
set_option maxHeartbeats 1000000 in
theorem varint_w (n : Nat) (w : World) (hn : n < 18446744073709551616) : Calls Try.prog 16 #[.int .u64 (n : Int)] w fun e w' => ∃ v, e = .returned v ∧ Own w' w.heap.size v (vbn n) ∧ Below w.heap.size w w' := by
  obtain ⟨L, hL⟩ : ∃ L, vbn n = L := ⟨_, rfl⟩
  rw [hL]
  have HL := hide (And.intro hL hn)
  clear hL hn
  go_enter Try.func16, Try.ntmps16
  go_wp2
  go_loopw [0, 3] (fun x b wr => ∃ (i y : Nat) (p : List Nat), x = .int .u64 (y : Int) ∧ i ≤ 9 ∧ y < 2 ^ (64 - 7 * i) ∧ p ++ vb (9 - i) y = L ∧ Own wr w.heap.size b p ∧ p.length = i ∧ Below w.heap.size w wr) (fun x _ _ => (intOf x).toNat)
  case atStart => exact ⟨0, n, [], rfl, by omega, HL.out.2, HL.out.1, own_nil _ _ (Nat.le_refl _), rfl, Below.refl _ _⟩
  case round =>
    obtain ⟨i, y, p, rfl, hi, hy, hp, ho, hl, hb⟩ := hrel
    have hy64 : y < 18446744073709551616 := Nat.lt_of_lt_of_le hy (show 2 ^ (64 - 7 * i) ≤ 2 ^ 64 from Nat.pow_le_pow_right (by decide) (by omega))
    by_cases hlt : 127 < y
    · have hd : decide ((127 : Int) < (y : Int)) = true := decide_eq_true (by omega)
      have hi8 : i ≤ 8 := by
        rcases Nat.lt_or_ge i 9 with h | h
        · omega
        · have e9 : i = 9 := by omega
          subst e9
          have hy2 : y < 2 := hy
          omega
      have e1 := and127 y hy64
      have e2 := or128 (y % 128) (Nat.mod_lt _ (by decide))
      have hz : y % 128 + 128 < 256 := by have := Nat.mod_lt y (show 128 > 0 by decide); omega
      have hstep := pow_step i hi8 y hy
      have hvb : vb (9 - i) y = (y % 128 + 128) :: vb (9 - (i + 1)) (y / 128) := by
        rw [show 9 - i = (9 - (i + 1)) + 1 by omega, vb, if_neg (by omega)]
      rw [hvb] at hp
      have HX := hide (And.intro hi8 (And.intro hstep (And.intro hp (And.intro ho (And.intro hl (And.intro hb (And.intro hz hlt)))))))
      clear hi hy hp ho hl hb hlt hstep hvb hi8
      generalize hzq : y % 128 = z at *
      generalize hcq : z + 128 = c at *
      have hc8 : IntKind.u8.wrap (c : Int) = (c : Int) := by rw [IntKind.wrap_u8]; omega
      clear hzq hz
      go_wp2_with (at_builtin; refine wpList_append_b rfl (.tmp 6) (.tmp 11) rfl (base := w.heap.size) (l := p) (m := [c]) (HX.out.2.2.2.1.ext (alloc_below _ _)) (one_at c HX.out.2.2.2.2.2.2.1) (by have h1 := HX.out.2.2.2.2.1; have h2 := HX.out.1; simp; omega) (Nat.le_trans HX.out.2.2.2.2.2.1.size (alloc_below _ _).size) ?_)
      intro v' w' o' g'
      obtain ⟨hi8, hstep, hp, ho, hl, hb, hz, hlt⟩ := HX.out
      have R := hide (And.intro o' (below_gr (Below.chain hb (alloc_below _ _)) (ho.ext (alloc_below _ _)) (Nat.le_refl _) g'))
      have HY := hide (And.intro hi8 (And.intro hstep (And.intro hp hl)))
      clear hi8 hstep hp ho hl hb hz o' g' HX e1 e2 hc8
      go_wp2
      go_roundw
      case rel =>
        obtain ⟨hi8, hstep, hp, hl⟩ := HY.out
        exact ⟨i + 1, y / 128, p ++ [c], by go_num, by omega, hstep, by rw [List.append_assoc]; exact hp, R.out.1, by simp [hl], R.out.2⟩
      case measure => simp [intOf]; omega
    · have hd : decide ((127 : Int) < (y : Int)) = false := decide_eq_false (by omega)
      have hc8 : IntKind.u8.wrap (y : Int) = (y : Int) := by rw [IntKind.wrap_u8]; omega
      have hvb : vb (9 - i) y = [y] := by
        cases hq : 9 - i with
        | zero => rfl
        | succ q => rw [vb, if_pos (by omega)]
      rw [hvb] at hp
      have HX := hide (And.intro hi (And.intro hp (And.intro ho (And.intro hl (And.intro hb hlt)))))
      clear hi hy hp ho hl hb hlt hvb
      go_wp2_with (at_builtin; refine wpList_append_b rfl (.tmp 15) (.tmp 18) rfl (base := w.heap.size) (l := p) (m := [y]) (HX.out.2.2.1.ext (alloc_below _ _)) (one_at y (by have := HX.out.2.2.2.2.2; omega)) (by have h1 := HX.out.2.2.2.1; have h2 := HX.out.1; simp; omega) (Nat.le_trans HX.out.2.2.2.2.1.size (alloc_below _ _).size) ?_)
      intro v' w' o' g'
      obtain ⟨hi, hp, ho, hl, hb, hlt⟩ := HX.out
      rw [hp] at o'
      have R := hide (And.intro o' (below_gr (Below.chain hb (alloc_below _ _)) (ho.ext (alloc_below _ _)) (Nat.le_refl _) g'))
      clear hi hp ho hl hb hlt o' g' HX
      go_wp2
      go_ret
      exact ⟨_, rfl, R.out.1, R.out.2⟩
set_option maxRecDepth 100000 in
set_option maxHeartbeats 1000000 in
theorem varint_r (n : Nat) (w : World) (hn : n < 18446744073709551616) : Calls Try.prog 17 #[.int .u64 (n : Int)] w fun e w' => ∃ v, e = .returned v ∧ Own w' w.heap.size v (vbn n) ∧ Below w.heap.size w w' := by
  obtain ⟨L, hL⟩ : ∃ L, vbn n = L := ⟨_, rfl⟩
  rw [hL]
  have HL := hide (And.intro hL hn)
  clear hL hn
  go_enter Try.func17, Try.ntmps17
  go_wp2
  go_loopw [0, 3] (fun x b wr => ∃ (i y : Nat) (p : List Nat), x = .int .u64 (y : Int) ∧ i ≤ 9 ∧ y < 2 ^ (64 - 7 * i) ∧ p ++ vb (9 - i) y = L ∧ Own wr w.heap.size b p ∧ p.length = i ∧ Below w.heap.size w wr) (fun x _ _ => (intOf x).toNat)
  case atStart => exact ⟨0, n, [], rfl, by omega, HL.out.2, HL.out.1, own_nil _ _ (Nat.le_refl _), rfl, Below.refl _ _⟩
  case round =>
    obtain ⟨i, y, p, rfl, hi, hy, hp, ho, hl, hb⟩ := hrel
    have hy64 : y < 18446744073709551616 := Nat.lt_of_lt_of_le hy (show 2 ^ (64 - 7 * i) ≤ 2 ^ 64 from Nat.pow_le_pow_right (by decide) (by omega))
    by_cases hlt : 128 ≤ y
    · have hd : decide ((128 : Int) ≤ (y : Int)) = true := decide_eq_true (by omega)
      have hi8 : i ≤ 8 := by
        rcases Nat.lt_or_ge i 9 with h | h
        · omega
        · have e9 : i = 9 := by omega
          subst e9
          have hy2 : y < 2 := hy
          omega
      have e1 : IntKind.u8.wrap (y : Int) = ((y % 256 : Nat) : Int) := by rw [IntKind.wrap_u8]; omega
      have e2 := or128b (y % 256) (Nat.mod_lt _ (by decide))
      rw [show y % 256 % 128 = y % 128 by omega] at e2
      generalize y % 256 = yy at e1 e2
      have hz : y % 128 + 128 < 256 := by have := Nat.mod_lt y (show 128 > 0 by decide); omega
      have hstep := pow_step i hi8 y hy
      have hvb : vb (9 - i) y = (y % 128 + 128) :: vb (9 - (i + 1)) (y / 128) := by
        rw [show 9 - i = (9 - (i + 1)) + 1 by omega, vb, if_neg (by omega)]
      rw [hvb] at hp
      have HX := hide (And.intro hi8 (And.intro hstep (And.intro hp (And.intro ho (And.intro hl (And.intro hb (And.intro hz hlt)))))))
      clear hi hy hp ho hl hb hlt hstep hvb hi8
      generalize hzq : y % 128 = z at *
      generalize hcq : z + 128 = c at *
      clear hzq hz
      go_wp2_with (at_builtin; refine wpList_append_b rfl (.tmp 6) (.tmp 10) rfl (base := w.heap.size) (l := p) (m := [c]) (HX.out.2.2.2.1.ext (alloc_below _ _)) (one_at c HX.out.2.2.2.2.2.2.1) (by have h1 := HX.out.2.2.2.2.1; have h2 := HX.out.1; simp; omega) (Nat.le_trans HX.out.2.2.2.2.2.1.size (alloc_below _ _).size) ?_)
      intro v' w' o' g'
      obtain ⟨hi8, hstep, hp, ho, hl, hb, hz, hlt⟩ := HX.out
      have R := hide (And.intro o' (below_gr (Below.chain hb (alloc_below _ _)) (ho.ext (alloc_below _ _)) (Nat.le_refl _) g'))
      have HY := hide (And.intro hi8 (And.intro hstep (And.intro hp hl)))
      clear hi8 hstep hp ho hl hb hz o' g' HX e1 e2
      go_wp2
      go_roundw
      case rel =>
        obtain ⟨hi8, hstep, hp, hl⟩ := HY.out
        exact ⟨i + 1, y / 128, p ++ [c], by go_num, by omega, hstep, by rw [List.append_assoc]; exact hp, R.out.1, by simp [hl], R.out.2⟩
      case measure => simp [intOf]; omega
    · have hd : decide ((128 : Int) ≤ (y : Int)) = false := decide_eq_false (by omega)
      have hc8 : IntKind.u8.wrap (y : Int) = (y : Int) := by rw [IntKind.wrap_u8]; omega
      have hvb : vb (9 - i) y = [y] := by
        cases hq : 9 - i with
        | zero => rfl
        | succ q => rw [vb, if_pos (by omega)]
      rw [hvb] at hp
      have HX := hide (And.intro hi (And.intro hp (And.intro ho (And.intro hl (And.intro hb hlt)))))
      clear hi hy hp ho hl hb hlt hvb
      go_wp2_with (at_builtin; refine wpList_append_b rfl (.tmp 14) (.tmp 17) rfl (base := w.heap.size) (l := p) (m := [y]) (HX.out.2.2.1.ext (alloc_below _ _)) (one_at y (by have := HX.out.2.2.2.2.2; omega)) (by have h1 := HX.out.2.2.2.1; have h2 := HX.out.1; simp; omega) (Nat.le_trans HX.out.2.2.2.2.1.size (alloc_below _ _).size) ?_)
      intro v' w' o' g'
      obtain ⟨hi, hp, ho, hl, hb, hlt⟩ := HX.out
      rw [hp] at o'
      have R := hide (And.intro o' (below_gr (Below.chain hb (alloc_below _ _)) (ho.ext (alloc_below _ _)) (Nat.le_refl _) g'))
      clear hi hp ho hl hb hlt o' g' HX
      go_wp2
      go_ret
      exact ⟨_, rfl, R.out.1, R.out.2⟩
end Go.Proofs.Ytogegmdimfinaaa
