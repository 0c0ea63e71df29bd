/- Sets of bytes: bytes put in, turned about: the program's calls. -/
import Derived.Test.YtmjnedafcfolgaaRx5
import Derived.Laws.ShiftsVarLaws
namespace Go.Proofs.Ytmjnedafcfolgaa
open Go.RowKit
theorem put_lt {s : Nat → Nat} (h : ∀ j, s j < 18446744073709551616) (c : Nat) : ∀ j, putS s c j < 18446744073709551616 := by
  intro j
  unfold putS
  have h1 : (2 : Nat) ^ (c % 64) < 2 ^ 64 := Nat.pow_lt_pow_right (by decide) (Nat.mod_lt _ (by decide))
  split
  · exact Nat.or_lt_two_pow (n := 64) (h j) h1
  · exact h j
/-- A variable that holds a set of bytes. -/
def SAt (w : World) (m : Nat) (s : Nat → Nat) : Prop := (∀ j, s j < 18446744073709551616) ∧ w.heap[m]? = some (.cells #[.int .u64 (s 0 : Int), .int .u64 (s 1 : Int), .int .u64 (s 2 : Int), .int .u64 (s 3 : Int)] 65 (0, 0))
theorem SAt.reads {w : World} {m : Nat} {s : Nat → Nat} (h : SAt w m s) (j : Nat) (hj : j < 4) : w.cell? ⟨m, j, none⟩ = some (.int .u64 (s j : Int)) ∧ w.frozen? ⟨m, j, none⟩ = false := by
  obtain ⟨x0, y0⟩ := row_reads h.2
  refine ⟨?_, y0 j⟩
  rw [x0 j]
  obtain rfl | rfl | rfl | rfl : j = 0 ∨ j = 1 ∨ j = 2 ∨ j = 3 := by omega
  all_goals rfl
theorem SAt.put {w : World} {m : Nat} {s : Nat → Nat} (h : SAt w m s) (c : Nat) (hj : c / 64 < 4) : SAt (w.setCell ⟨m, c / 64, none⟩ (.int .u64 ((s (c / 64) ||| 2 ^ (c % 64) : Nat) : Int))) m (putS s c) := by
  refine ⟨put_lt h.1 c, ?_⟩
  unfold putS
  rw [heap_setCell_same _ _ _ _ _ _ h.2]
  obtain h0 | h0 | h0 | h0 : c / 64 = 0 ∨ c / 64 = 1 ∨ c / 64 = 2 ∨ c / 64 = 3 := by omega
  all_goals (rw [h0]; rfl)
theorem SAt.gr {w w' : World} {m : Nat} {s : Nat → Nat} (h : SAt w m s) {g : Nat} (hg : w.grownBy w' (some g)) (hne : m ≠ g) : SAt w' m s := ⟨h.1, (hg.block m (Array.getElem?_eq_some_iff.1 h.2).1 (fun e => by injection e with e; exact hne e)).trans h.2⟩
theorem SAt.ext {w w' : World} {m : Nat} {s : Nat → Nat} (h : SAt w m s) (hb : Below w.heap.size w w') : SAt w' m s := ⟨h.1, Below.heap hb (Array.getElem?_eq_some_iff.1 h.2).1 h.2⟩
theorem SAt.lt {w : World} {m : Nat} {s : Nat → Nat} (h : SAt w m s) : m < w.heap.size := (Array.getElem?_eq_some_iff.1 h.2).1
theorem or_put (x q : Nat) (hx : x < 18446744073709551616) (hq : q < 64) : bits .or .u64 (x : Int) (IntKind.u64.wrap (2 ^ q)) = ((x ||| 2 ^ q : Nat) : Int) := by
  have h1 : (2 : Nat) ^ q < 2 ^ 64 := Nat.pow_lt_pow_right (by decide) hq
  have h2 : IntKind.u64.wrap (2 ^ q) = ((2 ^ q : Nat) : Int) := by
    rw [IntKind.wrap_u64, Int.emod_eq_of_lt (Int.pow_nonneg (by decide)) (by have h3 : ((2 ^ q : Nat) : Int) < ((2 ^ 64 : Nat) : Int) := Int.ofNat_lt.2 h1; simpa using h3)]
    simp
  rw [h2]
  exact bits_or_u64_nat _ _ hx h1
set_option maxRecDepth 100000 in
set_option maxHeartbeats 1000000 in
theorem add_any {w : World} {m lo hi : Nat} {s : Nat → Nat} (h : SAt w m s) (hlo : lo < 256) (hhi : hi < 256) : Calls Try.prog 48 #[.pointer (some ⟨m, 0, none⟩), .int .u8 (lo : Int), .int .u8 (hi : Int)] w fun e w' => e = .returned (.tuple #[]) ∧ SAt w' m (addS s lo hi) ∧ w.grownBy w' (some m) := by
  have H0 := hide h
  clear h
  go_enter Try.func48, Try.ntmps48
  go_wp2
  go_loopw [6] (fun s6 wr => ∃ (c : Nat) (u : Nat → Nat), c ≤ 256 ∧ s6 = .int .i64 (c : Int) ∧ Hid (SAt wr m u) ∧ Hid (w.grownBy wr (some m)) ∧ Hid (addN u c (hi + 1 - c) = addS s lo hi)) (fun i _ => 256 - (intOf i).toNat)
  case atStart => exact ⟨lo, s, by omega, rfl, H0, grown_refl _ _, rfl⟩
  case round =>
    obtain ⟨c, u, hc, rfl, HS, HG, HA⟩ := hrel
    by_cases hle : c ≤ hi
    · have hd : decide ((c : Int) ≤ (hi : Int)) = true := decide_eq_true (by omega)
      obtain ⟨n, hn⟩ : ∃ n, hi + 1 - c = n + 1 := ⟨hi - c, by omega⟩
      have HN := hide (show addN (putS u c) (c + 1) (hi + 1 - (c + 1)) = addS s lo hi by rw [← HA.out, hn, show hi + 1 - (c + 1) = n by omega]; rfl)
      have HP := hide (HS.out.put c (by omega))
      obtain ⟨r1, r2⟩ := HS.out.reads (c / 64) (by omega)
      have q1 : (c : Int).tdiv 64 = ((c / 64 : Nat) : Int) := by rw [Int.tdiv_eq_ediv_of_nonneg (by omega)]; omega
      have q2 : (c : Int).tmod 64 = ((c % 64 : Nat) : Int) := by rw [Int.tmod_eq_emod_of_nonneg (by omega)]; omega
      have q3 := or_put (u (c / 64)) (c % 64) (HS.out.1 _) (Nat.mod_lt _ (by decide))
      have hj : c / 64 < 4 := by omega
      have hq : c % 64 < 64 := Nat.mod_lt _ (by decide)
      clear hn
      generalize c / 64 = j at *
      generalize c % 64 = q at *
      go_wp2_with fail
      go_region
      have HW := hide (And.intro (HP.out.ext (drewN_below _ 1)) (grown_trans (grown_trans HG.out (grown_set wr m j (.int .u64 ((u j ||| 2 ^ q : Nat) : Int)))) (Ext.gr (drewN_below _ 1) _)))
      go_wp2
      go_roundw
      case rel => exact ⟨c + 1, _, by omega, by go_num, hide HW.out.1, hide HW.out.2, HN⟩
      case measure => simp [intOf]; omega
    · have hd : decide ((c : Int) ≤ (hi : Int)) = false := decide_eq_false (by omega)
      have HE := hide (show u = addS s lo hi by rw [← HA.out, show hi + 1 - c = 0 by omega]; rfl)
      go_wp2
      go_end0
      exact ⟨rfl, by rw [← HE.out]; exact HS.out, HG.out⟩

theorem oth_q (x : Nat) (hx : x < 18446744073709551616) : bits .xor .u64 (if IntKind.u64.signed = true then -1 else IntKind.u64.max) (x : Int) = ((2 ^ 64 - 1 - x : Nat) : Int) := by
  have h1 : (if IntKind.u64.signed = true then -1 else IntKind.u64.max) = ((18446744073709551615 : Nat) : Int) := by decide
  have h2 : (BitVec.allOnes 64 ^^^ BitVec.ofNat 64 x).toNat = 2 ^ 64 - 1 - x := by
    rw [BitVec.allOnes_xor, BitVec.toNat_not, BitVec.toNat_ofNat, Nat.mod_eq_of_lt (show x < 2 ^ 64 from hx)]
  rw [BitVec.toNat_xor, BitVec.toNat_ofNat, Nat.mod_eq_of_lt (show x < 2 ^ 64 from hx)] at h2
  rw [h1, bits_xor_u64_nat _ _ (by decide) hx, ← h2]
  rfl
theorem oth_lt (s : Nat → Nat) : ∀ j, othS s j < 18446744073709551616 := by intro j; unfold othS; omega
/-- So many words turned about. -/
def hth (s : Nat → Nat) (k : Nat) : Nat → Nat := fun j => if j < k then othS s j else s j
theorem SAt.oth {w : World} {m k : Nat} {s : Nat → Nat} (hs : ∀ j, s j < 18446744073709551616) (h : SAt w m (hth s k)) (hk : k < 4) : SAt (w.setCell ⟨m, k, none⟩ (.int .u64 ((2 ^ 64 - 1 - s k : Nat) : Int))) m (hth s (k + 1)) := by
  refine ⟨fun j => by unfold hth; split; exact oth_lt s j; exact hs j, ?_⟩
  rw [heap_setCell_same _ _ _ _ _ _ h.2]
  obtain rfl | rfl | rfl | rfl : k = 0 ∨ k = 1 ∨ k = 2 ∨ k = 3 := by omega
  all_goals rfl
theorem sizeB : (Try.prog.info? 65).map (·.size) = some 4 := by kernel_rfl
set_option maxRecDepth 100000 in
set_option maxHeartbeats 1000000 in
theorem others_any (s : Nat → Nat) (hs : ∀ j, s j < 18446744073709551616) {w : World} : Calls Try.prog 46 #[sv s] w fun e w' => e = .returned (sv (othS s)) ∧ Below w.heap.size w w' := by
  have H1 : Hid (SAt ((w.alloc (.cells #[.int .u64 (s 0 : Int), .int .u64 (s 1 : Int), .int .u64 (s 2 : Int), .int .u64 (s 3 : Int)] 65)).alloc (.cells #[.int .u64 0, .int .u64 0, .int .u64 0, .int .u64 0] 65)) w.heap.size (hth s 0)) := hide ⟨fun j => hs j, Below.heap (alloc_below (w.alloc (.cells #[.int .u64 (s 0 : Int), .int .u64 (s 1 : Int), .int .u64 (s 2 : Int), .int .u64 (s 3 : Int)] 65)) (.cells #[.int .u64 0, .int .u64 0, .int .u64 0, .int .u64 0] 65)) (by simp) (heap_alloc_last _ _)⟩
  have H2 : Hid (((w.alloc (.cells #[.int .u64 (s 0 : Int), .int .u64 (s 1 : Int), .int .u64 (s 2 : Int), .int .u64 (s 3 : Int)] 65)).alloc (.cells #[.int .u64 0, .int .u64 0, .int .u64 0, .int .u64 0] 65)).heap[w.heap.size + 1]? = some (.cells #[.int .u64 0, .int .u64 0, .int .u64 0, .int .u64 0] 65 (0, 0))) := hide (by have h9 := heap_alloc_last (w.alloc (.cells #[.int .u64 (s 0 : Int), .int .u64 (s 1 : Int), .int .u64 (s 2 : Int), .int .u64 (s 3 : Int)] 65)) (.cells #[.int .u64 0, .int .u64 0, .int .u64 0, .int .u64 0] 65); simpa using h9)
  have H3 := hide (Below.chain (alloc_below w (.cells #[.int .u64 (s 0 : Int), .int .u64 (s 1 : Int), .int .u64 (s 2 : Int), .int .u64 (s 3 : Int)] 65)) (alloc_below (w.alloc (.cells #[.int .u64 (s 0 : Int), .int .u64 (s 1 : Int), .int .u64 (s 2 : Int), .int .u64 (s 3 : Int)] 65)) (.cells #[.int .u64 0, .int .u64 0, .int .u64 0, .int .u64 0] 65)))
  go_enter Try.func46, Try.ntmps46
  go_wp2
  go_loopw [4] (fun s4 wr => ∃ k : Nat, k ≤ 4 ∧ s4 = .int .i64 (k : Int) ∧ Hid (SAt wr w.heap.size (hth s k)) ∧ Hid (wr.heap[w.heap.size + 1]? = some (.cells #[.int .u64 0, .int .u64 0, .int .u64 0, .int .u64 0] 65 (0, 0))) ∧ Hid (Below w.heap.size w wr)) (fun i _ => 4 - (intOf i).toNat)
  case atStart => exact ⟨0, by omega, rfl, H1, H2, H3⟩
  case round =>
    obtain ⟨k, hk, rfl, HS, HZ, HB⟩ := hrel
    by_cases hlt : k < 4
    · have hd : decide ((k : Int) < 4) = true := decide_eq_true (by omega)
      obtain ⟨r1, r2⟩ := HS.out.reads k hlt
      rw [show hth s k k = s k by unfold hth; rw [if_neg (Nat.lt_irrefl k)]] at r1
      have q3 := oth_q (s k) (hs k)
      have HP := hide (HS.out.oth hs hlt)
      have HZ2 := hide ((Below.heap_setCell wr ⟨w.heap.size, k, none⟩ (.int .u64 ((2 ^ 64 - 1 - s k : Nat) : Int)) (w.heap.size + 1) (by simp)).trans HZ.out)
      have HB2 := hide (HB.out.setCell (p := ⟨w.heap.size, k, none⟩) (Nat.le_refl _) (.int .u64 ((2 ^ 64 - 1 - s k : Nat) : Int)))
      generalize ((2 ^ 64 - 1 - s k : Nat) : Int) = x at *
      generalize (s k : Int) = y at *
      go_wp2
      go_roundw
      case rel => exact ⟨k + 1, by omega, by go_num, HP, HZ2, HB2⟩
      case measure => simp [intOf]; omega
    · obtain rfl : k = 4 := by omega
      have HR := hide (HS.out.2)
      go_wp2_with (first
        | (refine wpList_load_row rfl 65 (.tmp 1) rfl w.heap.size rfl 65 #[.int .u64 (othS s 0 : Int), .int .u64 (othS s 1 : Int), .int .u64 (othS s 2 : Int), .int .u64 (othS s 3 : Int)] (0, 0) (.array 4 28) HR.out Try.underlying65 rfl sizeB ?_)
        | (refine wpList_store_row rfl 65 (.tmp 2) (.tmp 14) rfl (w.heap.size + 1) #[.int .u64 (othS s 0 : Int), .int .u64 (othS s 1 : Int), .int .u64 (othS s 2 : Int), .int .u64 (othS s 3 : Int)] rfl rfl 65 #[.int .u64 0, .int .u64 0, .int .u64 0, .int .u64 0] HZ.out sizeB rfl (by simp [Value.oneCell']) ?_))
      go_wp2
      refine bodyPost_ret_by (results_cell_row rfl _ _ (w.heap.size + 1) 65 _ (0, 0) _ rfl (setRow_heap _ _ _ _ _ _ HZ.out) Try.underlying65 rfl sizeB) rfl ?_
      exact ⟨rfl, Below.setRow HB.out _ _ (by omega)⟩

end Go.Proofs.Ytmjnedafcfolgaa
