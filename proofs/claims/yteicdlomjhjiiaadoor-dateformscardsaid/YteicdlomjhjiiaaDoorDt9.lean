/- Digits of a number: the page's call, the law's. -/
import Derived.Test.YteicdlomjhjiiaaDoorDt8
import Derived.Deep.WholeRow
namespace Go.Proofs.YteicdlomjhjiiaaDoor
open Go.RowKit
theorem alloc_below (w : World) (o : Obj) : Below w.heap.size w (w.alloc o) := (Below.refl _ _).alloc (Nat.le_refl _) _
/-- A byte as a text. -/
theorem run_str1 (w : World) (c : Nat) (hc : c < 256) : (convert 44 9 (.slice (some ⟨w.heap.size, 0, none⟩) 1 1)).run Tryd.prog (w.alloc (.cells #[.int .u8 (c : Int)] 5)) = .ok (.string ⟨#[UInt8.ofNat c]⟩) (w.alloc (.cells #[.int .u8 (c : Int)] 5)) := by
  refine run_convert_bytes_back (P := Tryd.prog) _ 44 9 5 ⟨w.heap.size, 0, none⟩ 1 [UInt8.ofNat c] Tryd.underlying44 Tryd.underlying5 Tryd.underlying9 fun j hj => ?_
  have hj0 : j = 0 := by have : j < 1 := hj; omega
  subst hj0
  have h1 : (w.alloc (.cells #[.int .u8 (c : Int)] 5)).heap[w.heap.size]? = some (.cells #[.int .u8 (c : Int)] 5 (0, 0)) := heap_alloc_last _ _
  have h2 := cell_of_row _ _ 0 _ _ _ h1
  have e : (UInt8.ofNat c).toNat = c := by rw [UInt8.toNat_ofNat']; omega
  simp only [Addr.add, Nat.add_zero, List.getElem_cons_zero]
  rw [e]
  exact h2
theorem run_str2 (w : World) (c d : Nat) (hc : c < 256) (hd : d < 256) : (convert 44 9 (.slice (some ⟨w.heap.size, 0, none⟩) 2 2)).run Tryd.prog (w.alloc (.cells #[.int .u8 (c : Int), .int .u8 (d : Int)] 5)) = .ok (.string ⟨#[UInt8.ofNat c, UInt8.ofNat d]⟩) (w.alloc (.cells #[.int .u8 (c : Int), .int .u8 (d : Int)] 5)) := by
  refine run_convert_bytes_back (P := Tryd.prog) _ 44 9 5 ⟨w.heap.size, 0, none⟩ 2 [UInt8.ofNat c, UInt8.ofNat d] Tryd.underlying44 Tryd.underlying5 Tryd.underlying9 fun j hj => ?_
  have hj2 : j = 0 ∨ j = 1 := by have : j < 2 := hj; omega
  have h1 : (w.alloc (.cells #[.int .u8 (c : Int), .int .u8 (d : Int)] 5)).heap[w.heap.size]? = some (.cells #[.int .u8 (c : Int), .int .u8 (d : Int)] 5 (0, 0)) := heap_alloc_last _ _
  have e : (UInt8.ofNat c).toNat = c := by rw [UInt8.toNat_ofNat']; omega
  have e' : (UInt8.ofNat d).toNat = d := by rw [UInt8.toNat_ofNat']; omega
  rcases hj2 with rfl | rfl
  · have h2 := cell_of_row _ _ 0 _ _ _ h1
    simp only [Addr.add, Nat.add_zero, List.getElem_cons_zero]
    rw [e]
    exact h2
  · have h2 := cell_of_row _ _ 1 _ _ _ h1
    simp only [Addr.add, Nat.zero_add, List.getElem_cons_zero, List.getElem_cons_succ]
    rw [e']
    exact h2
theorem pd_two {n : Nat} (h : n < 100) : (⟨#[UInt8.ofNat (48 + n / 10), UInt8.ofNat (48 + n % 10)]⟩ : ByteArray) = pd n 2 := by
  have e : n / 10 % 10 = n / 10 := by omega
  simp [pd, pw, e]
theorem pd_step {m r : Nat} {x : ByteArray} {l : List UInt8} (h : l = pw m (r + 1) ++ x.data.toList) : l = pw (m / 10) r ++ ((⟨#[UInt8.ofNat (48 + m % 10)]⟩ : ByteArray) ++ x).data.toList := by
  rw [h]
  show pw (m / 10) r ++ [UInt8.ofNat (48 + m % 10)] ++ x.data.toList = _
  rw [ByteArray.data_append]
  simp
theorem pd_end {m : Nat} {x : ByteArray} {n k : Nat} (h : pw n k = pw m 0 ++ x.data.toList) : x = pd n k := by
  apply ByteArray.ext
  unfold pd
  rw [h]
  simp [pw]
theorem pd_room {m r : Nat} {x : ByteArray} {n k : Nat} (h : pw n k = pw m r ++ x.data.toList) : x.size + r = k := by
  have := congrArg List.length h
  rw [List.length_append, pw_len, pw_len] at this
  have e : x.data.toList.length = x.size := rfl
  omega
set_option maxRecDepth 100000 in
set_option maxHeartbeats 1000000 in
theorem two_any (n : Nat) (hn : n < 100) (w : World) : Calls Tryd.prog 18 #[.int .i64 (n : Int)] w fun e w' => e = .returned (.string (pd n 2)) ∧ Below w.heap.size w w' := by
  obtain ⟨c, hc⟩ : ∃ c : Nat, 48 + n / 10 = c := ⟨_, rfl⟩
  obtain ⟨d, hd⟩ : ∃ d : Nat, 48 + n % 10 = d := ⟨_, rfl⟩
  have hci : (48 : Int) + (n : Int) / 10 = (c : Int) := by omega
  have hdi : (48 : Int) + (n : Int) % 10 = (d : Int) := by omega
  have hw1 : (c : Int) % 256 = (c : Int) := by omega
  have hw2 : (d : Int) % 256 = (d : Int) := by omega
  have hst := run_str2 w c d (by omega) (by omega)
  have HP := hide (pd_two hn)
  rw [hc, hd] at HP
  have HB := hide (alloc_below w (.cells #[.int .u8 (c : Int), .int .u8 (d : Int)] 5))
  clear hc hd
  go_enter Tryd.func18, Tryd.ntmps18
  go_wp2
  go_ret
  exact ⟨by rw [← HP.out]; try rfl, HB.out⟩
set_option maxRecDepth 100000 in
set_option maxHeartbeats 1000000 in
theorem pad_any (n k : Nat) (hn : n < 10000) (hk : k ≤ 4) (w : World) : Calls Tryd.prog 32 #[.int .i64 (n : Int), .int .i64 (k : Int)] w fun e w' => e = .returned (.string (pd n k)) ∧ Below w.heap.size w w' := by
  have HB0 := hide (Below.refl w.heap.size w)
  go_enter Tryd.func32, Tryd.ntmps32
  go_wp2
  go_loopw [0, 5, 7] (fun a x i wr => ∃ (m r j : Nat) (s : ByteArray), a = .int .i64 (m : Int) ∧ x = .string s ∧ i = .int .i64 (j : Int) ∧ j + r = k ∧ m < 10000 ∧ pw n k = pw m r ++ s.data.toList ∧ Below w.heap.size w wr) (fun _ _ i _ => k - (intOf i).toNat)
  case atStart => exact ⟨n, k, 0, ⟨#[]⟩, rfl, rfl, rfl, by omega, hn, by simp, HB0.out⟩
  case round =>
    obtain ⟨m, r, j, s, rfl, rfl, rfl, hr, hm, hp, hB⟩ := hrel
    have hz := pd_room hp
    cases r with
    | zero =>
      obtain rfl : j = k := by omega
      have HP := hide (pd_end hp)
      have HB := hide hB
      clear hp hB
      go_wp2
      go_ret
      exact ⟨by rw [← HP.out]; try rfl, HB.out⟩
    | succ r =>
      obtain ⟨c, hc⟩ : ∃ c : Nat, 48 + m % 10 = c := ⟨_, rfl⟩
      obtain ⟨q, hq⟩ : ∃ q : Nat, m / 10 = q := ⟨_, rfl⟩
      have HS := hide (pd_step hp)
      have hci : (48 : Int) + (m : Int) % 10 = (c : Int) := by omega
      have hqi : (m : Int) / 10 = (q : Int) := by omega
      have hw1 : (c : Int) % 256 = (c : Int) := by omega
      have hst := run_str1 wr c (by omega)
      have HB := hide (Below.chain hB (alloc_below wr (.cells #[.int .u8 (c : Int)] 5)))
      rw [hc, hq] at HS
      have hq2 : q < 10000 := by omega
      have hz1 : (⟨#[UInt8.ofNat c]⟩ : ByteArray).size = 1 := rfl
      have hd : decide ((j : Int) < (k : Int)) = true := decide_eq_true (by omega)
      clear hp hB hc hq
      generalize (⟨#[UInt8.ofNat c]⟩ : ByteArray) = u at *
      go_wp2
      go_roundw
      case rel => exact ⟨q, r, j + 1, u ++ s, rfl, rfl, by go_num, by omega, hq2, HS.out, HB.out⟩
      case measure => simp [intOf]; omega
end Go.Proofs.YteicdlomjhjiiaaDoor
