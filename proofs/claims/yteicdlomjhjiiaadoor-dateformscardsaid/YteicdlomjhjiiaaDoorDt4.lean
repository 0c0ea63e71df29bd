/- Numbers in texts, clocks: the program's calls, and the page's. -/
import Derived.Test.YteicdlomjhjiiaaDoorDt3
import Derived.Deep.QuietTactic
import Derived.BigQuiet
namespace Go.Proofs.YteicdlomjhjiiaaDoor
open Go.RowKit
/-- What a byte is as a digit. -/
def dg (c : Nat) : Nat := (c + 208) % 256
def nmk (s : ByteArray) : Nat → Nat
  | 0 => 0
  | k + 1 => 10 * nmk s k + dg (bt s k)
/-- The number of a text's digits. -/
def nm (s : ByteArray) : Nat := nmk s s.size
theorem dg_lt (c : Nat) : dg c ≤ 255 := by unfold dg; omega
theorem nmk_le (s : ByteArray) (k : Nat) (h : k ≤ 3) : nmk s k ≤ 30000 := by
  have := dg_lt (bt s 0)
  have := dg_lt (bt s 1)
  have := dg_lt (bt s 2)
  match k, h with
  | 0, _ => simp [nmk]
  | 1, _ => simp only [nmk]; omega
  | 2, _ => simp only [nmk]; omega
  | 3, _ => simp only [nmk]; omega
theorem wrap_dg (c : Nat) : IntKind.u8.wrap ((c : Int) - 48) = (dg c : Int) := by
  unfold dg
  simp [IntKind.wrap, IntKind.signed, IntKind.bits]
  omega
set_option maxRecDepth 100000 in
set_option maxHeartbeats 1000000 in
theorem number_any (s : ByteArray) (hs : s.size ≤ 4) : Tells 34 #[.string s] (.int .i64 (nm s : Int)) := by
  intro w
  have hs' : (s.size : Int) ≤ 4 := by omega
  have hix : ∀ k, k < s.size → ∀ w_ : World, (Instr.index 9 (.string s) (.int .i64 (k : Int))).run Tryd.prog w_ = .ok (.int .u8 (bt s k : Int)) w_ := fun k hk w_ => str_ix s k hk w_
  have HX := hide hix
  clear hix
  go_enter Tryd.func34, Tryd.ntmps34
  go_wp2
  go_loopw [3, 7] (fun x i wr => ∃ k : Nat, k ≤ s.size ∧ x = .int .i64 (nmk s k : Int) ∧ i = .int .i64 (k : Int) ∧ wr = w) (fun _ i _ => s.size - (intOf i).toNat)
  case atStart => exact ⟨0, Nat.zero_le _, rfl, rfl, rfl⟩
  case round =>
    obtain ⟨k, hk, rfl, rfl, hw⟩ := hrel
    replace hw := hw.symm
    subst hw
    by_cases hlt : k < s.size
    · have hk2 := HX.out k hlt
      have HC := hide (show 10 * nmk s k + dg (bt s k) = nmk s (k + 1) from rfl)
      have b1 := nmk_le s k (by omega)
      have hwd := wrap_dg (bt s k)
      have b2 := dg_lt (bt s k)
      have b3 := bt_lt s k
      generalize bt s k = c at *
      generalize nmk s k = x at *
      have hd : decide ((k : Int) < (s.size : Int)) = true := decide_eq_true (by omega)
      go_wp2
      go_roundw
      case rel => exact ⟨k + 1, hlt, by rw [← HC.out]; show Value.int _ _ = Value.int _ _; congr 1, by go_num, trivial⟩
      case measure => simp [intOf]; omega
    · obtain rfl : k = s.size := by omega
      have HC := hide (show nmk s s.size = nm s from rfl)
      go_wp2
      go_ret
      exact ⟨by rw [← HC.out]; try rfl, rfl⟩
/-- A call that answers v, draws, and leaves memory as it was. -/
abbrev Quiet (f : FuncId) (args : Array Value) (v : Value) : Prop := ∀ w : World, Calls Tryd.prog f args w fun e w' => e = .returned v ∧ ∃ m, w' = w.drewN m
theorem Tells.quiet {f : FuncId} {args : Array Value} {v : Value} (h : Tells f args v) : Quiet f args v := fun w => (h w).mono fun _ _ ⟨he, hw⟩ => ⟨he, 0, by subst hw; rfl⟩
theorem Quiet.of {f : FuncId} {args : Array Value} {v : Value} (h : Quiet f args v) (w : World) (n : Nat) : Calls Tryd.prog f args (w.drewN n) fun e w' => e = .returned v ∧ ∃ m, w' = w.drewN m := Calls.quiet_of (h _)
theorem nm_two {s : ByteArray} (h : s.size = 2) : (dg (bt s 0) : Int) * 10 + (dg (bt s 1) : Int) = (nm s : Int) := by
  unfold nm
  rw [h]
  simp only [nmk]
  omega
set_option maxRecDepth 100000 in
set_option maxHeartbeats 1000000 in
theorem rtwo_any (s : ByteArray) (hs : s.size = 2) : Quiet 23 #[.string s] (.int .i64 (nm s : Int)) := by
  intro w
  have HN := hide (nm_two hs)
  have h0 : ∀ w_ : World, (Instr.index 9 (.string s) (.int .i64 0)).run Tryd.prog w_ = .ok (.int .u8 (bt s 0 : Int)) w_ := str_ix s 0 (by omega)
  have h1 : ∀ w_ : World, (Instr.index 9 (.string s) (.int .i64 1)).run Tryd.prog w_ = .ok (.int .u8 (bt s 1 : Int)) w_ := str_ix s 1 (by omega)
  have w0 := wrap_dg (bt s 0)
  have w1 := wrap_dg (bt s 1)
  have b0 := dg_lt (bt s 0)
  have b1 := dg_lt (bt s 1)
  generalize bt s 0 = c0 at *
  generalize bt s 1 = c1 at *
  go_enter Tryd.func23, Tryd.ntmps23
  go_wp2_with fail
  go_quiet (fail)
  go_wp2
  go_ret
  exact ⟨by rw [← HN.out]; try rfl, _, rfl⟩
/-- Is it a time of a day? -/
def okC (h m x : Int) : Bool := decide (h ≤ 23 ∧ m ≤ 59 ∧ x ≤ 59)
def ckV (h m x : Int) : Int := if okC h m x then 3600 * h + 60 * m + x else 0
abbrev clkV (h m x : Int) : Value := .tuple #[.int .i64 (ckV h m x), .bool (okC h m x)]
set_option maxRecDepth 100000 in
theorem clockOf_any (h m x : Int) (h0 : 0 ≤ h) (m0 : 0 ≤ m) (x0 : 0 ≤ x) : Tells 35 #[.int .i64 h, .int .i64 m, .int .i64 x] (clkV h m x) := by
  intro w
  by_cases c1 : h ≤ 23
  · by_cases c2 : m ≤ 59
    · by_cases c3 : x ≤ 59
      · have hI : okC h m x = true := decide_eq_true ⟨c1, c2, c3⟩
        have hL := hide (show ckV h m x = h * 3600 + m * 60 + x ∧ okC h m x = true from ⟨by unfold ckV; rw [hI, if_pos rfl]; omega, hI⟩)
        clear hI
        go_enter Tryd.func35, Tryd.ntmps35
        go_wp2
        go_ret2
        exact ⟨by unfold clkV; rw [hL.out.1, hL.out.2]; try rfl, rfl⟩
      · have hI : okC h m x = false := decide_eq_false fun hh => c3 hh.2.2
        have hL := hide (show ckV h m x = 0 ∧ okC h m x = false from ⟨by unfold ckV; rw [hI]; rfl, hI⟩)
        clear hI
        go_enter Tryd.func35, Tryd.ntmps35
        go_wp2
        go_ret2
        exact ⟨by unfold clkV; rw [hL.out.1, hL.out.2]; try rfl, rfl⟩
    · have hI : okC h m x = false := decide_eq_false fun hh => c2 hh.2.1
      have hL := hide (show ckV h m x = 0 ∧ okC h m x = false from ⟨by unfold ckV; rw [hI]; rfl, hI⟩)
      clear hI
      go_enter Tryd.func35, Tryd.ntmps35
      go_wp2
      go_ret2
      exact ⟨by unfold clkV; rw [hL.out.1, hL.out.2]; try rfl, rfl⟩
  · have hI : okC h m x = false := decide_eq_false fun hh => c1 hh.1
    have hL := hide (show ckV h m x = 0 ∧ okC h m x = false from ⟨by unfold ckV; rw [hI]; rfl, hI⟩)
    clear hI
    go_enter Tryd.func35, Tryd.ntmps35
    go_wp2
    go_ret2
    exact ⟨by unfold clkV; rw [hL.out.1, hL.out.2]; try rfl, rfl⟩
end Go.Proofs.YteicdlomjhjiiaaDoor
