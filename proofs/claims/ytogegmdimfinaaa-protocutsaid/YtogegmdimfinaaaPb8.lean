/- A number, or bytes, put as a field of a message. -/
import Derived.Test.YtogegmdimfinaaaPb7
namespace Go.Proofs.Ytogegmdimfinaaa
open Go.RowKit
theorem rs1 {w : World} {v : Value} {a : List Nat} (h : BsAt w v a) : RsAt (w.alloc (.cells #[v] 30)) (.slice (some ⟨w.heap.size, 0, none⟩) 1 1) [a] := by
  refine ⟨_, w.heap.size, 1, [v], rfl, rfl, by simp, by simp, fun _ => ⟨rfl, by simp, fun i hi => ?_⟩⟩
  obtain rfl : i = 0 := by simpa using hi
  exact ⟨(row_reads (heap_alloc_last w (.cells #[v] 30))).1 0, h.ext (alloc_below _ _)⟩
theorem rs2 {w : World} {v u : Value} {a b : List Nat} (h : BsAt w v a) (k : BsAt w u b) : RsAt (w.alloc (.cells #[v, u] 30)) (.slice (some ⟨w.heap.size, 0, none⟩) 2 2) [a, b] := by
  refine ⟨_, w.heap.size, 2, [v, u], rfl, rfl, by simp, by simp, fun _ => ⟨rfl, by simp, fun i hi => ?_⟩⟩
  have hr := (row_reads (heap_alloc_last w (.cells #[v, u] 30))).1
  obtain rfl | rfl : i = 0 ∨ i = 1 := by simp at hi; omega
  · exact ⟨hr 0, h.ext (alloc_below _ _)⟩
  · exact ⟨hr 1, k.ext (alloc_below _ _)⟩
/-- What a field of a number is, and one of bytes, as pieces. -/
def putI (num : Int) (n : Nat) : List (List Nat) := pbs num 0 (vbn n)
def putR (num : Int) (b : List Nat) : List (List Nat) := if b.length ≤ 65536 then pbs num 2 (vbn b.length ++ b) else []
set_option maxRecDepth 100000 in
set_option maxHeartbeats 1000000 in
theorem Int_any {g n : Nat} {bs : List (List Nat)} {num : Int} {w : World} {A : Nat → Prop} (h : MAtX w A g bs) (hn : n < 18446744073709551616) (hA : ∀ k, w.heap.size ≤ k → A k := by intros; trivial) :
    Calls Try.prog 13 #[.pointer (some ⟨g, 0, none⟩), .int .i64 num, .int .u64 (n : Int)] w fun e w' => e = .returned (.tuple #[]) ∧ MAtX w' A g (bs ++ putI num n) ∧ w.grownBy w' (some g) := by
  have HV := hide (varint_w n w hn)
  have H0 := hide h
  have HAA := hide hA
  clear hA
  unfold putI
  have hvl := hide (vbn_le n)
  generalize vbn n = V at *
  clear h hn
  obtain ⟨PB, hPB⟩ : ∃ PB, bs ++ pbs num 0 V = PB := ⟨_, rfl⟩
  rw [hPB]
  have HP := hide hPB
  clear hPB
  go_enter Try.func13, Try.ntmps13
  go_wp2_with fail
  refine HV.out.mono ?_
  rintro e w1 ⟨v1, rfl, o1, b1⟩
  obtain ⟨va, vc, hv1, _, _⟩ := o1.at.len
  have hrs := rs1 o1.at
  have b2 := Below.chain b1 (alloc_below w1 (.cells #[v1] 30))
  have HC := hide (put_any (wire := 0) (num := num) (H0.out.ext b2) hrs (by decide) (by have := hvl.out; simp; omega) (fun k hk => HAA.out k (Nat.le_trans b2.size hk)))
  have HB := hide b2
  clear o1 b1 b2 hrs
  rw [show ([V] : List (List Nat)).flatten = V by simp, HP.out] at HC
  subst hv1
  generalize V.length = vl at *
  go_wp2_with fail
  refine HC.out.mono ?_
  rintro e w2 ⟨rfl, m2, g2⟩
  have R := hide (And.intro m2 (grown_trans (Ext.gr HB.out (some g)) g2))
  clear m2 g2 HC
  go_wp2
  go_end0
  exact ⟨rfl, R.out.1, R.out.2⟩
set_option maxRecDepth 100000 in
set_option maxHeartbeats 1000000 in
theorem Raw_any {g : Nat} {bs : List (List Nat)} {num : Int} {bv : Value} {b : List Nat} {w : World} {A : Nat → Prop} (h : MAtX w A g bs) (hb : BsAt w bv b) (hA : ∀ k, w.heap.size ≤ k → A k := by intros; trivial) :
    Calls Try.prog 11 #[.pointer (some ⟨g, 0, none⟩), .int .i64 num, bv] w fun e w' => e = .returned (.tuple #[]) ∧ MAtX w' A g (bs ++ putR num b) ∧ w.grownBy w' (some g) := by
  unfold putR
  have HAA := hide hA
  clear hA
  by_cases hl : b.length ≤ 65536
  · rw [if_pos hl]
    have HV := hide (varint_w b.length w (by omega))
    have H0 := hide (And.intro h (And.intro hb hl))
    have hvl := hide (vbn_le b.length)
    generalize vbn b.length = V at *
    obtain ⟨PB, hPB⟩ : ∃ PB, bs ++ pbs num 2 (V ++ b) = PB := ⟨_, rfl⟩
    rw [hPB]
    have HP := hide hPB
    obtain ⟨ba, bc, rfl, _, _⟩ := hb.len
    have hd : decide ((65536 : Int) < (b.length : Int)) = false := decide_eq_false (by omega)
    have ew : IntKind.u64.wrap ((b.length : Nat) : Int) = ((b.length : Nat) : Int) := by rw [IntKind.wrap_u64]; omega
    clear hPB h hb hl
    go_enter Try.func11, Try.ntmps11
    go_wp2_with fail
    refine HV.out.mono ?_
    rintro e w1 ⟨v1, rfl, o1, b1⟩
    obtain ⟨va, vc, hv1, _, _⟩ := o1.at.len
    have hrs := rs2 o1.at (H0.out.2.1.ext b1)
    have b2 := Below.chain b1 (alloc_below w1 (.cells #[v1, .slice ba b.length bc] 30))
    have HC := hide (put_any (wire := 2) (num := num) (H0.out.1.ext b2) hrs (by decide) (by have h1 := hvl.out; have h2 := H0.out.2.2; simp; omega) (fun k hk => HAA.out k (Nat.le_trans b2.size hk)))
    have HB := hide b2
    clear o1 b1 b2 hrs
    rw [show ([V, b] : List (List Nat)).flatten = V ++ b by simp, HP.out] at HC
    subst hv1
    generalize V.length = vl at *
    go_wp2_with fail
    refine HC.out.mono ?_
    rintro e w2 ⟨rfl, m2, g2⟩
    have R := hide (And.intro m2 (grown_trans (Ext.gr HB.out (some g)) g2))
    clear m2 g2 HC
    go_wp2
    go_end0
    exact ⟨rfl, R.out.1, R.out.2⟩
  · rw [if_neg hl, List.append_nil]
    have H0 := hide (And.intro h (grown_refl w (some g)))
    obtain ⟨ba, bc, rfl, _, _⟩ := hb.len
    have hd : decide ((65536 : Int) < (b.length : Int)) = true := decide_eq_true (by omega)
    clear h hb
    go_enter Try.func11, Try.ntmps11
    go_wp2
    exact bodyPost_ret_by (v := .tuple #[]) (results_none rfl _ _ _) rfl ⟨rfl, H0.out.1, H0.out.2⟩
set_option maxRecDepth 100000 in
theorem put_nil (num : Int) (wire : Nat) (ao : Option Addr) (n c : Nat) (w : World) : Calls Try.prog 25 #[.pointer none, .int .i64 num, .int .u64 (wire : Int), .slice ao n c] w fun e w' => e = .returned (.tuple #[]) ∧ w' = w := by
  go_enter Try.func25, Try.ntmps25
  go_wp2
  exact bodyPost_ret_by (v := .tuple #[]) (results_none rfl _ _ _) rfl ⟨rfl, rfl⟩
set_option maxRecDepth 100000 in
theorem Int_nil {n : Nat} {num : Int} {w : World} (hn : n < 18446744073709551616) :
    Calls Try.prog 13 #[.pointer none, .int .i64 num, .int .u64 (n : Int)] w fun e w' => e = .returned (.tuple #[]) ∧ Below w.heap.size w w' := by
  have HV := hide (varint_w n w hn)
  generalize vbn n = V at *
  clear hn
  go_enter Try.func13, Try.ntmps13
  go_wp2_with fail
  refine HV.out.mono ?_
  rintro e w1 ⟨v1, rfl, o1, b1⟩
  obtain ⟨va, vc, hv1, _, _⟩ := o1.at.len
  have HB := hide (Below.chain b1 (alloc_below w1 (.cells #[v1] 30)))
  clear o1 b1
  subst hv1
  generalize V.length = vl at *
  go_wp2_with fail
  refine (put_nil num 0 _ _ _ _).mono ?_
  rintro e w2 ⟨rfl, rfl⟩
  go_wp2
  go_end0
  exact ⟨rfl, HB.out⟩
set_option maxRecDepth 100000 in
theorem Raw_nil {num : Int} {bv : Value} {b : List Nat} {w : World} (hb : BsAt w bv b) (hl : b.length ≤ 65536) :
    Calls Try.prog 11 #[.pointer none, .int .i64 num, bv] w fun e w' => e = .returned (.tuple #[]) ∧ Below w.heap.size w w' := by
  have HV := hide (varint_w b.length w (by omega))
  generalize vbn b.length = V at *
  obtain ⟨ba, bc, rfl, _, _⟩ := hb.len
  have hd : decide ((65536 : Int) < (b.length : Int)) = false := decide_eq_false (by omega)
  have ew : IntKind.u64.wrap ((b.length : Nat) : Int) = ((b.length : Nat) : Int) := by rw [IntKind.wrap_u64]; omega
  clear hb hl
  go_enter Try.func11, Try.ntmps11
  go_wp2_with fail
  refine HV.out.mono ?_
  rintro e w1 ⟨v1, rfl, o1, b1⟩
  obtain ⟨va, vc, hv1, _, _⟩ := o1.at.len
  have HB := hide (Below.chain b1 (alloc_below w1 (.cells #[v1, .slice ba b.length bc] 30)))
  clear o1 b1
  subst hv1
  generalize V.length = vl at *
  go_wp2_with fail
  refine (put_nil num 2 _ _ _ _).mono ?_
  rintro e w2 ⟨rfl, rfl⟩
  go_wp2
  go_end0
  exact ⟨rfl, HB.out⟩
end Go.Proofs.Ytogegmdimfinaaa
