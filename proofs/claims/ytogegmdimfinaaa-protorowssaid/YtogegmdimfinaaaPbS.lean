/- The same fields: the law's own test. -/
import Derived.Test.YtogegmdimfinaaaPbN
import Derived.Test.YtogegmdimfinaaaPbG
namespace Go.Proofs.Ytogegmdimfinaaa
open Go.RowKit
theorem ix_pf (w : World) (b n c k : Nat) (hk : k < n) : (Instr.indexAt 44 (.slice (some ⟨b, 0, none⟩) n c) (.int .i64 (k : Int))).run Try.prog w = .ok (.pointer (some ⟨b, k * 4, none⟩)) w := by
  have h1 : decide ((k : Int) < 0) = false := decide_eq_false (by omega)
  have h2 : ¬ ((n : Int) ≤ (k : Int)) := by omega
  go_simp
theorem ix_rf (w : World) (b n c k : Nat) (hk : k < n) : (Instr.indexAt 48 (.slice (some ⟨b, 0, none⟩) n c) (.int .i64 (k : Int))).run Try.prog w = .ok (.pointer (some ⟨b, k * 4, none⟩)) w := by
  have h1 : decide ((k : Int) < 0) = false := decide_eq_false (by omega)
  have h2 : ¬ ((n : Int) ≤ (k : Int)) := by omega
  go_simp
/-- What the cells of a row of fields hold, in every later world. -/
theorem FsAt.read {T : TypeId} {W : World} {base : Nat} {v : Value} {fs : List Fld} (h : FsAt T W base v fs) (hne : 0 < fs.length) :
    ∃ g cap, v = .slice (some ⟨g, 0, none⟩) fs.length cap ∧ ∀ i f, fs[i]? = some f → ∃ bv, Own W base bv f.b ∧ ∀ w, Below W.heap.size W w → w.cell? ⟨g, i * 4, none⟩ = some (.int .i64 (f.num : Int)) ∧ w.cell? ⟨g, i * 4 + 1, none⟩ = some (.bool f.whole) ∧ w.cell? ⟨g, i * 4 + 2, none⟩ = some (.int .u64 (f.n : Int)) ∧ w.cell? ⟨g, i * 4 + 3, none⟩ = some bv := by
  obtain ⟨g, cap, e, _, _, hg, _, hcs⟩ := h.cells hne
  refine ⟨g, cap, e, fun i f hf => ?_⟩
  obtain ⟨bv, c0, c1, c2, c3, ho⟩ := hcs i f hf
  refine ⟨bv, ho, fun w he => ?_⟩
  rw [Nat.mul_comm i 4]
  exact ⟨(Below.cell (p := ⟨g, 4 * i, none⟩) he hg).trans c0, (Below.cell (p := ⟨g, 4 * i + 1, none⟩) he hg).trans c1, (Below.cell (p := ⟨g, 4 * i + 2, none⟩) he hg).trans c2, (Below.cell (p := ⟨g, 4 * i + 3, none⟩) he hg).trans c3⟩
theorem bne_self' (b : Bool) : (b != b) = false := by cases b <;> rfl
set_option maxRecDepth 100000 in
set_option maxHeartbeats 2000000 in
theorem same_any {va vb : Value} {fs : List Fld} {B1 B2 : Nat} {w : World} (h1 : FsAt 54 w B1 va fs) (h2 : FsAt 53 w B2 vb fs) : Calls Try.prog 24 #[va, vb] w fun e w' => e = .returned (.bool true) ∧ Below w.heap.size w w' := by
  by_cases hn : 0 < fs.length
  · have hbd : fs.length ≤ 9223372036854775807 := by
      obtain ⟨_, _, _, h3, h4, _⟩ := h1.cells hn
      omega
    obtain ⟨g1, k1, rfl, r1⟩ := h1.read hn
    obtain ⟨g2, k2, rfl, r2⟩ := h2.read hn
    have HR := hide (And.intro r1 r2)
    clear h1 h2 r1 r2
    go_enter Try.func24, Try.ntmps24
    go_wp2
    go_loopw [15] (fun i wr => ∃ k : Nat, k ≤ fs.length ∧ i = .int .i64 (k : Int) ∧ Below w.heap.size w wr) (fun i _ => fs.length - (intOf i).toNat)
    case atStart => exact ⟨0, Nat.zero_le _, rfl, Below.refl _ _⟩
    case round =>
      obtain ⟨k, hk, rfl, hB⟩ := hrel
      by_cases hlt : k < fs.length
      · obtain ⟨f, hf⟩ : ∃ f, fs[k]? = some f := ⟨_, List.getElem?_eq_getElem hlt⟩
        obtain ⟨bv1, o1, c1⟩ := HR.out.1 k f hf
        obtain ⟨bv2, o2, c2⟩ := HR.out.2 k f hf
        obtain ⟨a0, a1, a2, a3⟩ := c1 wr hB
        have bA := alloc_below wr (.cells #[.int .i64 (f.num : Int), .bool f.whole, .int .u64 (f.n : Int), bv1] 54)
        have bB := alloc_below (wr.alloc (.cells #[.int .i64 (f.num : Int), .bool f.whole, .int .u64 (f.n : Int), bv1] 54)) (.cells #[.int .i64 (f.num : Int), .bool f.whole, .int .u64 (f.n : Int), bv2] 53)
        obtain ⟨d0, d1, d2, d3⟩ := c2 _ (Below.chain hB bA)
        have hw2 := Below.chain (Below.chain hB bA) bB
        have s1 := run_sob (o1.at.ext hw2)
        have s2 := run_sob (o2.at.ext hw2)
        have i1 := fun w_ => ix_pf w_ g1 fs.length k1 k hlt
        have i2 := fun w_ => ix_rf w_ g2 fs.length k2 k hlt
        have hbw := bne_self' f.whole
        have hbN : ((f.n : Int) != (f.n : Int)) = false := by simp
        have HX := hide hw2
        obtain ⟨p1, l1, q1, rfl⟩ := own_form o1
        obtain ⟨p2, l2, q2, rfl⟩ := own_form o2
        generalize hSS : sob f.b = S at *
        generalize f.num = fn at *
        generalize f.whole = fw at *
        generalize f.n = fN at *
        clear o1 o2 c1 c2 hB bA bB hw2 hSS
        go_wp2
        go_roundw
        case rel => exact ⟨k + 1, by omega, by go_num, HX.out⟩
        case measure => simp [intOf]; omega
      · obtain rfl : k = fs.length := by omega
        have HX := hide hB
        clear hB
        go_wp2
        go_ret
        exact ⟨rfl, HX.out⟩
  · obtain rfl : fs = [] := List.eq_nil_of_length_eq_zero (by omega)
    obtain ⟨a1, c1, rfl⟩ := FsAt.empty h1
    obtain ⟨a2, c2, rfl⟩ := FsAt.empty h2
    clear h1 h2 hn
    go_enter Try.func24, Try.ntmps24
    go_wp2
    go_loopw [15] (fun i wr => i = .int .i64 0 ∧ wr = w) (fun _ _ => 0)
    case atStart => exact ⟨rfl, rfl⟩
    case round =>
      obtain ⟨rfl, rfl⟩ := hrel
      go_wp2
      go_ret
      exact ⟨rfl, Below.refl _ _⟩
end Go.Proofs.Ytogegmdimfinaaa
