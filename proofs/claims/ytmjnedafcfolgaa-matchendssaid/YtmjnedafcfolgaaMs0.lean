/- Sets of steps in memory: what they are, and that they stay; the program's calls that make, grow and empty one. -/
import Derived.Test.YtmjnedafcfolgaaMt2
import Derived.Test.YtmjnedafcfolgaaRx12
import Derived.Lib.SliceRun
namespace Go.Proofs.Ytmjnedafcfolgaa
open Go.RowKit
/-- All but some blocks stay as they were. -/
structure Kp (S : List Nat) (w w' : World) : Prop where
  os : w'.os = w.os
  tape : w'.tape = w.tape
  output : w'.output = w.output
  size : w.heap.size ≤ w'.heap.size
  block : ∀ k, k < w.heap.size → k ∉ S → w'.heap[k]? = w.heap[k]?
theorem Kp.refl (S : List Nat) (w : World) : Kp S w w := ⟨rfl, rfl, rfl, Nat.le_refl _, fun _ _ _ => rfl⟩
theorem Kp.trans {S : List Nat} {a b c : World} (h : Kp S a b) (k : Kp S b c) : Kp S a c :=
  ⟨k.os.trans h.os, k.tape.trans h.tape, k.output.trans h.output, Nat.le_trans h.size k.size, fun i hi hn => (k.block i (Nat.lt_of_lt_of_le hi h.size) hn).trans (h.block i hi hn)⟩
theorem Kp.mono {S T : List Nat} {a b : World} (h : Kp S a b) (hs : ∀ x ∈ S, x ∈ T) : Kp T a b := ⟨h.os, h.tape, h.output, h.size, fun i hi hn => h.block i hi (fun e => hn (hs i e))⟩
theorem Kp.drew {S : List Nat} {a b : World} (h : Kp S a b) (n : Nat) : Kp S a (b.drewN n) := ⟨h.os, h.tape, h.output, h.size, h.block⟩
theorem Kp.undrew {S : List Nat} {a b : World} (h : Kp S a.drew b) : Kp S a b := ⟨h.os, h.tape, h.output, h.size, h.block⟩
theorem Kp.undrewN {S : List Nat} {a b : World} {n : Nat} (h : Kp S (a.drewN n) b) : Kp S a b := ⟨h.os, h.tape, h.output, h.size, h.block⟩
theorem Kp.alloc {S : List Nat} {a b : World} (h : Kp S a b) (o : Obj) : Kp S a (b.alloc o) :=
  h.trans ⟨rfl, rfl, rfl, by simp, fun k hk _ => Below.heap_alloc _ _ _ hk⟩
theorem Kp.setCell {S : List Nat} {a b : World} (h : Kp S a b) {p : Addr} (hp : p.block ∈ S) (u : Value) : Kp S a (b.setCell p u) :=
  h.trans ⟨rfl, rfl, rfl, by simp [World.setCell], fun k _ hn => Below.heap_setCell _ _ _ _ (fun e => hn (e ▸ hp))⟩
theorem Kp.setRow {S : List Nat} {a b : World} (h : Kp S a b) {g : Nat} (hg : g ∈ S) (cs : Array Value) : Kp S a (b.setRow g cs) :=
  h.trans ⟨rfl, rfl, rfl, by simp, fun k _ hn => setRow_other _ _ _ _ (fun e => hn (e ▸ hg))⟩
theorem Kp.of_below {S : List Nat} {a b : World} (h : Below a.heap.size a b) : Kp S a b := ⟨h.os, h.tape, h.output, h.size, fun k hk _ => h.block k hk⟩
theorem Kp.below {S : List Nat} {B : Nat} {a b : World} (h : Kp S a b) (hB : B ≤ a.heap.size) (hS : ∀ x ∈ S, B ≤ x) : Below B a b := ⟨h.os, h.tape, h.output, h.size, fun k hk => h.block k (by omega) (fun e => by have := hS k e; omega)⟩
theorem Kp.heap {S : List Nat} {a b : World} (h : Kp S a b) {g : Nat} {o : Obj} (hr : a.heap[g]? = some o) (hg : g ∉ S) : b.heap[g]? = some o := (h.block g (Array.getElem?_eq_some_iff.1 hr).1 hg).trans hr
/-- The blocks of a set of steps: its own, its list's, its marks'. -/
structure Sb where
  k : Nat
  a : Nat
  b : Nat
def Sb.all (x : Sb) : List Nat := [x.k, x.a, x.b]
/-- A set of steps. -/
def SsAt (w : World) (x : Sb) (N : Nat) (L : List Nat) : Prop :=
  (Few N L ∧ 0 < N ∧ N ≤ 1000) ∧ w.heap[x.k]? = some (.cells #[.slice (some ⟨x.a, 0, none⟩) L.length N, .slice (some ⟨x.b, 0, none⟩) N N] 45 (0, 0)) ∧
  (∃ cs : Array Value, w.heap[x.a]? = some (.cells cs 3 (0, 0)) ∧ cs.size = N ∧ ∀ (j y : Nat), L[j]? = some y → cs[j]? = some (.int .i64 (y : Int))) ∧
  ∃ bs : Array Value, w.heap[x.b]? = some (.cells bs 4 (0, 0)) ∧ bs.size = N ∧ ∀ j, j < N → bs[j]? = some (.bool (decide (j ∈ L)))
theorem SsAt.kp {w w' : World} {x : Sb} {N : Nat} {L : List Nat} {S : List Nat} (h : SsAt w x N L) (hk : Kp S w w') (hx : ∀ y ∈ x.all, y ∉ S) : SsAt w' x N L := by
  obtain ⟨h1, h2, ⟨cs, h3, h4⟩, bs, h5, h6⟩ := h
  exact ⟨h1, hk.heap h2 (hx _ (by simp [Sb.all])), ⟨cs, hk.heap h3 (hx _ (by simp [Sb.all])), h4⟩, bs, hk.heap h5 (hx _ (by simp [Sb.all])), h6⟩
theorem SsAt.drew {w : World} {x : Sb} {N : Nat} {L : List Nat} (h : SsAt w x N L) : SsAt w.drew x N L := h
theorem SsAt.ne {w : World} {x : Sb} {N : Nat} {L : List Nat} (h : SsAt w x N L) : x.k ≠ x.a ∧ x.k ≠ x.b ∧ x.a ≠ x.b := by
  obtain ⟨h1, h2, ⟨cs, h3, h4⟩, bs, h5, h6⟩ := h
  refine ⟨fun e => ?_, fun e => ?_, fun e => ?_⟩
  · rw [e, h3] at h2; injection h2 with h2; injection h2 with _ h2 _; exact absurd h2 (by decide)
  · rw [e, h5] at h2; injection h2 with h2; injection h2 with _ h2 _; exact absurd h2 (by decide)
  · rw [e, h5] at h3; injection h3 with h3; injection h3 with _ h3 _; exact absurd h3 (by decide)
theorem SsAt.lt {w : World} {x : Sb} {N : Nat} {L : List Nat} (h : SsAt w x N L) : x.k < w.heap.size ∧ x.a < w.heap.size ∧ x.b < w.heap.size := by
  obtain ⟨h1, h2, ⟨cs, h3, h4⟩, bs, h5, h6⟩ := h
  exact ⟨(Array.getElem?_eq_some_iff.1 h2).1, (Array.getElem?_eq_some_iff.1 h3).1, (Array.getElem?_eq_some_iff.1 h5).1⟩
theorem few_lt {N : Nat} {L : List Nat} (h : Few N L) : L.length ≤ N := few_len N L h
/-- A new set, empty. -/
theorem ss_new {w' : World} {x : Sb} {N : Nat} (h0 : 0 < N ∧ N ≤ 1000) (hk : w'.heap[x.k]? = some (.cells #[.slice (some ⟨x.a, 0, none⟩) 0 N, .slice (some ⟨x.b, 0, none⟩) N N] 45 (0, 0)))
    (ha : w'.heap[x.a]? = some (.cells (madeCells #[.int .i64 0] N) 3 (0, 0))) (hb : w'.heap[x.b]? = some (.cells (madeCells #[.bool false] N) 4 (0, 0))) : SsAt w' x N [] := by
  refine ⟨⟨Few.nil N, h0⟩, hk, ⟨_, ha, by rw [size_madeCells], fun j y h => by simp at h⟩, _, hb, by rw [size_madeCells], fun j hj => ?_⟩
  have : (madeCells #[.bool false] N)[j]? = some (.bool false) := by
    unfold madeCells
    simp [hj, Nat.mod_one]
  rw [this]
  simp
theorem mk_ints {N : Nat} (h : N ≤ 1000) (w : World) : (Instr.makeSlice 42 (.int .i64 0) (.int .i64 (N : Int))).run Try.prog w = .ok (.slice (some ⟨w.heap.size, 0, none⟩) 0 N) (w.alloc (.cells (madeCells #[.int .i64 0] N) 3)) := by
  have he : (Try.prog.info? 3).map (fun i => (i.zero, i.size, i.bytes)) = some (some (.int .i64 0), 1, 8) := by kernel_rfl
  cases hi : Try.prog.info? 3 with
  | none => rw [hi] at he; cases he
  | some i =>
    rw [hi] at he
    simp only [Option.map_some, Option.some.injEq, Prod.mk.injEq] at he
    have hr := run_makeSlice (P := Try.prog) w 42 3 i (.int .i64 0) (by kernel_rfl) hi he.1 .i64 .i64 0 (N : Int) (Int.le_refl _) (by omega) (by rw [he.2.1]; omega) (by rw [he.2.2]; omega) (by omega)
    rw [he.2.1] at hr
    simp only [Int.toNat_natCast, Nat.mul_one, Int.toNat_zero] at hr
    exact hr
theorem mk_bools {N : Nat} (h : N ≤ 1000) (w : World) : (Instr.makeSlice 43 (.int .i64 (N : Int)) (.int .i64 (N : Int))).run Try.prog w = .ok (.slice (some ⟨w.heap.size, 0, none⟩) N N) (w.alloc (.cells (madeCells #[.bool false] N) 4)) := by
  have he : (Try.prog.info? 4).map (fun i => (i.zero, i.size, i.bytes)) = some (some (.bool false), 1, 1) := by kernel_rfl
  cases hi : Try.prog.info? 4 with
  | none => rw [hi] at he; cases he
  | some i =>
    rw [hi] at he
    simp only [Option.map_some, Option.some.injEq, Prod.mk.injEq] at he
    have hr := run_makeSlice (P := Try.prog) w 43 4 i (.bool false) (by kernel_rfl) hi he.1 .i64 .i64 (N : Int) (N : Int) (by omega) (by omega) (by rw [he.2.1]; omega) (by rw [he.2.2]; omega) (by omega)
    rw [he.2.1] at hr
    simp only [Int.toNat_natCast, Nat.mul_one] at hr
    exact hr
theorem new3 (w : World) (o1 o2 o3 : Obj) : (((w.alloc o1).alloc o2).alloc o3).drew.heap[w.heap.size]? = some o1 ∧ (((w.alloc o1).alloc o2).alloc o3).drew.heap[w.heap.size + 1]? = some o2 ∧ (((w.alloc o1).alloc o2).alloc o3).drew.heap[w.heap.size + 2]? = some o3 ∧ Below w.heap.size w (((w.alloc o1).alloc o2).alloc o3).drew := by
  have s1 : (w.alloc o1).heap.size = w.heap.size + 1 := by simp
  have s2 : ((w.alloc o1).alloc o2).heap.size = w.heap.size + 2 := by simp
  refine ⟨?_, ?_, ?_, ?_⟩
  · rw [heap_drew, heap_alloc_old _ _ (by omega), heap_alloc_old _ _ (by omega), heap_alloc_new]
  · rw [heap_drew, heap_alloc_old _ _ (by omega), ← s1, heap_alloc_new]
  · rw [heap_drew, ← s2, heap_alloc_new]
  · exact Below.drew (((Below.refl _ _).alloc (Nat.le_refl _) _ |>.alloc (by omega) _).alloc (by omega) _)
set_option maxRecDepth 100000 in
set_option maxHeartbeats 2000000 in
theorem newSteps_any {w : World} {N : Nat} (h0 : 0 < N ∧ N ≤ 1000) : Calls Try.prog 15 #[.int .i64 (N : Int)] w fun e w' => ∃ x : Sb, e = .returned (.pointer (some ⟨x.k, 0, none⟩)) ∧ SsAt w' x N [] ∧ Below w.heap.size w w' ∧ w.heap.size ≤ x.k ∧ w.heap.size ≤ x.a ∧ w.heap.size ≤ x.b := by
  have m1 := mk_ints h0.2
  have m2 := mk_bools h0.2
  have H0 := hide h0
  clear h0
  go_enter Try.func15, Try.ntmps15
  go_wp2
  go_region
  all_goals (go_wp2; go_ret)
  · exact ⟨⟨w.heap.size + 2, w.heap.size, w.heap.size + 1⟩, rfl, ss_new H0.out (new3 w _ _ _).2.2.1 (new3 w _ _ _).1 (new3 w _ _ _).2.1, (new3 w _ _ _).2.2.2, by simp, by simp, by simp⟩
  · exact ⟨⟨w.heap.size + 2, w.heap.size + 1, w.heap.size⟩, rfl, ss_new H0.out (new3 w _ _ _).2.2.1 (new3 w _ _ _).2.1 (new3 w _ _ _).1, (new3 w _ _ _).2.2.2, by simp, by simp, by simp⟩
end Go.Proofs.Ytmjnedafcfolgaa
