/- Small numbers are what they are: the law FieldSmall answers true, in any world, for all numbers. -/
import Derived.Test.YtbaionconnhdiaaAwake
namespace Go.Proofs.Ytbaionconnhdiaa
open Go.RowKit
theorem el_lits (x : Nat) : ∃ a b c d : Nat, el x = #[.int .u64 (a : Int), .int .u64 (b : Int), .int .u64 (c : Int), .int .u64 (d : Int)] := ⟨_, _, _, _, rfl⟩
/-- Rows in memory, and all that was there before. -/
structure At (w W : World) (rows : List (Nat × Array Value × TypeId)) : Prop where
  rows : ∀ p A T, (p, A, T) ∈ rows → W.heap[p]? = some (.cells A T (0, 0)) ∧ p < W.heap.size
  below : Below w.heap.size w W
theorem At.nil {w W : World} (h : Below w.heap.size w W) : At w W [] := ⟨fun _ _ _ hm => absurd hm (by simp), h⟩
theorem At.step {w W W' : World} {rows : List (Nat × Array Value × TypeId)} (h : At w W rows) (k : Below W.heap.size W W') : At w W' rows :=
  ⟨fun p A T hm => ⟨Below.heap k (h.rows p A T hm).2 (h.rows p A T hm).1, Nat.lt_of_lt_of_le (h.rows p A T hm).2 k.size⟩, Below.chain h.below k⟩
theorem At.drew {w W : World} {rows : List (Nat × Array Value × TypeId)} (h : At w W rows) : At w W.drew rows := ⟨h.rows, h.below.drew⟩
theorem At.alloc {w W : World} {rows : List (Nat × Array Value × TypeId)} (h : At w W rows) (A : Array Value) (T : TypeId) : At w (W.alloc (.cells A T)) ((W.heap.size, A, T) :: rows) := by
  refine ⟨fun p B U hm => ?_, h.below.alloc h.below.size _⟩
  rcases List.mem_cons.1 hm with e | e
  · cases e
    exact ⟨heap_alloc_last _ _, by simp⟩
  · have hr := h.rows p B U e
    exact ⟨(Below.heap_alloc _ _ _ hr.2).trans hr.1, by simp; omega⟩
theorem At.more {w W : World} {rows : List (Nat × Array Value × TypeId)} (h : At w W rows) {g : Nat} {A : Array Value} {T : TypeId} (hg : g < W.heap.size) (hr : W.heap[g]? = some (.cells A T (0, 0))) : At w W ((g, A, T) :: rows) := by
  refine ⟨fun p B U hm => ?_, h.below⟩
  rcases List.mem_cons.1 hm with e | e
  · cases e
    exact ⟨hr, hg⟩
  · exact h.rows p B U e
theorem At.rd {w W : World} {rows : List (Nat × Array Value × TypeId)} (h : At w W rows) {p : Nat} {A : Array Value} {T : TypeId} (hm : (p, A, T) ∈ rows) (i : Nat) : W.cell? ⟨p, i, none⟩ = A[i]? := (row_reads (h.rows p A T hm).1).1 i
theorem u32_wrap (a : Nat) (ha : a < 4294967296) : IntKind.u32.wrap (a : Int) = (a : Int) := by rw [IntKind.wrap_u32]; omega
theorem wraps_u32 (n : Int) (h₀ : 0 ≤ n) (h₁ : n < 2 ^ 32) : IntKind.u32.wrap n = n := by rw [IntKind.wrap_u32]; omega
theorem or_u32 (a b j : Nat) (ha : a < 2 ^ j) (hb : 2 ^ j * b + a < 4294967296) : bits .or .u32 (a : Int) ((2 ^ j * b : Nat) : Int) = ((2 ^ j * b + a : Nat) : Int) := by
  rw [(bits_nat .u32 32 (by decide) wraps_u32 a (2 ^ j * b) (by omega) (by omega)).2, Nat.or_comm, Nat.two_pow_add_eq_or_of_lt ha]
theorem and_u32_1 (a : Nat) (ha : a < 4294967296) : bits .and .u32 (a : Int) 1 = ((a % 2 : Nat) : Int) := by
  have h := (bits_nat .u32 32 (by decide) wraps_u32 a 1 (by omega) (by omega)).1
  rw [show a &&& 1 = a % 2 from Nat.and_two_pow_sub_one_eq_mod a 1] at h
  exact h
theorem and_u32_16 (a : Nat) (ha : a < 4294967296) : bits .and .u32 (a : Int) 65535 = ((a % 65536 : Nat) : Int) := by
  have h := (bits_nat .u32 32 (by decide) wraps_u32 a 65535 (by omega) (by omega)).1
  rw [show a &&& 65535 = a % 65536 from Nat.and_two_pow_sub_one_eq_mod a 16] at h
  exact h
theorem low_bytes (x : Nat) (hx : x < 4294967296) : x = 2 ^ 24 * byt x 3 + (2 ^ 16 * byt x 2 + (2 ^ 8 * byt x 1 + byt x 0)) ∧ byt x 0 < 256 ∧ byt x 1 < 256 ∧ byt x 2 < 256 ∧ byt x 3 < 256 := by
  unfold byt
  simp only [show (256 : Nat) ^ 0 = 1 from rfl, show (256 : Nat) ^ 1 = 256 from rfl, show (256 : Nat) ^ 2 = 65536 from rfl, show (256 : Nat) ^ 3 = 16777216 from rfl]
  omega
set_option maxRecDepth 100000 in
set_option maxHeartbeats 2000000 in
theorem fieldSmall_any (N M n m : Nat) (hN : bits BinOp.and IntKind.u32 (N : Int) 65535 = (n : Int)) (hM : bits BinOp.and IntKind.u32 (M : Int) 65535 = (m : Int)) (hn : n < 65536) (hm : m < 65536) (w : World) :
    Calls Try.prog 5 #[.int .u32 (N : Int), .int .u32 (M : Int)] w fun e w' => e = .returned (.bool true) ∧ Below w.heap.size w w' := by
  have h1 := small_any n (by omega)
  have h2 := small_any m (by omega)
  have hpn : n < pp := by unfold pp; omega
  have hpm : m < pp := by unfold pp; omega
  have hmul := mul_any n m hpn hpm
  have hnm : n * m < 4294967296 := by
    have := Nat.mul_le_mul (show n ≤ 65535 by omega) (show m ≤ 65535 by omega)
    omega
  rw [Nat.mod_eq_of_lt (show n * m < pp by unfold pp; omega)] at hmul
  have hbytes := bytes_any (n * m) (by unfold pp; omega)
  have hadd := add_any n m hpn hpm
  rw [Nat.mod_eq_of_lt (show n + m < pp by unfold pp; omega)] at hadd
  obtain ⟨s, hs⟩ : ∃ s, n + m = s := ⟨_, rfl⟩
  rw [hs] at hadd
  have hss : s < pp := by unfold pp; omega
  have h3 := small_any s (by omega)
  have hsame := same_any s s hss hss
  rw [decide_eq_true rfl] at hsame
  have hodd := isOdd_any n hpn
  have hzero := isZero_any n hpn
  have hsame2 := same_any n m hpn hpm
  obtain ⟨a, b, c, d, he⟩ := el_lits n
  obtain ⟨a', b', c', d', he'⟩ := el_lits m
  rw [he] at h1 hmul hadd hodd hzero hsame2
  rw [he'] at h2 hmul hadd hsame2
  obtain ⟨hval, p0, p1, p2, p3⟩ := low_bytes (n * m) hnm
  obtain ⟨q, hq⟩ : ∃ q, n * m = q := ⟨_, rfl⟩
  have em : IntKind.u32.wrap ((n : Int) * (m : Int)) = (q : Int) := by
    rw [← Int.natCast_mul, hq]; exact u32_wrap q (by omega)
  have es : IntKind.u32.wrap ((n : Int) + (m : Int)) = (s : Int) := by
    rw [← Int.natCast_add, hs]; exact u32_wrap s (by omega)
  rw [hq] at hmul hbytes hval p0 p1 p2 p3 hnm
  generalize hy0 : byt q 0 = y0 at *
  generalize hy1 : byt q 1 = y1 at *
  generalize hy2 : byt q 2 = y2 at *
  generalize hy3 : byt q 3 = y3 at *
  have HY := hide (And.intro hy0 (And.intro hy1 (And.intro hy2 hy3)))
  have o1 := or_u32 y0 y1 8 (by omega) (by omega)
  have o2 := or_u32 (2 ^ 8 * y1 + y0) y2 16 (by omega) (by omega)
  have o3 := or_u32 (2 ^ 16 * y2 + (2 ^ 8 * y1 + y0)) y3 24 (by omega) (by omega)
  rw [← hval] at o3
  have f1 : IntKind.u32.wrap ((y1 : Int) * 256) = ((2 ^ 8 * y1 : Nat) : Int) := by rw [IntKind.wrap_u32]; omega
  have f2 : IntKind.u32.wrap ((y2 : Int) * 65536) = ((2 ^ 16 * y2 : Nat) : Int) := by rw [IntKind.wrap_u32]; omega
  have f3 : IntKind.u32.wrap ((y3 : Int) * 16777216) = ((2 ^ 24 * y3 : Nat) : Int) := by rw [IntKind.wrap_u32]; omega
  have g0 : IntKind.u32.wrap (y0 : Int) = (y0 : Int) := u32_wrap _ (by omega)
  have g1 : IntKind.u32.wrap (y1 : Int) = (y1 : Int) := u32_wrap _ (by omega)
  have g2 : IntKind.u32.wrap (y2 : Int) = (y2 : Int) := u32_wrap _ (by omega)
  have g3 : IntKind.u32.wrap (y3 : Int) = (y3 : Int) := u32_wrap _ (by omega)
  generalize 2 ^ 8 * y1 = z1 at *
  generalize 2 ^ 16 * y2 = z2 at *
  generalize 2 ^ 24 * y3 = z3 at *
  generalize z1 + y0 = t1 at *
  generalize z2 + t1 = t2 at *
  have hand := and_u32_1 n (by omega)
  generalize hpar : n % 2 = par at *
  have hpar2 : par < 2 := by omega
  have z1' : ((n : Int) == 0) = decide (n = 0) := by rw [Bool.eq_iff_iff]; simp
  have z2' : ((par : Int) == 1) = decide (par = 1) := by rw [Bool.eq_iff_iff]; simp; omega
  have z3' : ((n : Int) == (m : Int)) = decide (n = m) := by rw [Bool.eq_iff_iff]; simp; omega
  generalize decide (n = 0) = v1 at *
  generalize decide (par = 1) = v2 at *
  generalize decide (n = m) = v3 at *
  have haw := awake_any
  have HH := hide (And.intro hs (And.intro hq (And.intro hval hpar)))
  have HP := hide (And.intro hpn (And.intro hpm (And.intro hss hnm)))
  clear hs hq hval hpar hpn hpm hss hnm hy0 hy1 hy2 hy3 he he'
  go_enter Try.func5, Try.ntmps5
  go_wp2_with fail
  refine (h1 _).mono ?_
  rintro e w1 ⟨rfl, b1⟩
  go_wp2_with fail
  refine (h2 _).mono ?_
  rintro e w2 ⟨rfl, b2⟩
  have HB := hide (Below.chain b1 b2)
  clear b1 b2 h1 h2
  go_wp2_with fail
  refine (hmul _).mono ?_
  rintro e w3 ⟨rfl, b3⟩
  have T3 := hide (((At.nil HB.out).alloc #[.int .u64 (a : Int), .int .u64 (b : Int), .int .u64 (c : Int), .int .u64 (d : Int)] 28).alloc #[.int .u64 (a' : Int), .int .u64 (b' : Int), .int .u64 (c' : Int), .int .u64 (d' : Int)] 28)
  have T3 := hide (T3.out.step b3)
  simp only [World.size_alloc] at T3
  clear b3 hmul
  go_wp2_with fail
  refine (hbytes _).mono ?_
  rintro e w4 ⟨g, rfl, hg1, hg2, hrow, b4⟩
  have T4 := hide ((T3.out.step b4).more hg2 hrow)
  have c0 := bys_cell hrow 0 (by decide)
  have c1 := bys_cell hrow 1 (by decide)
  have c2 := bys_cell hrow 2 (by decide)
  have c3 := bys_cell hrow 3 (by decide)
  rw [HY.out.1] at c0
  rw [HY.out.2.1] at c1
  rw [HY.out.2.2.1] at c2
  rw [HY.out.2.2.2] at c3
  have ra : ∀ i, w4.cell? ⟨w2.heap.size, i, none⟩ = (#[.int .u64 (a : Int), .int .u64 (b : Int), .int .u64 (c : Int), .int .u64 (d : Int)] : Array Value)[i]? := T4.out.rd (T := 28) (by simp)
  have rb : ∀ i, w4.cell? ⟨w2.heap.size + 1, i, none⟩ = (#[.int .u64 (a' : Int), .int .u64 (b' : Int), .int .u64 (c' : Int), .int .u64 (d' : Int)] : Array Value)[i]? := T4.out.rd (T := 28) (by simp)
  clear b4 T3 hrow hg1 hbytes
  go_wp2_with fail
  have KS : Hid (∀ W : World, At w W [(g, ba (bys q 32), 5), (w2.heap.size + 1, #[.int .u64 (a' : Int), .int .u64 (b' : Int), .int .u64 (c' : Int), .int .u64 (d' : Int)], 28), (w2.heap.size, #[.int .u64 (a : Int), .int .u64 (b : Int), .int .u64 (c : Int), .int .u64 (d : Int)], 28)] → (W.cell? ⟨g, 0, none⟩ = some (.int .u8 (y0 : Int)) ∧ W.cell? ⟨g, 1, none⟩ = some (.int .u8 (y1 : Int)) ∧ W.cell? ⟨g, 2, none⟩ = some (.int .u8 (y2 : Int)) ∧ W.cell? ⟨g, 3, none⟩ = some (.int .u8 (y3 : Int))) ∧ (W.cell? ⟨w2.heap.size, 0, none⟩ = some (.int .u64 (a : Int)) ∧ W.cell? ⟨w2.heap.size, 1, none⟩ = some (.int .u64 (b : Int)) ∧ W.cell? ⟨w2.heap.size, 2, none⟩ = some (.int .u64 (c : Int)) ∧ W.cell? ⟨w2.heap.size, 3, none⟩ = some (.int .u64 (d : Int))) ∧ (W.cell? ⟨w2.heap.size + 1, 0, none⟩ = some (.int .u64 (a' : Int)) ∧ W.cell? ⟨w2.heap.size + 1, 1, none⟩ = some (.int .u64 (b' : Int)) ∧ W.cell? ⟨w2.heap.size + 1, 2, none⟩ = some (.int .u64 (c' : Int)) ∧ W.cell? ⟨w2.heap.size + 1, 3, none⟩ = some (.int .u64 (d' : Int)))) := by
    intro W h
    have hr := (h.rows g (ba (bys q 32)) 5 (by simp)).1
    have k0 := bys_cell hr 0 (by decide)
    have k1 := bys_cell hr 1 (by decide)
    have k2 := bys_cell hr 2 (by decide)
    have k3 := bys_cell hr 3 (by decide)
    rw [HY.out.1] at k0
    rw [HY.out.2.1] at k1
    rw [HY.out.2.2.1] at k2
    rw [HY.out.2.2.2] at k3
    have ra := h.rd (p := w2.heap.size) (T := 28) (A := #[.int .u64 (a : Int), .int .u64 (b : Int), .int .u64 (c : Int), .int .u64 (d : Int)]) (by simp)
    have rb := h.rd (p := w2.heap.size + 1) (T := 28) (A := #[.int .u64 (a' : Int), .int .u64 (b' : Int), .int .u64 (c' : Int), .int .u64 (d' : Int)]) (by simp)
    exact ⟨⟨k0, k1, k2, k3⟩, ⟨ra 0, ra 1, ra 2, ra 3⟩, ⟨rb 0, rb 1, rb 2, rb 3⟩⟩
  simp only [List.append]
  go_region_held3 (fun w' => (w'.cell? ⟨g, 0, none⟩ = some (.int .u8 (y0 : Int)) ∧ w'.cell? ⟨g, 1, none⟩ = some (.int .u8 (y1 : Int)) ∧ w'.cell? ⟨g, 2, none⟩ = some (.int .u8 (y2 : Int)) ∧ w'.cell? ⟨g, 3, none⟩ = some (.int .u8 (y3 : Int))) ∧ (w'.cell? ⟨w2.heap.size, 0, none⟩ = some (.int .u64 (a : Int)) ∧ w'.cell? ⟨w2.heap.size, 1, none⟩ = some (.int .u64 (b : Int)) ∧ w'.cell? ⟨w2.heap.size, 2, none⟩ = some (.int .u64 (c : Int)) ∧ w'.cell? ⟨w2.heap.size, 3, none⟩ = some (.int .u64 (d : Int))) ∧ (w'.cell? ⟨w2.heap.size + 1, 0, none⟩ = some (.int .u64 (a' : Int)) ∧ w'.cell? ⟨w2.heap.size + 1, 1, none⟩ = some (.int .u64 (b' : Int)) ∧ w'.cell? ⟨w2.heap.size + 1, 2, none⟩ = some (.int .u64 (c' : Int)) ∧ w'.cell? ⟨w2.heap.size + 1, 3, none⟩ = some (.int .u64 (d' : Int)))) (first | exact KS.out _ T4.out | exact KS.out _ T4.out.drew) (first
    | (go_at_call 16; refine (hadd _).mono ?_; rintro e w5 ⟨rfl, b5⟩; first | replace T4 := hide (T4.out.step b5) | replace T4 := hide (T4.out.drew.step b5))
    | (go_at_call 11; refine (h3 _).mono ?_; rintro e w5 ⟨rfl, b5⟩; first | replace T4 := hide (T4.out.step b5) | replace T4 := hide (T4.out.drew.step b5))
    | (go_at_call 13; refine (hodd _).mono ?_; rintro e w5 ⟨rfl, b5⟩; first | replace T4 := hide (T4.out.step b5) | replace T4 := hide (T4.out.drew.step b5))
    | (go_at_call 10; refine (hzero _).mono ?_; rintro e w5 ⟨rfl, b5⟩; first | replace T4 := hide (T4.out.step b5) | replace T4 := hide (T4.out.drew.step b5))
    | (go_at_call 9; (first | refine (hsame _).mono ?_ | refine (hsame2 _).mono ?_); rintro e w5 ⟨rfl, b5⟩; first | replace T4 := hide (T4.out.step b5) | replace T4 := hide (T4.out.drew.step b5))
    | (go_at_call 6; refine (haw _).mono ?_; rintro e w5 ⟨rfl, b5⟩; first | replace T4 := hide (T4.out.step b5) | replace T4 := hide (T4.out.drew.step b5)))
  go_wp2
  go_ret
  exact ⟨rfl, T4.out.below⟩
end Go.Proofs.Ytbaionconnhdiaa
