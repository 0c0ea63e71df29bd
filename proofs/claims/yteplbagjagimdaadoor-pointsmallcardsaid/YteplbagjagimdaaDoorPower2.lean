/- A number to an exponent, bit by bit, as the program's call answers it, in any world. -/
import Derived.Test.YteplbagjagimdaaDoorPower
import Derived.Test.YteplbagjagimdaaDoorAtRows
namespace Go.Proofs.YteplbagjagimdaaDoor
open Go.RowKit
theorem At.set4 {w W : World} {rows : List (Nat × Array Value × TypeId)} (h : At w W rows) {g : Nat} (hg : w.heap.size ≤ g) (hne : ∀ p A T, (p, A, T) ∈ rows → p ≠ g) (v0 v1 v2 v3 : Value) :
    At w ((((W.setCell ⟨g, 0, none⟩ v0).setCell ⟨g, 1, none⟩ v1).setCell ⟨g, 2, none⟩ v2).setCell ⟨g, 3, none⟩ v3) rows :=
  ⟨fun p A T hm => ⟨(set4_other _ _ _ _ (hne p A T hm)).trans (h.rows p A T hm).1, by simpa using (h.rows p A T hm).2⟩, Below.set4 h.below hg _ _ _ _⟩
set_option maxRecDepth 100000 in
set_option maxHeartbeats 4000000 in
theorem power_any (x : Nat) (hx : x < pp) (le : List Nat) (hle : le.length = 4) (hlim : lim le) (w : World) :
    Calls Tryd.prog 81 #[.agg (el x), .agg (na le)] w fun e w' => e = .returned (.agg (el (pw x (val le)))) ∧ Below w.heap.size w w' := by
  have h1 := small_any 1 (by decide)
  obtain ⟨a, b, c, d, he⟩ : ∃ a b c d : Nat, el (x) = #[.int .u64 (a : Int), .int .u64 (b : Int), .int .u64 (c : Int), .int .u64 (d : Int)] := ⟨_, _, _, _, rfl⟩
  obtain ⟨o1, o2, o3, o4, ho⟩ : ∃ a b c d : Nat, el (1) = #[.int .u64 (a : Int), .int .u64 (b : Int), .int .u64 (c : Int), .int .u64 (d : Int)] := ⟨_, _, _, _, rfl⟩
  rw [ho] at h1
  have HO := hide ho
  have HE := hide he
  have HX := hide hx
  have HLE := hide (And.intro hle hlim)
  rw [he]
  clear he hx ho hle hlim
  go_enter Tryd.func81, Tryd.ntmps81
  go_wp2_with fail
  refine (h1 _).mono ?_
  rintro e w1 ⟨rfl, b1⟩
  have A0 := hide (((((At.nil (Below.refl w.heap.size w)).alloc #[.int .u64 (a : Int), .int .u64 (b : Int), .int .u64 (c : Int), .int .u64 (d : Int)] 28).alloc (na le) 26).alloc #[.int .u64 0, .int .u64 0, .int .u64 0, .int .u64 0] 28).alloc #[Value.func (Fn.func 86) #[] #[], Value.func (Fn.func 87) #[] #[]] 109)
  have A1 := hide (A0.out.step b1)
  simp only [World.size_alloc] at A1
  have hw1 : w.heap.size + 1 + 1 + 1 < w1.heap.size := (A1.out.rows (w.heap.size + 1 + 1 + 1) #[Value.func (Fn.func 86) #[] #[], Value.func (Fn.func 87) #[] #[]] 109 (by simp)).2
  clear b1 A0 h1
  go_wp2
  go_loopw [7] (fun i wr => ∃ k r0 r1 r2 r3 : Nat, k ≤ 256 ∧ i = .int .i64 ((k : Int) - 1) ∧ #[.int .u64 (r0 : Int), .int .u64 (r1 : Int), .int .u64 (r2 : Int), .int .u64 (r3 : Int)] = el (pw x (val le / 2 ^ k)) ∧ wr.heap[w1.heap.size]? = some (.cells #[.int .u64 (r0 : Int), .int .u64 (r1 : Int), .int .u64 (r2 : Int), .int .u64 (r3 : Int)] 28 (0, 0)) ∧ w1.heap.size < wr.heap.size ∧ At w wr [(w.heap.size + 1 + 1 + 1, #[Value.func (Fn.func 86) #[] #[], Value.func (Fn.func 87) #[] #[]], 109), (w.heap.size + 1 + 1, #[.int .u64 0, .int .u64 0, .int .u64 0, .int .u64 0], 28), (w.heap.size + 1, na le, 26), (w.heap.size, #[.int .u64 (a : Int), .int .u64 (b : Int), .int .u64 (c : Int), .int .u64 (d : Int)], 28)]) (fun i _ => (intOf i + 1).toNat)
  case atStart =>
    refine ⟨256, o1, o2, o3, o4, Nat.le_refl _, rfl, ?_, heap_alloc_last _ _, by simp, ?_⟩
    · rw [← HO.out]
      have hlt := val_lt HLE.out.2
      rw [HLE.out.1] at hlt
      rw [Nat.div_eq_of_lt (Nat.lt_of_lt_of_le hlt (by decide)), pw_none]
    · exact A1.out.step ((Below.refl _ _).alloc (Nat.le_refl _) _)
  case round =>
    obtain ⟨k, r0, r1, r2, r3, hk, rfl, hrow, hR, hlt6, hAt⟩ := hrel
    have AT := hide hAt
    have HR := hide hR
    cases k with
    | zero =>
      have hz := (hAt.rows (w.heap.size + 1 + 1) #[.int .u64 0, .int .u64 0, .int .u64 0, .int .u64 0] 28 (by simp)).1
      have HZ := hide hz
      obtain ⟨cr, cr2⟩ := row_reads hR
      obtain ⟨cz, cz2⟩ := row_reads hz
      have HROW := hide hrow
      clear hz hR hAt hrow
      go_wp2
      refine bodyPost_ret_by (results_cell_row rfl _ _ (w.heap.size + 1 + 1) 28 _ (0, 0) _ rfl (set4_row HZ.out) Tryd.underlying28 rfl (by kernel_rfl)) rfl ⟨?_, Below.set4 AT.out.below (by omega) _ _ _ _⟩
      rw [HROW.out, Nat.pow_zero, Nat.div_one]
    | succ j =>
      rw [show (((j + 1 : Nat) : Int) - 1) = (j : Int) by omega]
      have hpd : pw x (val le / 2 ^ (j + 1)) < pp := pw_lt _ _
      obtain ⟨y, hy⟩ : ∃ y, le.getD (j / 64) 0 = y := ⟨_, rfl⟩
      have hyl : y < 18446744073709551616 := by rw [← hy]; exact HLE.out.2 _
      obtain ⟨bit, hbb⟩ : ∃ bit, y / 2 ^ (j % 64) % 2 = bit := ⟨_, rfl⟩
      have hbit : bits BinOp.and IntKind.u64 ((y : Int) / 2 ^ (j % 64)) 1 = (bit : Int) := by
        have h := and_one (y / 2 ^ (j % 64)) (Nat.lt_of_le_of_lt (Nat.div_le_self _ _) hyl)
        rw [hbb] at h
        rw [← h]; simp
      have hval : val le / 2 ^ j % 2 = bit := by
        rw [← bit_word le HLE.out.2 j, hy, hbb]
      have HPW : Hid (pw x (val le / 2 ^ j) = if bit = 1 then pw x (val le / 2 ^ (j + 1)) * pw x (val le / 2 ^ (j + 1)) % pp * x % pp else pw x (val le / 2 ^ (j + 1)) * pw x (val le / 2 ^ (j + 1)) % pp) := by
        show _ = _
        rw [half (val le) j, hval]
        split
        · rename_i h; rw [h, pw_odd]
        · rename_i h
          rw [show bit = 0 by omega, Nat.add_zero, pw_even]
      obtain ⟨q0, q1, q2, q3, hq⟩ : ∃ a b c d : Nat, el (pw x (val le / 2 ^ j)) = #[.int .u64 (a : Int), .int .u64 (b : Int), .int .u64 (c : Int), .int .u64 (d : Int)] := ⟨_, _, _, _, rfl⟩
      have HQ := hide hq
      have cw : wr.cell? ⟨w.heap.size + 1, j / 64, none⟩ = some (.int .u64 (y : Int)) := by
        rw [hAt.rd (p := w.heap.size + 1) (T := 26) (A := na le) (by simp), na_get _ _ (by rw [HLE.out.1]; omega), hy]
      have ca : ∀ i, wr.cell? ⟨w.heap.size, i, none⟩ = (#[.int .u64 (a : Int), .int .u64 (b : Int), .int .u64 (c : Int), .int .u64 (d : Int)] : Array Value)[i]? := hAt.rd (T := 28) (by simp)
      have cf : ∀ i, wr.cell? ⟨w.heap.size + 1 + 1 + 1, i, none⟩ = (#[Value.func (Fn.func 86) #[] #[], Value.func (Fn.func 87) #[] #[]] : Array Value)[i]? := hAt.rd (T := 109) (by simp)
      obtain ⟨cr, cr2⟩ := row_reads hR
      have HROW := hide hrow
      have hb2 : bit = 0 ∨ bit = 1 := by omega
      have j0 : (0 : Int) ≤ (j : Int) := by omega
      have j1 : (0 : Int) ≤ (j : Int) / 64 := by omega
      have j2 : (j : Int) / 64 < 4 := by omega
      have HBV := hide (And.intro hbb hval)
      clear hAt hR hq hy hbb hval hyl
      have hd : decide ((0 : Int) ≤ (j : Int)) = true := decide_eq_true j0
      rcases hb2 with hbz | hbz
      · have hbits : bits BinOp.and IntKind.u64 ((y : Int) / 2 ^ (j % 64)) 1 = 0 := by rw [hbit, hbz]; rfl
        have HC : Hid (∀ W : World, Calls Tryd.prog 86 #[.agg #[.int .u64 (r0 : Int), .int .u64 (r1 : Int), .int .u64 (r2 : Int), .int .u64 (r3 : Int)], .agg #[.int .u64 (a : Int), .int .u64 (b : Int), .int .u64 (c : Int), .int .u64 (d : Int)]] W fun e w' => e = .returned (.agg #[.int .u64 (q0 : Int), .int .u64 (q1 : Int), .int .u64 (q2 : Int), .int .u64 (q3 : Int)]) ∧ Below W.heap.size W w') := by
          intro W
          have h := alone_any (pw x (val le / 2 ^ (j + 1))) x hpd W
          have e := HPW.out
          rw [if_neg (by omega)] at e
          rw [HROW.out, ← HE.out, ← HQ.out, e]; exact h
        clear hbit hrow hbz hpd HPW
        go_wp2
        go_region_with ((go_at_call 86; with_reducible refine (HC.out _).mono ?_; rintro e w5 ⟨rfl, b5⟩; obtain ⟨z1, z2⟩ := row_reads (Below.heap b5 hlt6 HR.out)))
        all_goals
          have R5 := hide (Below.heap b5 hlt6 HR.out)
          have T5 := hide (AT.out.drew.step b5)
          have hlt5 : w1.heap.size < w5.heap.size := Nat.lt_of_lt_of_le hlt6 b5.size
          clear cw ca cf cr cr2 z1 z2 b5 HC hbits
          go_wp2
          go_roundw
          case rel =>
            refine ⟨j, q0, q1, q2, q3, by omega, rfl, HQ.out.symm, set4_row R5.out, by simpa using hlt5, T5.out.set4 (by omega) ?_ _ _ _ _⟩
            intro p A T hm
            simp only [List.mem_cons, Prod.mk.injEq, List.not_mem_nil, or_false] at hm
            rcases hm with ⟨rfl, _⟩ | ⟨rfl, _⟩ | ⟨rfl, _⟩ | ⟨rfl, _⟩ <;> omega
          case measure => simp [intOf]
      · have hbits : bits BinOp.and IntKind.u64 ((y : Int) / 2 ^ (j % 64)) 1 = 1 := by rw [hbit, hbz]; rfl
        have HC : Hid (∀ W : World, Calls Tryd.prog 87 #[.agg #[.int .u64 (r0 : Int), .int .u64 (r1 : Int), .int .u64 (r2 : Int), .int .u64 (r3 : Int)], .agg #[.int .u64 (a : Int), .int .u64 (b : Int), .int .u64 (c : Int), .int .u64 (d : Int)]] W fun e w' => e = .returned (.agg #[.int .u64 (q0 : Int), .int .u64 (q1 : Int), .int .u64 (q2 : Int), .int .u64 (q3 : Int)]) ∧ Below W.heap.size W w') := by
          intro W
          have h := times_any (pw x (val le / 2 ^ (j + 1))) x hpd HX.out W
          have e := HPW.out
          rw [if_pos hbz] at e
          rw [HROW.out, ← HE.out, ← HQ.out, e]; exact h
        clear hbit hrow hbz hpd HPW
        go_wp2
        go_region_with ((go_at_call 87; with_reducible refine (HC.out _).mono ?_; rintro e w5 ⟨rfl, b5⟩; obtain ⟨z1, z2⟩ := row_reads (Below.heap b5 hlt6 HR.out)))
        all_goals
          have R5 := hide (Below.heap b5 hlt6 HR.out)
          have T5 := hide (AT.out.drew.step b5)
          have hlt5 : w1.heap.size < w5.heap.size := Nat.lt_of_lt_of_le hlt6 b5.size
          clear cw ca cf cr cr2 z1 z2 b5 HC hbits
          go_wp2
          go_roundw
          case rel =>
            refine ⟨j, q0, q1, q2, q3, by omega, rfl, HQ.out.symm, set4_row R5.out, by simpa using hlt5, T5.out.set4 (by omega) ?_ _ _ _ _⟩
            intro p A T hm
            simp only [List.mem_cons, Prod.mk.injEq, List.not_mem_nil, or_false] at hm
            rcases hm with ⟨rfl, _⟩ | ⟨rfl, _⟩ | ⟨rfl, _⟩ | ⟨rfl, _⟩ <;> omega
          case measure => simp [intOf]
end Go.Proofs.YteplbagjagimdaaDoor
