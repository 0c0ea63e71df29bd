/- The operations of two sides, code by code. -/
import Derived.Test.YtlfhppicglfinaaGreatOp6
namespace Go.Proofs.YtlfhppicglfinaaGreat
open Go.RowKit
set_option maxRecDepth 100000 in
set_option maxHeartbeats 4000000 in
theorem kinds_out {c : Int} (hc : ¬ (1 ≤ c ∧ c ≤ 19)) (ka kb : Int) : Says 14 #[.int .i64 c, .int .i64 ka, .int .i64 kb] (.bool false) := by
  intro w
  have HI := hide (isBinary_any c)
  rw [decide_eq_false (p := 1 ≤ c ∧ c ≤ 19) hc] at HI
  have HB := hide (Below.refl w.heap.size w)
  clear hc
  go_enter Tryz.func14, Tryz.ntmps14
  go_wp2_with fail
  refine (HI.out _).mono ?_
  rintro e_ w_ ⟨rfl, hw⟩
  replace hw := hw.symm
  subst hw
  go_wp2
  go_ret
  exact ⟨rfl, HB.out⟩
set_option maxRecDepth 100000 in
set_option maxHeartbeats 4000000 in
theorem kinds_go {c ka kb : Int} {v : Bool} {fm ft : FuncId} {tb : Array Value} (HT0 : Says 22 #[] (.agg tb)) (hix : ∀ w_, (Instr.index 51 (.agg tb) (.int .i64 c)).run Tryz.prog w_ = .ok (.agg #[fv fm, fv ft]) w_) (em : ∀ xs w, (callFunc fm xs).run Tryz.prog w = .ok (.enter fm xs) w) (hc : 1 ≤ c ∧ c ≤ 19) (hm : Says fm #[kv ka kb] (.bool v)) : Says 14 #[.int .i64 c, .int .i64 ka, .int .i64 kb] (.bool v) := by
  intro w
  have HI := hide (isBinary_any c)
  rw [decide_eq_true (p := 1 ≤ c ∧ c ≤ 19) hc] at HI
  have HT := hide HT0
  have HM := hide hm
  have hfd : ∀ w_, (Instr.field 50 (.agg #[fv fm, fv ft]) 0).run Tryz.prog w_ = .ok (fv fm) w_ := fun w_ => by kernel_rfl
  clear hc HT0 hm
  go_enter Tryz.func14, Tryz.ntmps14
  go_wp2_with fail
  refine (HI.out _).mono ?_
  rintro e_ w_ ⟨rfl, hw⟩
  replace hw := hw.symm
  subst hw
  go_wp2_with fail
  refine (HT.out _).mono ?_
  rintro e_ w1 ⟨rfl, b1⟩
  have B1 := hide b1
  clear b1
  go_wp2_with fail
  refine (HM.out _).mono ?_
  rintro e_ w2 ⟨rfl, b2⟩
  have B2 := hide (Below.chain B1.out b2)
  clear b2
  go_wp2
  go_ret
  exact ⟨rfl, B2.out⟩
set_option maxRecDepth 100000 in
theorem row1 (w_ : World) : (Instr.index 51 (.agg biC) (.int .i64 1)).run Tryz.prog w_ = .ok (.agg #[fv 30, fv 31]) w_ := by kernel_rfl
theorem bin1 {a b : Tm} {a1 : Option Addr} {c1 : Nat} {a2 : Option Addr} {c2 : Nat} {w : World} {R : Tm → Int → Prop} (ha : TAt w a a1 c1) (hb : TAt w b a2 c2) (fa : fixT a = true) (fb : fixT b = true) (hk : (bothB 2 a.k b.k || bothB 4 a.k b.k) = true) (ht : ∀ W, Below w.heap.size w W → TAt W a a1 c1 → TAt W b a2 c2 → Calls Tryz.prog 31 #[sv a a1 c1 b a2 c2] W (OpA R W)) : Calls Tryz.prog 12 #[.int .i64 1, tv a a1 c1, tv b a2 c2] w (OpA R w) :=
  bin_go ha hb binaries_any row1 Tryz.call30 Tryz.call31 fa fb (by decide) (by have h := areMeasures_any a.k b.k; rw [hk] at h; exact h) ht
theorem bin1_type {a b : Tm} {a1 : Option Addr} {c1 : Nat} {a2 : Option Addr} {c2 : Nat} {w : World} (ha : TAt w a a1 c1) (hb : TAt w b a2 c2) (fa : fixT a = true) (fb : fixT b = true) (hk : (bothB 2 a.k b.k || bothB 4 a.k b.k) = false) : Calls Tryz.prog 12 #[.int .i64 1, tv a a1 c1, tv b a2 c2] w (OpF zt 7 w) :=
  bin_type ha hb binaries_any row1 Tryz.call30 fa fb (by decide) (by have h := areMeasures_any a.k b.k; rw [hk] at h; exact h)
theorem bin1F {a b : Tm} {a1 : Option Addr} {c1 : Nat} {a2 : Option Addr} {c2 : Nat} {w : World} {r : Tm} {E : Int} (hf : Fl r) (ha : TAt w a a1 c1) (hb : TAt w b a2 c2) (fa : fixT a = true) (fb : fixT b = true) (hk : (bothB 2 a.k b.k || bothB 4 a.k b.k) = true) (ht : ∀ W, Below w.heap.size w W → TAt W a a1 c1 → TAt W b a2 c2 → Calls Tryz.prog 31 #[sv a a1 c1 b a2 c2] W (OpF r E W)) : Calls Tryz.prog 12 #[.int .i64 1, tv a a1 c1, tv b a2 c2] w (OpF r E w) :=
  bin_goF ha hb binaries_any row1 Tryz.call30 Tryz.call31 hf fa fb (by decide) (by have h := areMeasures_any a.k b.k; rw [hk] at h; exact h) ht
theorem kinds1 (ka kb : Int) : Says 14 #[.int .i64 1, .int .i64 ka, .int .i64 kb] (.bool (bothB 2 ka kb || bothB 4 ka kb)) :=
  kinds_go binaries_any row1 Tryz.call30 (by decide) (areMeasures_any ka kb)
set_option maxRecDepth 100000 in
theorem row2 (w_ : World) : (Instr.index 51 (.agg biC) (.int .i64 2)).run Tryz.prog w_ = .ok (.agg #[fv 30, fv 32]) w_ := by kernel_rfl
theorem bin2 {a b : Tm} {a1 : Option Addr} {c1 : Nat} {a2 : Option Addr} {c2 : Nat} {w : World} {R : Tm → Int → Prop} (ha : TAt w a a1 c1) (hb : TAt w b a2 c2) (fa : fixT a = true) (fb : fixT b = true) (hk : (bothB 2 a.k b.k || bothB 4 a.k b.k) = true) (ht : ∀ W, Below w.heap.size w W → TAt W a a1 c1 → TAt W b a2 c2 → Calls Tryz.prog 32 #[sv a a1 c1 b a2 c2] W (OpA R W)) : Calls Tryz.prog 12 #[.int .i64 2, tv a a1 c1, tv b a2 c2] w (OpA R w) :=
  bin_go ha hb binaries_any row2 Tryz.call30 Tryz.call32 fa fb (by decide) (by have h := areMeasures_any a.k b.k; rw [hk] at h; exact h) ht
theorem bin2_type {a b : Tm} {a1 : Option Addr} {c1 : Nat} {a2 : Option Addr} {c2 : Nat} {w : World} (ha : TAt w a a1 c1) (hb : TAt w b a2 c2) (fa : fixT a = true) (fb : fixT b = true) (hk : (bothB 2 a.k b.k || bothB 4 a.k b.k) = false) : Calls Tryz.prog 12 #[.int .i64 2, tv a a1 c1, tv b a2 c2] w (OpF zt 7 w) :=
  bin_type ha hb binaries_any row2 Tryz.call30 fa fb (by decide) (by have h := areMeasures_any a.k b.k; rw [hk] at h; exact h)
theorem bin2F {a b : Tm} {a1 : Option Addr} {c1 : Nat} {a2 : Option Addr} {c2 : Nat} {w : World} {r : Tm} {E : Int} (hf : Fl r) (ha : TAt w a a1 c1) (hb : TAt w b a2 c2) (fa : fixT a = true) (fb : fixT b = true) (hk : (bothB 2 a.k b.k || bothB 4 a.k b.k) = true) (ht : ∀ W, Below w.heap.size w W → TAt W a a1 c1 → TAt W b a2 c2 → Calls Tryz.prog 32 #[sv a a1 c1 b a2 c2] W (OpF r E W)) : Calls Tryz.prog 12 #[.int .i64 2, tv a a1 c1, tv b a2 c2] w (OpF r E w) :=
  bin_goF ha hb binaries_any row2 Tryz.call30 Tryz.call32 hf fa fb (by decide) (by have h := areMeasures_any a.k b.k; rw [hk] at h; exact h) ht
theorem kinds2 (ka kb : Int) : Says 14 #[.int .i64 2, .int .i64 ka, .int .i64 kb] (.bool (bothB 2 ka kb || bothB 4 ka kb)) :=
  kinds_go binaries_any row2 Tryz.call30 (by decide) (areMeasures_any ka kb)
set_option maxRecDepth 100000 in
theorem row3 (w_ : World) : (Instr.index 51 (.agg biC) (.int .i64 3)).run Tryz.prog w_ = .ok (.agg #[fv 30, fv 33]) w_ := by kernel_rfl
theorem bin3 {a b : Tm} {a1 : Option Addr} {c1 : Nat} {a2 : Option Addr} {c2 : Nat} {w : World} {R : Tm → Int → Prop} (ha : TAt w a a1 c1) (hb : TAt w b a2 c2) (fa : fixT a = true) (fb : fixT b = true) (hk : (bothB 2 a.k b.k || bothB 4 a.k b.k) = true) (ht : ∀ W, Below w.heap.size w W → TAt W a a1 c1 → TAt W b a2 c2 → Calls Tryz.prog 33 #[sv a a1 c1 b a2 c2] W (OpA R W)) : Calls Tryz.prog 12 #[.int .i64 3, tv a a1 c1, tv b a2 c2] w (OpA R w) :=
  bin_go ha hb binaries_any row3 Tryz.call30 Tryz.call33 fa fb (by decide) (by have h := areMeasures_any a.k b.k; rw [hk] at h; exact h) ht
theorem bin3_type {a b : Tm} {a1 : Option Addr} {c1 : Nat} {a2 : Option Addr} {c2 : Nat} {w : World} (ha : TAt w a a1 c1) (hb : TAt w b a2 c2) (fa : fixT a = true) (fb : fixT b = true) (hk : (bothB 2 a.k b.k || bothB 4 a.k b.k) = false) : Calls Tryz.prog 12 #[.int .i64 3, tv a a1 c1, tv b a2 c2] w (OpF zt 7 w) :=
  bin_type ha hb binaries_any row3 Tryz.call30 fa fb (by decide) (by have h := areMeasures_any a.k b.k; rw [hk] at h; exact h)
theorem bin3F {a b : Tm} {a1 : Option Addr} {c1 : Nat} {a2 : Option Addr} {c2 : Nat} {w : World} {r : Tm} {E : Int} (hf : Fl r) (ha : TAt w a a1 c1) (hb : TAt w b a2 c2) (fa : fixT a = true) (fb : fixT b = true) (hk : (bothB 2 a.k b.k || bothB 4 a.k b.k) = true) (ht : ∀ W, Below w.heap.size w W → TAt W a a1 c1 → TAt W b a2 c2 → Calls Tryz.prog 33 #[sv a a1 c1 b a2 c2] W (OpF r E W)) : Calls Tryz.prog 12 #[.int .i64 3, tv a a1 c1, tv b a2 c2] w (OpF r E w) :=
  bin_goF ha hb binaries_any row3 Tryz.call30 Tryz.call33 hf fa fb (by decide) (by have h := areMeasures_any a.k b.k; rw [hk] at h; exact h) ht
theorem kinds3 (ka kb : Int) : Says 14 #[.int .i64 3, .int .i64 ka, .int .i64 kb] (.bool (bothB 2 ka kb || bothB 4 ka kb)) :=
  kinds_go binaries_any row3 Tryz.call30 (by decide) (areMeasures_any ka kb)
set_option maxRecDepth 100000 in
theorem row4 (w_ : World) : (Instr.index 51 (.agg biC) (.int .i64 4)).run Tryz.prog w_ = .ok (.agg #[fv 30, fv 34]) w_ := by kernel_rfl
theorem bin4 {a b : Tm} {a1 : Option Addr} {c1 : Nat} {a2 : Option Addr} {c2 : Nat} {w : World} {R : Tm → Int → Prop} (ha : TAt w a a1 c1) (hb : TAt w b a2 c2) (fa : fixT a = true) (fb : fixT b = true) (hk : (bothB 2 a.k b.k || bothB 4 a.k b.k) = true) (ht : ∀ W, Below w.heap.size w W → TAt W a a1 c1 → TAt W b a2 c2 → Calls Tryz.prog 34 #[sv a a1 c1 b a2 c2] W (OpA R W)) : Calls Tryz.prog 12 #[.int .i64 4, tv a a1 c1, tv b a2 c2] w (OpA R w) :=
  bin_go ha hb binaries_any row4 Tryz.call30 Tryz.call34 fa fb (by decide) (by have h := areMeasures_any a.k b.k; rw [hk] at h; exact h) ht
theorem bin4_type {a b : Tm} {a1 : Option Addr} {c1 : Nat} {a2 : Option Addr} {c2 : Nat} {w : World} (ha : TAt w a a1 c1) (hb : TAt w b a2 c2) (fa : fixT a = true) (fb : fixT b = true) (hk : (bothB 2 a.k b.k || bothB 4 a.k b.k) = false) : Calls Tryz.prog 12 #[.int .i64 4, tv a a1 c1, tv b a2 c2] w (OpF zt 7 w) :=
  bin_type ha hb binaries_any row4 Tryz.call30 fa fb (by decide) (by have h := areMeasures_any a.k b.k; rw [hk] at h; exact h)
theorem bin4F {a b : Tm} {a1 : Option Addr} {c1 : Nat} {a2 : Option Addr} {c2 : Nat} {w : World} {r : Tm} {E : Int} (hf : Fl r) (ha : TAt w a a1 c1) (hb : TAt w b a2 c2) (fa : fixT a = true) (fb : fixT b = true) (hk : (bothB 2 a.k b.k || bothB 4 a.k b.k) = true) (ht : ∀ W, Below w.heap.size w W → TAt W a a1 c1 → TAt W b a2 c2 → Calls Tryz.prog 34 #[sv a a1 c1 b a2 c2] W (OpF r E W)) : Calls Tryz.prog 12 #[.int .i64 4, tv a a1 c1, tv b a2 c2] w (OpF r E w) :=
  bin_goF ha hb binaries_any row4 Tryz.call30 Tryz.call34 hf fa fb (by decide) (by have h := areMeasures_any a.k b.k; rw [hk] at h; exact h) ht
theorem kinds4 (ka kb : Int) : Says 14 #[.int .i64 4, .int .i64 ka, .int .i64 kb] (.bool (bothB 2 ka kb || bothB 4 ka kb)) :=
  kinds_go binaries_any row4 Tryz.call30 (by decide) (areMeasures_any ka kb)
set_option maxRecDepth 100000 in
theorem row5 (w_ : World) : (Instr.index 51 (.agg biC) (.int .i64 5)).run Tryz.prog w_ = .ok (.agg #[fv 35, fv 36]) w_ := by kernel_rfl
theorem bin5 {a b : Tm} {a1 : Option Addr} {c1 : Nat} {a2 : Option Addr} {c2 : Nat} {w : World} {R : Tm → Int → Prop} (ha : TAt w a a1 c1) (hb : TAt w b a2 c2) (fa : fixT a = true) (fb : fixT b = true) (hk : ((a.k == b.k) && fixK a.k) = true) (ht : ∀ W, Below w.heap.size w W → TAt W a a1 c1 → TAt W b a2 c2 → Calls Tryz.prog 36 #[sv a a1 c1 b a2 c2] W (OpA R W)) : Calls Tryz.prog 12 #[.int .i64 5, tv a a1 c1, tv b a2 c2] w (OpA R w) :=
  bin_go ha hb binaries_any row5 Tryz.call35 Tryz.call36 fa fb (by decide) (by have h := areLike_any a.k b.k; rw [hk] at h; exact h) ht
theorem bin5_type {a b : Tm} {a1 : Option Addr} {c1 : Nat} {a2 : Option Addr} {c2 : Nat} {w : World} (ha : TAt w a a1 c1) (hb : TAt w b a2 c2) (fa : fixT a = true) (fb : fixT b = true) (hk : ((a.k == b.k) && fixK a.k) = false) : Calls Tryz.prog 12 #[.int .i64 5, tv a a1 c1, tv b a2 c2] w (OpF zt 7 w) :=
  bin_type ha hb binaries_any row5 Tryz.call35 fa fb (by decide) (by have h := areLike_any a.k b.k; rw [hk] at h; exact h)
theorem bin5F {a b : Tm} {a1 : Option Addr} {c1 : Nat} {a2 : Option Addr} {c2 : Nat} {w : World} {r : Tm} {E : Int} (hf : Fl r) (ha : TAt w a a1 c1) (hb : TAt w b a2 c2) (fa : fixT a = true) (fb : fixT b = true) (hk : ((a.k == b.k) && fixK a.k) = true) (ht : ∀ W, Below w.heap.size w W → TAt W a a1 c1 → TAt W b a2 c2 → Calls Tryz.prog 36 #[sv a a1 c1 b a2 c2] W (OpF r E W)) : Calls Tryz.prog 12 #[.int .i64 5, tv a a1 c1, tv b a2 c2] w (OpF r E w) :=
  bin_goF ha hb binaries_any row5 Tryz.call35 Tryz.call36 hf fa fb (by decide) (by have h := areLike_any a.k b.k; rw [hk] at h; exact h) ht
theorem kinds5 (ka kb : Int) : Says 14 #[.int .i64 5, .int .i64 ka, .int .i64 kb] (.bool ((ka == kb) && fixK ka)) :=
  kinds_go binaries_any row5 Tryz.call35 (by decide) (areLike_any ka kb)
set_option maxRecDepth 100000 in
theorem row6 (w_ : World) : (Instr.index 51 (.agg biC) (.int .i64 6)).run Tryz.prog w_ = .ok (.agg #[fv 35, fv 37]) w_ := by kernel_rfl
theorem bin6 {a b : Tm} {a1 : Option Addr} {c1 : Nat} {a2 : Option Addr} {c2 : Nat} {w : World} {R : Tm → Int → Prop} (ha : TAt w a a1 c1) (hb : TAt w b a2 c2) (fa : fixT a = true) (fb : fixT b = true) (hk : ((a.k == b.k) && fixK a.k) = true) (ht : ∀ W, Below w.heap.size w W → TAt W a a1 c1 → TAt W b a2 c2 → Calls Tryz.prog 37 #[sv a a1 c1 b a2 c2] W (OpA R W)) : Calls Tryz.prog 12 #[.int .i64 6, tv a a1 c1, tv b a2 c2] w (OpA R w) :=
  bin_go ha hb binaries_any row6 Tryz.call35 Tryz.call37 fa fb (by decide) (by have h := areLike_any a.k b.k; rw [hk] at h; exact h) ht
theorem bin6_type {a b : Tm} {a1 : Option Addr} {c1 : Nat} {a2 : Option Addr} {c2 : Nat} {w : World} (ha : TAt w a a1 c1) (hb : TAt w b a2 c2) (fa : fixT a = true) (fb : fixT b = true) (hk : ((a.k == b.k) && fixK a.k) = false) : Calls Tryz.prog 12 #[.int .i64 6, tv a a1 c1, tv b a2 c2] w (OpF zt 7 w) :=
  bin_type ha hb binaries_any row6 Tryz.call35 fa fb (by decide) (by have h := areLike_any a.k b.k; rw [hk] at h; exact h)
theorem bin6F {a b : Tm} {a1 : Option Addr} {c1 : Nat} {a2 : Option Addr} {c2 : Nat} {w : World} {r : Tm} {E : Int} (hf : Fl r) (ha : TAt w a a1 c1) (hb : TAt w b a2 c2) (fa : fixT a = true) (fb : fixT b = true) (hk : ((a.k == b.k) && fixK a.k) = true) (ht : ∀ W, Below w.heap.size w W → TAt W a a1 c1 → TAt W b a2 c2 → Calls Tryz.prog 37 #[sv a a1 c1 b a2 c2] W (OpF r E W)) : Calls Tryz.prog 12 #[.int .i64 6, tv a a1 c1, tv b a2 c2] w (OpF r E w) :=
  bin_goF ha hb binaries_any row6 Tryz.call35 Tryz.call37 hf fa fb (by decide) (by have h := areLike_any a.k b.k; rw [hk] at h; exact h) ht
theorem kinds6 (ka kb : Int) : Says 14 #[.int .i64 6, .int .i64 ka, .int .i64 kb] (.bool ((ka == kb) && fixK ka)) :=
  kinds_go binaries_any row6 Tryz.call35 (by decide) (areLike_any ka kb)
set_option maxRecDepth 100000 in
theorem row7 (w_ : World) : (Instr.index 51 (.agg biC) (.int .i64 7)).run Tryz.prog w_ = .ok (.agg #[fv 38, fv 39]) w_ := by kernel_rfl
theorem bin7 {a b : Tm} {a1 : Option Addr} {c1 : Nat} {a2 : Option Addr} {c2 : Nat} {w : World} {R : Tm → Int → Prop} (ha : TAt w a a1 c1) (hb : TAt w b a2 c2) (fa : fixT a = true) (fb : fixT b = true) (hk : (bothB 2 a.k b.k || bothB 3 a.k b.k) = true) (ht : ∀ W, Below w.heap.size w W → TAt W a a1 c1 → TAt W b a2 c2 → Calls Tryz.prog 39 #[sv a a1 c1 b a2 c2] W (OpA R W)) : Calls Tryz.prog 12 #[.int .i64 7, tv a a1 c1, tv b a2 c2] w (OpA R w) :=
  bin_go ha hb binaries_any row7 Tryz.call38 Tryz.call39 fa fb (by decide) (by have h := areAddable_any a.k b.k; rw [hk] at h; exact h) ht
theorem bin7_type {a b : Tm} {a1 : Option Addr} {c1 : Nat} {a2 : Option Addr} {c2 : Nat} {w : World} (ha : TAt w a a1 c1) (hb : TAt w b a2 c2) (fa : fixT a = true) (fb : fixT b = true) (hk : (bothB 2 a.k b.k || bothB 3 a.k b.k) = false) : Calls Tryz.prog 12 #[.int .i64 7, tv a a1 c1, tv b a2 c2] w (OpF zt 7 w) :=
  bin_type ha hb binaries_any row7 Tryz.call38 fa fb (by decide) (by have h := areAddable_any a.k b.k; rw [hk] at h; exact h)
theorem bin7F {a b : Tm} {a1 : Option Addr} {c1 : Nat} {a2 : Option Addr} {c2 : Nat} {w : World} {r : Tm} {E : Int} (hf : Fl r) (ha : TAt w a a1 c1) (hb : TAt w b a2 c2) (fa : fixT a = true) (fb : fixT b = true) (hk : (bothB 2 a.k b.k || bothB 3 a.k b.k) = true) (ht : ∀ W, Below w.heap.size w W → TAt W a a1 c1 → TAt W b a2 c2 → Calls Tryz.prog 39 #[sv a a1 c1 b a2 c2] W (OpF r E W)) : Calls Tryz.prog 12 #[.int .i64 7, tv a a1 c1, tv b a2 c2] w (OpF r E w) :=
  bin_goF ha hb binaries_any row7 Tryz.call38 Tryz.call39 hf fa fb (by decide) (by have h := areAddable_any a.k b.k; rw [hk] at h; exact h) ht
theorem kinds7 (ka kb : Int) : Says 14 #[.int .i64 7, .int .i64 ka, .int .i64 kb] (.bool (bothB 2 ka kb || bothB 3 ka kb)) :=
  kinds_go binaries_any row7 Tryz.call38 (by decide) (areAddable_any ka kb)
set_option maxRecDepth 100000 in
theorem row8 (w_ : World) : (Instr.index 51 (.agg biC) (.int .i64 8)).run Tryz.prog w_ = .ok (.agg #[fv 40, fv 41]) w_ := by kernel_rfl
theorem bin8 {a b : Tm} {a1 : Option Addr} {c1 : Nat} {a2 : Option Addr} {c2 : Nat} {w : World} {R : Tm → Int → Prop} (ha : TAt w a a1 c1) (hb : TAt w b a2 c2) (fa : fixT a = true) (fb : fixT b = true) (hk : (bothB 2 a.k b.k) = true) (ht : ∀ W, Below w.heap.size w W → TAt W a a1 c1 → TAt W b a2 c2 → Calls Tryz.prog 41 #[sv a a1 c1 b a2 c2] W (OpA R W)) : Calls Tryz.prog 12 #[.int .i64 8, tv a a1 c1, tv b a2 c2] w (OpA R w) :=
  bin_go ha hb binaries_any row8 Tryz.call40 Tryz.call41 fa fb (by decide) (by have h := areNumbers_any a.k b.k; rw [hk] at h; exact h) ht
theorem bin8_type {a b : Tm} {a1 : Option Addr} {c1 : Nat} {a2 : Option Addr} {c2 : Nat} {w : World} (ha : TAt w a a1 c1) (hb : TAt w b a2 c2) (fa : fixT a = true) (fb : fixT b = true) (hk : (bothB 2 a.k b.k) = false) : Calls Tryz.prog 12 #[.int .i64 8, tv a a1 c1, tv b a2 c2] w (OpF zt 7 w) :=
  bin_type ha hb binaries_any row8 Tryz.call40 fa fb (by decide) (by have h := areNumbers_any a.k b.k; rw [hk] at h; exact h)
theorem bin8F {a b : Tm} {a1 : Option Addr} {c1 : Nat} {a2 : Option Addr} {c2 : Nat} {w : World} {r : Tm} {E : Int} (hf : Fl r) (ha : TAt w a a1 c1) (hb : TAt w b a2 c2) (fa : fixT a = true) (fb : fixT b = true) (hk : (bothB 2 a.k b.k) = true) (ht : ∀ W, Below w.heap.size w W → TAt W a a1 c1 → TAt W b a2 c2 → Calls Tryz.prog 41 #[sv a a1 c1 b a2 c2] W (OpF r E W)) : Calls Tryz.prog 12 #[.int .i64 8, tv a a1 c1, tv b a2 c2] w (OpF r E w) :=
  bin_goF ha hb binaries_any row8 Tryz.call40 Tryz.call41 hf fa fb (by decide) (by have h := areNumbers_any a.k b.k; rw [hk] at h; exact h) ht
theorem kinds8 (ka kb : Int) : Says 14 #[.int .i64 8, .int .i64 ka, .int .i64 kb] (.bool (bothB 2 ka kb)) :=
  kinds_go binaries_any row8 Tryz.call40 (by decide) (areNumbers_any ka kb)
set_option maxRecDepth 100000 in
theorem row9 (w_ : World) : (Instr.index 51 (.agg biC) (.int .i64 9)).run Tryz.prog w_ = .ok (.agg #[fv 40, fv 42]) w_ := by kernel_rfl
theorem bin9 {a b : Tm} {a1 : Option Addr} {c1 : Nat} {a2 : Option Addr} {c2 : Nat} {w : World} {R : Tm → Int → Prop} (ha : TAt w a a1 c1) (hb : TAt w b a2 c2) (fa : fixT a = true) (fb : fixT b = true) (hk : (bothB 2 a.k b.k) = true) (ht : ∀ W, Below w.heap.size w W → TAt W a a1 c1 → TAt W b a2 c2 → Calls Tryz.prog 42 #[sv a a1 c1 b a2 c2] W (OpA R W)) : Calls Tryz.prog 12 #[.int .i64 9, tv a a1 c1, tv b a2 c2] w (OpA R w) :=
  bin_go ha hb binaries_any row9 Tryz.call40 Tryz.call42 fa fb (by decide) (by have h := areNumbers_any a.k b.k; rw [hk] at h; exact h) ht
theorem bin9_type {a b : Tm} {a1 : Option Addr} {c1 : Nat} {a2 : Option Addr} {c2 : Nat} {w : World} (ha : TAt w a a1 c1) (hb : TAt w b a2 c2) (fa : fixT a = true) (fb : fixT b = true) (hk : (bothB 2 a.k b.k) = false) : Calls Tryz.prog 12 #[.int .i64 9, tv a a1 c1, tv b a2 c2] w (OpF zt 7 w) :=
  bin_type ha hb binaries_any row9 Tryz.call40 fa fb (by decide) (by have h := areNumbers_any a.k b.k; rw [hk] at h; exact h)
theorem bin9F {a b : Tm} {a1 : Option Addr} {c1 : Nat} {a2 : Option Addr} {c2 : Nat} {w : World} {r : Tm} {E : Int} (hf : Fl r) (ha : TAt w a a1 c1) (hb : TAt w b a2 c2) (fa : fixT a = true) (fb : fixT b = true) (hk : (bothB 2 a.k b.k) = true) (ht : ∀ W, Below w.heap.size w W → TAt W a a1 c1 → TAt W b a2 c2 → Calls Tryz.prog 42 #[sv a a1 c1 b a2 c2] W (OpF r E W)) : Calls Tryz.prog 12 #[.int .i64 9, tv a a1 c1, tv b a2 c2] w (OpF r E w) :=
  bin_goF ha hb binaries_any row9 Tryz.call40 Tryz.call42 hf fa fb (by decide) (by have h := areNumbers_any a.k b.k; rw [hk] at h; exact h) ht
theorem kinds9 (ka kb : Int) : Says 14 #[.int .i64 9, .int .i64 ka, .int .i64 kb] (.bool (bothB 2 ka kb)) :=
  kinds_go binaries_any row9 Tryz.call40 (by decide) (areNumbers_any ka kb)
set_option maxRecDepth 100000 in
theorem row10 (w_ : World) : (Instr.index 51 (.agg biC) (.int .i64 10)).run Tryz.prog w_ = .ok (.agg #[fv 40, fv 43]) w_ := by kernel_rfl
theorem bin10 {a b : Tm} {a1 : Option Addr} {c1 : Nat} {a2 : Option Addr} {c2 : Nat} {w : World} {R : Tm → Int → Prop} (ha : TAt w a a1 c1) (hb : TAt w b a2 c2) (fa : fixT a = true) (fb : fixT b = true) (hk : (bothB 2 a.k b.k) = true) (ht : ∀ W, Below w.heap.size w W → TAt W a a1 c1 → TAt W b a2 c2 → Calls Tryz.prog 43 #[sv a a1 c1 b a2 c2] W (OpA R W)) : Calls Tryz.prog 12 #[.int .i64 10, tv a a1 c1, tv b a2 c2] w (OpA R w) :=
  bin_go ha hb binaries_any row10 Tryz.call40 Tryz.call43 fa fb (by decide) (by have h := areNumbers_any a.k b.k; rw [hk] at h; exact h) ht
theorem bin10_type {a b : Tm} {a1 : Option Addr} {c1 : Nat} {a2 : Option Addr} {c2 : Nat} {w : World} (ha : TAt w a a1 c1) (hb : TAt w b a2 c2) (fa : fixT a = true) (fb : fixT b = true) (hk : (bothB 2 a.k b.k) = false) : Calls Tryz.prog 12 #[.int .i64 10, tv a a1 c1, tv b a2 c2] w (OpF zt 7 w) :=
  bin_type ha hb binaries_any row10 Tryz.call40 fa fb (by decide) (by have h := areNumbers_any a.k b.k; rw [hk] at h; exact h)
theorem bin10F {a b : Tm} {a1 : Option Addr} {c1 : Nat} {a2 : Option Addr} {c2 : Nat} {w : World} {r : Tm} {E : Int} (hf : Fl r) (ha : TAt w a a1 c1) (hb : TAt w b a2 c2) (fa : fixT a = true) (fb : fixT b = true) (hk : (bothB 2 a.k b.k) = true) (ht : ∀ W, Below w.heap.size w W → TAt W a a1 c1 → TAt W b a2 c2 → Calls Tryz.prog 43 #[sv a a1 c1 b a2 c2] W (OpF r E W)) : Calls Tryz.prog 12 #[.int .i64 10, tv a a1 c1, tv b a2 c2] w (OpF r E w) :=
  bin_goF ha hb binaries_any row10 Tryz.call40 Tryz.call43 hf fa fb (by decide) (by have h := areNumbers_any a.k b.k; rw [hk] at h; exact h) ht
theorem kinds10 (ka kb : Int) : Says 14 #[.int .i64 10, .int .i64 ka, .int .i64 kb] (.bool (bothB 2 ka kb)) :=
  kinds_go binaries_any row10 Tryz.call40 (by decide) (areNumbers_any ka kb)
set_option maxRecDepth 100000 in
theorem row11 (w_ : World) : (Instr.index 51 (.agg biC) (.int .i64 11)).run Tryz.prog w_ = .ok (.agg #[fv 44, fv 45]) w_ := by kernel_rfl
theorem bin11 {a b : Tm} {a1 : Option Addr} {c1 : Nat} {a2 : Option Addr} {c2 : Nat} {w : World} {R : Tm → Int → Prop} (ha : TAt w a a1 c1) (hb : TAt w b a2 c2) (fa : fixT a = true) (fb : fixT b = true) (hk : (bothB 3 a.k b.k || ((a.k == 7) && fixK b.k)) = true) (ht : ∀ W, Below w.heap.size w W → TAt W a a1 c1 → TAt W b a2 c2 → Calls Tryz.prog 45 #[sv a a1 c1 b a2 c2] W (OpA R W)) : Calls Tryz.prog 12 #[.int .i64 11, tv a a1 c1, tv b a2 c2] w (OpA R w) :=
  bin_go ha hb binaries_any row11 Tryz.call44 Tryz.call45 fa fb (by decide) (by have h := areWholeAndPart_any a.k b.k; rw [hk] at h; exact h) ht
theorem bin11_type {a b : Tm} {a1 : Option Addr} {c1 : Nat} {a2 : Option Addr} {c2 : Nat} {w : World} (ha : TAt w a a1 c1) (hb : TAt w b a2 c2) (fa : fixT a = true) (fb : fixT b = true) (hk : (bothB 3 a.k b.k || ((a.k == 7) && fixK b.k)) = false) : Calls Tryz.prog 12 #[.int .i64 11, tv a a1 c1, tv b a2 c2] w (OpF zt 7 w) :=
  bin_type ha hb binaries_any row11 Tryz.call44 fa fb (by decide) (by have h := areWholeAndPart_any a.k b.k; rw [hk] at h; exact h)
theorem bin11F {a b : Tm} {a1 : Option Addr} {c1 : Nat} {a2 : Option Addr} {c2 : Nat} {w : World} {r : Tm} {E : Int} (hf : Fl r) (ha : TAt w a a1 c1) (hb : TAt w b a2 c2) (fa : fixT a = true) (fb : fixT b = true) (hk : (bothB 3 a.k b.k || ((a.k == 7) && fixK b.k)) = true) (ht : ∀ W, Below w.heap.size w W → TAt W a a1 c1 → TAt W b a2 c2 → Calls Tryz.prog 45 #[sv a a1 c1 b a2 c2] W (OpF r E W)) : Calls Tryz.prog 12 #[.int .i64 11, tv a a1 c1, tv b a2 c2] w (OpF r E w) :=
  bin_goF ha hb binaries_any row11 Tryz.call44 Tryz.call45 hf fa fb (by decide) (by have h := areWholeAndPart_any a.k b.k; rw [hk] at h; exact h) ht
theorem kinds11 (ka kb : Int) : Says 14 #[.int .i64 11, .int .i64 ka, .int .i64 kb] (.bool (bothB 3 ka kb || ((ka == 7) && fixK kb))) :=
  kinds_go binaries_any row11 Tryz.call44 (by decide) (areWholeAndPart_any ka kb)
set_option maxRecDepth 100000 in
theorem row12 (w_ : World) : (Instr.index 51 (.agg biC) (.int .i64 12)).run Tryz.prog w_ = .ok (.agg #[fv 46, fv 47]) w_ := by kernel_rfl
theorem bin12 {a b : Tm} {a1 : Option Addr} {c1 : Nat} {a2 : Option Addr} {c2 : Nat} {w : World} {R : Tm → Int → Prop} (ha : TAt w a a1 c1) (hb : TAt w b a2 c2) (fa : fixT a = true) (fb : fixT b = true) (hk : (bothB 3 a.k b.k || bothB 5 a.k b.k) = true) (ht : ∀ W, Below w.heap.size w W → TAt W a a1 c1 → TAt W b a2 c2 → Calls Tryz.prog 47 #[sv a a1 c1 b a2 c2] W (OpA R W)) : Calls Tryz.prog 12 #[.int .i64 12, tv a a1 c1, tv b a2 c2] w (OpA R w) :=
  bin_go ha hb binaries_any row12 Tryz.call46 Tryz.call47 fa fb (by decide) (by have h := areStrings_any a.k b.k; rw [hk] at h; exact h) ht
theorem bin12_type {a b : Tm} {a1 : Option Addr} {c1 : Nat} {a2 : Option Addr} {c2 : Nat} {w : World} (ha : TAt w a a1 c1) (hb : TAt w b a2 c2) (fa : fixT a = true) (fb : fixT b = true) (hk : (bothB 3 a.k b.k || bothB 5 a.k b.k) = false) : Calls Tryz.prog 12 #[.int .i64 12, tv a a1 c1, tv b a2 c2] w (OpF zt 7 w) :=
  bin_type ha hb binaries_any row12 Tryz.call46 fa fb (by decide) (by have h := areStrings_any a.k b.k; rw [hk] at h; exact h)
theorem bin12F {a b : Tm} {a1 : Option Addr} {c1 : Nat} {a2 : Option Addr} {c2 : Nat} {w : World} {r : Tm} {E : Int} (hf : Fl r) (ha : TAt w a a1 c1) (hb : TAt w b a2 c2) (fa : fixT a = true) (fb : fixT b = true) (hk : (bothB 3 a.k b.k || bothB 5 a.k b.k) = true) (ht : ∀ W, Below w.heap.size w W → TAt W a a1 c1 → TAt W b a2 c2 → Calls Tryz.prog 47 #[sv a a1 c1 b a2 c2] W (OpF r E W)) : Calls Tryz.prog 12 #[.int .i64 12, tv a a1 c1, tv b a2 c2] w (OpF r E w) :=
  bin_goF ha hb binaries_any row12 Tryz.call46 Tryz.call47 hf fa fb (by decide) (by have h := areStrings_any a.k b.k; rw [hk] at h; exact h) ht
theorem kinds12 (ka kb : Int) : Says 14 #[.int .i64 12, .int .i64 ka, .int .i64 kb] (.bool (bothB 3 ka kb || bothB 5 ka kb)) :=
  kinds_go binaries_any row12 Tryz.call46 (by decide) (areStrings_any ka kb)
set_option maxRecDepth 100000 in
theorem row13 (w_ : World) : (Instr.index 51 (.agg biC) (.int .i64 13)).run Tryz.prog w_ = .ok (.agg #[fv 46, fv 48]) w_ := by kernel_rfl
theorem bin13 {a b : Tm} {a1 : Option Addr} {c1 : Nat} {a2 : Option Addr} {c2 : Nat} {w : World} {R : Tm → Int → Prop} (ha : TAt w a a1 c1) (hb : TAt w b a2 c2) (fa : fixT a = true) (fb : fixT b = true) (hk : (bothB 3 a.k b.k || bothB 5 a.k b.k) = true) (ht : ∀ W, Below w.heap.size w W → TAt W a a1 c1 → TAt W b a2 c2 → Calls Tryz.prog 48 #[sv a a1 c1 b a2 c2] W (OpA R W)) : Calls Tryz.prog 12 #[.int .i64 13, tv a a1 c1, tv b a2 c2] w (OpA R w) :=
  bin_go ha hb binaries_any row13 Tryz.call46 Tryz.call48 fa fb (by decide) (by have h := areStrings_any a.k b.k; rw [hk] at h; exact h) ht
theorem bin13_type {a b : Tm} {a1 : Option Addr} {c1 : Nat} {a2 : Option Addr} {c2 : Nat} {w : World} (ha : TAt w a a1 c1) (hb : TAt w b a2 c2) (fa : fixT a = true) (fb : fixT b = true) (hk : (bothB 3 a.k b.k || bothB 5 a.k b.k) = false) : Calls Tryz.prog 12 #[.int .i64 13, tv a a1 c1, tv b a2 c2] w (OpF zt 7 w) :=
  bin_type ha hb binaries_any row13 Tryz.call46 fa fb (by decide) (by have h := areStrings_any a.k b.k; rw [hk] at h; exact h)
theorem bin13F {a b : Tm} {a1 : Option Addr} {c1 : Nat} {a2 : Option Addr} {c2 : Nat} {w : World} {r : Tm} {E : Int} (hf : Fl r) (ha : TAt w a a1 c1) (hb : TAt w b a2 c2) (fa : fixT a = true) (fb : fixT b = true) (hk : (bothB 3 a.k b.k || bothB 5 a.k b.k) = true) (ht : ∀ W, Below w.heap.size w W → TAt W a a1 c1 → TAt W b a2 c2 → Calls Tryz.prog 48 #[sv a a1 c1 b a2 c2] W (OpF r E W)) : Calls Tryz.prog 12 #[.int .i64 13, tv a a1 c1, tv b a2 c2] w (OpF r E w) :=
  bin_goF ha hb binaries_any row13 Tryz.call46 Tryz.call48 hf fa fb (by decide) (by have h := areStrings_any a.k b.k; rw [hk] at h; exact h) ht
theorem kinds13 (ka kb : Int) : Says 14 #[.int .i64 13, .int .i64 ka, .int .i64 kb] (.bool (bothB 3 ka kb || bothB 5 ka kb)) :=
  kinds_go binaries_any row13 Tryz.call46 (by decide) (areStrings_any ka kb)
set_option maxRecDepth 100000 in
theorem row14 (w_ : World) : (Instr.index 51 (.agg biC) (.int .i64 14)).run Tryz.prog w_ = .ok (.agg #[fv 49, fv 50]) w_ := by kernel_rfl
theorem bin14 {a b : Tm} {a1 : Option Addr} {c1 : Nat} {a2 : Option Addr} {c2 : Nat} {w : World} {R : Tm → Int → Prop} (ha : TAt w a a1 c1) (hb : TAt w b a2 c2) (fa : fixT a = true) (fb : fixT b = true) (hk : (bothB 3 a.k b.k) = true) (ht : ∀ W, Below w.heap.size w W → TAt W a a1 c1 → TAt W b a2 c2 → Calls Tryz.prog 50 #[sv a a1 c1 b a2 c2] W (OpA R W)) : Calls Tryz.prog 12 #[.int .i64 14, tv a a1 c1, tv b a2 c2] w (OpA R w) :=
  bin_go ha hb binaries_any row14 Tryz.call49 Tryz.call50 fa fb (by decide) (by have h := areTexts_any a.k b.k; rw [hk] at h; exact h) ht
theorem bin14_type {a b : Tm} {a1 : Option Addr} {c1 : Nat} {a2 : Option Addr} {c2 : Nat} {w : World} (ha : TAt w a a1 c1) (hb : TAt w b a2 c2) (fa : fixT a = true) (fb : fixT b = true) (hk : (bothB 3 a.k b.k) = false) : Calls Tryz.prog 12 #[.int .i64 14, tv a a1 c1, tv b a2 c2] w (OpF zt 7 w) :=
  bin_type ha hb binaries_any row14 Tryz.call49 fa fb (by decide) (by have h := areTexts_any a.k b.k; rw [hk] at h; exact h)
theorem bin14F {a b : Tm} {a1 : Option Addr} {c1 : Nat} {a2 : Option Addr} {c2 : Nat} {w : World} {r : Tm} {E : Int} (hf : Fl r) (ha : TAt w a a1 c1) (hb : TAt w b a2 c2) (fa : fixT a = true) (fb : fixT b = true) (hk : (bothB 3 a.k b.k) = true) (ht : ∀ W, Below w.heap.size w W → TAt W a a1 c1 → TAt W b a2 c2 → Calls Tryz.prog 50 #[sv a a1 c1 b a2 c2] W (OpF r E W)) : Calls Tryz.prog 12 #[.int .i64 14, tv a a1 c1, tv b a2 c2] w (OpF r E w) :=
  bin_goF ha hb binaries_any row14 Tryz.call49 Tryz.call50 hf fa fb (by decide) (by have h := areTexts_any a.k b.k; rw [hk] at h; exact h) ht
theorem kinds14 (ka kb : Int) : Says 14 #[.int .i64 14, .int .i64 ka, .int .i64 kb] (.bool (bothB 3 ka kb)) :=
  kinds_go binaries_any row14 Tryz.call49 (by decide) (areTexts_any ka kb)
set_option maxRecDepth 100000 in
theorem row15 (w_ : World) : (Instr.index 51 (.agg biC) (.int .i64 15)).run Tryz.prog w_ = .ok (.agg #[fv 51, fv 52]) w_ := by kernel_rfl
theorem bin15 {a b : Tm} {a1 : Option Addr} {c1 : Nat} {a2 : Option Addr} {c2 : Nat} {w : World} {R : Tm → Int → Prop} (ha : TAt w a a1 c1) (hb : TAt w b a2 c2) (fa : fixT a = true) (fb : fixT b = true) (hk : (bothB 7 a.k b.k) = true) (ht : ∀ W, Below w.heap.size w W → TAt W a a1 c1 → TAt W b a2 c2 → Calls Tryz.prog 52 #[sv a a1 c1 b a2 c2] W (OpA R W)) : Calls Tryz.prog 12 #[.int .i64 15, tv a a1 c1, tv b a2 c2] w (OpA R w) :=
  bin_go ha hb binaries_any row15 Tryz.call51 Tryz.call52 fa fb (by decide) (by have h := areSets_any a.k b.k; rw [hk] at h; exact h) ht
theorem bin15_type {a b : Tm} {a1 : Option Addr} {c1 : Nat} {a2 : Option Addr} {c2 : Nat} {w : World} (ha : TAt w a a1 c1) (hb : TAt w b a2 c2) (fa : fixT a = true) (fb : fixT b = true) (hk : (bothB 7 a.k b.k) = false) : Calls Tryz.prog 12 #[.int .i64 15, tv a a1 c1, tv b a2 c2] w (OpF zt 7 w) :=
  bin_type ha hb binaries_any row15 Tryz.call51 fa fb (by decide) (by have h := areSets_any a.k b.k; rw [hk] at h; exact h)
theorem bin15F {a b : Tm} {a1 : Option Addr} {c1 : Nat} {a2 : Option Addr} {c2 : Nat} {w : World} {r : Tm} {E : Int} (hf : Fl r) (ha : TAt w a a1 c1) (hb : TAt w b a2 c2) (fa : fixT a = true) (fb : fixT b = true) (hk : (bothB 7 a.k b.k) = true) (ht : ∀ W, Below w.heap.size w W → TAt W a a1 c1 → TAt W b a2 c2 → Calls Tryz.prog 52 #[sv a a1 c1 b a2 c2] W (OpF r E W)) : Calls Tryz.prog 12 #[.int .i64 15, tv a a1 c1, tv b a2 c2] w (OpF r E w) :=
  bin_goF ha hb binaries_any row15 Tryz.call51 Tryz.call52 hf fa fb (by decide) (by have h := areSets_any a.k b.k; rw [hk] at h; exact h) ht
theorem kinds15 (ka kb : Int) : Says 14 #[.int .i64 15, .int .i64 ka, .int .i64 kb] (.bool (bothB 7 ka kb)) :=
  kinds_go binaries_any row15 Tryz.call51 (by decide) (areSets_any ka kb)
set_option maxRecDepth 100000 in
theorem row16 (w_ : World) : (Instr.index 51 (.agg biC) (.int .i64 16)).run Tryz.prog w_ = .ok (.agg #[fv 51, fv 53]) w_ := by kernel_rfl
theorem bin16 {a b : Tm} {a1 : Option Addr} {c1 : Nat} {a2 : Option Addr} {c2 : Nat} {w : World} {R : Tm → Int → Prop} (ha : TAt w a a1 c1) (hb : TAt w b a2 c2) (fa : fixT a = true) (fb : fixT b = true) (hk : (bothB 7 a.k b.k) = true) (ht : ∀ W, Below w.heap.size w W → TAt W a a1 c1 → TAt W b a2 c2 → Calls Tryz.prog 53 #[sv a a1 c1 b a2 c2] W (OpA R W)) : Calls Tryz.prog 12 #[.int .i64 16, tv a a1 c1, tv b a2 c2] w (OpA R w) :=
  bin_go ha hb binaries_any row16 Tryz.call51 Tryz.call53 fa fb (by decide) (by have h := areSets_any a.k b.k; rw [hk] at h; exact h) ht
theorem bin16_type {a b : Tm} {a1 : Option Addr} {c1 : Nat} {a2 : Option Addr} {c2 : Nat} {w : World} (ha : TAt w a a1 c1) (hb : TAt w b a2 c2) (fa : fixT a = true) (fb : fixT b = true) (hk : (bothB 7 a.k b.k) = false) : Calls Tryz.prog 12 #[.int .i64 16, tv a a1 c1, tv b a2 c2] w (OpF zt 7 w) :=
  bin_type ha hb binaries_any row16 Tryz.call51 fa fb (by decide) (by have h := areSets_any a.k b.k; rw [hk] at h; exact h)
theorem bin16F {a b : Tm} {a1 : Option Addr} {c1 : Nat} {a2 : Option Addr} {c2 : Nat} {w : World} {r : Tm} {E : Int} (hf : Fl r) (ha : TAt w a a1 c1) (hb : TAt w b a2 c2) (fa : fixT a = true) (fb : fixT b = true) (hk : (bothB 7 a.k b.k) = true) (ht : ∀ W, Below w.heap.size w W → TAt W a a1 c1 → TAt W b a2 c2 → Calls Tryz.prog 53 #[sv a a1 c1 b a2 c2] W (OpF r E W)) : Calls Tryz.prog 12 #[.int .i64 16, tv a a1 c1, tv b a2 c2] w (OpF r E w) :=
  bin_goF ha hb binaries_any row16 Tryz.call51 Tryz.call53 hf fa fb (by decide) (by have h := areSets_any a.k b.k; rw [hk] at h; exact h) ht
theorem kinds16 (ka kb : Int) : Says 14 #[.int .i64 16, .int .i64 ka, .int .i64 kb] (.bool (bothB 7 ka kb)) :=
  kinds_go binaries_any row16 Tryz.call51 (by decide) (areSets_any ka kb)
set_option maxRecDepth 100000 in
theorem row17 (w_ : World) : (Instr.index 51 (.agg biC) (.int .i64 17)).run Tryz.prog w_ = .ok (.agg #[fv 40, fv 54]) w_ := by kernel_rfl
theorem bin17 {a b : Tm} {a1 : Option Addr} {c1 : Nat} {a2 : Option Addr} {c2 : Nat} {w : World} {R : Tm → Int → Prop} (ha : TAt w a a1 c1) (hb : TAt w b a2 c2) (fa : fixT a = true) (fb : fixT b = true) (hk : (bothB 2 a.k b.k) = true) (ht : ∀ W, Below w.heap.size w W → TAt W a a1 c1 → TAt W b a2 c2 → Calls Tryz.prog 54 #[sv a a1 c1 b a2 c2] W (OpA R W)) : Calls Tryz.prog 12 #[.int .i64 17, tv a a1 c1, tv b a2 c2] w (OpA R w) :=
  bin_go ha hb binaries_any row17 Tryz.call40 Tryz.call54 fa fb (by decide) (by have h := areNumbers_any a.k b.k; rw [hk] at h; exact h) ht
theorem bin17_type {a b : Tm} {a1 : Option Addr} {c1 : Nat} {a2 : Option Addr} {c2 : Nat} {w : World} (ha : TAt w a a1 c1) (hb : TAt w b a2 c2) (fa : fixT a = true) (fb : fixT b = true) (hk : (bothB 2 a.k b.k) = false) : Calls Tryz.prog 12 #[.int .i64 17, tv a a1 c1, tv b a2 c2] w (OpF zt 7 w) :=
  bin_type ha hb binaries_any row17 Tryz.call40 fa fb (by decide) (by have h := areNumbers_any a.k b.k; rw [hk] at h; exact h)
theorem bin17F {a b : Tm} {a1 : Option Addr} {c1 : Nat} {a2 : Option Addr} {c2 : Nat} {w : World} {r : Tm} {E : Int} (hf : Fl r) (ha : TAt w a a1 c1) (hb : TAt w b a2 c2) (fa : fixT a = true) (fb : fixT b = true) (hk : (bothB 2 a.k b.k) = true) (ht : ∀ W, Below w.heap.size w W → TAt W a a1 c1 → TAt W b a2 c2 → Calls Tryz.prog 54 #[sv a a1 c1 b a2 c2] W (OpF r E W)) : Calls Tryz.prog 12 #[.int .i64 17, tv a a1 c1, tv b a2 c2] w (OpF r E w) :=
  bin_goF ha hb binaries_any row17 Tryz.call40 Tryz.call54 hf fa fb (by decide) (by have h := areNumbers_any a.k b.k; rw [hk] at h; exact h) ht
theorem kinds17 (ka kb : Int) : Says 14 #[.int .i64 17, .int .i64 ka, .int .i64 kb] (.bool (bothB 2 ka kb)) :=
  kinds_go binaries_any row17 Tryz.call40 (by decide) (areNumbers_any ka kb)
set_option maxRecDepth 100000 in
theorem row18 (w_ : World) : (Instr.index 51 (.agg biC) (.int .i64 18)).run Tryz.prog w_ = .ok (.agg #[fv 40, fv 55]) w_ := by kernel_rfl
theorem bin18 {a b : Tm} {a1 : Option Addr} {c1 : Nat} {a2 : Option Addr} {c2 : Nat} {w : World} {R : Tm → Int → Prop} (ha : TAt w a a1 c1) (hb : TAt w b a2 c2) (fa : fixT a = true) (fb : fixT b = true) (hk : (bothB 2 a.k b.k) = true) (ht : ∀ W, Below w.heap.size w W → TAt W a a1 c1 → TAt W b a2 c2 → Calls Tryz.prog 55 #[sv a a1 c1 b a2 c2] W (OpA R W)) : Calls Tryz.prog 12 #[.int .i64 18, tv a a1 c1, tv b a2 c2] w (OpA R w) :=
  bin_go ha hb binaries_any row18 Tryz.call40 Tryz.call55 fa fb (by decide) (by have h := areNumbers_any a.k b.k; rw [hk] at h; exact h) ht
theorem bin18_type {a b : Tm} {a1 : Option Addr} {c1 : Nat} {a2 : Option Addr} {c2 : Nat} {w : World} (ha : TAt w a a1 c1) (hb : TAt w b a2 c2) (fa : fixT a = true) (fb : fixT b = true) (hk : (bothB 2 a.k b.k) = false) : Calls Tryz.prog 12 #[.int .i64 18, tv a a1 c1, tv b a2 c2] w (OpF zt 7 w) :=
  bin_type ha hb binaries_any row18 Tryz.call40 fa fb (by decide) (by have h := areNumbers_any a.k b.k; rw [hk] at h; exact h)
theorem bin18F {a b : Tm} {a1 : Option Addr} {c1 : Nat} {a2 : Option Addr} {c2 : Nat} {w : World} {r : Tm} {E : Int} (hf : Fl r) (ha : TAt w a a1 c1) (hb : TAt w b a2 c2) (fa : fixT a = true) (fb : fixT b = true) (hk : (bothB 2 a.k b.k) = true) (ht : ∀ W, Below w.heap.size w W → TAt W a a1 c1 → TAt W b a2 c2 → Calls Tryz.prog 55 #[sv a a1 c1 b a2 c2] W (OpF r E W)) : Calls Tryz.prog 12 #[.int .i64 18, tv a a1 c1, tv b a2 c2] w (OpF r E w) :=
  bin_goF ha hb binaries_any row18 Tryz.call40 Tryz.call55 hf fa fb (by decide) (by have h := areNumbers_any a.k b.k; rw [hk] at h; exact h) ht
theorem kinds18 (ka kb : Int) : Says 14 #[.int .i64 18, .int .i64 ka, .int .i64 kb] (.bool (bothB 2 ka kb)) :=
  kinds_go binaries_any row18 Tryz.call40 (by decide) (areNumbers_any ka kb)
set_option maxRecDepth 100000 in
theorem row19 (w_ : World) : (Instr.index 51 (.agg biC) (.int .i64 19)).run Tryz.prog w_ = .ok (.agg #[fv 40, fv 56]) w_ := by kernel_rfl
theorem bin19 {a b : Tm} {a1 : Option Addr} {c1 : Nat} {a2 : Option Addr} {c2 : Nat} {w : World} {R : Tm → Int → Prop} (ha : TAt w a a1 c1) (hb : TAt w b a2 c2) (fa : fixT a = true) (fb : fixT b = true) (hk : (bothB 2 a.k b.k) = true) (ht : ∀ W, Below w.heap.size w W → TAt W a a1 c1 → TAt W b a2 c2 → Calls Tryz.prog 56 #[sv a a1 c1 b a2 c2] W (OpA R W)) : Calls Tryz.prog 12 #[.int .i64 19, tv a a1 c1, tv b a2 c2] w (OpA R w) :=
  bin_go ha hb binaries_any row19 Tryz.call40 Tryz.call56 fa fb (by decide) (by have h := areNumbers_any a.k b.k; rw [hk] at h; exact h) ht
theorem bin19_type {a b : Tm} {a1 : Option Addr} {c1 : Nat} {a2 : Option Addr} {c2 : Nat} {w : World} (ha : TAt w a a1 c1) (hb : TAt w b a2 c2) (fa : fixT a = true) (fb : fixT b = true) (hk : (bothB 2 a.k b.k) = false) : Calls Tryz.prog 12 #[.int .i64 19, tv a a1 c1, tv b a2 c2] w (OpF zt 7 w) :=
  bin_type ha hb binaries_any row19 Tryz.call40 fa fb (by decide) (by have h := areNumbers_any a.k b.k; rw [hk] at h; exact h)
theorem bin19F {a b : Tm} {a1 : Option Addr} {c1 : Nat} {a2 : Option Addr} {c2 : Nat} {w : World} {r : Tm} {E : Int} (hf : Fl r) (ha : TAt w a a1 c1) (hb : TAt w b a2 c2) (fa : fixT a = true) (fb : fixT b = true) (hk : (bothB 2 a.k b.k) = true) (ht : ∀ W, Below w.heap.size w W → TAt W a a1 c1 → TAt W b a2 c2 → Calls Tryz.prog 56 #[sv a a1 c1 b a2 c2] W (OpF r E W)) : Calls Tryz.prog 12 #[.int .i64 19, tv a a1 c1, tv b a2 c2] w (OpF r E w) :=
  bin_goF ha hb binaries_any row19 Tryz.call40 Tryz.call56 hf fa fb (by decide) (by have h := areNumbers_any a.k b.k; rw [hk] at h; exact h) ht
theorem kinds19 (ka kb : Int) : Says 14 #[.int .i64 19, .int .i64 ka, .int .i64 kb] (.bool (bothB 2 ka kb)) :=
  kinds_go binaries_any row19 Tryz.call40 (by decide) (areNumbers_any ka kb)
end Go.Proofs.YtlfhppicglfinaaGreat
