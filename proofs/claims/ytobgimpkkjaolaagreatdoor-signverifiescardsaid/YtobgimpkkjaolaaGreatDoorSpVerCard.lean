/- SignVerifies: for every input that fits the row, with exponents, a root of -1, the order and the hash's tables as the program's text lays them, the law answers true and leaves its arguments as they were. -/
import Derived.Test.YtobgimpkkjaolaaGreatDoorCards
import Derived.Test.YtobgimpkkjaolaaGreatDoorTie
import Derived.Test.YtobgimpkkjaolaaGreatDoorFrame
import Derived.Test.YtobgimpkkjaolaaGreatDoorSpVer
import Derived.Deep.DeepHandedRow
namespace Go.Proofs.YtobgimpkkjaolaaGreatDoor.signVerifies
open Go.ChangeShapes Go.WideShapes Go.ChangeAt Go.RowKit
theorem own : ownKnob Tryz.prog.godebug = none := by kernel_rfl
theorem laidOut : laidOutB Tryz.prog = true := by kernel_rfl
theorem filtI : Rows.signVerifiesRow.laid.filter (fun x => x.1 == nmI) = [(nmI, Lib.tabData .u64 (exw.map fun (n : Nat) => (n : Int)))] := by kernel_rfl
theorem filtE : Rows.signVerifiesRow.laid.filter (fun x => x.1 == nmE) = [(nmE, Lib.tabData .u64 (eiw.map fun (n : Nat) => (n : Int)))] := by kernel_rfl
theorem filtM : Rows.signVerifiesRow.laid.filter (fun x => x.1 == nmM) = [(nmM, Lib.tabData .u64 (rmw.map fun (n : Nat) => (n : Int)))] := by kernel_rfl
theorem filtH : Rows.signVerifiesRow.laid.filter (fun x => x.1 == nmH) = [(nmH, Lib.tabData .u64 (Sh.h0w.map Sh.wn))] := by kernel_rfl
theorem filtK : Rows.signVerifiesRow.laid.filter (fun x => x.1 == nmK) = [(nmK, Lib.tabData .u64 (Sh.kw.map Sh.wn))] := by kernel_rfl
theorem filtO : Rows.signVerifiesRow.laid.filter (fun x => x.1 == nmO) = [(nmO, Lib.tabData .u64 (orw.map fun (n : Nat) => (n : Int)))] := by kernel_rfl
set_option maxRecDepth 100000 in
theorem contract (H : Type) (enc : TypeId × Value → H) (W : World) (base : Nat) (args : Array Value) (ds gs : List (DataW H)) (before : List MemPlace)
    (hval : ∀ (j : Nat) t v, Tryz.f4.params[j]? = some t → args[j]? = some v → Value.okWide Tryz.prog W .any base t v)
    (hW : DataW.Whole enc Tryz.prog Tryz.f4.params.toList Rows.signVerifiesSpec.vars false W args.toList ds gs before) (hL : laidMetH Tryz.prog Rows.signVerifiesRow.laid W) :
    Calls Tryz.prog 4 args W fun e W' => ∃ v, e = .returned v ∧ Rows.signVerifiesSpec.post enc Tryz.prog Tryz.f4 false true false false W args v W' := by
  have hW' := hW
  obtain ⟨p, q, hA0, hV, rfl, hfz, hnd⟩ := hW
  have hA : DataW.TrodAll enc Tryz.prog W 0 (fun _ => true) true Tryz.f4.params.toList args.toList ds p := hA0
  rw [Tryz.params4] at hA hval
  obtain ⟨v0, vs0, d0, ds0, p0, q0, hargs, rfl, rfl, h0, r0⟩ := trodAll_cons hA
  obtain ⟨v1, vs1, d1, ds1, p1, q1, rfl, rfl, rfl, h1, r1⟩ := trodAll_cons r0
  obtain ⟨v2, vs2, d2, ds2, p2, q2, rfl, rfl, rfl, h2, r2⟩ := trodAll_cons r1
  obtain ⟨v3, vs3, d3, ds3, p3, q3, rfl, rfl, rfl, h3, r3⟩ := trodAll_cons r2
  obtain ⟨v4, vs4, d4, ds4, p4, q4, rfl, rfl, rfl, h4, r4⟩ := trodAll_cons r3
  obtain ⟨v5, vs5, d5, ds5, p5, q5, rfl, rfl, rfl, h5, r5⟩ := trodAll_cons r4
  obtain ⟨rfl, rfl, rfl⟩ := trodAll_nil r5
  obtain rfl : args = #[v0, v1, v2, v3, v4, v5] := by cases args; simp_all
  obtain ⟨rfl, rfl⟩ := trodVars_none hV
  have k0 := h0
  have lt0 : ∀ x ∈ p0, x.block < W.heap.size := by obtain ⟨m, hm⟩ := k0; exact DataW.trod_lt m _ _ _ hm
  obtain ⟨a0, len0, cap0, rfl⟩ := okWide_slice Tryz.underlying22 (hval 0 22 v0 rfl rfl)
  obtain ⟨x0, hl0, hold0⟩ : ∃ bs : List Nat, bs.length = len0 ∧ BsAt W (.slice a0 len0 cap0) bs := by
    obtain ⟨fuel, hf⟩ := h0
    rcases open_ints Tryz.underlying22 Tryz.underlying5 (by kernel_rfl) hf with ⟨hcs, _⟩ | ⟨x, l, c, zs, hcs, _, hl, hm, hz, hx, hcell, hwz⟩
    · simp [Value.cells] at hcs
      obtain ⟨rfl, rfl, rfl⟩ := hcs
      exact bsAt_of_row (W := W) (.inl ⟨rfl, rfl, rfl, rfl⟩)
    · simp [Value.cells] at hcs
      obtain ⟨rfl, rfl, rfl⟩ := hcs
      exact bsAt_of_row (W := W) (.inr ⟨_, rfl, hl, hm, by simpa using hz, hcell, hwz⟩)
  clear h0
  have k1 := h1
  have lt1 : ∀ x ∈ p1, x.block < W.heap.size := by obtain ⟨m, hm⟩ := k1; exact DataW.trod_lt m _ _ _ hm
  obtain ⟨a1, len1, cap1, rfl⟩ := okWide_slice Tryz.underlying22 (hval 1 22 v1 rfl rfl)
  obtain ⟨x1, hl1, hold1⟩ : ∃ bs : List Nat, bs.length = len1 ∧ BsAt W (.slice a1 len1 cap1) bs := by
    obtain ⟨fuel, hf⟩ := h1
    rcases open_ints Tryz.underlying22 Tryz.underlying5 (by kernel_rfl) hf with ⟨hcs, _⟩ | ⟨x, l, c, zs, hcs, _, hl, hm, hz, hx, hcell, hwz⟩
    · simp [Value.cells] at hcs
      obtain ⟨rfl, rfl, rfl⟩ := hcs
      exact bsAt_of_row (W := W) (.inl ⟨rfl, rfl, rfl, rfl⟩)
    · simp [Value.cells] at hcs
      obtain ⟨rfl, rfl, rfl⟩ := hcs
      exact bsAt_of_row (W := W) (.inr ⟨_, rfl, hl, hm, by simpa using hz, hcell, hwz⟩)
  clear h1
  have k2 := h2
  have lt2 : ∀ x ∈ p2, x.block < W.heap.size := by obtain ⟨m, hm⟩ := k2; exact DataW.trod_lt m _ _ _ hm
  obtain ⟨n2, rfl, rfl, rfl, wn2⟩ := open_int Tryz.underlying3 (hval 2 3 v2 rfl rfl) h2
  have k3 := h3
  have lt3 : ∀ x ∈ p3, x.block < W.heap.size := by obtain ⟨m, hm⟩ := k3; exact DataW.trod_lt m _ _ _ hm
  obtain ⟨n3, rfl, rfl, rfl, wn3⟩ := open_int Tryz.underlying5 (hval 3 5 v3 rfl rfl) h3
  obtain ⟨y3, rfl, hy3⟩ : ∃ y : Nat, n3 = (y : Int) ∧ y < 256 := ⟨n3.toNat, by have := bounds_u8 wn3; omega, by have := bounds_u8 wn3; omega⟩
  have k4 := h4
  have lt4 : ∀ x ∈ p4, x.block < W.heap.size := by obtain ⟨m, hm⟩ := k4; exact DataW.trod_lt m _ _ _ hm
  obtain ⟨a4, len4, cap4, rfl⟩ := okWide_slice Tryz.underlying22 (hval 4 22 v4 rfl rfl)
  obtain ⟨x4, hl4, hold4⟩ : ∃ bs : List Nat, bs.length = len4 ∧ BsAt W (.slice a4 len4 cap4) bs := by
    obtain ⟨fuel, hf⟩ := h4
    rcases open_ints Tryz.underlying22 Tryz.underlying5 (by kernel_rfl) hf with ⟨hcs, _⟩ | ⟨x, l, c, zs, hcs, _, hl, hm, hz, hx, hcell, hwz⟩
    · simp [Value.cells] at hcs
      obtain ⟨rfl, rfl, rfl⟩ := hcs
      exact bsAt_of_row (W := W) (.inl ⟨rfl, rfl, rfl, rfl⟩)
    · simp [Value.cells] at hcs
      obtain ⟨rfl, rfl, rfl⟩ := hcs
      exact bsAt_of_row (W := W) (.inr ⟨_, rfl, hl, hm, by simpa using hz, hcell, hwz⟩)
  clear h4
  have k5 := h5
  have lt5 : ∀ x ∈ p5, x.block < W.heap.size := by obtain ⟨m, hm⟩ := k5; exact DataW.trod_lt m _ _ _ hm
  obtain ⟨n5, rfl, rfl, rfl, wn5⟩ := open_int Tryz.underlying3 (hval 5 3 v5 rfl rfl) h5
  clear hA0
  have LDi : LaidW 2 exw W := laidW_of rfl (by kernel_rfl) (by kernel_rfl) gI tyI filtI hL
  have LDe : LaidW 3 eiw W := laidW_of rfl (by kernel_rfl) (by kernel_rfl) gE tyE filtE hL
  have LDm : LaidW 1 rmw W := laidW_of rfl (by kernel_rfl) (by kernel_rfl) gM tyM filtM hL
  have LDh := tab_of (zl := Sh.h0w) (n := 8) (W := W) (by decide) (by kernel_rfl) (by kernel_rfl) gH tyH filtH hL
  have LDk := tab_of (zl := Sh.kw) (n := 80) (W := W) (by decide) (by kernel_rfl) (by kernel_rfl) gK tyK filtK hL
  have LDo : LaidW 0 orw W := laidW_of rfl (by kernel_rfl) (by kernel_rfl) gO tyO filtO hL
  refine (signVerifies_walk _ _ _ x0 x1 x4 n2 n5 y3 hold0 hold1 hold4 hy3 LDi LDe LDm (tabs_of LDh LDk) (laid_of LDo)).mono fun e W' ⟨he, bel⟩ => ?_
  subst he
  exact ⟨_, rfl, _, _, _, [], _, [], hW', trodAll_mk1 (shut_bool Tryz.underlying4 _), (trodAll_cons_mk (Below.trod laidOut (by kernel_rfl) (of_decide_eq_true (by kernel_rfl)) k0 bel lt0) (trodAll_cons_mk (Below.trod laidOut (by kernel_rfl) (of_decide_eq_true (by kernel_rfl)) k1 bel lt1) (trodAll_cons_mk (Below.trod laidOut (by kernel_rfl) (of_decide_eq_true (by kernel_rfl)) k2 bel lt2) (trodAll_cons_mk (Below.trod laidOut (by kernel_rfl) (of_decide_eq_true (by kernel_rfl)) k3 bel lt3) (trodAll_cons_mk (Below.trod laidOut (by kernel_rfl) (of_decide_eq_true (by kernel_rfl)) k4 bel lt4) (trodAll_cons_mk (Below.trod laidOut (by kernel_rfl) (of_decide_eq_true (by kernel_rfl)) k5 bel lt5) trodAll_mk0)))))), rfl, bel.frame _, fun h => by cases h⟩
theorem laid_met (os : Os) : laidMet Tryz.prog Rows.signVerifiesRow.laid (World.forCall ({ World.holding Tryz.prog os ⟨#[], #[], []⟩ with heap := (((((((World.holding Tryz.prog os ⟨#[], #[], []⟩).heap).modify 2 (fun | .cells _ t frozen => .cells (na exw) t frozen | o => o)).modify 3 (fun | .cells _ t frozen => .cells (na eiw) t frozen | o => o)).modify 1 (fun | .cells _ t frozen => .cells (na rmw) t frozen | o => o)).modify 4 (fun | .cells _ t frozen => .cells (Sh.wa Sh.h0w) t frozen | o => o)).modify 5 (fun | .cells _ t frozen => .cells (Sh.wa Sh.kw) t frozen | o => o)).modify 0 (fun | .cells _ t frozen => .cells (na orw) t frozen | o => o) } : World) (fun _ _ => 0) ⟨#[], #[.slice none 0 0, .slice none 0 0, .int .i64 0, .int .u8 0, .slice none 0 0, .int .i64 0], []⟩).memory :=
  laidMet_of_run' 8 (by kernel_rfl) (by kernel_rfl)
theorem reads (os : Os) {H : Type} (enc : TypeId × Value → H) : ∃ places, DataW.whole enc Tryz.prog (World.forCall ({ World.holding Tryz.prog os ⟨#[], #[], []⟩ with heap := (((((((World.holding Tryz.prog os ⟨#[], #[], []⟩).heap).modify 2 (fun | .cells _ t frozen => .cells (na exw) t frozen | o => o)).modify 3 (fun | .cells _ t frozen => .cells (na eiw) t frozen | o => o)).modify 1 (fun | .cells _ t frozen => .cells (na rmw) t frozen | o => o)).modify 4 (fun | .cells _ t frozen => .cells (Sh.wa Sh.h0w) t frozen | o => o)).modify 5 (fun | .cells _ t frozen => .cells (Sh.wa Sh.kw) t frozen | o => o)).modify 0 (fun | .cells _ t frozen => .cells (na orw) t frozen | o => o) } : World) (fun _ _ => 0) ⟨#[], #[.slice none 0 0, .slice none 0 0, .int .i64 0, .int .u8 0, .slice none 0 0, .int .i64 0], []⟩).memory Tryz.f4.params.toList Rows.signVerifiesSpec.vars false (#[.slice none 0 0, .slice none 0 0, .int .i64 0, .int .u8 0, .slice none 0 0, .int .i64 0] : Array Value).toList 8 = some ([.nil, .nil, .lit (.int .i64 0), .lit (.int .u8 0), .nil, .lit (.int .i64 0)], [], places) :=
  ⟨[], by kernel_rfl⟩
set_option maxRecDepth 100000 in
theorem lifted (os : Os) (started : os.Started) (H : Type) (enc : TypeId × Value → H) (F : Stop.Interp) :
    ReturnsInHanded {} Tryz.checked os 4 .any ((OpenSpec.ofChange Rows.signVerifiesSpec).preRow enc Tryz.prog Tryz.f4 Rows.signVerifiesRow.domain false Rows.signVerifiesRow.laid) (((OpenSpec.ofChange Rows.signVerifiesSpec).at F).post enc Tryz.prog Tryz.f4 false true false false) := by
  obtain ⟨places, hx⟩ := reads os enc
  refine returnsInHanded_of_row (C := Tryz.checked) (s := OpenSpec.ofChange Rows.signVerifiesSpec) own started (by kernel_rfl) Tryz.func4
    (witness_row_at (enc := enc) (C := Tryz.checked) false ({ World.holding Tryz.prog os ⟨#[], #[], []⟩ with heap := (((((((World.holding Tryz.prog os ⟨#[], #[], []⟩).heap).modify 2 (fun | .cells _ t frozen => .cells (na exw) t frozen | o => o)).modify 3 (fun | .cells _ t frozen => .cells (na eiw) t frozen | o => o)).modify 1 (fun | .cells _ t frozen => .cells (na rmw) t frozen | o => o)).modify 4 (fun | .cells _ t frozen => .cells (Sh.wa Sh.h0w) t frozen | o => o)).modify 5 (fun | .cells _ t frozen => .cells (Sh.wa Sh.kw) t frozen | o => o)).modify 0 (fun | .cells _ t frozen => .cells (na orw) t frozen | o => o) } : World) #[.slice none 0 0, .slice none 0 0, .int .i64 0, .int .u8 0, .slice none 0 0, .int .i64 0] rfl (by kernel_rfl) (by kernel_rfl) (by kernel_rfl)
      (OpenSpec.preRow_of_cond 8 hx (by kernel_rfl) (fun k hk => by cases hk) (by kernel_rfl) (laid_met os))) ?_
  intro W base args ds gs before hval hW _ _ _ hL _ _
  exact contract H enc W base args ds gs before hval hW hL
theorem said : Rows.SignVerifiesSaid :=
  OpenClaim.holds_of_cond 4 Tryz.f4 rfl rfl rfl rfl rfl rfl rfl ⟨rfl, rfl, rfl, rfl, rfl⟩ rfl rfl rfl rfl rfl (by kernel_rfl) Tryz.func4 (by kernel_rfl)
    (of_decide_eq_true (by kernel_rfl)) (by unfold Func.isWrapper; first | (rw [if_pos (by decide +kernel)]; kernel_rfl) | (rw [if_neg (by decide +kernel)]; exact ⟨rfl, rfl⟩))
    (fun os started H enc _ F => by rw [OpenClaim.pre_eq_preRow]; exact lifted os started H enc F)
set_option maxRecDepth 100000 in
set_option linter.unusedSimpArgs false in
theorem plain (f : FuncId) (fn : Func) (hf : Tryz.pinned.checked.prog.funcNamed Rows.signVerifiesRow.func = some f) (hfn : Tryz.pinned.checked.prog.funcs[f]? = some fn) :
    false = Tryz.pinned.checked.prog.looks [] ∧ ∀ (j : Nat) t, fn.params[j]? = some t → Tryz.pinned.checked.prog.wantsStandIn t = false := by
  obtain rfl : f = 4 := Option.some.inj ((show Tryz.prog.funcNamed Rows.signVerifiesRow.func = some 4 by kernel_rfl).symm.trans hf) |>.symm
  obtain rfl : fn = Tryz.f4 := (Option.some.inj (Tryz.func4.symm.trans hfn)).symm
  refine ⟨by kernel_rfl, fun j t ht => ?_⟩
  rw [Tryz.params4] at ht
  have hm : Tryz.prog.wantsStandIn t = false := by
    have h1 := Array.mem_of_getElem? ht
    have h2 : ∀ t ∈ ([22, 22, 3, 5, 22, 3] : List TypeId), Tryz.prog.wantsStandIn t = false := by
      simp only [List.mem_cons, List.not_mem_nil, or_false, forall_eq_or_imp, forall_eq]
      exact ⟨by kernel_rfl, by kernel_rfl, by kernel_rfl, by kernel_rfl, by kernel_rfl, by kernel_rfl⟩
    exact h2 t (by simpa using h1)
  exact hm
theorem card : Rows.SignVerifiesCardSaid :=
  Claim7.holds_tied_plain_at .later [] _ _ _ _ said (fun _ h => by cases h) (by kernel_rfl) (fun _ h => by cases h) signVerifies_row_tie rfl ⟨rfl, rfl⟩ (by kernel_rfl) rfl plain (by kernel_rfl)
end Go.Proofs.YtobgimpkkjaolaaGreatDoor.signVerifies
namespace Go.Proofs.YtobgimpkkjaolaaGreatDoor
theorem signVerifies_card : Rows.SignVerifiesCardSaid := signVerifies.card
end Go.Proofs.YtobgimpkkjaolaaGreatDoor
