/- MatchWhole: for every input the law answers true and leaves its arguments as they were. -/
import Derived.Test.YtmjnedafcfolgaaMlW
import Derived.Test.YtmjnedafcfolgaaOpn
namespace Go.Proofs.Ytmjnedafcfolgaa.matchWhole
open Go.ChangeShapes Go.WideShapes Go.ChangeAt Go.RowKit
theorem own : ownKnob Try.prog.godebug = none := by kernel_rfl
theorem laidOut : laidOutB Try.prog = true := by kernel_rfl
set_option maxRecDepth 100000 in
theorem lifted (os : Os) (started : os.Started) (H : Type) (enc : TypeId × Value → H) :
    ReturnsInHanded {} Try.checked os 3 .any (Rows.matchWholeSpec.pre6 enc Try.prog Try.f3 Rows.matchWholeRow.domain false) (Rows.matchWholeSpec.post enc Try.prog Try.f3 false true false false) := by
  refine returnsInHanded_of_change_sized (C := Try.checked) own started (by kernel_rfl) Try.func3
    (ChangeSpec.witness6 (enc := enc) (C := Try.checked) false ⟨#[], #[.string ⟨#[]⟩, .string ⟨#[]⟩, .string ⟨#[]⟩], []⟩ 8 (by kernel_rfl) (by kernel_rfl) (by kernel_rfl) (by kernel_rfl)) ?_
  intro W base args ds gs before hval0 hW hcnd hsz _
  have hval : ∀ (j : Nat) t v, Try.f3.params[j]? = some t → args[j]? = some v → Value.okWide Try.prog W .any base t v := hval0
  have hW' := hW
  obtain ⟨p, q, hA0, hV, rfl, hfz, hnd⟩ := hW
  have hA : DataW.TrodAll enc Try.prog W 0 (fun _ => true) true Try.f3.params.toList args.toList ds p := hA0
  rw [Try.params3] at hA hval hsz
  obtain ⟨v0, vs0, d0, ds0, p0, q0, hargs, rfl, rfl, h0, r0⟩ := trodAll_cons hA
  obtain ⟨v1, vs1, d1, ds1, p1, q1, rfl, rfl, rfl, h1, r1⟩ := trodAll_cons r0
  obtain ⟨v2, vs2, d2, ds2, p2, q2, rfl, rfl, rfl, h2, r2⟩ := trodAll_cons r1
  obtain ⟨rfl, rfl, rfl⟩ := trodAll_nil r2
  obtain rfl : args = #[v0, v1, v2] := by cases args; simp_all
  obtain ⟨rfl, rfl⟩ := trodVars_none hV
  have k0 := h0
  have lt0 : ∀ x ∈ p0, x.block < W.heap.size := by obtain ⟨m, hm⟩ := k0; exact DataW.trod_lt m _ _ _ hm
  obtain ⟨x0, rfl⟩ := okWide_string Try.underlying9 (hval 0 9 v0 rfl rfl)
  have hold0 : x0.size ≤ 140737488355328 := by
    obtain ⟨fuel, hf⟩ := h0
    obtain ⟨s, e, e2, _⟩ := DataW.trod_string Try.underlying9 hf
    simp [Value.cells] at e
    subst e
    have hm : x0.data.toList.length ∈ d0.weights Try.prog 9 := by
      rw [(Prod.mk.inj e2).1]
      exact List.mem_singleton.2 rfl
    have hn : x0.data.toList.length ≤ reachBytes := of_decide_eq_true (List.all_eq_true.1 hsz _ (DataW.weights_mem_each (j := 0) (t := 9) rfl rfl _ hm))
    unfold reachBytes at hn
    rw [Array.length_toList] at hn
    exact Nat.le_trans hn (by decide)
  clear h0
  have k1 := h1
  have lt1 : ∀ x ∈ p1, x.block < W.heap.size := by obtain ⟨m, hm⟩ := k1; exact DataW.trod_lt m _ _ _ hm
  obtain ⟨x1, rfl⟩ := okWide_string Try.underlying9 (hval 1 9 v1 rfl rfl)
  have hold1 : x1.size ≤ 140737488355328 := by
    obtain ⟨fuel, hf⟩ := h1
    obtain ⟨s, e, e2, _⟩ := DataW.trod_string Try.underlying9 hf
    simp [Value.cells] at e
    subst e
    have hm : x1.data.toList.length ∈ d1.weights Try.prog 9 := by
      rw [(Prod.mk.inj e2).1]
      exact List.mem_singleton.2 rfl
    have hn : x1.data.toList.length ≤ reachBytes := of_decide_eq_true (List.all_eq_true.1 hsz _ (DataW.weights_mem_each (j := 1) (t := 9) rfl rfl _ hm))
    unfold reachBytes at hn
    rw [Array.length_toList] at hn
    exact Nat.le_trans hn (by decide)
  clear h1
  have k2 := h2
  have lt2 : ∀ x ∈ p2, x.block < W.heap.size := by obtain ⟨m, hm⟩ := k2; exact DataW.trod_lt m _ _ _ hm
  obtain ⟨x2, rfl⟩ := okWide_string Try.underlying9 (hval 2 9 v2 rfl rfl)
  have hold2 : x2.size ≤ 140737488355328 := by
    obtain ⟨fuel, hf⟩ := h2
    obtain ⟨s, e, e2, _⟩ := DataW.trod_string Try.underlying9 hf
    simp [Value.cells] at e
    subst e
    have hm : x2.data.toList.length ∈ d2.weights Try.prog 9 := by
      rw [(Prod.mk.inj e2).1]
      exact List.mem_singleton.2 rfl
    have hn : x2.data.toList.length ≤ reachBytes := of_decide_eq_true (List.all_eq_true.1 hsz _ (DataW.weights_mem_each (j := 2) (t := 9) rfl rfl _ hm))
    unfold reachBytes at hn
    rw [Array.length_toList] at hn
    exact Nat.le_trans hn (by decide)
  clear h2
  clear hA0 hval0
  refine (whole_walk x0 x1 x2 hold0 hold1 hold2 _).mono fun e W' ⟨he, bel⟩ => ?_
  subst he
  exact ⟨_, rfl, _, _, _, [], _, [], hW', trodAll_mk1 (shut_bool Try.underlying4 _), (trodAll_cons_mk (Below.trod laidOut (by kernel_rfl) (of_decide_eq_true (by kernel_rfl)) k0 bel lt0) (trodAll_cons_mk (Below.trod laidOut (by kernel_rfl) (of_decide_eq_true (by kernel_rfl)) k1 bel lt1) (trodAll_cons_mk (Below.trod laidOut (by kernel_rfl) (of_decide_eq_true (by kernel_rfl)) k2 bel lt2) trodAll_mk0))), rfl, bel.frame _, fun h => by cases h⟩
theorem proved : Rows.MatchWholeSaid :=
  OpenClaim.holds_of_wide 3 Try.f3 rfl rfl rfl rfl rfl rfl rfl ⟨rfl, rfl, rfl, rfl, rfl⟩ rfl rfl rfl rfl rfl (by kernel_rfl) Try.func3 (by kernel_rfl)
    (of_decide_eq_true (by kernel_rfl)) (by unfold Func.isWrapper; first | (rw [if_pos (by decide +kernel)]; kernel_rfl) | (rw [if_neg (by decide +kernel)]; exact ⟨rfl, rfl⟩))
    (fun os started H enc _ => lifted os started H enc)
end Go.Proofs.Ytmjnedafcfolgaa.matchWhole
namespace Go.Proofs.Ytmjnedafcfolgaa
theorem matchWhole_holds : Rows.MatchWholeSaid := matchWhole.proved
end Go.Proofs.Ytmjnedafcfolgaa
