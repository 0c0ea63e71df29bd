/- What the laws call, as it is called there; a date that every program must know. -/
import Derived.Test.YteicdlomjhjiiaaDoorDtTx
namespace Go.Proofs.YteicdlomjhjiiaaDoor
open Go.RowKit
/-- The law holds. -/
abbrev Yes (w : World) (e : Ending) (w' : World) : Prop := e = .returned (.bool true) ∧ Below w.heap.size w w'
/-- A call that answers v, and changes nothing that was there. -/
abbrev Says (f : FuncId) (args : Array Value) (v : Value) : Prop := ∀ w : World, Calls Tryd.prog f args w fun e w' => e = .returned v ∧ Below w.heap.size w w'
theorem Tells.says {f : FuncId} {args : Array Value} {v : Value} (h : Tells f args v) : Says f args v := fun w => (h w).mono fun _ _ ⟨he, hw⟩ => ⟨he, by subst hw; exact Below.refl _ _⟩
theorem Quiet.says {f : FuncId} {args : Array Value} {v : Value} (h : Quiet f args v) : Says f args v := fun w => (h w).mono fun _ _ ⟨he, m, hw⟩ => ⟨he, by subst hw; exact drew_below _ _⟩
theorem mod_at (n : Int) {M : Nat} (h0 : 0 < M) (h1 : M ≤ 9223372036854775807) : ∃ k : Nat, wrap64 ((IntKind.u64.wrap n).tmod (M : Int)) = (k : Int) ∧ k < M := by
  have hw : 0 ≤ IntKind.u64.wrap n := by
    simp [IntKind.wrap, IntKind.bits, IntKind.signed]
    omega
  have h2 : (IntKind.u64.wrap n).tmod (M : Int) = (IntKind.u64.wrap n) % (M : Int) := Int.tmod_eq_emod_of_nonneg hw
  have h3 := Int.emod_nonneg (IntKind.u64.wrap n) (show (M : Int) ≠ 0 by omega)
  have h4 := Int.emod_lt_of_pos (IntKind.u64.wrap n) (show (0 : Int) < (M : Int) by omega)
  rw [h2]
  generalize IntKind.u64.wrap n % (M : Int) = v at *
  refine ⟨v.toNat, ?_, by omega⟩
  unfold wrap64
  omega
theorem okM_of {n : Int} (h0 : 0 ≤ n) (h1 : n ≤ 253402300799) : okM n = true := decide_eq_true ⟨h0, h1⟩
theorem okM_none {n : Int} (h : ¬ (0 ≤ n ∧ n ≤ 253402300799)) : okM n = false := decide_eq_false h
abbrev kn : ByteArray := ⟨#[50, 48, 48, 48, 45, 48, 51, 45, 48, 49, 84, 48, 48, 58, 48, 48, 58, 48, 48, 90]⟩
theorem kn_prt : prt 951868800 = kn := by decide +kernel
theorem kn_read : prB kn = true ∧ prV kn = 951868800 := by
  rw [← kn_prt]
  exact prt_back (by decide +kernel)
set_option maxRecDepth 100000 in
set_option maxHeartbeats 1000000 in
theorem awake_any (w : World) (hT : TabP w) : Calls Tryd.prog 9 #[] w (Yes w) := by
  have HK := hide (Quiet.says (Parse_any kn (by decide)))
  rw [kn_read.1, kn_read.2] at HK
  have HP := hide (Print_any 951868800)
  rw [kn_prt] at HP
  have HL := hide (Tells.says (Leap_any 2000))
  rw [show lp 2000 = true by decide +kernel] at HL
  have HM := hide (Tells.says (Leap_any 1900))
  rw [show lp 1900 = false by decide +kernel] at HM
  have HB := hide (Below.refl w.heap.size w)
  have HT := hide hT
  clear hT
  go_enter Tryd.func9, Tryd.ntmps9
  go_wp2_with fail
  with_reducible refine (HK.out _).mono ?_
  rintro e_ w1 ⟨rfl, b_⟩
  replace HT := hide (TabP.ext HT.out b_)
  replace HB := hide (Below.chain HB.out b_)
  clear b_
  go_wp2_with fail
  with_reducible refine (HP.out _ HT.out).mono ?_
  rintro e_ w2 ⟨rfl, b_⟩
  replace HT := hide (TabP.ext HT.out b_)
  replace HB := hide (Below.chain HB.out b_)
  clear b_
  go_wp2_with fail
  with_reducible refine (HL.out _).mono ?_
  rintro e_ w3 ⟨rfl, b_⟩
  replace HT := hide (TabP.ext HT.out b_)
  replace HB := hide (Below.chain HB.out b_)
  clear b_
  go_wp2_with fail
  with_reducible refine (HM.out _).mono ?_
  rintro e_ w4 ⟨rfl, b_⟩
  replace HT := hide (TabP.ext HT.out b_)
  replace HB := hide (Below.chain HB.out b_)
  clear b_
  go_wp2
  go_ret
  exact ⟨by try rfl, HB.out⟩
end Go.Proofs.YteicdlomjhjiiaaDoor
