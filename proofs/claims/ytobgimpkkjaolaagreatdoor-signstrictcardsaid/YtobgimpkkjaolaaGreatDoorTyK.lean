/- The program's numbers modulo p as what operations give; its points and fractions as rows. -/
import Derived.Test.YtobgimpkkjaolaaGreatDoorMb
import Derived.Test.YtobgimpkkjaolaaGreatDoorMa
import Derived.Test.YtobgimpkkjaolaaGreatDoorCurve
namespace Go.Proofs.YtobgimpkkjaolaaGreatDoor
open Go.RowKit
theorem el_one (x : Nat) : (el x).all (·.oneCell') = true := by
  obtain ⟨a, b, c, d, h⟩ := el_lits x
  rw [h]
  simp [Value.oneCell']
theorem el_size (x : Nat) : (el x).size = 4 := rfl
def isk (x : Kp) : STy := isv (.agg (el x.val))
theorem row_k (x : Kp) : RowT 4 (isk x) := fun _ _ h => ⟨_, h, rfl, el_one _⟩
theorem lull_k (B : Nat) (S : List Nat) (x : Kp) : LullT B S (isk x) := lv0 _ _ _
theorem h1_of {f : FuncId} {vals : Array Value} {r : Value} {w : World} (h : Calls Tryz.prog f vals w fun e w' => e = .returned r ∧ Below w.heap.size w w') : Hands Tryz.prog f vals w (isv r) := h.mono fun _ _ ⟨he, hb⟩ => ⟨_, he, hb, rfl⟩
section
variable {u v : Value} {x y : Kp} {w : World}
theorem hk_of {f : FuncId} {vals : Array Value} {n : Nat} (h : Calls Tryz.prog f vals w fun e w' => e = .returned (.agg (el n)) ∧ Below w.heap.size w w') (hx : x.val = n) : Hands Tryz.prog f vals w (isk x) := by subst hx; exact h1_of h
theorem k_add (h1 : u = .agg (el x.val)) (h2 : v = .agg (el y.val)) : Hands Tryz.prog 89 #[u, v] w (isk (x + y)) := by subst h1 h2; exact hk_of (add_any _ _ x.isLt y.isLt w) (kval_add x y)
theorem k_sub (h1 : u = .agg (el x.val)) (h2 : v = .agg (el y.val)) : Hands Tryz.prog 87 #[u, v] w (isk (x - y)) := by subst h1 h2; exact hk_of (sub_any _ _ x.isLt y.isLt w) (kval_sub x y)
theorem k_mul (h1 : u = .agg (el x.val)) (h2 : v = .agg (el y.val)) : Hands Tryz.prog 84 #[u, v] w (isk (x * y)) := by subst h1 h2; exact hk_of (mul_any _ _ x.isLt y.isLt w) (kval_mul x y)
theorem k_neg (h1 : u = .agg (el x.val)) : Hands Tryz.prog 62 #[u] w (isk (-x)) := by subst h1; exact hk_of (neg_any _ x.isLt w) (kval_neg x)
theorem k_one (h1 : u = .int .u32 1) : Hands Tryz.prog 85 #[u] w (isk 1) := by subst h1; exact hk_of (small_any 1 (by decide) w) kval_one
theorem k_eq_iff : (x.val = y.val) ↔ x = y := ⟨fun h => Fin.ext h, fun h => h ▸ rfl⟩
theorem k_same (h1 : u = .agg (el x.val)) (h2 : v = .agg (el y.val)) : Hands Tryz.prog 109 #[u, v] w (isv (.bool (decide (x = y)))) := by
  subst h1 h2
  have h := same_any _ _ x.isLt y.isLt w
  rw [decide_eq_decide.2 k_eq_iff] at h
  exact h1_of h
theorem k_odd (h1 : u = .agg (el x.val)) : Hands Tryz.prog 71 #[u] w (isv (.bool (decide (x.val % 2 = 1)))) := by subst h1; exact h1_of (isOdd_any _ x.isLt w)
theorem k_pow {l : List Nat} {e : Nat} (h1 : u = .agg (el x.val)) (h2 : v = .agg (na l)) (hl : l.length = 4) (hm : lim l) (he : val l = e) : Hands Tryz.prog 111 #[u, v] w (isk (kpw x e)) := by
  subst h1 h2 he
  exact hk_of (power_any _ x.isLt l hl hm w) rfl
end
def pe (x m : Kp) : Array Value := el x.val ++ el m.val
def fe (x y z : Kp) : Array Value := el x.val ++ el y.val ++ el z.val
theorem all_append {A B : Array Value} {f : Value → Bool} (h1 : A.all f = true) (h2 : B.all f = true) : (A ++ B).all f = true := by simp [h1, h2]
theorem pe_one (x m : Kp) : (pe x m).all (·.oneCell') = true := all_append (el_one _) (el_one _)
theorem fe_one (x y z : Kp) : (fe x y z).all (·.oneCell') = true := all_append (all_append (el_one _) (el_one _)) (el_one _)
def ipt (x y : Kp) : STy := isv (.agg (pe x (y - 1)))
def ifr (x y z : Kp) : STy := isv (.agg (fe x y z))
theorem row_p (x y : Kp) : RowT 8 (ipt x y) := fun _ _ h => ⟨_, h, rfl, pe_one _ _⟩
theorem row_f (x y z : Kp) : RowT 12 (ifr x y z) := fun _ _ h => ⟨_, h, rfl, fe_one _ _ _⟩
theorem lull_p (B : Nat) (S : List Nat) (x y : Kp) : LullT B S (ipt x y) := lv0 _ _ _
theorem lull_f (B : Nat) (S : List Nat) (x y z : Kp) : LullT B S (ifr x y z) := lv0 _ _ _
theorem el_lt {x : Nat} {j : Nat} {v : Value} (h : (el x).toList[j]? = some v) : j < 4 ∧ (el x)[j]? = some v := by
  have h1 : j < (el x).toList.length := (List.getElem?_eq_some_iff.1 h).1
  exact ⟨by simpa [el_size] using h1, by simpa using h⟩
theorem pe0 (x m : Kp) : ∀ j v, (el x.val).toList[j]? = some v → (pe x m)[0 + j]? = some v := fun j v h => by
  obtain ⟨h1, h2⟩ := el_lt h
  unfold pe
  rw [Nat.zero_add, Array.getElem?_append_left (by rw [el_size]; exact h1)]; exact h2
theorem pe1 (x m : Kp) : ∀ j v, (el m.val).toList[j]? = some v → (pe x m)[4 + j]? = some v := fun j v h => by
  obtain ⟨h1, h2⟩ := el_lt h
  unfold pe
  rw [Array.getElem?_append_right (by rw [el_size]; omega), el_size, Nat.add_sub_cancel_left]; exact h2
theorem fe0 (x y z : Kp) : ∀ j v, (el x.val).toList[j]? = some v → (fe x y z)[0 + j]? = some v := fun j v h => by
  obtain ⟨h1, h2⟩ := el_lt h
  unfold fe
  rw [Nat.zero_add, Array.getElem?_append_left (by show j < 8; omega), Array.getElem?_append_left (by rw [el_size]; exact h1)]; exact h2
theorem fe1 (x y z : Kp) : ∀ j v, (el y.val).toList[j]? = some v → (fe x y z)[4 + j]? = some v := fun j v h => by
  obtain ⟨h1, h2⟩ := el_lt h
  unfold fe
  rw [Array.getElem?_append_left (by show 4 + j < 8; omega), Array.getElem?_append_right (by rw [el_size]; omega), el_size, Nat.add_sub_cancel_left]; exact h2
theorem fe2 (x y z : Kp) : ∀ j v, (el z.val).toList[j]? = some v → (fe x y z)[8 + j]? = some v := fun j v h => by
  obtain ⟨h1, h2⟩ := el_lt h
  unfold fe
  rw [Array.getElem?_append_right (by show 8 ≤ 8 + j; omega)]
  rw [show 8 + j - (el x.val ++ el y.val).size = j by show 8 + j - 8 = j; omega]; exact h2
end Go.Proofs.YtobgimpkkjaolaaGreatDoor
