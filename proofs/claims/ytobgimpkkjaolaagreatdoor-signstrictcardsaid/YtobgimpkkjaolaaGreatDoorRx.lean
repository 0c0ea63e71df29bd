/- The page's points, in four numbers: what they are, their sums. Plain arithmetic modulo p. -/
import Derived.Test.YtobgimpkkjaolaaGreatDoorRf1
import Derived.Test.YtobgimpkkjaolaaGreatDoorFn9
namespace Go.Proofs.YtobgimpkkjaolaaGreatDoor
open Go.RowKit
def Ex (x y z t : Kp) (P : Pt) : Prop := z ≠ 0 ∧ x = P.x * z ∧ y = P.y * z ∧ t = P.x * P.y * z
theorem ex_zero : Ex 0 1 1 0 .zero := ⟨one_ne_zero, by show (0 : Kp) = 0 * 1; grind, by show (1 : Kp) = 1 * 1; grind, by show (0 : Kp) = 0 * 1 * 1; grind⟩
theorem ex_one (P : Pt) : Ex P.x P.y 1 (P.x * P.y) P := ⟨one_ne_zero, by grind, by grind, by grind⟩
theorem ex_neg {x y z t : Kp} {P : Pt} (h : Ex x y z t P) : Ex (0 - x) y z (0 - t) P.neg := by
  obtain ⟨n, rfl, rfl, rfl⟩ := h
  refine ⟨n, ?_, rfl, ?_⟩
  · show _ = -P.x * z; generalize P.x = p; clear n; grind
  · show _ = -P.x * P.y * z; generalize P.x = p; generalize P.y = q; clear n; grind
theorem ex_plus {x1 y1 z1 t1 x2 y2 z2 t2 : Kp} {P Q : Pt} (h1 : Ex x1 y1 z1 t1 P) (h2 : Ex x2 y2 z2 t2 Q) :
    Ex ((((y1 + x1) * (y2 + x2)) - ((y1 - x1) * (y2 - x2))) * ((z1 * z2 + z1 * z2) - (t1 * t2 * (dd + dd)))) ((((y1 + x1) * (y2 + x2)) + ((y1 - x1) * (y2 - x2))) * ((z1 * z2 + z1 * z2) + (t1 * t2 * (dd + dd)))) (((z1 * z2 + z1 * z2) + (t1 * t2 * (dd + dd))) * ((z1 * z2 + z1 * z2) - (t1 * t2 * (dd + dd)))) ((((y1 + x1) * (y2 + x2)) - ((y1 - x1) * (y2 - x2))) * (((y1 + x1) * (y2 + x2)) + ((y1 - x1) * (y2 - x2)))) (P.add Q) := by
  obtain ⟨n1, rfl, rfl, rfl⟩ := h1
  obtain ⟨n2, rfl, rfl, rfl⟩ := h2
  have ax := add_x P Q
  have ay := add_y P Q
  have du := den_plus P.on Q.on
  have dv := den_minus P.on Q.on
  unfold Ex
  generalize (P.add Q).x = X at *
  generalize (P.add Q).y = Y at *
  generalize P.x = p at *
  generalize P.y = q at *
  generalize Q.x = r at *
  generalize Q.y = s at *
  generalize dd = d at *
  obtain ⟨u, hu⟩ : ∃ u, u = 1 + d * p * r * q * s := ⟨_, rfl⟩
  obtain ⟨v, hv⟩ : ∃ v, v = 1 - d * p * r * q * s := ⟨_, rfl⟩
  rw [← hu] at ax du
  rw [← hv] at ay dv
  have e1 : (q * z1 + p * z1) * (s * z2 + r * z2) - (q * z1 - p * z1) * (s * z2 - r * z2) = 2 * (z1 * z2) * (X * u) := by rw [ax]; clear ax ay du dv hu hv; grind
  have e2 : (q * z1 + p * z1) * (s * z2 + r * z2) + (q * z1 - p * z1) * (s * z2 - r * z2) = 2 * (z1 * z2) * (Y * v) := by rw [ay]; clear ax ay du dv hu hv e1; grind
  have e3 : (z1 * z2 + z1 * z2) - (p * q * z1 * (r * s * z2) * (d + d)) = 2 * (z1 * z2) * v := by rw [hv]; clear ax ay du dv hu hv e1 e2; grind
  have e4 : (z1 * z2 + z1 * z2) + (p * q * z1 * (r * s * z2) * (d + d)) = 2 * (z1 * z2) * u := by rw [hu]; clear ax ay du dv hu hv e1 e2 e3; grind
  rw [e1, e2, e3, e4]
  have nz : 2 * (z1 * z2) ≠ 0 := mul_ne two_ne_zero (mul_ne n1 n2)
  refine ⟨mul_ne (mul_ne nz du) (mul_ne nz dv), ?_, ?_, ?_⟩
  · clear ax ay du dv hu hv e1 e2 e3 e4 nz n1 n2; grind
  · clear ax ay du dv hu hv e1 e2 e3 e4 nz n1 n2; grind
  · clear ax ay du dv hu hv e1 e2 e3 e4 nz n1 n2; grind
theorem ex_x {x y z t : Kp} {P : Pt} (h : Ex x y z t P) : x * kinv z = P.x := fr_x ⟨h.1, h.2.1, h.2.2.1⟩
theorem ex_y {x y z t : Kp} {P : Pt} (h : Ex x y z t P) : y * kinv z = P.y := fr_y ⟨h.1, h.2.1, h.2.2.1⟩
def RP (C : Array Value) (P : Pt) : Prop := ∃ x y z t, RQ C x y z t ∧ Ex x y z t P
def qp (P : Pt) : STy := ⟨fun _ v => ∃ C, v = .agg C ∧ RP C P, fun _ h => h⟩
theorem lull_qp (B : Nat) (S : List Nat) (P : Pt) : LullT B S (qp P) := fun _ _ _ _ h => h
theorem RP.size {C : Array Value} {P : Pt} (h : RP C P) : C.size = 64 := by obtain ⟨_, _, _, _, h, _⟩ := h; exact h.size
theorem RP.one {C : Array Value} {P : Pt} (h : RP C P) : C.all (·.oneCell') = true := by obtain ⟨_, _, _, _, h, _⟩ := h; exact h.one
theorem row_qp (P : Pt) : RowT 64 (qp P) := fun _ _ ⟨C, h1, h2⟩ => ⟨C, h1, h2.size, h2.one⟩
theorem qp_of {C : Array Value} {P : Pt} {w : World} (h : (qp P).p w (.agg C)) : RP C P := by
  obtain ⟨D, e, hd⟩ := h
  injection e with e
  subst e
  exact hd
section
variable {u v : Value} {P Q : Pt} {w : World}
theorem qp_up {f : FuncId} {vals : Array Value} {x y z t : Kp} (h : Hands Tryz.prog f vals w (qk x y z t)) (he : Ex x y z t P) : Hands Tryz.prog f vals w (qp P) :=
  h.mono fun _ _ ⟨v, h1, h2, C, h3, h4⟩ => ⟨v, h1, h2, C, h3, x, y, z, t, h4, he⟩
theorem r_plus (h1 : (qp P).p w u) (h2 : (qp Q).p w v) : Hands Tryz.prog 36 #[u, v] w (qp (P.add Q)) := by
  obtain ⟨C, rfl, x1, y1, z1, t1, hq1, he1⟩ := h1
  obtain ⟨D, rfl, x2, y2, z2, t2, hq2, he2⟩ := h2
  exact qp_up (q_plus hq1 hq2) (ex_plus he1 he2)
theorem r_neg (h1 : (qp P).p w u) : Hands Tryz.prog 37 #[u] w (qp P.neg) := by
  obtain ⟨C, rfl, x1, y1, z1, t1, hq1, he1⟩ := h1
  exact qp_up (q_neg hq1) (ex_neg he1)
theorem r_zero : Hands Tryz.prog 44 #[] w (qp .zero) := qp_up q_zero ex_zero
theorem r_base : Hands Tryz.prog 18 #[] w (qp Bp) := qp_up q_base (ex_one Bp)
theorem g_ldqp {ops : Array Oper} {Qx : Exit → Act → World → Prop} {o : Oper} {a : Act} {x : Operand} {g : Nat} {C : Array Value} {ty' : TypeId} (hn : RP C P) (hw : Region.wanted o (yielded ops a.tmps) = true) (ho : o.op = .load 39 x) (hx : a.eval x = .pointer (some ⟨g, 0, none⟩)) (hr : w.heap[g]? = some (.cells C ty' (0, 0))) : Gives Tryz.prog ops Qx o (qp P) a w :=
  g_row hw ho hx hr und36 rfl (by rw [hn.size]; exact sizeQ) ⟨C, rfl, hn⟩
end
theorem bvs_nv (x : Nat) : bvs x 16 = nv (bys x 32) := by
  unfold bvs nv
  refine List.ext_getElem? fun i => ?_
  rw [List.getElem?_map, List.getElem?_map]
  by_cases h : i < 32
  · have hg := bys_get x 32 i (Nat.le_refl _)
    rw [if_pos h, List.getD_eq_getElem?_getD, List.getElem?_eq_getElem (by rw [bys_len]; exact h)] at hg
    rw [List.getElem?_range (by omega), List.getElem?_eq_getElem (by rw [bys_len]; exact h)]
    simp at hg
    simp [hg]
  · rw [List.getElem?_eq_none (by simp; omega), List.getElem?_eq_none (by rw [bys_len]; omega)]; rfl
theorem n_bytes {x : Kp} {u : Value} {w : World} {B : Nat} (h1 : (nk x).p w u) (hB : B ≤ w.heap.size) : Hands Tryz.prog 41 #[u] w (ownb B (bys x.val 32)) := by
  obtain ⟨_, rfl, l, rfl, hl⟩ := h1
  refine (rbytes_own l _ hl w).mono ?_
  rintro e w' ⟨g, cap, rfl, _, _, _, _, hb, ho⟩
  refine ⟨_, rfl, hb, ?_⟩
  rw [bvs_nv] at ho
  have h : Own w' w.heap.size (.slice (some ⟨g, 0, none⟩) 32 cap) (bys x.val 32) := ⟨by rw [bys_len]; exact ho, bys_lim _⟩
  exact h.base hB
end Go.Proofs.YtobgimpkkjaolaaGreatDoor
