/- Does a signature verify: what the call Verify answers, in any world where the variables lie as the program's text lays them. -/
import Derived.Test.YtobgimpkkjaolaaGreatDoorMg
import Derived.BigQuiet
namespace Go.Proofs.YtobgimpkkjaolaaGreatDoor
open Go.RowKit
theorem below_dn {B : Nat} {a w : World} (h : Below B a w) (n : Nat) : Below B a (w.drewN n) := ⟨h.os, h.tape, h.output, h.size, h.block⟩
theorem lull_Q5 (B : Nat) (S : List Nat) (P : Pt) : LullT B S (isP P) := lv0 _ _ _
theorem row_Q5 (P : Pt) : RowT 8 (isP P) := row_p _ _
theorem vf_s {P : Pt} {l : List Nat} {u0 : Value} {w : World} (h : BsAt w u0 l) (LDe : LaidW 3 eiw w) (LDm : LaidW 1 rmw w) (hd : dec l = some (P.x, P.y)) : Hands Tryz.prog 25 #[u0] w (isv (.tuple #[.agg (pe P.x (P.y - 1)), .bool true])) := by
  have := p_from h LDe LDm
  rwa [hd] at this
theorem vf_n {l : List Nat} {u0 : Value} {w : World} (h : BsAt w u0 l) (LDe : LaidW 3 eiw w) (LDm : LaidW 1 rmw w) (hd : dec l = none) : Hands Tryz.prog 25 #[u0] w (isv (.tuple #[.agg (pe (0 : Kp) ((1 : Kp) - 1)), .bool false])) := by
  have := p_from h LDe LDm
  rwa [hd] at this
theorem g_mkf {ops : Array Oper} {Q : Exit → Act → World → Prop} {o : Oper} {T : STy} {a : Act} {w : World} (hw : Region.wanted o (yielded ops a.tmps) = true) {f : Nat} {x : Operand} {u : Value} (ho : o.op = .makeFunc (.func f) #[x] #[]) (hx : a.eval x = u) (ht : T.p w (.func (.func f) #[u] #[])) : Gives Tryz.prog ops Q o T a w := by
  refine g_run hw (v := .func (.func f) #[u] #[]) ?_ (Ext.refl w) ht
  unfold execOp
  simp only [ho, List.map_toArray, List.map_cons, List.map_nil, hx]
  rfl
theorem rt_sound {u v x : Kp} (h : rt u v = some x) : v * x * x = u := by
  unfold rt at h
  have hr := rm_sq
  split at h
  · rename_i ha
    injection h with h
    subst h
    have e := ev_sq (rt0 u v)
    generalize ev (rt0 u v) = r at *
    generalize rt0 u v = t at *
    clear hr
    grind
  · split at h
    · rename_i ha
      injection h with h
      subst h
      have e := ev_sq (rt0 u v * rm)
      generalize ev (rt0 u v * rm) = r at *
      generalize rt0 u v = t at *
      generalize rm = k at *
      grind
    · cases h
theorem dec_on {l : List Nat} {x y : Kp} (h : dec l = some (x, y)) : On x y := by
  unfold dec at h
  split at h
  · split at h
    · cases h
    · rename_i r hr
      obtain ⟨t, ht⟩ : ∃ t, (if hib l = true then -r else r) = t := ⟨_, rfl⟩
      rw [ht] at h
      split at h
      · injection h with h
        injection h with h1 h2
        subst h1
        have hs := rt_sound hr
        rw [h2] at hs
        have e : t * t = r * r := by rw [← ht]; split <;> grind
        unfold On
        generalize dd = d at *
        clear ht h2 hr
        grind
      · cases h
  · cases h
theorem dec_len {l : List Nat} {q : Kp × Kp} (h : dec l = some q) : l.length = 32 := by
  unfold dec at h
  split at h
  · assumption
  · cases h
def verP (P : Pt) (p m s : List Nat) : Bool := decide (s.length = 64) && (Sc.mayb (s.drop 32) && decide (pkP ((Pt.mul (bval ((s.drop 32).take 32)) Bp).add (Pt.mul (bval ((hsh [s.take 32, p, m].flatten).take 32)) P.neg)) = s.take 32))
instance (x y : Kp) : Decidable (On x y) := inferInstanceAs (Decidable (y * y - x * x = 1 + dd * x * x * y * y))
def verO (p m s : List Nat) (x y : Kp) : Bool := if h : On x y then verP ⟨x, y, h⟩ p m s else false
def verB (p m s : List Nat) : Bool := match dec p with
  | none => false
  | some (x, y) => verO p m s x y
theorem verB_some {P : Pt} {p : List Nat} (m s : List Nat) (h : dec p = some (P.x, P.y)) : verB p m s = verP P p m s := by
  unfold verB
  rw [h]
  show verO p m s P.x P.y = _
  unfold verO
  rw [dif_pos P.on]
theorem verB_none {p : List Nat} (m s : List Nat) (h : dec p = none) : verB p m s = false := by unfold verB; rw [h]
set_option linter.unusedSimpArgs false in
set_option maxRecDepth 100000 in
set_option maxHeartbeats 4000000 in
theorem vf_none {pv mv sv : Value} {p : List Nat} {w : World} (hp : BsAt w pv p) (hd : dec p = none) (LDe : LaidW 3 eiw w) (LDm : LaidW 1 rmw w) : Calls Tryz.prog 12 #[pv, mv, sv] w fun e w' => e = .returned (.bool false) ∧ Below w.heap.size w w' := by
  replace LDe := hide LDe
  replace LDm := hide LDm
  have HD := hide hd
  have HP := hide hp
  have BEL := hide (Below.refl w.heap.size w)
  have SZ := hide BEL.out.size
  clear hp hd
  go_enter Tryz.func12, Tryz.ntmps12
  go_upto_region 1 with fail
  refine wrl3 (tl := [isb p, isv (.tuple #[.agg (pe (0 : Kp) ((1 : Kp) - 1)), .bool false]), ipt (0 : Kp) (1 : Kp), isv (.bool false)]) (pre := [(0, 0)])
    (plan := [Pk.val [(0, 0)] 0, Pk.val [(15, 0)] 1, Pk.val [(16, 1)] 1, Pk.val [(14, 1)] 2, Pk.val [(14, 1)] 3, Pk.alc 49 8, Pk.sto 5 17 2, Pk.val [(18, 3)] 3])
    [0] [] [] 53 (by kernel_rfl) rfl (by kernel_rfl) ⟨.inl rfl, ⟨.inr (lv0 _ _ _), ⟨.inr (lull_p _ _ _ _), ⟨.inr (lv0 _ _ _), trivial⟩⟩⟩⟩
    snkAt0 snk0 ⟨HP.out, trivial⟩
   (Oc3 (fun a w X_ h => g_move (wq0 rfl) (.inl rfl) h.1)
   (Oc3 (fun a w X_ h => g_call1 (wq0 rfl) (by kernel_rfl) rfl (vf_n h.1 (LDe.out.step (X_.on BEL.out SZ.out none_le)) (LDm.out.step (X_.on BEL.out SZ.out none_le)) HD.out))
   (Oc3 (fun a w X_ h => g_move (wq0 rfl) (.inl rfl) h.1)
   (Oc3 (fun a w X_ h => g_ext (wq0 rfl) rfl h.1 rfl rfl)
   (Oc3 (fun a w X_ h => g_ext (wq0 rfl) rfl h.1 rfl rfl)
   (Oc3 (alc_of zp rfl rfl rfl newP)
   (Oc3 (⟨rfl, _, _, _, rfl, rfl, rfl, by kernel_rfl, row_p _ _⟩)
   (Oc3 (fun a w X_ h => g_move (wq0 rfl) (.inr rfl) h.1)
      OkL3.nil)))))))) ?_
  rintro W1 X1 v15 - _ rfl _ rfl _ rfl _ rfl g7 c7 ⟨L7, Z7, -⟩ r7 H7 _ rfl
  refine Fd3 ?_
  simp only [Act.put, List.setIfInBounds_toArray, List.set_cons_zero, List.set_cons_succ]
  obtain rfl : c7 = pe (0 : Kp) ((1 : Kp) - 1) := agg_inj H7
  have R7 := hide (And.intro Z7 r7)
  clear r7
  replace BEL := hide (X1.on BEL.out SZ.out none_le)
  replace SZ := hide BEL.out.size
  have SW1 := X1.size
  clear X1 H7
  clear R7
  go_wp2
  go_ret
  exact ⟨rfl, BEL.out⟩
set_option linter.unusedSimpArgs false in
set_option maxRecDepth 100000 in
set_option maxHeartbeats 4000000 in
theorem vf_len {pv mv sv : Value} {p s : List Nat} {P : Pt} {w : World} (hp : BsAt w pv p) (hs : BsAt w sv s) (hl : ¬ s.length = 64) (hd : dec p = some (P.x, P.y)) (LDe : LaidW 3 eiw w) (LDm : LaidW 1 rmw w) : Calls Tryz.prog 12 #[pv, mv, sv] w fun e w' => e = .returned (.bool false) ∧ Below w.heap.size w w' := by
  replace LDe := hide LDe
  replace LDm := hide LDm
  obtain ⟨asx, cs, rfl, _, _⟩ := hs.len
  have d1 : ((s.length : Int) == 64) = false := by rw [beq_eq_false_iff_ne]; omega
  clear hs hl
  have HD := hide hd
  have HP := hide hp
  have BEL := hide (Below.refl w.heap.size w)
  have SZ := hide BEL.out.size
  clear hp hd
  go_enter Tryz.func12, Tryz.ntmps12
  go_upto_region 1 with fail
  refine wrl3 (tl := [isb p, isv (.tuple #[.agg (pe P.x (P.y - 1)), .bool true]), isP P, isv (.bool true)]) (pre := [(0, 0)])
    (plan := [Pk.val [(0, 0)] 0, Pk.val [(15, 0)] 1, Pk.val [(16, 1)] 1, Pk.val [(14, 1)] 2, Pk.val [(14, 1)] 3, Pk.alc 49 8, Pk.sto 5 17 2, Pk.val [(18, 3)] 3])
    [0] [] [] 53 (by kernel_rfl) rfl (by kernel_rfl) ⟨.inl rfl, ⟨.inr (lv0 _ _ _), ⟨.inr (lull_Q5 _ _ _), ⟨.inr (lv0 _ _ _), trivial⟩⟩⟩⟩
    snkAt0 snk0 ⟨HP.out, trivial⟩
   (Oc3 (fun a w X_ h => g_move (wq0 rfl) (.inl rfl) h.1)
   (Oc3 (fun a w X_ h => g_call1 (wq0 rfl) (by kernel_rfl) rfl (vf_s h.1 (LDe.out.step (X_.on BEL.out SZ.out none_le)) (LDm.out.step (X_.on BEL.out SZ.out none_le)) HD.out))
   (Oc3 (fun a w X_ h => g_move (wq0 rfl) (.inl rfl) h.1)
   (Oc3 (fun a w X_ h => g_ext (wq0 rfl) rfl h.1 rfl rfl)
   (Oc3 (fun a w X_ h => g_ext (wq0 rfl) rfl h.1 rfl rfl)
   (Oc3 (alc_of zp rfl rfl rfl newP)
   (Oc3 (⟨rfl, _, _, _, rfl, rfl, rfl, by kernel_rfl, row_Q5 _⟩)
   (Oc3 (fun a w X_ h => g_move (wq0 rfl) (.inr rfl) h.1)
      OkL3.nil)))))))) ?_
  rintro W1 X1 v15 - _ rfl _ rfl _ rfl _ rfl g7 c7 ⟨L7, Z7, -⟩ r7 H7 _ rfl
  refine Fd3 ?_
  simp only [Act.put, List.setIfInBounds_toArray, List.set_cons_zero, List.set_cons_succ]
  obtain rfl : c7 = pe P.x (P.y - 1) := agg_inj H7
  have R7 := hide (And.intro Z7 r7)
  clear r7
  replace BEL := hide (X1.on BEL.out SZ.out none_le)
  replace SZ := hide BEL.out.size
  have SW1 := X1.size
  clear X1 H7
  clear R7
  go_wp2
  go_ret
  exact ⟨rfl, BEL.out⟩
set_option linter.unusedSimpArgs false in
set_option maxRecDepth 100000 in
set_option maxHeartbeats 4000000 in
theorem vf_may {pv mv sv : Value} {p s : List Nat} {P : Pt} {w : World} (hp : BsAt w pv p) (hs : BsAt w sv s) (hl : s.length = 64) (hd : dec p = some (P.x, P.y)) (hL : Sc.Laid w) (hmy : Sc.mayb (s.drop 32) = false) (LDe : LaidW 3 eiw w) (LDm : LaidW 1 rmw w) : Calls Tryz.prog 12 #[pv, mv, sv] w fun e w' => e = .returned (.bool false) ∧ Below w.heap.size w w' := by
  replace LDe := hide LDe
  replace LDm := hide LDm
  have hs' := hs
  obtain ⟨asx, cs, rfl, hcs, _⟩ := hs.len
  obtain ⟨b, o, c', ao', e', hc', hm', hl', hh'⟩ := hs
  injection e' with e1 e2 e3
  obtain ⟨e4, hb4, hr4⟩ := hh' (fun e => by rw [e] at hl; simp at hl)
  subst e3
  rw [e4] at e1
  subst e1
  clear hr4 hb4 e4 hh' hl' hm' hc' e2
  rw [hl] at hs' ⊢
  have hlo := at_lo hs' hl
  have hhi := at_hi hs' hl
  rw [hl] at hcs
  have s1 := fun w_ => sl_lo w_ b o 64 cs (by omega)
  have s2 := fun w_ => sl_hi w_ b o 64 cs (by omega) (by omega)
  have HMY : Hid (∀ W : World, Below w.heap.size w W → Hands Tryz.prog 26 #[.slice (some ⟨b, o + 32, none⟩) (64 - 32) (cs - 32)] W (isv (.bool false))) := fun W hW => by
    have h2 := Sc.f_may (u := .slice (some ⟨b, o + 32, none⟩) (64 - 32) (cs - 32)) (a := s.drop 32) (w := W) (hhi.ext hW) (hL.step hW)
    rw [hmy] at h2
    exact h2
  clear hs' hl hL hmy hlo hhi hcs
  have HD := hide hd
  have HP := hide hp
  have BEL := hide (Below.refl w.heap.size w)
  have SZ := hide BEL.out.size
  clear hp hd
  go_enter Tryz.func12, Tryz.ntmps12
  go_upto_region 1 with fail
  refine wrl3 (tl := [isb p, isv (.tuple #[.agg (pe P.x (P.y - 1)), .bool true]), isP P, isv (.bool true)]) (pre := [(0, 0)])
    (plan := [Pk.val [(0, 0)] 0, Pk.val [(15, 0)] 1, Pk.val [(16, 1)] 1, Pk.val [(14, 1)] 2, Pk.val [(14, 1)] 3, Pk.alc 49 8, Pk.sto 5 17 2, Pk.val [(18, 3)] 3])
    [0] [] [] 53 (by kernel_rfl) rfl (by kernel_rfl) ⟨.inl rfl, ⟨.inr (lv0 _ _ _), ⟨.inr (lull_Q5 _ _ _), ⟨.inr (lv0 _ _ _), trivial⟩⟩⟩⟩
    snkAt0 snk0 ⟨HP.out, trivial⟩
   (Oc3 (fun a w X_ h => g_move (wq0 rfl) (.inl rfl) h.1)
   (Oc3 (fun a w X_ h => g_call1 (wq0 rfl) (by kernel_rfl) rfl (vf_s h.1 (LDe.out.step (X_.on BEL.out SZ.out none_le)) (LDm.out.step (X_.on BEL.out SZ.out none_le)) HD.out))
   (Oc3 (fun a w X_ h => g_move (wq0 rfl) (.inl rfl) h.1)
   (Oc3 (fun a w X_ h => g_ext (wq0 rfl) rfl h.1 rfl rfl)
   (Oc3 (fun a w X_ h => g_ext (wq0 rfl) rfl h.1 rfl rfl)
   (Oc3 (alc_of zp rfl rfl rfl newP)
   (Oc3 (⟨rfl, _, _, _, rfl, rfl, rfl, by kernel_rfl, row_Q5 _⟩)
   (Oc3 (fun a w X_ h => g_move (wq0 rfl) (.inr rfl) h.1)
      OkL3.nil)))))))) ?_
  rintro W1 X1 v15 - _ rfl _ rfl _ rfl _ rfl g7 c7 ⟨L7, Z7, -⟩ r7 H7 _ rfl
  refine Fd3 ?_
  simp only [Act.put, List.setIfInBounds_toArray, List.set_cons_zero, List.set_cons_succ]
  obtain rfl : c7 = pe P.x (P.y - 1) := agg_inj H7
  have R7 := hide (And.intro Z7 r7)
  clear r7
  replace BEL := hide (X1.on BEL.out SZ.out none_le)
  replace SZ := hide BEL.out.size
  have SW1 := X1.size
  clear X1 H7
  clear R7
  go_upto_region 4 with fail
  go_quiet (fail)
  go_wp2_with fail
  refine (HMY.out _ (below_dn BEL.out nq)).mono ?_
  rintro e w2 ⟨v2, rfl, b2, rfl⟩
  have B2 := hide (Below.chain (below_dn BEL.out nq) b2)
  clear b2 BEL SZ SW1
  go_wp2
  go_ret
  exact ⟨rfl, B2.out⟩
set_option linter.unusedSimpArgs false in
set_option maxRecDepth 100000 in
set_option maxHeartbeats 4000000 in
theorem vf_main {pv mv sv : Value} {p m s : List Nat} {P : Pt} {d : Bool} {w : World} (hp : BsAt w pv p) (hs : BsAt w sv s) (hmv : BsAt w mv m) (hl : s.length = 64) (hpl : p.length = 32) (hm : m.length ≤ 1000000) (hd : dec p = some (P.x, P.y)) (hL : Sc.Laid w) (ht : Sh.Tabs w) (LDi : LaidW 2 exw w) (hmy : Sc.mayb (s.drop 32) = true) (hdd : decide (pkP ((Pt.mul (bval ((s.drop 32).take 32)) Bp).add (Pt.mul (bval ((hsh [s.take 32, p, m].flatten).take 32)) P.neg)) = s.take 32) = d) (LDe : LaidW 3 eiw w) (LDm : LaidW 1 rmw w) : Calls Tryz.prog 12 #[pv, mv, sv] w fun e w' => e = .returned (.bool d) ∧ Below w.heap.size w w' := by
  replace LDe := hide LDe
  replace LDm := hide LDm
  have hs' := hs
  obtain ⟨asx, cs, rfl, hcs, _⟩ := hs.len
  obtain ⟨b, o, c', ao', e', hc', hm', hl', hh'⟩ := hs
  injection e' with e1 e2 e3
  obtain ⟨e4, hb4, hr4⟩ := hh' (fun e => by rw [e] at hl; simp at hl)
  subst e3
  rw [e4] at e1
  subst e1
  clear hr4 hb4 e4 hh' hl' hm' hc' e2
  rw [hl] at hs' ⊢
  have hlo := at_lo hs' hl
  have hhi := at_hi hs' hl
  rw [hl] at hcs
  have s1 := fun w_ => sl_lo w_ b o 64 cs (by omega)
  have s2 := fun w_ => sl_hi w_ b o 64 cs (by omega) (by omega)
  have HMY : Hid (∀ W : World, Below w.heap.size w W → Hands Tryz.prog 26 #[.slice (some ⟨b, o + 32, none⟩) (64 - 32) (cs - 32)] W (isv (.bool true))) := fun W hW => by
    have h2 := Sc.f_may (u := .slice (some ⟨b, o + 32, none⟩) (64 - 32) (cs - 32)) (a := s.drop 32) (w := W) (hhi.ext hW) (hL.step hW)
    rw [hmy] at h2
    exact h2
  obtain ⟨q, hq⟩ : ∃ q, hsh [s.take 32, p, m].flatten = q := ⟨_, rfl⟩
  rw [hq] at hdd
  have HH : Hid (∀ (W : World) (v : Value), Below w.heap.size w W → RsAt W v [s.take 32, p, m] → Hands Tryz.prog 30 #[v] W (isb q)) := fun W v hW hR => by
    rw [← hq]; exact hashed_any hR (ht.below hW ht.2.2) (hL.step hW) (by simp; omega)
  have HM1 : Hid (∀ (W : World) (u v : Value), Below w.heap.size w W → (isP Bp).p W u → BsAt W v (s.drop 32) → Hands Tryz.prog 28 #[u, v] W (isP (Pt.mul (bval ((s.drop 32).take 32)) Bp))) := fun W u v hW hu hv => p_mulN rfl hu hv (LDi.step hW)
  have HM2 : Hid (∀ (W : World) (u v : Value), Below w.heap.size w W → (isP P.neg).p W u → BsAt W v q → Hands Tryz.prog 28 #[u, v] W (isP (Pt.mul (bval (q.take 32)) P.neg))) := fun W u v hW hu hv => p_mulN rfl hu hv (LDi.step hW)
  have HAD : Hid (∀ (W : World) (u v : Value), Below w.heap.size w W → (isP (Pt.mul (bval ((s.drop 32).take 32)) Bp)).p W u → (isP (Pt.mul (bval (q.take 32)) P.neg)).p W v → Hands Tryz.prog 32 #[u, v] W (isP ((Pt.mul (bval ((s.drop 32).take 32)) Bp).add (Pt.mul (bval (q.take 32)) P.neg)))) := fun W u v hW hu hv => p_addP hu hv (LDi.step hW)
  obtain ⟨X1, hX1⟩ : ∃ X, Pt.mul (bval ((s.drop 32).take 32)) Bp = X := ⟨_, rfl⟩
  obtain ⟨X2, hX2⟩ : ∃ X, Pt.mul (bval (q.take 32)) P.neg = X := ⟨_, rfl⟩
  obtain ⟨X3, hX3⟩ : ∃ X, X1.add X2 = X := ⟨_, rfl⟩
  rw [hX1] at HM1 HAD hdd
  rw [hX2] at HM2 HAD hdd
  rw [hX3] at HAD hdd
  have HB : Hid (∀ (W : World) (u : Value), (isP X3).p W u → Hands Tryz.prog 33 #[u] W (isb (pkP X3))) := fun W u hu => h_bytes hu
  have HE : Hid (∀ (W : World) (u v : Value), BsAt W u (pkP X3) → BsAt W v (s.take 32) → Hands Tryz.prog 31 #[u, v] W (isv (.bool d))) := fun W u v hu hv => by
    have h2 := h_equal hu hv; rw [hdd] at h2; exact h2
  have HQ := hide (And.intro hlo (And.intro hhi (And.intro hp hmv)))
  obtain ⟨ap, cp, rfl, _, _⟩ := hp.len
  obtain ⟨am, cm, rfl, _, _⟩ := hmv.len
  clear hs' hl hL hmy hlo hhi hcs hq hX1 hX2 hX3 hdd hmv ht LDi hpl hm
  have HD := hide hd
  have HP := hide hp
  have BEL := hide (Below.refl w.heap.size w)
  have SZ := hide BEL.out.size
  clear hp hd
  go_enter Tryz.func12, Tryz.ntmps12
  go_upto_region 1 with fail
  refine wrl3 (tl := [isb p, isv (.tuple #[.agg (pe P.x (P.y - 1)), .bool true]), isP P, isv (.bool true)]) (pre := [(0, 0)])
    (plan := [Pk.val [(0, 0)] 0, Pk.val [(15, 0)] 1, Pk.val [(16, 1)] 1, Pk.val [(14, 1)] 2, Pk.val [(14, 1)] 3, Pk.alc 49 8, Pk.sto 5 17 2, Pk.val [(18, 3)] 3])
    [0] [] [] 53 (by kernel_rfl) rfl (by kernel_rfl) ⟨.inl rfl, ⟨.inr (lv0 _ _ _), ⟨.inr (lull_Q5 _ _ _), ⟨.inr (lv0 _ _ _), trivial⟩⟩⟩⟩
    snkAt0 snk0 ⟨HP.out, trivial⟩
   (Oc3 (fun a w X_ h => g_move (wq0 rfl) (.inl rfl) h.1)
   (Oc3 (fun a w X_ h => g_call1 (wq0 rfl) (by kernel_rfl) rfl (vf_s h.1 (LDe.out.step (X_.on BEL.out SZ.out none_le)) (LDm.out.step (X_.on BEL.out SZ.out none_le)) HD.out))
   (Oc3 (fun a w X_ h => g_move (wq0 rfl) (.inl rfl) h.1)
   (Oc3 (fun a w X_ h => g_ext (wq0 rfl) rfl h.1 rfl rfl)
   (Oc3 (fun a w X_ h => g_ext (wq0 rfl) rfl h.1 rfl rfl)
   (Oc3 (alc_of zp rfl rfl rfl newP)
   (Oc3 (⟨rfl, _, _, _, rfl, rfl, rfl, by kernel_rfl, row_Q5 _⟩)
   (Oc3 (fun a w X_ h => g_move (wq0 rfl) (.inr rfl) h.1)
      OkL3.nil)))))))) ?_
  rintro W1 X1 v15 - _ rfl _ rfl _ rfl _ rfl g7 c7 ⟨L7, Z7, -⟩ r7 H7 _ rfl
  refine Fd3 ?_
  simp only [Act.put, List.setIfInBounds_toArray, List.set_cons_zero, List.set_cons_succ]
  obtain rfl : c7 = pe P.x (P.y - 1) := agg_inj H7
  have R7 := hide (And.intro Z7 r7)
  clear r7
  replace BEL := hide (X1.on BEL.out SZ.out none_le)
  replace SZ := hide BEL.out.size
  have SW1 := X1.size
  clear X1 H7
  go_upto_region 4 with fail
  go_quiet (fail)
  have B1 := hide (below_dn BEL.out nq)
  go_wp2_with fail
  refine (HMY.out _ B1.out).mono ?_
  rintro e w2 ⟨v2, rfl, b2, rfl⟩
  replace BEL := hide (Below.chain B1.out b2)
  replace SZ := hide BEL.out.size
  replace R7 := hide (And.intro (Nat.lt_of_lt_of_le R7.out.1 b2.size) (Below.heap b2 R7.out.1 R7.out.2))
  have SW2 := b2.size
  clear b2 B1 SW1
  go_upto_region 7 with fail
  refine wrt3 (tl := [isP Bp, isv (.func (.func 28) #[.agg (pe Bp.x (Bp.y - 1))] #[]), isv (.pointer (some ⟨g7, 0, none⟩)), isP P, isP P.neg, isv (.func (.func 28) #[.agg (pe P.neg.x (P.neg.y - 1))] #[])]) (pre := [(7, 2)])
    (plan := [Pk.val [] 0, Pk.val [(33, 0)] 1, Pk.val [(7, 2)] 3, Pk.val [(35, 3)] 4, Pk.val [(36, 4)] 5, Pk.val [(34, 1)] 1, Pk.val [(37, 5)] 5])
    [] [] [] (by kernel_rfl) 53 (by kernel_rfl) rfl (by kernel_rfl) ⟨.inr (lull_Q5 _ _ _), ⟨.inr (lv0 _ _ _), ⟨.inr (lv0 _ _ _), ⟨.inr (lull_Q5 _ _ _), ⟨.inr (lull_Q5 _ _ _), ⟨.inr (lv0 _ _ _), trivial⟩⟩⟩⟩⟩⟩
    snkAt0 snk0 ⟨rfl, trivial⟩
   (Oc3 (fun a w X_ h => g_call0 (wq0 rfl) (by kernel_rfl) rfl (p_baseP))
   (Oc3 (fun a w X_ h => g_mkf (wq0 rfl) rfl h.1 rfl)
   (Oc3 (fun a w X_ h => g_ldp (wq0 rfl) rfl h.1 (X_.at_ R7.out.1 out0 R7.out.2))
   (Oc3 (fun a w X_ h => g_call1 (wq0 rfl) (by kernel_rfl) rfl (p_negP h.1))
   (Oc3 (fun a w X_ h => g_mkf (wq0 rfl) rfl h.1 rfl)
   (Oc3 (fun a w X_ h => g_move (wq0 rfl) (.inr rfl) h.1)
   (Oc3 (fun a w X_ h => g_move (wq0 rfl) (.inr rfl) h.1)
      OkL3.nil))))))) ?_
  rintro W7 X7 _ rfl _ rfl _ rfl _ rfl _ rfl _ rfl _ rfl
  refine Fd3 ?_
  simp only [Act.put, List.setIfInBounds_toArray, List.set_cons_zero, List.set_cons_succ]
  replace R7 := hide (X7.row out0 R7.out)
  replace BEL := hide (X7.on BEL.out SZ.out none_le)
  replace SZ := hide BEL.out.size
  have SW7 := X7.size
  clear X7
  clear R7
  go_wp2_with fail
  have B8 := hide (BEL.out.alloc BEL.out.size (.cells #[.slice (some ⟨b, o, none⟩) 32 cs, .slice ap p.length cp, .slice am m.length cm] 22))
  refine (HH.out _ _ B8.out (rs3 (HQ.out.1.ext BEL.out) (HQ.out.2.2.1.ext BEL.out) (HQ.out.2.2.2.ext BEL.out))).mono ?_
  rintro e w3 ⟨v3, rfl, b3, h3⟩
  have B3 := hide (Below.chain B8.out b3)
  have Q3 : Hid (BsAt w3 v3 q) := h3
  clear b3 h3 B8 BEL SZ
  go_wp2_with fail
  refine (HM1.out _ _ _ B3.out rfl (HQ.out.2.1.ext B3.out)).mono ?_
  rintro e w4 ⟨v4, rfl, b4, h4⟩
  have B4 := hide (Below.chain B3.out b4)
  have Q4 := hide (Q3.out.ext b4)
  have V4 : Hid (v4 = _) := h4
  clear b4 h4 B3 Q3
  go_wp2_with fail
  refine (HM2.out _ _ _ B4.out rfl Q4.out).mono ?_
  rintro e w5 ⟨v5, rfl, b5, h5⟩
  have B5 := hide (Below.chain B4.out b5)
  have V5 : Hid (v5 = _) := h5
  clear b5 h5 B4 Q4
  go_wp2_with fail
  refine (HAD.out _ _ _ B5.out V4.out V5.out).mono ?_
  rintro e w6 ⟨v6, rfl, b6, h6⟩
  have B6 := hide (Below.chain B5.out b6)
  have V6 : Hid (v6 = _) := h6
  clear b6 h6 B5 V4 V5
  go_wp2_with fail
  refine (HB.out _ _ V6.out).mono ?_
  rintro e w8 ⟨v8, rfl, b8, h8⟩
  have B9 := hide (Below.chain B6.out b8)
  have V8 : Hid (BsAt w8 v8 (pkP X3)) := h8
  clear b8 h8 B6 V6
  go_wp2_with fail
  refine (HE.out _ _ _ V8.out (HQ.out.1.ext B9.out)).mono ?_
  rintro e w9 ⟨v9, rfl, b9, rfl⟩
  have BF := hide (Below.chain B9.out b9)
  clear b9 B9 V8
  go_wp2
  go_ret
  exact ⟨rfl, BF.out⟩
theorem Verify_any {pv mv sv : Value} {p m s : List Nat} {w : World} (hp : BsAt w pv p) (hmv : BsAt w mv m) (hs : BsAt w sv s) (hm : m.length ≤ 1000000) (LDi : LaidW 2 exw w) (LDe : LaidW 3 eiw w) (LDm : LaidW 1 rmw w) (ht : Sh.Tabs w) (hL : Sc.Laid w) :
    Calls Tryz.prog 12 #[pv, mv, sv] w fun e w' => e = .returned (.bool (verB p m s)) ∧ Below w.heap.size w w' := by
  cases hd : dec p with
  | none => rw [verB_none m s hd]; exact vf_none hp hd LDe LDm
  | some q =>
    obtain ⟨x, y⟩ := q
    obtain ⟨P, hP⟩ : ∃ P : Pt, dec p = some (P.x, P.y) := ⟨⟨x, y, dec_on hd⟩, hd⟩
    rw [verB_some m s hP]
    unfold verP
    by_cases hl : s.length = 64
    · cases hmy : Sc.mayb (s.drop 32) with
      | false => rw [Bool.false_and, Bool.and_false]; exact vf_may hp hs hl hP hL hmy LDe LDm
      | true => rw [decide_eq_true hl, Bool.true_and, Bool.true_and]; exact vf_main hp hs hmv hl (dec_len hP) hm hP hL ht LDi hmy rfl LDe LDm
    · rw [decide_eq_false hl, Bool.false_and]; exact vf_len hp hs hl hP LDe LDm
end Go.Proofs.YtobgimpkkjaolaaGreatDoor
