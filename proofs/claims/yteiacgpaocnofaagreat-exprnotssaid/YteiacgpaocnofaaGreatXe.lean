/- The machine runs; what an expression tells; what the laws put together. -/
import Derived.Test.YteiacgpaocnofaaGreatXc
import Derived.Test.YteiacgpaocnofaaGreatTz
import Derived.Deep.Matrix
import Derived.Test.YteiacgpaocnofaaGreatSz
/- The machine at work: operation by operation. -/
namespace Go.Proofs.YteiacgpaocnofaaGreat
open Go.RowKit
variable {W0 w : World} {b : Bd} {g : Nat} {ra : Option Addr} {rc : Nat} {sv : Value}
/-- How many operations are still to be done. -/
def restN (g : Nat) (w : World) : Nat := match w.cell? ⟨g, 2, none⟩ with | some (.slice _ n _) => n | _ => 0
theorem MS.restN {l : List Ox} {Z : List Zt} (h : MS W0 b g w l ra rc sv Z) : restN g w = l.length := by
  unfold Go.Proofs.YteiacgpaocnofaaGreat.restN
  rw [cell_of_row _ _ 2 _ _ _ h.cell]
  rfl
/-- Where a machine stands that began with operations l0. -/
structure Run (W0 : World) (b : Bd) (g P : Nat) (l0 : List Ox) (w : World) (l : List Ox) (ra : Option Addr) (rc : Nat) (sv : Value) (Z : List Zt) : Prop where
  ms : MS W0 b g w l ra rc sv Z
  hgt : hg l (Z.length : Int) = some 1
  few : Z.length + l.length ≤ 32
  ev : ∀ S E, EvR (lkT b.nl b.tl) l (stkL Z) S E → EvR (lkT b.nl b.tl) l0 [] S E
  row : w.heap[P]? = some (.cells (stepV g) 80 (0, 0))
  ne : P ≠ g
  own : sv.ownBlock ≠ some P
/-- What a run answers. -/
def RunA (W0 : World) (b : Bd) (g : Nat) (l0 : List Ox) (e : Ending) (w' : World) : Prop :=
  ∃ E S, e = .returned (.int .i64 E) ∧ EvR (lkT b.nl b.tl) l0 [] S E ∧ Below W0.heap.size W0 w' ∧ (E = 0 → ∃ ra rc sv z, S = [z.1] ∧ MS W0 b g w' [] ra rc sv [z])
theorem hg_step {x : Ox} {r r1 : List Ox} {S S1 : List Tm} {lk : ByteArray → Option Tm} {h1 : Int} (hh : hg (x :: r) (S.length : Int) = some h1) (hs : stepR lk x r S r1 S1 0) : hg r1 (S1.length : Int) = some h1 ∧ S1.length + r1.length ≤ S.length + r.length + 1 ∧ r1.length ≤ r.length := by
  have c := hg_some hh
  unfold stepR at hs
  by_cases c1 : x.kd = 1
  · rw [if_pos c1] at hs
    obtain ⟨rfl, hs⟩ := hs
    have hf := (hg_flat hh (by omega)).2
    have ht : takesN x.kd = 0 := by unfold takesN; rw [if_neg (by omega), if_neg (by omega)]
    rw [ht] at hf
    have hl : S1.length = S.length + 1 := by
      by_cases cv : x.t.k = 1
      · rw [if_pos cv] at hs
        cases hl : lk x.t.s with
        | none => rw [hl] at hs; exact absurd hs.2 (by decide)
        | some y => rw [hl] at hs; rw [hs.1]; rfl
      · rw [if_neg cv] at hs; rw [hs.1]; rfl
    rw [hl]
    exact ⟨by rw [← hf]; congr 1; try omega, by omega, Nat.le_refl _⟩
  rw [if_neg c1] at hs
  by_cases c2 : x.kd = 2
  · rw [if_pos c2] at hs
    obtain ⟨rfl, a, S0, rfl, he, rfl⟩ := hs
    have hf := (hg_flat hh (by omega)).2
    have ht : takesN x.kd = 1 := by unfold takesN; rw [if_pos (by omega)]
    rw [ht] at hf
    rw [if_pos rfl]
    simp only [List.length_cons] at hf ⊢
    exact ⟨by rw [← hf]; congr 1; try omega, by omega, Nat.le_refl _⟩
  rw [if_neg c2] at hs
  by_cases c3 : x.kd = 3
  · rw [if_pos c3] at hs
    obtain ⟨rfl, u, a, S0, t, rfl, _, rfl⟩ := hs
    have hf := (hg_flat hh (by omega)).2
    have ht : takesN x.kd = 2 := by unfold takesN; rw [if_neg (by omega), if_pos c3]
    rw [ht] at hf
    rw [if_pos rfl]
    simp only [List.length_cons] at hf ⊢
    exact ⟨by rw [← hf]; congr 1; omega, by omega, Nat.le_refl _⟩
  rw [if_neg c3] at hs
  have h45 : x.kd = 4 ∨ x.kd = 5 := by rcases op_kind c.op with h | h | h | h | h <;> omega
  obtain ⟨a, S0, rfl, hs⟩ := hs
  obtain ⟨hl1, hl2⟩ := hg_lazy hh h45
  by_cases c6 : a.k ≠ 6
  · rw [if_pos c6] at hs; exact absurd hs.1 (by decide)
  rw [if_neg c6] at hs
  obtain ⟨_, hs⟩ := hs
  by_cases c5 : (a.n == 1) = (x.kd == 5)
  · rw [if_pos c5] at hs
    obtain ⟨rfl, rfl⟩ := hs
    exact ⟨hl2, by rw [List.length_drop]; omega, by rw [List.length_drop]; omega⟩
  · rw [if_neg c5] at hs
    obtain ⟨rfl, rfl⟩ := hs
    simp only [List.length_cons] at hl1 ⊢
    exact ⟨by rw [← hl1]; congr 1; omega, by omega, Nat.le_refl _⟩
theorem hg_need {x : Ox} {r : List Ox} {n : Nat} {h1 : Int} (hh : hg (x :: r) (n : Int) = some h1) : (x.kd = 2 ∨ x.kd = 4 ∨ x.kd = 5 → 1 ≤ n) ∧ (x.kd = 3 → 2 ≤ n) := by
  have h := (hg_some hh).low
  constructor
  · intro hk
    have ht : takesN x.kd = 1 := by unfold takesN; rw [if_pos hk]
    omega
  · intro hk
    have ht : takesN x.kd = 2 := by unfold takesN; rw [if_neg (by omega), if_pos hk]
    omega
/-- Any step. -/
theorem step_put {x : Ox} {r : List Ox} {xa : Option Addr} {xc : Nat} {Z : List Zt} (h : MS W0 b g w r ra rc sv Z) (hb : BAt W0 b.nl b.na b.nc b.tl b.ta b.tc) (hm : Mb b.nl b.tl) (hx : TAt W0 x.t xa xc) (ho : isOpB x = true) (hk : x.kd = 1) (hn : Z.length ≤ 40) : Calls Tryz.prog 76 #[.pointer (some ⟨g, 0, none⟩), ov x xa xc] w (StepA W0 b g w x r sv Z) := by
  by_cases hv : x.t.k = 1
  · exact put_var h hb hm hk hv hn
  · exact put_term h hx ho hk hv hn
theorem step_unary {x : Ox} {r : List Ox} {xa : Option Addr} {xc : Nat} {Z : List Zt} (h : MS W0 b g w r ra rc sv Z) (hk : x.kd = 2) (h1 : 1 ≤ Z.length) (hn : Z.length ≤ 40) : Calls Tryz.prog 77 #[.pointer (some ⟨g, 0, none⟩), ov x xa xc] w (StepA W0 b g w x r sv Z) := by
  obtain ⟨Y, z, rfl⟩ := stk_top h1
  rw [List.length_append] at hn
  by_cases hE : (unF x.cd z.1).2 = 0
  · exact unary_ok h hk (by omega) hE
  · exact unary_bad h hk (by omega) hE
theorem step_binary {x : Ox} {r : List Ox} {xa : Option Addr} {xc : Nat} {Z : List Zt} (hM : MaxL W0) (h : MS W0 b g w r ra rc sv Z) (hk : x.kd = 3) (h1 : 2 ≤ Z.length) (hn : Z.length ≤ 40) : Calls Tryz.prog 78 #[.pointer (some ⟨g, 0, none⟩), ov x xa xc] w (StepA W0 b g w x r sv Z) := by
  obtain ⟨Y, z, rfl⟩ := stk_top (show 0 < Z.length by omega)
  rw [List.length_append, List.length_singleton] at h1 hn
  obtain ⟨X, y, rfl⟩ := stk_top (show 0 < Y.length by omega)
  rw [List.length_append] at hn
  exact binary_any hM h hk (by omega)
theorem step_and {x : Ox} {r : List Ox} {xa : Option Addr} {xc : Nat} {Z : List Zt} (h : MS W0 b g w r ra rc sv Z) (hk : x.kd = 4) (h1 : 1 ≤ Z.length) (hn : Z.length ≤ 40) (h0 : 0 ≤ x.sk) (hs : x.sk ≤ (r.length : Int)) : Calls Tryz.prog 79 #[.pointer (some ⟨g, 0, none⟩), ov x xa xc] w (StepA W0 b g w x r sv Z) := by
  obtain ⟨Y, z, rfl⟩ := stk_top h1
  rw [List.length_append] at hn
  exact and_any h hk (by omega) x.sk.toNat (by omega) (by omega)
theorem step_or {x : Ox} {r : List Ox} {xa : Option Addr} {xc : Nat} {Z : List Zt} (h : MS W0 b g w r ra rc sv Z) (hk : x.kd = 5) (h1 : 1 ≤ Z.length) (hn : Z.length ≤ 40) (h0 : 0 ≤ x.sk) (hs : x.sk ≤ (r.length : Int)) : Calls Tryz.prog 80 #[.pointer (some ⟨g, 0, none⟩), ov x xa xc] w (StepA W0 b g w x r sv Z) := by
  obtain ⟨Y, z, rfl⟩ := stk_top h1
  rw [List.length_append] at hn
  exact or_any h hk (by omega) x.sk.toNat (by omega) (by omega)
/-- Behind a step. -/
theorem Run.step {P : Nat} {l0 : List Ox} {x : Ox} {r : List Ox} {Z : List Zt} {w2 w3 : World} {r1 : List Ox} {ra1 : Option Addr} {rc1 : Nat} {sv1 : Value} {Z1 : List Zt} (h : Run W0 b g P l0 w (x :: r) ra rc sv Z) (m0 : Mv g w sv w2 sv) (hs : stepR (lkT b.nl b.tl) x r (stkL Z) r1 (stkL Z1) 0) (hm : MS W0 b g w3 r1 ra1 rc1 sv1 Z1) (m : Mv g w2 sv w3 sv1) : Run W0 b g P l0 w3 r1 ra1 rc1 sv1 Z1 ∧ r1.length < (x :: r).length := by
  have hh := h.hgt
  rw [← stkL_len] at hh
  have h1 := hg_step hh hs
  rw [stkL_len, stkL_len] at h1
  have hf := h.few
  rw [List.length_cons] at hf
  have mm := m0.trans m
  refine ⟨⟨hm, h1.1, by omega, fun S E he => h.ev S E (.go hs he), (mm.block P (Array.getElem?_eq_some_iff.1 h.row).1 h.ne h.own).trans h.row, h.ne, mm.new (Array.getElem?_eq_some_iff.1 h.row).1 h.own⟩, by rw [List.length_cons]; omega⟩
set_option maxRecDepth 100000 in
set_option maxHeartbeats 16000000 in
theorem run_any {l0 : List Ox} (hM : MaxL W0) (hb : BAt W0 b.nl b.na b.nc b.tl b.ta b.tc) (hm : Mb b.nl b.tl) (h : MS W0 b g w l0 ra rc sv []) (hl : l0.length ≤ 32) (hh : hg l0 0 = some 1) : Calls Tryz.prog 31 #[.pointer (some ⟨g, 0, none⟩)] w (RunA W0 b g l0) := by
  have HM := hide (And.intro h (And.intro hl hh))
  have HBD := hide (And.intro hb hm)
  have HML := hide hM
  clear h hb hm hM hl hh
  go_enter Tryz.func31, Tryz.ntmps31
  go_wp2_with fail
  refine (steps_any g w).mono ?_
  rintro e_ w1 ⟨rfl, b1⟩
  go_wp2_with (refine wpList_store_row rfl 80 (.tmp 3) (.tmp 7) rfl w1.heap.size (stepV g) rfl rfl 80 #[.nilFunc, .nilFunc, .nilFunc, .nilFunc, .nilFunc, .nilFunc] (heap_alloc_last _ _) (by kernel_rfl) rfl (by kernel_rfl) ?_)
  have bA : Below w.heap.size w ((w1.alloc (.cells #[.nilFunc, .nilFunc, .nilFunc, .nilFunc, .nilFunc, .nilFunc] 80)).setRow w1.heap.size (stepV g)) := Below.chain b1 (Below.setRow (alloc_below w1 (.cells #[.nilFunc, .nilFunc, .nilFunc, .nilFunc, .nilFunc, .nilFunc] 80)) _ _ (Nat.le_refl _))
  have rA : ((w1.alloc (.cells #[.nilFunc, .nilFunc, .nilFunc, .nilFunc, .nilFunc, .nilFunc] 80)).setRow w1.heap.size (stepV g)).heap[w1.heap.size]? = some (.cells (stepV g) 80 (0, 0)) := setRow_heap _ _ _ _ _ _ (heap_alloc_last w1 (.cells #[.nilFunc, .nilFunc, .nilFunc, .nilFunc, .nilFunc, .nilFunc] 80))
  have m1 := HM.out.1.ext b1
  have hnw := m1.new
  have HR0 := hide (show Run W0 b g w1.heap.size l0 ((w1.alloc (.cells #[.nilFunc, .nilFunc, .nilFunc, .nilFunc, .nilFunc, .nilFunc] 80)).setRow w1.heap.size (stepV g)) l0 ra rc sv [] from ⟨HM.out.1.ext bA, HM.out.2.2, by simpa using HM.out.2.1, fun S E h => h, rA, hnw.1, hnw.2⟩)
  clear b1 bA rA m1 hnw
  generalize w1.heap.size = P at *
  generalize (w1.alloc (.cells #[.nilFunc, .nilFunc, .nilFunc, .nilFunc, .nilFunc, .nilFunc] 80)).setRow P (stepV g) = w2 at *
  simp only [Act.put]
  go_loopw [] (fun wr => ∃ l ra rc sv Z, Run W0 b g P l0 wr l ra rc sv Z) (fun wr => restN g wr)
  case atStart => exact ⟨l0, ra, rc, sv, [], HR0.out⟩
  case round =>
    obtain ⟨l, ra, rc, sv, Z, hR⟩ := hrel
    have HR := hide hR
    have m2 := cell_of_row _ _ 2 _ _ _ hR.ms.cell
    simp only [List.getElem?_toArray, List.getElem?_cons_zero, List.getElem?_cons_succ] at m2
    clear hR HR0 HM
    cases l with
    | nil =>
      have hZ : Z.length = 1 := by have := HR.out.hgt; rw [hg_nil] at this; injection this with this; omega
      have HZ := hide hZ
      clear hZ
      simp only [List.length_nil] at m2
      go_wp2
      go_ret
      obtain ⟨Y, z, hz⟩ := stk_top (show 0 < Z.length by have := HZ.out; omega)
      have hY : Y = [] := List.eq_nil_of_length_eq_zero (by have := HZ.out; rw [hz, List.length_append, List.length_singleton] at this; omega)
      rw [hY, List.nil_append] at hz
      have hms := HR.out.ms
      rw [hz] at hms
      exact ⟨0, stkL Z, rfl, HR.out.ev _ _ (.nil _), HR.out.ms.bel, fun _ => ⟨ra, rc, sv, z, by rw [hz]; rfl, hms⟩⟩
    | cons x r =>
      obtain ⟨bb, o, xa, xc, rfl, hbb, hxt, hF, h7⟩ := HR.out.ms.ops.head
      obtain ⟨p0, p1, p2, p3, p4, p5, p6⟩ := h7 wr HR.out.ms.bel
      obtain ⟨a2, c2, hs1, hA2⟩ := os_from HR.out.ms.ops 1 (by simp)
      replace hs1 : ∀ W : World, (Instr.sliceAt 22 (.slice (some ⟨bb, o, none⟩) (r.length + 1) rc) (some (.int .i64 1)) none none).run Tryz.prog W = .ok (.slice a2 r.length c2) W := hs1
      replace hA2 : OAt W0 r a2 c2 := hA2
      have hix := fun w_ => ix_ops0 w_ bb o (r.length + 1) rc (Nat.succ_pos _)
      have hpos : decide ((0 : Int) < ((r.length + 1 : Nat) : Int)) = true := decide_eq_true (by omega)
      have bA := alloc_below wr (.cells (ovC x xa xc) 48)
      have rA := heap_alloc_last wr (.cells (ovC x xa xc) 48)
      have hA := HR.out.ms.ext bA
      have f2 := (row_reads hA.cell).2 2
      have n2 := cell_of_row _ _ 2 _ _ _ hA.cell
      simp only [List.getElem?_toArray, List.getElem?_cons_zero, List.getElem?_cons_succ, List.length_cons] at n2
      have hsk := hA.skip hA2
      have hnw := HR.out.ms.new
      have rB := (Below.heap_setCell (wr.alloc (.cells (ovC x xa xc) 48)) ⟨g, 2, none⟩ (.slice a2 r.length c2) wr.heap.size hnw.1).trans rA
      have rT := (Below.heap_setCell (wr.alloc (.cells (ovC x xa xc) 48)) ⟨g, 2, none⟩ (.slice a2 r.length c2) P HR.out.ne).trans (Below.heap bA (Array.getElem?_eq_some_iff.1 HR.out.row).1 HR.out.row)
      have HX := hide (And.intro hsk.1 (And.intro ((Mv.ext bA).trans hsk.2) (And.intro hxt (And.intro (hg_some HR.out.hgt).op trivial))))
      simp only [List.length_cons] at m2
      clear hxt hF h7 hbb bA rA hA hsk hnw
      go_upto_region 4 with fail
      clear p0 p1 p2 p3 p4 p5 p6 m2 hix hpos
      go_upto_region 5 with fail
      clear n2 f2 hs1 hA2
      generalize (wr.alloc (.cells (ovC x xa xc) 48)).setCell ⟨g, 2, none⟩ (.slice a2 r.length c2) = W4 at *
      have e0 := cell_of_row _ _ 0 _ _ _ rB
      have e1 := cell_of_row _ _ 1 _ _ _ rB
      have e2 := cell_of_row _ _ 2 _ _ _ rB
      have e3 := cell_of_row _ _ 3 _ _ _ rB
      have e4 := cell_of_row _ _ 4 _ _ _ rB
      have e5 := cell_of_row _ _ 5 _ _ _ rB
      have e6 := cell_of_row _ _ 6 _ _ _ rB
      have t1 := cell_of_row _ _ 1 _ _ _ rT
      have t2 := cell_of_row _ _ 2 _ _ _ rT
      have t3 := cell_of_row _ _ 3 _ _ _ rT
      have t4 := cell_of_row _ _ 4 _ _ _ rT
      have t5 := cell_of_row _ _ 5 _ _ _ rT
      simp only [List.getElem?_toArray, List.getElem?_cons_zero, List.getElem?_cons_succ] at e0 e1 e2 e3 e4 e5 e6 t1 t2 t3 t4 t5
      clear rB rT
      rcases op_kind HX.out.2.2.2.1 with hk | hk | hk | hk | hk
      · have HKK := hide hk
        rw [hk] at e0
        have HST := hide (show ∀ W, Below W4.heap.size W4 W → Calls Tryz.prog 76 #[.pointer (some ⟨g, 0, none⟩), ov x xa xc] W (StepA W0 b g W4 x r sv Z) from fun W hW => (step_put (HX.out.1.ext hW) HBD.out.1 HBD.out.2 HX.out.2.2.1 HX.out.2.2.2.1 HKK.out (by have := HR.out.few; simp only [List.length_cons] at this; omega)).mono fun e w' ⟨E, r1, ra1, rc1, sv1, Z1, a1, a2, a3, a4⟩ => ⟨E, r1, ra1, rc1, sv1, Z1, a1, a2, fun e0 => ⟨(a3 e0).1, (Mv.ext hW).trans (a3 e0).2⟩, a4⟩)
        unfold ov ovC at HST
        rw [hk] at HST
        clear hk
        go_region_with (go_at_call 76; refine (HST.out _ (by first | exact Below.drew (Below.refl _ _) | exact Below.refl _ _)).mono ?_; rintro e_ w5 ⟨E, r1, ra1, rc1, sv1, Z1, rfl, h1, h2, h3⟩)
        all_goals
          have HZ := hide (And.intro h1 (And.intro h2 h3))
          clear h1 h2 h3 e0 e1 e2 e3 e4 e5 e6 t1 t2 t3 t4 t5 HST
          by_cases hE : E = 0
          · subst hE
            have hst := HZ.out.1
            rw [if_pos rfl] at hst
            have HN := hide (HR.out.step HX.out.2.1 hst (HZ.out.2.1 rfl).1 (HZ.out.2.1 rfl).2)
            clear hst
            go_wp2
            go_roundw
            case rel => exact ⟨r1, ra1, rc1, sv1, Z1, HN.out.1⟩
            case measure =>
              rw [HN.out.1.ms.restN, HR.out.ms.restN]
              exact HN.out.2
          · have hst := HZ.out.1
            rw [if_neg hE] at hst
            have HN := hide (And.intro hst hE)
            have dE : (E != 0) = true := by simpa using hE
            clear hst hE
            go_wp2
            go_ret
            exact ⟨E, [], rfl, HR.out.ev _ _ (.err HN.out.1 HN.out.2), HZ.out.2.2, fun e => absurd e HN.out.2⟩
      · have HKK := hide hk
        rw [hk] at e0
        have HST := hide (show ∀ W, Below W4.heap.size W4 W → Calls Tryz.prog 77 #[.pointer (some ⟨g, 0, none⟩), ov x xa xc] W (StepA W0 b g W4 x r sv Z) from fun W hW => (step_unary (HX.out.1.ext hW) HKK.out ((hg_need HR.out.hgt).1 (.inl HKK.out)) (by have := HR.out.few; simp only [List.length_cons] at this; omega)).mono fun e w' ⟨E, r1, ra1, rc1, sv1, Z1, a1, a2, a3, a4⟩ => ⟨E, r1, ra1, rc1, sv1, Z1, a1, a2, fun e0 => ⟨(a3 e0).1, (Mv.ext hW).trans (a3 e0).2⟩, a4⟩)
        unfold ov ovC at HST
        rw [hk] at HST
        clear hk
        go_region_with (go_at_call 77; refine (HST.out _ (by first | exact Below.drew (Below.refl _ _) | exact Below.refl _ _)).mono ?_; rintro e_ w5 ⟨E, r1, ra1, rc1, sv1, Z1, rfl, h1, h2, h3⟩)
        all_goals
          have HZ := hide (And.intro h1 (And.intro h2 h3))
          clear h1 h2 h3 e0 e1 e2 e3 e4 e5 e6 t1 t2 t3 t4 t5 HST
          by_cases hE : E = 0
          · subst hE
            have hst := HZ.out.1
            rw [if_pos rfl] at hst
            have HN := hide (HR.out.step HX.out.2.1 hst (HZ.out.2.1 rfl).1 (HZ.out.2.1 rfl).2)
            clear hst
            go_wp2
            go_roundw
            case rel => exact ⟨r1, ra1, rc1, sv1, Z1, HN.out.1⟩
            case measure =>
              rw [HN.out.1.ms.restN, HR.out.ms.restN]
              exact HN.out.2
          · have hst := HZ.out.1
            rw [if_neg hE] at hst
            have HN := hide (And.intro hst hE)
            have dE : (E != 0) = true := by simpa using hE
            clear hst hE
            go_wp2
            go_ret
            exact ⟨E, [], rfl, HR.out.ev _ _ (.err HN.out.1 HN.out.2), HZ.out.2.2, fun e => absurd e HN.out.2⟩
      · have HKK := hide hk
        rw [hk] at e0
        have HST := hide (show ∀ W, Below W4.heap.size W4 W → Calls Tryz.prog 78 #[.pointer (some ⟨g, 0, none⟩), ov x xa xc] W (StepA W0 b g W4 x r sv Z) from fun W hW => (step_binary HML.out (HX.out.1.ext hW) HKK.out ((hg_need HR.out.hgt).2 HKK.out) (by have := HR.out.few; simp only [List.length_cons] at this; omega)).mono fun e w' ⟨E, r1, ra1, rc1, sv1, Z1, a1, a2, a3, a4⟩ => ⟨E, r1, ra1, rc1, sv1, Z1, a1, a2, fun e0 => ⟨(a3 e0).1, (Mv.ext hW).trans (a3 e0).2⟩, a4⟩)
        unfold ov ovC at HST
        rw [hk] at HST
        clear hk
        go_region_with (go_at_call 78; refine (HST.out _ (by first | exact Below.drew (Below.refl _ _) | exact Below.refl _ _)).mono ?_; rintro e_ w5 ⟨E, r1, ra1, rc1, sv1, Z1, rfl, h1, h2, h3⟩)
        all_goals
          have HZ := hide (And.intro h1 (And.intro h2 h3))
          clear h1 h2 h3 e0 e1 e2 e3 e4 e5 e6 t1 t2 t3 t4 t5 HST
          by_cases hE : E = 0
          · subst hE
            have hst := HZ.out.1
            rw [if_pos rfl] at hst
            have HN := hide (HR.out.step HX.out.2.1 hst (HZ.out.2.1 rfl).1 (HZ.out.2.1 rfl).2)
            clear hst
            go_wp2
            go_roundw
            case rel => exact ⟨r1, ra1, rc1, sv1, Z1, HN.out.1⟩
            case measure =>
              rw [HN.out.1.ms.restN, HR.out.ms.restN]
              exact HN.out.2
          · have hst := HZ.out.1
            rw [if_neg hE] at hst
            have HN := hide (And.intro hst hE)
            have dE : (E != 0) = true := by simpa using hE
            clear hst hE
            go_wp2
            go_ret
            exact ⟨E, [], rfl, HR.out.ev _ _ (.err HN.out.1 HN.out.2), HZ.out.2.2, fun e => absurd e HN.out.2⟩
      · have HKK := hide hk
        rw [hk] at e0
        have HST := hide (show ∀ W, Below W4.heap.size W4 W → Calls Tryz.prog 79 #[.pointer (some ⟨g, 0, none⟩), ov x xa xc] W (StepA W0 b g W4 x r sv Z) from fun W hW => (step_and (HX.out.1.ext hW) HKK.out ((hg_need HR.out.hgt).1 (.inr (.inl HKK.out))) (by have := HR.out.few; simp only [List.length_cons] at this; omega) (op_sk HX.out.2.2.2.1) (hg_some HR.out.hgt).skip).mono fun e w' ⟨E, r1, ra1, rc1, sv1, Z1, a1, a2, a3, a4⟩ => ⟨E, r1, ra1, rc1, sv1, Z1, a1, a2, fun e0 => ⟨(a3 e0).1, (Mv.ext hW).trans (a3 e0).2⟩, a4⟩)
        unfold ov ovC at HST
        rw [hk] at HST
        clear hk
        go_region_with (go_at_call 79; refine (HST.out _ (by first | exact Below.drew (Below.refl _ _) | exact Below.refl _ _)).mono ?_; rintro e_ w5 ⟨E, r1, ra1, rc1, sv1, Z1, rfl, h1, h2, h3⟩)
        all_goals
          have HZ := hide (And.intro h1 (And.intro h2 h3))
          clear h1 h2 h3 e0 e1 e2 e3 e4 e5 e6 t1 t2 t3 t4 t5 HST
          by_cases hE : E = 0
          · subst hE
            have hst := HZ.out.1
            rw [if_pos rfl] at hst
            have HN := hide (HR.out.step HX.out.2.1 hst (HZ.out.2.1 rfl).1 (HZ.out.2.1 rfl).2)
            clear hst
            go_wp2
            go_roundw
            case rel => exact ⟨r1, ra1, rc1, sv1, Z1, HN.out.1⟩
            case measure =>
              rw [HN.out.1.ms.restN, HR.out.ms.restN]
              exact HN.out.2
          · have hst := HZ.out.1
            rw [if_neg hE] at hst
            have HN := hide (And.intro hst hE)
            have dE : (E != 0) = true := by simpa using hE
            clear hst hE
            go_wp2
            go_ret
            exact ⟨E, [], rfl, HR.out.ev _ _ (.err HN.out.1 HN.out.2), HZ.out.2.2, fun e => absurd e HN.out.2⟩
      · have HKK := hide hk
        rw [hk] at e0
        have HST := hide (show ∀ W, Below W4.heap.size W4 W → Calls Tryz.prog 80 #[.pointer (some ⟨g, 0, none⟩), ov x xa xc] W (StepA W0 b g W4 x r sv Z) from fun W hW => (step_or (HX.out.1.ext hW) HKK.out ((hg_need HR.out.hgt).1 (.inr (.inr HKK.out))) (by have := HR.out.few; simp only [List.length_cons] at this; omega) (op_sk HX.out.2.2.2.1) (hg_some HR.out.hgt).skip).mono fun e w' ⟨E, r1, ra1, rc1, sv1, Z1, a1, a2, a3, a4⟩ => ⟨E, r1, ra1, rc1, sv1, Z1, a1, a2, fun e0 => ⟨(a3 e0).1, (Mv.ext hW).trans (a3 e0).2⟩, a4⟩)
        unfold ov ovC at HST
        rw [hk] at HST
        clear hk
        go_region_with (go_at_call 80; refine (HST.out _ (by first | exact Below.drew (Below.refl _ _) | exact Below.refl _ _)).mono ?_; rintro e_ w5 ⟨E, r1, ra1, rc1, sv1, Z1, rfl, h1, h2, h3⟩)
        all_goals
          have HZ := hide (And.intro h1 (And.intro h2 h3))
          clear h1 h2 h3 e0 e1 e2 e3 e4 e5 e6 t1 t2 t3 t4 t5 HST
          by_cases hE : E = 0
          · subst hE
            have hst := HZ.out.1
            rw [if_pos rfl] at hst
            have HN := hide (HR.out.step HX.out.2.1 hst (HZ.out.2.1 rfl).1 (HZ.out.2.1 rfl).2)
            clear hst
            go_wp2
            go_roundw
            case rel => exact ⟨r1, ra1, rc1, sv1, Z1, HN.out.1⟩
            case measure =>
              rw [HN.out.1.ms.restN, HR.out.ms.restN]
              exact HN.out.2
          · have hst := HZ.out.1
            rw [if_neg hE] at hst
            have HN := hide (And.intro hst hE)
            have dE : (E != 0) = true := by simpa using hE
            clear hst hE
            go_wp2
            go_ret
            exact ⟨E, [], rfl, HR.out.ev _ _ (.err HN.out.1 HN.out.2), HZ.out.2.2, fun e => absurd e HN.out.2⟩
end Go.Proofs.YteiacgpaocnofaaGreat
/- What an expression tells: the program's calls Eval, True. -/
namespace Go.Proofs.YteiacgpaocnofaaGreat
open Go.RowKit
variable {nl : List ByteArray} {na : Option Addr} {nc : Nat} {tl : List Tm} {ta : Option Addr} {tc : Nat} {l : List Ox} {a : Option Addr} {c : Nat} {w : World}
/-- An expression's value. -/
abbrev xv (l : List Ox) (a : Option Addr) (c : Nat) : Value := .agg #[.slice a l.length c]
def EvA (nl : List ByteArray) (tl : List Tm) (l : List Ox) (w : World) (e : Ending) (w' : World) : Prop := ∃ r a c E, e = .returned (.tuple #[tv r a c, .int .i64 E]) ∧ TAt w' r a c ∧ EvalR nl tl l r E ∧ FreA w.heap.size r a ∧ Lo r ∧ Below w.heap.size w w'
theorem box3 (w : World) (cs ds : Array Value) (t u : TypeId) : Below w.heap.size w (((w.alloc (.cells cs t)).alloc (.cells ds u)).alloc (.cells ztC 33)) ∧ (((w.alloc (.cells cs t)).alloc (.cells ds u)).alloc (.cells ztC 33)).heap[w.heap.size]? = some (.cells cs t (0, 0)) ∧ (((w.alloc (.cells cs t)).alloc (.cells ds u)).alloc (.cells ztC 33)).heap[w.heap.size + 1]? = some (.cells ds u (0, 0)) ∧ (((w.alloc (.cells cs t)).alloc (.cells ds u)).alloc (.cells ztC 33)).heap[w.heap.size + 2]? = some (.cells ztC 33 (0, 0)) := by
  obtain ⟨b1, r1, r0⟩ := box2 w cs ds t u
  have bA := alloc_below ((w.alloc (.cells cs t)).alloc (.cells ds u)) (.cells ztC 33)
  have hr := heap_alloc_last ((w.alloc (.cells cs t)).alloc (.cells ds u)) (.cells ztC 33)
  rw [show ((w.alloc (.cells cs t)).alloc (.cells ds u)).heap.size = w.heap.size + 2 by simp] at hr
  exact ⟨Below.chain b1 bA, Below.heap bA (Array.getElem?_eq_some_iff.1 r0).1 r0, Below.heap bA (Array.getElem?_eq_some_iff.1 r1).1 r1, hr⟩
theorem evalR_bad (h : ¬ (mayE l = true ∧ mbB nl tl = true)) : EvalR nl tl l zt 1 := by unfold EvalR; rw [if_neg h]; exact ⟨rfl, rfl⟩
theorem ev_fix {lk : ByteArray → Option Tm} {l0 : List Ox} (hlk : ∀ s t, lk s = some t → fixT t = true) {S0 S : List Tm} {E : Int} (h : EvR lk l0 S0 S E) : ∀ h1, hg l0 (S0.length : Int) = some h1 → (∀ t ∈ S0, fixT t = true) → ∀ t ∈ S, fixT t = true := by
  induction h with
  | nil S => intro _ _ hS; exact hS
  | err h he => intro _ _ _ t ht; simp at ht
  | go h t ih =>
    intro h1 hh hS
    exact ih h1 (hg_step hh h).1 (step_fix (hg_some hh).op hlk hS h)
theorem EvalR.fix {r : Tm} {E : Int} (h : EvalR nl tl l r E) : (E = 0 → fixT r = true) ∧ (E ≠ 0 → r = zt) := by
  unfold EvalR at h
  by_cases c : mayE l = true ∧ mbB nl tl = true
  · rw [if_pos c] at h
    obtain ⟨S, h1, h2⟩ := h
    refine ⟨fun e0 => ?_, fun e0 => by rw [if_neg e0] at h2; exact h2⟩
    rw [if_pos e0] at h2
    refine ev_fix (fun s t hs => (mb_iff.1 c.2).fix (lk_mem hs).1) h1 1 (may_hg c.1).2 (fun t ht => by simp at ht) r (by rw [h2]; simp)
  · rw [if_neg c] at h
    exact ⟨fun e0 => absurd (e0.symm.trans h.2) (by decide), fun _ => h.1⟩
set_option maxRecDepth 100000 in
set_option maxHeartbeats 16000000 in
theorem Eval_any (hM : MaxL w) (h : OAt w l a c) (hb : BAt w nl na nc tl ta tc) : Calls Tryz.prog 12 #[xv l a c, bv nl na nc tl ta tc] w (EvA nl tl l w) := by
  obtain ⟨b0, r0, r1, r2⟩ := box3 w #[.slice a l.length c] (bvC nl na nc tl ta tc) 24 28
  have HX := hide (And.intro b0 (And.intro r0 (And.intro r1 (And.intro r2 (And.intro h (And.intro hb hM))))))
  have HC := hide (EMay_any (h.ext b0))
  have q0 := cell_of_row _ _ 0 _ _ _ r0
  simp only [List.getElem?_toArray, List.getElem?_cons_zero] at q0
  obtain ⟨M, hMM⟩ : ∃ v, mayE l = v := ⟨_, rfl⟩
  have HMM := hide hMM
  rw [hMM] at HC
  replace HC := hide HC.out
  clear b0 r0 r1 r2 h hb hM hMM
  unfold bv
  go_enter Tryz.func12, Tryz.ntmps12
  go_wp2_with fail
  refine HC.out.mono ?_
  rintro e_ w1 ⟨rfl, b1⟩
  have HY := hide (And.intro (Below.chain HX.out.1 b1) (And.intro (Below.heap b1 (Array.getElem?_eq_some_iff.1 HX.out.2.1).1 HX.out.2.1) (And.intro (Below.heap b1 (Array.getElem?_eq_some_iff.1 HX.out.2.2.1).1 HX.out.2.2.1) (Below.heap b1 (Array.getElem?_eq_some_iff.1 HX.out.2.2.2.1).1 HX.out.2.2.2.1))))
  clear b1 HC q0
  cases M with
  | false =>
    go_wp2_with (refine wpList_store_row rfl 33 (.tmp 4) (.tmp 16) rfl (w.heap.size + 2) ztC rfl rfl 33 ztC HY.out.2.2.2 (by kernel_rfl) rfl (by kernel_rfl) ?_)
    refine bodyPost_ret_by (results_row_tmp rfl _ _ (w.heap.size + 2) 33 _ (0, 0) _ rfl (setRow_heap _ _ _ _ _ _ HY.out.2.2.2) Tryz.underlying33 rfl (by kernel_rfl)) rfl ?_
    exact ⟨zt, none, 0, 1, rfl, zt_fl.at _, evalR_bad (fun h => by rw [HMM.out] at h; cases h.1), .nil rfl, .flat zt_fl, Below.setRow HY.out.1 _ _ (Nat.le_add_right _ _)⟩
  | true =>
  have HC2 := hide (MayBind_any (HX.out.2.2.2.2.2.1.ext HY.out.1))
  obtain ⟨B, hBB⟩ : ∃ v, mbB nl tl = v := ⟨_, rfl⟩
  have HBB := hide hBB
  rw [hBB] at HC2
  replace HC2 := hide HC2.out
  have q0 := cell_of_row _ _ 0 _ _ _ HY.out.2.2.1
  have q1 := cell_of_row _ _ 1 _ _ _ HY.out.2.2.1
  simp only [List.getElem?_toArray, List.getElem?_cons_zero, List.getElem?_cons_succ] at q0 q1
  clear hBB
  unfold bv at HC2
  go_wp2_with fail
  refine HC2.out.mono ?_
  rintro e_ w2 ⟨rfl, b2⟩
  have HZ := hide (And.intro (Below.chain HY.out.1 b2) (And.intro (Below.heap b2 (Array.getElem?_eq_some_iff.1 HY.out.2.1).1 HY.out.2.1) (And.intro (Below.heap b2 (Array.getElem?_eq_some_iff.1 HY.out.2.2.1).1 HY.out.2.2.1) (Below.heap b2 (Array.getElem?_eq_some_iff.1 HY.out.2.2.2).1 HY.out.2.2.2))))
  clear b2 HC2 q0 q1
  cases B with
  | false =>
    go_wp2_with (refine wpList_store_row rfl 33 (.tmp 4) (.tmp 16) rfl (w.heap.size + 2) ztC rfl rfl 33 ztC HZ.out.2.2.2 (by kernel_rfl) rfl (by kernel_rfl) ?_)
    refine bodyPost_ret_by (results_row_tmp rfl _ _ (w.heap.size + 2) 33 _ (0, 0) _ rfl (setRow_heap _ _ _ _ _ _ HZ.out.2.2.2) Tryz.underlying33 rfl (by kernel_rfl)) rfl ?_
    exact ⟨zt, none, 0, 1, rfl, zt_fl.at _, evalR_bad (fun h => by rw [HBB.out] at h; cases h.2), .nil rfl, .flat zt_fl, Below.setRow HZ.out.1 _ _ (Nat.le_add_right _ _)⟩
  | true =>
  have q0 := cell_of_row _ _ 0 _ _ _ HZ.out.2.2.1
  have q1 := cell_of_row _ _ 1 _ _ _ HZ.out.2.2.1
  have q2 := cell_of_row _ _ 0 _ _ _ HZ.out.2.1
  simp only [List.getElem?_toArray, List.getElem?_cons_zero, List.getElem?_cons_succ] at q0 q1 q2
  have hmb := mb_iff.1 HBB.out
  have hmh := may_hg HMM.out
  have bA := alloc_below w2 (.cells #[.slice na nl.length nc, .slice ta tl.length tc, .slice a l.length c, .slice none 0 0] 56)
  have rA := heap_alloc_last w2 (.cells #[.slice na nl.length nc, .slice ta tl.length tc, .slice a l.length c, .slice none 0 0] 56)
  have hms : MS w2 ⟨nl, na, nc, tl, ta, tc⟩ w2.heap.size (w2.alloc (.cells #[.slice na nl.length nc, .slice ta tl.length tc, .slice a l.length c, .slice none 0 0] 56)) l a c (.slice none 0 0) [] := ⟨bA, Nat.le_refl _, rA, HX.out.2.2.2.2.1.ext HZ.out.1, .nil _ _ _⟩
  have HR := hide (run_any (HX.out.2.2.2.2.2.2.ext HZ.out.1) (HX.out.2.2.2.2.2.1.ext HZ.out.1) hmb hms hmh.1 hmh.2)
  have HOK := hide (show ∀ r E, (∃ S, EvR (lkT nl tl) l [] S E ∧ (if E = 0 then S = [r] else r = zt)) → EvalR nl tl l r E from fun r E h => by unfold EvalR; rw [if_pos ⟨HMM.out, HBB.out⟩]; exact h)
  clear hmb hmh bA rA hms
  go_wp2_with fail
  refine HR.out.mono ?_
  rintro e_ w3 ⟨E, S, rfl, hev, b3, hms3⟩
  have HV := hide (And.intro hev (And.intro (Below.chain HZ.out.1 b3) (And.intro (Below.heap b3 (Array.getElem?_eq_some_iff.1 HZ.out.2.2.2).1 HZ.out.2.2.2) hms3)))
  clear hev b3 hms3 HR q0 q1 q2
  by_cases e0 : E = 0
  · subst e0
    obtain ⟨ra, rc, sv, z, hS, hm⟩ := HV.out.2.2.2 rfl
    have hm' : MS w2 ⟨nl, na, nc, tl, ta, tc⟩ w2.heap.size w3 [] ra rc sv ([] ++ [z]) := hm
    have HP := hide (pop_any (Z := []) (z := z) hm'.cell hm'.stk (Nat.zero_le _))
    have HS := hide (And.intro hS hm')
    clear hm hm' hS
    go_wp2_with fail
    refine HP.out.mono ?_
    rintro e_ w4 ⟨rfl, hp⟩
    obtain ⟨sv4, m4, _, z4⟩ := HS.out.2.popped hp
    have b4 := m4.bel
    have HW := hide (own_any z4.at_ (fix_list z4.fix).2 (fix_list z4.fix).1)
    have H4 := hide (And.intro (Below.chain HZ.out.1 b4) (And.intro (Below.heap b4 (Array.getElem?_eq_some_iff.1 HZ.out.2.2.2).1 HZ.out.2.2.2) z4.fix))
    clear hp m4 z4 b4 HP
    unfold tv at HW ⊢
    go_wp2_with fail
    refine HW.out.mono ?_
    rintro e_ w5 ⟨a5, c5, rfl, h5, hfre, b5⟩
    have R5 := hide (Below.heap b5 (Array.getElem?_eq_some_iff.1 H4.out.2.1).1 H4.out.2.1)
    have H5 := hide (And.intro (Below.chain H4.out.1 b5) (And.intro h5 (hfre.low H4.out.1.size)))
    clear b5 h5 hfre HW
    unfold tv
    go_wp2_with (refine wpList_store_row rfl 33 (.tmp 4) (.tmp 27) rfl (w.heap.size + 2) (tvC z.1 a5 c5) rfl rfl 33 ztC R5.out (by kernel_rfl) rfl (by kernel_rfl) ?_)
    refine bodyPost_ret_by (results_row_tmp rfl _ _ (w.heap.size + 2) 33 _ (0, 0) _ rfl (setRow_heap _ _ _ _ _ _ R5.out) Tryz.underlying33 rfl (by kernel_rfl)) rfl ?_
    exact ⟨z.1, a5, c5, 0, rfl, H5.out.2.1.put (fix_lo H4.out.2.2) R5.out _, HOK.out _ _ ⟨S, HV.out.1, by rw [if_pos rfl]; exact HS.out.1⟩, H5.out.2.2, fix_lo H4.out.2.2, Below.setRow H5.out.1 _ _ (Nat.le_add_right _ _)⟩
  · have dE : (E != 0) = true := by simpa using e0
    have HE := hide e0
    clear e0
    go_wp2_with (refine wpList_store_row rfl 33 (.tmp 4) (.tmp 24) rfl (w.heap.size + 2) ztC rfl rfl 33 ztC HV.out.2.2.1 (by kernel_rfl) rfl (by kernel_rfl) ?_)
    refine bodyPost_ret_by (results_row_tmp rfl _ _ (w.heap.size + 2) 33 _ (0, 0) _ rfl (setRow_heap _ _ _ _ _ _ HV.out.2.2.1) Tryz.underlying33 rfl (by kernel_rfl)) rfl ?_
    exact ⟨zt, none, 0, E, rfl, zt_fl.at _, HOK.out _ _ ⟨S, HV.out.1, by rw [if_neg HE.out]⟩, .nil rfl, .flat zt_fl, Below.setRow HV.out.2.1 _ _ (Nat.le_add_right _ _)⟩
/-- What an expression comes to as a truth. -/
def truR (r : Tm) (E : Int) (v : Bool) (F : Int) : Prop := if E = 0 then (if r.k = 6 then v = (r.n == 1) ∧ F = 0 else v = false ∧ F = 7) else v = false ∧ F = E
def TruA (nl : List ByteArray) (tl : List Tm) (l : List Ox) (w : World) (e : Ending) (w' : World) : Prop := ∃ r E v F, e = .returned (.tuple #[.bool v, .int .i64 F]) ∧ EvalR nl tl l r E ∧ truR r E v F ∧ Below w.heap.size w w'
set_option maxRecDepth 100000 in
set_option maxHeartbeats 8000000 in
theorem True_any (hM : MaxL w) (h : OAt w l a c) (hb : BAt w nl na nc tl ta tc) : Calls Tryz.prog 14 #[xv l a c, bv nl na nc tl ta tc] w (TruA nl tl l w) := by
  obtain ⟨b0, _, _⟩ := box2 w #[.slice a l.length c] (bvC nl na nc tl ta tc) 24 28
  have HC := hide (Eval_any (hM.ext b0) (h.ext b0) (hb.ext b0))
  have HB0 := hide b0
  clear hM h hb b0
  unfold bv at HC ⊢
  go_enter Tryz.func14, Tryz.ntmps14
  go_wp2_with fail
  refine HC.out.mono ?_
  rintro e_ w1 ⟨r, ra, rc, E, rfl, hr, hR, _, _, b1⟩
  have bA := Below.chain HB0.out (Below.chain b1 (alloc_below w1 (.cells (tvC r ra rc) 33)))
  have HY := hide (And.intro bA (And.intro (heap_alloc_last w1 (.cells (tvC r ra rc) 33)) (And.intro hR b1)))
  clear b1 bA hr hR HC
  unfold tv
  by_cases e0 : E = 0
  · subst e0
    have q0 := cell_of_row _ _ 0 _ _ _ HY.out.2.1
    have q1 := cell_of_row _ _ 1 _ _ _ HY.out.2.1
    have q2 := cell_of_row _ _ 2 _ _ _ HY.out.2.1
    have q3 := cell_of_row _ _ 3 _ _ _ HY.out.2.1
    simp only [List.getElem?_toArray, List.getElem?_cons_zero, List.getElem?_cons_succ] at q0 q1 q2 q3
    by_cases h6 : r.k = 6
    · have HT := hide (tru_yes (a := ra) (c := rc) (w1.alloc (.cells (tvC r ra rc) 33)) h6)
      have HK := hide h6
      clear h6
      unfold tv at HT
      go_wp2_with fail
      refine HT.out.mono ?_
      rintro e_ w2 ⟨rfl, b2⟩
      have HB := hide (Below.chain HY.out.1 b2)
      clear b2 q0 q1 q2 q3
      go_wp2
      go_ret2
      refine ⟨r, 0, _, _, rfl, HY.out.2.2.1, ?_, HB.out⟩
      unfold truR
      rw [if_pos rfl, if_pos HK.out]
      exact ⟨rfl, rfl⟩
    · have HT := hide (tru_no (a := ra) (c := rc) (w1.alloc (.cells (tvC r ra rc) 33)) h6)
      have HK := hide h6
      clear h6
      unfold tv at HT
      go_wp2_with fail
      refine HT.out.mono ?_
      rintro e_ w2 ⟨rfl, b2⟩
      have HB := hide (Below.chain HY.out.1 b2)
      clear b2 q0 q1 q2 q3
      go_wp2
      go_ret2
      refine ⟨r, 0, _, _, rfl, HY.out.2.2.1, ?_, HB.out⟩
      unfold truR
      rw [if_pos rfl, if_neg HK.out]
      exact ⟨rfl, rfl⟩
  · have dE : (E != 0) = true := by simpa using e0
    have HE := hide e0
    clear e0
    go_wp2
    go_ret2
    refine ⟨r, E, _, _, rfl, HY.out.2.2.1, ?_, HY.out.1⟩
    unfold truR
    rw [if_neg HE.out]
    exact ⟨rfl, rfl⟩
end Go.Proofs.YteiacgpaocnofaaGreat
/- Operations in memory as cells: rows of them, put behind one another. -/
namespace Go.Proofs.YteiacgpaocnofaaGreat
open Go.RowKit
theorem appO : AppTy 22 48 7 80 := appTy_of (.agg #[.int .i64 0, .int .i64 0, .int .i64 0, .string ⟨#[]⟩, .slice none 0 0, .int .i64 0, .int .i64 0]) (by kernel_rfl) (by kernel_rfl) (by kernel_rfl) (by decide)
/-- What cells say of operations. -/
def OcAt (w : World) (xs : List Value) (l : List Ox) : Prop :=
  xs.length = l.length * 7 ∧ ∀ i x, l[i]? = some x → ∃ a c, (∀ j u, (ovC x a c)[j]? = some u → xs[i * 7 + j]? = some u) ∧ TAt w x.t a c ∧ OFit x
theorem ovC_lt {x : Ox} {a : Option Addr} {c j : Nat} {u : Value} (h : (ovC x a c)[j]? = some u) : j < 7 := (Array.getElem?_eq_some_iff.1 h).1
theorem OcAt.ext {W w : World} {xs : List Value} {l : List Ox} (h : OcAt W xs l) (he : Below W.heap.size W w) : OcAt w xs l :=
  ⟨h.1, fun i x hx => by obtain ⟨a, c, h1, h2, h3⟩ := h.2 i x hx; exact ⟨a, c, h1, h2.ext he, h3⟩⟩
theorem OcAt.nil (w : World) : OcAt w [] [] := ⟨rfl, fun i x h => by simp at h⟩
theorem OcAt.one {w : World} {x : Ox} {a : Option Addr} {c : Nat} (h : TAt w x.t a c) (hf : OFit x) : OcAt w (ovC x a c).toList [x] :=
  ⟨rfl, fun i y hy => by
    have hi : i = 0 := by have := (List.getElem?_eq_some_iff.1 hy).1; simp at this; exact this
    subst hi
    obtain rfl : x = y := by simpa using hy
    exact ⟨a, c, fun j u hu => by rw [Nat.zero_mul, Nat.zero_add]; simpa using hu, h, hf⟩⟩
theorem OcAt.append {w : World} {xs ys : List Value} {l m : List Ox} (h : OcAt w xs l) (k : OcAt w ys m) : OcAt w (xs ++ ys) (l ++ m) := by
  have hx := h.1
  refine ⟨by rw [List.length_append, List.length_append, h.1, k.1, Nat.add_mul], fun i t ht => ?_⟩
  rcases Nat.lt_or_ge i l.length with hi | hi
  · rw [List.getElem?_append_left hi] at ht
    obtain ⟨a, c, h1, h2⟩ := h.2 i t ht
    exact ⟨a, c, fun j u hu => by have := ovC_lt hu; rw [List.getElem?_append_left (by omega)]; exact h1 j u hu, h2⟩
  · rw [List.getElem?_append_right hi] at ht
    obtain ⟨a, c, h1, h2⟩ := k.2 _ t ht
    exact ⟨a, c, fun j u hu => by
      rw [List.getElem?_append_right (by omega), show i * 7 + j - xs.length = (i - l.length) * 7 + j by omega]
      exact h1 j u hu, h2⟩
def ocg (A : Nat → Option Addr) (C : Nat → Nat) : Nat → List Ox → List Value
  | _, [] => []
  | i, x :: r => (ovC x (A i) (C i)).toList ++ ocg A C (i + 1) r
theorem ocg_len (A : Nat → Option Addr) (C : Nat → Nat) : ∀ (l : List Ox) (i : Nat), (ocg A C i l).length = l.length * 7
  | [], _ => rfl
  | x :: r, i => by rw [ocg, List.length_append, ocg_len A C r (i + 1)]; show 7 + r.length * 7 = (r.length + 1) * 7; omega
theorem ovC_one (x : Ox) (a : Option Addr) (c : Nat) : ∀ u ∈ (ovC x a c).toList, u.oneCell' = true := fun u hu => by
  simp at hu
  rcases hu with rfl | rfl | rfl | rfl | rfl | rfl | rfl <;> rfl
theorem ocg_one (A : Nat → Option Addr) (C : Nat → Nat) : ∀ (l : List Ox) (i : Nat), ∀ u ∈ ocg A C i l, u.oneCell' = true
  | [], _, u, hu => by simp [ocg] at hu
  | x :: r, i, u, hu => by
    rw [ocg] at hu
    rcases List.mem_append.1 hu with h | h
    · exact ovC_one _ _ _ u h
    · exact ocg_one A C r (i + 1) u h
theorem ocg_get (A : Nat → Option Addr) (C : Nat → Nat) : ∀ (l : List Ox) (i k : Nat) (x : Ox), l[k]? = some x → ∀ j u, (ovC x (A (i + k)) (C (i + k)))[j]? = some u → (ocg A C i l)[k * 7 + j]? = some u
  | [], _, _, _, h, _, _, _ => by simp at h
  | y :: r, i, 0, x, h, j, u, hu => by
    obtain rfl : y = x := by simpa using h
    have hj := ovC_lt hu
    rw [ocg, Nat.zero_mul, Nat.zero_add, List.getElem?_append_left (by exact hj)]
    simpa using hu
  | y :: r, i, k + 1, x, h, j, u, hu => by
    have h7 : (ovC y (A i) (C i)).toList.length = 7 := rfl
    rw [ocg, List.getElem?_append_right (by rw [h7]; omega), h7, show (k + 1) * 7 + j - 7 = k * 7 + j by omega]
    exact ocg_get A C r (i + 1) k x (by simpa using h) j u (by rw [show i + 1 + k = i + (k + 1) by omega]; exact hu)
theorem ocg_cells {w : World} {b : Nat} (A : Nat → Option Addr) (C : Nat → Nat) : ∀ (l : List Ox) (i o : Nat), (∀ k x, l[k]? = some x → O7 w b (o + k * 7) x (A (i + k)) (C (i + k))) → ∀ j u, (ocg A C i l)[j]? = some u → w.cell? ⟨b, o + j, none⟩ = some u
  | [], _, _, _, j, u, h => by simp [ocg] at h
  | y :: r, i, o, hc, j, u, h => by
    have h7 : (ovC y (A i) (C i)).toList.length = 7 := rfl
    rw [ocg] at h
    rcases Nat.lt_or_ge j 7 with hj | hj
    · rw [List.getElem?_append_left (by rw [h7]; exact hj)] at h
      obtain ⟨c0, c1, c2, c3, c4, c5, c6⟩ := hc 0 y rfl
      rw [Nat.zero_mul, Nat.add_zero] at c0 c1 c2 c3 c4 c5 c6
      rw [Nat.add_zero] at c4
      match j, hj with
      | 0, _ => rw [Nat.add_zero, c0]; simpa using h
      | 1, _ => rw [c1]; simpa using h
      | 2, _ => rw [c2]; simpa using h
      | 3, _ => rw [c3]; simpa using h
      | 4, _ => rw [c4]; simpa using h
      | 5, _ => rw [c5]; simpa using h
      | 6, _ => rw [c6]; simpa using h
      | j + 7, hj => omega
    · rw [List.getElem?_append_right (by rw [h7]; exact hj), h7] at h
      have := ocg_cells A C r (i + 1) (o + 7) (fun k x hx => by
        have := hc (k + 1) x (by simpa using hx)
        rw [show o + 7 + k * 7 = o + (k + 1) * 7 by omega, show i + 1 + k = i + (k + 1) by omega]
        exact this) (j - 7) u h
      rwa [show o + 7 + (j - 7) = o + j by omega] at this
theorem OAt.cs {w : World} {l : List Ox} {a : Option Addr} {c : Nat} (h : OAt w l a c) : ∃ xs, CsAt w 7 l.length (.slice a l.length c) xs ∧ OcAt w xs l := by
  obtain ⟨h1, h2, b, o, A, C, hb, hc⟩ := h
  refine ⟨ocg A C 0 l, ⟨ocg_len _ _ _ _, b, o, c, a, rfl, h1, h2, fun h0 => ?_, ocg_one _ _ _ _⟩, ocg_len _ _ _ _, fun i x hx => ⟨A i, C i, ?_, (hc i x hx).2⟩⟩
  · obtain ⟨e, hbb⟩ := hb (fun e => by rw [e] at h0; simp at h0)
    exact ⟨e, hbb, ocg_cells A C l 0 o fun k x hx => by rw [Nat.zero_add]; exact (hc k x hx).1⟩
  · have := ocg_get A C l 0 i x hx
    rw [Nat.zero_add] at this
    exact this
theorem cs_oat {w : World} {l : List Ox} {v : Value} {xs : List Value} (h : CsAt w 7 l.length v xs) (k : OcAt w xs l) : ∃ a c, v = .slice a l.length c ∧ OAt w l a c := by
  obtain ⟨h1, b, o, c, a, rfl, h2, h3, h4, h5⟩ := h
  have hone : ∀ i, i < l.length → ∃ q : Option Addr × Nat, ∀ x, l[i]? = some x → (∀ j u, (ovC x q.1 q.2)[j]? = some u → xs[i * 7 + j]? = some u) ∧ TAt w x.t q.1 q.2 ∧ OFit x := fun i hi => by
    obtain ⟨a, c, q⟩ := k.2 i _ (List.getElem?_eq_getElem hi)
    exact ⟨(a, c), fun x hx => by rw [List.getElem?_eq_getElem hi] at hx; injection hx with hx; subst hx; exact q⟩
  obtain ⟨P, hP⟩ := Deep.choose_lt hone
  refine ⟨a, c, rfl, h2, h3, b, o, fun i => (P i).1, fun i => (P i).2, fun hne => ?_, fun i x hx => ?_⟩
  · have hpos : 0 < l.length := List.length_pos_iff.2 hne
    exact ⟨(h4 hpos).1, (h4 hpos).2.1⟩
  · have hi := (List.getElem?_eq_some_iff.1 hx).1
    obtain ⟨q1, q2, q3⟩ := hP i hi x hx
    have hcell := (h4 (by omega)).2.2
    refine ⟨⟨?_, ?_, ?_, ?_, ?_, ?_, ?_⟩, q2, q3⟩
    · exact hcell _ _ (q1 0 _ rfl)
    · exact hcell _ _ (q1 1 _ rfl)
    · exact hcell _ _ (q1 2 _ rfl)
    · exact hcell _ _ (q1 3 _ rfl)
    · exact hcell _ _ (q1 4 _ rfl)
    · exact hcell _ _ (q1 5 _ rfl)
    · exact hcell _ _ (q1 6 _ rfl)
/-- A row of one's own, just made. -/
theorem row_oat {w : World} {g : Nat} {l : List Ox} {cs : Array Value} {ty : TypeId} (h : w.heap[g]? = some (.cells cs ty (0, 0))) (hn : l.length ≤ 1000) (k : OcAt w cs.toList l) (h1 : ∀ u ∈ cs.toList, u.oneCell' = true) : OAt w l (some ⟨g, 0, none⟩) l.length := by
  obtain ⟨a, c, e, ho⟩ := cs_oat (v := .slice (some ⟨g, 0, none⟩) l.length l.length) (xs := cs.toList) ⟨k.1, g, 0, l.length, _, rfl, Nat.le_refl _, by omega, fun _ => ⟨rfl, (Array.getElem?_eq_some_iff.1 h).1, fun j u hu => by rw [Nat.zero_add, cell_of_row _ _ _ _ _ _ h]; simpa using hu⟩, h1⟩ k
  injection e with e1 _ e2
  subst e1; subst e2
  exact ho
end Go.Proofs.YteiacgpaocnofaaGreat
/- Single steps, as they are made; expressions put behind one another. -/
namespace Go.Proofs.YteiacgpaocnofaaGreat
open Go.RowKit
variable {lk : ByteArray → Option Tm} {x : Ox} {r : List Ox} {S : List Tm}
theorem stepR_term (hk : x.kd = 1) (hv : x.t.k ≠ 1) : stepR lk x r S r (x.t :: S) 0 := by
  unfold stepR; rw [if_pos hk, if_neg hv]; exact ⟨rfl, rfl, rfl⟩
theorem stepR_var {y : Tm} (hk : x.kd = 1) (hv : x.t.k = 1) (hl : lk x.t.s = some y) : stepR lk x r S r (y :: S) 0 := by
  unfold stepR; rw [if_pos hk, if_pos hv, hl]; exact ⟨rfl, rfl, rfl⟩
theorem stepR_none (hk : x.kd = 1) (hv : x.t.k = 1) (hl : lk x.t.s = none) : stepR lk x r S r [] 8 := by
  unfold stepR; rw [if_pos hk, if_pos hv, hl]; exact ⟨rfl, rfl, rfl⟩
theorem stepR_un {a : Tm} (hk : x.kd = 2) : stepR lk x r (a :: S) r (if (unF x.cd a).2 = 0 then (unF x.cd a).1 :: S else []) (unF x.cd a).2 := by
  unfold stepR; rw [if_neg (by omega), if_pos hk]; exact ⟨rfl, a, S, rfl, rfl, rfl⟩
theorem stepR_bin {a b t : Tm} {e : Int} (hk : x.kd = 3) (h : BinR x.cd a b t e) : stepR lk x r (b :: a :: S) r (if e = 0 then t :: S else []) e := by
  unfold stepR; rw [if_neg (by omega), if_neg (by omega), if_pos hk]; exact ⟨rfl, b, a, S, t, rfl, h, rfl⟩
theorem stepR_skip {a : Tm} (hk : x.kd = 4 ∨ x.kd = 5) (h6 : a.k = 6) (h : (a.n == 1) = (x.kd == 5)) : stepR lk x r (a :: S) (r.drop x.sk.toNat) (a :: S) 0 := by
  unfold stepR; rw [if_neg (by omega), if_neg (by omega), if_neg (by omega)]
  refine ⟨a, S, rfl, ?_⟩
  rw [if_neg (fun e => e h6), if_pos h]; exact ⟨rfl, rfl, rfl⟩
theorem stepR_on {a : Tm} (hk : x.kd = 4 ∨ x.kd = 5) (h6 : a.k = 6) (h : ¬ (a.n == 1) = (x.kd == 5)) : stepR lk x r (a :: S) r S 0 := by
  unfold stepR; rw [if_neg (by omega), if_neg (by omega), if_neg (by omega)]
  refine ⟨a, S, rfl, ?_⟩
  rw [if_neg (fun e => e h6), if_neg h]; exact ⟨rfl, rfl, rfl⟩
/-- A step, with other operations behind. -/
theorem step_app {r1 : List Ox} {S1 : List Tm} {e : Int} (m : List Ox) (hs : x.sk ≤ (r.length : Int)) (h0 : 0 ≤ x.sk) (h : stepR lk x r S r1 S1 e) : stepR lk x (r ++ m) S (r1 ++ m) S1 e := by
  unfold stepR at h ⊢
  by_cases c1 : x.kd = 1
  · rw [if_pos c1] at h ⊢
    exact ⟨by rw [h.1], h.2⟩
  rw [if_neg c1] at h ⊢
  by_cases c2 : x.kd = 2
  · rw [if_pos c2] at h ⊢
    exact ⟨by rw [h.1], h.2⟩
  rw [if_neg c2] at h ⊢
  by_cases c3 : x.kd = 3
  · rw [if_pos c3] at h ⊢
    exact ⟨by rw [h.1], h.2⟩
  rw [if_neg c3] at h ⊢
  obtain ⟨a, S0, rfl, h⟩ := h
  refine ⟨a, S0, rfl, ?_⟩
  by_cases c6 : a.k ≠ 6
  · rw [if_pos c6] at h ⊢
    exact ⟨h.1, by rw [h.2.1], h.2.2⟩
  rw [if_neg c6] at h ⊢
  refine ⟨h.1, ?_⟩
  have h := h.2
  by_cases c5 : (a.n == 1) = (x.kd == 5)
  · rw [if_pos c5] at h ⊢
    exact ⟨by rw [h.1, List.drop_append_of_le_length (by omega)], h.2⟩
  · rw [if_neg c5] at h ⊢
    exact ⟨by rw [h.1], h.2⟩
/-- Operations, with others behind. -/
theorem ev_app {l : List Ox} {S1 : List Tm} {E : Int} (h : EvR lk l S S1 E) (m : List Ox) : ∀ h1, hg l (S.length : Int) = some h1 → (E = 0 → ∀ S2 E2, EvR lk m S1 S2 E2 → EvR lk (l ++ m) S S2 E2) ∧ (E ≠ 0 → EvR lk (l ++ m) S [] E) := by
  induction h with
  | nil S => intro _ _; exact ⟨fun _ S2 E2 k => k, fun e => absurd rfl e⟩
  | err h he =>
    intro h1 hh
    have c := hg_some hh
    exact ⟨fun e => absurd e he, fun _ => .err (step_app m c.skip (op_sk c.op) h) he⟩
  | go h t ih =>
    intro h1 hh
    have c := hg_some hh
    have hst := step_app m c.skip (op_sk c.op) h
    have ih2 := ih h1 (hg_step hh h).1
    exact ⟨fun e S2 E2 k => .go hst (ih2.1 e S2 E2 k), fun e => .go hst (ih2.2 e)⟩
theorem ev_zero {l : List Ox} {S1 : List Tm} {E : Int} (h : EvR lk l S S1 E) (hE : E ≠ 0) : S1 = [] := by
  induction h with
  | nil S => exact absurd rfl hE
  | err h he => rfl
  | go h t ih => exact ih hE
/-- A step, with more on the stack below. -/
theorem step_under {r1 : List Ox} {S1 : List Tm} (T : List Tm) (h : stepR lk x r S r1 S1 0) : stepR lk x r (S ++ T) r1 (S1 ++ T) 0 := by
  unfold stepR at h ⊢
  by_cases c1 : x.kd = 1
  · rw [if_pos c1] at h ⊢
    refine ⟨h.1, ?_⟩
    by_cases cv : x.t.k = 1
    · have h := h.2
      rw [if_pos cv] at h ⊢
      cases hl : lk x.t.s with
      | none => rw [hl] at h; exact absurd h.2 (by decide)
      | some y => rw [hl] at h; exact ⟨by rw [h.1]; rfl, rfl⟩
    · have h := h.2
      rw [if_neg cv] at h ⊢
      exact ⟨by rw [h.1]; rfl, rfl⟩
  rw [if_neg c1] at h ⊢
  by_cases c2 : x.kd = 2
  · rw [if_pos c2] at h ⊢
    obtain ⟨h1, a, S0, rfl, h2, rfl⟩ := h
    exact ⟨h1, a, S0 ++ T, rfl, h2, rfl⟩
  rw [if_neg c2] at h ⊢
  by_cases c3 : x.kd = 3
  · rw [if_pos c3] at h ⊢
    obtain ⟨h1, b, a, S0, t, rfl, h2, rfl⟩ := h
    exact ⟨h1, b, a, S0 ++ T, t, rfl, h2, rfl⟩
  rw [if_neg c3] at h ⊢
  obtain ⟨a, S0, rfl, h⟩ := h
  refine ⟨a, S0 ++ T, rfl, ?_⟩
  by_cases c6 : a.k ≠ 6
  · rw [if_pos c6] at h; exact absurd h.1 (by decide)
  rw [if_neg c6] at h ⊢
  refine ⟨rfl, ?_⟩
  have h := h.2
  by_cases c5 : (a.n == 1) = (x.kd == 5)
  · rw [if_pos c5] at h ⊢
    exact ⟨h.1, by rw [h.2]; rfl⟩
  · rw [if_neg c5] at h ⊢
    exact ⟨h.1, by rw [h.2]⟩
theorem step_under_err {r1 : List Ox} {S1 : List Tm} {e : Int} (T : List Tm) (he : e ≠ 0) (h : stepR lk x r S r1 S1 e) : stepR lk x r (S ++ T) r1 S1 e := by
  unfold stepR at h ⊢
  by_cases c1 : x.kd = 1
  · rw [if_pos c1] at h ⊢
    refine ⟨h.1, ?_⟩
    by_cases cv : x.t.k = 1
    · have h := h.2
      rw [if_pos cv] at h ⊢
      cases hl : lk x.t.s with
      | none => rw [hl] at h; exact h
      | some y => rw [hl] at h; exact absurd h.2 he
    · have h := h.2
      rw [if_neg cv] at h; exact absurd h.2 he
  rw [if_neg c1] at h ⊢
  by_cases c2 : x.kd = 2
  · rw [if_pos c2] at h ⊢
    obtain ⟨h1, a, S0, rfl, h2, rfl⟩ := h
    exact ⟨h1, a, S0 ++ T, rfl, h2, by rw [if_neg he, if_neg he]⟩
  rw [if_neg c2] at h ⊢
  by_cases c3 : x.kd = 3
  · rw [if_pos c3] at h ⊢
    obtain ⟨h1, b, a, S0, t, rfl, h2, rfl⟩ := h
    exact ⟨h1, b, a, S0 ++ T, t, rfl, h2, by rw [if_neg he, if_neg he]⟩
  rw [if_neg c3] at h ⊢
  obtain ⟨a, S0, rfl, h⟩ := h
  refine ⟨a, S0 ++ T, rfl, ?_⟩
  by_cases c6 : a.k ≠ 6
  · rw [if_pos c6] at h ⊢; exact h
  rw [if_neg c6] at h
  exact absurd h.1 he
theorem ev_under {l : List Ox} {S1 : List Tm} {E : Int} (h : EvR lk l S S1 E) (T : List Tm) : (E = 0 → EvR lk l (S ++ T) (S1 ++ T) 0) ∧ (E ≠ 0 → EvR lk l (S ++ T) [] E) := by
  induction h with
  | nil S => exact ⟨fun _ => .nil _, fun e => absurd rfl e⟩
  | err h he => exact ⟨fun e => absurd e he, fun _ => .err (step_under_err T he h) he⟩
  | go h t ih => exact ⟨fun e => .go (step_under T h) (ih.1 e), fun e => .go (step_under T h) (ih.2 e)⟩
end Go.Proofs.YteiacgpaocnofaaGreat
/- What the laws ask first: light, lightBind; an expression that every program must know. -/
namespace Go.Proofs.YteiacgpaocnofaaGreat
open Go.RowKit
/-- A truth, whichever. -/
def TellsB (w : World) (e : Ending) (w' : World) : Prop := ∃ v : Bool, e = .returned (.bool v) ∧ Below w.heap.size w w'
set_option maxRecDepth 100000 in
set_option maxHeartbeats 4000000 in
theorem light_any {l : List Ox} {ao : Option Addr} {c : Nat} {w : World} (h : OAt w l ao c) : Calls Tryz.prog 9 #[xv l ao c] w (TellsB w) := by
  have hm1 := h.1
  have hm2 := h.2.1
  have bX := alloc_below w (.cells #[.slice ao l.length c] 24)
  have HX := hide (And.intro bX h)
  clear h bX
  by_cases h100 : (100 : Int) < (l.length : Int)
  · have d1 : decide ((100 : Int) < (l.length : Int)) = true := decide_eq_true h100
    have d2 : decide (100 < l.length) = true := decide_eq_true (by omega)
    clear h100
    go_enter Tryz.func9, Tryz.ntmps9
    go_wp2
    go_ret
    exact ⟨_, rfl, HX.out.1⟩
  have d1 : decide ((100 : Int) < (l.length : Int)) = false := decide_eq_false h100
  have d2 : decide (100 < l.length) = false := decide_eq_false (by omega)
  clear h100
  go_enter Tryz.func9, Tryz.ntmps9
  go_wp2
  clear d1 d2
  go_loopw [12] (fun i wr => ∃ k : Nat, k ≤ l.length ∧ i = .int .i64 (k : Int) ∧ Below w.heap.size w wr) (fun i _ => l.length - (intOf i).toNat)
  case atStart => exact ⟨0, Nat.zero_le _, rfl, HX.out.1⟩
  case round =>
    obtain ⟨k, hk, rfl, hB⟩ := hrel
    by_cases hlt : k < l.length
    · obtain ⟨x, hx⟩ : ∃ x, l[k]? = some x := ⟨_, List.getElem?_eq_getElem hlt⟩
      obtain ⟨g, o, hao, hbb, hcs⟩ := HX.out.2.read (by omega)
      subst hao
      obtain ⟨xa, xc, hxt, hF, hc7⟩ := hcs k x hx
      obtain ⟨p0, p1, p2, p3, p4, p5, p6⟩ := hc7 wr hB
      have hix := fun w_ => ix_ops w_ g o l.length c k hlt
      have bA := alloc_below wr (.cells (ovC x xa xc) 48)
      have bb := Below.chain hB bA
      have HC := hide (Size_any (hxt.ext bb))
      unfold tv at HC
      have HY := hide bb
      clear hB hcs hc7 hxt hx bA bb hF
      go_wp2_with fail
      refine HC.out.mono ?_
      rintro e w2 ⟨n, rfl, hn, b2⟩
      have HZ := hide (Below.chain HY.out b2)
      clear b2 HC HY
      by_cases h100 : 100 ≤ n
      · have d1 : decide ((100 : Int) ≤ n) = true := decide_eq_true h100
        clear h100 hn
        go_wp2
        go_ret
        exact ⟨_, rfl, HZ.out⟩
      · have d1 : decide ((100 : Int) ≤ n) = false := decide_eq_false h100
        clear h100 hn
        go_wp2
        go_roundw
        case rel => exact ⟨k + 1, by omega, by go_num, HZ.out⟩
        case measure => simp [intOf]; omega
    · obtain rfl : k = l.length := by omega
      have HY := hide hB
      clear hB
      go_wp2
      go_ret
      exact ⟨_, rfl, HY.out⟩
set_option maxRecDepth 100000 in
set_option maxHeartbeats 4000000 in
theorem lightB_any {nl : List ByteArray} {na : Option Addr} {nc : Nat} {tl : List Tm} {ta : Option Addr} {tc : Nat} {w : World} (h : BAt w nl na nc tl ta tc) (hbig : nl.length ≤ 4611686018427387904) : Calls Tryz.prog 10 #[bv nl na nc tl ta tc] w (TellsB w) := by
  have hm3 := h.tm.1
  have hm4 := h.tm.2.1
  have bX := alloc_below w (.cells (bvC nl na nc tl ta tc) 28)
  have HX := hide (And.intro bX h)
  clear h bX
  unfold bv
  go_enter Tryz.func10, Tryz.ntmps10
  go_wp2
  go_loopw [12, 3] (fun i s wr => ∃ (k : Nat) (z : Int), k ≤ tl.length ∧ i = .int .i64 (k : Int) ∧ s = .int .i64 z ∧ (0 ≤ z ∧ z ≤ 4611686018427387904) ∧ Below w.heap.size w wr) (fun i _ _ => tl.length - (intOf i).toNat)
  case atStart => exact ⟨0, _, Nat.zero_le _, rfl, rfl, by omega, HX.out.1⟩
  case round =>
    obtain ⟨k, z, hk, rfl, rfl, hz, hB⟩ := hrel
    by_cases hlt : k < tl.length
    · obtain ⟨x, hx⟩ : ∃ x, tl[k]? = some x := ⟨_, List.getElem?_eq_getElem hlt⟩
      obtain ⟨g, o, hao, hbb, hcs⟩ := HX.out.2.tm.read (by omega)
      subst hao
      obtain ⟨xa, xc, hxt, hc4⟩ := hcs k x hx
      obtain ⟨p0, p1, p2, p3⟩ := hc4 wr hB
      have hix := fun w_ => ix_terms w_ g o tl.length tc k hlt
      have bA := alloc_below wr (.cells (tvC x xa xc) 33)
      have bb := Below.chain hB bA
      have HC := hide (Size_any (hxt.ext bb))
      unfold tv at HC
      have HY := hide bb
      clear hB hcs hc4 hxt hx bA bb
      go_wp2_with fail
      refine HC.out.mono ?_
      rintro e w2 ⟨n, rfl, hn, b2⟩
      have HZ := hide (Below.chain HY.out b2)
      have HN := hide hn
      clear b2 HC HY
      by_cases h300 : 300 < z + n
      · have d1 : decide ((300 : Int) < z + n) = true := decide_eq_true h300
        clear h300
        go_wp2
        go_ret
        exact ⟨_, rfl, HZ.out⟩
      · have d1 : decide ((300 : Int) < z + n) = false := decide_eq_false h300
        clear h300
        go_wp2
        go_roundw
        case rel => exact ⟨k + 1, z + n, by omega, by go_num, rfl, by have := HN.out; have := of_decide_eq_false d1; omega, HZ.out⟩
        case measure => simp [intOf]; omega
    · obtain rfl : k = tl.length := by omega
      have HY := hide hB
      clear hB
      go_wp2
      go_ret
      exact ⟨_, rfl, HY.out⟩
def numO (n : Int) : Ox := ⟨1, numT n, 0, 0⟩
def addO : Ox := ⟨3, zt, 7, 0⟩
set_option maxRecDepth 100000 in
set_option maxHeartbeats 2000000 in
theorem number_law (n : Int) (w : World) : Calls Tryz.prog 30 #[.int .i64 n] w fun e w' => e = .returned (ov (numO n) none 0) ∧ Below w.heap.size w w' := by
  have B0 := hide (alloc_below w (.cells (ovC ⟨0, zt, 0, 0⟩ none 0) 48))
  have R0 := heap_alloc_last w (.cells (ovC ⟨0, zt, 0, 0⟩ none 0) 48)
  go_enter Tryz.func30, Tryz.ntmps30
  go_wp2_with (refine wpList_store_row rfl 48 (.tmp 2) (.tmp 5) rfl w.heap.size (ovC (numO n) none 0) rfl rfl 48 (ovC ⟨0, zt, 0, 0⟩ none 0) R0 (by kernel_rfl) rfl (by kernel_rfl) ?_)
  refine bodyPost_ret_by (results_cell_row rfl _ _ w.heap.size 48 _ (0, 0) _ rfl (setRow_heap _ _ _ _ _ _ R0) Tryz.underlying48 rfl (by kernel_rfl)) rfl ?_
  exact ⟨rfl, Below.setRow B0.out _ _ (Nat.le_refl _)⟩
theorem three_eval : EvalR [] [] [numO 1, numO 2, addO] (numT 3) 0 := by
  have hm : mayE [numO 1, numO 2, addO] = true := by decide +kernel
  have hb : mbB [] [] = true := by decide +kernel
  unfold EvalR
  rw [if_pos ⟨hm, hb⟩]
  refine ⟨[numT 3], ?_, by rw [if_pos rfl]⟩
  refine .go (r1 := [numO 2, addO]) (S1 := [numT 1]) ?_ (.go (r1 := [addO]) (S1 := [numT 2, numT 1]) ?_ (.go (r1 := []) (S1 := [numT 3]) ?_ (.nil _)))
  · exact stepR_term (x := numO 1) rfl (by decide)
  · exact stepR_term (x := numO 2) rfl (by decide)
  · have hb : BinR addO.cd (numT 1) (numT 2) (numT 3) 0 := BinR.val (fix_num 1) (fix_num 2) (by decide) rfl (show (numT 3, (0 : Int)) = opF 7 (numT 1) (numT 2) by rfl)
    have := stepR_bin (lk := lkT [] []) (x := addO) (r := []) (S := []) rfl hb
    rwa [if_pos rfl] at this
end Go.Proofs.YteiacgpaocnofaaGreat
/- An expression that every program must know is told. -/
namespace Go.Proofs.YteiacgpaocnofaaGreat
open Go.RowKit
abbrev cs3 : Array Value := #[.int .i64 1, .int .i64 2, .int .i64 1, .string ⟨#[]⟩, .slice none 0 0, .int .i64 0, .int .i64 0, .int .i64 1, .int .i64 2, .int .i64 2, .string ⟨#[]⟩, .slice none 0 0, .int .i64 0, .int .i64 0, .int .i64 3, .int .i64 0, .int .i64 0, .string ⟨#[]⟩, .slice none 0 0, .int .i64 7, .int .i64 0]
theorem fl_ofit {x : Ox} (h1 : -9223372036854775808 ≤ x.kd ∧ x.kd ≤ 9223372036854775807) (h2 : -9223372036854775808 ≤ x.cd ∧ x.cd ≤ 9223372036854775807) (h3 : -9223372036854775808 ≤ x.sk ∧ x.sk ≤ 9223372036854775807) : OFit x := ⟨h1, h2, h3⟩
theorem BAt.nil (w : World) : BAt w [] none 0 [] none 0 := ⟨⟨Nat.le_refl _, by decide, 0, 0, fun h => absurd rfl h, fun i s h => by simp at h⟩, LAt.nil w none 0 (by decide)⟩
theorem three_oat (w : World) : OAt (w.alloc (.cells cs3 48)) [numO 1, numO 2, addO] (some ⟨w.heap.size, 0, none⟩) 3 := by
  have h1 : OcAt (w.alloc (.cells cs3 48)) (ovC (numO 1) none 0).toList [numO 1] := .one ((numT_fl (by decide)).at _) (fl_ofit (by decide) (by decide) (by decide))
  have h2 : OcAt (w.alloc (.cells cs3 48)) (ovC (numO 2) none 0).toList [numO 2] := .one ((numT_fl (by decide)).at _) (fl_ofit (by decide) (by decide) (by decide))
  have h3 : OcAt (w.alloc (.cells cs3 48)) (ovC addO none 0).toList [addO] := .one (zt_fl.at _) (fl_ofit (by decide) (by decide) (by decide))
  exact row_oat (l := [numO 1, numO 2, addO]) (heap_alloc_last w (.cells cs3 48)) (by decide) ((h1.append h2).append h3) (fun u hu => by
    simp at hu
    rcases hu with rfl | rfl | rfl | rfl | rfl | rfl | rfl | rfl | rfl | rfl | rfl | rfl | rfl | rfl | rfl | rfl | rfl | rfl | rfl | rfl | rfl <;> rfl)
set_option maxRecDepth 100000 in
set_option maxHeartbeats 4000000 in
theorem awake12_any {w : World} (hM : MaxL w) : Calls Tryz.prog 11 #[] w (Ans true w) := by
  have HM := hide hM
  clear hM
  go_enter Tryz.func11, Tryz.ntmps11
  go_wp2_with fail
  refine (number_law 1 _).mono ?_
  rintro e_ w1 ⟨rfl, b1⟩
  have B1 := hide b1
  clear b1
  unfold ov
  go_wp2_with fail
  refine (number_law 2 _).mono ?_
  rintro e_ w2 ⟨rfl, b2⟩
  have B2 := hide (Below.chain B1.out b2)
  clear b2
  unfold ov
  have bA := alloc_below w2 (.cells cs3 48)
  have HE := hide (Eval_any (HM.out.ext (Below.chain B2.out bA)) (three_oat w2) (BAt.nil _))
  have B3 := hide (Below.chain B2.out bA)
  clear bA
  unfold bv at HE
  go_wp2_with fail
  refine HE.out.mono ?_
  rintro e_ w4 ⟨r, ra, rc, E, rfl, hr, hR, _, _, b4⟩
  obtain ⟨rfl, rfl⟩ := eval_uniq hR three_eval
  have B4 := hide (Below.chain B3.out b4)
  clear hr hR b4 HE
  unfold tv
  have r4 := heap_alloc_last w4 (.cells (tvC (numT 3) ra rc) 33)
  have q0 := cell_of_row _ _ 0 _ _ _ r4
  have q1 := cell_of_row _ _ 1 _ _ _ r4
  simp only [List.getElem?_toArray, List.getElem?_cons_zero, List.getElem?_cons_succ] at q0 q1
  have B5 := hide (Below.chain B4.out (alloc_below w4 (.cells (tvC (numT 3) ra rc) 33)))
  clear r4
  go_wp2
  go_ret
  exact ⟨rfl, B5.out⟩
end Go.Proofs.YteiacgpaocnofaaGreat
/- Variables of a law; expressions that laws put together. -/
namespace Go.Proofs.YteiacgpaocnofaaGreat
open Go.RowKit
/-- Variables, each in its block; what was there before the law stays. -/
structure KV (w0 : World) (rows : List (Nat × Array Value × TypeId)) (W : World) : Prop where
  bel : Below w0.heap.size w0 W
  row : ∀ p ∈ rows, W.heap[p.1]? = some (.cells p.2.1 p.2.2 (0, 0))
theorem KV.nil (w : World) : KV w [] w := ⟨Below.refl _ _, fun p hp => by simp at hp⟩
theorem KV.ext {w0 W w : World} {rows : List (Nat × Array Value × TypeId)} (h : KV w0 rows W) (he : Below W.heap.size W w) : KV w0 rows w :=
  ⟨Below.chain h.bel he, fun p hp => Below.heap he (Array.getElem?_eq_some_iff.1 (h.row p hp)).1 (h.row p hp)⟩
theorem KV.add {w0 W : World} {rows : List (Nat × Array Value × TypeId)} (h : KV w0 rows W) (p : Nat) (cs : Array Value) (t : TypeId) (hp : p = W.heap.size) : KV w0 ((p, cs, t) :: rows) (W.alloc (.cells cs t)) :=
  ⟨Below.chain h.bel (alloc_below _ _), fun q hq => by
    rcases List.mem_cons.1 hq with rfl | hq
    · rw [hp]; exact heap_alloc_last _ _
    · exact Below.heap (alloc_below _ _) (Array.getElem?_eq_some_iff.1 (h.row q hq)).1 (h.row q hq)⟩
theorem KV.cell {w0 W : World} {rows : List (Nat × Array Value × TypeId)} (h : KV w0 rows W) {p : Nat} {cs : Array Value} {t : TypeId} (hp : (p, cs, t) ∈ rows) {i : Nat} {v : Value} (hv : cs[i]? = some v) : W.cell? ⟨p, i, none⟩ = some v := by
  rw [cell_of_row _ _ _ _ _ _ (h.row _ hp)]; exact hv
/-- A new variable, one of whose cells is written. -/
theorem KV.addSet {w0 W : World} {rows : List (Nat × Array Value × TypeId)} (h : KV w0 rows W) (cs : Array Value) (t : TypeId) (i : Nat) (u : Value) : KV w0 ((W.heap.size, cs.setIfInBounds i u, t) :: rows) ((W.alloc (.cells cs t)).setCell ⟨W.heap.size, i, none⟩ u) := by
  have ha := h.add W.heap.size cs t rfl
  refine ⟨Below.setCell (p := ⟨W.heap.size, i, none⟩) ha.bel h.bel.size u, fun q hq => ?_⟩
  rcases List.mem_cons.1 hq with rfl | hq
  · exact heap_setCell_same _ _ _ _ _ _ (heap_alloc_last W (.cells cs t))
  · have hl := (Array.getElem?_eq_some_iff.1 (h.row q hq)).1
    exact (Below.heap_setCell _ ⟨W.heap.size, i, none⟩ u q.1 (by show q.1 ≠ W.heap.size; omega)).trans (ha.row q (List.mem_cons_of_mem _ hq))
theorem KV.grown {w0 W w : World} {rows : List (Nat × Array Value × TypeId)} (h : KV w0 rows W) {X : Option Nat} (hg : W.grownBy w X) (hX : ∀ k, X = some k → w0.heap.size ≤ k ∧ ∀ q ∈ rows, q.1 ≠ k) : KV w0 rows w :=
  ⟨below_grow h.bel hg (fun k hk => (hX k hk).1) h.bel.size, fun q hq => (hg.block q.1 (Array.getElem?_eq_some_iff.1 (h.row q hq)).1 (fun e => (hX q.1 e.symm).2 q hq rfl)).trans (h.row q hq)⟩
/-- A row just made is one's own. -/
theorem ops_own {W : World} {g n : Nat} {cs : Array Value} (h : W.heap[g]? = some (.cells cs 48 (0, 0))) (hs : cs.size = n * 7) (hn : n ≤ 1000) {B : Nat} (hB : B ≤ g) : W.ownsRow B 48 7 (.slice (some ⟨g, 0, none⟩) n n) n cs.toList :=
  ⟨by rw [Array.length_toList]; exact hs, .inr ⟨g, n, cs, rfl, hB, h, Nat.le_refl _, by unfold maxLen; omega, hs, by rw [← hs, ← Array.length_toList, List.take_length]⟩⟩
def lzO (o f : Bool) (n : Nat) : List Ox := [⟨1, trueT f, 0, 0⟩, ⟨if o then 5 else 4, zt, 0, (n : Int)⟩]
theorem lz_hg {o f : Bool} {l : List Ox} (h : hg l 0 = some 1) (hn : 1 ≤ l.length) : hg (lzO o f l.length ++ l) 0 = some 1 := by
  have h2 : hg (⟨if o then 5 else 4, zt, 0, (l.length : Int)⟩ :: l) 1 = some 1 := by
    rw [hg_cons]
    have ht : takesN (if o then 5 else 4) = 1 := by cases o <;> rfl
    have hop : isOpB ⟨if o then 5 else 4, zt, 0, (l.length : Int)⟩ = true := by
      have hz : zeroT zt = true := by decide +kernel
      have h1 : decide ((1 : Int) ≤ (l.length : Int)) = true := decide_eq_true (by omega)
      cases o
      · show (zeroT zt && ((0 : Int) == 0) && decide ((1 : Int) ≤ (l.length : Int))) = true
        rw [hz, h1]; rfl
      · show (zeroT zt && ((0 : Int) == 0) && decide ((1 : Int) ≤ (l.length : Int))) = true
        rw [hz, h1]; rfl
    rw [if_pos ⟨hop, by show takesN (if o then 5 else 4) ≤ 1; rw [ht]; exact Int.le_refl _, Int.le_refl _, fun _ => by rw [show ((l.length : Int)).toNat = l.length by omega, List.take_length]; exact h⟩]
    show hg (l.drop ((l.length : Int)).toNat) (1 + (1 - takesN (if o then 5 else 4))) = some 1
    rw [ht, show ((l.length : Int)).toNat = l.length by omega, List.drop_length]
    rfl
  show hg (⟨1, trueT f, 0, 0⟩ :: (⟨if o then 5 else 4, zt, 0, (l.length : Int)⟩ :: l)) 0 = some 1
  rw [hg_cons]
  have hop : isOpB ⟨1, trueT f, 0, 0⟩ = true := by cases f <;> decide +kernel
  rw [if_pos ⟨hop, by show takesN 1 ≤ 0; decide, by show (0 : Int) ≤ _; exact Int.natCast_nonneg _, fun h => absurd h (by show ¬ (0 : Int) < 0; decide)⟩]
  exact h2
theorem may_ne {l : List Ox} (h : mayE l = true) : 1 ≤ l.length := by
  cases l with
  | nil => exact absurd (may_hg h).2 (by decide)
  | cons x r => simp
theorem lz_may {o f : Bool} {l : List Ox} (h : mayE l = true) (hn : l.length ≤ 30) : mayE (lzO o f l.length ++ l) = true :=
  may_of (by rw [List.length_append]; show 2 + l.length ≤ 32; omega) (lz_hg (may_hg h).2 (may_ne h))
theorem true_n (f : Bool) : ((trueT f).n == 1) = f := by cases f <;> rfl
theorem lz_kd (o : Bool) : (((if o then 5 else 4 : Int)) == 5) = o := by cases o <;> rfl
theorem lz_45 (o : Bool) : (if o then 5 else 4 : Int) = 4 ∨ (if o then 5 else 4 : Int) = 5 := by cases o <;> simp
/-- What is left out is never looked at. -/
theorem lz_skip {nl : List ByteArray} {tl : List Tm} {o : Bool} {l : List Ox} (h : mayE l = true) (hn : l.length ≤ 30) (hb : mbB nl tl = true) : EvalR nl tl (lzO o o l.length ++ l) (trueT o) 0 := by
  unfold EvalR
  rw [if_pos ⟨lz_may h hn, hb⟩]
  refine ⟨[trueT o], ?_, by rw [if_pos rfl]⟩
  refine .go (stepR_term (x := ⟨1, trueT o, 0, 0⟩) rfl (by cases o <;> decide)) ?_
  have hs := stepR_skip (lk := lkT nl tl) (x := ⟨if o then 5 else 4, zt, 0, (l.length : Int)⟩) (r := l) (S := []) (a := trueT o) (lz_45 o) (by cases o <;> rfl) (by rw [true_n, lz_kd])
  refine .go hs ?_
  show EvR _ (l.drop ((l.length : Int)).toNat) _ _ _
  rw [show ((l.length : Int)).toNat = l.length by omega, List.drop_length]
  exact .nil _
/-- What is not left out is looked at. -/
theorem lz_on {nl : List ByteArray} {tl : List Tm} {o f : Bool} {l : List Ox} {r : Tm} {E : Int} (h : mayE l = true) (hn : l.length ≤ 30) (hb : mbB nl tl = true) (hne : f ≠ o) (he : EvalR nl tl l r E) : EvalR nl tl (lzO o f l.length ++ l) r E := by
  unfold EvalR at he ⊢
  rw [if_pos ⟨h, hb⟩] at he
  rw [if_pos ⟨lz_may h hn, hb⟩]
  obtain ⟨S, h1, h2⟩ := he
  refine ⟨S, ?_, h2⟩
  refine .go (stepR_term (x := ⟨1, trueT f, 0, 0⟩) rfl (by cases f <;> decide)) ?_
  refine .go (stepR_on (lk := lkT nl tl) (x := ⟨if o then 5 else 4, zt, 0, (l.length : Int)⟩) (r := l) (S := []) (a := trueT f) (lz_45 o) (by cases f <;> rfl) (by rw [true_n, lz_kd]; exact hne)) h1
end Go.Proofs.YteiacgpaocnofaaGreat
