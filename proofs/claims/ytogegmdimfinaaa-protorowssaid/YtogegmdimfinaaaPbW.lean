/- The fields of two messages, one behind the other, are those of both: the law ProtoRows answers true for all inputs. -/
import Derived.Test.YtogegmdimfinaaaPbV
import Derived.Deep.Cut
namespace Go.Proofs.Ytogegmdimfinaaa
open Go.RowKit
theorem cut_w {P : Program} {Q : Exit → Act → World → Prop} {c : Code} {a : Act} {w : World} (F : World → Prop) (hF : F w) (h : ∀ W, F W → c.wp P Q a W) : c.wp P Q a w := h w hF
theorem MAtX.offR {w w' : World} {A : Nat → Prop} {g : Nat} {bs : List (List Nat)} (h : MAtX w A g bs) {X : Option Nat} (hg : w.grownBy w' X) (hm : Off w X 29) (h1 : Off w X 64) (h5 : Off w X 5) : MAtX w' A g bs := by
  obtain ⟨p, e1, e2⟩ := h
  exact ⟨p, heap_off hg e1 hm, e2.off hg h1 h5⟩
theorem row_form {w : World} {base e size n : Nat} {v : Value} {xs : List Value} (h : w.ownsRow base e size v n xs) : ∃ ao gr c, v = .slice ao n c ∧ (0 < n → ao = some ⟨gr, 0, none⟩) := by
  rcases h.2 with ⟨rfl, h0⟩ | ⟨g, cap, cur, rfl, _⟩
  · exact ⟨none, 0, 0, by rw [h0], fun h => by omega⟩
  · exact ⟨_, g, cap, rfl, fun _ => rfl⟩
theorem row_cells {w : World} {base n gr c k : Nat} {l : List (Pu × Value)} {x : Pu × Value} (h : w.ownsRow base 32 4 (.slice (some ⟨gr, 0, none⟩) n c) n (pcs l)) (hx : l[k]? = some x) (hl : l.length = n) :
    w.cell? ⟨gr, k * 4, none⟩ = some (.int .i64 x.1.num) ∧ w.cell? ⟨gr, k * 4 + 1, none⟩ = some (.bool x.1.whole) ∧ w.cell? ⟨gr, k * 4 + 2, none⟩ = some (.int .u64 (x.1.n : Int)) ∧ w.cell? ⟨gr, k * 4 + 3, none⟩ = some x.2 := by
  have hk : k < l.length := (List.getElem?_eq_some_iff.1 hx).1
  obtain ⟨q0, q1, q2, q3⟩ := pcs_get l k x hx
  exact ⟨by rw [h.cellAt _ (by omega)]; exact q0, by rw [h.cellAt _ (by omega)]; exact q1, by rw [h.cellAt _ (by omega)]; exact q2, by rw [h.cellAt _ (by omega)]; exact q3⟩
theorem pieces_app (a b : List Pu) : pieces (a ++ b) = pieces a ++ pieces b := by simp [pieces]
theorem wantF_app (a b : List Pu) : wantF (a ++ b) = wantF a ++ wantF b := by simp [wantF]
theorem take_all (a b : List Pu) (k : Nat) : (a ++ b).take k = a.take k ++ b.take (k - a.length) := List.take_append
theorem step_first {ps qs : List Pu} {k : Nat} {p : Pu} (hk : k < ps.length) (hp : (ps ++ qs)[k]? = some p) :
    pieces (ps.take (k + 1)) = pieces (ps.take k) ++ putP p ∧ pieces (qs.take (k + 1 - ps.length)) = pieces (qs.take (k - ps.length)) ∧ pieces ((ps ++ qs).take (k + 1)) = pieces ((ps ++ qs).take k) ++ putP p := by
  refine ⟨pieces_step ps k p (by rwa [List.getElem?_append_left hk] at hp), by rw [show k + 1 - ps.length = k - ps.length by omega], pieces_step _ k p hp⟩
theorem step_then {ps qs : List Pu} {k : Nat} {p : Pu} (hk : ps.length ≤ k) (hp : (ps ++ qs)[k]? = some p) :
    pieces (ps.take (k + 1)) = pieces (ps.take k) ∧ pieces (qs.take (k + 1 - ps.length)) = pieces (qs.take (k - ps.length)) ++ putP p ∧ pieces ((ps ++ qs).take (k + 1)) = pieces ((ps ++ qs).take k) ++ putP p := by
  refine ⟨by rw [List.take_of_length_le (by omega), List.take_of_length_le hk], ?_, pieces_step _ k p hp⟩
  rw [List.getElem?_append_right hk] at hp
  rw [show k + 1 - ps.length = (k - ps.length) + 1 by omega]
  exact pieces_step qs _ p hp
set_option linter.unusedSimpArgs false in
set_option maxRecDepth 100000 in
set_option maxHeartbeats 8000000 in
theorem rows_walk (v u : Value) (ps qs : List Pu) (w : World) (h : PsAt w v ps) (hu : PsAt w u qs) :
    Calls Try.prog 7 #[v, u] w fun e w' => e = .returned (.bool true) ∧ Below w.heap.size w w' := by
  have HF := hide (few_any h)
  have HP := hide h
  have HQ := hide hu
  obtain ⟨b, o, c, ao, rfl, hc, hl, _⟩ := h
  obtain ⟨b', o', c', ao', rfl, hc', hl', _⟩ := hu
  go_enter Try.func7, Try.ntmps7
  go_wp2_with fail
  refine HF.out.mono ?_
  rintro e w1 ⟨Fw, rfl, hFw, b1⟩
  cases Fw with
  | false =>
    have HB := hide b1
    clear hFw b1
    go_wp2_with fail
    refine (awake_any w1).mono ?_
    rintro e w2 ⟨rfl, b2⟩
    have R := hide (Below.chain HB.out b2)
    clear b2
    go_wp2
    go_ret
    exact ⟨rfl, R.out⟩
  | true =>
    have hF1 := hide (hFw rfl)
    have HB1 := hide b1
    have HF2 := hide (few_any (HQ.out.ext b1))
    clear hFw b1
    go_wp2_with fail
    refine HF2.out.mono ?_
    rintro e w2 ⟨Fw2, rfl, hFw2, b2⟩
    cases Fw2 with
    | false =>
      have HB := hide (Below.chain HB1.out b2)
      clear hFw2 b2
      go_wp2_with fail
      refine (awake_any w2).mono ?_
      rintro e w3 ⟨rfl, b3⟩
      have R := hide (Below.chain HB.out b3)
      clear b3
      go_wp2
      go_ret
      exact ⟨rfl, R.out⟩
    | true =>
      have hF2 := hide (hFw2 rfl)
      have HB2 := hide (Below.chain HB1.out b2)
      clear hFw2 b2 HF HF2 HB1
      -- three messages, and an empty row
      have hW3 : Hid (Below w2.heap.size w2 (((w2.alloc (.cells #[.pointer none] 29)).alloc (.cells #[.pointer none] 29)).alloc (.cells #[.pointer none] 29))) := Below.chain (Below.chain (alloc_below _ _) (alloc_below _ _)) (alloc_below _ _)
      have hMA := ((MAt.new (A := fun _ => True) w2).ext (alloc_below _ (.cells #[.pointer none] 29))).ext (alloc_below _ (.cells #[.pointer none] 29))
      have hMB := (MAt.new (A := fun _ => True) (w2.alloc (.cells #[.pointer none] 29))).ext (alloc_below _ (.cells #[.pointer none] 29))
      have hMC := MAt.new (A := fun _ => True) ((w2.alloc (.cells #[.pointer none] 29)).alloc (.cells #[.pointer none] 29))
      have HMS := hide (And.intro hMA (And.intro hMB hMC))
      rw [show (w2.alloc (.cells #[.pointer none] 29)).heap.size = w2.heap.size + 1 by simp, show ((w2.alloc (.cells #[.pointer none] 29)).alloc (.cells #[.pointer none] 29)).heap.size = w2.heap.size + 1 + 1 by simp] at HMS
      clear hMA hMB hMC
      go_upto_region 4 with fail
      refine cut_w (fun W => Below w2.heap.size w2 W ∧ MAt W w2.heap.size [] ∧ MAt W (w2.heap.size + 1) [] ∧ MAt W (w2.heap.size + 1 + 1) []) ⟨hW3.out, HMS.out.1, HMS.out.2.1, HMS.out.2.2⟩ ?_
      rintro W3 ⟨b3, mA3, mB3, mC3⟩
      have H3 := hide (And.intro b3 (And.intro mA3 (And.intro mB3 mC3)))
      clear b3 mA3 mB3 mC3 hW3 HMS
      have b4 := hide (alloc_below W3 (.cells #[] 32))
      have r4 : Hid ((W3.alloc (.cells #[] 32)).ownsRow W3.heap.size 32 4 (.slice (some ⟨W3.heap.size, 0, none⟩) 0 0) 0 []) := World.ownsRow_lit (base := W3.heap.size) (e := 32) (size := 4) W3 #[] 0 (Nat.le_refl _) (by simp) (by simp)
      go_wp2_with (at_builtin; refine wpList_append_p rfl (.tmp 33) (.tmp 34) rfl (base := W3.heap.size) (n := 0) (xs := []) r4.out (ps := ps) (W0 := w) HP.out (Below.chain (Below.chain HB2.out H3.out.1) b4.out) (by have := hF1.out.1; omega) b4.out.size ?_)
      intro v5 w5 l1 e1 ok1 row1 g1
      have hB5 : Below W3.heap.size W3 w5 := b4.out.grown g1 b4.out.size (fun q hq => (r4.out.lt q hq).1)
      have H5 := hide (And.intro e1 (And.intro row1 hB5))
      have OK1 := hide ok1
      clear e1 row1 g1 hB5 ok1
      go_wp2_with (at_builtin; refine wpList_append_p rfl (.tmp 35) (.tmp 36) rfl (base := W3.heap.size) (n := ps.length) (xs := pcs l1) H5.out.2.1 (ps := qs) (W0 := w) HQ.out (Below.chain (Below.chain HB2.out H3.out.1) H5.out.2.2) (by have := hF1.out.1; have := hF2.out.1; omega) H5.out.2.2.size ?_)
      intro v6 W5 l2 e2 ok2 row2 g2
      -- the row of all, in a world W5
      obtain ⟨all, hall⟩ : ∃ all, ps ++ qs = all := ⟨_, rfl⟩
      have hB5 : Below W3.heap.size W3 W5 := H5.out.2.2.grown g2 H5.out.2.2.size (fun q hq => (H5.out.2.1.lt q hq).1)
      have o29 := off_row H5.out.2.1 (show 32 ≠ 29 by decide)
      have o64 := off_row H5.out.2.1 (show 32 ≠ 64 by decide)
      have o5 := off_row H5.out.2.1 (show 32 ≠ 5 by decide)
      have mA5 := (H3.out.2.1.ext H5.out.2.2).offR g2 o29 o64 o5
      have mB5 := (H3.out.2.2.1.ext H5.out.2.2).offR g2 o29 o64 o5
      have mC5 := (H3.out.2.2.2.ext H5.out.2.2).offR g2 o29 o64 o5
      obtain ⟨L, hL⟩ : ∃ L, l1 ++ l2 = L := ⟨_, rfl⟩
      have hLm : L.map (·.1) = all := by rw [← hL, ← hall, List.map_append, H5.out.1, e2]
      have hrowL : W5.ownsRow W3.heap.size 32 4 v6 (ps.length + qs.length) (pcs L) := by rw [← hL, pcs_app]; exact row2
      have hLl : L.length = ps.length + qs.length := by
        have h9 := congrArg List.length hLm
        rw [← hall, List.length_map, List.length_append] at h9
        exact h9
      obtain ⟨N, hN⟩ : ∃ N, ps.length + qs.length = N := ⟨_, rfl⟩
      rw [hN] at hrowL hLl
      obtain ⟨ao6, gr, c6, hv6, hao6⟩ := row_form hrowL
      subst hv6
      have hLok : ∀ x ∈ L, PuOk w2 x := fun x hx => by
        rw [← hL] at hx
        rcases List.mem_append.1 hx with h9 | h9
        · exact (OK1.out x.1 x.2 h9).ext HB2.out
        · exact (ok2 x.1 x.2 h9).ext HB2.out
      have HALL := hide (And.intro hLm (And.intro hLl (And.intro hN (And.intro hao6 (And.intro hall hLok)))))
      have H6 := hide (And.intro mA5 (And.intro mB5 (And.intro mC5 (And.intro (Below.chain H3.out.1 hB5) hrowL))))
      have hNs : N ≤ 120 := by have := hF1.out.1; have := hF2.out.1; omega
      clear mA5 mB5 mC5 hB5 hrowL hLm hLl hao6 hLok o29 o64 o5 row2 g2 e2 ok2 hL H5 OK1 r4 b4 hN H3
      go_wp2
      go_loopw [39] (fun i wr => ∃ k : Nat, k ≤ N ∧ i = .int .i64 (k : Int) ∧ MAt wr w2.heap.size (pieces (ps.take k)) ∧ MAt wr (w2.heap.size + 1) (pieces (qs.take (k - ps.length))) ∧ MAt wr (w2.heap.size + 1 + 1) (pieces (all.take k)) ∧ Below w2.heap.size w2 wr ∧ wr.ownsRow W3.heap.size 32 4 (.slice ao6 N c6) N (pcs L)) (fun i _ => N - (intOf i).toNat)
      case atStart => exact ⟨0, Nat.zero_le _, rfl, H6.out.1, by rw [Nat.zero_sub]; exact H6.out.2.1, H6.out.2.2.1, H6.out.2.2.2.1, H6.out.2.2.2.2⟩
      case round =>
        obtain ⟨k, hk, rfl, hA, hBm, hCm, hB, hR⟩ := hrel
        by_cases hlt : k < N
        · obtain ⟨hLm, hLl, hN, hao6, hall2, hLok⟩ := HALL.out
          obtain rfl := hao6 (by omega)
          obtain ⟨x, hx⟩ : ∃ x, L[k]? = some x := ⟨_, List.getElem?_eq_getElem (by omega)⟩
          obtain ⟨c0, c1, c2, c3⟩ := row_cells hR hx hLl
          have hok := hLok x (List.mem_of_getElem? hx)
          obtain ⟨p, hp⟩ : ∃ p, x.1 = p := ⟨_, rfl⟩
          have hpk : (ps ++ qs)[k]? = some p := by
            rw [hall2, ← hLm, List.getElem?_map, hx, ← hp]; rfl
          unfold PuOk at hok
          rw [hp] at c0 c1 c2 hok
          obtain ⟨ba, bc, hbv, _, _⟩ := hok.1.len
          rw [hbv] at c3 hok
          have HBS := hide hok.1
          have HPN := hide hok.2.2.1
          have hix := fun w_ => ix_puts w_ gr 0 N c6 k hlt
          simp only [Nat.zero_add] at hix
          have b2 := alloc_below wr (.cells #[.int .i64 p.num, .bool p.whole, .int .u64 (p.n : Int), .slice ba p.b.length bc] 32)
          have HX := hide (And.intro (hA.ext b2) (And.intro (hBm.ext b2) (And.intro (hCm.ext b2) (And.intro (Below.chain hB b2) (row_ext hR b2)))))
          have hbm := hide (show w2.heap.size + 1 + 1 < wr.heap.size from hCm.lt)
          by_cases hfst : k < ps.length
          · have HST := hide (step_first (qs := qs) hfst hpk)
            rw [hall2] at HST
            have hd1 : decide ((ps.length : Int) ≤ (k : Int)) = false := decide_eq_false (by omega)
            clear hA hBm hCm hB hR b2 hok hbv hpk hx hp hLm hLl hN hao6 hall2 hLok
            cases hwh : p.whole with
            | true =>
              rw [hwh] at c1 HX
              have hpp : putP p = putR p.num p.b := by unfold putP; rw [if_pos hwh]
              have HC : Hid (∀ (W : World) (M : Nat) (bs : List (List Nat)), MAt W M bs → Below w2.heap.size w2 W → Calls Try.prog 11 #[.pointer (some ⟨M, 0, none⟩), .int .i64 p.num, .slice ba p.b.length bc] W fun e w' => e = .returned (.tuple #[]) ∧ MAt w' M (bs ++ putP p) ∧ W.grownBy w' (some M)) := fun W M bs hM hW => by rw [hpp]; exact Raw_any (num := p.num) hM (HBS.out.ext hW)
              obtain ⟨PP, hPP⟩ : ∃ PP, putP p = PP := ⟨_, rfl⟩
              rw [hPP] at HC HST
              clear hpp hPP
              go_wp2_with fail
              refine (HC.out _ _ _ HX.out.1 HX.out.2.2.2.1).mono ?_
              rintro e w6 ⟨rfl, m6, g6⟩
              have hrow := heap_off g6 (heap_alloc_last wr (.cells #[.int .i64 p.num, .bool true, .int .u64 (p.n : Int), .slice ba p.b.length bc] 32)) (MAtX.offs HX.out.1 (by decide))
              have x0 := (row_reads hrow).1
              have d0 := x0 0
              have d3 := x0 3
              simp only [List.getElem?_toArray, List.getElem?_cons_zero, List.getElem?_cons_succ] at d0 d3
              have mY := MAtX.beside HX.out.2.1 g6 (by intro h; injection h with h; omega) (MAtX.offs HX.out.1 (by decide)) (MAtX.offs HX.out.1 (by decide))
              have mC := MAtX.beside HX.out.2.2.1 g6 (by intro h; injection h with h; omega) (MAtX.offs HX.out.1 (by decide)) (MAtX.offs HX.out.1 (by decide))
              have hB6 : Below w2.heap.size w2 w6 := HX.out.2.2.2.1.grown g6 HX.out.2.2.2.1.size (fun q hq => by injection hq with hq; omega)
              have hR6 := row_off HX.out.2.2.2.2 g6 (MAtX.offs HX.out.1 (by decide))
              have H6 := hide (And.intro m6 (And.intro mY (And.intro mC (And.intro hB6 hR6))))
              clear m6 g6 mY mC hB6 hR6 hrow x0 HX c0 c1 c2 c3 hix
              go_wp2_with fail
              refine (HC.out _ _ _ H6.out.2.2.1 H6.out.2.2.2.1).mono ?_
              rintro e w7 ⟨rfl, m7, g7⟩
              have nA := MAtX.beside H6.out.1 g7 (by intro h; injection h with h; omega) (MAtX.offs H6.out.2.2.1 (by decide)) (MAtX.offs H6.out.2.2.1 (by decide))
              have nB := MAtX.beside H6.out.2.1 g7 (by intro h; injection h with h; omega) (MAtX.offs H6.out.2.2.1 (by decide)) (MAtX.offs H6.out.2.2.1 (by decide))
              have hB7 : Below w2.heap.size w2 w7 := H6.out.2.2.2.1.grown g7 H6.out.2.2.2.1.size (fun q hq => by injection hq with hq; omega)
              have hR7 := row_off H6.out.2.2.2.2 g7 (MAtX.offs H6.out.2.2.1 (by decide))
              have H7 := hide (And.intro nA (And.intro nB (And.intro m7 (And.intro hB7 hR7))))
              clear m7 g7 nA nB hB7 hR7 H6 HC d0 d3
              go_wp2
              go_roundw
              case rel => exact ⟨k + 1, by omega, by go_num, by rw [HST.out.1]; exact H7.out.1, by rw [HST.out.2.1]; exact H7.out.2.1, by rw [HST.out.2.2]; exact H7.out.2.2.1, H7.out.2.2.2.1, H7.out.2.2.2.2⟩
              case measure => simp [intOf]; omega
            | false =>
              rw [hwh] at c1 HX
              have hpp : putP p = putI p.num p.n := by unfold putP; rw [if_neg (by rw [hwh]; decide)]
              have HC : Hid (∀ (W : World) (M : Nat) (bs : List (List Nat)), MAt W M bs → Below w2.heap.size w2 W → Calls Try.prog 13 #[.pointer (some ⟨M, 0, none⟩), .int .i64 p.num, .int .u64 (p.n : Int)] W fun e w' => e = .returned (.tuple #[]) ∧ MAt w' M (bs ++ putP p) ∧ W.grownBy w' (some M)) := fun W M bs hM hW => by rw [hpp]; exact Int_any (num := p.num) hM HPN.out
              obtain ⟨PP, hPP⟩ : ∃ PP, putP p = PP := ⟨_, rfl⟩
              rw [hPP] at HC HST
              clear hpp hPP
              go_wp2_with fail
              refine (HC.out _ _ _ HX.out.1 HX.out.2.2.2.1).mono ?_
              rintro e w6 ⟨rfl, m6, g6⟩
              have hrow := heap_off g6 (heap_alloc_last wr (.cells #[.int .i64 p.num, .bool false, .int .u64 (p.n : Int), .slice ba p.b.length bc] 32)) (MAtX.offs HX.out.1 (by decide))
              have x0 := (row_reads hrow).1
              have d0 := x0 0
              have d3 := x0 2
              simp only [List.getElem?_toArray, List.getElem?_cons_zero, List.getElem?_cons_succ] at d0 d3
              have mY := MAtX.beside HX.out.2.1 g6 (by intro h; injection h with h; omega) (MAtX.offs HX.out.1 (by decide)) (MAtX.offs HX.out.1 (by decide))
              have mC := MAtX.beside HX.out.2.2.1 g6 (by intro h; injection h with h; omega) (MAtX.offs HX.out.1 (by decide)) (MAtX.offs HX.out.1 (by decide))
              have hB6 : Below w2.heap.size w2 w6 := HX.out.2.2.2.1.grown g6 HX.out.2.2.2.1.size (fun q hq => by injection hq with hq; omega)
              have hR6 := row_off HX.out.2.2.2.2 g6 (MAtX.offs HX.out.1 (by decide))
              have H6 := hide (And.intro m6 (And.intro mY (And.intro mC (And.intro hB6 hR6))))
              clear m6 g6 mY mC hB6 hR6 hrow x0 HX c0 c1 c2 c3 hix
              go_wp2_with fail
              refine (HC.out _ _ _ H6.out.2.2.1 H6.out.2.2.2.1).mono ?_
              rintro e w7 ⟨rfl, m7, g7⟩
              have nA := MAtX.beside H6.out.1 g7 (by intro h; injection h with h; omega) (MAtX.offs H6.out.2.2.1 (by decide)) (MAtX.offs H6.out.2.2.1 (by decide))
              have nB := MAtX.beside H6.out.2.1 g7 (by intro h; injection h with h; omega) (MAtX.offs H6.out.2.2.1 (by decide)) (MAtX.offs H6.out.2.2.1 (by decide))
              have hB7 : Below w2.heap.size w2 w7 := H6.out.2.2.2.1.grown g7 H6.out.2.2.2.1.size (fun q hq => by injection hq with hq; omega)
              have hR7 := row_off H6.out.2.2.2.2 g7 (MAtX.offs H6.out.2.2.1 (by decide))
              have H7 := hide (And.intro nA (And.intro nB (And.intro m7 (And.intro hB7 hR7))))
              clear m7 g7 nA nB hB7 hR7 H6 HC d0 d3
              go_wp2
              go_roundw
              case rel => exact ⟨k + 1, by omega, by go_num, by rw [HST.out.1]; exact H7.out.1, by rw [HST.out.2.1]; exact H7.out.2.1, by rw [HST.out.2.2]; exact H7.out.2.2.1, H7.out.2.2.2.1, H7.out.2.2.2.2⟩
              case measure => simp [intOf]; omega
          · have HST := hide (step_then (qs := qs) (by omega) hpk)
            rw [hall2] at HST
            have hd1 : decide ((ps.length : Int) ≤ (k : Int)) = true := decide_eq_true (by omega)
            have hge : ps.length ≤ k := by omega
            clear hA hBm hCm hB hR b2 hok hbv hpk hx hp hLm hLl hN hao6 hall2 hLok
            cases hwh : p.whole with
            | true =>
              rw [hwh] at c1 HX
              have hpp : putP p = putR p.num p.b := by unfold putP; rw [if_pos hwh]
              have HC : Hid (∀ (W : World) (M : Nat) (bs : List (List Nat)), MAt W M bs → Below w2.heap.size w2 W → Calls Try.prog 11 #[.pointer (some ⟨M, 0, none⟩), .int .i64 p.num, .slice ba p.b.length bc] W fun e w' => e = .returned (.tuple #[]) ∧ MAt w' M (bs ++ putP p) ∧ W.grownBy w' (some M)) := fun W M bs hM hW => by rw [hpp]; exact Raw_any (num := p.num) hM (HBS.out.ext hW)
              obtain ⟨PP, hPP⟩ : ∃ PP, putP p = PP := ⟨_, rfl⟩
              rw [hPP] at HC HST
              clear hpp hPP
              go_wp2_with fail
              refine (HC.out _ _ _ HX.out.2.1 HX.out.2.2.2.1).mono ?_
              rintro e w6 ⟨rfl, m6, g6⟩
              have hrow := heap_off g6 (heap_alloc_last wr (.cells #[.int .i64 p.num, .bool true, .int .u64 (p.n : Int), .slice ba p.b.length bc] 32)) (MAtX.offs HX.out.2.1 (by decide))
              have x0 := (row_reads hrow).1
              have d0 := x0 0
              have d3 := x0 3
              simp only [List.getElem?_toArray, List.getElem?_cons_zero, List.getElem?_cons_succ] at d0 d3
              have mY := MAtX.beside HX.out.1 g6 (by intro h; injection h with h; omega) (MAtX.offs HX.out.2.1 (by decide)) (MAtX.offs HX.out.2.1 (by decide))
              have mC := MAtX.beside HX.out.2.2.1 g6 (by intro h; injection h with h; omega) (MAtX.offs HX.out.2.1 (by decide)) (MAtX.offs HX.out.2.1 (by decide))
              have hB6 : Below w2.heap.size w2 w6 := HX.out.2.2.2.1.grown g6 HX.out.2.2.2.1.size (fun q hq => by injection hq with hq; omega)
              have hR6 := row_off HX.out.2.2.2.2 g6 (MAtX.offs HX.out.2.1 (by decide))
              have H6 := hide (And.intro m6 (And.intro mY (And.intro mC (And.intro hB6 hR6))))
              clear m6 g6 mY mC hB6 hR6 hrow x0 HX c0 c1 c2 c3 hix
              go_wp2_with fail
              refine (HC.out _ _ _ H6.out.2.2.1 H6.out.2.2.2.1).mono ?_
              rintro e w7 ⟨rfl, m7, g7⟩
              have nA := MAtX.beside H6.out.1 g7 (by intro h; injection h with h; omega) (MAtX.offs H6.out.2.2.1 (by decide)) (MAtX.offs H6.out.2.2.1 (by decide))
              have nB := MAtX.beside H6.out.2.1 g7 (by intro h; injection h with h; omega) (MAtX.offs H6.out.2.2.1 (by decide)) (MAtX.offs H6.out.2.2.1 (by decide))
              have hB7 : Below w2.heap.size w2 w7 := H6.out.2.2.2.1.grown g7 H6.out.2.2.2.1.size (fun q hq => by injection hq with hq; omega)
              have hR7 := row_off H6.out.2.2.2.2 g7 (MAtX.offs H6.out.2.2.1 (by decide))
              have H7 := hide (And.intro nA (And.intro nB (And.intro m7 (And.intro hB7 hR7))))
              clear m7 g7 nA nB hB7 hR7 H6 HC d0 d3
              go_wp2
              go_roundw
              case rel => exact ⟨k + 1, by omega, by go_num, by rw [HST.out.1]; exact H7.out.2.1, by rw [HST.out.2.1]; exact H7.out.1, by rw [HST.out.2.2]; exact H7.out.2.2.1, H7.out.2.2.2.1, H7.out.2.2.2.2⟩
              case measure => simp [intOf]; omega
            | false =>
              rw [hwh] at c1 HX
              have hpp : putP p = putI p.num p.n := by unfold putP; rw [if_neg (by rw [hwh]; decide)]
              have HC : Hid (∀ (W : World) (M : Nat) (bs : List (List Nat)), MAt W M bs → Below w2.heap.size w2 W → Calls Try.prog 13 #[.pointer (some ⟨M, 0, none⟩), .int .i64 p.num, .int .u64 (p.n : Int)] W fun e w' => e = .returned (.tuple #[]) ∧ MAt w' M (bs ++ putP p) ∧ W.grownBy w' (some M)) := fun W M bs hM hW => by rw [hpp]; exact Int_any (num := p.num) hM HPN.out
              obtain ⟨PP, hPP⟩ : ∃ PP, putP p = PP := ⟨_, rfl⟩
              rw [hPP] at HC HST
              clear hpp hPP
              go_wp2_with fail
              refine (HC.out _ _ _ HX.out.2.1 HX.out.2.2.2.1).mono ?_
              rintro e w6 ⟨rfl, m6, g6⟩
              have hrow := heap_off g6 (heap_alloc_last wr (.cells #[.int .i64 p.num, .bool false, .int .u64 (p.n : Int), .slice ba p.b.length bc] 32)) (MAtX.offs HX.out.2.1 (by decide))
              have x0 := (row_reads hrow).1
              have d0 := x0 0
              have d3 := x0 2
              simp only [List.getElem?_toArray, List.getElem?_cons_zero, List.getElem?_cons_succ] at d0 d3
              have mY := MAtX.beside HX.out.1 g6 (by intro h; injection h with h; omega) (MAtX.offs HX.out.2.1 (by decide)) (MAtX.offs HX.out.2.1 (by decide))
              have mC := MAtX.beside HX.out.2.2.1 g6 (by intro h; injection h with h; omega) (MAtX.offs HX.out.2.1 (by decide)) (MAtX.offs HX.out.2.1 (by decide))
              have hB6 : Below w2.heap.size w2 w6 := HX.out.2.2.2.1.grown g6 HX.out.2.2.2.1.size (fun q hq => by injection hq with hq; omega)
              have hR6 := row_off HX.out.2.2.2.2 g6 (MAtX.offs HX.out.2.1 (by decide))
              have H6 := hide (And.intro m6 (And.intro mY (And.intro mC (And.intro hB6 hR6))))
              clear m6 g6 mY mC hB6 hR6 hrow x0 HX c0 c1 c2 c3 hix
              go_wp2_with fail
              refine (HC.out _ _ _ H6.out.2.2.1 H6.out.2.2.2.1).mono ?_
              rintro e w7 ⟨rfl, m7, g7⟩
              have nA := MAtX.beside H6.out.1 g7 (by intro h; injection h with h; omega) (MAtX.offs H6.out.2.2.1 (by decide)) (MAtX.offs H6.out.2.2.1 (by decide))
              have nB := MAtX.beside H6.out.2.1 g7 (by intro h; injection h with h; omega) (MAtX.offs H6.out.2.2.1 (by decide)) (MAtX.offs H6.out.2.2.1 (by decide))
              have hB7 : Below w2.heap.size w2 w7 := H6.out.2.2.2.1.grown g7 H6.out.2.2.2.1.size (fun q hq => by injection hq with hq; omega)
              have hR7 := row_off H6.out.2.2.2.2 g7 (MAtX.offs H6.out.2.2.1 (by decide))
              have H7 := hide (And.intro nA (And.intro nB (And.intro m7 (And.intro hB7 hR7))))
              clear m7 g7 nA nB hB7 hR7 H6 HC d0 d3
              go_wp2
              go_roundw
              case rel => exact ⟨k + 1, by omega, by go_num, by rw [HST.out.1]; exact H7.out.2.1, by rw [HST.out.2.1]; exact H7.out.1, by rw [HST.out.2.2]; exact H7.out.2.2.1, H7.out.2.2.2.1, H7.out.2.2.2.2⟩
              case measure => simp [intOf]; omega
        · obtain ⟨hLm, hLl, hN, hao6, hall2, hLok⟩ := HALL.out
          obtain rfl : k = N := by omega
          rw [List.take_of_length_le (by omega)] at hA
          rw [List.take_of_length_le (by omega)] at hBm
          rw [List.take_of_length_le (by rw [← hall2, List.length_append]; omega), ← hall2, pieces_app] at hCm
          have s1 := few_small hF1.out
          have s2 := few_small hF2.out
          have v1 := HP.out.valid hF1.out.2
          have v2 := HQ.out.valid hF2.out.2
          have p1 := put_read v1 s1.2
          have p2 := put_read v2 s2.2
          have p3 : rdF ((pieces ps).flatten ++ (pieces qs).flatten) = .ok (wantF ps ++ wantF qs) := by
            rw [← List.flatten_append, ← pieces_app, ← wantF_app]
            unfold rdF
            have h9 := pieces_app ps qs
            rw [if_pos (by rw [h9, List.flatten_append, List.length_append]; omega)]
            have v3 : ∀ p ∈ ps ++ qs, p.b.length ≤ 65536 ∧ limB p.b ∧ p.n < 18446744073709551616 := fun p hp => (List.mem_append.1 hp).elim (v1 p) (v2 p)
            rw [pieces_want (fun p hp => (v3 p hp).1), encs_flat]
            exact flds_all (want_ok v3) (Nat.le_refl _)
          obtain ⟨PA, hPA⟩ : ∃ PA, pieces ps = PA := ⟨_, rfl⟩
          obtain ⟨PB, hPB⟩ : ∃ PB, pieces qs = PB := ⟨_, rfl⟩
          obtain ⟨FA, hFA⟩ : ∃ FA, PA.flatten = FA := ⟨_, rfl⟩
          obtain ⟨FB, hFB⟩ : ∃ FB, PB.flatten = FB := ⟨_, rfl⟩
          rw [hPA] at hA hCm s1 p1 p3
          rw [hPB] at hBm hCm s2 p2 p3
          rw [hFA] at p1 p3
          rw [hFB] at p2 p3
          have KA : Hid (∀ W : World, Below wr.heap.size wr W → Calls Try.prog 15 #[.pointer (some ⟨w2.heap.size, 0, none⟩)] W fun e w' => ∃ u, e = .returned u ∧ Own w' W.heap.size u FA ∧ Below W.heap.size W w') := fun W hW => by rw [← hFA]; exact Bytes_any (hA.ext hW) (by omega) (by omega)
          have KB : Hid (∀ W : World, Below wr.heap.size wr W → Calls Try.prog 15 #[.pointer (some ⟨w2.heap.size + 1, 0, none⟩)] W fun e w' => ∃ u, e = .returned u ∧ Own w' W.heap.size u FB ∧ Below W.heap.size W w') := fun W hW => by rw [← hFB]; exact Bytes_any (hBm.ext hW) (by omega) (by omega)
          have l1 : FA.length ≤ 6000 := by rw [← hFA]; exact s1.2
          have l2 : FB.length ≤ 6000 := by rw [← hFB]; exact s2.2
          obtain ⟨FC, hFC⟩ : ∃ FC, FA ++ FB = FC := ⟨_, rfl⟩
          rw [hFC] at p3
          have HMC := hide (And.intro hCm (And.intro (show (PA ++ PB).flatten = FC by rw [List.flatten_append, hFA, hFB, hFC]) (show (PA ++ PB).length ≤ 100000 by rw [List.length_append]; omega)))
          have HPR := hide (And.intro p1 (And.intro p2 p3))
          have HLL := hide (And.intro l1 (And.intro l2 hFC))
          have HBW := hide (Below.chain HB2.out hB)
          clear hA hBm hCm hB hR s1 s2 v1 v2 p1 p2 p3 hPA hPB hFA hFB l1 l2 hFC hk hLm hLl hN hao6 hall2 hLok
          have B1 := hide (alloc_below wr (.cells #[] 5))
          go_wp2_with fail
          refine (KA.out _ B1.out).mono ?_
          rintro e t1 ⟨ua, rfl, oa, ba⟩
          have T1 := hide (And.intro ((own_none0 (w := wr)).ext ba) (And.intro oa.at (Below.chain B1.out ba)))
          clear oa ba B1
          go_wp2_with (at_builtin; refine wpList_append_b rfl (.tmp 77) (.tmp 79) rfl (base := wr.heap.size) (l := []) (m := FA) T1.out.1 T1.out.2.1 (by have := HLL.out.1; simp; omega) T1.out.2.2.size ?_)
          intro y2 t2 o2 g2
          have T2 := hide (And.intro o2 (below_gr T1.out.2.2 T1.out.1 (Nat.le_refl _) g2))
          clear o2 g2 T1
          go_wp2_with fail
          refine (KB.out _ T2.out.2).mono ?_
          rintro e t3 ⟨ub, rfl, ob, bb⟩
          have T3 := hide (And.intro (T2.out.1.ext bb) (And.intro ob.at (Below.chain T2.out.2 bb)))
          clear ob bb T2
          go_wp2_with (at_builtin; refine wpList_append_b rfl (.tmp 80) (.tmp 82) rfl (base := wr.heap.size) (l := FA) (m := FB) T3.out.1 T3.out.2.1 (by have := HLL.out.1; have := HLL.out.2.1; omega) T3.out.2.2.size ?_)
          intro y4 t4 o4 g4
          rw [HLL.out.2.2] at o4
          have T4 := hide (And.intro o4.at (below_gr T3.out.2.2 T3.out.1 (Nat.le_refl _) g4))
          obtain ⟨za, zc, hy4, _, _⟩ := o4.at.len
          subst hy4
          clear o4 g4 T3
          go_wp2_with fail
          refine (KA.out _ T4.out.2).mono ?_
          rintro e t5 ⟨uc, rfl, oc, bc5⟩
          have HFd := hide (Fields_any oc.at)
          rw [HPR.out.1] at HFd
          have T5 := hide (And.intro (T4.out.1.ext bc5) (Below.chain T4.out.2 bc5))
          clear oc bc5 T4
          go_wp2_with fail
          refine HFd.out.mono ?_
          rintro e t6 ⟨u6, rfl, f6, b6⟩
          obtain ⟨nfa, nfc, hu6⟩ := FsAt.len f6
          rw [show (Rs.ok (wantF ps)).got = wantF ps from rfl] at hu6
          subst hu6
          rw [show (Rs.ok (wantF ps)).err = 0 from rfl]
          have T6 := hide (And.intro (T5.out.1.ext b6) (Below.chain T5.out.2 b6))
          clear f6 b6 HFd T5
          go_wp2_with fail
          refine (KB.out _ T6.out.2).mono ?_
          rintro e t7 ⟨ud, rfl, od, bd7⟩
          have HFd := hide (Fields_any od.at)
          rw [HPR.out.2.1] at HFd
          have T7 := hide (And.intro (T6.out.1.ext bd7) (Below.chain T6.out.2 bd7))
          clear od bd7 T6
          go_wp2_with fail
          refine HFd.out.mono ?_
          rintro e t8 ⟨u8_, rfl, f8, b8⟩
          obtain ⟨nga, ngc, hu8⟩ := FsAt.len f8
          rw [show (Rs.ok (wantF qs)).got = wantF qs from rfl] at hu8
          subst hu8
          rw [show (Rs.ok (wantF qs)).err = 0 from rfl]
          have T8 := hide (And.intro (T7.out.1.ext b8) (Below.chain T7.out.2 b8))
          clear f8 b8 HFd T7
          have HFd := hide (Fields_any T8.out.1)
          rw [HPR.out.2.2] at HFd
          go_wp2_with fail
          refine HFd.out.mono ?_
          rintro e t9 ⟨u9_, rfl, f9, b9⟩
          obtain ⟨nka, nkc, hu9⟩ := FsAt.len f9
          rw [show (Rs.ok (wantF ps ++ wantF qs)).got = wantF ps ++ wantF qs from rfl] at hu9
          subst hu9
          rw [show (Rs.ok (wantF ps ++ wantF qs)).err = 0 from rfl]
          have T9 := hide (And.intro (T8.out.1.ext b9) (Below.chain T8.out.2 b9))
          have q1 := wantF_len ps
          have q2 := wantF_len qs
          have q3 := hF1.out.1
          have q4 := hF2.out.1
          obtain ⟨nf, hnf⟩ : ∃ nf, (wantF ps).length = nf := ⟨_, rfl⟩
          obtain ⟨ng, hng⟩ : ∃ ng, (wantF qs).length = ng := ⟨_, rfl⟩
          obtain ⟨nk, hnk⟩ : ∃ nk, (wantF ps ++ wantF qs).length = nk := ⟨_, rfl⟩
          have hsum : nk = nf + ng := by rw [← hnk, List.length_append, hnf, hng]
          rw [hnf] at q1 ⊢
          rw [hng] at q2 ⊢
          rw [hnk]
          have HADD : Hid (∀ W : World, (binOp .add 3 (.int .i64 (nf : Int)) (.int .i64 (ng : Int))).run Try.prog W = .ok (.int .i64 ((nf : Int) + (ng : Int))) W) := fun W => by
            go_simp
            rw [IntKind.wrap_i64]
            omega
          have HEQ : Hid (∀ W : World, (binOp .eql 3 (.int .i64 (nk : Int)) (.int .i64 ((nf : Int) + (ng : Int)))).run Try.prog W = .ok (.bool true) W) := fun W => by
            rw [hsum]
            go_simp
          clear f9 b9 HFd T8 q1 q2 q3 q4 hnf hng hnk hsum
          have HW := hide T9.out.1
          have HM := hide (HMC.out.1.ext T9.out.2)
          have HBB := hide (Below.chain HBW.out T9.out.2)
          obtain ⟨PC, hPC⟩ : ∃ PC, PA ++ PB = PC := ⟨_, rfl⟩
          have HS := hide (show PC.length ≤ 100000 ∧ PC.flatten.length ≤ 100000000 ∧ PC.flatten = FC from ⟨by rw [← hPC]; exact HMC.out.2.2, by rw [← hPC, HMC.out.2.1, ← HLL.out.2.2, List.length_append]; have := HLL.out.1; have := HLL.out.2.1; omega, by rw [← hPC]; exact HMC.out.2.1⟩)
          rw [hPC] at HM
          clear hPC T9
          obtain ⟨g, hg⟩ : ∃ g, w2.heap.size + 1 + 1 = g := ⟨_, rfl⟩
          rw [hg] at HM ⊢
          clear hg
          go_wp2_with fail
          refine wp_region_typed (tys := fun ix_ => List.getD [isb (FC), isv (.string (sob (FC))), ism g PC, isv (.bool true), isv (.int .i64 0), isv (.slice nka nk nkc), isv (.int .i64 (nk : Int)), isv (.slice nfa nf nfc), isv (.int .i64 (nf : Int)), isv (.slice nga ng ngc), isv (.int .i64 (ng : Int)), isv (.int .i64 ((nf : Int) + (ng : Int)))] ix_ anyv) (pre := [(7, 2), (11, 0), (12, 7), (13, 4), (14, 9), (15, 4), (16, 5), (17, 4)])
            (plan := [([(11, 0)], 0), ([(101, 0)], 1), ([(7, 2)], 2), ([(103, 2)], 0), ([(104, 0)], 1), ([(102, 1), (105, 1)], 3), ([(106, 3)], 3), ([(107, 3), (13, 4)], 4), ([(107, 3), (108, 4)], 3), ([(107, 3), (109, 3)], 3), ([(110, 3)], 3), ([(111, 3), (15, 4)], 4), ([(111, 3), (112, 4)], 3), ([(111, 3), (113, 3)], 3), ([(114, 3)], 3), ([(115, 3), (17, 4)], 4), ([(115, 3), (116, 4)], 3), ([(115, 3), (117, 3)], 3), ([(118, 3)], 3), ([(119, 3), (16, 5)], 5), ([(119, 3), (120, 5)], 6), ([(119, 3), (12, 7)], 7), ([(119, 3), (122, 7)], 8), ([(119, 3), (14, 9)], 9), ([(119, 3), (124, 9)], 10), ([(119, 3), (123, 8), (125, 10)], 11), ([(119, 3), (121, 6), (126, 11)], 3), ([(119, 3), (127, 3)], 3), ([(128, 3)], 3), ([(129, 3)], 3), ([(129, 3), (130, 3)], 3), ([(131, 3)], 3)])
            (by kernel_rfl) 132 (by kernel_rfl) rfl ⟨⟨rfl, HM.out⟩, ⟨HW.out, ⟨rfl, ⟨rfl, ⟨rfl, ⟨rfl, ⟨rfl, ⟨rfl, trivial⟩⟩⟩⟩⟩⟩⟩⟩
              (OkL.cons (fun a w X_ h => g_move (wanted_none rfl) (.inl rfl) h.1)
              (OkL.cons (fun a w X_ h => g_str (wanted_none rfl) rfl h.1 rfl)
              (OkL.cons (fun a w X_ h => g_move (wanted_none rfl) (.inl rfl) h.1)
              (OkL.cons (fun a w X_ h => g_call1 (wanted_none rfl) (by kernel_rfl) rfl (h_bytes h.1 HS.out.1 HS.out.2.1 HS.out.2.2))
              (OkL.cons (fun a w X_ h => g_str (wanted_none rfl) rfl h.1 rfl)
              (OkL.cons (fun a w X_ h => g_eqs (wanted_none rfl) rfl h.1 h.2.1 (sob_t rfl))
              (OkL.cons (fun a w X_ h => g_move (wanted_none rfl) (.inl rfl) h.1)
              (OkL.cons (fun a w X_ h => g_move (wanted_some rfl rfl h.1) (.inl rfl) h.2.1)
              (OkL.cons (fun a w X_ h => g_bin (wanted_some rfl rfl h.1) rfl (v := .bool true) (by rw [show a.eval (.tmp 108) = .int .i64 0 from h.2.1]; go_simp) rfl)
              (OkL.cons (fun a w X_ h => g_pick (wanted_none rfl) rfl h.1 h.2.1)
              (OkL.cons (fun a w X_ h => g_move (wanted_none rfl) (.inl rfl) h.1)
              (OkL.cons (fun a w X_ h => g_move (wanted_some rfl rfl h.1) (.inl rfl) h.2.1)
              (OkL.cons (fun a w X_ h => g_bin (wanted_some rfl rfl h.1) rfl (v := .bool true) (by rw [show a.eval (.tmp 112) = .int .i64 0 from h.2.1]; go_simp) rfl)
              (OkL.cons (fun a w X_ h => g_pick (wanted_none rfl) rfl h.1 h.2.1)
              (OkL.cons (fun a w X_ h => g_move (wanted_none rfl) (.inl rfl) h.1)
              (OkL.cons (fun a w X_ h => g_move (wanted_some rfl rfl h.1) (.inl rfl) h.2.1)
              (OkL.cons (fun a w X_ h => g_bin (wanted_some rfl rfl h.1) rfl (v := .bool true) (by rw [show a.eval (.tmp 116) = .int .i64 0 from h.2.1]; go_simp) rfl)
              (OkL.cons (fun a w X_ h => g_pick (wanted_none rfl) rfl h.1 h.2.1)
              (OkL.cons (fun a w X_ h => g_move (wanted_none rfl) (.inl rfl) h.1)
              (OkL.cons (fun a w X_ h => g_move (wanted_some rfl rfl h.1) (.inl rfl) h.2.1)
              (OkL.cons (fun a w X_ h => g_run (wanted_some rfl rfl h.1) (v := .int .i64 (nk : Int)) (by unfold execOp; simp only []; unfold resolve invoke; simp only [List.map_toArray, List.map_cons, List.map_nil, show a.eval (.tmp 120) = .slice nka nk nkc from h.2.1, Sem.run_bind, Sem.run_pure, Result.andThen_ok]; go_simp) (Ext.refl _) rfl)
              (OkL.cons (fun a w X_ h => g_move (wanted_some rfl rfl h.1) (.inl rfl) h.2.1)
              (OkL.cons (fun a w X_ h => g_run (wanted_some rfl rfl h.1) (v := .int .i64 (nf : Int)) (by unfold execOp; simp only []; unfold resolve invoke; simp only [List.map_toArray, List.map_cons, List.map_nil, show a.eval (.tmp 122) = .slice nfa nf nfc from h.2.1, Sem.run_bind, Sem.run_pure, Result.andThen_ok]; go_simp) (Ext.refl _) rfl)
              (OkL.cons (fun a w X_ h => g_move (wanted_some rfl rfl h.1) (.inl rfl) h.2.1)
              (OkL.cons (fun a w X_ h => g_run (wanted_some rfl rfl h.1) (v := .int .i64 (ng : Int)) (by unfold execOp; simp only []; unfold resolve invoke; simp only [List.map_toArray, List.map_cons, List.map_nil, show a.eval (.tmp 124) = .slice nga ng ngc from h.2.1, Sem.run_bind, Sem.run_pure, Result.andThen_ok]; go_simp) (Ext.refl _) rfl)
              (OkL.cons (fun a w X_ h => g_bin (wanted_some rfl rfl h.1) rfl (v := .int .i64 ((nf : Int) + (ng : Int))) (by rw [show a.eval (.tmp 123) = .int .i64 (nf : Int) from h.2.1, show a.eval (.tmp 125) = .int .i64 (ng : Int) from h.2.2.1]; exact HADD.out _) rfl)
              (OkL.cons (fun a w X_ h => g_bin (wanted_some rfl rfl h.1) rfl (v := .bool true) (by rw [show a.eval (.tmp 121) = .int .i64 (nk : Int) from h.2.1, show a.eval (.tmp 126) = .int .i64 ((nf : Int) + (ng : Int)) from h.2.2.1]; exact HEQ.out _) rfl)
              (OkL.cons (fun a w X_ h => g_pick (wanted_none rfl) rfl h.1 h.2.1)
              (OkL.cons (fun a w X_ h => g_move (wanted_none rfl) (.inl rfl) h.1)
              (OkL.cons (fun a w X_ h => g_call0 (wanted_some rfl rfl h.1) (by kernel_rfl) rfl (h_awake))
              (OkL.cons (fun a w X_ h => g_pick (wanted_none rfl) rfl h.1 h.2.1)
              (OkL.cons (fun a w X_ h => g_move (wanted_none rfl) (.inr rfl) h.1)
              OkL.nil)))))))))))))))))))))))))))))))) ?_
          rintro w9 X9 v101 - _ rfl v103 - v104 - _ rfl _ rfl _ rfl _ rfl _ rfl _ rfl _ rfl _ rfl _ rfl _ rfl _ rfl _ rfl _ rfl _ rfl _ rfl _ rfl _ rfl _ rfl _ rfl _ rfl _ rfl _ rfl _ rfl _ rfl _ rfl _ rfl _ rfl _ rfl
          refine FinL.done ?_
          simp only [Act.put, List.setIfInBounds_toArray, List.set_cons_zero, List.set_cons_succ]
          replace HBB := hide (Below.chain HBB.out X9)
          clear X9
          go_wp2
          go_ret
          exact ⟨rfl, HBB.out⟩
end Go.Proofs.Ytogegmdimfinaaa
