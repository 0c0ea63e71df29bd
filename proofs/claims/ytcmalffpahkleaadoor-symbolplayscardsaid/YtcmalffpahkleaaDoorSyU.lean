/- The law SymbolPlays: any calls: each answer, its own ones. -/
import Derived.Test.YtcmalffpahkleaaDoorSyT
import Derived.Deep.CutBlock
namespace Go.Proofs.YtcmalffpahkleaaDoor
open Go.RowKit
theorem PlSt.prow2 {w wr : World} {ob : Option (Nat × Array Value)} {g : Nat} {v : Value} {mv : Option Nat} {gp : Nat} {a : Option Addr} {c : Nat} {l : List ByteArray} (h : PlSt w wr ob g v mv gp (.slice a l.length c) l l) : wr.cell? ⟨gp, 0, none⟩ = some (.slice a l.length c) ∧ NAt wr l a c := by
  obtain ⟨a', c', e, hN⟩ := nat_row h.pt.row h.tb.own.short
  injection e with e1 e2 e3
  subst e1; subst e3
  exact ⟨(row_reads h.pt.hd).1 0, hN⟩
set_option maxRecDepth 100000 in
set_option maxHeartbeats 8000000 in
theorem SymbolPlays_any {w : World} {l : List Cl} {ao : Option Addr} {c : Nat} (hk : KnAt w) (h : CLAt w l ao c) : Calls Tryd.prog 3 #[.slice ao l.length c] w fun e w' => e = .returned (.bool true) ∧ Below w.heap.size w w' := by
  have HK := hide hk
  have HL := hide h
  have HF := hide (few_any h)
  clear hk h
  go_enter Tryd.func3, Tryd.ntmps3
  go_wp2_with fail
  refine HF.out.mono ?_
  rintro e_ w0 ⟨b, rfl, b0⟩
  have B0 := hide b0
  clear b0
  cases b with
  | false =>
    have HA := hide (awake_any (HK.out.ext B0.out))
    go_wp2_with (go_at_call 8; refine HA.out.mono ?_; rintro e_ w2 ⟨rfl, b2⟩)
    go_ret
    exact ⟨rfl, Below.chain B0.out b2⟩
  | true =>
    go_wp2_with fail
    refine (New_any w0).mono ?_
    rintro e_ w1 ⟨g, rfl, h1, b1, hg⟩
    have HS := hide (pl_start (HK.out.ext B0.out) h1 b1 hg)
    clear h1 b1 hg
    go_wp2
    generalize w1.heap.size = gp0 at HS ⊢
    generalize w1.alloc (.cells #[.slice none 0 0] 30) = w2 at HS ⊢
    go_loopw [25, 3, 4] (fun i p q wr => ∃ (k : Nat) (lk : List ByteArray) (g : Nat) (v : Value) (mv : Option Nat) (gp : Nat) (vp : Value), k ≤ l.length ∧ i = .int .i64 (k : Int) ∧ p = .pointer (some ⟨g, 0, none⟩) ∧ q = .pointer (some ⟨gp, 0, none⟩) ∧ PlSt w0 wr none g v mv gp vp lk lk) (fun i _ _ _ => l.length - (intOf i).toNat)
    case atStart => exact ⟨0, [], g, _, _, gp0, _, Nat.zero_le _, rfl, rfl, rfl, HS.out⟩
    case round =>
      obtain ⟨k, lk, g, v, mv, gp, vp, hk, rfl, rfl, rfl, hS⟩ := hrel
      have HT := hide hS
      clear hS HS
      by_cases hlt : k < l.length
      · have dl : decide (k < l.length) = true := decide_eq_true hlt
        obtain ⟨x, hx⟩ : ∃ x, l[k]? = some x := ⟨_, List.getElem?_eq_getElem hlt⟩
        obtain ⟨b, o, a, e, rfl, hfit, hN, p0, p1, p2, p3⟩ := (HL.out.ext B0.out).read hx
        have HP : Hid (∀ W, Below w0.heap.size w0 W → NAt W x.l a e) := ⟨fun W hB => hN.ext hB⟩
        obtain ⟨b', o', a', e', hb', _, _, q0, q1, q2, q3⟩ := (HL.out.ext (Below.chain B0.out HT.out.bel)).read hx
        injection hb' with hb'
        injection hb' with hb1 hb2
        subst hb1; subst hb2
        have he3 := (Below.cell (p := ⟨b, o + k * 4 + 3, none⟩) HT.out.bel (World.block_lt_of_cell? w0 _ p3)).trans p3
        have he3 := q3.symm.trans he3
        injection he3 with he3
        injection he3 with ha' _ hc'
        subst ha'; subst hc'
        have hix := fun w_ => ix_calls w_ b o l.length c k hlt
        have hk1 := step_of hlt HL.out.1 HL.out.2.1
        have H3 := hide (HT.out.hold (clC x a' e'))
        have HFIT := hide hfit.1
        have HH := hide (And.intro hlt hx)
        unfold clC at H3
        clear hN p0 p1 p2 p3 hfit hx hlt hk
        go_upto_block 2 with fail
        go_cut [25, 3, 4, 7] from 25 to 108 (fun i p q y wx => i = .int .i64 (k : Int) ∧ y = .bool true ∧ ∃ (lk2 : List ByteArray) (g : Nat) (v : Value) (mv : Option Nat) (gp : Nat) (vp : Value), p = .pointer (some ⟨g, 0, none⟩) ∧ q = .pointer (some ⟨gp, 0, none⟩) ∧ PlSt w0 wx none g v mv gp vp lk2 lk2)
        case first =>
          by_cases hd0 : x.d = 0
          · have d0 : (x.d == 0) = true := by simpa using hd0
            clear hd0
            have T1 := hide (H3.out.tText HFIT.out)
            have T2 := H3.out.pText HFIT.out
            obtain ⟨s1, y1, hv⟩ : ∃ s1 y1, txtV lk x.n = .tuple #[.string s1, .bool y1] := by
              unfold txtV
              cases txtF lk x.n with
              | some s => exact ⟨s, true, rfl⟩
              | none => exact ⟨_, false, rfl⟩
            rw [hv] at T1 T2
            have T2 := hide T2
            clear hv
            go_wp2_with (first
              | (go_at_call 10; refine T1.out.mono ?_; rintro e_ w4 ⟨rfl, rfl⟩)
              | (go_at_call 11; refine T2.out.mono ?_; rintro e_ w5 ⟨rfl, h5⟩; have HF5 := hide h5.free; clear h5))
            go_meet
            exact ⟨rfl, rfl, _, _, _, _, _, _, rfl, rfl, HF5.out⟩
          · have d0 : (x.d == 0) = false := by simpa using hd0
            clear hd0
            by_cases hd1 : x.d = 1
            · have d1 : (x.d == 1) = true := by simpa using hd1
              clear hd1
              obtain ⟨Y, hY⟩ : ∃ Y, (addF lk x.l).isSome = Y := ⟨_, rfl⟩
              obtain ⟨lk2, hlk2⟩ : ∃ lk2, (addF lk x.l).getD lk = lk2 := ⟨_, rfl⟩
              have hO := hide H3.out.tb.own
              have HTA : Hid (∀ (W : World) (v : Value) (mv : Option Nat) (vp : Value) (lp : List ByteArray), PlSt w0 W (some (wr.heap.size, #[.int .i64 x.d, .int .i64 x.n, .string x.s, .slice a' x.l.length e'])) g v mv gp vp lk lp → Calls Tryd.prog 12 #[.pointer (some ⟨g, 0, none⟩), .slice a' x.l.length e'] W fun e_ w' => e_ = .returned (.bool Y) ∧ ∃ v' mv', PlSt w0 w' (some (wr.heap.size, #[.int .i64 x.d, .int .i64 x.n, .string x.s, .slice a' x.l.length e'])) g v' mv' gp vp lk2 lp) := ⟨fun W v mv vp lp hh => by rw [← hY, ← hlk2]; exact hh.tAdd (HP.out _ hh.bel)⟩
              have HPA : Hid (∀ (W : World) (v : Value) (mv : Option Nat) (vp : Value) (lt : List ByteArray), PlSt w0 W (some (wr.heap.size, #[.int .i64 x.d, .int .i64 x.n, .string x.s, .slice a' x.l.length e'])) g v mv gp vp lt lk → Calls Tryd.prog 13 #[.pointer (some ⟨gp, 0, none⟩), .slice a' x.l.length e'] W fun e_ w' => e_ = .returned (.bool Y) ∧ ∃ vp', PlSt w0 w' (some (wr.heap.size, #[.int .i64 x.d, .int .i64 x.n, .string x.s, .slice a' x.l.length e'])) g v mv gp vp' lt lk2) := ⟨fun W v mv vp lt hh => by rw [← hY, ← hlk2]; exact hh.pAdd hO.out (HP.out _ hh.bel)⟩
              clear hY hlk2
              go_wp2_with fail
              go_region_with (first
                | (go_at_call 12; first | (with_reducible refine (HTA.out _ _ _ _ _ ST4).mono ?_; rintro e_ w4 ⟨rfl, v4, mv4, ST4⟩; have r4 := (PlSt.reads (x := x) ST4).2.2.2) | (with_reducible refine (HTA.out _ _ _ _ _ H3.out.drew).mono ?_; rintro e_ w4 ⟨rfl, v4, mv4, ST4⟩; have r4 := (PlSt.reads (x := x) ST4).2.2.2))
                | (go_at_call 13; first | (with_reducible refine (HPA.out _ _ _ _ _ ST4).mono ?_; rintro e_ w4 ⟨rfl, vp4, ST4⟩; have r4 := (PlSt.reads (x := x) ST4).2.2.2) | (with_reducible refine (HPA.out _ _ _ _ _ H3.out.drew).mono ?_; rintro e_ w4 ⟨rfl, vp4, ST4⟩; have r4 := (PlSt.reads (x := x) ST4).2.2.2)))
              all_goals
                have HF5 := hide ST4.free
                clear ST4
                go_wp2_with fail
                go_meet
                exact ⟨rfl, rfl, _, _, _, _, _, _, rfl, rfl, HF5.out⟩
            · have d1 : (x.d == 1) = false := by simpa using hd1
              clear hd1
              by_cases hd2 : x.d = 2
              · have d2 : (x.d == 2) = true := by simpa using hd2
                clear hd2
                have T1 := hide H3.out.tCopy
                go_wp2_with (first
                  | (go_at_call 14; refine T1.out.mono ?_; rintro e_ w4 ⟨g4, rfl, v4, mv4, ST4⟩; have T2 := hide ST4.pCopy; clear ST4)
                  | (go_at_call 15; refine T2.out.mono ?_; rintro e_ w5 ⟨gp5, rfl, vp5, ST5⟩; have HF5 := hide ST5.free; clear ST5))
                go_meet
                exact ⟨rfl, rfl, _, _, _, _, _, _, rfl, rfl, HF5.out⟩
              · have d2 : (x.d == 2) = false := by simpa using hd2
                clear hd2
                have T1 := H3.out.tNumber x.s
                have hO := hide H3.out.tb.own
                obtain ⟨X, hX⟩ : ∃ X, (numF lk x.s).1 = X := ⟨_, rfl⟩
                obtain ⟨Y, hY⟩ : ∃ Y, (numF lk x.s).2.1 = Y := ⟨_, rfl⟩
                obtain ⟨lk2, hlk2⟩ : ∃ lk2, (numF lk x.s).2.2 = lk2 := ⟨_, rfl⟩
                have HNP : Hid (∀ (W : World) (v : Value) (mv : Option Nat) (lt : List ByteArray), PlSt w0 W (some (wr.heap.size, #[.int .i64 x.d, .int .i64 x.n, .string x.s, .slice a' x.l.length e'])) g v mv gp vp lt lk → Calls Tryd.prog 17 #[.pointer (some ⟨gp, 0, none⟩), .string x.s] W fun e_ w' => e_ = .returned (.tuple #[.int .i64 X, .bool Y]) ∧ ∃ vp', PlSt w0 w' (some (wr.heap.size, #[.int .i64 x.d, .int .i64 x.n, .string x.s, .slice a' x.l.length e'])) g v mv gp vp' lt lk2) := ⟨fun W v mv lt hh => by
                  have := hh.pNumber hO.out x.s
                  unfold numV at this
                  rw [hX, hY, hlk2] at this
                  exact this⟩
                unfold numV at T1
                rw [hX, hY, hlk2] at T1
                have T1 := hide T1
                clear hX hY hlk2
                go_wp2_with (first
                  | (go_at_call 16; refine T1.out.mono ?_; rintro e_ w4 ⟨rfl, v4, mv4, ST4⟩; have r4 := (PlSt.reads (x := x) ST4).2.2.1; have T2 := hide (HNP.out _ _ _ _ ST4); clear ST4)
                  | (go_at_call 17; refine T2.out.mono ?_; rintro e_ w5 ⟨rfl, vp5, ST5⟩; have HF5 := hide ST5.free; clear ST5))
                go_meet
                exact ⟨rfl, rfl, _, _, _, _, _, _, rfl, rfl, HF5.out⟩
        case rest =>
          obtain ⟨rfl, rfl, lk2, g2, v2, mv2, gp2, vp2, rfl, rfl, h5⟩ := hcut
          have H5 := hide h5
          clear h5
          obtain ⟨a2, c2, rfl⟩ := row_val H5.out.pt.row
          have p5 := H5.out.prow2.1
          have HO := hide H5.out.drew.tOwn
          go_wp2_with fail
          go_region_with (first
            | (go_at_call 19; with_reducible refine HO.out.mono ?_; rintro e_ w6 ⟨ya, yc, rfl, hy, ST6⟩; have p6 := ST6.prow2.1)
            | (go_at_call 18; with_reducible refine (same_any hy ST6.prow2.2).mono ?_; rintro e_ w7 ⟨rfl, b7⟩))
          all_goals
            have HF6 := hide (ST6.ext b7).free
            clear ST6 b7 hy
            go_wp2
            go_roundw
            case rel =>
              exact ⟨k + 1, _, _, _, _, _, _, HH.out.1, by simp, rfl, rfl, HF6.out⟩
            case measure => have := HH.out.1; simp only [intOf]; omega
      · have dl : decide (k < l.length) = false := decide_eq_false hlt
        have HA := hide (awake_any (HK.out.ext (Below.chain B0.out HT.out.bel)))
        have HB := hide (Below.chain B0.out HT.out.bel)
        clear hlt hk
        go_wp2_with (go_at_call 8; refine HA.out.mono ?_; rintro e_ w2 ⟨rfl, b2⟩)
        go_ret
        exact ⟨rfl, Below.chain HB.out b2⟩
end Go.Proofs.YtcmalffpahkleaaDoor
