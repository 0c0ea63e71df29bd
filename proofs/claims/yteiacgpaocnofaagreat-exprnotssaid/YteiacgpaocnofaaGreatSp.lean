/- Terms in order, each once, off a heap: the walk. -/
import Derived.Test.YteiacgpaocnofaaGreatSo
namespace Go.Proofs.YteiacgpaocnofaaGreat
open Go.RowKit
theorem Fits.flat {t : Tm} {c : Nat} (h : Fits t c) (hl : t.l = []) : Fl t := ⟨hl, h.1, h.2.1, h.2.2.1, by rw [hl]; exact Nat.le_refl _, by decide⟩
theorem take_next {l : List Tm} {k : Nat} {x : Tm} (hx : l[k]? = some x) (t : Tm) : t ∈ l.take (k + 1) ↔ t ∈ l.take k ∨ t = x := by
  rw [List.take_add_one, hx]; simp
theorem row_base {w : World} {B C n : Nat} {v : Value} {xs : List Value} (h : w.ownsRow B 33 4 v n xs) (hC : C ≤ B) : w.ownsRow C 33 4 v n xs :=
  ⟨h.1, by
    rcases h.2 with h1 | ⟨k, cap, cur, hv, hb, hr⟩
    · exact .inl h1
    · exact .inr ⟨k, cap, cur, hv, Nat.le_trans hC hb, hr⟩⟩
/-- The terms so far are on the heap. -/
def Pld (l : List Tm) (w : World) (k : Nat) (wr : World) : Prop := ∃ g cap ys, HP wr w.heap.size (w.heap.size + 1) g k cap ys ∧ HeapOk ys k ∧ (∀ y ∈ ys, Fl y) ∧ (∀ t, t ∈ ys ↔ t ∈ l.take k) ∧ Below w.heap.size w wr
set_option maxRecDepth 100000 in
set_option maxHeartbeats 4000000 in
theorem sorted_any {l : List Tm} {ao : Option Addr} {c : Nat} {w : World} (h : LAt w l ao c) (hn : l.length ≤ 16) (hflat : ∀ x ∈ l, x.l = []) :
    Calls Tryz.prog 189 #[.slice ao l.length c] w fun e w' => ∃ a' c' zs, e = .returned (.slice a' zs.length c') ∧ w'.ownsRow w.heap.size 33 4 (.slice a' zs.length c') zs.length (tcs zs) ∧ IsSet l zs ∧ (∀ z ∈ zs, Fl z) ∧ Below w.heap.size w w' := by
  have HL := hide (And.intro h hflat)
  clear h hflat
  go_enter Tryz.func189, Tryz.ntmps189
  go_wp2
  go_loopw [13] (fun i wr => ∃ k : Nat, k ≤ l.length ∧ i = .int .i64 (k : Int) ∧ Pld l w k wr) (fun i _ => l.length - (intOf i).toNat)
  case atStart =>
    refine ⟨0, Nat.zero_le _, rfl, w.heap.size, 0, [], ⟨?_, ⟨rfl, .inr ⟨w.heap.size, 0, #[], rfl, Nat.le_refl _, ?_, Nat.le_refl _, by decide, rfl, rfl⟩⟩, by omega, by omega⟩, fun c _ h => absurd h (by omega), fun y h => by simp at h, fun t => by simp, ?_⟩
    · have := heap_alloc_last (w.alloc (.cells #[] 33)) (.cells #[.slice (some ⟨w.heap.size, 0, none⟩) 0 0] 186)
      simpa using this
    · exact Below.heap (alloc_below _ _) (by simp) (heap_alloc_last w (.cells #[] 33))
    · exact Below.chain (alloc_below w _) (alloc_below _ _)
  case round =>
    obtain ⟨k, hk, rfl, hP⟩ := hrel
    by_cases hlt : k < l.length
    · obtain ⟨g, cap, ys, hP, hok, hfl, hmem, hB⟩ := hP
      obtain ⟨x, hx⟩ : ∃ x, l[k]? = some x := ⟨_, List.getElem?_eq_getElem hlt⟩
      obtain ⟨b, o, hao, hbb, hcs⟩ := HL.out.1.read (by omega)
      subst hao
      obtain ⟨xa, xc, hxt, hc4⟩ := hcs k x hx
      have hxl0 := HL.out.2 x (List.mem_of_getElem? hx)
      have hxl : x.l.length = 0 := by rw [hxl0]; rfl
      obtain ⟨p0, p1, p2, p3⟩ := hc4 wr hB
      rw [hxl] at p3
      have hix := fun w_ => ix_terms w_ b o l.length c k hlt
      have fx := hxt.fits.flat hxl0
      have b1 := alloc_below wr (.cells #[.int .i64 x.k, .int .i64 x.n, .string x.s, .slice none 0 0] 33)
      have hyl := hP.len
      have HC := hide (hPush_any ((hP.ext b1).hq) fx (by omega) (Nat.le_trans hB.size b1.size) hfl (by rw [hyl]; exact hok))
      unfold tv at HC
      rw [hxl, hyl] at HC
      have HX := hide (And.intro hmem (And.intro (Below.chain hB b1) (And.intro hx (And.intro hfl fx))))
      clear hP hok hfl hmem hB hcs hc4 hxt hxl0 fx b1 hx hyl
      go_wp2_with fail
      refine HC.out.mono ?_
      rintro e w2 ⟨rfl, g2, cap2, zs, h2, ok2, mem2, b2⟩
      have HY := hide (show Pld l w (k + 1) w2 from ⟨g2, cap2, zs, h2, ok2, fun y hy => by
        rcases (mem2 y).1 hy with h1 | h1
        · exact HX.out.2.2.2.1 y h1
        · rw [h1]; exact HX.out.2.2.2.2, fun t => by rw [mem2 t, HX.out.1 t, take_next HX.out.2.2.1 t], Below.trans HX.out.2.1 b2⟩)
      clear h2 ok2 mem2 b2 HC
      go_wp2
      go_roundw
      case rel => exact ⟨k + 1, by omega, by go_num, HY.out⟩
      case measure => simp [intOf]; omega
    · obtain rfl : k = l.length := by omega
      obtain ⟨g, cap, ys, hP, hok, hfl, hmem, hB⟩ := hP
      rw [List.take_of_length_le (Nat.le_refl _)] at hmem
      obtain ⟨S0, hS0⟩ : ∃ S0, wr.heap.size = S0 := ⟨_, rfl⟩
      have hPl := (Array.getElem?_eq_some_iff.1 hP.1).1
      have H0 := hide (show Srt l w w.heap.size (w.heap.size + 1) g cap S0 l.length ys [] (.slice none 0 0) wr from
        ⟨hP, World.ownsRow_nil _ _ _ _, hok, ⟨hfl, fun z h => by simp at h⟩, ⟨fun j h => by simp at h, fun z h => by simp at h, fun t => by rw [hmem t]; simp⟩, by simp; omega, hB, by have := hP.2.1.lt; have := hB.size; omega⟩)
      clear hP hok hfl hmem hB hPl hS0
      go_wp2
      go_loopg [6] l.length (fun m s6 wq => ∃ ys zs, Srt l w w.heap.size (w.heap.size + 1) g cap S0 m ys zs s6 wq)
      case atStart => exact ⟨ys, [], H0.out⟩
      case round =>
        obtain ⟨ys, zs, hS⟩ := hrel
        have c0 := (row_reads hS.heap.1).1 0
        simp only [List.getElem?_toArray, List.getElem?_cons_zero] at c0
        obtain ⟨sa, sc, hsv, hLA⟩ := row_lat hS.row hS.fl.2
        subst hsv
        have hfew := hS.few
        cases hgk : gk with
        | zero =>
          rw [hgk] at hS c0
          have HR := hide (And.intro (row_base hS.row hS.later.2.2.2) (And.intro hS trivial))
          clear hS hLA
          go_wp2
          go_ret
          refine ⟨sa, sc, zs, rfl, HR.out.1, ⟨HR.out.2.1.rise.1, fun t => ?_, by have := HR.out.2.1.few; omega⟩, HR.out.2.1.fl.2, HR.out.2.1.below⟩
          have hy : ys = [] := List.eq_nil_of_length_eq_zero HR.out.2.1.heap.len
          rw [HR.out.2.1.rise.2.2 t, hy]; simp
        | succ m =>
          rw [hgk] at hS c0 hfew
          have HP' := hide (hPop_any hS.heap (by omega) hS.fl.1 hS.ok)
          have HS := hide hS
          have hpos : decide ((0 : Int) < ((m + 1 : Nat) : Int)) = true := decide_eq_true (by omega)
          have hx0 := hS.fl.1 (gt ys 0) (List.mem_of_getElem? (at_getD (by have := hS.heap.len; omega)))
          have hxl := hx0.len
          unfold tv at HP'
          obtain ⟨x, hx⟩ : ∃ x, gt ys 0 = x := ⟨_, rfl⟩
          rw [hx] at hxl hx0
          rw [hx, hxl] at HP'
          clear hS hLA
          go_wp2_with fail
          refine (Len_any (w := wr) (.slice (some ⟨g, 0, none⟩) (m + 1) cap) rfl).mono ?_
          rintro e w1 ⟨rfl, hw⟩
          replace hw := hw.symm
          subst hw
          go_wp2_with fail
          refine HP'.out.mono ?_
          rintro e w2 ⟨rfl, ys', h2, ok2, mem2, mod2⟩
          have HM0 := HS.out.pop h2 ok2 (fun t => by rw [mem2 t, hx]) mod2
          rw [hx] at HM0
          have HM := hide HM0
          have hta := ta_term (.agg #[.int .i64 x.k, .int .i64 x.n, .string x.s, .slice none 0 0])
          have hrx : (w2.alloc (.cells #[.int .i64 x.k, .int .i64 x.n, .string x.s, .slice none 0 0] 33)).heap[w2.heap.size]? = some (.cells #[.int .i64 x.k, .int .i64 x.n, .string x.s, .slice none x.l.length 0] 33 (0, 0)) := by rw [hxl]; exact heap_alloc_last _ _
          clear h2 ok2 mem2 mod2 HM0 HP' HS c0 hx hpos
          by_cases hz0 : zs.length = 0
          · have hzn : zs = [] := List.eq_nil_of_length_eq_zero hz0
            have hgt : ∀ w_ : World, (do eqGuard .gtr 3 (.tmp 35) (.const (.int .i64 0)) (.int .i64 (zs.length : Int)) (.int .i64 0); binOp .gtr 3 (.int .i64 (zs.length : Int)) (.int .i64 0) : Sem Value).run Tryz.prog w_ = .ok (.bool false) w_ := fun w_ => by
              have : decide ((0 : Int) < (zs.length : Int)) = false := decide_eq_false (by omega)
              clear hz0 hzn hrx HM
              generalize (zs.length : Int) = D at *
              go_simp
            have HX := hide (And.intro hrx trivial)
            have HN0 := hide (show ∀ z, z ∈ zs → cp z x < 0 from fun z h => by rw [hzn] at h; simp at h)
            clear hrx hz0 hzn
            go_wp2_with fail
            refine wp_region_typed (tys := fun ix_ => List.getD [isv (.int .i64 (zs.length : Int)), isv (.bool false), isv (undef)] ix_ anyv) (pre := [(8, 0)])
              (plan := [([(8, 0)], 0), ([(35, 0)], 1), ([(36, 1)], 1), ([(37, 1)], 2), ([(37, 1)], 2), ([(37, 1)], 2), ([(37, 1)], 2), ([(37, 1)], 2), ([(37, 1)], 2), ([(37, 1)], 2), ([(37, 1)], 1)])
              (by kernel_rfl) 51 (by kernel_rfl) rfl ⟨rfl, trivial⟩
                (OkL.cons (fun a w X_ h => g_move (wanted_none rfl) (.inl rfl) h.1)
                (OkL.cons (fun a w X_ h => g_bin (wanted_none rfl) rfl (v := .bool false) (by rw [show a.eval (.tmp 35) = .int .i64 (zs.length : Int) from h.1]; exact hgt _) rfl)
                (OkL.cons (fun a w X_ h => g_move (wanted_none rfl) (.inl rfl) h.1)
                (OkL.cons (fun a w X_ h => g_skip rfl rfl h.1 rfl)
                (OkL.cons (fun a w X_ h => g_skip rfl rfl h.1 rfl)
                (OkL.cons (fun a w X_ h => g_skip rfl rfl h.1 rfl)
                (OkL.cons (fun a w X_ h => g_skip rfl rfl h.1 rfl)
                (OkL.cons (fun a w X_ h => g_skip rfl rfl h.1 rfl)
                (OkL.cons (fun a w X_ h => g_skip rfl rfl h.1 rfl)
                (OkL.cons (fun a w X_ h => g_skip rfl rfl h.1 rfl)
                (OkL.cons (fun a w X_ h => g_pick (wanted_none rfl) rfl h.1 rfl)
                OkL.nil))))))))))) ?_
            rintro w3 X2 _ rfl _ rfl _ rfl _ rfl _ rfl _ rfl _ rfl _ rfl _ rfl _ rfl _ rfl
            refine FinL.done ?_
            simp only [Act.put, List.setIfInBounds_toArray, List.set_cons_zero, List.set_cons_succ]
            have hrow := Below.heap X2 (Array.getElem?_eq_some_iff.1 HX.out.1).1 HX.out.1
            have A0 := (row_reads hrow).1 0
            have A1 := (row_reads hrow).1 1
            have A2 := (row_reads hrow).1 2
            have A3 := (row_reads hrow).1 3
            simp only [List.getElem?_toArray, List.getElem?_cons_zero, List.getElem?_cons_succ] at A0 A1 A2 A3
            rw [hxl] at A3
            have HZ := hide (HM.out.ext (Below.chain (alloc_below _ _) X2))
            clear hrow X2 HX
            go_wp2_with (at_builtin; refine wpList_append_r appT rfl (.tmp 46) (.tmp 48) rfl (base := S0) (n := zs.length) (xs := tcs zs) (row_ext HZ.out.row (alloc_below _ _)) (ad := ⟨_, 0, none⟩) (m := 1) (c := 1) (news := tc x) rfl rfl (tc_news (heap_alloc_last _ _)) (tc_one x) (by have := HZ.out.few; unfold maxLen; omega) (by have := HZ.out.few; omega) (by have := HZ.out.later; simp; omega) ?_)
            intro v5 w5 o5 g5
            have HN := hide ((HZ.out.ext (alloc_below _ _)).push o5 g5 (HN0.out))
            clear HZ o5 g5 HM
            go_wp2
            go_roundg (gk - 1)
            case measure => omega
            case rel => exact ⟨_, _, by rw [hgk]; exact HN.out⟩
          · obtain ⟨q, hq⟩ : ∃ q, zs.length = q + 1 := ⟨zs.length - 1, by omega⟩
            have hqn : q < zs.length := by omega
            obtain ⟨z, hz⟩ : ∃ z, zs[q]? = some z := ⟨_, List.getElem?_eq_getElem hqn⟩
            have hzm := List.mem_of_getElem? hz
            obtain ⟨sg, hsa⟩ : ∃ sg, sa = some ⟨sg, 0, none⟩ := by
              rcases HM.out.row.2 with ⟨e, h0⟩ | ⟨sg, cp', cur, e, _⟩
              · omega
              · injection e with e1 _ _
                exact ⟨sg, e1⟩
            subst hsa
            have hrowz : HR w2 S0 sg zs.length sc zs := HM.out.row
            have fz := HM.out.fl.2.1 z hzm
            have bA := alloc_below w2 (.cells #[.int .i64 x.k, .int .i64 x.n, .string x.s, .slice none 0 0] 33)
            have HX := hide (And.intro hrx (And.intro (Nat.lt_of_lt_of_le hrowz.lt.1 bA.size) (And.intro ((hrowz.ext bA).c4 hz fz) (And.intro (fz.at (w2.alloc (.cells #[.int .i64 x.k, .int .i64 x.n, .string x.s, .slice none 0 0] 33))) (HM.out.fl.2.2.at (w2.alloc (.cells #[.int .i64 x.k, .int .i64 x.n, .string x.s, .slice none 0 0] 33)))))))
            have hgt : ∀ w_ : World, (do eqGuard .gtr 3 (.tmp 35) (.const (.int .i64 0)) (.int .i64 (zs.length : Int)) (.int .i64 0); binOp .gtr 3 (.int .i64 (zs.length : Int)) (.int .i64 0) : Sem Value).run Tryz.prog w_ = .ok (.bool true) w_ := fun w_ => by
              have : decide ((0 : Int) < (zs.length : Int)) = true := decide_eq_true (by omega)
              clear hz0 hrx HM HX hq hqn
              generalize (zs.length : Int) = D at *
              go_simp
            have hsub : ∀ w_ : World, (do eqGuard .sub 3 (.tmp 39) (.const (.int .i64 1)) (.int .i64 (zs.length : Int)) (.int .i64 1); binOp .sub 3 (.int .i64 (zs.length : Int)) (.int .i64 1) : Sem Value).run Tryz.prog w_ = .ok (.int .i64 (q : Int)) w_ := fun w_ => by
              have e : (zs.length : Int) - 1 = (q : Int) := by omega
              have h1 : (zs.length : Int) ≤ 100 := by omega
              have h2 : 0 ≤ (zs.length : Int) := by omega
              have h3 : (q : Int) ≤ 100 := by omega
              have h4 : 0 ≤ (q : Int) := by omega
              clear hz0 hrx HM HX hq hqn hfew
              generalize (zs.length : Int) = D at *
              generalize (q : Int) = E at *
              go_simp
              rw [IntKind.wrap_i64]; omega
            have HZM := hide (And.intro hzm (And.intro hq (getD_at hz)))
            clear hrx hz0 hrowz fz bA hz hzm hq
            cases hcc : (cp z x == 0) with
            | true =>
              go_wp2_with fail
              refine wp_region_typed (tys := fun ix_ => List.getD [isv (.int .i64 (zs.length : Int)), isv (.bool true), isv (.slice (some ⟨sg, 0, none⟩) (zs.length) sc), isv (.int .i64 (q : Int)), itp z none 0, isv (tv z none 0), itp x none 0, isv (tv x none 0)] ix_ anyv) (pre := [(6, 2), (7, 6), (8, 0)])
                (plan := [([(8, 0)], 0), ([(35, 0)], 1), ([(36, 1)], 1), ([(37, 1), (6, 2)], 2), ([(37, 1), (8, 0)], 0), ([(37, 1), (39, 0)], 3), ([(37, 1), (38, 2), (40, 3)], 4), ([(37, 1), (41, 4)], 5), ([(37, 1), (7, 6)], 7), ([(37, 1), (42, 5), (43, 7)], 1), ([(37, 1), (44, 1)], 1)])
                (by kernel_rfl) 51 (by kernel_rfl) rfl ⟨rfl, ⟨itp_row HX.out.1, ⟨rfl, trivial⟩⟩⟩
                  (OkL.cons (fun a w X_ h => g_move (wanted_none rfl) (.inl rfl) h.1)
                  (OkL.cons (fun a w X_ h => g_bin (wanted_none rfl) rfl (v := .bool true) (by rw [show a.eval (.tmp 35) = .int .i64 (zs.length : Int) from h.1]; exact hgt _) rfl)
                  (OkL.cons (fun a w X_ h => g_move (wanted_none rfl) (.inl rfl) h.1)
                  (OkL.cons (fun a w X_ h => g_move (wanted_some rfl rfl h.1) (.inl rfl) h.2.1)
                  (OkL.cons (fun a w X_ h => g_move (wanted_some rfl rfl h.1) (.inl rfl) h.2.1)
                  (OkL.cons (fun a w X_ h => g_bin (wanted_some rfl rfl h.1) rfl (v := .int .i64 (q : Int)) (by rw [show a.eval (.tmp 39) = .int .i64 (zs.length : Int) from h.2.1]; exact hsub _) rfl)
                  (OkL.cons (fun a w X_ h => g_ixt (wanted_some rfl rfl h.1) q rfl h.2.1 h.2.2.1 hqn ((Nat.lt_of_lt_of_le HX.out.2.1 (Below.size X_))) ((by rw [Nat.zero_add]; exact HX.out.2.2.1.ext HX.out.2.1 X_)))
                  (OkL.cons (fun a w X_ h => g_ldt (wanted_some rfl rfl h.1) rfl h.2.1 rfl)
                  (OkL.cons (fun a w X_ h => g_ldt (wanted_some rfl rfl h.1) rfl h.2.1 rfl)
                  (OkL.cons (fun a w X_ h => g_call2 (wanted_some rfl rfl h.1) (by kernel_rfl) rfl (h_sameB h.2.1 h.2.2.1 (HX.out.2.2.2.1.ext X_) (HX.out.2.2.2.2.ext X_) hcc))
                  (OkL.cons (fun a w X_ h => g_pick (wanted_none rfl) rfl h.1 h.2.1)
                  OkL.nil))))))))))) ?_
              rintro w3 X2 _ rfl _ rfl _ rfl _ rfl _ rfl _ rfl v41 - _ rfl _ rfl _ rfl _ rfl
              refine FinL.done ?_
              simp only [Act.put, List.setIfInBounds_toArray, List.set_cons_zero, List.set_cons_succ]
              have HN := hide ((HM.out.ext (Below.chain (alloc_below _ _) X2)).skip HZM.out.1 (by simpa using hcc))
              clear X2 HX HM hcc
              go_wp2
              go_roundg (gk - 1)
              case measure => omega
              case rel => exact ⟨_, _, by rw [hgk]; exact HN.out⟩
            | false =>
              have HN0 := hide (show ∀ z, z ∈ zs → cp z x < 0 from last_lt HM.out.rise.1 HZM.out.2.1 (by
                rw [show gt zs q = z from HZM.out.2.2]
                have h1 := (HM.out.rise.2.1 z HZM.out.1).1
                have h2 : ¬ cp z x = 0 := by simpa using hcc
                omega))
              go_wp2_with fail
              refine wp_region_typed (tys := fun ix_ => List.getD [isv (.int .i64 (zs.length : Int)), isv (.bool true), isv (.slice (some ⟨sg, 0, none⟩) (zs.length) sc), isv (.int .i64 (q : Int)), itp z none 0, isv (tv z none 0), itp x none 0, isv (tv x none 0), isv (.bool false)] ix_ anyv) (pre := [(6, 2), (7, 6), (8, 0)])
                (plan := [([(8, 0)], 0), ([(35, 0)], 1), ([(36, 1)], 1), ([(37, 1), (6, 2)], 2), ([(37, 1), (8, 0)], 0), ([(37, 1), (39, 0)], 3), ([(37, 1), (38, 2), (40, 3)], 4), ([(37, 1), (41, 4)], 5), ([(37, 1), (7, 6)], 7), ([(37, 1), (42, 5), (43, 7)], 8), ([(37, 1), (44, 8)], 8)])
                (by kernel_rfl) 51 (by kernel_rfl) rfl ⟨rfl, ⟨itp_row HX.out.1, ⟨rfl, trivial⟩⟩⟩
                  (OkL.cons (fun a w X_ h => g_move (wanted_none rfl) (.inl rfl) h.1)
                  (OkL.cons (fun a w X_ h => g_bin (wanted_none rfl) rfl (v := .bool true) (by rw [show a.eval (.tmp 35) = .int .i64 (zs.length : Int) from h.1]; exact hgt _) rfl)
                  (OkL.cons (fun a w X_ h => g_move (wanted_none rfl) (.inl rfl) h.1)
                  (OkL.cons (fun a w X_ h => g_move (wanted_some rfl rfl h.1) (.inl rfl) h.2.1)
                  (OkL.cons (fun a w X_ h => g_move (wanted_some rfl rfl h.1) (.inl rfl) h.2.1)
                  (OkL.cons (fun a w X_ h => g_bin (wanted_some rfl rfl h.1) rfl (v := .int .i64 (q : Int)) (by rw [show a.eval (.tmp 39) = .int .i64 (zs.length : Int) from h.2.1]; exact hsub _) rfl)
                  (OkL.cons (fun a w X_ h => g_ixt (wanted_some rfl rfl h.1) q rfl h.2.1 h.2.2.1 hqn ((Nat.lt_of_lt_of_le HX.out.2.1 (Below.size X_))) ((by rw [Nat.zero_add]; exact HX.out.2.2.1.ext HX.out.2.1 X_)))
                  (OkL.cons (fun a w X_ h => g_ldt (wanted_some rfl rfl h.1) rfl h.2.1 rfl)
                  (OkL.cons (fun a w X_ h => g_ldt (wanted_some rfl rfl h.1) rfl h.2.1 rfl)
                  (OkL.cons (fun a w X_ h => g_call2 (wanted_some rfl rfl h.1) (by kernel_rfl) rfl (h_sameB h.2.1 h.2.2.1 (HX.out.2.2.2.1.ext X_) (HX.out.2.2.2.2.ext X_) hcc))
                  (OkL.cons (fun a w X_ h => g_pick (wanted_none rfl) rfl h.1 h.2.1)
                  OkL.nil))))))))))) ?_
              rintro w3 X2 _ rfl _ rfl _ rfl _ rfl _ rfl _ rfl v41 - _ rfl _ rfl _ rfl _ rfl
              refine FinL.done ?_
              simp only [Act.put, List.setIfInBounds_toArray, List.set_cons_zero, List.set_cons_succ]
              have hrow := Below.heap X2 (Array.getElem?_eq_some_iff.1 HX.out.1).1 HX.out.1
              have A0 := (row_reads hrow).1 0
              have A1 := (row_reads hrow).1 1
              have A2 := (row_reads hrow).1 2
              have A3 := (row_reads hrow).1 3
              simp only [List.getElem?_toArray, List.getElem?_cons_zero, List.getElem?_cons_succ] at A0 A1 A2 A3
              rw [hxl] at A3
              have HZ := hide (HM.out.ext (Below.chain (alloc_below _ _) X2))
              clear hrow X2 HX
              go_wp2_with (at_builtin; refine wpList_append_r appT rfl (.tmp 46) (.tmp 48) rfl (base := S0) (n := zs.length) (xs := tcs zs) (row_ext HZ.out.row (alloc_below _ _)) (ad := ⟨_, 0, none⟩) (m := 1) (c := 1) (news := tc x) rfl rfl (tc_news (heap_alloc_last _ _)) (tc_one x) (by have := HZ.out.few; unfold maxLen; omega) (by have := HZ.out.few; omega) (by have := HZ.out.later; simp; omega) ?_)
              intro v5 w5 o5 g5
              have HN := hide ((HZ.out.ext (alloc_below _ _)).push o5 g5 (HN0.out))
              clear HZ o5 g5 HM
              go_wp2
              go_roundg (gk - 1)
              case measure => omega
              case rel => exact ⟨_, _, by rw [hgk]; exact HN.out⟩
end Go.Proofs.YteiacgpaocnofaaGreat
