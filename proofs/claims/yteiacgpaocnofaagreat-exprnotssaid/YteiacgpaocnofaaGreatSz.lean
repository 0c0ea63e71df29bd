/- How much a term has within it: what the law's own count tells is a number between 0 and 100. -/
import Derived.Test.YteiacgpaocnofaaGreatRc
namespace Go.Proofs.YteiacgpaocnofaaGreat
open Go.RowKit
/-- A number of so much. -/
def Cnt (w : World) (e : Ending) (w' : World) : Prop := ∃ n : Int, e = .returned (.int .i64 n) ∧ (0 ≤ n ∧ n ≤ 100) ∧ Below w.heap.size w w'
def SzC (d : Nat) : Prop := ∀ (l : List Tm) (ao : Option Addr) (c : Nat) (n : Int) (w : World), LAt w l ao c → 0 ≤ n → n ≤ 100 → Calls Tryz.prog 56 #[.slice ao l.length c, .int .i64 n, .int .i64 (d : Int)] w (Cnt w)
set_option maxRecDepth 100000 in
set_option maxHeartbeats 4000000 in
theorem size_step {d : Nat} (hd : d < 100) (h0 : ∀ d', d = d' + 1 → SzC d') : SzC d := by
  intro l ao c n w h hn0 hn1
  have hm1 := h.1
  have hm2 := h.2.1
  have HL := hide h
  have HN := hide (And.intro hn0 hn1)
  clear h hn0 hn1
  go_enter Tryz.func56, Tryz.ntmps56
  go_wp2
  go_loopw [11, 1] (fun i s wr => ∃ (k : Nat) (m : Int), k ≤ l.length ∧ i = .int .i64 (k : Int) ∧ s = .int .i64 m ∧ 0 ≤ m ∧ m ≤ 100 ∧ Below w.heap.size w wr) (fun i _ _ => l.length - (intOf i).toNat)
  case atStart => exact ⟨0, n, Nat.zero_le _, rfl, rfl, HN.out.1, HN.out.2, Below.refl _ _⟩
  case round =>
    obtain ⟨k, m, hk, rfl, rfl, hm0, hm3, hB⟩ := hrel
    by_cases hlt : k < l.length
    · obtain ⟨x, hx⟩ : ∃ x, l[k]? = some x := ⟨_, List.getElem?_eq_getElem hlt⟩
      obtain ⟨b, o, hao, hbb, hcs⟩ := HL.out.read (by omega)
      subst hao
      obtain ⟨xa, xc, hxt, hc4⟩ := hcs k x hx
      obtain ⟨p0, p1, p2, p3⟩ := hc4 wr hB
      have hix := fun w_ => ix_terms w_ b o l.length c k hlt
      have b1 := alloc_below wr (.cells #[.int .i64 x.k, .int .i64 x.n, .string x.s, .slice xa x.l.length xc] 33)
      have bb := Below.chain hB b1
      have hfs := hxt.fits.2.2.1
      have HX := hide bb
      have HT := hide (hxt.ext bb).list
      obtain ⟨q, hq⟩ : ∃ q : Nat, x.s.size / 1000 = q := ⟨_, rfl⟩
      have hqd : (x.s.size : Int).tdiv 1000 = (q : Int) := by rw [← hq]; simp [Int.tdiv_eq_ediv_of_nonneg]
      have hqe : (x.s.size : Int) / 1000 = (q : Int) := by rw [← hq]; omega
      have hqb : q ≤ 9223372036854776 := by omega
      clear bb b1 hB hcs hc4 hxt hx hq
      generalize x.k = ak at *
      generalize x.n = an at *
      generalize x.s = aS at *
      generalize x.l = xl at *
      by_cases hlow : m + (1 + (q : Int)) < 100
      · have d1 : decide (m + (1 + (q : Int)) < 100) = true := decide_eq_true hlow
        have d2 : decide ((100 : Int) ≤ m + (1 + (q : Int))) = false := decide_eq_false (by omega)
        cases d with
        | zero =>
          by_cases hxl : 0 < xl.length
          · have d3 : decide ((0 : Int) < (xl.length : Int)) = true := decide_eq_true (by omega)
            clear hlow hqd
            go_wp2
            go_ret
            exact ⟨_, rfl, by decide, HX.out⟩
          · have d3 : decide ((0 : Int) < (xl.length : Int)) = false := decide_eq_false (by omega)
            have HM := hide (show 0 ≤ m + (1 + (q : Int)) ∧ m + (1 + (q : Int)) ≤ 100 by omega)
            clear hqd
            go_wp2
            go_roundw
            case rel => exact ⟨k + 1, _, by omega, by go_num, rfl, HM.out.1, HM.out.2, HX.out⟩
            case measure => simp [intOf]; omega
        | succ d =>
          have HC := hide (h0 d rfl xl xa xc (m + (1 + (q : Int))) _ HT.out (by omega) (by omega))
          have e1 : ((d + 1 : Nat) : Int) - 1 = (d : Int) := by omega
          have d4 : decide ((0 : Int) < ((d + 1 : Nat) : Int)) = true := decide_eq_true (by omega)
          have d5 : (((d + 1 : Nat) : Int) == 0) = false := by simp; omega
          have d6 : ((d + 1 : Nat) : Int) ≤ 100 := by omega
          have d7 : 0 ≤ ((d + 1 : Nat) : Int) := by omega
          have HDD := hide hd
          clear hqd hd
          generalize ((d + 1 : Nat) : Int) = D at *
          generalize (d : Int) = E at *
          clear d2
          go_wp2_with fail
          refine HC.out.mono ?_
          rintro e w2 ⟨r, rfl, ⟨hr0, hr1⟩, b2⟩
          have HY := hide (Below.chain HX.out b2)
          clear b2 HC HT HX d1 hlow
          by_cases hrr : r < 100
          · have d8 : decide ((100 : Int) ≤ r) = false := decide_eq_false (by omega)
            go_wp2
            go_roundw
            case rel => exact ⟨k + 1, r, by omega, by go_num, rfl, hr0, hr1, HY.out⟩
            case measure => simp [intOf]; omega
          · have d8 : decide ((100 : Int) ≤ r) = true := decide_eq_true (by omega)
            go_wp2
            go_ret
            exact ⟨_, rfl, by decide, HY.out⟩
      · have d1 : decide (m + (1 + (q : Int)) < 100) = false := decide_eq_false hlow
        have d2 : decide ((100 : Int) ≤ m + (1 + (q : Int))) = true := decide_eq_true (by omega)
        clear hqd
        go_wp2
        go_ret
        exact ⟨_, rfl, by decide, HX.out⟩
    · obtain rfl : k = l.length := by omega
      have HX := hide hB
      clear hB
      go_wp2
      go_ret
      exact ⟨m, rfl, ⟨hm0, hm3⟩, HX.out⟩
theorem size_any : ∀ d : Nat, d < 100 → SzC d := by
  intro d
  induction d with
  | zero => exact fun hd => size_step hd (fun d' e => by omega)
  | succ d ih => exact fun hd => size_step hd (fun d' e => by injection e with e; subst e; exact ih (by omega))
set_option maxRecDepth 100000 in
theorem Size_any {a : Tm} {a1 : Option Addr} {c1 : Nat} {w : World} (ha : TAt w a a1 c1) : Calls Tryz.prog 29 #[tv a a1 c1] w (Cnt w) := by
  have b1 := alloc_below w (.cells #[.int .i64 a.k, .int .i64 a.n, .string a.s, .slice a1 a.l.length c1] 33)
  have b2 := alloc_below (w.alloc (.cells #[.int .i64 a.k, .int .i64 a.n, .string a.s, .slice a1 a.l.length c1] 33)) (.cells #[.int .i64 a.k, .int .i64 a.n, .string a.s, .slice a1 a.l.length c1] 33)
  have hr := heap_alloc_last (w.alloc (.cells #[.int .i64 a.k, .int .i64 a.n, .string a.s, .slice a1 a.l.length c1] 33)) (.cells #[.int .i64 a.k, .int .i64 a.n, .string a.s, .slice a1 a.l.length c1] 33)
  rw [show (w.alloc (.cells #[.int .i64 a.k, .int .i64 a.n, .string a.s, .slice a1 a.l.length c1] 33)).heap.size = w.heap.size + 1 by simp] at hr
  have hL : LAt ((w.alloc (.cells #[.int .i64 a.k, .int .i64 a.n, .string a.s, .slice a1 a.l.length c1] 33)).alloc (.cells #[.int .i64 a.k, .int .i64 a.n, .string a.s, .slice a1 a.l.length c1] 33)) [a] (some ⟨w.heap.size + 1, 0, none⟩) 1 :=
    ⟨by simp, by decide, w.heap.size + 1, 0, fun _ => a1, fun _ => c1, fun _ => ⟨rfl, (Array.getElem?_eq_some_iff.1 hr).1⟩, fun i x hx => by
      cases i with
      | zero => simp at hx; subst hx; exact ⟨C4.of_row hr, ha.ext (Below.chain b1 b2)⟩
      | succ i => simp at hx⟩
  have HC := hide (size_any 6 (by decide) [a] _ _ 0 _ hL (by decide) (by decide))
  have HB := hide (Below.chain b1 b2)
  unfold tv
  clear hr hL b1 b2 ha
  simp only [List.length_cons, List.length_nil] at HC
  generalize a.k = ak at *
  generalize a.n = an at *
  generalize a.s = aS at *
  generalize a.l.length = al at *
  go_enter Tryz.func29, Tryz.ntmps29
  go_wp2_with fail
  refine HC.out.mono ?_
  rintro e w2 ⟨r, rfl, hr, b2⟩
  have HY := hide (Below.chain HB.out b2)
  clear b2 HC HB
  go_wp2
  go_ret
  exact ⟨r, rfl, hr, HY.out⟩
end Go.Proofs.YteiacgpaocnofaaGreat
