/- Numbers' operations as the laws need them; how much terms have within them; the law's text that each program must find. -/
import Derived.Test.YtlfhppicglfinaaGreatOf
namespace Go.Proofs.YtlfhppicglfinaaGreat
open Go.RowKit
abbrev nvv (z : Int) : Value := .agg #[.int .i64 2, .int .i64 z, .string ⟨#[]⟩, .slice none 0 0]
abbrev zvv : Value := .agg #[.int .i64 0, .int .i64 0, .string ⟨#[]⟩, .slice none 0 0]
/-- An answer of a number: it, or that it goes round. -/
abbrev numA (z : Int) : Value := .tuple #[tv (numR z) none 0, .int .i64 (numE z)]
theorem numA_in {z : Int} (h : inB z) : numA z = .tuple #[nvv z, .int .i64 0] := by
  unfold numA
  rw [show numR z = numT z from if_pos h, show numE z = 0 from if_pos h]
  rfl
theorem numA_out {z : Int} (h : ¬ inB z) : numA z = .tuple #[zvv, .int .i64 5] := by
  unfold numA
  rw [show numR z = zt from if_neg h, show numE z = 5 from if_neg h]
  rfl
set_option maxRecDepth 100000 in
theorem n7 {x y : Int} (hx : inB x) (hy : inB y) : Says 12 #[.int .i64 7, nvv x, nvv y] (numA (x + y)) := by
  intro w
  show Calls Tryz.prog 12 #[.int .i64 7, tv (numT x) none 0, tv (numT y) none 0] w (OpF (numR (x + y)) (numE (x + y)) w)
  exact bin7F (a := numT x) (b := numT y) (a1 := none) (c1 := 0) (a2 := none) (c2 := 0) (w := w) (r := (numR (x + y))) (E := (numE (x + y))) (numR_fl _) ((numT_fl hx).at w) ((numT_fl hy).at w) (fix_num x) (fix_num y) rfl (fun W _ _ _ => add_num 2 x ⟨#[]⟩ none 0 0 2 y ⟨#[]⟩ none 0 0 hx hy (by decide) W)
set_option maxRecDepth 100000 in
theorem n8 {x y : Int} (hx : inB x) (hy : inB y) : Says 12 #[.int .i64 8, nvv x, nvv y] (numA (x - y)) := by
  intro w
  show Calls Tryz.prog 12 #[.int .i64 8, tv (numT x) none 0, tv (numT y) none 0] w (OpF (numR (x - y)) (numE (x - y)) w)
  exact bin8F (a := numT x) (b := numT y) (a1 := none) (c1 := 0) (a2 := none) (c2 := 0) (w := w) (r := (numR (x - y))) (E := (numE (x - y))) (numR_fl _) ((numT_fl hx).at w) ((numT_fl hy).at w) (fix_num x) (fix_num y) rfl (fun W _ _ _ => subtract_any 2 x ⟨#[]⟩ none 0 0 2 y ⟨#[]⟩ none 0 0 hx hy W)
set_option maxRecDepth 100000 in
theorem n9 {x y : Int} (hx : inB x) (hy : inB y) : Says 12 #[.int .i64 9, nvv x, nvv y] (numA (x * y)) := by
  intro w
  show Calls Tryz.prog 12 #[.int .i64 9, tv (numT x) none 0, tv (numT y) none 0] w (OpF (numR (x * y)) (numE (x * y)) w)
  exact bin9F (a := numT x) (b := numT y) (a1 := none) (c1 := 0) (a2 := none) (c2 := 0) (w := w) (r := (numR (x * y))) (E := (numE (x * y))) (numR_fl _) ((numT_fl hx).at w) ((numT_fl hy).at w) (fix_num x) (fix_num y) rfl (fun W _ _ _ => multiply_any 2 x ⟨#[]⟩ none 0 0 2 y ⟨#[]⟩ none 0 0 hx hy W)
set_option maxRecDepth 100000 in
theorem n10 {x y : Int} (hx : inB x) (hy : inB y) (h0 : y ≠ 0) : Says 12 #[.int .i64 10, nvv x, nvv y] (numA (Int.tdiv x y)) := by
  intro w
  show Calls Tryz.prog 12 #[.int .i64 10, tv (numT x) none 0, tv (numT y) none 0] w (OpF (numR (Int.tdiv x y)) (numE (Int.tdiv x y)) w)
  exact bin10F (a := numT x) (b := numT y) (a1 := none) (c1 := 0) (a2 := none) (c2 := 0) (w := w) (r := (numR (Int.tdiv x y))) (E := (numE (Int.tdiv x y))) (numR_fl _) ((numT_fl hx).at w) ((numT_fl hy).at w) (fix_num x) (fix_num y) rfl (fun W _ _ _ => divide_any 2 x ⟨#[]⟩ none 0 0 2 y ⟨#[]⟩ none 0 0 hx hy h0 W)
set_option maxRecDepth 100000 in
theorem n17 {x y : Int} (hx : inB x) (hy : inB y) : Says 12 #[.int .i64 17, nvv x, nvv y] (.tuple #[nvv (bits .and .i64 x y), .int .i64 0]) := by
  intro w
  show Calls Tryz.prog 12 #[.int .i64 17, tv (numT x) none 0, tv (numT y) none 0] w (OpF (numT (bits .and .i64 x y)) 0 w)
  exact bin17F (a := numT x) (b := numT y) (a1 := none) (c1 := 0) (a2 := none) (c2 := 0) (w := w) (r := (numT (bits .and .i64 x y))) (E := 0) (numT_fl (bits_in _ _ _)) ((numT_fl hx).at w) ((numT_fl hy).at w) (fix_num x) (fix_num y) rfl (fun W _ _ _ => andBits_any 2 x ⟨#[]⟩ none 0 0 2 y ⟨#[]⟩ none 0 0 W)
set_option maxRecDepth 100000 in
theorem n18 {x y : Int} (hx : inB x) (hy : inB y) : Says 12 #[.int .i64 18, nvv x, nvv y] (.tuple #[nvv (bits .or .i64 x y), .int .i64 0]) := by
  intro w
  show Calls Tryz.prog 12 #[.int .i64 18, tv (numT x) none 0, tv (numT y) none 0] w (OpF (numT (bits .or .i64 x y)) 0 w)
  exact bin18F (a := numT x) (b := numT y) (a1 := none) (c1 := 0) (a2 := none) (c2 := 0) (w := w) (r := (numT (bits .or .i64 x y))) (E := 0) (numT_fl (bits_in _ _ _)) ((numT_fl hx).at w) ((numT_fl hy).at w) (fix_num x) (fix_num y) rfl (fun W _ _ _ => orBits_any 2 x ⟨#[]⟩ none 0 0 2 y ⟨#[]⟩ none 0 0 W)
set_option maxRecDepth 100000 in
theorem n19 {x y : Int} (hx : inB x) (hy : inB y) : Says 12 #[.int .i64 19, nvv x, nvv y] (.tuple #[nvv (bits .xor .i64 x y), .int .i64 0]) := by
  intro w
  show Calls Tryz.prog 12 #[.int .i64 19, tv (numT x) none 0, tv (numT y) none 0] w (OpF (numT (bits .xor .i64 x y)) 0 w)
  exact bin19F (a := numT x) (b := numT y) (a1 := none) (c1 := 0) (a2 := none) (c2 := 0) (w := w) (r := (numT (bits .xor .i64 x y))) (E := 0) (numT_fl (bits_in _ _ _)) ((numT_fl hx).at w) ((numT_fl hy).at w) (fix_num x) (fix_num y) rfl (fun W _ _ _ => xorBits_any 2 x ⟨#[]⟩ none 0 0 2 y ⟨#[]⟩ none 0 0 W)
set_option maxRecDepth 100000 in
theorem n10_zero {x : Int} (hx : inB x) : Says 12 #[.int .i64 10, nvv x, nvv 0] (.tuple #[zvv, .int .i64 6]) := by
  intro w
  show Calls Tryz.prog 12 #[.int .i64 10, tv (numT x) none 0, tv (numT 0) none 0] w (OpF zt 6 w)
  exact bin10F (a := numT x) (b := numT 0) (a1 := none) (c1 := 0) (a2 := none) (c2 := 0) (w := w) (r := zt) (E := 6) zt_fl ((numT_fl hx).at w) ((numT_fl (z := 0) (by decide)).at w) (fix_num x) (fix_num 0) rfl (fun W _ _ _ => divide_zero 2 x ⟨#[]⟩ none 0 0 2 ⟨#[]⟩ none 0 0 W)
set_option maxRecDepth 100000 in
set_option maxHeartbeats 2000000 in
theorem awake_any : Says 10 #[] (.bool true) := by
  intro w
  have H1 : Hid (Says 12 #[.int .i64 10, nvv (-7), nvv 2] (.tuple #[nvv (-3), .int .i64 0])) := hide (by
    have h := n10 (x := -7) (y := 2) (by decide) (by decide) (by decide)
    rw [show Int.tdiv (-7) 2 = -3 by decide, numA_in (by decide)] at h
    exact h)
  have H2 := hide (n10_zero (x := -3) (by decide))
  go_enter Tryz.func10, Tryz.ntmps10
  go_wp2_with fail
  refine (H1.out _).mono ?_
  rintro e_ w1 ⟨rfl, b1⟩
  have B1 := hide (Below.chain b1 (alloc_below _ (.cells #[.int .i64 2, .int .i64 (-3), .string ⟨#[]⟩, .slice none 0 0] 24)))
  have b1' := hide b1
  clear b1
  go_wp2_with fail
  refine (H2.out _).mono ?_
  rintro e_ w2 ⟨rfl, b2⟩
  have bA := alloc_below w2 (.cells #[.int .i64 0, .int .i64 0, .string ⟨#[]⟩, .slice none 0 0] 24)
  have R2 := Below.heap (Below.chain b2 bA) (by simp) (heap_alloc_last w1 (.cells #[.int .i64 2, .int .i64 (-3), .string ⟨#[]⟩, .slice none 0 0] 24))
  obtain ⟨z0, _⟩ := row_reads R2
  have q0 := z0 0
  have q1 := z0 1
  simp only [List.getElem?_toArray, List.getElem?_cons_zero, List.getElem?_cons_succ] at q0 q1
  have B2 := hide (Below.chain B1.out (Below.chain b2 bA))
  clear b2 bA R2 z0 b1'
  go_wp2
  go_ret
  exact ⟨rfl, B2.out⟩
/-- A truth, whichever. -/
def TellsB (w : World) (e : Ending) (w' : World) : Prop := ∃ v : Bool, e = .returned (.bool v) ∧ Below w.heap.size w w'
set_option maxRecDepth 100000 in
set_option maxHeartbeats 4000000 in
theorem light_any {l : List Tm} {ao : Option Addr} {c : Nat} {w : World} (h : LAt w l ao c) : Calls Tryz.prog 9 #[.slice ao l.length c] w (TellsB w) := by
  have hm1 := h.1
  have hm2 := h.2.1
  have HL := hide h
  clear h
  go_enter Tryz.func9, Tryz.ntmps9
  go_wp2
  go_loopw [7] (fun i wr => ∃ k : Nat, k ≤ l.length ∧ i = .int .i64 (k : Int) ∧ Below w.heap.size w wr) (fun i _ => l.length - (intOf i).toNat)
  case atStart => exact ⟨0, Nat.zero_le _, rfl, Below.refl _ _⟩
  case round =>
    obtain ⟨k, hk, rfl, hB⟩ := hrel
    by_cases hlt : k < l.length
    · obtain ⟨x, hx⟩ : ∃ x, l[k]? = some x := ⟨_, List.getElem?_eq_getElem hlt⟩
      obtain ⟨g, o, hao, hbb, hcs⟩ := HL.out.read (by omega)
      subst hao
      obtain ⟨xa, xc, hxt, hc4⟩ := hcs k x hx
      obtain ⟨p0, p1, p2, p3⟩ := hc4 wr hB
      have hix := fun w_ => ix_terms w_ g o l.length c k hlt
      have bA := alloc_below wr (.cells #[.int .i64 x.k, .int .i64 x.n, .string x.s, .slice xa x.l.length xc] 24)
      have bb := Below.chain hB bA
      have HC := hide (Size_any (hxt.ext bb))
      unfold tv at HC
      have HX := hide bb
      clear hB hcs hc4 hxt hx bA bb
      generalize x.k = ak at *
      generalize x.n = an at *
      generalize x.s = aS at *
      generalize x.l.length = al at *
      go_wp2_with fail
      refine HC.out.mono ?_
      rintro e w2 ⟨n, rfl, hn, b2⟩
      have HY := hide (Below.chain HX.out b2)
      clear b2 HC HX
      by_cases h100 : 100 ≤ n
      · have d1 : decide ((100 : Int) ≤ n) = true := decide_eq_true h100
        clear h100 hn
        go_wp2
        go_ret
        exact ⟨_, rfl, HY.out⟩
      · have d1 : decide ((100 : Int) ≤ n) = false := decide_eq_false h100
        clear h100 hn
        go_wp2
        go_roundw
        case rel => exact ⟨k + 1, by omega, by go_num, HY.out⟩
        case measure => simp [intOf]; omega
    · obtain rfl : k = l.length := by omega
      have HY := hide hB
      clear hB
      go_wp2
      go_ret
      exact ⟨_, rfl, HY.out⟩
/-- Two terms in a row of one's own. -/
theorem pair_at {a b : Tm} {a1 : Option Addr} {c1 : Nat} {a2 : Option Addr} {c2 : Nat} {w : World} (ha : TAt w a a1 c1) (hb : TAt w b a2 c2) : LAt (w.alloc (.cells (s8 a.k a.n a.s a1 a.l.length c1 b.k b.n b.s a2 b.l.length c2) 24)) [a, b] (some ⟨w.heap.size, 0, none⟩) 2 := by
  have hr := heap_alloc_last w (.cells (s8 a.k a.n a.s a1 a.l.length c1 b.k b.n b.s a2 b.l.length c2) 24)
  have bA := alloc_below w (.cells (s8 a.k a.n a.s a1 a.l.length c1 b.k b.n b.s a2 b.l.length c2) 24)
  obtain ⟨z0, _⟩ := row_reads hr
  refine ⟨by simp, by decide, w.heap.size, 0, fun i => if i = 0 then a1 else a2, fun i => if i = 0 then c1 else c2, fun _ => ⟨rfl, (Array.getElem?_eq_some_iff.1 hr).1⟩, fun i x hx => ?_⟩
  match i, hx with
  | 0, hx =>
    obtain rfl : a = x := by simpa using hx
    exact ⟨⟨z0 0, z0 1, z0 2, z0 3⟩, ha.ext bA⟩
  | 1, hx =>
    obtain rfl : b = x := by simpa using hx
    exact ⟨⟨z0 4, z0 5, z0 6, z0 7⟩, hb.ext bA⟩
  | i + 2, hx => simp at hx
end Go.Proofs.YtlfhppicglfinaaGreat
