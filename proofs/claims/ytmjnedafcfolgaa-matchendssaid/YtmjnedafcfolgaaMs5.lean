/- The next byte read: the program's call. -/
import Derived.Test.YtmjnedafcfolgaaMs4
import Derived.Test.YtmjnedafcfolgaaMtx
namespace Go.Proofs.Ytmjnedafcfolgaa
open Go.RowKit
theorem RnAt.turn {w w' : World} {r g cap : Nat} {s : ByteArray} {l : List In} {p : Nat} {x y : Sb} {L M : List Nat} (h : RnAt w r g cap s l p x y L M) (hk : Kp [r] w w') (hp : p < s.size)
    (hr : w'.heap[r]? = some (.cells #[.slice (some ⟨g, 0, none⟩) l.length cap, .string s, .int .i64 ((p + 1 : Nat) : Int), .pointer (some ⟨y.k, 0, none⟩), .pointer (some ⟨x.k, 0, none⟩)] 40 (0, 0))) : RnAt w' r g cap s l (p + 1) y x M L := by
  obtain ⟨h1, h2, h3, ⟨a1, a2, a3⟩, h5, h6⟩ := h
  refine ⟨hr, h2.kp hk (by simp; exact a2.2.2), ⟨h3.2.kp hk (fun z hz e => by simp at e; subst e; exact a1.2 hz), h3.1.kp hk (fun z hz e => by simp at e; subst e; exact a1.1 hz)⟩, ⟨⟨a1.2, a1.1⟩, ⟨a2.2.1, a2.1, a2.2.2⟩, fun z hz e => a3 z e hz⟩, h5, hp⟩
/-- What is asked for a byte, so far. -/
def RdX (W w : World) (r g cap : Nat) (s : ByteArray) (l : List In) (p : Nat) (x y : Sb) (L : List Nat) (j : Nat) (L1 : List Nat) : Prop := RnAt w r g cap s l (p + 1) y x L1 L ∧ Asked l (bl s) p L j L1 ∧ Kp (r :: (x.all ++ y.all)) W w
set_option maxRecDepth 100000 in
set_option maxHeartbeats 2000000 in
theorem read_end {w : World} {r g cap : Nat} {s : ByteArray} {l : List In} {p : Nat} {x y : Sb} {L M : List Nat} (h : RnAt w r g cap s l p x y L M) (hp : p = s.size) :
    Calls Try.prog 12 #[.pointer (some ⟨r, 0, none⟩)] w fun e w' => e = .returned (.bool false) ∧ RnAt w' r g cap s l p x y L M ∧ Kp [] w w' := by
  have H := hide h
  obtain ⟨_, r1, r2, _, _⟩ := h.reads
  have hd : ((p : Int) == (s.size : Int)) = true := beq_iff_eq.2 (by omega)
  clear h hp
  go_enter Try.func12, Try.ntmps12
  go_wp2_with fail
  go_quiet (fail)
  have HF := hide (And.intro (H.out.quiet ((Kp.refl [] w).drew nq)) ((Kp.refl [] w).drew nq))
  generalize w.drewN nq = w2 at *
  go_wp2
  go_ret
  exact ⟨rfl, HF.out.1, HF.out.2⟩
set_option maxRecDepth 100000 in
set_option maxHeartbeats 4000000 in
theorem read_on {w : World} {r g cap : Nat} {s : ByteArray} {l st : List In} {p : Nat} {x y : Sb} {L M : List Nat} (hp : Pg l st) (hsm : Sm l) (h : RnAt w r g cap s l p x y L M) (hlt : p < s.size) :
    Calls Try.prog 12 #[.pointer (some ⟨r, 0, none⟩)] w fun e w' => e = .returned (.bool true) ∧ ∃ L', RnAt w' r g cap s l (p + 1) y x L' L ∧ Asked l (bl s) p L L.length L' ∧ Kp (r :: (x.all ++ y.all)) w w' := by
  have H := hide h
  have HP := hide (And.intro hp hsm)
  obtain ⟨r0, r1, r2, r3, r4⟩ := h.reads
  have hd : ((p : Int) == (s.size : Int)) = false := beq_eq_false_iff_ne.2 (by omega)
  have hix := str_ix s p hlt
  have HLT := hide hlt
  have hsz : s.size ≤ 256 := h.2.2.2.2.1
  have hp2 : p + 1 ≤ 256 := by omega
  have hcl := bt_lt s p
  have hcb : (bl s)[p]? = some (bt s p) := bl_at s p hlt
  have HC := hide (And.intro hcl hcb)
  generalize bt s p = c at *
  clear h hp hsm hlt hsz hcl hcb
  go_enter Try.func12, Try.ntmps12
  go_wp2_with fail
  go_quiet (fail)
  have H1 := hide (And.intro (H.out.quiet ((Kp.refl [] w).drew nq)) ((Kp.refl [] w).drew nq))
  generalize w.drewN nq = w1 at *
  obtain ⟨_, r1, r2, _, _⟩ := H1.out.1.reads
  clear nq
  go_wp2_with fail
  go_quiet (fail)
  have H2 := hide (And.intro (H1.out.1.quiet ((Kp.refl [] w1).drew nq)) (H1.out.2.drew nq))
  generalize w1.drewN nq = w2 at *
  clear nq H1 hix hd
  obtain ⟨_, _, r2, _, _⟩ := H2.out.1.reads
  have f2 := (row_reads H2.out.1.1).2 2
  have q3 : (w2.setCell ⟨r, 2, none⟩ (.int .i64 ((p : Int) + 1))).heap[r]? = some (.cells #[.slice (some ⟨g, 0, none⟩) l.length cap, .string s, .int .i64 ((p : Int) + 1), .pointer (some ⟨x.k, 0, none⟩), .pointer (some ⟨y.k, 0, none⟩)] 40 (0, 0)) := by
    rw [heap_setCell_same _ _ _ _ _ _ H2.out.1.1]
    rfl
  have k3 : Kp [r] w (w2.setCell ⟨r, 2, none⟩ (.int .i64 ((p : Int) + 1))) := (H2.out.2.nil).setCell (by simp) _
  obtain ⟨w3, hw3⟩ : ∃ w3, w2.setCell ⟨r, 2, none⟩ (.int .i64 ((p : Int) + 1)) = w3 := ⟨_, rfl⟩
  rw [hw3] at q3 k3
  have HQ := hide (And.intro q3 k3)
  have c3 := (row_reads q3).1 3
  have c4 := (row_reads q3).1 4
  have f3 := (row_reads q3).2 3
  have f4 := (row_reads q3).2 4
  simp only [List.getElem?_toArray, List.getElem?_cons_zero, List.getElem?_cons_succ] at c3 c4
  clear q3 k3
  go_wp2_with fail
  go_region
  have H4 : Hid (RnAt (((w3.setCell ⟨r, 3, none⟩ (.pointer (some ⟨y.k, 0, none⟩))).setCell ⟨r, 4, none⟩ (.pointer (some ⟨x.k, 0, none⟩))).drew) r g cap s l (p + 1) y x M L ∧ Kp [r] w (((w3.setCell ⟨r, 3, none⟩ (.pointer (some ⟨y.k, 0, none⟩))).setCell ⟨r, 4, none⟩ (.pointer (some ⟨x.k, 0, none⟩))).drew)) := by
    have e1 := heap_setCell_same w3 r 3 _ _ (.pointer (some ⟨y.k, 0, none⟩)) HQ.out.1
    have e2 := heap_setCell_same _ r 4 _ _ (.pointer (some ⟨x.k, 0, none⟩)) e1
    have k4 : Kp [r] w (((w3.setCell ⟨r, 3, none⟩ (.pointer (some ⟨y.k, 0, none⟩))).setCell ⟨r, 4, none⟩ (.pointer (some ⟨x.k, 0, none⟩))).drewN 1) := ((HQ.out.2.setCell (by simp) _).setCell (by simp) _).drew 1
    refine ⟨RnAt.turn H.out k4 HLT.out ?_, k4⟩
    exact e2
  generalize (((w3.setCell ⟨r, 3, none⟩ (.pointer (some ⟨y.k, 0, none⟩))).setCell ⟨r, 4, none⟩ (.pointer (some ⟨x.k, 0, none⟩))).drew) = w4 at *
  obtain ⟨_, _, _, t3, _⟩ := H4.out.1.reads
  clear c3 c4 f3 f4 f2 r0 r1 r2 r3 r4 hw3 HQ H2
  go_wp2_with fail
  refine (sclear_any H4.out.1.2.2.1.1).mono ?_
  rintro e_ w5 ⟨rfl, h5, k5⟩
  have H5 : Hid (RdX w w5 r g cap s l p x y L 0 []) := hide ⟨H4.out.1.here k5 h5, Asked.zero _ _ _ _, (H4.out.2.mono (by intro z hz; simp at hz; subst hz; simp)).trans (k5.mono (by intro z hz; simp [hz]))⟩
  obtain ⟨_, _, _, _, t5⟩ := H5.out.1.reads
  obtain ⟨u0, _, _, _, uL, uN⟩ := H5.out.1.2.2.1.2.reads
  clear h5 k5 t3 H4
  have hLn : L.length ≤ 1000 := by omega
  obtain ⟨n, hn⟩ : ∃ n, L.length = n := ⟨_, rfl⟩
  rw [hn] at u0 hLn
  have HN := hide hn
  clear hn uL uN
  go_wp2
  go_loopw [59] (fun s59 wr => ∃ (j : Nat) (L1 : List Nat), j ≤ n ∧ s59 = .int .i64 (j : Int) ∧ Hid (RdX w wr r g cap s l p x y L j L1)) (fun i _ => n - (intOf i).toNat)
  case atStart => exact ⟨0, [], Nat.zero_le _, rfl, H5⟩
  case round =>
    obtain ⟨j, L1, hj, rfl, HX⟩ := hrel
    clear H5 t5 u0
    by_cases hlt : j < n
    · have hd : decide ((j : Int) < (n : Int)) = true := decide_eq_true (by omega)
      obtain ⟨i, hi⟩ : ∃ i, L[j]? = some i := ⟨_, List.getElem?_eq_getElem (by have := HN.out; omega)⟩
      obtain ⟨t0, _, _, _, _⟩ := HX.out.1.reads
      obtain ⟨_, _, u2, _, _, uN⟩ := HX.out.1.2.2.1.2.reads
      have v1 := u2 j i hi
      have hil : i < l.length := HX.out.1.2.2.1.2.1.1.2 i (List.mem_of_getElem? hi)
      obtain ⟨z, hz⟩ : ∃ z, l[i]? = some z := ⟨_, List.getElem?_eq_getElem hil⟩
      obtain ⟨c0, c1, c2, c3, c4, c5, c6⟩ := HX.out.1.inst hz
      have hsz : ∀ q, (plI i z).s q < 18446744073709551616 := by rw [(pl_ks i z).2]; exact HP.out.2 z (List.mem_of_getElem? hz)
      have HT := hide (takes_any (w := wr) (plI i z) c HC.out.1 hsz)
      have htk : tkB (plI i z) c = tkB z c := by unfold tkB; rw [(pl_ks i z).1, (pl_ks i z).2]
      rw [htk] at HT
      have HZ := hide (And.intro hi (And.intro hz hil))
      have hi1 : i + 1 ≤ 1000 := by omega
      have hj1 : j + 1 ≤ 1000 := by omega
      unfold iv at HT
      clear u2 hi hz hsz htk uN
      obtain ⟨N, hN⟩ : ∃ N, l.length = N := ⟨_, rfl⟩
      rw [hN] at t0 hil
      have HN2 := hide hN
      clear hN
      generalize (plI i z).k = s6 at *
      generalize ((plI i z).s 0 : Int) = s0 at *
      generalize ((plI i z).s 1 : Int) = s1 at *
      generalize ((plI i z).s 2 : Int) = s2 at *
      generalize ((plI i z).s 3 : Int) = s3 at *
      generalize (plI i z).x = s4 at *
      generalize (plI i z).y = s5 at *
      go_wp2_with fail
      refine HT.out.mono ?_
      rintro e_ w6 ⟨rfl, b6⟩
      have H6 : Hid (RdX w w6 r g cap s l p x y L j L1) := hide ⟨HX.out.1.quiet (Kp.of_below b6), HX.out.2.1, HX.out.2.2.trans (Kp.of_below b6)⟩
      clear b6 HT c0 c1 c2 c3 c4 c5 c6 v1 t0
      cases htb : tkB z c with
      | false =>
        have H7 : Hid (RdX w w6 r g cap s l p x y L (j + 1) L1) := hide ⟨H6.out.1, H6.out.2.1.skip HZ.out.1 (fun e => by rw [(tkB_iff HZ.out.2.1 HC.out.2).2 e] at htb; cases htb), H6.out.2.2⟩
        clear htb
        go_wp2
        go_roundw
        case rel => exact ⟨j + 1, L1, by omega, by go_num, H7⟩
        case measure => simp [intOf]; omega
      | true =>
        have HTk := hide ((tkB_iff HZ.out.2.1 HC.out.2).1 htb)
        have hk1 : z.k ≠ 6 := by
          unfold tkB at htb
          simp at htb
          omega
        have HNx := hide (HP.out.1.next HZ.out.2.1 hk1)
        clear htb hk1
        go_wp2_with fail
        refine (reach_any (k := i + 1) HP.out.1 H6.out.1 (by have := H6.out.2.1.1; rw [bl_len] at this; exact this) HNx.out).mono ?_
        rintro e_ w7 ⟨rfl, L2, h7, e7, k7⟩
        have H7 : Hid (RdX w w7 r g cap s l p x y L (j + 1) L2) := hide ⟨h7, H6.out.2.1.take HZ.out.1 HTk.out (by rw [bl_len]; exact e7), H6.out.2.2.trans (k7.mono (by intro q hq; simp [hq]))⟩
        clear h7 e7 k7
        go_wp2
        go_roundw
        case rel => exact ⟨j + 1, L2, by omega, by go_num, H7⟩
        case measure => simp [intOf]; omega
    · obtain rfl : j = n := by omega
      have HF := hide (And.intro HX.out.1 (And.intro (show Asked l (bl s) p L L.length L1 by rw [HN.out]; exact HX.out.2.1) HX.out.2.2))
      go_wp2
      go_ret
      exact ⟨rfl, L1, HF.out.1, HF.out.2.1, HF.out.2.2⟩
end Go.Proofs.Ytmjnedafcfolgaa
