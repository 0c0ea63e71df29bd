/- A run in memory: its program, its two sets; where a step leads to without a byte: the program's call. -/
import Derived.Test.YtmjnedafcfolgaaMs1
namespace Go.Proofs.Ytmjnedafcfolgaa
open Go.RowKit
/-- A program in memory. -/
def PrAt (w : World) (g cap : Nat) (m : List In) : Prop :=
  m.length ≤ cap ∧ cap ≤ 9223372036854775807 ∧ g < w.heap.size ∧ ∀ (j : Nat) (i : In), m[j]? = some i → ∀ q, q < 7 → w.cell? ⟨g, j * 7 + q, none⟩ = (ic i)[q]?
theorem cell_of_heap {w w' : World} {g : Nat} (h : w'.heap[g]? = w.heap[g]?) (j : Nat) : w'.cell? ⟨g, j, none⟩ = w.cell? ⟨g, j, none⟩ := by
  simp [World.cell?, h]
theorem PrAt.kp {w w' : World} {g cap : Nat} {m : List In} {S : List Nat} (h : PrAt w g cap m) (hk : Kp S w w') (hg : g ∉ S) : PrAt w' g cap m :=
  ⟨h.1, h.2.1, Nat.lt_of_lt_of_le h.2.2.1 hk.size, fun j i hj q hq => (cell_of_heap (hk.block g h.2.2.1 hg) _).trans (h.2.2.2 j i hj q hq)⟩
/-- No block is two things. -/
def Ap (r g : Nat) (x y : Sb) : Prop := (r ∉ x.all ∧ r ∉ y.all) ∧ (g ∉ x.all ∧ g ∉ y.all ∧ g ≠ r) ∧ ∀ z ∈ x.all, z ∉ y.all
/-- A run: in block r, its program's steps in block g, at place p of the text; the set of where ways stand, and the other one. -/
def RnAt (w : World) (r g cap : Nat) (s : ByteArray) (l : List In) (p : Nat) (x y : Sb) (L M : List Nat) : Prop :=
  w.heap[r]? = some (.cells #[.slice (some ⟨g, 0, none⟩) l.length cap, .string s, .int .i64 (p : Int), .pointer (some ⟨x.k, 0, none⟩), .pointer (some ⟨y.k, 0, none⟩)] 40 (0, 0)) ∧
  PrAt w g cap (plF 0 l) ∧ (SsAt w x l.length L ∧ SsAt w y l.length M) ∧ Ap r g x y ∧ s.size ≤ 256 ∧ p ≤ s.size
theorem RnAt.here {w w' : World} {r g cap : Nat} {s : ByteArray} {l : List In} {p : Nat} {x y : Sb} {L L' M : List Nat} (h : RnAt w r g cap s l p x y L M) (hk : Kp x.all w w') (hs : SsAt w' x l.length L') : RnAt w' r g cap s l p x y L' M := by
  obtain ⟨h1, h2, h3, h4, h5⟩ := h
  exact ⟨hk.heap h1 h4.1.1, h2.kp hk h4.2.1.1, ⟨hs, h3.2.kp hk (fun z hz h => h4.2.2 z h hz)⟩, h4, h5⟩
theorem RnAt.quiet {w w' : World} {r g cap : Nat} {s : ByteArray} {l : List In} {p : Nat} {x y : Sb} {L M : List Nat} (h : RnAt w r g cap s l p x y L M) (hk : Kp [] w w') : RnAt w' r g cap s l p x y L M := by
  obtain ⟨h1, h2, h3, h4, h5⟩ := h
  exact ⟨hk.heap h1 (by simp), h2.kp hk (by simp), ⟨h3.1.kp hk (by simp), h3.2.kp hk (by simp)⟩, h4, h5⟩
theorem Kp.nil {S : List Nat} {a b : World} (h : Kp [] a b) : Kp S a b := h.mono (by simp)
theorem pl_at {l : List In} {i : Nat} {z : In} (h : l[i]? = some z) : (plF 0 l)[i]? = some (plI i z) := by rw [plF_at, h, Option.map_some, Nat.zero_add]
theorem RnAt.reads {w : World} {r g cap : Nat} {s : ByteArray} {l : List In} {p : Nat} {x y : Sb} {L M : List Nat} (h : RnAt w r g cap s l p x y L M) : w.cell? ⟨r, 0, none⟩ = some (.slice (some ⟨g, 0, none⟩) l.length cap) ∧ w.cell? ⟨r, 1, none⟩ = some (.string s) ∧ w.cell? ⟨r, 2, none⟩ = some (.int .i64 (p : Int)) ∧ w.cell? ⟨r, 3, none⟩ = some (.pointer (some ⟨x.k, 0, none⟩)) ∧ w.cell? ⟨r, 4, none⟩ = some (.pointer (some ⟨y.k, 0, none⟩)) := by
  have h0 := (row_reads h.1).1
  exact ⟨h0 0, h0 1, h0 2, h0 3, h0 4⟩
/-- A step's cells. -/
theorem RnAt.inst {w : World} {r g cap : Nat} {s : ByteArray} {l : List In} {p : Nat} {x y : Sb} {L M : List Nat} (h : RnAt w r g cap s l p x y L M) {i : Nat} {z : In} (hi : l[i]? = some z) :
    w.cell? ⟨g, i * 7, none⟩ = some (.int .i64 (plI i z).k) ∧ w.cell? ⟨g, i * 7 + 1, none⟩ = some (.int .u64 ((plI i z).s 0 : Int)) ∧ w.cell? ⟨g, i * 7 + 2, none⟩ = some (.int .u64 ((plI i z).s 1 : Int)) ∧ w.cell? ⟨g, i * 7 + 3, none⟩ = some (.int .u64 ((plI i z).s 2 : Int)) ∧ w.cell? ⟨g, i * 7 + 4, none⟩ = some (.int .u64 ((plI i z).s 3 : Int)) ∧ w.cell? ⟨g, i * 7 + 5, none⟩ = some (.int .i64 (plI i z).x) ∧ w.cell? ⟨g, i * 7 + 6, none⟩ = some (.int .i64 (plI i z).y) := by
  have h0 := h.2.1.2.2.2 i _ (pl_at hi)
  exact ⟨h0 0 (by omega), h0 1 (by omega), h0 2 (by omega), h0 3 (by omega), h0 4 (by omega), h0 5 (by omega), h0 6 (by omega)⟩
theorem pl_ks (n : Nat) (z : In) : (plI n z).k = z.k ∧ (plI n z).s = z.s := by
  unfold plI
  split
  · exact ⟨rfl, rfl⟩
  split
  · exact ⟨rfl, rfl⟩
  · exact ⟨rfl, rfl⟩
theorem pl_split2 {n j1 j2 : Nat} {z : In} (hk : z.k = 2) (h1 : z.x + n = j1) (h2 : z.y + n = j2) (b1 : j1 ≤ 1000) (b2 : j2 ≤ 1000) : (plI n z).x = j1 ∧ (plI n z).y = j2 := by
  unfold plI
  rw [if_pos hk, h1, h2]
  simp only [wrap64]
  constructor <;> omega
theorem pl_jump2 {n j1 : Nat} {z : In} (hk : z.k = 3) (h1 : z.x + n = j1) (b1 : j1 ≤ 1000) : (plI n z).x = j1 := by
  unfold plI
  rw [if_neg (by omega), if_pos hk, h1]
  simp only [wrap64]
  omega
set_option maxRecDepth 100000 in
set_option maxHeartbeats 4000000 in
theorem follow_split {w : World} {r g cap : Nat} {s : ByteArray} {l st : List In} {p : Nat} {x y : Sb} {L M : List Nat} (hp : Pg l st) (h : RnAt w r g cap s l p x y L M) {i : Nat} {z : In} (hi : l[i]? = some z) (hk : z.k = 2) :
    Calls Try.prog 24 #[.pointer (some ⟨r, 0, none⟩), .int .i64 (i : Int)] w fun e w' => e = .returned (.tuple #[]) ∧ RnAt w' r g cap s l p x y (insAll L (eps l s.size p i)) M ∧ Kp x.all w w' := by
  obtain ⟨j1, j2, e1, e2, b1, b2⟩ := hp.split hi hk
  have hN := h.2.2.1.1.1.2.2
  obtain ⟨p1, p2⟩ := pl_split2 hk e1 e2 (by omega) (by omega)
  rw [eps_split hi hk e1 e2]
  have hlt := (List.getElem?_eq_some_iff.1 hi).1
  obtain ⟨r0, _, _, r3, _⟩ := h.reads
  obtain ⟨c0, c1, c2, c3, c4, c5, c6⟩ := h.inst hi
  rw [(pl_ks i z).1, hk] at c0
  rw [p1] at c5
  rw [p2] at c6
  have H := hide h
  have HB := hide (And.intro b1 b2)
  clear h e1 e2 p1 p2 b1 b2 hi hk hp hN
  generalize ((plI i z).s 0 : Int) = s0 at *
  generalize ((plI i z).s 1 : Int) = s1 at *
  generalize ((plI i z).s 2 : Int) = s2 at *
  generalize ((plI i z).s 3 : Int) = s3 at *
  obtain ⟨n, hn⟩ : ∃ n, l.length = n := ⟨_, rfl⟩
  rw [hn] at r0 hlt
  have HN := hide hn
  clear hn
  have k1 : Kp [] w (w.alloc (.cells #[.int .i64 2, .int .u64 s0, .int .u64 s1, .int .u64 s2, .int .u64 s3, .int .i64 (j1 : Int), .int .i64 (j2 : Int)] 49)) := (Kp.refl _ _).alloc _
  have q0 : (w.alloc (.cells #[.int .i64 2, .int .u64 s0, .int .u64 s1, .int .u64 s2, .int .u64 s3, .int .i64 (j1 : Int), .int .i64 (j2 : Int)] 49)).heap[w.heap.size]? = some (.cells #[.int .i64 2, .int .u64 s0, .int .u64 s1, .int .u64 s2, .int .u64 s3, .int .i64 (j1 : Int), .int .i64 (j2 : Int)] 49 (0, 0)) := heap_alloc_new _ _
  obtain ⟨w1, hw1⟩ : ∃ w1, w.alloc (.cells #[.int .i64 2, .int .u64 s0, .int .u64 s1, .int .u64 s2, .int .u64 s3, .int .i64 (j1 : Int), .int .i64 (j2 : Int)] 49) = w1 := ⟨_, rfl⟩
  obtain ⟨m, hm⟩ : ∃ m, w.heap.size = m := ⟨_, rfl⟩
  rw [hw1] at k1 q0
  rw [hm] at q0
  have H1 := hide (H.out.quiet k1)
  have QK := (row_reads q0).1 0
  have QX := (row_reads q0).1 5
  simp only [List.getElem?_toArray, List.getElem?_cons_zero, List.getElem?_cons_succ] at QX QK
  obtain ⟨_, t1, t2, t3, _⟩ := H1.out.reads
  have HM : Hid (∀ W : World, Kp x.all w1 W → W.heap[m]? = w1.heap[m]?) := hide (fun W hW => hW.block m (Array.getElem?_eq_some_iff.1 q0).1 (by have := H.out.2.2.1.1.lt; simp [Sb.all]; omega))
  have HQ := hide q0
  have HK := hide k1
  clear q0 k1
  go_enter Try.func24, Try.ntmps24
  go_wp2_with fail
  go_region_with (go_at_call 23; refine (sadd_any H1.out.2.2.1.1.drew HB.out.1).mono ?_; rintro e_ w2 ⟨rfl, h2, k2'⟩; have k2 := k2'.undrew; clear k2')
  all_goals (
    have H2 := hide (RnAt.here H1.out k2 h2)
    have QZ := (row_reads ((HM.out _ k2).trans HQ.out)).1 6
    simp only [List.getElem?_toArray, List.getElem?_cons_zero, List.getElem?_cons_succ] at QZ
    obtain ⟨_, _, _, u3, _⟩ := H2.out.reads
    have HK2 := hide k2
    clear h2 k2
    go_wp2_with fail
    go_region_with (go_at_call 23; refine (sadd_any H2.out.2.2.1.1.drew HB.out.2).mono ?_; rintro e_ w3 ⟨rfl, h3, k3'⟩; have k3 := k3'.undrew; clear k3')
    all_goals (
      have H3 := hide (And.intro (RnAt.here H2.out k3 h3) ((HK.out.nil (S := x.all)).trans (HK2.out.trans k3)))
      clear h3 k3
      go_wp2
      go_end0
      exact ⟨rfl, H3.out.1, H3.out.2⟩))
set_option maxRecDepth 100000 in
set_option maxHeartbeats 4000000 in
theorem follow_jump {w : World} {r g cap : Nat} {s : ByteArray} {l st : List In} {p : Nat} {x y : Sb} {L M : List Nat} (hp : Pg l st) (h : RnAt w r g cap s l p x y L M) {i : Nat} {z : In} (hi : l[i]? = some z) (hk : z.k = 3) :
    Calls Try.prog 24 #[.pointer (some ⟨r, 0, none⟩), .int .i64 (i : Int)] w fun e w' => e = .returned (.tuple #[]) ∧ RnAt w' r g cap s l p x y (insAll L (eps l s.size p i)) M ∧ Kp x.all w w' := by
  obtain ⟨j1, e1, b1⟩ := hp.jump hi hk
  have hN := h.2.2.1.1.1.2.2
  have p1 := pl_jump2 hk e1 (by omega)
  rw [eps_jump hi hk e1]
  have hlt := (List.getElem?_eq_some_iff.1 hi).1
  obtain ⟨r0, _, _, r3, _⟩ := h.reads
  obtain ⟨c0, c1, c2, c3, c4, c5, c6⟩ := h.inst hi
  rw [(pl_ks i z).1, hk] at c0
  rw [p1] at c5
  have H := hide h
  have HB := hide b1
  clear h e1 p1 b1 hi hk hp hN
  generalize ((plI i z).s 0 : Int) = s0 at *
  generalize ((plI i z).s 1 : Int) = s1 at *
  generalize ((plI i z).s 2 : Int) = s2 at *
  generalize ((plI i z).s 3 : Int) = s3 at *
  generalize (plI i z).y = s6 at *
  obtain ⟨n, hn⟩ : ∃ n, l.length = n := ⟨_, rfl⟩
  rw [hn] at r0 hlt
  have HN := hide hn
  clear hn
  have k1 : Kp [] w (w.alloc (.cells #[.int .i64 3, .int .u64 s0, .int .u64 s1, .int .u64 s2, .int .u64 s3, .int .i64 (j1 : Int), .int .i64 s6] 49)) := (Kp.refl _ _).alloc _
  have q0 : (w.alloc (.cells #[.int .i64 3, .int .u64 s0, .int .u64 s1, .int .u64 s2, .int .u64 s3, .int .i64 (j1 : Int), .int .i64 s6] 49)).heap[w.heap.size]? = some (.cells #[.int .i64 3, .int .u64 s0, .int .u64 s1, .int .u64 s2, .int .u64 s3, .int .i64 (j1 : Int), .int .i64 s6] 49 (0, 0)) := heap_alloc_new _ _
  obtain ⟨w1, hw1⟩ : ∃ w1, w.alloc (.cells #[.int .i64 3, .int .u64 s0, .int .u64 s1, .int .u64 s2, .int .u64 s3, .int .i64 (j1 : Int), .int .i64 s6] 49) = w1 := ⟨_, rfl⟩
  obtain ⟨m, hm⟩ : ∃ m, w.heap.size = m := ⟨_, rfl⟩
  rw [hw1] at k1 q0
  rw [hm] at q0
  have H1 := hide (H.out.quiet k1)
  have QK := (row_reads q0).1 0
  have QX := (row_reads q0).1 5
  simp only [List.getElem?_toArray, List.getElem?_cons_zero, List.getElem?_cons_succ] at QX QK
  obtain ⟨_, t1, t2, t3, _⟩ := H1.out.reads
  have HM : Hid (∀ W : World, Kp x.all w1 W → W.heap[m]? = w1.heap[m]?) := hide (fun W hW => hW.block m (Array.getElem?_eq_some_iff.1 q0).1 (by have := H.out.2.2.1.1.lt; simp [Sb.all]; omega))
  have HQ := hide q0
  have HK := hide k1
  clear q0 k1
  go_enter Try.func24, Try.ntmps24
  go_wp2_with fail
  go_region_with (go_at_call 23; refine (sadd_any H1.out.2.2.1.1.drew HB.out).mono ?_; rintro e_ w2 ⟨rfl, h2, k2'⟩; have k2 := k2'.undrew; clear k2')
  all_goals (
    have H3 := hide (And.intro (RnAt.here H1.out k2 h2) ((HK.out.nil (S := x.all)).trans k2))
    clear h2 k2
    go_wp2
    go_end0
    exact ⟨rfl, H3.out.1, H3.out.2⟩)
set_option maxRecDepth 100000 in
set_option maxHeartbeats 4000000 in
theorem follow_first {w : World} {r g cap : Nat} {s : ByteArray} {l st : List In} {p : Nat} {x y : Sb} {L M : List Nat} (hp : Pg l st) (h : RnAt w r g cap s l p x y L M) {i : Nat} {z : In} (hi : l[i]? = some z) (hk : z.k = 4) :
    Calls Try.prog 24 #[.pointer (some ⟨r, 0, none⟩), .int .i64 (i : Int)] w fun e w' => e = .returned (.tuple #[]) ∧ RnAt w' r g cap s l p x y (insAll L (eps l s.size p i)) M ∧ Kp x.all w w' := by
  have b1 := hp.next hi (by omega)
  have hN := h.2.2.1.1.1.2.2
  rw [eps_fst hi hk]
  have hlt := (List.getElem?_eq_some_iff.1 hi).1
  obtain ⟨r0, _, _, r3, _⟩ := h.reads
  obtain ⟨c0, c1, c2, c3, c4, c5, c6⟩ := h.inst hi
  rw [(pl_ks i z).1, hk] at c0
  have H := hide h
  have HB := hide b1
  have hi1 : i + 1 ≤ 1000 := by omega
  clear h b1 hi hk hp hN
  generalize ((plI i z).s 0 : Int) = s0 at *
  generalize ((plI i z).s 1 : Int) = s1 at *
  generalize ((plI i z).s 2 : Int) = s2 at *
  generalize ((plI i z).s 3 : Int) = s3 at *
  generalize (plI i z).x = s5 at *
  generalize (plI i z).y = s6 at *
  obtain ⟨n, hn⟩ : ∃ n, l.length = n := ⟨_, rfl⟩
  rw [hn] at r0 hlt
  have HN := hide hn
  clear hn
  have k1 : Kp [] w (w.alloc (.cells #[.int .i64 4, .int .u64 s0, .int .u64 s1, .int .u64 s2, .int .u64 s3, .int .i64 s5, .int .i64 s6] 49)) := (Kp.refl _ _).alloc _
  have q0 : (w.alloc (.cells #[.int .i64 4, .int .u64 s0, .int .u64 s1, .int .u64 s2, .int .u64 s3, .int .i64 s5, .int .i64 s6] 49)).heap[w.heap.size]? = some (.cells #[.int .i64 4, .int .u64 s0, .int .u64 s1, .int .u64 s2, .int .u64 s3, .int .i64 s5, .int .i64 s6] 49 (0, 0)) := heap_alloc_new _ _
  obtain ⟨w1, hw1⟩ : ∃ w1, w.alloc (.cells #[.int .i64 4, .int .u64 s0, .int .u64 s1, .int .u64 s2, .int .u64 s3, .int .i64 s5, .int .i64 s6] 49) = w1 := ⟨_, rfl⟩
  obtain ⟨m, hm⟩ : ∃ m, w.heap.size = m := ⟨_, rfl⟩
  rw [hw1] at k1 q0
  rw [hm] at q0
  have H1 := hide (H.out.quiet k1)
  have QK := (row_reads q0).1 0
  have QX := (row_reads q0).1 5
  simp only [List.getElem?_toArray, List.getElem?_cons_zero, List.getElem?_cons_succ] at QX QK
  obtain ⟨_, t1, t2, t3, _⟩ := H1.out.reads
  have HM : Hid (∀ W : World, Kp x.all w1 W → W.heap[m]? = w1.heap[m]?) := hide (fun W hW => hW.block m (Array.getElem?_eq_some_iff.1 q0).1 (by have := H.out.2.2.1.1.lt; simp [Sb.all]; omega))
  have HQ := hide q0
  have HK := hide k1
  clear q0 k1
  go_enter Try.func24, Try.ntmps24
  have hw : wrap64 ((i : Int) + 1) = ((i + 1 : Nat) : Int) := by simp only [wrap64]; omega
  by_cases hp0 : p = 0
  · subst hp0
    rw [if_pos rfl]
    go_wp2_with fail
    refine (sadd_any (i := i + 1) H1.out.2.2.1.1 HB.out).mono ?_
    rintro e_ w2 ⟨rfl, h2, k2⟩
    have H3 := hide (And.intro (RnAt.here H1.out k2 h2) ((HK.out.nil (S := x.all)).trans k2))
    clear h2 k2
    go_wp2
    go_end0
    exact ⟨rfl, H3.out.1, H3.out.2⟩
  · rw [if_neg hp0]
    have hd : ((p : Int) == 0) = false := beq_eq_false_iff_ne.2 (by omega)
    go_wp2
    go_end0
    exact ⟨rfl, H1.out, HK.out.nil⟩
set_option maxRecDepth 100000 in
set_option maxHeartbeats 4000000 in
theorem follow_last {w : World} {r g cap : Nat} {s : ByteArray} {l st : List In} {p : Nat} {x y : Sb} {L M : List Nat} (hp : Pg l st) (h : RnAt w r g cap s l p x y L M) {i : Nat} {z : In} (hi : l[i]? = some z) (hk : z.k = 5) :
    Calls Try.prog 24 #[.pointer (some ⟨r, 0, none⟩), .int .i64 (i : Int)] w fun e w' => e = .returned (.tuple #[]) ∧ RnAt w' r g cap s l p x y (insAll L (eps l s.size p i)) M ∧ Kp x.all w w' := by
  have b1 := hp.next hi (by omega)
  have hN := h.2.2.1.1.1.2.2
  rw [eps_lst hi hk]
  have hlt := (List.getElem?_eq_some_iff.1 hi).1
  obtain ⟨r0, _, _, r3, _⟩ := h.reads
  obtain ⟨c0, c1, c2, c3, c4, c5, c6⟩ := h.inst hi
  rw [(pl_ks i z).1, hk] at c0
  have H := hide h
  have HB := hide b1
  have hi1 : i + 1 ≤ 1000 := by omega
  clear h b1 hi hk hp hN
  generalize ((plI i z).s 0 : Int) = s0 at *
  generalize ((plI i z).s 1 : Int) = s1 at *
  generalize ((plI i z).s 2 : Int) = s2 at *
  generalize ((plI i z).s 3 : Int) = s3 at *
  generalize (plI i z).x = s5 at *
  generalize (plI i z).y = s6 at *
  obtain ⟨n, hn⟩ : ∃ n, l.length = n := ⟨_, rfl⟩
  rw [hn] at r0 hlt
  have HN := hide hn
  clear hn
  have k1 : Kp [] w (w.alloc (.cells #[.int .i64 5, .int .u64 s0, .int .u64 s1, .int .u64 s2, .int .u64 s3, .int .i64 s5, .int .i64 s6] 49)) := (Kp.refl _ _).alloc _
  have q0 : (w.alloc (.cells #[.int .i64 5, .int .u64 s0, .int .u64 s1, .int .u64 s2, .int .u64 s3, .int .i64 s5, .int .i64 s6] 49)).heap[w.heap.size]? = some (.cells #[.int .i64 5, .int .u64 s0, .int .u64 s1, .int .u64 s2, .int .u64 s3, .int .i64 s5, .int .i64 s6] 49 (0, 0)) := heap_alloc_new _ _
  obtain ⟨w1, hw1⟩ : ∃ w1, w.alloc (.cells #[.int .i64 5, .int .u64 s0, .int .u64 s1, .int .u64 s2, .int .u64 s3, .int .i64 s5, .int .i64 s6] 49) = w1 := ⟨_, rfl⟩
  obtain ⟨m, hm⟩ : ∃ m, w.heap.size = m := ⟨_, rfl⟩
  rw [hw1] at k1 q0
  rw [hm] at q0
  have H1 := hide (H.out.quiet k1)
  have QK := (row_reads q0).1 0
  have QX := (row_reads q0).1 5
  simp only [List.getElem?_toArray, List.getElem?_cons_zero, List.getElem?_cons_succ] at QX QK
  obtain ⟨_, t1, t2, t3, _⟩ := H1.out.reads
  have HM : Hid (∀ W : World, Kp x.all w1 W → W.heap[m]? = w1.heap[m]?) := hide (fun W hW => hW.block m (Array.getElem?_eq_some_iff.1 q0).1 (by have := H.out.2.2.1.1.lt; simp [Sb.all]; omega))
  have HQ := hide q0
  have HK := hide k1
  clear q0 k1
  go_enter Try.func24, Try.ntmps24
  have hw : wrap64 ((i : Int) + 1) = ((i + 1 : Nat) : Int) := by simp only [wrap64]; omega
  by_cases hp0 : p = s.size
  · have hd : ((p : Int) == (s.size : Int)) = true := beq_iff_eq.2 (by omega)
    rw [if_pos hp0]
    have HP0 := hide hp0
    clear hp0
    go_wp2_with fail
    go_quiet (fail)
    go_wp2_with fail
    refine (sadd_any (w := w1.drewN nq) (x := x) (N := l.length) (L := L) (i := i + 1) H1.out.2.2.1.1 HB.out).mono ?_
    rintro e_ w2 ⟨rfl, h2, k2'⟩
    have k2 := k2'.undrewN
    clear k2'
    have H3 := hide (And.intro (RnAt.here H1.out k2 h2) ((HK.out.nil (S := x.all)).trans k2))
    clear h2 k2
    go_wp2
    go_end0
    exact ⟨rfl, H3.out.1, H3.out.2⟩
  · rw [if_neg hp0]
    have hd : ((p : Int) == (s.size : Int)) = false := beq_eq_false_iff_ne.2 (by omega)
    go_wp2_with fail
    go_quiet (fail)
    go_wp2
    go_end0
    exact ⟨rfl, H1.out, HK.out.nil.drew nq⟩
set_option maxRecDepth 100000 in
set_option maxHeartbeats 4000000 in
theorem follow_none {w : World} {r g cap : Nat} {s : ByteArray} {l : List In} {p : Nat} {x y : Sb} {L M : List Nat} (h : RnAt w r g cap s l p x y L M) {i : Nat} {z : In} (hi : l[i]? = some z) (h2 : z.k ≠ 2) (h3 : z.k ≠ 3) (h4 : z.k ≠ 4) (h5 : z.k ≠ 5) :
    Calls Try.prog 24 #[.pointer (some ⟨r, 0, none⟩), .int .i64 (i : Int)] w fun e w' => e = .returned (.tuple #[]) ∧ RnAt w' r g cap s l p x y (insAll L (eps l s.size p i)) M ∧ Kp x.all w w' := by
  rw [eps_none hi h2 h3 h4 h5]
  have q2 : (z.k == (2 : Int)) = false := beq_eq_false_iff_ne.2 h2
  have q3 : (z.k == (3 : Int)) = false := beq_eq_false_iff_ne.2 h3
  have q4 : (z.k == (4 : Int)) = false := beq_eq_false_iff_ne.2 h4
  have q5 : (z.k == (5 : Int)) = false := beq_eq_false_iff_ne.2 h5
  have hlt := (List.getElem?_eq_some_iff.1 hi).1
  obtain ⟨r0, _, _, r3, _⟩ := h.reads
  obtain ⟨c0, c1, c2, c3, c4, c5, c6⟩ := h.inst hi
  rw [(pl_ks i z).1] at c0
  have H := hide h
  clear h hi h2 h3 h4 h5
  generalize ((plI i z).s 0 : Int) = s0 at *
  generalize ((plI i z).s 1 : Int) = s1 at *
  generalize ((plI i z).s 2 : Int) = s2 at *
  generalize ((plI i z).s 3 : Int) = s3 at *
  generalize (plI i z).x = s5 at *
  generalize (plI i z).y = s6 at *
  generalize z.k = s7 at *
  obtain ⟨n, hn⟩ : ∃ n, l.length = n := ⟨_, rfl⟩
  rw [hn] at r0 hlt
  have HN := hide hn
  clear hn
  have k1 : Kp [] w (w.alloc (.cells #[.int .i64 s7, .int .u64 s0, .int .u64 s1, .int .u64 s2, .int .u64 s3, .int .i64 s5, .int .i64 s6] 49)) := (Kp.refl _ _).alloc _
  have q0 : (w.alloc (.cells #[.int .i64 s7, .int .u64 s0, .int .u64 s1, .int .u64 s2, .int .u64 s3, .int .i64 s5, .int .i64 s6] 49)).heap[w.heap.size]? = some (.cells #[.int .i64 s7, .int .u64 s0, .int .u64 s1, .int .u64 s2, .int .u64 s3, .int .i64 s5, .int .i64 s6] 49 (0, 0)) := heap_alloc_new _ _
  obtain ⟨w1, hw1⟩ : ∃ w1, w.alloc (.cells #[.int .i64 s7, .int .u64 s0, .int .u64 s1, .int .u64 s2, .int .u64 s3, .int .i64 s5, .int .i64 s6] 49) = w1 := ⟨_, rfl⟩
  obtain ⟨m, hm⟩ : ∃ m, w.heap.size = m := ⟨_, rfl⟩
  rw [hw1] at k1 q0
  rw [hm] at q0
  have H1 := hide (H.out.quiet k1)
  have QK := (row_reads q0).1 0
  have QX := (row_reads q0).1 5
  simp only [List.getElem?_toArray, List.getElem?_cons_zero, List.getElem?_cons_succ] at QX QK
  obtain ⟨_, t1, t2, t3, _⟩ := H1.out.reads
  have HM : Hid (∀ W : World, Kp x.all w1 W → W.heap[m]? = w1.heap[m]?) := hide (fun W hW => hW.block m (Array.getElem?_eq_some_iff.1 q0).1 (by have := H.out.2.2.1.1.lt; simp [Sb.all]; omega))
  have HQ := hide q0
  have HK := hide k1
  clear q0 k1
  go_enter Try.func24, Try.ntmps24
  go_wp2
  go_end0
  exact ⟨rfl, H1.out, HK.out.nil⟩
theorem follow_any {w : World} {r g cap : Nat} {s : ByteArray} {l st : List In} {p : Nat} {x y : Sb} {L M : List Nat} (hp : Pg l st) (h : RnAt w r g cap s l p x y L M) {i : Nat} (hi : i < l.length) :
    Calls Try.prog 24 #[.pointer (some ⟨r, 0, none⟩), .int .i64 (i : Int)] w fun e w' => e = .returned (.tuple #[]) ∧ RnAt w' r g cap s l p x y (insAll L (eps l s.size p i)) M ∧ Kp x.all w w' := by
  have hx := List.getElem?_eq_getElem hi
  by_cases h2 : l[i].k = 2
  · exact follow_split hp h hx h2
  by_cases h3 : l[i].k = 3
  · exact follow_jump hp h hx h3
  by_cases h4 : l[i].k = 4
  · exact follow_first hp h hx h4
  by_cases h5 : l[i].k = 5
  · exact follow_last hp h hx h5
  · exact follow_none h hx h2 h3 h4 h5
end Go.Proofs.Ytmjnedafcfolgaa
