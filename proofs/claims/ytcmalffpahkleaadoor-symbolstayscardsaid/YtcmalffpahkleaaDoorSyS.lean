/- The law SymbolStays: numbers and texts undo one another, and a number stays what it was. -/
import Derived.Test.YtcmalffpahkleaaDoorSy9
namespace Go.Proofs.YtcmalffpahkleaaDoor
open Go.RowKit
theorem num_known {l : List ByteArray} {s : ByteArray} {n : Nat} (h : fnd l s = some n) : numF l s = ((n : Int), true, l) := by unfold numF; rw [h]
theorem fnd_own {l : List ByteArray} (h : Own l) {k : Nat} {x : ByteArray} (hx : l[k]? = some x) : fnd l x = some (1024 + k) := by
  unfold fnd
  rw [place_none.2 (h.new x (List.mem_iff_getElem?.2 ⟨k, hx⟩)), place_nodup h.once hx]
  rfl
theorem num_nil {s : ByteArray} (hs : s.size ≤ 256) : ∃ n : Nat, (numF [] s).1 = (n : Int) ∧ (numF [] s).2.1 = true ∧ fnd (numF [] s).2.2 s = some n ∧ (numF [] s).2.2.length ≤ 1 := by
  have e : (numF [] s).2.1 = true := by
    unfold numF
    cases fnd [] s with
    | some n => rfl
    | none => simp only; rw [if_neg (by simp; omega)]
  obtain ⟨n, h1, h2⟩ := num_fnd e
  refine ⟨n, h1, e, h2, ?_⟩
  unfold numF
  cases fnd [] s with
  | some n => simp
  | none => simp only; split <;> simp
theorem add_getD (l a : List ByteArray) : ∃ r, (addF l a).getD l = l ++ r := by
  cases h : addF l a with
  | none => exact ⟨[], by simp⟩
  | some l' => exact ⟨a, by rw [add_app h]; rfl⟩
/-- What the law's loop keeps: two tables, and the number of a text. -/
structure StSt (w W wr : World) (S : List Nat) (g gc : Nat) (vc : Value) (mc : Option Nat) (l1 lk : List ByteArray) (s : ByteArray) (n : Nat) : Prop where
  kn : KnAt w
  wW : Below w.heap.size w W
  s0 : 0 ∉ S ∧ ∀ x ∈ S, w.heap.size ≤ x
  mn : Mn S W wr g lk
  tc : TbAt W gc vc mc l1 ∧ ∀ x ∈ bls gc vc mc, x ∉ S
  few : l1.length ≤ 1
  fn : fnd lk s = some n
theorem StSt.below {w W wr : World} {S : List Nat} {g gc : Nat} {vc : Value} {mc : Option Nat} {l1 lk : List ByteArray} {s : ByteArray} {n : Nat} (h : StSt w W wr S g gc vc mc l1 lk s n) : Below w.heap.size w wr :=
  h.wW.trans (h.mn.kp.below h.wW.size h.s0.2)
theorem StSt.step {w W wr w' : World} {S : List Nat} {g gc : Nat} {vc : Value} {mc : Option Nat} {l1 lk lk2 : List ByteArray} {s : ByteArray} {n : Nat} (h : StSt w W wr S g gc vc mc l1 lk s n) (hm : Mn S W w' g lk2) (hr : ∃ r, lk2 = lk ++ r) : StSt w W w' S g gc vc mc l1 lk2 s n := by
  obtain ⟨r, rfl⟩ := hr
  exact ⟨h.kn, h.wW, h.s0, hm, h.tc, h.few, fnd_app r h.fn⟩
theorem StSt.ext {w W wr w' : World} {S : List Nat} {g gc : Nat} {vc : Value} {mc : Option Nat} {l1 lk : List ByteArray} {s : ByteArray} {n : Nat} (h : StSt w W wr S g gc vc mc l1 lk s n) (b : Below wr.heap.size wr w') : StSt w W w' S g gc vc mc l1 lk s n := h.step (h.mn.ext b) ⟨[], by simp⟩
theorem StSt.lt {w W wr : World} {S : List Nat} {g gc : Nat} {vc : Value} {mc : Option Nat} {l1 lk : List ByteArray} {s : ByteArray} {n : Nat} (h : StSt w W wr S g gc vc mc l1 lk s n) : n < 2100 := by
  have h1 := (h.mn.own.known h.fn).2
  have h2 := h.mn.own.few
  omega
/-- A call's variable stays. -/
def KpC (w w' : World) : Prop := ∀ (b : Nat) (cs : Array Value), w.heap[b]? = some (.cells cs 32 (0, 0)) → w'.heap[b]? = some (.cells cs 32 (0, 0))
theorem tb_call {w : World} {g b : Nat} {v : Value} {mv : Option Nat} {l : List ByteArray} {cs : Array Value} (h : TbAt w g v mv l) (hb : w.heap[b]? = some (.cells cs 32 (0, 0))) : b ∉ bls g v mv := by
  intro hm
  rcases mem_bls.1 hm with rfl | hx | hx
  · rw [h.hd] at hb
    injection hb with hb; injection hb with _ hb _; exact absurd hb (by decide)
  · obtain ⟨cs', hc⟩ := row_heap h.row hx
    rw [hc] at hb
    injection hb with hb; injection hb with _ hb _; exact absurd hb (by decide)
  · obtain ⟨_, es, c, hc⟩ := h.mp.lt b hx
    rw [hc] at hb
    injection hb with hb; cases hb
theorem StSt.number {w W wr : World} {S : List Nat} {g gc : Nat} {vc : Value} {mc : Option Nat} {l1 lk : List ByteArray} {s : ByteArray} {n : Nat} (h : StSt w W wr S g gc vc mc l1 lk s n) (t : ByteArray) : Calls Tryd.prog 16 #[.pointer (some ⟨g, 0, none⟩), .string t] wr fun e w' => e = .returned (numV lk t) ∧ StSt w W w' S g gc vc mc l1 (numF lk t).2.2 s n ∧ KpC wr w' := by
  obtain ⟨v, mv, h1, h2, h3⟩ := h.mn
  refine (Number_any t ((h.kn.ext h.wW).kp h2 h.s0.1) h1).mono ?_
  rintro e w' ⟨rfl, hN⟩
  refine ⟨rfl, h.step (Mn.new h2 h3 hN) (num_app lk t), fun b cs hb => ?_⟩
  obtain ⟨_, _, _, k, _⟩ := hN
  exact k.heap hb (tb_call h1 hb)
theorem StSt.add {w W wr : World} {S : List Nat} {g gc : Nat} {vc : Value} {mc : Option Nat} {l1 lk : List ByteArray} {s : ByteArray} {n : Nat} (h : StSt w W wr S g gc vc mc l1 lk s n) {a : List ByteArray} {ao : Option Addr} {c : Nat} (hA : NAt wr a ao c) : Calls Tryd.prog 12 #[.pointer (some ⟨g, 0, none⟩), .slice ao a.length c] wr fun e w' => (∃ b : Bool, e = .returned (.bool b)) ∧ StSt w W w' S g gc vc mc l1 ((addF lk a).getD lk) s n := by
  refine (Add_mn (h.kn.ext h.wW) h.s0.1 h.mn hA).mono ?_
  rintro e w' ⟨rfl, hm⟩
  exact ⟨⟨_, rfl⟩, h.step hm (add_getD lk a)⟩
theorem StSt.text {w W wr : World} {S : List Nat} {g gc : Nat} {vc : Value} {mc : Option Nat} {l1 lk : List ByteArray} {s : ByteArray} {n : Nat} (h : StSt w W wr S g gc vc mc l1 lk s n) {t : ByteArray} {k : Nat} (hk : fnd lk t = some k) : Calls Tryd.prog 10 #[.pointer (some ⟨g, 0, none⟩), .int .i64 (k : Int)] wr fun e w' => e = .returned (.tuple #[.string t, .bool true]) ∧ w' = wr := by
  have h1 := (h.mn.own.known hk).2
  have h2 := h.mn.own.few
  have hT := Text_mn (n := (k : Int)) (by omega) (h.kn.ext h.wW) h.s0.1 h.mn
  unfold txtV at hT
  rw [txt_fnd hk] at hT
  exact hT
theorem StSt.again {w W wr : World} {S : List Nat} {g gc : Nat} {vc : Value} {mc : Option Nat} {l1 lk : List ByteArray} {s : ByteArray} {n : Nat} (h : StSt w W wr S g gc vc mc l1 lk s n) {t : ByteArray} {k : Nat} (hk : fnd lk t = some k) : Calls Tryd.prog 16 #[.pointer (some ⟨g, 0, none⟩), .string t] wr fun e w' => e = .returned (.tuple #[.int .i64 (k : Int), .bool true]) ∧ StSt w W w' S g gc vc mc l1 lk s n := by
  have hN := h.number t
  unfold numV at hN
  rw [num_known hk] at hN
  refine hN.mono ?_
  rintro e w' ⟨h1, h2, _⟩
  exact ⟨h1, h2⟩
theorem StSt.same {w W wr : World} {S : List Nat} {g gc : Nat} {vc : Value} {mc : Option Nat} {l1 lk : List ByteArray} {s : ByteArray} {n : Nat} (h : StSt w W wr S g gc vc mc l1 lk s n) {t : ByteArray} {k : Nat} (hk : fnd lk t = some k) : Calls Tryd.prog 16 #[.pointer (some ⟨g, 0, none⟩), .string t] wr fun e w' => e = .returned (.tuple #[.int .i64 (k : Int), .bool true]) ∧ w' = wr := by
  obtain ⟨v, mv, h1, h2, h3⟩ := h.mn
  exact Number_known ((h.kn.ext h.wW).kp h2 h.s0.1) h1 (h1.own.known hk).1 hk
theorem StSt.copy {w W wr : World} {S : List Nat} {g gc : Nat} {vc : Value} {mc : Option Nat} {l1 lk : List ByteArray} {s : ByteArray} {n : Nat} (h : StSt w W wr S g gc vc mc l1 lk s n) : Calls Tryd.prog 19 #[.pointer (some ⟨gc, 0, none⟩)] wr fun e w' => ∃ a c, e = .returned (.slice a l1.length c) ∧ Below wr.heap.size wr w' := by
  refine (Own_any (h.tc.1.kp h.mn.kp h.tc.2)).mono ?_
  rintro e w' ⟨v', rfl, hr, hb, _⟩
  obtain ⟨a, c, rfl⟩ := row_val hr
  exact ⟨a, c, rfl, hb⟩
theorem stays_start {w w2 w3 : World} {g gc n : Nat} {v vc : Value} {mv mc : Option Nat} {l1 : List ByteArray} {s : ByteArray} (hk : KnAt w) (ht : TbAt w2 g v mv l1) (hp : Kp [] w w2) (hb : ∀ x ∈ bls g v mv, x ∈ [] ∨ w.heap.size ≤ x) (hc : TbAt w3 gc vc mc l1) (h3 : Below w2.heap.size w2 w3) (hn : ∀ x ∈ bls gc vc mc, w2.heap.size ≤ x) (hl : l1.length ≤ 1) (hf : fnd l1 s = some n) :
    StSt w w3 w3 (bls g v mv) g gc vc mc l1 l1 s n := by
  have b2 : Below w.heap.size w w2 := hp.below (Nat.le_refl _) (by simp)
  refine ⟨hk, Below.chain b2 h3, ⟨fun h0 => ?_, fun x hx => ?_⟩, ⟨v, mv, ht.ext h3, Kp.refl _ _, fun x hx => .inl hx⟩, ⟨hc, fun x hx hs => ?_⟩, hl, hf⟩
  · rcases hb 0 h0 with h | h
    · cases h
    · have := hk.1; omega
  · rcases hb x hx with h | h
    · cases h
    · exact h
  · have h1 := hn x hx
    have h2 := ht.lt x hs
    omega
set_option maxRecDepth 100000 in
set_option maxHeartbeats 4000000 in
theorem SymbolStays_any {w : World} {l : List Cl} {ao : Option Addr} {c : Nat} {s : ByteArray} (hk : KnAt w) (h : CLAt w l ao c) : Calls Tryd.prog 5 #[.slice ao l.length c, .string s] w fun e w' => e = .returned (.bool true) ∧ Below w.heap.size w w' := by
  have HK := hide hk
  have HL := hide h
  have HF := hide (few_any h)
  clear hk h
  by_cases h256 : 256 < s.size
  · have d256 : decide ((256 : Int) < (s.size : Int)) = true := decide_eq_true (by omega)
    clear h256
    go_enter Tryd.func5, Tryd.ntmps5
    go_wp2_with fail
    refine HF.out.mono ?_
    rintro e_ w1 ⟨b, rfl, b1⟩
    have B1 := hide b1
    clear b1
    have HA := hide (awake_any (HK.out.ext B1.out))
    cases b with
    | false =>
      go_wp2_with (go_at_call 8; refine HA.out.mono ?_; rintro e_ w2 ⟨rfl, b2⟩)
      go_ret
      exact ⟨rfl, Below.chain B1.out b2⟩
    | true =>
      go_wp2_with (go_at_call 8; refine HA.out.mono ?_; rintro e_ w2 ⟨rfl, b2⟩)
      go_ret
      exact ⟨rfl, Below.chain B1.out b2⟩
  · have d256 : decide ((256 : Int) < (s.size : Int)) = false := decide_eq_false (by omega)
    obtain ⟨n, hn1, hn2, hn3, hn4⟩ := num_nil (s := s) (by omega)
    clear h256
    go_enter Tryd.func5, Tryd.ntmps5
    go_wp2_with fail
    refine HF.out.mono ?_
    rintro e_ w0 ⟨b, rfl, b0⟩
    have B0 := hide b0
    clear b0
    have HA := hide (awake_any (HK.out.ext B0.out))
    cases b with
    | false =>
      clear hn1 hn2 hn3 hn4
      go_wp2_with (go_at_call 8; refine HA.out.mono ?_; rintro e_ w2 ⟨rfl, b2⟩)
      go_ret
      exact ⟨rfl, Below.chain B0.out b2⟩
    | true =>
      obtain ⟨l1, hl1⟩ : ∃ l1, (numF [] s).2.2 = l1 := ⟨_, rfl⟩
      have HE := hide (And.intro hn1 (And.intro hn2 hl1))
      rw [hl1] at hn3 hn4
      have HN := hide (And.intro hn3 hn4)
      clear hn1 hn2 hl1 hn3 hn4
      go_wp2_with fail
      refine (New_mn w0).mono ?_
      rintro e_ w1 ⟨g, rfl, h1⟩
      have N1 := Number_mn s (HK.out.ext B0.out) (by simp) h1
      unfold numV at N1
      rw [HE.out.1, HE.out.2.1, HE.out.2.2] at N1
      have N1 := hide N1
      clear h1
      go_wp2_with fail
      refine N1.out.mono ?_
      rintro e_ w2 ⟨rfl, v, mv, ht, hp, hb⟩
      have C2 := hide (Copy_any ht)
      have H2 := hide (And.intro ht (And.intro hp hb))
      clear ht hp hb
      go_wp2_with fail
      refine C2.out.mono ?_
      rintro e_ w3 ⟨gc, vc, mc, rfl, hc, h3, hn⟩
      have HS := hide (stays_start (HK.out.ext B0.out) H2.out.1 H2.out.2.1 H2.out.2.2 hc h3 hn HN.out.2 HN.out.1)
      clear hc h3 hn N1 C2 H2
      go_wp2
      go_loopw [44] (fun i wr => ∃ (k : Nat) (lk : List ByteArray), k ≤ l.length ∧ i = .int .i64 (k : Int) ∧ StSt w0 w3 wr (bls g v mv) g gc vc mc l1 lk s n) (fun i _ => l.length - (intOf i).toNat)
      case atStart => exact ⟨0, l1, Nat.zero_le _, rfl, HS.out⟩
      case round =>
        obtain ⟨k, lk, hk, rfl, hS⟩ := hrel
        have HT := hide hS
        clear hS HS
        by_cases hlt : k < l.length
        · have dl : decide (k < l.length) = true := decide_eq_true hlt
          obtain ⟨x, hx⟩ : ∃ x, l[k]? = some x := ⟨_, List.getElem?_eq_getElem hlt⟩
          obtain ⟨b, o, a, e, rfl, hfit, hN, p0, p1, p2, p3⟩ := (HL.out.ext (Below.chain B0.out HT.out.below)).read hx
          have hix := fun w_ => ix_calls w_ b o l.length c k hlt
          have hk1 := step_of hlt HL.out.1 HL.out.2.1
          have HX := hide (hN.ext (alloc_below wr (.cells (clC x a e) 32)))
          have H3 := hide (HT.out.ext (alloc_below wr (.cells (clC x a e) 32)))
          have HH := hide (And.intro hlt hx)
          have HR := hide (row_reads (heap_alloc_new wr (.cells (clC x a e) 32)))
          unfold clC at HX H3 HR
          clear hN hx hlt hk
          by_cases hd : x.d = 1
          · have d1 : (x.d == 1) = true := by simpa using hd
            clear hd
            have HA := hide (H3.out.add HX.out)
            go_wp2_with fail
            refine HA.out.mono ?_
            rintro e_ w4 ⟨⟨y, rfl⟩, h4⟩
            have H4 := hide h4
            clear h4
            have T6 := hide (H4.out.text H4.out.fn)
            have T7 := hide (H4.out.again H4.out.fn)
            go_wp2_with (first
              | (go_at_call 10; refine T6.out.mono ?_; rintro e_ w5 ⟨rfl, rfl⟩)
              | (go_at_call 16; refine T7.out.mono ?_; rintro e_ w6 ⟨rfl, h6⟩; have H6 := hide h6; clear h6))
            exact ⟨⟨k + 1, _, HH.out.1, by simp, H6.out⟩, by have := HH.out.1; simp only [intOf]; omega⟩
          · have d1 : (x.d == 1) = false := by simpa using hd
            clear hd
            have HM := H3.out.number x.s
            unfold numV at HM
            obtain ⟨X, hX⟩ : ∃ X, (numF lk x.s).1 = X := ⟨_, rfl⟩
            obtain ⟨Y, hY⟩ : ∃ Y, (numF lk x.s).2.1 = Y := ⟨_, rfl⟩
            obtain ⟨lk2, hlk2⟩ : ∃ lk2, (numF lk x.s).2.2 = lk2 := ⟨_, rfl⟩
            have hF : Y = true → ∃ q : Nat, X = (q : Int) ∧ fnd lk2 x.s = some q := fun e => by rw [← hX, ← hlk2]; exact num_fnd (by rw [hY, e])
            rw [hX, hY, hlk2] at HM
            have HM := hide HM
            clear hX hY hlk2
            cases Y with
            | false =>
              go_wp2_with fail
              refine HM.out.mono ?_
              rintro e_ w4 ⟨rfl, h4, _⟩
              have H4 := hide h4
              clear h4
              have T6 := hide (H4.out.text H4.out.fn)
              have T7 := hide (H4.out.again H4.out.fn)
              go_wp2_with (first
                | (go_at_call 10; refine T6.out.mono ?_; rintro e_ w5 ⟨rfl, rfl⟩)
                | (go_at_call 16; refine T7.out.mono ?_; rintro e_ w6 ⟨rfl, h6⟩; have H6 := hide h6; clear h6))
              exact ⟨⟨k + 1, _, HH.out.1, by simp, H6.out⟩, by have := HH.out.1; simp only [intOf]; omega⟩
            | true =>
              obtain ⟨q, rfl, hq⟩ := hF rfl
              have HQ := hide hq
              clear hq hF
              go_wp2_with fail
              refine HM.out.mono ?_
              rintro e_ w4 ⟨rfl, h4, k4⟩
              have hcb := (row_reads (k4 _ _ (heap_alloc_new wr _))).1 2
              simp only [List.getElem?_toArray, List.getElem?_cons_zero, List.getElem?_cons_succ] at hcb
              have H4 := hide h4
              have T5 := hide (h4.text HQ.out)
              clear h4 k4
              go_wp2_with fail
              refine T5.out.mono ?_
              rintro e_ w5 ⟨rfl, rfl⟩
              have T6 := hide (H4.out.text H4.out.fn)
              have T7 := hide (H4.out.again H4.out.fn)
              go_wp2_with (first
                | (go_at_call 10; refine T6.out.mono ?_; rintro e_ w5 ⟨rfl, rfl⟩)
                | (go_at_call 16; refine T7.out.mono ?_; rintro e_ w6 ⟨rfl, h6⟩; have H6 := hide h6; clear h6))
              exact ⟨⟨k + 1, _, HH.out.1, by simp, H6.out⟩, by have := HH.out.1; simp only [intOf]; omega⟩
        · have dl : decide (k < l.length) = false := decide_eq_false hlt
          clear hlt hk
          have HO := hide (Own_mn HT.out.mn)
          go_wp2_with fail
          refine HO.out.mono ?_
          rintro e_ w4 ⟨a, e, rfl, hN, hM, hB⟩
          have H4 := hide (HT.out.ext hB)
          have HN4 := hide hN
          clear hN hM hB
          go_wp2
          go_loopw [114] (fun i wr => ∃ (m : Nat), m ≤ lk.length ∧ i = .int .i64 (m : Int) ∧ wr = w4) (fun i _ => lk.length - (intOf i).toNat)
          case atStart => exact ⟨0, Nat.zero_le _, rfl, rfl⟩
          case round =>
            obtain ⟨m, hm, rfl, rfl⟩ := hrel
            by_cases hml : m < lk.length
            · have dm : decide (m < lk.length) = true := decide_eq_true hml
              obtain ⟨x, hx⟩ : ∃ x, lk[m]? = some x := ⟨_, List.getElem?_eq_getElem hml⟩
              obtain ⟨b, o, rfl, hbb, hrd⟩ := HN4.out.read (by omega)
              have hcs := (hrd m x hx).2 _ (Below.refl _ _)
              have hix := fun w_ => ix_names w_ b o lk.length e m hml
              have hm1 := step_of hml HN4.out.1 HN4.out.2.1
              have hs1 : IntKind.i64.wrap (1024 + (m : Int)) = 1024 + (m : Int) := i64_wrap _ (by have := H4.out.mn.own.few; omega)
              have T8 := H4.out.same (fnd_own H4.out.mn.own hx)
              rw [Int.natCast_add] at T8
              have T8 := hide T8
              have HM := hide hml
              clear hml hrd hbb hx hm
              go_wp2_with (go_at_call 16; refine T8.out.mono ?_; rintro e_ w6 ⟨rfl, rfl⟩)
              exact ⟨⟨m + 1, HM.out, by simp, trivial⟩, by have := HM.out; simp only [intOf]; omega⟩
            · have dm : decide (m < lk.length) = false := decide_eq_false hml
              have d2 : decide ((l1.length : Int) ≤ 1) = true := decide_eq_true (by have := HN.out.2; omega)
              have T9 := hide H4.out.copy
              clear hml hm
              go_wp2_with (first
                | (go_at_call 19; refine T9.out.mono ?_; rintro e_ w6 ⟨a6, c6, rfl, b6⟩; have B6 := hide (Below.chain H4.out.below b6); clear b6)
                | (go_at_call 8; refine (awake_any (HK.out.ext (Below.chain B0.out B6.out))).mono ?_; rintro e_ w7 ⟨rfl, b7⟩))
              go_ret
              exact ⟨rfl, Below.chain (Below.chain B0.out B6.out) b7⟩
end Go.Proofs.YtcmalffpahkleaaDoor
