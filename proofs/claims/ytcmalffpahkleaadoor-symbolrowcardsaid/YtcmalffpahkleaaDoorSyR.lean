/- The law SymbolRow: new texts have the numbers that come next. -/
import Derived.Test.YtcmalffpahkleaaDoorSy9
namespace Go.Proofs.YtcmalffpahkleaaDoor
open Go.RowKit
/-- What the law's own map tells of a text. -/
def fsF (lk seen : List ByteArray) (s : ByteArray) : Int :=
  match place seen s with
  | some _ => (match fnd lk s with | some n => (n : Int) + 1 | none => 0)
  | none => 0
theorem fsF_in {lk seen : List ByteArray} {s : ByteArray} (h : s ∈ seen) : fsF lk seen s = (match fnd lk s with | some n => (n : Int) + 1 | none => 0) := by
  obtain ⟨i, hi⟩ := place_mem h
  unfold fsF
  rw [hi]
theorem fsF_not {lk seen : List ByteArray} {s : ByteArray} (h : s ∉ seen) : fsF lk seen s = 0 := by
  unfold fsF
  rw [place_none.2 h]
/-- The law's own map. -/
def FsAt (w : World) (fb : Nat) (lk seen : List ByteArray) : Prop :=
  ∃ D : DataW Unit, w.ownsMap Tryd.prog 9 (plainElem Tryd.prog 3) fb seen.length D ∧ Maps.IsMap D ∧ ∀ s, D.atKey (ky s) (.lit (.int .i64 0)) = .lit (.int .i64 (fsF lk seen s))
theorem fs_look {w : World} {fb : Nat} {lk seen : List ByteArray} (h : FsAt w fb lk seen) {s : ByteArray} (hs : s.size ≤ maxLen) : (Instr.lookup 43 (.map (some fb)) (.string s) false).run Tryd.prog w = .ok (.int .i64 (fsF lk seen s)) w := by
  obtain ⟨D, h1, _, h2⟩ := h
  have hz : (zeroValue 3).run Tryd.prog w = .ok (.int .i64 0) w := by kernel_rfl
  obtain ⟨c, hr, hc, _⟩ := h1.lookup_int (t := 43) keyed (by kernel_rfl) Tryd.underlying3 hz (key_str hs)
  rw [h2 s] at hc
  injection hc with hc
  injection hc with _ hc
  rw [hr, hc]
/-- The texts gone through are known. -/
structure Gone (lk seen : List ByteArray) : Prop where
  own : Own lk
  sub : ∀ x ∈ lk, x ∈ seen
  known : ∀ x ∈ seen, ∃ n, fnd lk x = some n
  len : lk.length ≤ seen.length
theorem Gone.next {lk seen : List ByteArray} (h : Gone lk seen) {s : ByteArray} (hs : s.size ≤ 256) (hl : seen.length < 60) : ∃ n : Nat, (numF lk s).1 = (n : Int) ∧ (numF lk s).2.1 = true ∧ fnd (numF lk s).2.2 s = some n ∧ n < 3000 ∧ Gone (numF lk s).2.2 (seen ++ [s]) ∧ (∀ t ∈ seen, fnd (numF lk s).2.2 t = fnd lk t) ∧
    ((s ∈ seen ∧ fsF lk seen s = (n : Int) + 1 ∧ (numF lk s).2.2 = lk) ∨ (s ∉ seen ∧ fsF lk seen s = 0 ∧ ((n < 1024 ∧ (numF lk s).2.2 = lk) ∨ (n = 1024 + lk.length ∧ (numF lk s).2.2.length = lk.length + 1)))) := by
  have hO := h.own.num s
  obtain ⟨r, hr⟩ := num_app lk s
  have hkn : ∀ t ∈ seen, fnd (numF lk s).2.2 t = fnd lk t := fun t ht => by
    obtain ⟨n, hn⟩ := h.known t ht
    rw [hr, fnd_app r hn, hn]
  cases hf : fnd lk s with
  | some n =>
    have e : numF lk s = ((n : Int), true, lk) := by unfold numF; rw [hf]
    rw [e] at hO hkn ⊢
    have hb := (h.own.known hf).2
    have hle := h.len
    refine ⟨n, rfl, rfl, hf, by omega, ⟨hO, fun x hx => List.mem_append_left _ (h.sub x hx), fun x hx => ?_, by simp; omega⟩, hkn, ?_⟩
    · rcases List.mem_append.1 hx with q | q
      · exact h.known x q
      · rw [List.mem_singleton.1 q]; exact ⟨n, hf⟩
    · by_cases hm : s ∈ seen
      · refine .inl ⟨hm, ?_, rfl⟩
        rw [fsF_in hm, hf]
      · refine .inr ⟨hm, ?_, .inl ⟨?_, rfl⟩⟩
        · exact fsF_not hm
        · unfold fnd at hf
          cases hk : place kno s with
          | some i =>
            rw [hk] at hf
            simp only [Option.some.injEq] at hf
            have h2 := place_lt hk
            rw [kno_len] at h2
            omega
          | none =>
            rw [hk] at hf
            simp only [Option.map_eq_some_iff] at hf
            obtain ⟨i, hi, rfl⟩ := hf
            exact absurd (h.sub s (List.mem_iff_getElem?.2 ⟨i, (place_some.1 hi).1⟩)) hm
  | none =>
    have hle := h.len
    have e : numF lk s = (1024 + (lk.length : Int), true, lk ++ [s]) := by unfold numF; rw [hf]; simp only; rw [if_neg (by omega)]
    have hnn := num_fnd (l := lk) (s := s) (by rw [e])
    rw [e] at hO hkn hnn ⊢
    obtain ⟨n, hn, hfn⟩ := hnn
    have hn2 : n = 1024 + lk.length := by simp only at hn; omega
    have hm : s ∉ seen := fun hm => by obtain ⟨n, hn⟩ := h.known s hm; rw [hf] at hn; cases hn
    refine ⟨n, hn, rfl, hfn, by omega, ⟨hO, fun x hx => ?_, fun x hx => ?_, by simp; omega⟩, hkn, .inr ⟨hm, fsF_not hm, .inr ⟨hn2, by simp⟩⟩⟩
    · rcases List.mem_append.1 hx with q | q
      · exact List.mem_append_left _ (h.sub x q)
      · exact List.mem_append_right _ q
    · rcases List.mem_append.1 hx with q | q
      · obtain ⟨m, hm⟩ := h.known x q
        exact ⟨m, (hkn x q).trans hm⟩
      · rw [List.mem_singleton.1 q]; exact ⟨n, hfn⟩
theorem fs_put {w : World} {fb : Nat} {lk lk2 seen : List ByteArray} {s : ByteArray} {n : Nat} {D : DataW Unit} (h1 : w.ownsMap Tryd.prog 9 (plainElem Tryd.prog 3) fb (seen.length + 1) (D.put (ky s) (.lit (.int .i64 ((n : Int) + 1))))) (hD : Maps.IsMap D)
    (h2 : ∀ t, D.atKey (ky t) (.lit (.int .i64 0)) = .lit (.int .i64 (fsF lk seen t))) (hn : fnd lk2 s = some n) (hk : ∀ t ∈ seen, fnd lk2 t = fnd lk t) : FsAt w fb lk2 (seen ++ [s]) := by
  refine ⟨_, by rw [List.length_append]; exact h1, ?_, fun t => ?_⟩
  · obtain ⟨es, rfl⟩ := hD
    exact ⟨_, rfl⟩
  · by_cases ht : t = s
    · subst ht
      rw [Maps.atKey_put_same hD (by simp [ky, WideAt.IsKeyLit])]
      rw [fsF_in (by simp), hn]
    · rw [Maps.atKey_put_other (fun e => ht (ky_inj e)), h2 t]
      congr 2
      by_cases hm : t ∈ seen
      · rw [fsF_in hm, fsF_in (List.mem_append_left _ hm), hk t hm]
      · rw [fsF_not hm, fsF_not (by simp only [List.mem_append, List.mem_singleton, not_or]; exact ⟨hm, ht⟩)]
/-- What the law's loop keeps. -/
structure RowSt (w wr : World) (g fb : Nat) (lk seen : List ByteArray) : Prop where
  tb : ∃ v mv, TbAt wr g v mv lk ∧ fb ∉ bls g v mv ∧ ∀ x ∈ bls g v mv, w.heap.size ≤ x
  fs : FsAt wr fb lk seen
  gone : Gone lk seen
  bel : Below w.heap.size w wr
  lt : w.heap.size ≤ fb ∧ fb < wr.heap.size
theorem RowSt.ext {w wr w' : World} {g fb : Nat} {lk seen : List ByteArray} (h : RowSt w wr g fb lk seen) (b : Below wr.heap.size wr w') : RowSt w w' g fb lk seen := by
  obtain ⟨⟨v, mv, h1, h2, h3⟩, ⟨D, d1, d2⟩, hg, hb, hl⟩ := h
  exact ⟨⟨v, mv, h1.ext b, h2, h3⟩, ⟨D, map_kp d1 (Kp.of_below (S := []) b) (by simp), d2⟩, hg, hb.trans (b.mono hb.size), hl.1, Nat.lt_of_lt_of_le hl.2 b.size⟩
theorem RowSt.number {w wr w' : World} {g fb : Nat} {lk lk2 seen : List ByteArray} {v : Value} {mv : Option Nat} (hfb : fb ∉ bls g v mv) (hn : ∀ x ∈ bls g v mv, w.heap.size ≤ x) (h : RowSt w wr g fb lk seen) (hN : TbNew wr w' g v mv lk2) : (∃ v mv, TbAt w' g v mv lk2 ∧ fb ∉ bls g v mv ∧ ∀ x ∈ bls g v mv, w.heap.size ≤ x) ∧ FsAt w' fb lk seen ∧ Below w.heap.size w w' ∧ fb < w'.heap.size := by
  obtain ⟨v', mv', k1, k2, k3⟩ := hN
  obtain ⟨_, ⟨D, d1, d2⟩, hg, hb, hl⟩ := h
  refine ⟨⟨v', mv', k1, fun hx => ?_, fun x hx => ?_⟩, ⟨D, map_kp d1 k2 hfb, d2⟩, hb.trans (k2.below hb.size hn), Nat.lt_of_lt_of_le hl.2 k2.size⟩
  · rcases k3 fb hx with q | q
    · exact hfb q
    · have := hl.2; omega
  · rcases k3 x hx with q | q
    · exact hn x q
    · exact Nat.le_trans hb.size q
theorem row_step {w wr w3 w4 : World} {l lk lk2 sn : List ByteArray} {g fb k n : Nat} {s : ByteArray} {D : DataW Unit} (hsn : l.take k = sn) (hT : RowSt w wr g fb lk sn) (hlt : k < l.length) (hs : l[k]? = some s) (hfn : fnd lk2 s = some n) (hg : Gone lk2 (sn ++ [s])) (hsame : ∀ t ∈ sn, fnd lk2 t = fnd lk t)
    (h3 : (∃ v mv, TbAt w3 g v mv lk2 ∧ fb ∉ bls g v mv ∧ ∀ x ∈ bls g v mv, w.heap.size ≤ x) ∧ Below w.heap.size w w3 ∧ fb < w3.heap.size) (hD : Maps.IsMap D) (hd : ∀ t, D.atKey (ky t) (.lit (.int .i64 0)) = .lit (.int .i64 (fsF lk sn t)))
    (h4 : w4.ownsMap Tryd.prog 9 (plainElem Tryd.prog 3) fb (sn.length + 1) (D.put (ky s) (.lit (.int .i64 ((n : Int) + 1))))) (gr : w3.grownBy w4 (some fb)) : k + 1 ≤ l.length ∧ RowSt w w4 g fb lk2 (l.take (k + 1)) := by
  have htake : l.take (k + 1) = sn ++ [s] := by rw [List.take_add_one, hs, hsn]; rfl
  obtain ⟨⟨v, mv, t3, f3, n3⟩, b3, l3⟩ := h3
  have kk : Kp [fb] w3 w4 := Kp.grown gr (fun x hx => .inl (by injection hx with hx; simp [hx]))
  refine ⟨hlt, ⟨v, mv, t3.kp kk (fun x hx e => f3 (by rw [List.mem_singleton] at e; rw [← e]; exact hx)), f3, n3⟩, ?_, ?_, b3.trans (kk.below b3.size (fun x hx => by rw [List.mem_singleton.1 hx]; exact hT.lt.1)), hT.lt.1, Nat.lt_of_lt_of_le l3 kk.size⟩
  · rw [htake]; exact fs_put h4 hD hd hfn hsame
  · rw [htake]; exact hg
set_option maxRecDepth 100000 in
set_option maxHeartbeats 4000000 in
theorem SymbolRow_any {w : World} {l : List ByteArray} {ao : Option Addr} {c : Nat} (hk : KnAt w) (h : NAt w l ao c) : Calls Tryd.prog 6 #[.slice ao l.length c] w fun e w' => e = .returned (.bool true) ∧ Below w.heap.size w w' := by
  have HK := hide hk
  have HL := hide h
  have hmm := @run_makeMap Tryd.prog
  clear hk h
  by_cases h60 : 60 < l.length
  · have d60 : decide ((60 : Int) < (l.length : Int)) = true := decide_eq_true (by omega)
    clear h60
    have HA := hide (awake_any HK.out)
    go_enter Tryd.func6, Tryd.ntmps6
    go_wp2_with (go_at_call 8; refine HA.out.mono ?_; rintro e_ w1 ⟨rfl, b1⟩)
    go_ret
    exact ⟨rfl, b1⟩
  · have d60 : decide ((60 : Int) < (l.length : Int)) = false := decide_eq_false (by omega)
    have H60 := hide h60
    clear h60
    go_enter Tryd.func6, Tryd.ntmps6
    go_wp2_with fail
    refine (New_any w).mono ?_
    rintro e_ w1 ⟨g, rfl, h1, b1, hg⟩
    have H1 := hide (And.intro h1 (And.intro b1 hg))
    clear h1 b1 hg
    go_wp2
    have HS : Hid (RowSt w (w1.alloc (.map #[] 0)) g w1.heap.size [] []) := by
      obtain ⟨h1, b1, hg⟩ := H1.out
      have b2 := alloc_below w1 (.map #[] 0)
      refine ⟨⟨_, _, h1.ext b2, fun hx => ?_, fun x hx => ?_⟩, ⟨.map [], mp_made w1, ⟨[], rfl⟩, fun s => rfl⟩, ⟨Own.nil, by simp, by simp, by simp⟩, Below.chain b1 b2, b1.size, by simp⟩
      · have := h1.lt _ hx; omega
      · rcases mem_bls.1 hx with rfl | hx | hx
        · exact hg
        · cases hx
        · cases hx
    generalize w1.heap.size = fb at HS ⊢
    generalize w1.alloc (.map #[] 0) = w2 at HS ⊢
    clear H1
    go_loopw [19, 5] (fun i z wr => ∃ (k : Nat) (lk : List ByteArray), k ≤ l.length ∧ i = .int .i64 (k : Int) ∧ z = .int .i64 (1024 + (lk.length : Int)) ∧ RowSt w wr g fb lk (l.take k)) (fun i _ _ => l.length - (intOf i).toNat)
    case atStart => exact ⟨0, [], Nat.zero_le _, rfl, rfl, by simpa using HS.out⟩
    case round =>
      obtain ⟨k, lk, hk, rfl, rfl, hS⟩ := hrel
      obtain ⟨sn, hsn⟩ : ∃ sn, l.take k = sn := ⟨_, rfl⟩
      rw [hsn] at hS
      have HT := hide hS
      have HSN := hide hsn
      clear hS HS
      by_cases hlt : k < l.length
      · have dl : decide (k < l.length) = true := decide_eq_true hlt
        obtain ⟨s, hs⟩ : ∃ s, l[k]? = some s := ⟨_, List.getElem?_eq_getElem hlt⟩
        obtain ⟨b, o, rfl, hbb, hrd⟩ := HL.out.read (by omega)
        have hcs := (hrd k s hs).2 _ HT.out.bel
        have hix := fun w_ => ix_names w_ b o l.length c k hlt
        have hk1 := step_of hlt HL.out.1 HL.out.2.1
        have HH := hide (And.intro hlt hs)
        clear hrd hbb hs hlt hk
        by_cases h256 : 256 < s.size
        · have d256 : decide ((256 : Int) < (s.size : Int)) = true := decide_eq_true (by omega)
          have HA := hide (awake_any (HK.out.ext HT.out.bel))
          clear h256
          go_wp2_with (go_at_call 8; refine HA.out.mono ?_; rintro e_ w1 ⟨rfl, b1⟩)
          go_ret
          exact ⟨rfl, Below.chain HT.out.bel b1⟩
        · have d256 : decide ((256 : Int) < (s.size : Int)) = false := decide_eq_false (by omega)
          have htl : sn.length = k := by have := HH.out.1; rw [← HSN.out, List.length_take]; omega
          obtain ⟨n, hn, hy, hfn, hlt3, hgone, hsame, hcase⟩ := HT.out.gone.next (s := s) (by omega) (by rw [htl]; have := HH.out.1; have := H60.out; omega)
          obtain ⟨v, mv, ht, hfb, hnb⟩ := HT.out.tb
          have HN := Number_any s (HK.out.ext HT.out.bel) ht
          unfold numV at HN
          rw [hn, hy] at HN
          obtain ⟨lk2, hlk2⟩ : ∃ lk2, (numF lk s).2.2 = lk2 := ⟨_, rfl⟩
          rw [hlk2] at HN hfn hgone hsame hcase
          have HN := hide HN
          have HX := hide (And.intro hfn (And.intro hgone (And.intro hsame (And.intro hfb (And.intro hnb (And.intro htl hlt3))))))
          have hsz : s.size ≤ maxLen := by unfold maxLen; omega
          have HZ := hide hsz
          clear hsn hn hy hfn hgone hsame hlk2 ht hfb hnb htl hlt3 h256 hsz
          go_wp2_with fail
          refine HN.out.mono ?_
          rintro e_ w3 ⟨rfl, hN3⟩
          obtain ⟨t3, f3, b3, l3⟩ := HT.out.number HX.out.2.2.2.1 HX.out.2.2.2.2.1 hN3
          have hlook := fs_look f3 HZ.out
          obtain ⟨D, d1, dI, d2⟩ := f3
          have HD := hide (And.intro d1 (And.intro dI d2))
          have H3 := hide (And.intro t3 (And.intro b3 l3))
          clear t3 d1 dI d2 b3 l3 hN3 HN
          have e1 : IntKind.i64.wrap ((n : Int) + 1) = (n : Int) + 1 := i64_wrap _ (by have := HX.out.2.2.2.2.2.2; omega)
          rcases hcase with ⟨_, hF, hE⟩ | ⟨_, hF, ⟨hn, hE⟩ | ⟨hn, hE⟩⟩
          · rw [hF] at hlook
            obtain ⟨m, hm⟩ : ∃ m, (n : Int) + 1 = m := ⟨_, rfl⟩
            have g1 : decide ((0 : Int) < m) = true := decide_eq_true (by omega)
            have g2 : IntKind.i64.wrap (m - 1) = (n : Int) := by rw [i64_wrap _ (by have := HX.out.2.2.2.2.2.2; omega)]; omega
            have g3 : (m == 0) = false := by simp; omega
            rw [hm] at hlook
            clear hm
            have HE := hide hE
            clear hF hE
            go_wp2_with (at_mapUpdate; refine wpList_mapUpdate_own _ rfl _ _ _ 43 rfl 9 3 keyed (by kernel_rfl) _ fb sn.length D rfl HD.out.1 (by have := HH.out.1; have := H60.out; rw [HX.out.2.2.2.2.2.1]; unfold maxLen; omega) _ _ _ rfl rfl (key_str HZ.out) _ [] (plainElem_int Tryd.underlying3 (by have := HX.out.2.2.2.2.2.2; simp [Lit.wf, IntKind.min, IntKind.max, IntKind.signed, IntKind.bits]; omega)) ?_)
            intro w4 ho4 gr4
            have H4 := hide (And.intro ho4 gr4)
            clear ho4 gr4
            go_wp2
            obtain ⟨e1, e2⟩ := row_step HSN.out HT.out HH.out.1 HH.out.2 HX.out.1 HX.out.2.1 HX.out.2.2.1 H3.out HD.out.2.1 HD.out.2.2 H4.out.1 H4.out.2
            refine ⟨⟨k + 1, _, e1, by simp, by rw [HE.out], e2⟩, by have := HH.out.1; simp only [intOf]; omega⟩
          · rw [hF] at hlook
            have g4 : decide ((1024 : Int) ≤ (n : Int)) = false := decide_eq_false (by omega)
            have HE := hide hE
            clear hF hn hE
            go_wp2_with (at_mapUpdate; refine wpList_mapUpdate_own _ rfl _ _ _ 43 rfl 9 3 keyed (by kernel_rfl) _ fb sn.length D rfl HD.out.1 (by have := HH.out.1; have := H60.out; rw [HX.out.2.2.2.2.2.1]; unfold maxLen; omega) _ _ _ rfl rfl (key_str HZ.out) _ [] (plainElem_int Tryd.underlying3 (by have := HX.out.2.2.2.2.2.2; simp [Lit.wf, IntKind.min, IntKind.max, IntKind.signed, IntKind.bits]; omega)) ?_)
            intro w4 ho4 gr4
            have H4 := hide (And.intro ho4 gr4)
            clear ho4 gr4
            go_wp2
            obtain ⟨e1, e2⟩ := row_step HSN.out HT.out HH.out.1 HH.out.2 HX.out.1 HX.out.2.1 HX.out.2.2.1 H3.out HD.out.2.1 HD.out.2.2 H4.out.1 H4.out.2
            refine ⟨⟨k + 1, _, e1, by simp, by rw [HE.out], e2⟩, by have := HH.out.1; simp only [intOf]; omega⟩
          · rw [hF] at hlook
            have g4 : decide ((1024 : Int) ≤ (n : Int)) = true := decide_eq_true (by omega)
            have g5 : ((n : Int) != 1024 + (lk.length : Int)) = false := by simp; omega
            have g6 : IntKind.i64.wrap (1024 + (lk.length : Int) + 1) = 1024 + (lk.length : Int) + 1 := i64_wrap _ (by have := HX.out.2.2.2.2.2.2; omega)
            have HE := hide hE
            clear hF hE hn
            go_wp2_with (at_mapUpdate; refine wpList_mapUpdate_own _ rfl _ _ _ 43 rfl 9 3 keyed (by kernel_rfl) _ fb sn.length D rfl HD.out.1 (by have := HH.out.1; have := H60.out; rw [HX.out.2.2.2.2.2.1]; unfold maxLen; omega) _ _ _ rfl rfl (key_str HZ.out) _ [] (plainElem_int Tryd.underlying3 (by have := HX.out.2.2.2.2.2.2; simp [Lit.wf, IntKind.min, IntKind.max, IntKind.signed, IntKind.bits]; omega)) ?_)
            intro w4 ho4 gr4
            have H4 := hide (And.intro ho4 gr4)
            clear ho4 gr4
            go_wp2
            obtain ⟨e1, e2⟩ := row_step HSN.out HT.out HH.out.1 HH.out.2 HX.out.1 HX.out.2.1 HX.out.2.2.1 H3.out HD.out.2.1 HD.out.2.2 H4.out.1 H4.out.2
            refine ⟨⟨k + 1, _, e1, by simp, by have := HE.out; congr 1; omega, e2⟩, by have := HH.out.1; simp only [intOf]; omega⟩
      · have dl : decide (k < l.length) = false := decide_eq_false hlt
        have hkl : k = l.length := by omega
        obtain ⟨v, mv, ht, hfb, hnb⟩ := HT.out.tb
        have HO := hide (Own_any ht)
        have hlen := HT.out.gone.own.few
        have HB := HT.out.bel
        have HB := hide HB
        have g7 : IntKind.i64.wrap (1024 + (lk.length : Int) - 1024) = (lk.length : Int) := by rw [i64_wrap _ (by omega)]; omega
        clear ht hfb hnb hlt hk hkl hlen
        go_wp2_with (first
          | (go_at_call 19; refine HO.out.mono ?_; rintro e_ w3 ⟨v3, rfl, hr, hb, hn⟩; obtain ⟨a3, c3, rfl⟩ := row_val hr; have HB3 := hide (Below.chain HB.out hb); clear hr hb hn)
          | (go_at_call 8; refine (awake_any (HK.out.ext HB3.out)).mono ?_; rintro e_ w1 ⟨rfl, b1⟩))
        go_ret
        exact ⟨rfl, Below.chain HB3.out b1⟩
end Go.Proofs.YtcmalffpahkleaaDoor
