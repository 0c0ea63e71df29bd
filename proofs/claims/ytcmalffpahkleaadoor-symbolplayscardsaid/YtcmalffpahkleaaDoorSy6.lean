/- The program's call Add; texts that come in. -/
import Derived.Test.YtcmalffpahkleaaDoorSy5
namespace Go.Proofs.YtcmalffpahkleaaDoor
open Go.RowKit
/-- Texts in memory. -/
def NAt (w : World) (l : List ByteArray) (ao : Option Addr) (c : Nat) : Prop :=
  l.length ≤ c ∧ c ≤ 9223372036854775807 ∧ ∃ (b o : Nat), (l ≠ [] → ao = some ⟨b, o, none⟩ ∧ b < w.heap.size) ∧ ∀ i s, l[i]? = some s → w.cell? ⟨b, o + i, none⟩ = some (.string s) ∧ s.size ≤ 9223372036854775807
theorem NAt.ext {W w : World} {l : List ByteArray} {ao : Option Addr} {c : Nat} (h : NAt W l ao c) (he : Below W.heap.size W w) : NAt w l ao c := by
  obtain ⟨h1, h2, b, o, hb, hc⟩ := h
  exact ⟨h1, h2, b, o, fun hne => ⟨(hb hne).1, Nat.lt_of_lt_of_le (hb hne).2 he.size⟩, fun i s hs => ⟨(Below.cell (p := ⟨b, o + i, none⟩) he (hb (fun e => by rw [e] at hs; simp at hs)).2).trans (hc i s hs).1, (hc i s hs).2⟩⟩
theorem NAt.read {w : World} {l : List ByteArray} {ao : Option Addr} {c : Nat} (h : NAt w l ao c) (hne : 0 < l.length) : ∃ b o, ao = some ⟨b, o, none⟩ ∧ b < w.heap.size ∧ ∀ i s, l[i]? = some s → s.size ≤ 9223372036854775807 ∧ ∀ W, Below w.heap.size w W → W.cell? ⟨b, o + i, none⟩ = some (.string s) := by
  obtain ⟨_, _, b, o, hb, hc⟩ := h
  obtain ⟨e, hbb⟩ := hb (fun e => by rw [e] at hne; simp at hne)
  exact ⟨b, o, e, hbb, fun i s hs => ⟨(hc i s hs).2, fun W he => (Below.cell (p := ⟨b, o + i, none⟩) he hbb).trans (hc i s hs).1⟩⟩
theorem ix_names (w : World) (b o n c k : Nat) (hk : k < n) : (Instr.indexAt 28 (.slice (some ⟨b, o, none⟩) n c) (.int .i64 (k : Int))).run Tryd.prog w = .ok (.pointer (some ⟨b, o + k, none⟩)) w := by
  have h1 : decide ((k : Int) < 0) = false := decide_eq_false (by omega)
  have h2 : ¬ ((n : Int) ≤ (k : Int)) := by omega
  go_simp
set_option maxRecDepth 100000 in
theorem Add_nil (v : Value) (w : World) : Calls Tryd.prog 12 #[.pointer none, v] w fun e w' => e = .returned (.bool false) ∧ w' = w := by
  go_enter Tryd.func12, Tryd.ntmps12
  go_wp2
  go_ret
  exact ⟨rfl, rfl⟩
theorem add_one {l : List ByteArray} {s : ByteArray} (r : List ByteArray) (hl : Own l) : ((numF l s).2.1 = false ∧ addF l (s :: r) = none) ∨ ((numF l s).2.1 = true ∧ (numF l s).1 ≠ 1024 + (l.length : Int) ∧ addF l (s :: r) = none) ∨
    ((numF l s).2.1 = true ∧ (numF l s).1 = 1024 + (l.length : Int) ∧ (numF l s).2.2 = l ++ [s] ∧ addF l (s :: r) = addF (l ++ [s]) r) := by
  unfold numF
  cases hf : fnd l s with
  | some n =>
    refine .inr (.inl ⟨rfl, by have := (hl.known hf).2; simp only; omega, ?_⟩)
    unfold addF
    rw [if_pos (.inr (.inl (by rw [hf]; simp)))]
  | none =>
    simp only
    by_cases h : 256 < s.size ∨ 1000 ≤ l.length
    · rw [if_pos h]
      refine .inl ⟨rfl, ?_⟩
      unfold addF
      rw [if_pos (by rcases h with h | h; exact .inl h; exact .inr (.inr h))]
    · rw [if_neg h]
      refine .inr (.inr ⟨rfl, rfl, rfl, ?_⟩)
      rw [not_or] at h
      conv => lhs; unfold addF
      rw [if_neg (by rw [hf]; simp; omega)]
theorem add_bad {w wr w4 : World} {g g2 : Nat} {v v3 : Value} {mv mv3 : Option Nat} {l a lk r : List ByteArray} {s : ByteArray} (hT : TbAt w g v mv l) (hadd : addF l a = addF lk r) {r2 : List ByteArray} (hr : r = s :: r2) (hno : addF lk (s :: r2) = none) (hB : Below w.heap.size w wr) (hn : ∀ x ∈ bls g2 v3 mv3, w.heap.size ≤ x) (k4 : Kp (bls g2 v3 mv3) wr w4) :
    Ending.returned (.bool false) = .returned (.bool (addF l a).isSome) ∧ TbNew w w4 g v mv ((addF l a).getD l) := by
  rw [hadd, hr, hno]
  have b4 : Below w.heap.size w w4 := hB.trans (k4.below hB.size hn)
  exact ⟨rfl, v, mv, hT.ext b4, Kp.of_below b4, fun x hx => .inl hx⟩
theorem add_end {w wr : World} {g g2 : Nat} {v v3 : Value} {mv mv3 : Option Nat} {l a l3 : List ByteArray} (hT : TbAt w g v mv l) (hT3 : TbAt wr g2 v3 mv3 l3) (hadd : addF l a = addF l3 []) (hB : Below w.heap.size w wr) (hn : ∀ x ∈ bls g2 v3 mv3, w.heap.size ≤ x) (hgr : wr.heap[g]? = some (.cells #[v, .map mv] 45 (0, 0))) :
    Ending.returned (.bool true) = .returned (.bool (addF l a).isSome) ∧ TbNew w ((wr.setCell ⟨g, 0, none⟩ v3).setCell ⟨g, 1, none⟩ (.map mv3)) g v mv ((addF l a).getD l) := by
  have e : addF l a = some l3 := by rw [hadd]; unfold addF; rfl
  rw [e]
  have hg : g < w.heap.size := (Array.getElem?_eq_some_iff.1 hT.hd).1
  have k1 : Kp [g] wr ((wr.setCell ⟨g, 0, none⟩ v3).setCell ⟨g, 1, none⟩ (.map mv3)) := ((Kp.refl _ _).setCell (by simp) _).setCell (by simp) _
  have h1 := heap_setCell_same _ g 1 _ _ (.map mv3) (heap_setCell_same wr g 0 _ _ v3 hgr)
  refine ⟨rfl, v3, mv3, ⟨hT3.own, h1, row_kp hT3.row k1 (fun x hx => ?_), hT3.mp.kp k1 (fun x hx => ?_)⟩, (Kp.of_below hB).next k1 (fun x hx => .inl (mem_bls.2 (.inl (by simpa using hx)))), fun x hx => ?_⟩
  · have := hn x (mem_bls.2 (.inr (.inl hx)))
    simp; omega
  · have := hn x (mem_bls.2 (.inr (.inr hx)))
    simp; omega
  · rcases mem_bls.1 hx with rfl | hx | hx
    · exact .inl (mem_bls.2 (.inl rfl))
    · exact .inr (hn x (mem_bls.2 (.inr (.inl hx))))
    · exact .inr (hn x (mem_bls.2 (.inr (.inr hx))))
set_option maxRecDepth 100000 in
set_option maxHeartbeats 2000000 in
theorem Add_any {w : World} {g : Nat} {v : Value} {mv : Option Nat} {l a : List ByteArray} {ao : Option Addr} {c : Nat} (hk : KnAt w) (hT : TbAt w g v mv l) (hA : NAt w a ao c) : Calls Tryd.prog 12 #[.pointer (some ⟨g, 0, none⟩), .slice ao a.length c] w fun e w' => e = .returned (.bool (addF l a).isSome) ∧ TbNew w w' g v mv ((addF l a).getD l) := by
  have hg : g < w.heap.size := (Array.getElem?_eq_some_iff.1 hT.hd).1
  have hc : w.cell? ⟨g, 0, none⟩ = some v := (row_reads hT.hd).1 0
  have HC := hide (Copy_any hT)
  have HT := hide hT
  obtain ⟨a1, c1, rfl⟩ := row_val hT.row
  have hsum : IntKind.i64.wrap (1024 + (l.length : Int)) = 1024 + (l.length : Int) := i64_wrap _ (by have := hT.own.few; omega)
  have HG : Hid (∀ W, Below w.heap.size w W → W.cell? ⟨g, 0, none⟩ = some (.slice a1 l.length c1)) := ⟨fun W B => (Below.cell (p := ⟨g, 0, none⟩) B hg).trans hc⟩
  have HK := hide hk
  have HA := hide hA
  clear hT hk hA hc
  go_enter Tryd.func12, Tryd.ntmps12
  go_wp2_with fail
  refine HC.out.mono ?_
  rintro e_ w1 ⟨g2, v2, mv2, rfl, h1, b1, n1⟩
  have z0 := HG.out _ b1
  have H1 := hide (And.intro h1 (And.intro b1 n1))
  clear h1 b1 n1
  go_wp2
  go_loopw [23] (fun i wr => ∃ (k : Nat) (v2 : Value) (mv2 : Option Nat), k ≤ a.length ∧ i = .int .i64 (k : Int) ∧ TbAt wr g2 v2 mv2 (l ++ a.take k) ∧ addF l a = addF (l ++ a.take k) (a.drop k) ∧ Below w.heap.size w wr ∧ ∀ x ∈ bls g2 v2 mv2, w.heap.size ≤ x) (fun i _ => a.length - (intOf i).toNat)
  case atStart => exact ⟨0, v2, mv2, Nat.zero_le _, rfl, by simpa using H1.out.1, by simp, H1.out.2.1, H1.out.2.2⟩
  case round =>
    obtain ⟨k, v3, mv3, hk, rfl, hT3, hadd, hB, hn3⟩ := hrel
    have H3 := hide (And.intro hT3 (And.intro hadd (And.intro hB hn3)))
    clear hT3 hadd hB hn3
    by_cases hlt : k < a.length
    · have dl : decide (k < a.length) = true := decide_eq_true hlt
      obtain ⟨s, hs⟩ : ∃ s, a[k]? = some s := ⟨_, List.getElem?_eq_getElem hlt⟩
      obtain ⟨b, o, rfl, hbb, hrd⟩ := HA.out.read (by omega)
      have hcs := (hrd k s hs).2 _ H3.out.2.2.1
      have hix := fun w_ => ix_names w_ b o a.length c k hlt
      have HN := Number_any s (HK.out.ext H3.out.2.2.1) H3.out.1
      have hone := add_one (s := s) (a.drop (k + 1)) H3.out.1.own
      have hk1 : IntKind.i64.wrap ((k : Int) + 1) = (k : Int) + 1 := i64_wrap _ (by have h1 := HA.out.1; have h2 := HA.out.2.1; clear HA; omega)
      have hdrop : a.drop k = s :: a.drop (k + 1) := by rw [List.drop_eq_getElem_cons hlt]; rw [List.getElem?_eq_getElem hlt] at hs; injection hs with hs; rw [hs]
      have htake : a.take (k + 1) = a.take k ++ [s] := by rw [List.take_add_one, hs]; rfl
      have hlen : (l ++ a.take k).length = l.length + k := by rw [List.length_append, List.length_take]; omega
      unfold numV at HN
      obtain ⟨X, hX⟩ : ∃ X, (numF (l ++ a.take k) s).1 = X := ⟨_, rfl⟩
      obtain ⟨Y, hY⟩ : ∃ Y, (numF (l ++ a.take k) s).2.1 = Y := ⟨_, rfl⟩
      rw [hX, hY] at HN hone
      have hsum2 : IntKind.i64.wrap (1024 + (l.length : Int) + (k : Int)) = 1024 + (l.length : Int) + (k : Int) := i64_wrap _ (by have := H3.out.1.own.few; rw [hlen] at this; omega)
      have HN := hide HN
      have HD := hide (And.intro hdrop (And.intro htake (And.intro hlen hlt)))
      clear hdrop htake hlen hX hY hrd hbb hs
      rcases hone with ⟨rfl, hno⟩ | ⟨rfl, hne, hno⟩ | ⟨rfl, rfl, hnl, hyes⟩
      · have HO := hide hno
        clear hno hlt
        go_wp2_with (go_at_call 16; refine HN.out.mono ?_; rintro e_ w4 ⟨rfl, v4, mv4, h4, k4, n4⟩)
        go_ret
        exact add_bad HT.out H3.out.2.1 HD.out.1 HO.out H3.out.2.2.1 H3.out.2.2.2 k4
      · have HO := hide hno
        have hne2 : (X != 1024 + (l.length : Int) + (k : Int)) = true := by have := HD.out.2.2.1; simp only [bne_iff_ne]; omega
        clear hno hlt hne
        go_wp2_with (go_at_call 16; refine HN.out.mono ?_; rintro e_ w4 ⟨rfl, v4, mv4, h4, k4, n4⟩)
        go_ret
        exact add_bad HT.out H3.out.2.1 HD.out.1 HO.out H3.out.2.2.1 H3.out.2.2.2 k4
      · have hX2 : (1024 + ((l ++ a.take k).length : Int)) = 1024 + (l.length : Int) + (k : Int) := by have := HD.out.2.2.1; omega
        rw [hX2] at HN
        have HO := hide (And.intro hnl hyes)
        clear hnl hyes hlt hX2
        go_wp2_with (go_at_call 16; refine HN.out.mono ?_; rintro e_ w4 ⟨rfl, hN4⟩; have hN4 := hide hN4)
        obtain ⟨v4, mv4, h4, k4, n4⟩ := hN4.out
        obtain ⟨d1, d2, d3, d4⟩ := HD.out
        rw [HO.out.1] at h4
        have b4 : Below w.heap.size w w4 := H3.out.2.2.1.trans (k4.below H3.out.2.2.1.size H3.out.2.2.2)
        have m4 : ∀ x ∈ bls g2 v4 mv4, w.heap.size ≤ x := fun x hx => by
          rcases n4 x hx with h | h
          · exact H3.out.2.2.2 x h
          · exact Nat.le_trans H3.out.2.2.1.size h
        refine ⟨⟨k + 1, v4, mv4, by omega, by simp, ?_, ?_, b4, m4⟩, by simp only [intOf]; omega⟩
        · rw [d2, ← List.append_assoc]; exact h4
        · rw [H3.out.2.1, d1, HO.out.2, d2, List.append_assoc]
    · have dl : decide (k < a.length) = false := decide_eq_false hlt
      have hka : k = a.length := by omega
      subst hka
      obtain ⟨hT3, hadd, hB, hn3⟩ := H3.out
      rw [List.take_length, List.drop_length] at hadd
      rw [List.take_length] at hT3
      have p0 : wr.cell? ⟨g2, 0, none⟩ = some v3 := (row_reads hT3.hd).1 0
      have p1 : wr.cell? ⟨g2, 1, none⟩ = some (.map mv3) := (row_reads hT3.hd).1 1
      have hgr := hB.block g hg |>.trans HT.out.hd
      have q0 := (row_reads hgr).2 0
      have q1 := (row_reads (heap_setCell_same wr g 0 _ _ v3 hgr)).2 1
      have r0 : wr.cell? ⟨g, 0, none⟩ = some (.slice a1 l.length c1) := (row_reads hgr).1 0
      have r1 : (wr.setCell ⟨g, 0, none⟩ v3).cell? ⟨g, 1, none⟩ = some (.map mv) := (row_reads (heap_setCell_same wr g 0 _ _ v3 hgr)).1 1
      obtain ⟨a3, n3, c3, rfl⟩ : ∃ a3 n3 c3, v3 = .slice a3 n3 c3 := by
        obtain ⟨a3, c3, h⟩ := row_val hT3.row
        exact ⟨a3, _, c3, h⟩
      have HE := hide (And.intro hT3 (And.intro hadd (And.intro hB (And.intro hn3 hgr))))
      clear hT3 hadd hB hn3 hgr hlt hk
      go_wp2
      go_ret
      exact add_end HT.out HE.out.1 HE.out.2.1 HE.out.2.2.1 HE.out.2.2.2.1 HE.out.2.2.2.2
end Go.Proofs.YtcmalffpahkleaaDoor
