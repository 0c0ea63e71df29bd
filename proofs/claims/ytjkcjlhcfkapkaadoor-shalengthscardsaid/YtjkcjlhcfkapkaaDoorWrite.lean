/- What handOn and Write leave of a hash: all that was written, and the bytes behind it; under the bound of take. -/
import Derived.Test.YtjkcjlhcfkapkaaDoorTake
namespace Go.Proofs.YtjkcjlhcfkapkaaDoor
open Go.RowKit
/-- What lies in block g is a hash to which m was written. -/
def Hashed (w : World) (g : Nat) (m : List UInt8) : Prop := ∃ st piece L, HashAt w g st piece L ∧ HInv m st piece L
/-- How long a slice is. -/
def sliceLen : Value → Nat
  | .slice _ n _ => n
  | _ => 0
theorem run_reslice (w : World) (ao : Option Addr) (n c k : Nat) (hk : k ≤ n) : (Instr.sliceAt 22 (.slice ao n c) (some (.int .i64 (k : Int))) none none).run Tryd.prog w = .ok (.slice (if c = k then ao else ao.map (·.add k)) (n - k) (c - k)) w := by
  have h1 : ¬ n < k := by omega
  simp [Instr.sliceAt, Instr.slice, run_underlying und22, Instr.sliceBounds, Instr.sliceBound, asIntOf, h1]
theorem BsAt.drop {w : World} {g : Nat} {bs : List UInt8} {ao : Option Addr} {c : Nat} (h : BsAt w g (.slice ao bs.length c) bs) (k : Nat) :
    BsAt w g (.slice (if c = k then ao else ao.map (·.add k)) (bs.length - k) (c - k)) (bs.drop k) := by
  obtain ⟨ao', c', e, hc, hh⟩ := h
  injection e with e1 e2 e3
  subst e1 e3
  refine ⟨_, _, by rw [List.length_drop], by simp; omega, ?_⟩
  intro hne
  have hlt : k < bs.length := by
    rcases Nat.lt_or_ge k bs.length with h | h
    · exact h
    · exact absurd (List.drop_eq_nil_of_le h) hne
  obtain ⟨b, o, rfl, hb, hb2, hr⟩ := hh (fun e => by rw [e] at hlt; simp at hlt)
  have hck : ¬ c = k := by omega
  refine ⟨b, o + k, by simp [hck, Addr.add_mid], hb, hb2, ?_⟩
  intro j v hv
  rw [Nat.add_assoc]
  exact hr (k + j) v (by rw [List.map_drop, List.getElem?_drop] at hv; exact hv)
theorem BsAt.grown {w w' : World} {g : Nat} {v : Value} {bs : List UInt8} (h : BsAt w g v bs) (hg : w.grownBy w' (some g)) : BsAt w' g v bs := by
  obtain ⟨ao, c, e, hc, hh⟩ := h
  refine ⟨ao, c, e, hc, fun hne => ?_⟩
  obtain ⟨b, o, e1, hb, hb2, hr⟩ := hh hne
  exact ⟨b, o, e1, hb, Nat.lt_of_lt_of_le hb2 hg.size, fun j u hu => hg.cell (hr j u hu) (by simpa using hb)⟩
set_option maxRecDepth 100000 in
set_option maxHeartbeats 1000000 in
theorem handOn_any (g : Nat) (m bs : List UInt8) (v : Value) (w : World) (hg : 2 ≤ g) (h : Hashed w g m) (ht : Tabs w) (hbs : BsAt w g v bs) (hm : m.length + bs.length < 9000000000000000000) :
    Calls Tryd.prog 16 #[v, .func (.func 17) #[.pointer (some ⟨g, 0, none⟩)] #[]] w fun e w' => e = .returned (.tuple #[]) ∧ Hashed w' g (m ++ bs) ∧ w.grownBy w' (some g) := by
  go_enter Tryd.func16, Tryd.ntmps16
  go_wp2
  go_loopw [0] (fun sv wr => ∃ k : Nat, k ≤ bs.length ∧ BsAt wr g sv (bs.drop k) ∧ Hashed wr g (m ++ bs.take k) ∧ w.grownBy wr (some g)) (fun sv _ => sliceLen sv)
  case atStart => exact ⟨0, by omega, hbs, by simpa using h, ⟨rfl, rfl, rfl, Nat.le_refl _, fun _ _ _ => rfl⟩⟩
  case round =>
    obtain ⟨k, hk, hbk, hhk, hgk⟩ := hrel
    clear hbs h
    obtain ⟨d, hd⟩ : ∃ d, bs.drop k = d := ⟨_, rfl⟩
    obtain ⟨M, hM⟩ : ∃ M, m ++ bs.take k = M := ⟨_, rfl⟩
    have hld : d.length = bs.length - k := by rw [← hd]; simp
    have hMl : M.length = m.length + k := by rw [← hM]; simp; omega
    rw [hd] at hbk
    rw [hM] at hhk
    have hbk' := hbk
    obtain ⟨ao, c, rfl, hc, hh⟩ := hbk
    by_cases hlt : k < bs.length
    · have hne : d ≠ [] := fun e => by rw [e] at hld; simp at hld; omega
      obtain ⟨b, o, rfl, hb, hb2, hr⟩ := hh hne
      obtain ⟨st, piece, L, h1, hI⟩ := hhk
      have hN := tookN_le M d
      have hNp : 0 < tookN M d := by unfold tookN; omega
      have hdec : (0 : Int) < (d.length : Int) := by omega
      obtain ⟨sv, hsl, hlen, hbs1⟩ : ∃ sv, (∀ w, (Instr.sliceAt 22 (.slice (some ⟨b, o, none⟩) d.length c) (some (.int .i64 (tookN M d : Nat))) none none).run Tryd.prog w = .ok sv w) ∧ sliceLen sv = d.length - tookN M d ∧ BsAt wr g sv (d.drop (tookN M d)) :=
        ⟨_, fun w => run_reslice w _ _ _ _ hN.1, rfl, hbk'.drop _⟩
      have htk := take_any g M d st piece L wr b o c hg h1 hI (tabs_grown ht hgk hg) hr (by omega)
      have H := hide (And.intro hd (And.intro hM (And.intro hN (And.intro hNp (And.intro hlen (And.intro hbs1 hgk))))))
      have HT := hide htk
      have HL := hide hld
      clear hd hM hN hlen hbs1 hgk htk hbk' hh h1 hI hr hld hMl hNp
      generalize hNN : tookN M d = N at *
      go_wp2_with fail
      refine HT.out.mono ?_
      rintro e w1 ⟨rfl, hhN, hgN⟩
      obtain ⟨hd, hM, hN, hNp, hlen, hbs1, hgk⟩ := H.out
      have R : BsAt w1 g sv (bs.drop (k + N)) ∧ Hashed w1 g (m ++ bs.take (k + N)) ∧ w.grownBy w1 (some g) ∧ k + N ≤ bs.length := by
        have hld := HL.out
        refine ⟨?_, ?_, grown_trans hgk hgN, by omega⟩
        · have := hbs1.grown hgN
          rw [← hd, List.drop_drop] at this
          exact this
        · obtain ⟨st', p', L', q1, q2⟩ := hhN
          refine ⟨st', p', L', q1, ?_⟩
          rw [List.take_add, ← List.append_assoc, hM, hd]; exact q2
      have HR := hide R
      have HM := hide (And.intro hlen hNp)
      clear hhN hgN R hd hM hN hlen hbs1 hgk hNp
      go_wp2
      go_roundw
      case rel => exact ⟨k + N, HR.out.2.2.2, HR.out.1, HR.out.2.1, HR.out.2.2.1⟩
      case measure => have := HM.out; have := HL.out; simp only [sliceLen] at *; omega
    · have hk2 : k = bs.length := by omega
      have hd0 : d.length = 0 := by omega
      have hdec : decide ((0 : Int) < (d.length : Int)) = false := by rw [hd0]; decide
      have HR := hide (And.intro hhk (And.intro hgk (And.intro hM hk2)))
      clear hh hbk' hhk hgk hM hd hk2 hld hMl
      go_wp2
      go_end0
      obtain ⟨h1, h2, hM, hk2⟩ := HR.out
      rw [← hM, hk2, List.take_length] at h1
      exact ⟨rfl, h1, h2⟩
set_option maxRecDepth 100000 in
set_option maxHeartbeats 1000000 in
/-- A hash that there is. -/
theorem write_any (g : Nat) (m bs : List UInt8) (v : Value) (w : World) (hg : 2 ≤ g) (h : Hashed w g m) (ht : Tabs w) (hbs : BsAt w g v bs) (hm : m.length + bs.length < 9000000000000000000) :
    Calls Tryd.prog 12 #[.pointer (some ⟨g, 0, none⟩), v] w fun e w' => e = .returned (.tuple #[]) ∧ Hashed w' g (m ++ bs) ∧ w.grownBy w' (some g) := by
  have HC := hide (handOn_any g m bs v w hg h ht hbs hm)
  clear h ht hbs hm
  go_enter Tryd.func12, Tryd.ntmps12
  go_wp2_with fail
  refine HC.out.mono ?_
  rintro e w1 ⟨rfl, h1, h2⟩
  have HR := hide (And.intro h1 h2)
  clear h1 h2
  go_wp2
  go_end0
  exact ⟨rfl, HR.out.1, HR.out.2⟩
set_option maxRecDepth 100000 in
set_option maxHeartbeats 1000000 in
/-- One that there isn't. -/
theorem write_nil (v : Value) (w : World) :
    Calls Tryd.prog 12 #[.pointer none, v] w fun e w' => e = .returned (.tuple #[]) ∧ w' = w := by
  go_enter Tryd.func12, Tryd.ntmps12
  go_wp2
  exact bodyPost_ret_by (v := .tuple #[]) (results_none rfl _ _ _) rfl ⟨rfl, rfl⟩
set_option maxRecDepth 100000 in
set_option maxHeartbeats 1000000 in
theorem sum_nil (w : World) :
    Calls Tryd.prog 13 #[.pointer none] w fun e w' => e = .returned (.slice none 0 0) ∧ w' = w := by
  go_enter Tryd.func13, Tryd.ntmps13
  go_wp2
  go_ret
  exact ⟨rfl, rfl⟩
end Go.Proofs.YtjkcjlhcfkapkaaDoor
