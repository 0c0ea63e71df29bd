/- What a step leads to: the program's calls reach, begin, isDone. -/
import Derived.Test.YtmjnedafcfolgaaMs3
namespace Go.Proofs.Ytmjnedafcfolgaa
open Go.RowKit
theorem SsAt.reads {w : World} {x : Sb} {N : Nat} {L : List Nat} (h : SsAt w x N L) : w.cell? ⟨x.k, 0, none⟩ = some (.slice (some ⟨x.a, 0, none⟩) L.length N) ∧ w.cell? ⟨x.k, 1, none⟩ = some (.slice (some ⟨x.b, 0, none⟩) N N) ∧ (∀ j y : Nat, L[j]? = some y → w.cell? ⟨x.a, j, none⟩ = some (.int .i64 (y : Int))) ∧ (∀ j, j < N → w.cell? ⟨x.b, j, none⟩ = some (.bool (decide (j ∈ L)))) ∧ L.length ≤ N ∧ N ≤ 1000 := by
  obtain ⟨h1, h2, ⟨cs, h3, h4, h5⟩, bs, h6, h7, h8⟩ := h
  exact ⟨(row_reads h2).1 0, (row_reads h2).1 1, fun j y hj => by rw [(row_reads h3).1 j, h5 j y hj], fun j hj => by rw [(row_reads h6).1 j, h8 j hj], few_lt h1.1, h1.2.2⟩
/-- What stands while steps are gone through. -/
def RcX (W w : World) (r g cap : Nat) (s : ByteArray) (l : List In) (p : Nat) (x y : Sb) (L M : List Nat) (k i : Nat) (L1 : List Nat) : Prop := RnAt w r g cap s l p x y L1 M ∧ Half l s.size p L k i L1 ∧ Kp x.all W w
set_option maxRecDepth 100000 in
set_option maxHeartbeats 2000000 in
theorem reach_any {w : World} {r g cap : Nat} {s : ByteArray} {l st : List In} {p : Nat} {x y : Sb} {L M : List Nat} (hp : Pg l st) (h : RnAt w r g cap s l p x y L M) (hE : EC l s.size p L) {k : Nat} (hk : k < l.length) :
    Calls Try.prog 16 #[.pointer (some ⟨r, 0, none⟩), .int .i64 (k : Int)] w fun e w' => e = .returned (.tuple #[]) ∧ ∃ L', RnAt w' r g cap s l p x y L' M ∧ Rea l s.size p L k L' ∧ Kp x.all w w' := by
  have H := hide h
  have HE := hide hE
  have HP := hide hp
  obtain ⟨_, _, _, r3, _⟩ := h.reads
  obtain ⟨k0, _, _, _, hL, hN⟩ := h.2.2.1.1.reads
  clear h hE hp
  have HL := hide (And.intro hL hN)
  have HK := hide hk
  have hL1 : L.length ≤ 1000 := by omega
  clear hk hL hN
  go_enter Try.func16, Try.ntmps16
  go_wp2_with fail
  refine (sadd_any H.out.2.2.1.1 HK.out).mono ?_
  rintro e_ w1 ⟨rfl, h1, k1⟩
  have H1 : Hid (RcX w w1 r g cap s l p x y L M k L.length (ins L k)) := hide ⟨H.out.here k1 h1, Half.start HE.out k, k1⟩
  obtain ⟨N, hn⟩ : ∃ N, l.length = N := ⟨_, rfl⟩
  have HN := hide hn
  clear h1 k1 k0 r3 hn
  go_wp2
  go_loopw [5] (fun s5 wr => ∃ (i : Nat) (L1 : List Nat), i ≤ 1000 ∧ s5 = .int .i64 (i : Int) ∧ Hid (RcX w wr r g cap s l p x y L M k i L1)) (fun i _ => N - (intOf i).toNat)
  case atStart => exact ⟨L.length, _, hL1, rfl, H1⟩
  case round =>
    obtain ⟨i, L1, hi, rfl, HX⟩ := hrel
    clear H1
    obtain ⟨_, _, _, t3, _⟩ := HX.out.1.reads
    obtain ⟨u0, _, u2, _, uL, uN⟩ := HX.out.1.2.2.1.1.reads
    by_cases hlt : i < L1.length
    · have hd : decide ((i : Int) < (L1.length : Int)) = true := decide_eq_true (by omega)
      obtain ⟨a, ha⟩ : ∃ a, L1[i]? = some a := ⟨_, List.getElem?_eq_getElem hlt⟩
      have v1 := u2 i a ha
      have HA := hide (And.intro ha (HX.out.1.2.2.1.1.1.1.2 a (List.mem_of_getElem? ha)))
      have HU := hide (And.intro uL (HN.out ▸ uN : N ≤ 1000))
      have HI := hide (And.intro hi hlt)
      have hi1 : i + 1 ≤ 1000 := by omega
      clear u2 ha uL uN hi
      obtain ⟨n1, hn1⟩ : ∃ n1, L1.length = n1 := ⟨_, rfl⟩
      rw [hn1] at u0 hd hlt
      have HN1 := hide hn1
      clear hn1
      go_wp2_with fail
      refine (follow_any HP.out HX.out.1 HA.out.2).mono ?_
      rintro e_ w2 ⟨rfl, h2, k2⟩
      have H2 : Hid (RcX w w2 r g cap s l p x y L M k (i + 1) (insAll L1 (eps l s.size p a))) := hide ⟨h2, HX.out.2.1.next HE.out HA.out.1, HX.out.2.2.trans k2⟩
      clear h2 k2 t3 u0 v1
      have hw : wrap64 ((i : Int) + 1) = ((i + 1 : Nat) : Int) := by simp only [wrap64]; omega
      go_wp2
      go_roundw
      case rel => exact ⟨i + 1, _, hi1, by go_num, H2⟩
      case measure =>
        have h3 := HI.out.2
        have h4 := HU.out.1
        have h5 := HN.out
        simp [intOf]
        omega
    · have hd : decide ((i : Int) < (L1.length : Int)) = false := decide_eq_false (by omega)
      have HR := hide (And.intro HX.out.1 (And.intro (HX.out.2.1.done (by omega)) HX.out.2.2))
      obtain ⟨n1, hn1⟩ : ∃ n1, L1.length = n1 := ⟨_, rfl⟩
      rw [hn1] at u0 hd hlt
      clear hn1 u2 uL uN
      go_wp2
      go_end0
      exact ⟨rfl, L1, HR.out.1, HR.out.2.1, HR.out.2.2⟩
set_option maxRecDepth 100000 in
set_option maxHeartbeats 2000000 in
theorem begin_any {w : World} {r g cap : Nat} {s : ByteArray} {l st : List In} {p : Nat} {x y : Sb} {L M : List Nat} (hp : Pg l st) (h : RnAt w r g cap s l p x y L M) (hE : EC l s.size p L) :
    Calls Try.prog 11 #[.pointer (some ⟨r, 0, none⟩)] w fun e w' => e = .returned (.tuple #[]) ∧ ∃ L', RnAt w' r g cap s l p x y L' M ∧ Rea l s.size p L 0 L' ∧ Kp x.all w w' := by
  have H := hide h
  have HE := hide hE
  have HP := hide hp
  clear h hE hp
  go_enter Try.func11, Try.ntmps11
  go_wp2_with fail
  refine (reach_any (k := 0) HP.out H.out HE.out H.out.2.2.1.1.1.2.1).mono ?_
  rintro e_ w1 ⟨rfl, h1⟩
  have H1 := hide h1
  clear h1
  go_wp2
  go_end0
  exact ⟨rfl, H1.out⟩
set_option maxRecDepth 100000 in
set_option maxHeartbeats 2000000 in
theorem isDone_any {w : World} {r g cap : Nat} {s : ByteArray} {l st : List In} {p : Nat} {x y : Sb} {L M : List Nat} (hp : Pg l st) (h : RnAt w r g cap s l p x y L M) :
    Calls Try.prog 13 #[.pointer (some ⟨r, 0, none⟩)] w fun e w' => e = .returned (.bool (decide (st.length ∈ L))) ∧ RnAt w' r g cap s l p x y L M ∧ Kp [] w w' := by
  have H := hide h
  obtain ⟨r0, _, _, r3, _⟩ := h.reads
  obtain ⟨_, k1, _, k3, _, hN⟩ := h.2.2.1.1.reads
  have hl : l.length = st.length + 1 := by rw [hp.1]; simp
  have k4 := k3 st.length (by omega)
  rw [hl] at r0 k1 hN
  clear h hp k3 hl
  generalize st.length = n at *
  generalize decide (n ∈ L) = b at *
  have hw : wrap64 (((n + 1 : Nat) : Int) - 1) = (n : Int) := by simp only [wrap64]; omega
  go_enter Try.func13, Try.ntmps13
  go_wp2_with fail
  go_quiet (fail)
  have HF := hide (And.intro (H.out.quiet ((Kp.refl [] w).drew nq)) ((Kp.refl [] w).drew nq))
  generalize w.drewN nq = w2 at *
  go_wp2
  go_ret
  exact ⟨rfl, HF.out.1, HF.out.2⟩
end Go.Proofs.Ytmjnedafcfolgaa
