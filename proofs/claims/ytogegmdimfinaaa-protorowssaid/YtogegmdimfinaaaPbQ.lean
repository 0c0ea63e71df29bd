/- Few fields: how many, and how many bytes. -/
import Derived.Test.YtogegmdimfinaaaPbP
namespace Go.Proofs.Ytogegmdimfinaaa
open Go.RowKit
theorem ix_puts (w : World) (b o n c k : Nat) (hk : k < n) : (Instr.indexAt 22 (.slice (some ⟨b, o, none⟩) n c) (.int .i64 (k : Int))).run Try.prog w = .ok (.pointer (some ⟨b, o + k * 4, none⟩)) w := by
  have h1 : decide ((k : Int) < 0) = false := decide_eq_false (by omega)
  have h2 : ¬ ((n : Int) ≤ (k : Int)) := by omega
  go_simp
/-- All bytes of fields to put. -/
def tot (ps : List Pu) : Nat := (ps.map fun p => p.b.length).sum
theorem tot_step (ps : List Pu) (k : Nat) (p : Pu) (h : ps[k]? = some p) : tot (ps.take (k + 1)) = tot (ps.take k) + p.b.length := by
  unfold tot
  rw [List.take_add_one, h]
  simp
/-- What is told of them. -/
def FewP (ps : List Pu) (w : World) (e : Ending) (w' : World) : Prop := ∃ F : Bool, e = .returned (.bool F) ∧ (F = true → ps.length ≤ 60 ∧ tot ps ≤ 4000) ∧ Below w.heap.size w w'
set_option maxRecDepth 100000 in
set_option maxHeartbeats 2000000 in
theorem few_any {v : Value} {ps : List Pu} {w : World} (h : PsAt w v ps) : Calls Try.prog 9 #[v] w (FewP ps w) := by
  obtain ⟨b, o, c, ao, rfl, hc, hl, hh⟩ := h
  have HH := hide hh
  clear hh
  go_enter Try.func9, Try.ntmps9
  go_wp2
  go_loopw [8, 3] (fun i s wr => ∃ k : Nat, k ≤ ps.length ∧ k ≤ 60 ∧ i = .int .i64 (k : Int) ∧ s = .int .i64 ((tot (ps.take k) : Nat) : Int) ∧ tot (ps.take k) ≤ 4000 ∧ Below w.heap.size w wr) (fun i _ _ => ps.length - (intOf i).toNat)
  case atStart => exact ⟨0, Nat.zero_le _, by decide, rfl, rfl, Nat.zero_le _, Below.refl _ _⟩
  case round =>
    obtain ⟨k, hk, hk60, rfl, rfl, ht, hB⟩ := hrel
    by_cases hlt : k < ps.length
    · obtain ⟨rfl, hbb, hps⟩ := HH.out (fun e => by subst e; simp at hlt)
      obtain ⟨p, hp⟩ : ∃ p, ps[k]? = some p := ⟨_, List.getElem?_eq_getElem hlt⟩
      obtain ⟨bv, c0, c1, c2, c3, hbs, _, _, hbl⟩ := (hps k p hp).ext hbb hB
      have hix := fun w_ => ix_puts w_ b o ps.length c k hlt
      have hst := tot_step ps k p hp
      obtain ⟨ba, bc, rfl, _, _⟩ := hbs.len
      obtain ⟨S, hS⟩ : ∃ S, tot (ps.take k) = S := ⟨_, rfl⟩
      rw [hS] at ht hst ⊢
      have HX := hide (And.intro hst hB)
      have hB2 := hide (Below.chain hB (alloc_below wr (.cells #[.int .i64 p.num, .bool p.whole, .int .u64 (p.n : Int), .slice ba p.b.length bc] 32)))
      clear hst hB hbs hps hS hbb
      generalize p.b.length = M at *
      generalize p.num = pn at *
      generalize p.whole = pw at *
      generalize p.n = pN at *
      by_cases hk6 : k < 60
      · have hd1 : decide ((60 : Int) ≤ (k : Int)) = false := decide_eq_false (by omega)
        by_cases hSM : S + M ≤ 4000
        · have hd2 : decide ((4000 : Int) < (S : Int) + (M : Int)) = false := decide_eq_false (by omega)
          go_wp2
          go_roundw
          case rel => exact ⟨k + 1, by omega, by omega, by go_num, by rw [HX.out.1]; go_num, by rw [HX.out.1]; exact hSM, hB2.out⟩
          case measure => simp [intOf]; omega
        · have hd2 : decide ((4000 : Int) < (S : Int) + (M : Int)) = true := decide_eq_true (by omega)
          go_wp2
          go_ret
          exact ⟨false, rfl, (fun h => by cases h), hB2.out⟩
      · have hd1 : decide ((60 : Int) ≤ (k : Int)) = true := decide_eq_true (by omega)
        go_wp2
        go_ret
        exact ⟨false, rfl, (fun h => by cases h), hB2.out⟩
    · obtain rfl : k = ps.length := by omega
      rw [List.take_of_length_le (Nat.le_refl _)] at ht ⊢
      have HX := hide (And.intro hk60 (And.intro ht hB))
      obtain ⟨S, hS⟩ : ∃ S, tot ps = S := ⟨_, rfl⟩
      rw [hS]
      clear hS
      clear ht hB hk60
      go_wp2
      go_ret
      exact ⟨true, rfl, fun _ => ⟨HX.out.1, HX.out.2.1⟩, HX.out.2.2⟩
end Go.Proofs.Ytogegmdimfinaaa
