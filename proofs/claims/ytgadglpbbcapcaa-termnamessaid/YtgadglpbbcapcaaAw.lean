/- The set that every program must know: the law's own call answers true. -/
import Derived.Test.YtgadglpbbcapcaaUn
namespace Go.Proofs.Ytgadglpbbcapcaa
open Go.RowKit
def t3 : Tm := .mk 2 3 ⟨#[]⟩ []
def t1 : Tm := .mk 2 1 ⟨#[]⟩ []
theorem awake_set {r : Tm} {E : Int} (h : SetR [t3, t1, t3] r E) : E = 0 ∧ r = .mk 7 0 ⟨#[]⟩ [t1, t3] := by
  have hf : fitB [t3, t1, t3] = true := by decide +kernel
  obtain ⟨e, zs, rfl, hz, _⟩ := h.1 hf
  have hr : Rise [t1, t3] := fun j hj => by
    have : j = 0 := by simp at hj; omega
    subst this
    show cp t1 t3 < 0
    decide +kernel
  exact ⟨e, by rw [rise_uniq hz.1 hr fun t => by rw [hz.2.1 t]; simp; grind]⟩
set_option maxRecDepth 100000 in
theorem awake_any (w : World) : Calls Try.prog 10 #[] w fun e w' => e = .returned (.bool true) ∧ Below w.heap.size w w' := by
  go_enter Try.func10, Try.ntmps10
  have hg := heap_alloc_last w (.cells #[.int .i64 2, .int .i64 3, .string ⟨#[]⟩, .slice none 0 0, .int .i64 2, .int .i64 1, .string ⟨#[]⟩, .slice none 0 0, .int .i64 2, .int .i64 3, .string ⟨#[]⟩, .slice none 0 0] 24)
  have hrow : (w.alloc (.cells #[.int .i64 2, .int .i64 3, .string ⟨#[]⟩, .slice none 0 0, .int .i64 2, .int .i64 1, .string ⟨#[]⟩, .slice none 0 0, .int .i64 2, .int .i64 3, .string ⟨#[]⟩, .slice none 0 0] 24)).ownsRow w.heap.size 24 4 (.slice (some ⟨w.heap.size, 0, none⟩) 3 3) [t3, t1, t3].length (tcs [t3, t1, t3]) :=
    ⟨rfl, .inr ⟨w.heap.size, 3, _, rfl, Nat.le_refl _, hg, by decide, by decide, rfl, rfl⟩⟩
  have hfl : ∀ z ∈ [t3, t1, t3], Fl z := fun z hz => by
    simp at hz
    rcases hz with rfl | rfl | rfl <;> exact ⟨rfl, ⟨by decide, by decide⟩, ⟨by decide, by decide⟩, by decide, by decide, by decide⟩
  obtain ⟨a0, c0, e0, hL⟩ := row_lat hrow hfl
  injection e0 with e1 _ e2
  subst e1; subst e2
  have HS := hide (Set_any hL)
  have H0 := hide (alloc_below w (.cells #[.int .i64 2, .int .i64 3, .string ⟨#[]⟩, .slice none 0 0, .int .i64 2, .int .i64 1, .string ⟨#[]⟩, .slice none 0 0, .int .i64 2, .int .i64 3, .string ⟨#[]⟩, .slice none 0 0] 24))
  clear hg hrow hfl hL
  go_wp2_with fail
  refine HS.out.mono ?_
  rintro e w1 ⟨r, a, c, E, rfl, hr, hset, b1⟩
  obtain ⟨rfl, rfl⟩ := awake_set hset
  have HB := hide (Below.chain H0.out b1)
  obtain ⟨b, o, rfl, hb, hc⟩ := hr.list.read (by decide)
  obtain ⟨xa, xc, _, hc4⟩ := hc 0 t1 rfl
  rw [Nat.zero_mul, Nat.add_zero] at hc4
  have p1 : w1.cell? ⟨b, o + 1, none⟩ = some (.int .i64 1) := (hc4 w1 (Below.refl _ _)).2.1
  have N1 := hide (Name_any ⟨#[97, 58, 98]⟩ (by decide))
  have N2 := hide (Name_any ⟨#[104, 101, 120, 58, 97]⟩ (by decide))
  rw [show nameB ⟨#[97, 58, 98]⟩ = true by decide +kernel] at N1
  rw [show nameB ⟨#[104, 101, 120, 58, 97]⟩ = false by decide +kernel] at N2
  rw [show tv (.mk 7 0 ⟨#[]⟩ [t1, t3]) (some ⟨b, o, none⟩) c = .agg #[.int .i64 7, .int .i64 0, .string ⟨#[]⟩, .slice (some ⟨b, o, none⟩) 2 c] from rfl]
  clear H0 HS hset b1 hr hc hc4
  go_wp2_with fail
  refine (N1.out _).mono ?_
  rintro e w2 ⟨rfl, b2⟩
  replace HB := hide (Below.chain HB.out (Below.chain (alloc_below _ _) b2))
  clear b2 N1
  go_wp2_with fail
  refine (N2.out _).mono ?_
  rintro e w3 ⟨rfl, b3⟩
  replace HB := hide (Below.chain HB.out b3)
  clear b3 N2
  go_wp2
  go_ret
  exact ⟨rfl, HB.out⟩
end Go.Proofs.Ytgadglpbbcapcaa
