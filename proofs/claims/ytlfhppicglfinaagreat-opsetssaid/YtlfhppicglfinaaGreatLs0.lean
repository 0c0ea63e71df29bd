/- Sets of terms as rising rows: what is in both, in either; how many there are. -/
import Derived.Test.YtlfhppicglfinaaGreatOf
import Derived.Test.YtlfhppicglfinaaGreatOp2
import Derived.Test.YtlfhppicglfinaaGreatOp4
import Derived.Test.YtlfhppicglfinaaGreatOl1
import Derived.Test.YtlfhppicglfinaaGreatUn
namespace Go.Proofs.YtlfhppicglfinaaGreat
open Go.RowKit
def setT (A : List Tm) : Tm := .mk 7 0 ⟨#[]⟩ A
/-- A row that a set has. -/
structure SetL (A : List Tm) : Prop where
  fit : fitB A = true
  rise : Rise A
  flat : ∀ z ∈ A, z.l = []
theorem SetL.of {l zs : List Tm} (hf : fitB l = true) (hz : IsSet l zs) (hfl : ∀ z ∈ zs, Fl z) : SetL zs := ⟨fit_same hz.2.2 (fun t ht => (hz.2.1 t).1 ht) hf, hz.1, fun z h => (hfl z h).1⟩
theorem SetL.is {A : List Tm} (h : SetL A) : IsSet A A := ⟨h.rise, fun _ => Iff.rfl, Nat.le_refl _⟩
theorem SetL.fix {A : List Tm} (h : SetL A) : fixT (setT A) = true := by
  unfold fixT
  have := set_may h.fit h.is
  unfold setT
  rw [this]; rfl
theorem SetL.len {A : List Tm} (h : SetL A) : A.length ≤ 16 := (fit_flat h.fit).1
theorem has_iff {A : List Tm} {t : Tm} (hA : ∀ z ∈ A, z.l = []) (ht : t.l = []) : hasT (setT A) t = true ↔ t ∈ A := by
  show (((7 : Int) == 7) && (A.any fun x => cp x t == 0)) = true ↔ t ∈ A
  rw [show ((7 : Int) == 7) = true from rfl, Bool.true_and, List.any_eq_true]
  constructor
  · rintro ⟨x, hx, h⟩
    have e := flat_eq (hA x hx) ht (by simpa using h)
    rwa [← e]
  · exact fun h => ⟨t, h, by rw [cp_refl]; rfl⟩
theorem mem_sel {b : Tm} {i : Bool} {l : List Tm} {t : Tm} : t ∈ sel b i l ↔ t ∈ l ∧ hasT b t = i := by
  unfold sel
  rw [List.mem_filter]
  simp
theorem rise_sel {b : Tm} {i : Bool} {l : List Tm} (h : Rise l) : Rise (sel b i l) := pair_rise ((rise_pair h).filter _)
theorem SetL.sel {b : Tm} {i : Bool} {A : List Tm} (h : SetL A) : SetL (sel b i A) := ⟨fit_same (sel_len _ _ _) (fun _ ht => (mem_sel.1 ht).1) h.fit, rise_sel h.rise, fun z hz => h.flat z (mem_sel.1 hz).1⟩
theorem SetL.self {A : List Tm} (h : SetL A) {r : Tm} {E : Int} (hR : SetR A r E) : r = setT A ∧ E = 0 := by
  obtain ⟨e, zs, rfl, hz, _⟩ := hR.1 h.fit
  refine ⟨?_, e⟩
  rw [rise_uniq hz.1 h.rise hz.2.1]
  rfl
theorem sel_both (b : Tm) : ∀ l : List Tm, (sel b true l).length + (sel b false l).length = l.length
  | [] => rfl
  | x :: l => by
    have ih := sel_both b l
    unfold sel at *
    rw [List.filter_cons, List.filter_cons]
    cases h : hasT b x with
    | true =>
      rw [if_pos (by decide), if_neg (by decide), List.length_cons, List.length_cons]
      omega
    | false =>
      rw [if_neg (by decide), if_pos (by decide), List.length_cons, List.length_cons]
      omega
theorem sel_all {A : List Tm} (h : SetL A) : sel (setT A) true A = A ∧ sel (setT A) false A = [] := by
  have hh : ∀ t ∈ A, hasT (setT A) t = true := fun t ht => (has_iff h.flat (h.flat t ht)).2 ht
  constructor
  · unfold sel
    rw [List.filter_eq_self]
    exact fun t ht => by rw [hh t ht]; rfl
  · unfold sel
    rw [List.filter_eq_nil_iff]
    exact fun t ht => by rw [hh t ht]; decide
/-- As many as both, less what is in both. -/
theorem set_count {A B Y : List Tm} (hA : SetL A) (hB : SetL B) (hY : IsSet (A ++ sel (setT A) false B) Y) (hYf : ∀ z ∈ Y, z.l = []) : (sel (setT B) true A).length + Y.length = A.length + B.length := by
  have e1 : sel (setT B) true A = sel (setT A) true B := rise_uniq (rise_sel hA.rise) (rise_sel hB.rise) fun t => by
    rw [mem_sel, mem_sel]
    constructor
    · rintro ⟨h1, h2⟩
      exact ⟨(has_iff hB.flat (hA.flat t h1)).1 h2, (has_iff hA.flat (hA.flat t h1)).2 h1⟩
    · rintro ⟨h1, h2⟩
      exact ⟨(has_iff hA.flat (hB.flat t h1)).1 h2, (has_iff hB.flat (hB.flat t h1)).2 h1⟩
  have e2 : sel (setT A) true Y = A := rise_uniq (rise_sel hY.1) hA.rise fun t => by
    rw [mem_sel]
    constructor
    · rintro ⟨h1, h2⟩
      exact (has_iff hA.flat (hYf t h1)).1 h2
    · intro h
      exact ⟨(hY.2.1 t).2 (List.mem_append_left _ h), (has_iff hA.flat (hA.flat t h)).2 h⟩
  have e3 : sel (setT A) false Y = sel (setT A) false B := rise_uniq (rise_sel hY.1) (rise_sel hB.rise) fun t => by
    rw [mem_sel, mem_sel]
    constructor
    · rintro ⟨h1, h2⟩
      rcases List.mem_append.1 ((hY.2.1 t).1 h1) with h | h
      · rw [(has_iff hA.flat (hA.flat t h)).2 h] at h2; cases h2
      · exact mem_sel.1 h
    · rintro ⟨h1, h2⟩
      exact ⟨(hY.2.1 t).2 (List.mem_append_right _ (mem_sel.2 ⟨h1, h2⟩)), h2⟩
  have c1 := sel_both (setT A) B
  have c2 := sel_both (setT A) Y
  rw [e2, e3] at c2
  rw [e1]
  omega
abbrev sC (A : List Tm) (ao : Option Addr) (c : Nat) : Array Value := #[.int .i64 7, .int .i64 0, .string ⟨#[]⟩, .slice ao A.length c]
/-- An answer that is a set. -/
def SetA (X : List Tm) (w : World) (e : Ending) (w' : World) : Prop := ∃ ao c, e = .returned (.tuple #[.agg (sC X ao c), .int .i64 0]) ∧ TAt w' (setT X) ao c ∧ Below w.heap.size w w'
/-- An answer that is none. -/
def NoA (E : Int) (w : World) (e : Ending) (w' : World) : Prop := ∃ ao c, e = .returned (.tuple #[.agg #[.int .i64 0, .int .i64 0, .string ⟨#[]⟩, .slice ao 0 c], .int .i64 E]) ∧ Below w.heap.size w w'
variable {A B : List Tm} {a1 : Option Addr} {c1 : Nat} {a2 : Option Addr} {c2 : Nat} {w : World}
theorem s15 (hA : SetL A) (hB : SetL B) (ha : TAt w (setT A) a1 c1) (hb : TAt w (setT B) a2 c2) : Calls Tryz.prog 12 #[.int .i64 15, .agg (sC A a1 c1), .agg (sC B a2 c2)] w (SetA (sel (setT B) true A) w) := by
  have h := bin15 (R := SetR (sel (setT B) true A)) ha hb hA.fix hB.fix rfl fun W _ h1 h2 => meet_any h1 h2 hA.len
  refine h.mono ?_
  rintro e w' ⟨r, a, c, E, rfl, ht, hR, _, hb⟩
  obtain ⟨rfl, rfl⟩ := hA.sel.self hR
  exact ⟨a, c, rfl, ht, hb⟩
theorem s16_self (hA : SetL A) (ha : TAt w (setT A) a1 c1) : Calls Tryz.prog 12 #[.int .i64 16, .agg (sC A a1 c1), .agg (sC A a1 c1)] w (SetA A w) := by
  have hl : likeS (setT A) (setT A) = true := by
    unfold likeS setT
    cases A with
    | nil => rfl
    | cons x r => simp [Tm.l]
  have hs : A ++ sel (setT A) false A = A := by rw [(sel_all hA).2, List.append_nil]
  have h := bin16 (R := JoinR (setT A) (setT A)) ha ha hA.fix hA.fix rfl fun W _ h1 h2 => join_like h1 h2 hl hA.len hA.len hA.flat hA.flat
  refine h.mono ?_
  rintro e w' ⟨r, a, c, E, rfl, ht, hR, _, hb⟩
  have hR2 := hR.2.2 hl (by show (A ++ sel (setT A) false A).length ≤ 16; rw [hs]; exact hA.len)
  rw [show (setT A).l = A from rfl, hs] at hR2
  obtain ⟨rfl, rfl⟩ := hA.self hR2
  exact ⟨a, c, rfl, ht, hb⟩
theorem s16 (hA : SetL A) (hB : SetL B) : (∀ (w : World), TAt w (setT A) a1 c1 → TAt w (setT B) a2 c2 → Calls Tryz.prog 12 #[.int .i64 16, .agg (sC A a1 c1), .agg (sC B a2 c2)] w fun e w' => ∃ Y, IsSet (A ++ sel (setT A) false B) Y ∧ SetL Y ∧ SetA Y w e w') ∨
    (∃ E : Int, E ≠ 0 ∧ ∀ (w : World), TAt w (setT A) a1 c1 → TAt w (setT B) a2 c2 → Calls Tryz.prog 12 #[.int .i64 16, .agg (sC A a1 c1), .agg (sC B a2 c2)] w (NoA E w)) := by
  cases hl : likeS (setT A) (setT B) with
  | false =>
    refine .inr ⟨7, by decide, fun w ha hb => ?_⟩
    have h := bin16 (R := JoinR (setT A) (setT B)) ha hb hA.fix hB.fix rfl fun W _ h1 h2 => join_unlike h1 h2 hl
    refine h.mono ?_
    rintro e w' ⟨r, a, c, E, rfl, ht, hR, _, hb⟩
    obtain ⟨rfl, rfl⟩ := hR.1 hl
    exact ⟨a, c, rfl, hb⟩
  | true =>
    have h := fun (w : World) (ha : TAt w (setT A) a1 c1) (hb : TAt w (setT B) a2 c2) => bin16 (R := JoinR (setT A) (setT B)) ha hb hA.fix hB.fix rfl fun W _ h1 h2 => join_like h1 h2 hl hA.len hB.len hA.flat hB.flat
    by_cases h16 : 16 < (A ++ sel (setT A) false B).length
    · refine .inr ⟨4, by decide, fun w ha hb => (h w ha hb).mono ?_⟩
      rintro e w' ⟨r, a, c, E, rfl, ht, hR, _, hb⟩
      obtain ⟨rfl, rfl⟩ := hR.2.1 hl h16
      exact ⟨a, c, rfl, hb⟩
    · cases hf : fitB (A ++ sel (setT A) false B) with
      | false =>
        refine .inr ⟨1, by decide, fun w ha hb => (h w ha hb).mono ?_⟩
        rintro e w' ⟨r, a, c, E, rfl, ht, hR, _, hb⟩
        obtain ⟨rfl, rfl⟩ := (hR.2.2 hl (by show (A ++ sel (setT A) false B).length ≤ 16; omega)).2 hf
        exact ⟨a, c, rfl, hb⟩
      | true =>
        refine .inl fun w ha hb => (h w ha hb).mono ?_
        rintro e w' ⟨r, a, c, E, rfl, ht, hR, _, hb⟩
        obtain ⟨rfl, zs, rfl, hz, hfl⟩ := (hR.2.2 hl (by show (A ++ sel (setT A) false B).length ≤ 16; omega)).1 hf
        exact ⟨zs, hz, .of hf hz hfl, a, c, rfl, ht, hb⟩
set_option maxRecDepth 100000 in
theorem s11 {Y : List Tm} (hA : SetL A) (hY : SetL Y) (hs : ∀ t ∈ A, t ∈ Y) (hy : TAt w (setT Y) a2 c2) (ha : TAt w (setT A) a1 c1) : Calls Tryz.prog 12 #[.int .i64 11, .agg (sC Y a2 c2), .agg (sC A a1 c1)] w fun e w' => e = .returned (.tuple #[.agg #[.int .i64 6, .int .i64 1, .string ⟨#[]⟩, .slice none 0 0], .int .i64 0]) ∧ Below w.heap.size w w' := by
  have e : sel (setT Y) false A = [] := by
    unfold sel
    rw [List.filter_eq_nil_iff]
    exact fun t ht => by rw [(has_iff hY.flat (hA.flat t ht)).2 (hs t ht)]; decide
  show Calls Tryz.prog 12 #[.int .i64 11, tv (setT Y) a2 c2, tv (setT A) a1 c1] w (OpF (trueT true) 0 w)
  exact bin11F (a := setT Y) (b := setT A) (a1 := a2) (c1 := c2) (a2 := a1) (c2 := c1) (w := w) (r := trueT true) (E := 0) (trueT_fl _) hy ha hY.fix hA.fix rfl fun W _ h1 h2 => by
    have h := contains_set h1 h2 (show (7 : Int) ≠ 3 by decide) rfl hA.len
    rw [show (setT A).l = A from rfl, e] at h
    exact h
end Go.Proofs.YtlfhppicglfinaaGreat
