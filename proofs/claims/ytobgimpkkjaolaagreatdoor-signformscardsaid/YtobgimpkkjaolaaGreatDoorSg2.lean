/- What a seed's secret is, its public key, and what it signs: package sign's calls that make keys and signatures, in any world where the order, the exponent and the hash's tables lie as the program's text lays them. -/
import Derived.Test.YtobgimpkkjaolaaGreatDoorSg1
import Derived.Test.YtobgimpkkjaolaaGreatDoorFn5
import Derived.Deep.RegionWith
namespace Go.Proofs.YtobgimpkkjaolaaGreatDoor
open Go.RowKit
/-- The number and the prefix of a seed. -/
def scn (l : List Nat) : List Nat := Sc.clb ((shn l).take 32)
def scp (l : List Nat) : List Nat := (shn l).drop 32
theorem scn_len (l : List Nat) : (scn l).length = 32 := by
  have h : ((shn l).take 32).length = 32 := by rw [List.length_take, shn_len]; rfl
  unfold scn Sc.clb
  rw [if_pos h]
  unfold Sc.clampb
  rw [List.length_set, List.length_set, h]
theorem scp_len (l : List Nat) : (scp l).length = 32 := by unfold scp; rw [List.length_drop, shn_len]
/-- A point's bytes. -/
def pkP (P : Pt) : List Nat := pkb P.x P.y
theorem pkP_len (P : Pt) : (pkP P).length = 32 := pkb_len _ _
/-- The key of a number. -/
def pubOf (a : List Nat) : List Nat := pkP (Pt.mul (bval (a.take 32)) Bp)
/-- What a number and a prefix make of a message. -/
def sgr (p m : List Nat) : List Nat := hsh [p, m].flatten
def sgh (a p m : List Nat) : List Nat := hsh [pubOf (sgr p m), pubOf a, m].flatten
def sgs (a p m : List Nat) : List Nat := Sc.madb (sgh a p m) a (sgr p m)
def sigOf (a p m : List Nat) : List Nat := pubOf (sgr p m) ++ sgs a p m
theorem redb_len (l : List Nat) (h : l.length ≤ 64) : (Sc.redb l).length = 32 := by unfold Sc.redb; rw [if_pos h]; exact Sc.bys_len _ _
theorem hsh_len (l : List Nat) : (hsh l).length = 32 := redb_len _ (by rw [shn_len]; exact Nat.le_refl _)
theorem sgs_len (a p m : List Nat) (h : a.length = 32) : (sgs a p m).length = 32 := by
  unfold sgs Sc.madb sgh sgr
  rw [if_pos ⟨hsh_len _, h, hsh_len _⟩]; exact Sc.bys_len _ _
theorem pubOf_len (a : List Nat) : (pubOf a).length = 32 := pkP_len _
theorem sigOf_len (a p m : List Nat) (h : a.length = 32) : (sigOf a p m).length = 64 := by unfold sigOf; rw [List.length_append, pubOf_len, sgs_len a p m h]
/-- The low and the high half of a slice. -/
theorem sl_lo (w : World) (b o n c : Nat) (hn : 32 ≤ c) : (Instr.sliceAt 22 (.slice (some ⟨b, o, none⟩) n c) none (some (.int .i64 32)) none).run Tryz.prog w = .ok (.slice (some ⟨b, o, none⟩) 32 c) w :=
  Sh.run_slice_to w ⟨b, o, none⟩ n c 32 hn
theorem sl_hi (w : World) (b o n c : Nat) (hn : 32 ≤ n) (hc : 32 < c) : (Instr.sliceAt 22 (.slice (some ⟨b, o, none⟩) n c) (some (.int .i64 32)) none none).run Tryz.prog w = .ok (.slice (some ⟨b, o + 32, none⟩) (n - 32) (c - 32)) w := by
  have h := Sh.run_reslice w (some ⟨b, o, none⟩) n c 32 hn
  rw [if_neg (by omega)] at h
  exact h
theorem at_lo {w : World} {b o c : Nat} {l : List Nat} (h : BsAt w (.slice (some ⟨b, o, none⟩) 64 c) l) (hl : l.length = 64) : BsAt w (.slice (some ⟨b, o, none⟩) 32 c) (l.take 32) := by
  have h2 := BsAt.part (l := l) (by rw [hl]; exact h) (i := 0) (j := 32) (by omega) (by omega)
  simpa using h2
theorem at_hi {w : World} {b o c : Nat} {l : List Nat} (h : BsAt w (.slice (some ⟨b, o, none⟩) 64 c) l) (hl : l.length = 64) : BsAt w (.slice (some ⟨b, o + 32, none⟩) 32 (c - 32)) (l.drop 32) := by
  have h2 := BsAt.part (l := l) (by rw [hl]; exact h) (i := 32) (j := 64) (by omega) (by omega)
  rw [List.take_of_length_le (by omega)] at h2
  exact h2
theorem set2_row {w : World} {g : Nat} {x0 x1 v0 v1 : Value} {t : TypeId} (h : w.heap[g]? = some (.cells #[x0, x1] t (0, 0))) :
    ((w.setCell ⟨g, 0, none⟩ v0).setCell ⟨g, 1, none⟩ v1).heap[g]? = some (.cells #[v0, v1] t (0, 0)) := by
  have h1 := heap_setCell_same w g 0 _ t v0 h
  have h2 := heap_setCell_same _ g 1 _ t v1 h1
  simpa using h2
/-- A row of other things is none of these bytes. -/
theorem BsAt.off {w : World} {v : Value} {l : List Nat} (h : BsAt w v l) {g i : Nat} {x : Value} {cs : Array Value} {t : TypeId} (hr : w.heap[g]? = some (.cells cs t (0, 0))) (hn : ∀ (i : Nat) (n : Int), cs[i]? ≠ some (Value.int .u8 n)) : BsAt (w.setCell ⟨g, i, none⟩ x) v l := by
  obtain ⟨b, o, c, ao, e, hc, hm, hl, hh⟩ := h
  refine ⟨b, o, c, ao, e, hc, hm, hl, fun hne => ?_⟩
  obtain ⟨e1, hb, h2⟩ := hh hne
  have hbg : b ≠ g := fun e2 => by
    subst e2
    have h3 := h2 0 (by cases l with | nil => exact absurd rfl hne | cons => simp)
    rw [cell_of_row _ _ _ _ _ _ hr] at h3
    exact hn _ _ h3
  refine ⟨e1, Nat.lt_of_lt_of_le hb (by simp), fun k hk => ?_⟩
  rw [World.cell?_setCell_far _ _ _ _ (by simpa using Ne.symm hbg)]
  exact h2 k hk
theorem sl2_no (a b : Option Addr) (n m c d : Nat) : ∀ (i : Nat) (k : Int), (#[Value.slice a n c, .slice b m d] : Array Value)[i]? ≠ some (Value.int .u8 k) := fun i k => by
  match i with
  | 0 => simp
  | 1 => simp
  | j + 2 => simp
set_option maxRecDepth 100000 in
set_option maxHeartbeats 1000000 in
theorem secretOf_any {v : Value} {l : List Nat} {w : World} (h : BsAt w v l) (ht : Sh.Tabs w) (hl : l.length < 8000000000000000000) :
    Calls Tryz.prog 14 #[v] w fun e w' => ∃ a p, e = .returned (.agg #[a, p]) ∧ BsAt w' a (scn l) ∧ BsAt w' p (scp l) ∧ Below w.heap.size w w' := by
  obtain ⟨W0, hW0⟩ : ∃ W0, w.alloc (.cells #[.slice none 0 0, .slice none 0 0] 32) = W0 := ⟨_, rfl⟩
  have hb0 : Below w.heap.size w W0 := by rw [← hW0]; exact (Below.refl _ _).alloc (Nat.le_refl _) _
  have hr0 : W0.heap[w.heap.size]? = some (.cells #[.slice none 0 0, .slice none 0 0] 32 (0, 0)) := by rw [← hW0]; exact heap_alloc_last _ _
  have hs0 : W0.heap.size = w.heap.size + 1 := by rw [← hW0]; simp
  have HS := hide (Sh.shaSum_any (u8s l) v W0 (ht.below hb0 ht.2.2) (sh_at (h.ext hb0) (Nat.le_refl _) ⟨rfl, rfl, rfl, Nat.le_refl _, fun _ _ _ => rfl⟩) (by rw [u8s_len]; exact hl))
  have H0 := hide (And.intro hb0 (And.intro hr0 hs0))
  clear h ht hl hb0 hr0 hs0
  go_enter Tryz.func14, Tryz.ntmps14
  go_wp2_with fail
  clear hW0
  refine HS.out.mono ?_
  rintro e w1 ⟨v1, rfl, hown1, hb1⟩
  obtain ⟨hb0, hr0, hs0⟩ := H0.out
  have O := own_sh hown1 (Sh.shaB_len _)
  obtain ⟨S, hS⟩ : ∃ S, n8s (Sh.shaB (u8s l)) = S := ⟨_, rfl⟩
  have hS2 : shn l = S := hS
  have hSl : S.length = 64 := by rw [← hS2]; exact shn_len l
  rw [hS] at O
  obtain ⟨g, cap, rfl, hg1, hg2, hcap, _⟩ := O.form (by omega)
  rw [hSl] at hcap O
  have hat := O.at
  rw [hSl]
  have hc1 : 64 ≤ cap := hcap
  have s1 := fun w_ => sl_lo w_ g 0 64 cap (by omega)
  have s2 := fun w_ => sl_hi w_ g 0 64 cap (by omega) (by omega)
  have hb1' := hb0.trans (hb1.mono hb0.size)
  have hr1 : w1.heap[w.heap.size]? = some (.cells #[.slice none 0 0, .slice none 0 0] 32 (0, 0)) := Below.heap hb1 (by omega) hr0
  have lo := at_lo (l := S) hat hSl
  have hi := at_hi (l := S) hat hSl
  have HF : Hid (∀ W : World, Below w1.heap.size w1 W → Hands Tryz.prog 39 #[.slice (some ⟨g, 0, none⟩) 32 cap] W (isb (scn l))) := fun W hW => by
    have h2 := Sc.f_clamp (u := .slice (some ⟨g, 0, none⟩) 32 cap) (a := S.take 32) (w := W) (lo.ext hW)
    rw [← hS2] at h2
    exact h2
  have HI := hide (And.intro (show BsAt w1 (.slice (some ⟨g, 0 + 32, none⟩) (64 - 32) (cap - 32)) (scp l) by unfold scp; rw [hS2]; exact hi) (And.intro hb1' hr1))
  have hlt1 : w.heap.size < w1.heap.size := by have := hb1.size; omega
  clear hat lo hi O hown1 hS hS2 hSl hb1 hb0 hr0 hs0 hb1' hr1 HS H0 hcap hc1 hg1 hg2
  go_upto_region 2 with fail
  go_region_with (go_at_call 39; refine (HF.out _ ?hx).mono ?_; (case hx => exact Ext.drew _); rintro e w4 ⟨v4, rfl, b4, at4⟩; have at4' : BsAt w4 v4 (scn l) := at4; obtain ⟨ao4, c4, rfl, _, _⟩ := at4'.len; have r4 := Below.heap b4 hlt1 HI.out.2.2; obtain ⟨x4, y4⟩ := row_reads r4)
  all_goals
    have HO := hide (And.intro r4 (And.intro at4 b4))
    clear x4 y4 b4 at4 r4
    go_wp2
    obtain ⟨r4, at4, b4⟩ := HO.out
    obtain ⟨hi, hb1, _⟩ := HI.out
    have e4 := (Ext.drew w1).trans b4
    have hq : w.heap.size < w4.heap.size := Nat.lt_of_lt_of_le hlt1 e4.size
    have hi4 := hi.ext e4
    have h1 := heap_setCell_same w4 w.heap.size 0 _ _ (.slice ao4 (scn l).length c4) r4
    have B1 := (BsAt.off (i := 0) (x := .slice ao4 (scn l).length c4) at4 r4 (sl2_no _ _ _ _ _ _)).off (i := 1) (x := .slice (some ⟨g, 0 + 32, none⟩) (64 - 32) (cap - 32)) h1 (sl2_no _ _ _ _ _ _)
    have B2 := (BsAt.off (i := 0) (x := .slice ao4 (scn l).length c4) hi4 r4 (sl2_no _ _ _ _ _ _)).off (i := 1) (x := .slice (some ⟨g, 0 + 32, none⟩) (64 - 32) (cap - 32)) h1 (sl2_no _ _ _ _ _ _)
    exact bodyPost_ret_by (results_cell_row rfl _ _ w.heap.size 32 _ (0, 0) _ rfl (set2_row r4) Tryz.underlying32 rfl (by kernel_rfl)) rfl ⟨_, _, rfl, B1, B2, ((hb1.trans (e4.mono hb1.size)).setCell (p := ⟨w.heap.size, 0, none⟩) (Nat.le_refl _) _).setCell (p := ⟨w.heap.size, 1, none⟩) (Nat.le_refl _) _⟩
end Go.Proofs.YtobgimpkkjaolaaGreatDoor
