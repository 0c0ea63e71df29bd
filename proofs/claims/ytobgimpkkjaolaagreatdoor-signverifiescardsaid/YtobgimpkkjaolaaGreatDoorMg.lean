/- Keys and signatures of seeds, as the program's calls answer them. -/
import Derived.Test.YtobgimpkkjaolaaGreatDoorMh
import Derived.Test.YtobgimpkkjaolaaGreatDoorMc
import Derived.Test.YtobgimpkkjaolaaGreatDoorDec
import Derived.Test.YtobgimpkkjaolaaGreatDoorTyX
import Derived.Test.YtobgimpkkjaolaaGreatDoorFn5
import Derived.Deep.RegionWith
/- What hashes of several parts are, as numbers below the order: the calls each and hashed, in any world where the order and the hash's tables lie as the program's text lays them. -/
namespace Go.Proofs.YtobgimpkkjaolaaGreatDoor
open Go.RowKit
def u8s (l : List Nat) : List UInt8 := l.map fun n => UInt8.ofNat n
def n8s (l : List UInt8) : List Nat := l.map fun b => b.toNat
def shn (l : List Nat) : List Nat := n8s (Sh.shaB (u8s l))
theorem n8s_len (l : List UInt8) : (n8s l).length = l.length := by simp [n8s]
theorem u8s_len (l : List Nat) : (u8s l).length = l.length := by simp [u8s]
theorem shn_len (l : List Nat) : (shn l).length = 64 := by rw [shn, n8s_len, Sh.shaB_len]
theorem n8s_lim (l : List UInt8) : ∀ i, (n8s l).getD i 0 < 256 := fun i => by
  by_cases h : i < l.length
  · simp only [n8s, List.getD_eq_getElem?_getD, List.getElem?_map, List.getElem?_eq_getElem h, Option.map_some, Option.getD_some]
    exact l[i].toNat_lt
  · simp [n8s, List.getD_eq_getElem?_getD, List.getElem?_eq_none (Nat.le_of_not_lt h)]
theorem bc_nv (l : List UInt8) : l.map Sh.bc = nv (n8s l) := by
  unfold nv n8s
  rw [List.map_map]
  rfl
theorem nv_bc {l : List Nat} (h : ∀ i, l.getD i 0 < 256) : (u8s l).map Sh.bc = nv l := by
  rw [bc_nv]
  congr 1
  unfold n8s u8s
  rw [List.map_map]
  refine List.ext_getElem (by simp) fun i h1 h2 => ?_
  have h3 := h i
  simp only [List.getD_eq_getElem?_getD, List.getElem?_eq_getElem h2, Option.getD_some] at h3
  simp only [List.getElem_map, Function.comp, UInt8.toNat_ofNat']
  exact Nat.mod_eq_of_lt h3
theorem range_of {w : World} {b o : Nat} {l : List Nat} (h : ∀ i, i < l.length → w.cell? ⟨b, o + i, none⟩ = some (.int .u8 ((l.getD i 0 : Nat) : Int))) : w.rangeAt b o (nv l) := fun j v hv => by
  have hj : j < l.length := by
    have := (List.getElem?_eq_some_iff.1 hv).1
    rwa [nv_len] at this
  rw [h j hj, ← nv_get l j hj, hv]
theorem sh_at {W w : World} {v : Value} {l : List Nat} {g : Nat} (h : BsAt W v l) (hg : W.heap.size ≤ g) (hw : W.grownBy w (some g)) : Sh.BsAt w g v (u8s l) := by
  obtain ⟨b, o, c, ao, e, hc, hm, hl, hh⟩ := h
  refine ⟨ao, c, by rw [u8s_len]; exact e, by rw [u8s_len]; exact hc, fun hne => ?_⟩
  obtain ⟨e1, hb, hr⟩ := hh (fun e => hne (by rw [e]; rfl))
  refine ⟨b, o, e1, by omega, Nat.lt_of_lt_of_le hb hw.size, ?_⟩
  rw [nv_bc hl]
  have h2 := range_of hr
  exact fun j u hu => hw.cell (h2 j u hu) (by simp; omega)
theorem own_sh {w : World} {base : Nat} {v : Value} {m : List UInt8} {n : Nat} (h : w.ownsRow base 5 1 v n (m.map Sh.bc)) (hn : m.length = n) : Own w base v (n8s m) :=
  ⟨by rw [n8s_len, hn, ← bc_nv]; exact h, n8s_lim m⟩
def RsAt (w : World) (v : Value) (ls : List (List Nat)) : Prop :=
  ∃ (b : Nat) (vs : List Value), v = .slice (some ⟨b, 0, none⟩) ls.length ls.length ∧ b < w.heap.size ∧ vs.length = ls.length ∧ ls.length ≤ 1000 ∧
    ∀ i, i < ls.length → w.cell? ⟨b, i, none⟩ = some (vs.getD i undef) ∧ BsAt w (vs.getD i undef) (ls.getD i [])
theorem u8s_app (a b : List Nat) : u8s (a ++ b) = u8s a ++ u8s b := by simp [u8s]
theorem flat_step (ls : List (List Nat)) (k : Nat) (h : k < ls.length) : (ls.take (k + 1)).flatten = (ls.take k).flatten ++ ls.getD k [] := by
  rw [List.take_add_one, List.flatten_append, List.getElem?_eq_getElem h, List.getD_eq_getElem?_getD, List.getElem?_eq_getElem h]
  simp
theorem flat_le (ls : List (List Nat)) (k : Nat) : (ls.take k).flatten.length ≤ ls.flatten.length := by
  conv => rhs; rw [← List.take_append_drop k ls, List.flatten_append, List.length_append]
  omega
theorem ix_rows (w : World) (b n c k : Nat) (hk : k < n) : (Instr.indexAt 74 (.slice (some ⟨b, 0, none⟩) n c) (.int .i64 (k : Int))).run Tryz.prog w = .ok (.pointer (some ⟨b, k, none⟩)) w := by
  have h1 : decide ((k : Int) < 0) = false := decide_eq_false (by omega)
  have h2 : ¬ ((n : Int) ≤ (k : Int)) := by omega
  go_simp
set_option maxRecDepth 100000 in
set_option maxHeartbeats 1000000 in
theorem each_any (g : Nat) (m : List UInt8) (ls : List (List Nat)) (v : Value) (W w : World) (hg : 6 ≤ g) (hW : W.heap.size ≤ g) (hr : RsAt W v ls) (hgw : W.grownBy w (some g)) (h : Sh.Hashed w g m) (ht : Sh.Tabs w) (hm : m.length + ls.flatten.length < 9000000000000000000) :
    Calls Tryz.prog 64 #[v, .func (.func 65) #[.pointer (some ⟨g, 0, none⟩)] #[]] w fun e w' => e = .returned (.tuple #[]) ∧ Sh.Hashed w' g (m ++ u8s ls.flatten) ∧ w.grownBy w' (some g) := by
  obtain ⟨b, vs, rfl, hb, hvl, hn, hc⟩ := hr
  obtain ⟨n, hln⟩ : ∃ n, ls.length = n := ⟨_, rfl⟩
  rw [hln] at hvl hn hc ⊢
  have HC := hide (And.intro hc (And.intro hb (And.intro hgw (And.intro ht (And.intro hm hln)))))
  have H0 := hide h
  clear hc hgw h ht hb hln hm
  go_enter Tryz.func64, Tryz.ntmps64
  go_wp2
  go_loopw [8] (fun i wr => ∃ k : Nat, k ≤ n ∧ i = .int .i64 (k : Int) ∧ Sh.Hashed wr g (m ++ u8s (ls.take k).flatten) ∧ w.grownBy wr (some g)) (fun i _ => n - (intOf i).toNat)
  case atStart => exact ⟨0, Nat.zero_le _, rfl, by simpa [u8s] using H0.out, ⟨rfl, rfl, rfl, Nat.le_refl _, fun _ _ _ => rfl⟩⟩
  case round =>
    obtain ⟨k, hk, rfl, hhk, hgk⟩ := hrel
    by_cases hlt : k < n
    · have hd : decide ((k : Int) < (n : Int)) = true := decide_eq_true (by omega)
      obtain ⟨hc, hb, hgw, ht, hm, hln⟩ := HC.out
      obtain ⟨hcell, hbs⟩ := hc k hlt
      have hWr : W.grownBy wr (some g) := Sh.grown_trans hgw hgk
      have hcr : wr.cell? ⟨b, k, none⟩ = some (vs.getD k undef) := hWr.cell hcell (by simp; omega)
      have hbl := flat_le ls (k + 1)
      rw [flat_step ls k (by omega), List.length_append] at hbl
      have HW := hide (Sh.write_any g (m ++ u8s (ls.take k).flatten) (u8s (ls.getD k [])) (vs.getD k undef) wr hg hhk (Sh.tabs_grown ht hgk hg) (sh_at hbs hW hWr) (by rw [List.length_append, u8s_len, u8s_len]; omega))
      have HX := hide (And.intro hgk hln)
      have hix := fun w_ => ix_rows w_ b n n k hlt
      generalize vs.getD k undef = pv at *
      clear hc hb hgw ht hm hln hcell hbs hWr hbl hhk hgk
      go_wp2_with fail
      refine HW.out.mono ?_
      rintro e w1 ⟨rfl, h1, h2⟩
      obtain ⟨hgk, hln⟩ := HX.out
      have R := hide (And.intro (show Sh.Hashed w1 g (m ++ u8s (ls.take (k + 1)).flatten) by rw [flat_step ls k (by omega), u8s_app, ← List.append_assoc]; exact h1) (Sh.grown_trans hgk h2))
      clear h1 h2 hgk hln hix hcr
      go_wp2
      go_roundw
      case rel => exact ⟨k + 1, by omega, by go_num, R.out.1, R.out.2⟩
      case measure => simp [intOf]; omega
    · obtain rfl : k = n := by omega
      have hd : decide ((k : Int) < (k : Int)) = false := decide_eq_false (by omega)
      have HR := hide (And.intro hhk hgk)
      clear hhk hgk
      go_wp2
      go_end0
      obtain ⟨h1, h2⟩ := HR.out
      rw [List.take_of_length_le (by rw [HC.out.2.2.2.2.2]; exact Nat.le_refl _)] at h1
      exact ⟨rfl, h1, h2⟩
def hsh (l : List Nat) : List Nat := Sc.redb (shn l)
set_option maxRecDepth 100000 in
set_option maxHeartbeats 1000000 in
theorem hashed_any {v : Value} {ls : List (List Nat)} {w : World} (hr : RsAt w v ls) (ht : Sh.Tabs w) (hL : Sc.Laid w) (hm : ls.flatten.length < 8000000000000000000) : Hands Tryz.prog 30 #[v] w (isb (hsh ls.flatten)) := by
  suffices HH : ∀ R_ : STy, (∀ W v, BsAt W v (hsh ls.flatten) → R_.p W v) → Hands Tryz.prog 30 #[v] w R_ from HH _ (fun _ _ h => h)
  intro R_ hR_
  have HR := hide hR_
  have HT := hide (And.intro hr (And.intro ht hL))
  clear hR_ hr ht hL
  unfold Hands
  go_enter Tryz.func30, Tryz.ntmps30
  go_wp2_with fail
  refine (Sh.new_any w).mono ?_
  rintro e w1 ⟨rfl, h1, hb1, hs1⟩
  obtain ⟨hr, ht, hL⟩ := HT.out
  have HE := hide (each_any w.heap.size [] ls v w w1 ht.2.2 (Nat.le_refl _) hr (Sh.grown_of_below hb1) ⟨_, _, _, h1, Sh.HInv.zero⟩ (ht.below hb1 ht.2.2) (by simp only [List.length_nil]; omega))
  have HB := hide (And.intro hb1 (And.intro hs1 ht))
  clear h1 hb1 hs1 hr ht hL
  go_wp2_with fail
  refine HE.out.mono ?_
  rintro e w2 ⟨rfl, h2, hg2⟩
  obtain ⟨hb1, hs1, ht⟩ := HB.out
  have hb2 : Below w.heap.size w w2 := hb1.trans ⟨hg2.os, hg2.tape, hg2.output, hg2.size, fun k hk => hg2.block k (by omega) (by simp; omega)⟩
  have HS := hide (Sh.sum_any w.heap.size _ w2 (by have := hg2.size; omega) h2 (ht.below hb2 ht.2.2) (by rw [List.nil_append, u8s_len]; exact hm))
  have HB2 := hide hb2
  clear h2 hg2 hb1 hs1 ht hb2 HE HB
  go_wp2_with fail
  refine HS.out.mono ?_
  rintro e w3 ⟨v3, rfl, hown3, hb3⟩
  have hb4 := Below.chain HB2.out hb3
  have O := (own_sh hown3 (Sh.shaB_len _)).at
  rw [List.nil_append] at O
  have HF := hide (Sc.f_red (u := v3) (a := shn ls.flatten) (w := w3) O ((HT.out.2.2).step hb4))
  have HB4 := hide hb4
  clear hown3 hb3 hb4 O HS HB2
  go_wp2_with fail
  refine HF.out.mono ?_
  rintro e w5 ⟨v5, rfl, hb5, hat⟩
  have R := hide (And.intro (Below.chain HB4.out hb5) (HR.out w5 v5 hat))
  clear hb5 hat
  go_wp2
  go_ret
  exact ⟨_, rfl, R.out.1, R.out.2⟩
end Go.Proofs.YtobgimpkkjaolaaGreatDoor
/- What a seed's secret is, its public key, and what it signs: package sign's calls that make keys and signatures, in any world where the order, the exponent and the hash's tables lie as the program's text lays them. -/
namespace Go.Proofs.YtobgimpkkjaolaaGreatDoor
open Go.RowKit
def scn (l : List Nat) : List Nat := Sc.clb ((shn l).take 32)
def scp (l : List Nat) : List Nat := (shn l).drop 32
theorem scn_len (l : List Nat) : (scn l).length = 32 := by
  have h : ((shn l).take 32).length = 32 := by rw [List.length_take, shn_len]; rfl
  unfold scn Sc.clb
  rw [if_pos h]
  unfold Sc.clampb
  rw [List.length_set, List.length_set, h]
theorem scp_len (l : List Nat) : (scp l).length = 32 := by unfold scp; rw [List.length_drop, shn_len]
def pkP (P : Pt) : List Nat := pkb P.x P.y
theorem pkP_len (P : Pt) : (pkP P).length = 32 := pkb_len _ _
def pubOf (a : List Nat) : List Nat := pkP (Pt.mul (bval (a.take 32)) Bp)
def sgr (p m : List Nat) : List Nat := hsh [p, m].flatten
def sgh (a p m : List Nat) : List Nat := hsh [pubOf (sgr p m), pubOf a, m].flatten
def sgs (a p m : List Nat) : List Nat := Sc.madb (sgh a p m) a (sgr p m)
def sigOf (a p m : List Nat) : List Nat := pubOf (sgr p m) ++ sgs a p m
theorem redb_len (l : List Nat) (h : l.length ≤ 64) : (Sc.redb l).length = 32 := by unfold Sc.redb; rw [if_pos h]; exact Sc.bys_len _ _
theorem hsh_len (l : List Nat) : (hsh l).length = 32 := redb_len _ (by rw [shn_len]; exact Nat.le_refl _)
theorem sgs_len (a p m : List Nat) (h : a.length = 32) : (sgs a p m).length = 32 := by
  unfold sgs Sc.madb sgh sgr
  rw [if_pos ⟨hsh_len _, h, hsh_len _⟩]; exact Sc.bys_len _ _
theorem pubOf_len (a : List Nat) : (pubOf a).length = 32 := pkP_len _
theorem sigOf_len (a p m : List Nat) (h : a.length = 32) : (sigOf a p m).length = 64 := by unfold sigOf; rw [List.length_append, pubOf_len, sgs_len a p m h]
theorem sl_lo (w : World) (b o n c : Nat) (hn : 32 ≤ c) : (Instr.sliceAt 22 (.slice (some ⟨b, o, none⟩) n c) none (some (.int .i64 32)) none).run Tryz.prog w = .ok (.slice (some ⟨b, o, none⟩) 32 c) w :=
  Sh.run_slice_to w ⟨b, o, none⟩ n c 32 hn
theorem sl_hi (w : World) (b o n c : Nat) (hn : 32 ≤ n) (hc : 32 < c) : (Instr.sliceAt 22 (.slice (some ⟨b, o, none⟩) n c) (some (.int .i64 32)) none none).run Tryz.prog w = .ok (.slice (some ⟨b, o + 32, none⟩) (n - 32) (c - 32)) w := by
  have h := Sh.run_reslice w (some ⟨b, o, none⟩) n c 32 hn
  rw [if_neg (by omega)] at h
  exact h
theorem at_lo {w : World} {b o c : Nat} {l : List Nat} (h : BsAt w (.slice (some ⟨b, o, none⟩) 64 c) l) (hl : l.length = 64) : BsAt w (.slice (some ⟨b, o, none⟩) 32 c) (l.take 32) := by
  have h2 := BsAt.part (l := l) (by rw [hl]; exact h) (i := 0) (j := 32) (by omega) (by omega)
  simpa using h2
theorem at_hi {w : World} {b o c : Nat} {l : List Nat} (h : BsAt w (.slice (some ⟨b, o, none⟩) 64 c) l) (hl : l.length = 64) : BsAt w (.slice (some ⟨b, o + 32, none⟩) 32 (c - 32)) (l.drop 32) := by
  have h2 := BsAt.part (l := l) (by rw [hl]; exact h) (i := 32) (j := 64) (by omega) (by omega)
  rw [List.take_of_length_le (by omega)] at h2
  exact h2
theorem set2_row {w : World} {g : Nat} {x0 x1 v0 v1 : Value} {t : TypeId} (h : w.heap[g]? = some (.cells #[x0, x1] t (0, 0))) :
    ((w.setCell ⟨g, 0, none⟩ v0).setCell ⟨g, 1, none⟩ v1).heap[g]? = some (.cells #[v0, v1] t (0, 0)) := by
  have h1 := heap_setCell_same w g 0 _ t v0 h
  have h2 := heap_setCell_same _ g 1 _ t v1 h1
  simpa using h2
theorem BsAt.off {w : World} {v : Value} {l : List Nat} (h : BsAt w v l) {g i : Nat} {x : Value} {cs : Array Value} {t : TypeId} (hr : w.heap[g]? = some (.cells cs t (0, 0))) (hn : ∀ (i : Nat) (n : Int), cs[i]? ≠ some (Value.int .u8 n)) : BsAt (w.setCell ⟨g, i, none⟩ x) v l := by
  obtain ⟨b, o, c, ao, e, hc, hm, hl, hh⟩ := h
  refine ⟨b, o, c, ao, e, hc, hm, hl, fun hne => ?_⟩
  obtain ⟨e1, hb, h2⟩ := hh hne
  have hbg : b ≠ g := fun e2 => by
    subst e2
    have h3 := h2 0 (by cases l with | nil => exact absurd rfl hne | cons => simp)
    rw [cell_of_row _ _ _ _ _ _ hr] at h3
    exact hn _ _ h3
  refine ⟨e1, Nat.lt_of_lt_of_le hb (by simp), fun k hk => ?_⟩
  rw [World.cell?_setCell_far _ _ _ _ (by simpa using Ne.symm hbg)]
  exact h2 k hk
theorem sl2_no (a b : Option Addr) (n m c d : Nat) : ∀ (i : Nat) (k : Int), (#[Value.slice a n c, .slice b m d] : Array Value)[i]? ≠ some (Value.int .u8 k) := fun i k => by
  match i with
  | 0 => simp
  | 1 => simp
  | j + 2 => simp
set_option maxRecDepth 100000 in
set_option maxHeartbeats 1000000 in
theorem secretOf_any {v : Value} {l : List Nat} {w : World} (h : BsAt w v l) (ht : Sh.Tabs w) (hl : l.length < 8000000000000000000) :
    Calls Tryz.prog 14 #[v] w fun e w' => ∃ a p, e = .returned (.agg #[a, p]) ∧ BsAt w' a (scn l) ∧ BsAt w' p (scp l) ∧ Below w.heap.size w w' := by
  obtain ⟨W0, hW0⟩ : ∃ W0, w.alloc (.cells #[.slice none 0 0, .slice none 0 0] 32) = W0 := ⟨_, rfl⟩
  have hb0 : Below w.heap.size w W0 := by rw [← hW0]; exact (Below.refl _ _).alloc (Nat.le_refl _) _
  have hr0 : W0.heap[w.heap.size]? = some (.cells #[.slice none 0 0, .slice none 0 0] 32 (0, 0)) := by rw [← hW0]; exact heap_alloc_last _ _
  have hs0 : W0.heap.size = w.heap.size + 1 := by rw [← hW0]; simp
  have HS := hide (Sh.shaSum_any (u8s l) v W0 (ht.below hb0 ht.2.2) (sh_at (h.ext hb0) (Nat.le_refl _) ⟨rfl, rfl, rfl, Nat.le_refl _, fun _ _ _ => rfl⟩) (by rw [u8s_len]; exact hl))
  have H0 := hide (And.intro hb0 (And.intro hr0 hs0))
  clear h ht hl hb0 hr0 hs0
  go_enter Tryz.func14, Tryz.ntmps14
  go_wp2_with fail
  clear hW0
  refine HS.out.mono ?_
  rintro e w1 ⟨v1, rfl, hown1, hb1⟩
  obtain ⟨hb0, hr0, hs0⟩ := H0.out
  have O := own_sh hown1 (Sh.shaB_len _)
  obtain ⟨S, hS⟩ : ∃ S, n8s (Sh.shaB (u8s l)) = S := ⟨_, rfl⟩
  have hS2 : shn l = S := hS
  have hSl : S.length = 64 := by rw [← hS2]; exact shn_len l
  rw [hS] at O
  obtain ⟨g, cap, rfl, hg1, hg2, hcap, _⟩ := O.form (by omega)
  rw [hSl] at hcap O
  have hat := O.at
  rw [hSl]
  have hc1 : 64 ≤ cap := hcap
  have s1 := fun w_ => sl_lo w_ g 0 64 cap (by omega)
  have s2 := fun w_ => sl_hi w_ g 0 64 cap (by omega) (by omega)
  have hb1' := hb0.trans (hb1.mono hb0.size)
  have hr1 : w1.heap[w.heap.size]? = some (.cells #[.slice none 0 0, .slice none 0 0] 32 (0, 0)) := Below.heap hb1 (by omega) hr0
  have lo := at_lo (l := S) hat hSl
  have hi := at_hi (l := S) hat hSl
  have HF : Hid (∀ W : World, Below w1.heap.size w1 W → Hands Tryz.prog 39 #[.slice (some ⟨g, 0, none⟩) 32 cap] W (isb (scn l))) := fun W hW => by
    have h2 := Sc.f_clamp (u := .slice (some ⟨g, 0, none⟩) 32 cap) (a := S.take 32) (w := W) (lo.ext hW)
    rw [← hS2] at h2
    exact h2
  have HI := hide (And.intro (show BsAt w1 (.slice (some ⟨g, 0 + 32, none⟩) (64 - 32) (cap - 32)) (scp l) by unfold scp; rw [hS2]; exact hi) (And.intro hb1' hr1))
  have hlt1 : w.heap.size < w1.heap.size := by have := hb1.size; omega
  clear hat lo hi O hown1 hS hS2 hSl hb1 hb0 hr0 hs0 hb1' hr1 HS H0 hcap hc1 hg1 hg2
  go_upto_region 2 with fail
  go_region_with (go_at_call 39; refine (HF.out _ ?hx).mono ?_; (case hx => exact Ext.drew _); rintro e w4 ⟨v4, rfl, b4, at4⟩; have at4' : BsAt w4 v4 (scn l) := at4; obtain ⟨ao4, c4, rfl, _, _⟩ := at4'.len; have r4 := Below.heap b4 hlt1 HI.out.2.2; obtain ⟨x4, y4⟩ := row_reads r4)
  all_goals
    have HO := hide (And.intro r4 (And.intro at4 b4))
    clear x4 y4 b4 at4 r4
    go_wp2
    obtain ⟨r4, at4, b4⟩ := HO.out
    obtain ⟨hi, hb1, _⟩ := HI.out
    have e4 := (Ext.drew w1).trans b4
    have hq : w.heap.size < w4.heap.size := Nat.lt_of_lt_of_le hlt1 e4.size
    have hi4 := hi.ext e4
    have h1 := heap_setCell_same w4 w.heap.size 0 _ _ (.slice ao4 (scn l).length c4) r4
    have B1 := (BsAt.off (i := 0) (x := .slice ao4 (scn l).length c4) at4 r4 (sl2_no _ _ _ _ _ _)).off (i := 1) (x := .slice (some ⟨g, 0 + 32, none⟩) (64 - 32) (cap - 32)) h1 (sl2_no _ _ _ _ _ _)
    have B2 := (BsAt.off (i := 0) (x := .slice ao4 (scn l).length c4) hi4 r4 (sl2_no _ _ _ _ _ _)).off (i := 1) (x := .slice (some ⟨g, 0 + 32, none⟩) (64 - 32) (cap - 32)) h1 (sl2_no _ _ _ _ _ _)
    exact bodyPost_ret_by (results_cell_row rfl _ _ w.heap.size 32 _ (0, 0) _ rfl (set2_row r4) Tryz.underlying32 rfl (by kernel_rfl)) rfl ⟨_, _, rfl, B1, B2, ((hb1.trans (e4.mono hb1.size)).setCell (p := ⟨w.heap.size, 0, none⟩) (Nat.le_refl _) _).setCell (p := ⟨w.heap.size, 1, none⟩) (Nat.le_refl _) _⟩
end Go.Proofs.YtobgimpkkjaolaaGreatDoor
/- The public key and the signature of a secret, and of a seed. -/
namespace Go.Proofs.YtobgimpkkjaolaaGreatDoor
open Go.RowKit
theorem bytesO {P : Pt} {u : Value} {w : World} (h : u = .agg (pe P.x (P.y - 1))) : Calls Tryz.prog 33 #[u] w fun e w' => ∃ v, e = .returned v ∧ Own w' w.heap.size v (pkP P) ∧ Below w.heap.size w w' := by
  subst h; exact p_bytes _ _ _
theorem Own.low {w : World} {b c : Nat} {v : Value} {l : List Nat} (h : Own w b v l) (hb : c ≤ b) : Own w c v l := by
  refine ⟨?_, h.lim⟩
  have := h.row
  exact ⟨this.1, this.2.imp (fun x => x) fun ⟨g, cap, cur, e, hg, r⟩ => ⟨g, cap, cur, e, Nat.le_trans hb hg, r⟩⟩
set_option maxRecDepth 100000 in
set_option maxHeartbeats 1000000 in
theorem public_any {a p : Value} {la lp : List Nat} {w : World} (h : BsAt w a la) (hp : BsAt w p lp) (LDi : LaidW 2 exw w) :
    Calls Tryz.prog 15 #[.agg #[a, p]] w fun e w' => ∃ v, e = .returned v ∧ Own w' w.heap.size v (pubOf la) ∧ Below w.heap.size w w' := by
  obtain ⟨n, hn⟩ : ∃ n, bval (la.take 32) = n := ⟨_, rfl⟩
  have HM : Hid (∀ (W : World) (u : Value), Below w.heap.size w W → (isP Bp).p W u → Hands Tryz.prog 28 #[u, a] W (isP (Pt.mul n Bp))) := fun W u hW hu => p_mulN hn hu (h.ext hW) (LDi.step hW)
  have HQ : Hid (∀ (W : World) (u : Value), (isP (Pt.mul n Bp)).p W u → Calls Tryz.prog 33 #[u] W fun e w' => ∃ v, e = .returned v ∧ Own w' W.heap.size v (pubOf la) ∧ Below W.heap.size W w') := fun W u hu => by unfold pubOf; rw [hn]; exact bytesO hu
  have HP : Hid (∀ W : World, Hands Tryz.prog 27 #[] W (isP Bp)) := fun W => p_baseP
  obtain ⟨ao, c, rfl, _, _⟩ := h.len
  obtain ⟨ap, cp, rfl, _, _⟩ := hp.len
  obtain ⟨T, hT⟩ : ∃ T, isP (Pt.mul n Bp) = T := ⟨_, rfl⟩
  obtain ⟨T0, hT0⟩ : ∃ T0, isP Bp = T0 := ⟨_, rfl⟩
  obtain ⟨L, hL⟩ : ∃ L, pubOf la = L := ⟨_, rfl⟩
  rw [hT, hT0] at HM
  rw [hT, hL] at HQ
  rw [hT0] at HP
  rw [hL]
  clear h hp LDi hn hT hT0 hL
  go_enter Tryz.func15, Tryz.ntmps15
  go_upto_region 1 with fail
  refine cut_world (fun W => Below w.heap.size w W ∧ (w.heap.size < W.heap.size ∧ W.heap[w.heap.size]? = some (.cells #[.slice ao la.length c, .slice ap lp.length cp] 32 (0, 0)))) ⟨(Below.refl _ _).alloc (Nat.le_refl _) _, by simp, heap_alloc_last _ _⟩ ?_
  rintro W1 ⟨b1, z1, r1⟩
  obtain ⟨x1, y1⟩ := row_reads r1
  have HB := hide b1
  have HR := hide (And.intro z1 r1)
  clear b1 r1 z1
  go_region_with (first
    | (go_at_call 27; refine (HP.out _).mono ?_; rintro e w2 ⟨v2, rfl, b2, h2⟩; obtain ⟨x2, y2⟩ := row_reads (Below.heap b2 HR.out.1 HR.out.2))
    | (go_at_call 28; refine (HM.out _ _ ?hx h2).mono ?_; (case hx => exact (Below.drew HB.out).trans (b2.mono (Below.drew HB.out).size)); rintro e w3 ⟨v3, rfl, b3, h3⟩)
    | (go_at_call 33; refine (HQ.out _ _ h3).mono ?_; rintro e w4 ⟨v4, rfl, o4, b4⟩))
  all_goals
    have B2 := (Below.drew HB.out).trans (b2.mono (Below.drew HB.out).size)
    have B3 := Below.chain B2 b3
    have B4 := Below.chain B3 b4
    have O := hide (And.intro (o4.low B3.size) B4)
    clear b2 h2 b3 h3 b4 o4 B2 B3 B4 x2 y2
    go_wp2
    go_ret
    exact ⟨_, rfl, O.out.1, O.out.2⟩
theorem rs2 {W : World} {a b : Value} {la lb : List Nat} {t : TypeId} (h1 : BsAt W a la) (h2 : BsAt W b lb) : RsAt (W.alloc (.cells #[a, b] t)) (.slice (some ⟨W.heap.size, 0, none⟩) 2 2) [la, lb] := by
  have hx : Below W.heap.size W (W.alloc (.cells #[a, b] t)) := (Below.refl _ _).alloc (Nat.le_refl _) _
  have hr : (W.alloc (.cells #[a, b] t)).heap[W.heap.size]? = some (.cells #[a, b] t (0, 0)) := heap_alloc_last _ _
  refine ⟨W.heap.size, [a, b], rfl, by simp, rfl, by simp, fun i hi => ?_⟩
  rw [cell_of_row _ _ _ _ _ _ hr]
  match i, hi with
  | 0, _ => exact ⟨rfl, h1.ext hx⟩
  | 1, _ => exact ⟨rfl, h2.ext hx⟩
theorem rs3 {W : World} {a b c : Value} {la lb lc : List Nat} {t : TypeId} (h1 : BsAt W a la) (h2 : BsAt W b lb) (h3 : BsAt W c lc) : RsAt (W.alloc (.cells #[a, b, c] t)) (.slice (some ⟨W.heap.size, 0, none⟩) 3 3) [la, lb, lc] := by
  have hx : Below W.heap.size W (W.alloc (.cells #[a, b, c] t)) := (Below.refl _ _).alloc (Nat.le_refl _) _
  have hr : (W.alloc (.cells #[a, b, c] t)).heap[W.heap.size]? = some (.cells #[a, b, c] t (0, 0)) := heap_alloc_last _ _
  refine ⟨W.heap.size, [a, b, c], rfl, by simp, rfl, by simp, fun i hi => ?_⟩
  rw [cell_of_row _ _ _ _ _ _ hr]
  match i, hi with
  | 0, _ => exact ⟨rfl, h1.ext hx⟩
  | 1, _ => exact ⟨rfl, h2.ext hx⟩
  | 2, _ => exact ⟨rfl, h3.ext hx⟩
end Go.Proofs.YtobgimpkkjaolaaGreatDoor
/- What a secret signs. -/
namespace Go.Proofs.YtobgimpkkjaolaaGreatDoor
open Go.RowKit
set_option maxRecDepth 100000 in
set_option maxHeartbeats 1000000 in
theorem sign_any {a p mv : Value} {la lp m : List Nat} {w : World} (h : BsAt w a la) (hp : BsAt w p lp) (hmv : BsAt w mv m) (hlp : lp.length = 32) (hm : m.length ≤ 1000000) (LDi : LaidW 2 exw w) (ht : Sh.Tabs w) (hL : Sc.Laid w) (hla : la.length = 32) :
    Calls Tryz.prog 21 #[.agg #[a, p], mv] w fun e w' => ∃ v, e = .returned v ∧ Own w' w.heap.size v (sigOf la lp m) ∧ Below w.heap.size w w' := by
  -- what each call answers, in letters
  obtain ⟨r, hr⟩ : ∃ r, sgr lp m = r := ⟨_, rfl⟩
  obtain ⟨q, hq⟩ : ∃ q, sgh la lp m = q := ⟨_, rfl⟩
  obtain ⟨s, hs⟩ : ∃ s, sgs la lp m = s := ⟨_, rfl⟩
  have hsl : s.length = 32 := by rw [← hs]; exact sgs_len la lp m hla
  have H1 : Hid (∀ (W : World) (v : Value), Below w.heap.size w W → RsAt W v [lp, m] → Hands Tryz.prog 30 #[v] W (isb r)) := fun W v hW hR => by
    rw [← hr]; exact hashed_any hR (ht.below hW ht.2.2) (hL.step hW) (by simp; omega)
  have H2 : Hid (∀ (W : World) (v : Value), Below w.heap.size w W → RsAt W v [pubOf r, pubOf la, m] → Hands Tryz.prog 30 #[v] W (isb q)) := fun W v hW hR => by
    rw [← hq]; unfold sgh; rw [hr]; exact hashed_any hR (ht.below hW ht.2.2) (hL.step hW) (by simp [pubOf_len]; omega)
  have HM : Hid (∀ (W : World) (u v : Value), Below w.heap.size w W → (isP Bp).p W u → BsAt W v r → Hands Tryz.prog 28 #[u, v] W (isP (Pt.mul (bval (r.take 32)) Bp))) := fun W u v hW hu hv => p_mulN rfl hu hv (LDi.step hW)
  have HQ : Hid (∀ (W : World) (u : Value), (isP (Pt.mul (bval (r.take 32)) Bp)).p W u → Calls Tryz.prog 33 #[u] W fun e w' => ∃ v, e = .returned v ∧ Own w' W.heap.size v (pubOf r) ∧ Below W.heap.size W w') := fun W u hu => bytesO hu
  have HP : Hid (∀ W : World, Hands Tryz.prog 27 #[] W (isP Bp)) := fun W => p_baseP
  have HU : Hid (∀ W : World, Below w.heap.size w W → Calls Tryz.prog 15 #[.agg #[a, p]] W fun e w' => ∃ v, e = .returned v ∧ Own w' W.heap.size v (pubOf la) ∧ Below W.heap.size W w') := fun W hW => public_any (h.ext hW) (hp.ext hW) (LDi.step hW)
  have HS : Hid (∀ (W : World) (u v : Value), Below w.heap.size w W → BsAt W u q → BsAt W v r → Hands Tryz.prog 48 #[u, a, v] W (isb s)) := fun W u v hW hu hv => by
    have h2 := Sc.f_mad (u := u) (v := a) (t := v) (a := q) (b := la) (c := r) (w := W) hu (h.ext hW) hv (hL.step hW)
    rw [← hs]; unfold sgs; rw [hq, hr]; exact h2
  have hsg : sigOf la lp m = pubOf r ++ s := by unfold sigOf; rw [hr, hs]
  rw [hsg]
  have hRl := pubOf_len r
  have HA := hide (And.intro h (And.intro hp (And.intro hmv (And.intro hRl hsl))))
  obtain ⟨ao, c, rfl, _, _⟩ := h.len
  obtain ⟨ap, cp, rfl, _, _⟩ := hp.len
  obtain ⟨am, cm, rfl, _, _⟩ := hmv.len
  generalize hT : isP (Pt.mul (bval (r.take 32)) Bp) = T at *
  generalize hT0 : isP Bp = T0 at *
  generalize hR : pubOf r = R at *
  generalize hA : pubOf la = A at *
  clear h hp hmv LDi ht hL hr hq hs hsg hT hT0 hR hA hRl hsl hla hlp
  go_enter Tryz.func21, Tryz.ntmps21
  go_upto_region 1 with fail
  refine cut_world (fun W => Below w.heap.size w W ∧ (w.heap.size < W.heap.size ∧ W.heap[w.heap.size]? = some (.cells #[.slice ao la.length c, .slice ap lp.length cp] 32 (0, 0)))) ⟨(Below.refl _ _).alloc (Nat.le_refl _) _, by simp, heap_alloc_last _ _⟩ ?_
  rintro W1 ⟨b1, z1, r1⟩
  obtain ⟨x1, y1⟩ := row_reads r1
  have HB := hide b1
  have HR := hide (And.intro z1 r1)
  clear b1 r1 z1
  go_wp2_with fail
  have HB1 := hide (HB.out.alloc HB.out.size (.cells #[.slice ap lp.length cp, .slice am m.length cm] 22))
  refine (H1.out _ _ HB1.out (rs2 (HA.out.2.1.ext HB.out) (HA.out.2.2.1.ext HB.out))).mono ?_
  rintro e W2 ⟨vr, rfl, b2, hr2⟩
  have B2 := hide (Below.chain HB1.out b2)
  have R2 := hide (And.intro (Nat.lt_of_lt_of_le HR.out.1 (Nat.le_trans (by simp) b2.size)) (Below.heap b2 (g := w.heap.size) (Nat.lt_of_lt_of_le HR.out.1 (by simp)) (Below.heap (Below.alloc (Below.refl W1.heap.size W1) (Nat.le_refl _) _) HR.out.1 HR.out.2)))
  have V2 : Hid (BsAt W2 vr r) := hr2
  clear x1 y1 b2 hr2 HB1 HR HB
  go_wp2_with fail
  refine (HP.out _).mono ?_
  rintro e W3 ⟨vb, rfl, b3, hb3⟩
  have B3 := hide (Below.chain B2.out b3)
  have R3 := hide (And.intro (Nat.lt_of_lt_of_le R2.out.1 b3.size) (Below.heap b3 R2.out.1 R2.out.2))
  have V3 := hide (V2.out.ext b3)
  have U3 := hide hb3
  clear b3 hb3 B2 R2 V2
  go_wp2_with fail
  refine (HM.out _ _ _ B3.out U3.out V3.out).mono ?_
  rintro e W4 ⟨vp, rfl, b4, hp4⟩
  have B4 := hide (Below.chain B3.out b4)
  have R4 := hide (And.intro (Nat.lt_of_lt_of_le R3.out.1 b4.size) (Below.heap b4 R3.out.1 R3.out.2))
  have V4 := hide (V3.out.ext b4)
  have U4 := hide hp4
  clear b4 hp4 B3 R3 V3 U3
  go_wp2_with fail
  refine (HQ.out _ _ U4.out).mono ?_
  rintro e W5 ⟨vf, rfl, of5, b5⟩
  have B5 := hide (Below.chain B4.out b5)
  have R5 := hide (And.intro (Nat.lt_of_lt_of_le R4.out.1 b5.size) (Below.heap b5 R4.out.1 R4.out.2))
  have V5 := hide (V4.out.ext b5)
  have O5 := hide (of5.low B4.out.size)
  obtain ⟨g5, cap5, rfl, hg5, hs5, hc5, hm5⟩ := of5.form (by rw [HA.out.2.2.2.1]; decide)
  have hG : w.heap.size ≤ g5 := Nat.le_trans B4.out.size hg5
  clear b5 of5 B4 R4 V4 U4 hg5 hs5 hm5 hc5
  obtain ⟨x5, y5⟩ := row_reads R5.out.2
  go_wp2_with fail
  refine (HU.out _ B5.out).mono ?_
  rintro e W6 ⟨vu, rfl, ou6, b6⟩
  have B6 := hide (Below.chain B5.out b6)
  have R6 := hide (And.intro (Nat.lt_of_lt_of_le R5.out.1 b6.size) (Below.heap b6 R5.out.1 R5.out.2))
  have V6 := hide (V5.out.ext b6)
  have O6 := hide (O5.out.ext b6)
  have P6 := hide ou6.at
  clear b6 ou6 B5 R5 V5 O5 x5 y5
  obtain ⟨au, cu, rfl, _, _⟩ := P6.out.len
  go_wp2_with fail
  have B7 := hide (B6.out.alloc B6.out.size (.cells #[.slice (some ⟨g5, 0, none⟩) R.length cap5, .slice au A.length cu, .slice am m.length cm] 22))
  refine (H2.out _ _ B7.out (rs3 O6.out.at P6.out (HA.out.2.2.1.ext B6.out))).mono ?_
  rintro e W8 ⟨vq, rfl, b8, hq8⟩
  have b68 : Below W6.heap.size W6 W8 := Below.chain ((Below.refl W6.heap.size W6).alloc (Nat.le_refl _) _) b8
  have B8 := hide (Below.chain B6.out b68)
  have R8 := hide (Below.heap b68 R6.out.1 R6.out.2)
  have V8 := hide (V6.out.ext b68)
  have O8 := hide (O6.out.ext b68)
  have Q8 : Hid (BsAt W8 vq q) := hq8
  obtain ⟨x8, y8⟩ := row_reads R8.out
  clear b8 b68 hq8 B6 R6 V6 O6 P6 B7
  go_wp2_with fail
  refine (HS.out _ _ _ B8.out Q8.out V8.out).mono ?_
  rintro e W9 ⟨vs, rfl, b9, hs9⟩
  have B9 := hide (Below.chain B8.out b9)
  have O9 := hide (O8.out.ext b9)
  have S9 : Hid (BsAt W9 vs s) := hs9
  clear b9 hs9 B8 V8 O8 Q8 x8 y8 R8
  go_wp2_with (at_builtin; refine wpList_append_b rfl (.tmp 23) (.tmp 28) rfl (base := w.heap.size) (l := R) (m := s) O9.out S9.out (by rw [HA.out.2.2.2.1, HA.out.2.2.2.2]; decide) B9.out.size ?_)
  intro u1 w1 o1 g1
  have E := hide (And.intro o1 (B9.out.grown g1 B9.out.size (by intro k hk; simp [Value.ownBlock] at hk; omega)))
  clear o1 g1
  go_wp2
  go_ret
  exact ⟨_, rfl, E.out.1, E.out.2⟩
end Go.Proofs.YtobgimpkkjaolaaGreatDoor
/- The keys and signatures of seeds; the law's own seed, and the key that every program must know. -/
namespace Go.Proofs.YtobgimpkkjaolaaGreatDoor
open Go.RowKit
def pubB (l : List Nat) : List Nat := if l.length = 32 then pubOf (scn l) else []
def sigB (l m : List Nat) : List Nat := if l.length = 32 then sigOf (scn l) (scp l) m else []
theorem own_nil (w : World) (b : Nat) (h : b ≤ w.heap.size) : Own w b (.slice none 0 0) [] := by
  have h2 : Own w w.heap.size (.slice none 0 0) [] := ⟨World.ownsRow_nil _ _ _ _, by simp⟩
  exact h2.low h
set_option maxRecDepth 100000 in
set_option maxHeartbeats 1000000 in
theorem Public_any {v : Value} {l : List Nat} {w : World} (h : BsAt w v l) (LDi : LaidW 2 exw w) (ht : Sh.Tabs w) :
    Calls Tryz.prog 7 #[v] w fun e w' => ∃ v, e = .returned v ∧ Own w' w.heap.size v (pubB l) ∧ Below w.heap.size w w' := by
  unfold pubB
  by_cases hl : l.length = 32
  · rw [if_pos hl]
    have H1 := hide (secretOf_any h ht (by omega))
    have H2 : Hid (∀ (W : World) (a p : Value), Below w.heap.size w W → BsAt W a (scn l) → BsAt W p (scp l) → Calls Tryz.prog 15 #[.agg #[a, p]] W fun e w' => ∃ v, e = .returned v ∧ Own w' W.heap.size v (pubOf (scn l)) ∧ Below W.heap.size W w') := fun W a p hW ha hp => public_any ha hp (LDi.step hW)
    obtain ⟨ao, c, rfl, _, _⟩ := h.len
    rw [hl] at H1 ⊢
    generalize hA : scn l = A at *
    generalize hP : scp l = P at *
    generalize hQ : pubOf A = Q at *
    clear h LDi ht hl hA hP hQ
    go_enter Tryz.func7, Tryz.ntmps7
    go_wp2_with fail
    refine H1.out.mono ?_
    rintro e w1 ⟨a, p, rfl, ha, hp, b1⟩
    have HC := hide (And.intro b1 (H2.out w1 a p b1 ha hp))
    clear ha hp b1
    go_wp2_with fail
    refine HC.out.2.mono ?_
    rintro e w2 ⟨v2, rfl, o2, b2⟩
    have R := hide (And.intro (o2.low HC.out.1.size) (Below.chain HC.out.1 b2))
    clear o2 b2
    go_wp2
    go_ret
    exact ⟨_, rfl, R.out.1, R.out.2⟩
  · rw [if_neg hl]
    obtain ⟨ao, c, rfl, _, hm⟩ := h.len
    have hd : ((l.length : Int) == 32) = false := by rw [beq_eq_false_iff_ne]; omega
    clear h LDi ht hl
    go_enter Tryz.func7, Tryz.ntmps7
    go_wp2
    go_ret
    exact ⟨_, rfl, own_nil _ _ (Nat.le_refl _), Below.refl _ _⟩
set_option maxRecDepth 100000 in
set_option maxHeartbeats 1000000 in
theorem Sign_any {v mv : Value} {l m : List Nat} {w : World} (h : BsAt w v l) (hmv : BsAt w mv m) (hm : m.length ≤ 1000000) (LDi : LaidW 2 exw w) (ht : Sh.Tabs w) (hL : Sc.Laid w) :
    Calls Tryz.prog 9 #[v, mv] w fun e w' => ∃ v, e = .returned v ∧ Own w' w.heap.size v (sigB l m) ∧ Below w.heap.size w w' := by
  unfold sigB
  by_cases hl : l.length = 32
  · rw [if_pos hl]
    have H1 := hide (secretOf_any h ht (by omega))
    have H2 : Hid (∀ (W : World) (a p : Value), Below w.heap.size w W → BsAt W a (scn l) → BsAt W p (scp l) → Calls Tryz.prog 21 #[.agg #[a, p], mv] W fun e w' => ∃ v, e = .returned v ∧ Own w' W.heap.size v (sigOf (scn l) (scp l) m) ∧ Below W.heap.size W w') := fun W a p hW ha hp => sign_any ha hp (hmv.ext hW) (scp_len l) hm (LDi.step hW) (ht.below hW ht.2.2) (hL.step hW) (scn_len l)
    obtain ⟨ao, c, rfl, _, _⟩ := h.len
    rw [hl] at H1 ⊢
    generalize hA : scn l = A at *
    generalize hP : scp l = P at *
    generalize hQ : sigOf A P m = Q at *
    clear h LDi ht hl hA hP hQ hmv hL
    go_enter Tryz.func9, Tryz.ntmps9
    go_wp2_with fail
    refine H1.out.mono ?_
    rintro e w1 ⟨a, p, rfl, ha, hp, b1⟩
    have HC := hide (And.intro b1 (H2.out w1 a p b1 ha hp))
    clear ha hp b1
    go_wp2_with fail
    refine HC.out.2.mono ?_
    rintro e w2 ⟨v2, rfl, o2, b2⟩
    have R := hide (And.intro (o2.low HC.out.1.size) (Below.chain HC.out.1 b2))
    clear o2 b2
    go_wp2
    go_ret
    exact ⟨_, rfl, R.out.1, R.out.2⟩
  · rw [if_neg hl]
    obtain ⟨ao, c, rfl, _, hm⟩ := h.len
    have hd : ((l.length : Int) == 32) = false := by rw [beq_eq_false_iff_ne]; omega
    clear h LDi ht hl hmv hL
    go_enter Tryz.func9, Tryz.ntmps9
    go_wp2
    go_ret
    exact ⟨_, rfl, own_nil _ _ (Nat.le_refl _), Below.refl _ _⟩
def fullb (l : List Nat) : List Nat := (l ++ zz 32).take 32
theorem fullb_len (l : List Nat) : (fullb l).length = 32 := by simp [fullb, zz_len]
theorem own_none0 {w : World} : Own (w.alloc (.cells #[] 5)) w.heap.size (.slice (some ⟨w.heap.size, 0, none⟩) 0 0) [] := own_lit [] (by simp) (by simp)
theorem Own.cut {w : World} {base g n c k : Nat} {l : List Nat} (h : Own w base (.slice (some ⟨g, 0, none⟩) n c) l) (hk : k ≤ l.length) : Own w base (.slice (some ⟨g, 0, none⟩) k c) (l.take k) := by
  have hl := h.row
  refine ⟨?_, take_lim h.lim k⟩
  have e : (l.take k).length = k := by rw [List.length_take]; omega
  rw [e]
  refine ⟨by rw [nv_len, e, Nat.mul_one], ?_⟩
  rcases hl.2 with ⟨e1, _⟩ | ⟨b, cap, cur, e1, hb, hr, hn, hm, hs, ht⟩
  · cases e1
  · injection e1 with e1 e2 e3
    injection e1 with e1
    injection e1 with e4 _ _
    subst e3 e4
    refine .inr ⟨g, c, cur, rfl, hb, hr, by omega, hm, hs, ?_⟩
    have h3 := congrArg (List.take k) ht
    rw [List.take_take, Nat.min_eq_left (by omega)] at h3
    rw [Nat.mul_one, h3]
    unfold nv
    rw [List.map_take]
theorem below_gr {w a b : World} {v : Value} {l : List Nat} {base : Nat} (h : Below w.heap.size w a) (ho : Own a base v l) (hb : w.heap.size ≤ base) (hg : a.grownBy b v.ownBlock) : Below w.heap.size w b :=
  h.grown hg h.size (fun k hk => Nat.le_trans hb (ho.row.lt k hk).1)
set_option maxRecDepth 100000 in
set_option maxHeartbeats 1000000 in
theorem seed_any {v : Value} {l : List Nat} {w : World} (h : BsAt w v l) (hl : l.length ≤ 100) : Calls Tryz.prog 11 #[v] w fun e w' => ∃ v, e = .returned v ∧ Own w' w.heap.size v (fullb l) ∧ Below w.heap.size w w' := by
  have H := hide h
  have HL := hide hl
  obtain ⟨ao, c, rfl, _, _⟩ := h.len
  clear h hl
  go_enter Tryz.func11, Tryz.ntmps11
  have B1 := hide ((Below.refl w.heap.size w).alloc (Nat.le_refl _) (.cells #[] 5))
  go_wp2_with (at_builtin; refine wpList_append_b rfl (.tmp 3) (.tmp 4) rfl (base := w.heap.size) (l := []) (m := l) own_none0 (H.out.ext B1.out) (by have := HL.out; simp; omega) (by simp) ?_)
  intro v1 w1 o1 g1
  have B2 := hide (below_gr B1.out own_none0 (Nat.le_refl _) g1)
  have O1 := hide o1
  have S1 : Hid (w.heap.size ≤ w1.heap.size) := B2.out.size
  clear g1 B1 o1
  go_wp2_with (at_builtin; refine wpList_append_z rfl 32 (by decide) (.tmp 5) _ rfl rfl (base := w.heap.size) O1.out (by have := HL.out; simp; omega) S1.out ?_)
  intro v2 w2 o2 g2
  have B3 := hide (below_gr B2.out O1.out (Nat.le_refl _) g2)
  clear g2 B2 O1 S1
  have hlen : (l ++ zz 32).length = l.length + 32 := by simp [zz_len]
  obtain ⟨g, cap, rfl, _, _, hc, hm⟩ := o2.form (by omega)
  have HB := hide (Own.cut (k := 32) o2 (by omega))
  rw [hlen] at hc ⊢
  have hcc : (32 : Nat) ≤ cap := by omega
  clear hlen hc HL o2
  go_wp2
  go_ret
  exact ⟨_, rfl, HB.out, B3.out⟩
end Go.Proofs.YtobgimpkkjaolaaGreatDoor
/- The key that every program must know: its bytes, reckoned. -/
namespace Go.Proofs.YtobgimpkkjaolaaGreatDoor
def sd0 : List Nat := [157, 97, 177, 157, 239, 253, 90, 96, 186, 132, 74, 244, 146, 236, 44, 196, 68, 73, 197, 105, 123, 50, 105, 25, 112, 59, 172, 3, 28, 174, 127, 96]
def nn0 : Nat := 36144925721603087658594284515452164870581325872720374094707712194495455132720
def px0 : Nat := 38815646466658113194383306759739515082307681141926459231621296960732224964046
def py0 : Nat := 11903303657706407974989296177215005343713679411332034699907763981919547054807
theorem scn0 : bval ((scn sd0).take 32) = nn0 := by kernel_rfl
theorem nn0_lt : nn0 < 2 ^ 255 := by decide +kernel
theorem nm0 : (nm 255 nn0).1 % pp = px0 * (nm 255 nn0).2.2 % pp ∧ (nm 255 nn0).2.1 % pp = py0 * (nm 255 nn0).2.2 % pp := by decide +kernel
theorem ofN_of {a b : Nat} (h : a % pp = b % pp) : ofN a = ofN b := Fin.ext h
theorem nf_at {p : Nat × Nat × Nat} {P : Pt} {x y : Nat} (h : Nf p P) (hx : p.1 % pp = x * p.2.2 % pp) (hy : p.2.1 % pp = y * p.2.2 % pp) : P.x = ofN x ∧ P.y = ofN y := by
  obtain ⟨hz, h1, h2⟩ := h
  rw [ofN_of hx, ofN_muls] at h1
  rw [ofN_of hy, ofN_muls] at h2
  generalize ofN p.2.2 = z at *
  generalize ofN x = a at *
  generalize ofN y = b at *
  exact ⟨mul_cancel hz (by grind), mul_cancel hz (by grind)⟩
theorem pub0 : pubOf (scn sd0) = pkb (ofN px0) (ofN py0) := by
  unfold pubOf pkP
  rw [scn0]
  have h := nf_at (nf_nm 255 nn0 nn0_lt) nm0.1 nm0.2
  rw [h.1, h.2]
theorem pb0 : (pubOf (scn sd0)).getD 0 0 = 215 := by rw [pub0]; decide +kernel
theorem pb1 : (pubOf (scn sd0)).getD 1 0 = 90 := by rw [pub0]; decide +kernel
theorem pb31 : (pubOf (scn sd0)).getD 31 0 = 26 := by rw [pub0]; decide +kernel
theorem sd0_len : sd0.length = 32 := rfl
theorem sd0_lim : ∀ i, sd0.getD i 0 < 256 := lim_list (by decide)
end Go.Proofs.YtobgimpkkjaolaaGreatDoor
/- The key that every program must know, by the law's own call. -/
namespace Go.Proofs.YtobgimpkkjaolaaGreatDoor
open Go.RowKit
theorem ba_sd0 : ba sd0 = #[.int .u8 157, .int .u8 97, .int .u8 177, .int .u8 157, .int .u8 239, .int .u8 253, .int .u8 90, .int .u8 96, .int .u8 186, .int .u8 132, .int .u8 74, .int .u8 244, .int .u8 146, .int .u8 236, .int .u8 44, .int .u8 196, .int .u8 68, .int .u8 73, .int .u8 197, .int .u8 105, .int .u8 123, .int .u8 50, .int .u8 105, .int .u8 25, .int .u8 112, .int .u8 59, .int .u8 172, .int .u8 3, .int .u8 28, .int .u8 174, .int .u8 127, .int .u8 96] := rfl
theorem pub_sd0 : pubB sd0 = pubOf (scn sd0) := if_pos sd0_len
set_option maxRecDepth 100000 in
set_option maxHeartbeats 1000000 in
theorem awake_any {w : World} (LDi : LaidW 2 exw w) (ht : Sh.Tabs w) : Calls Tryz.prog 6 #[] w fun e w' => e = .returned (.bool true) ∧ Below w.heap.size w w' := by
  have hcv := fun (W : World) (C : Array Value) => Lib.run_convert_bytes_const (P := Tryz.prog) W 22 5 C 32 32 und22 Tryz.underlying5
  have HP : Hid (∀ (W : World) (v : Value), Below w.heap.size w W → BsAt W v sd0 → Calls Tryz.prog 7 #[v] W fun e w' => ∃ v, e = .returned v ∧ Own w' W.heap.size v (pubOf (scn sd0)) ∧ Below W.heap.size W w') := fun W v hW hv => by
    have h := Public_any hv (LDi.step hW) (ht.below hW ht.2.2)
    rw [pub_sd0] at h
    exact h
  have q0 := pb0
  have q1 := pb1
  have q31 := pb31
  have ql := pubOf_len (scn sd0)
  have HQ := hide (And.intro q0 (And.intro q1 (And.intro q31 ql)))
  have HZ := ba_sd0
  generalize pubOf (scn sd0) = Q at *
  clear LDi ht q0 q1 q31 ql
  go_enter Tryz.func6, Tryz.ntmps6
  go_wp2_with fail
  have M := marked_at (w := w) sd0 sd0_lim (by decide) (32, 33)
  have B0 := (Below.refl w.heap.size w).alloc (Nat.le_refl _) (.cells (ba sd0) 5 (32, 33))
  rw [HZ] at M B0
  have HM := hide (And.intro M B0)
  clear M B0 hcv HZ
  refine (HP.out _ _ HM.out.2 HM.out.1).mono ?_
  rintro e w1 ⟨v, rfl, o1, b1⟩
  obtain ⟨q0, q1, q31, ql⟩ := HQ.out
  obtain ⟨g, cap, rfl, hg1, hg2, hcap, hcm⟩ := o1.form (by omega)
  have c0 : w1.cell? ⟨g, 0, none⟩ = some (.int .u8 215) := by rw [o1.row.cellAt 0 (by omega), nv_get Q 0 (by omega), q0]; rfl
  have c1 : w1.cell? ⟨g, 1, none⟩ = some (.int .u8 90) := by rw [o1.row.cellAt 1 (by omega), nv_get Q 1 (by omega), q1]; rfl
  have c31 : w1.cell? ⟨g, 31, none⟩ = some (.int .u8 26) := by rw [o1.row.cellAt 31 (by omega), nv_get Q 31 (by omega), q31]; rfl
  rw [ql] at hcap ⊢
  have HB := hide (Below.chain HM.out.2 b1)
  clear HM HP HQ o1 b1 q0 q1 q31 ql hg1 hg2
  go_wp2
  go_ret
  exact ⟨rfl, HB.out⟩
end Go.Proofs.YtobgimpkkjaolaaGreatDoor
