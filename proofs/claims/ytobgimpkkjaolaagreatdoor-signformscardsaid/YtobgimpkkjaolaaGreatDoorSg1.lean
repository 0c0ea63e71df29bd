/- What hashes of several parts are, as numbers below the order: the calls each and hashed, in any world where the order and the hash's tables lie as the program's text lays them. -/
import Derived.Test.YtobgimpkkjaolaaGreatDoorMh
import Derived.Test.YtobgimpkkjaolaaGreatDoorMc
import Derived.Test.YtobgimpkkjaolaaGreatDoorDec
import Derived.Test.YtobgimpkkjaolaaGreatDoorTyX
namespace Go.Proofs.YtobgimpkkjaolaaGreatDoor
open Go.RowKit
/-- Bytes as the hash takes them, and back. -/
def u8s (l : List Nat) : List UInt8 := l.map fun n => UInt8.ofNat n
def n8s (l : List UInt8) : List Nat := l.map fun b => b.toNat
/-- The sum of bytes. -/
def shn (l : List Nat) : List Nat := n8s (Sh.shaB (u8s l))
theorem n8s_len (l : List UInt8) : (n8s l).length = l.length := by simp [n8s]
theorem u8s_len (l : List Nat) : (u8s l).length = l.length := by simp [u8s]
theorem shn_len (l : List Nat) : (shn l).length = 64 := by rw [shn, n8s_len, Sh.shaB_len]
theorem n8s_lim (l : List UInt8) : ∀ i, (n8s l).getD i 0 < 256 := fun i => by
  by_cases h : i < l.length
  · simp only [n8s, List.getD_eq_getElem?_getD, List.getElem?_map, List.getElem?_eq_getElem h, Option.map_some, Option.getD_some]
    exact l[i].toNat_lt
  · simp [n8s, List.getD_eq_getElem?_getD, List.getElem?_eq_none (Nat.le_of_not_lt h)]
theorem shn_lim (l : List Nat) : ∀ i, (shn l).getD i 0 < 256 := n8s_lim _
theorem bc_nv (l : List UInt8) : l.map Sh.bc = nv (n8s l) := by
  unfold nv n8s
  rw [List.map_map]
  rfl
theorem nv_bc {l : List Nat} (h : ∀ i, l.getD i 0 < 256) : (u8s l).map Sh.bc = nv l := by
  rw [bc_nv]
  congr 1
  unfold n8s u8s
  rw [List.map_map]
  refine List.ext_getElem (by simp) fun i h1 h2 => ?_
  have h3 := h i
  simp only [List.getD_eq_getElem?_getD, List.getElem?_eq_getElem h2, Option.getD_some] at h3
  simp only [List.getElem_map, Function.comp, UInt8.toNat_ofNat']
  exact Nat.mod_eq_of_lt h3
theorem range_of {w : World} {b o : Nat} {l : List Nat} (h : ∀ i, i < l.length → w.cell? ⟨b, o + i, none⟩ = some (.int .u8 ((l.getD i 0 : Nat) : Int))) : w.rangeAt b o (nv l) := fun j v hv => by
  have hj : j < l.length := by
    have := (List.getElem?_eq_some_iff.1 hv).1
    rwa [nv_len] at this
  rw [h j hj, ← nv_get l j hj, hv]
/-- Bytes of memory that was there, as the hash's calls take them. -/
theorem sh_at {W w : World} {v : Value} {l : List Nat} {g : Nat} (h : BsAt W v l) (hg : W.heap.size ≤ g) (hw : W.grownBy w (some g)) : Sh.BsAt w g v (u8s l) := by
  obtain ⟨b, o, c, ao, e, hc, hm, hl, hh⟩ := h
  refine ⟨ao, c, by rw [u8s_len]; exact e, by rw [u8s_len]; exact hc, fun hne => ?_⟩
  obtain ⟨e1, hb, hr⟩ := hh (fun e => hne (by rw [e]; rfl))
  refine ⟨b, o, e1, by omega, Nat.lt_of_lt_of_le hb hw.size, ?_⟩
  rw [nv_bc hl]
  have h2 := range_of hr
  exact fun j u hu => hw.cell (h2 j u hu) (by simp; omega)
theorem own_sh {w : World} {base : Nat} {v : Value} {m : List UInt8} {n : Nat} (h : w.ownsRow base 5 1 v n (m.map Sh.bc)) (hn : m.length = n) : Own w base v (n8s m) :=
  ⟨by rw [n8s_len, hn, ← bc_nv]; exact h, n8s_lim m⟩
/-- Slices of bytes in a row. -/
def RsAt (w : World) (v : Value) (ls : List (List Nat)) : Prop :=
  ∃ (b : Nat) (vs : List Value), v = .slice (some ⟨b, 0, none⟩) ls.length ls.length ∧ b < w.heap.size ∧ vs.length = ls.length ∧ ls.length ≤ 1000 ∧
    ∀ i, i < ls.length → w.cell? ⟨b, i, none⟩ = some (vs.getD i undef) ∧ BsAt w (vs.getD i undef) (ls.getD i [])
theorem u8s_app (a b : List Nat) : u8s (a ++ b) = u8s a ++ u8s b := by simp [u8s]
theorem flat_step (ls : List (List Nat)) (k : Nat) (h : k < ls.length) : (ls.take (k + 1)).flatten = (ls.take k).flatten ++ ls.getD k [] := by
  rw [List.take_add_one, List.flatten_append, List.getElem?_eq_getElem h, List.getD_eq_getElem?_getD, List.getElem?_eq_getElem h]
  simp
theorem flat_le (ls : List (List Nat)) (k : Nat) : (ls.take k).flatten.length ≤ ls.flatten.length := by
  conv => rhs; rw [← List.take_append_drop k ls, List.flatten_append, List.length_append]
  omega
theorem ix_rows (w : World) (b n c k : Nat) (hk : k < n) : (Instr.indexAt 74 (.slice (some ⟨b, 0, none⟩) n c) (.int .i64 (k : Int))).run Tryz.prog w = .ok (.pointer (some ⟨b, k, none⟩)) w := by
  have h1 : decide ((k : Int) < 0) = false := decide_eq_false (by omega)
  have h2 : ¬ ((n : Int) ≤ (k : Int)) := by omega
  go_simp
set_option maxRecDepth 100000 in
set_option maxHeartbeats 1000000 in
/-- Each part is written, one behind the other. -/
theorem each_any (g : Nat) (m : List UInt8) (ls : List (List Nat)) (v : Value) (W w : World) (hg : 6 ≤ g) (hW : W.heap.size ≤ g) (hr : RsAt W v ls) (hgw : W.grownBy w (some g)) (h : Sh.Hashed w g m) (ht : Sh.Tabs w) (hm : m.length + ls.flatten.length < 9000000000000000000) :
    Calls Tryz.prog 64 #[v, .func (.func 65) #[.pointer (some ⟨g, 0, none⟩)] #[]] w fun e w' => e = .returned (.tuple #[]) ∧ Sh.Hashed w' g (m ++ u8s ls.flatten) ∧ w.grownBy w' (some g) := by
  obtain ⟨b, vs, rfl, hb, hvl, hn, hc⟩ := hr
  obtain ⟨n, hln⟩ : ∃ n, ls.length = n := ⟨_, rfl⟩
  rw [hln] at hvl hn hc ⊢
  have HC := hide (And.intro hc (And.intro hb (And.intro hgw (And.intro ht (And.intro hm hln)))))
  have H0 := hide h
  clear hc hgw h ht hb hln hm
  go_enter Tryz.func64, Tryz.ntmps64
  go_wp2
  go_loopw [8] (fun i wr => ∃ k : Nat, k ≤ n ∧ i = .int .i64 (k : Int) ∧ Sh.Hashed wr g (m ++ u8s (ls.take k).flatten) ∧ w.grownBy wr (some g)) (fun i _ => n - (intOf i).toNat)
  case atStart => exact ⟨0, Nat.zero_le _, rfl, by simpa [u8s] using H0.out, ⟨rfl, rfl, rfl, Nat.le_refl _, fun _ _ _ => rfl⟩⟩
  case round =>
    obtain ⟨k, hk, rfl, hhk, hgk⟩ := hrel
    by_cases hlt : k < n
    · have hd : decide ((k : Int) < (n : Int)) = true := decide_eq_true (by omega)
      obtain ⟨hc, hb, hgw, ht, hm, hln⟩ := HC.out
      obtain ⟨hcell, hbs⟩ := hc k hlt
      have hWr : W.grownBy wr (some g) := Sh.grown_trans hgw hgk
      have hcr : wr.cell? ⟨b, k, none⟩ = some (vs.getD k undef) := hWr.cell hcell (by simp; omega)
      have hbl := flat_le ls (k + 1)
      rw [flat_step ls k (by omega), List.length_append] at hbl
      have HW := hide (Sh.write_any g (m ++ u8s (ls.take k).flatten) (u8s (ls.getD k [])) (vs.getD k undef) wr hg hhk (Sh.tabs_grown ht hgk hg) (sh_at hbs hW hWr) (by rw [List.length_append, u8s_len, u8s_len]; omega))
      have HX := hide (And.intro hgk hln)
      have hix := fun w_ => ix_rows w_ b n n k hlt
      generalize vs.getD k undef = pv at *
      clear hc hb hgw ht hm hln hcell hbs hWr hbl hhk hgk
      go_wp2_with fail
      refine HW.out.mono ?_
      rintro e w1 ⟨rfl, h1, h2⟩
      obtain ⟨hgk, hln⟩ := HX.out
      have R := hide (And.intro (show Sh.Hashed w1 g (m ++ u8s (ls.take (k + 1)).flatten) by rw [flat_step ls k (by omega), u8s_app, ← List.append_assoc]; exact h1) (Sh.grown_trans hgk h2))
      clear h1 h2 hgk hln hix hcr
      go_wp2
      go_roundw
      case rel => exact ⟨k + 1, by omega, by go_num, R.out.1, R.out.2⟩
      case measure => simp [intOf]; omega
    · obtain rfl : k = n := by omega
      have hd : decide ((k : Int) < (k : Int)) = false := decide_eq_false (by omega)
      have HR := hide (And.intro hhk hgk)
      clear hhk hgk
      go_wp2
      go_end0
      obtain ⟨h1, h2⟩ := HR.out
      rw [List.take_of_length_le (by rw [HC.out.2.2.2.2.2]; exact Nat.le_refl _)] at h1
      exact ⟨rfl, h1, h2⟩
/-- The sum of all, as a number below the order. -/
def hsh (l : List Nat) : List Nat := Sc.redb (shn l)
set_option maxRecDepth 100000 in
set_option maxHeartbeats 1000000 in
theorem hashed_any {v : Value} {ls : List (List Nat)} {w : World} (hr : RsAt w v ls) (ht : Sh.Tabs w) (hL : Sc.Laid w) (hm : ls.flatten.length < 8000000000000000000) : Hands Tryz.prog 30 #[v] w (isb (hsh ls.flatten)) := by
  suffices HH : ∀ R_ : STy, (∀ W v, BsAt W v (hsh ls.flatten) → R_.p W v) → Hands Tryz.prog 30 #[v] w R_ from HH _ (fun _ _ h => h)
  intro R_ hR_
  have HR := hide hR_
  have HT := hide (And.intro hr (And.intro ht hL))
  clear hR_ hr ht hL
  unfold Hands
  go_enter Tryz.func30, Tryz.ntmps30
  go_wp2_with fail
  refine (Sh.new_any w).mono ?_
  rintro e w1 ⟨rfl, h1, hb1, hs1⟩
  obtain ⟨hr, ht, hL⟩ := HT.out
  have HE := hide (each_any w.heap.size [] ls v w w1 ht.2.2 (Nat.le_refl _) hr (Sh.grown_of_below hb1) ⟨_, _, _, h1, Sh.HInv.zero⟩ (ht.below hb1 ht.2.2) (by simp only [List.length_nil]; omega))
  have HB := hide (And.intro hb1 (And.intro hs1 ht))
  clear h1 hb1 hs1 hr ht hL
  go_wp2_with fail
  refine HE.out.mono ?_
  rintro e w2 ⟨rfl, h2, hg2⟩
  obtain ⟨hb1, hs1, ht⟩ := HB.out
  have hb2 : Below w.heap.size w w2 := hb1.trans ⟨hg2.os, hg2.tape, hg2.output, hg2.size, fun k hk => hg2.block k (by omega) (by simp; omega)⟩
  have HS := hide (Sh.sum_any w.heap.size _ w2 (by have := hg2.size; omega) h2 (ht.below hb2 ht.2.2) (by rw [List.nil_append, u8s_len]; exact hm))
  have HB2 := hide hb2
  clear h2 hg2 hb1 hs1 ht hb2 HE HB
  go_wp2_with fail
  refine HS.out.mono ?_
  rintro e w3 ⟨v3, rfl, hown3, hb3⟩
  have hb4 := Below.chain HB2.out hb3
  have O := (own_sh hown3 (Sh.shaB_len _)).at
  rw [List.nil_append] at O
  have HF := hide (Sc.f_red (u := v3) (a := shn ls.flatten) (w := w3) O ((HT.out.2.2).step hb4))
  have HB4 := hide hb4
  clear hown3 hb3 hb4 O HS HB2
  go_wp2_with fail
  refine HF.out.mono ?_
  rintro e w5 ⟨v5, rfl, hb5, hat⟩
  have R := hide (And.intro (Below.chain HB4.out hb5) (HR.out w5 v5 hat))
  clear hb5 hat
  go_wp2
  go_ret
  exact ⟨_, rfl, R.out.1, R.out.2⟩
end Go.Proofs.YtobgimpkkjaolaaGreatDoor
