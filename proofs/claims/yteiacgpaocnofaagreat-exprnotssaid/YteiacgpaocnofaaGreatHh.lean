/- A term put onto a heap, and the least one taken off it: container/heap's own calls. -/
import Derived.Test.YteiacgpaocnofaaGreatHr
import Derived.Test.YteiacgpaocnofaaGreatHo
namespace Go.Proofs.YteiacgpaocnofaaGreat
open Go.RowKit
set_option maxRecDepth 100000 in
theorem Len_any {a : Option Addr} {n c : Nat} {w : World} (v : Value) (hv : v = .slice a n c) : Calls Tryz.prog 200 #[v] w fun e w' => e = .returned (.int .i64 (n : Int)) ∧ w' = w := by
  subst hv
  go_enter Tryz.func200, Tryz.ntmps200
  go_wp2
  go_ret
  exact ⟨rfl, rfl⟩
theorem HP.hq {w : World} {B P g n cap : Nat} {ys : List Tm} (h : HP w B P g n cap ys) : HQ w B P (.slice (some ⟨g, 0, none⟩) n cap) ys := ⟨h.1, by rw [h.len]; exact h.2.1, h.2.2.1⟩
set_option maxRecDepth 100000 in
set_option maxHeartbeats 1000000 in
theorem hPush_any {B P : Nat} {v : Value} {ys : List Tm} {x : Tm} {w : World} (h : HQ w B P v ys) (hx : Fl x) (hn : ys.length ≤ 50) (hB : B ≤ w.heap.size) (hfl : ∀ y ∈ ys, Fl y) (hk : HeapOk ys ys.length) :
    Calls Tryz.prog 199 #[hv P, .iface 33 (tv x none 0)] w fun e w' => e = .returned (.tuple #[]) ∧ ∃ g cap zs, HP w' B P g (ys.length + 1) cap zs ∧ HeapOk zs (ys.length + 1) ∧ (∀ t, t ∈ zs ↔ t ∈ ys ∨ t = x) ∧ Below B w w' := by
  have m0 := meth_ptr (w := w) (P := P) mPush
  have HC := hide (PPush_any h hx hn hB)
  have HU := hide (heap_up x rfl hk)
  have HF := hide (show ∀ y ∈ ys ++ [x], Fl y from fun y hy => by
    rcases List.mem_append.1 hy with h1 | h1
    · exact hfl y h1
    · simp at h1; subst h1; exact hx)
  have HB := hide hB
  clear h hx hk hfl hB
  generalize tv x none 0 = xv at *
  go_enter Tryz.func199, Tryz.ntmps199
  go_wp2_with fail
  refine HC.out.mono ?_
  rintro e w1 ⟨rfl, g, cap, h1, b1⟩
  have c0 := (row_reads h1.1).1 0
  simp only [List.getElem?_toArray, List.getElem?_cons_zero] at c0
  have m1 := meth_val mLen c0
  have HUP := hide (up_any h1 (j0 := ys.length) (by omega) (by omega) HF.out HU.out)
  have HX := hide (And.intro h1 b1)
  have e1 : ((ys.length + 1 : Nat) : Int) - 1 = (ys.length : Int) := by omega
  have hb1 : ((ys.length + 1 : Nat) : Int) ≤ 1000 := by omega
  have hb2 : 0 ≤ ((ys.length + 1 : Nat) : Int) := by omega
  have hb3 : (ys.length : Int) ≤ 1000 := by omega
  clear h1 b1 HC m0 HU
  go_wp2_with fail
  go_at_call 200
  refine (Len_any (w := w1) (.slice (some ⟨g, 0, none⟩) (ys.length + 1) cap) rfl).mono ?_
  rintro e w2 ⟨rfl, hw⟩
  replace hw := hw.symm
  subst hw
  clear m1
  go_wp2_with fail
  refine HUP.out.mono ?_
  rintro e w3 ⟨rfl, zs, h3, hok, hmem, hg3⟩
  have HY := hide (show ∃ g cap zs, HP w3 B P g (ys.length + 1) cap zs ∧ HeapOk zs (ys.length + 1) ∧ (∀ t, t ∈ zs ↔ t ∈ ys ∨ t = x) ∧ Below B w w3 from
    ⟨g, cap, zs, h3, hok, fun t => by rw [hmem t]; simp, Below.trans HX.out.2 ⟨hg3.os, hg3.tape, hg3.output, hg3.size, fun k hk => hg3.block k (by have := HX.out.2.size; have := HB.out; omega) (fun e => by injection e with e; have := HX.out.1.2.1.lt.2; omega)⟩⟩)
  clear h3 hok hmem hg3 HUP c0
  go_wp2
  go_end0
  exact ⟨rfl, HY.out⟩
theorem mem_take {zs : List Tm} {n : Nat} (hl : zs.length = n + 1) (t : Tm) : t ∈ zs ↔ t = gt zs n ∨ t ∈ zs.take n := by
  rw [mem_getD, mem_getD]
  have G : ∀ k, k < n → (zs.take n).getD k default = zs.getD k default := fun k hk => by
    rw [List.getD_eq_getElem?_getD, List.getElem?_take, if_pos hk, List.getD_eq_getElem?_getD]
  constructor
  · rintro ⟨k, hk, rfl⟩
    by_cases e : k = n
    · left; rw [e]
    · exact .inr ⟨k, by simp; omega, G k (by omega)⟩
  · rintro (e | ⟨k, hk, e⟩)
    · exact ⟨n, by omega, e.symm⟩
    · have hkn : k < n := by simp at hk; omega
      exact ⟨k, by omega, by rw [← G k hkn]; exact e⟩
set_option maxRecDepth 100000 in
set_option maxHeartbeats 1000000 in
theorem hPop_any {B P g n cap : Nat} {ys : List Tm} {w : World} (h : HP w B P g (n + 1) cap ys) (hn : n ≤ 50) (hfl : ∀ y ∈ ys, Fl y) (hk : HeapOk ys (n + 1)) :
    Calls Tryz.prog 201 #[hv P] w fun e w' => e = .returned (.iface 33 (tv (gt ys 0) none 0)) ∧ ∃ zs, HP w' B P g n cap zs ∧ HeapOk zs n ∧ (∀ t, t ∈ ys ↔ t = gt ys 0 ∨ t ∈ zs) ∧ Mod2 w w' P g := by
  have hlen := h.len
  have c0 := (row_reads h.1).1 0
  simp only [List.getElem?_toArray, List.getElem?_cons_zero] at c0
  have m0 := meth_val mLen c0
  have m1 := meth_val mSwap c0
  have HS := hide (Swap_any h.2.1 (i := 0) (j := n) (by omega) (by omega) (at_getD (by omega)) (at_getD (by omega)))
  have e1 : ((n + 1 : Nat) : Int) - 1 = (n : Int) := by omega
  have hb1 : ((n + 1 : Nat) : Int) ≤ 1000 := by omega
  have hb2 : 0 ≤ ((n + 1 : Nat) : Int) := by omega
  have hb3 : (n : Int) ≤ 1000 := by omega
  have HX := hide (And.intro h (And.intro hlen (And.intro hfl hk)))
  clear h hlen hfl hk
  obtain ⟨xv, hxv⟩ : ∃ xv, tv (gt ys 0) none 0 = xv := ⟨_, rfl⟩
  rw [hxv]
  have HXV := hide hxv
  clear hxv
  go_enter Tryz.func201, Tryz.ntmps201
  go_wp2_with fail
  go_at_call 200
  refine (Len_any (w := w) (.slice (some ⟨g, 0, none⟩) (n + 1) cap) rfl).mono ?_
  rintro e w2 ⟨rfl, hw⟩
  replace hw := hw.symm
  subst hw
  go_wp2_with fail
  refine HS.out.mono ?_
  rintro e w3 ⟨rfl, h3, g3⟩
  have hP3 := HX.out.1.put h3 g3
  have hsw : ((ys.set 0 (ys.getD n default)).set n (ys.getD 0 default)) = swp ys 0 n := rfl
  rw [hsw] at hP3
  have HD := hide (down_any (n := n) hP3 (by omega) (by omega) (fun y hy => HX.out.2.2.1 y ((swp_mem (by have := HX.out.2.1; omega) (by have := HX.out.2.1; omega) y).1 hy)) (heap_dn HX.out.2.1 HX.out.2.2.2))
  have HG := hide g3
  clear h3 g3 hP3 hsw HS c0 m0 m1
  go_wp2_with fail
  refine HD.out.mono ?_
  rintro e w4 ⟨bb, zs, rfl, h4, hok, hmem, hrest, g4⟩
  have hl4 := h4.len
  have hzn : gt zs n = gt ys 0 := by
    rw [hrest n (Nat.le_refl _)]
    show (swp ys 0 n).getD n default = _
    rw [swp_get (by have := HX.out.2.1; omega) (by have := HX.out.2.1; omega), if_pos rfl]
  have m2 := meth_ptr (w := w4) (P := P) mPop
  have hf0 : Fl (gt zs n) := by rw [hzn]; exact HX.out.2.2.1 _ (List.mem_of_getElem? (at_getD (by have := HX.out.2.1; omega)))
  have HQ := hide (PPop_any h4 (by omega) (at_getD (k := n) (by omega)) hf0)
  have HM := hide (And.intro hok (And.intro hmem (And.intro g4 (And.intro hl4 hzn))))
  have HQ2 := HQ.out
  rw [show zs.getD n default = gt ys 0 from hzn, HXV.out] at HQ2
  have HQ3 := hide HQ2
  clear h4 hok hmem hrest g4 hl4 hf0 HD HQ HQ2 hzn
  go_wp2_with fail
  refine HQ3.out.mono ?_
  rintro e w5 ⟨rfl, h5, g5⟩
  have HY := hide (show ∃ zs, HP w5 B P g n cap zs ∧ HeapOk zs n ∧ (∀ t, t ∈ ys ↔ t = gt ys 0 ∨ t ∈ zs) ∧ Mod2 w w5 P g from
    ⟨zs.take n, h5, heap_take HM.out.1, fun t => by
      rw [← swp_mem (i := 0) (j := n) (by have := HX.out.2.1; omega) (by have := HX.out.2.1; omega) t, ← HM.out.2.1 t, mem_take HM.out.2.2.2.1 t, HM.out.2.2.2.2], (Mod2.of HG.out (.inr rfl)).trans ((Mod2.of HM.out.2.2.1 (.inr rfl)).trans (Mod2.of g5 (.inl rfl)))⟩)
  clear h5 g5 HQ3
  go_wp2
  go_ret
  exact ⟨rfl, HY.out⟩
end Go.Proofs.YteiacgpaocnofaaGreat
