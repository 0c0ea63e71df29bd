/- ShaTwo, walked: it answers true, whatever the two byte rows, as long as each can lie in a machine, where the two tables lie as the text lays them. -/
import Derived.Test.YtjkcjlhcfkapkaaDoorArgs
namespace Go.Proofs.YtjkcjlhcfkapkaaDoor
open Go.RowKit
set_option maxRecDepth 100000 in
set_option maxHeartbeats 1000000 in
theorem two_long (va vb : Value) (xa xb : List UInt8) (w : World) (ht : Tabs w) (ha : BsOld w va xa) (hb : BsOld w vb xb) (hl : 1000 < xa.length + xb.length) (hla : xa.length ≤ 4611686018427387903) (hlb : xb.length ≤ 4611686018427387903) :
    Calls Tryd.prog 7 #[va, vb] w fun e w' => e = .returned (.bool true) ∧ Below w.heap.size w w' := by
  obtain ⟨ao, c, rfl, _⟩ := ha
  obtain ⟨bo, d, rfl, _⟩ := hb
  have hd : (1000 : Int) < (xa.length : Int) + (xb.length : Int) := by omega
  have HT := hide ht
  clear ht
  go_enter Tryd.func7, Tryd.ntmps7
  go_wp2_with fail
  refine (awake_any w HT.out).mono ?_
  rintro e w1 ⟨rfl, hb1⟩
  go_wp2
  go_ret
  exact ⟨rfl, hb1⟩
set_option linter.unusedSimpArgs false in
set_option maxRecDepth 100000 in
set_option maxHeartbeats 4000000 in
theorem two_short (va vb : Value) (xa xb : List UInt8) (w : World) (ht : Tabs w) (ha : BsOld w va xa) (hb : BsOld w vb xb) (hl : xa.length + xb.length ≤ 1000) :
    Calls Tryd.prog 7 #[va, vb] w fun e w' => e = .returned (.bool true) ∧ Below w.heap.size w w' := by
  have hd : (xa.length : Int) + (xb.length : Int) ≤ 1000 := by omega
  have HA := hide ha
  have HB := hide hb
  obtain ⟨ao, c, rfl, _⟩ := ha
  obtain ⟨bo, d, rfl, _⟩ := hb
  have HT := hide ht
  clear ht
  go_enter Tryd.func7, Tryd.ntmps7
  go_wp2_with fail
  refine (new_any w).mono ?_
  rintro e w1 ⟨rfl, h1, hb1, hs1⟩
  have H1 := hide (And.intro h1 (And.intro hb1 hs1))
  clear h1 hb1 hs1
  go_wp2_with fail
  refine (new_any w1).mono ?_
  rintro e w2 ⟨rfl, h2, hb2, hs2⟩
  have H2 := hide (And.intro h2 (And.intro hb2 hs2))
  clear h2 hb2 hs2
  obtain ⟨h1, hb1, hs1⟩ := H1.out
  obtain ⟨h2, hb2, hs2⟩ := H2.out
  have he2 : Ext w w2 := Ext.trans (b := w1) hb1 hb2
  have heA : Ext w (w2.alloc (.cells #[] 5)) := he2.trans ((Below.refl _ _).alloc (Nat.le_refl _) _)
  have hx0 : Hashed (w2.alloc (.cells #[] 5)) w.heap.size [] := (show Hashed w2 w.heap.size [] from (show Hashed w1 w.heap.size [] from ⟨_, _, _, h1, HInv.zero⟩).ext hb2).ext ((Below.refl _ _).alloc (Nat.le_refl _) _)
  have hy0 : Hashed (w2.alloc (.cells #[] 5)) w1.heap.size [] := (show Hashed w2 w1.heap.size [] from ⟨_, _, _, h2, HInv.zero⟩).ext ((Below.refl _ _).alloc (Nat.le_refl _) _)
  have hoE := own_empty w2
  have haA := HA.out.ext heA
  have HC := hide (And.intro heA (And.intro hx0 (And.intro hy0 (And.intro hs1 hs2))))
  clear h1 hb1 h2 hb2 he2 heA hx0 hy0 hs1 hs2
  go_wp2_with (at_builtin; refine wpList_append_own2 rfl (.tmp 19) (.tmp 20) rfl _ [] w2.heap.size rfl hoE _ xa rfl haA (by simp; omega) ?_)
  clear hoE haA
  intro vc w3 gc hc3 hg3 hgc
  try simp only [List.nil_append] at hc3
  obtain ⟨heA, hx0, hy0, hs1, hs2⟩ := HC.out
  have hszA : (w2.alloc (.cells #[] 5)).heap.size = w2.heap.size + 1 := by simp
  have hgc2 : w.heap.size + 2 ≤ gc := by omega
  have he3 : Ext w w3 := ext_grown heA hg3 (by omega)
  have hx3 : Hashed w3 w.heap.size [] := hx0.grown hg3 (by simp; omega)
  have hy3 : Hashed w3 w1.heap.size [] := hy0.grown hg3 (by simp; omega)
  have HCw := hide (write_any w.heap.size [] xa vc w3 HT.out.2.2 hx3 (HT.out.ext he3) (bsAt_of_owns' hc3 (by omega)) (by simp; omega))
  have HD := hide (And.intro he3 (And.intro hy3 (And.intro hc3 (And.intro hgc2 (And.intro hs1 hs2)))))
  obtain ⟨capc, hvc, hown3⟩ := hc3
  subst hvc
  clear hown3 hx3 hy3 he3 hg3 hgc hgc2 hszA heA hx0 hy0 hs1 hs2
  go_wp2_with fail
  refine HCw.out.mono ?_
  rintro e w4 ⟨rfl, hx4, hg4⟩
  simp only [List.nil_append] at hx4
  obtain ⟨he3, hy3, hc3, hgc2, hs1, hs2⟩ := HD.out
  have he4 : Ext w w4 := ext_grown he3 hg4 (Nat.le_refl _)
  have hy4 : Hashed w4 w1.heap.size [] := hy3.grown hg4 (by simp; omega)
  have hc4 : Own w4 (.slice (some ⟨gc, 0, none⟩) xa.length capc) xa gc := hc3.grown hg4 (by simp; omega)
  have HE := hide (And.intro he4 (And.intro hx4 (And.intro hy4 (And.intro hc4 (And.intro hgc2 (And.intro hs1 hs2))))))
  clear he4 hx4 hy4 hc4 hgc2 hs1 hs2 he3 hy3 hc3 hg4
  go_wp2
  go_loopw [27] (fun i wr => ∃ k : Nat, k ≤ xa.length ∧ i = .int .i64 k ∧ Ext w wr ∧ Hashed wr w.heap.size xa ∧ Hashed wr w1.heap.size [] ∧ ∃ ys : List UInt8, ys.length = xa.length ∧ Own wr (.slice (some ⟨gc, 0, none⟩) xa.length capc) ys gc) (fun i _ => xa.length - (intOf i).toNat)
  case atStart =>
    obtain ⟨he4, hx4, hy4, hc4, _⟩ := HE.out
    exact ⟨0, by omega, rfl, he4, hx4, hy4, xa, rfl, hc4⟩
  case round =>
    obtain ⟨k, hk, rfl, her, hxr, hyr, ys, hyl, hcr⟩ := hrel
    by_cases hlt : k < xa.length
    · have hcell : wr.cell? ⟨gc, k, none⟩ = some (.int .u8 (bn (ys.getD k 0))) := by
        have := hcr.range k (bc (ys.getD k 0)) (by rw [List.getElem?_map, List.getD_eq_getElem?_getD, List.getElem?_eq_getElem (by omega)]; rfl)
        rw [Nat.zero_add] at this
        exact this
      have hfro : wr.frozen? ⟨gc, k, none⟩ = false := by
        obtain ⟨cap', e, ho⟩ := hcr
        injection e with e1 e2 e3
        subst e3
        rw [hyl] at ho
        exact ho.frozenAt k
      generalize ys.getD k 0 = y at hcell
      have hxor : bits BinOp.xor IntKind.u8 (bn y) 255 = bn (y ^^^ 255) := by
        unfold bn
        have h1 := u8_xor_nat y.toNat 255 y.toNat_lt (by decide)
        rw [show ((255 : Nat) : Int) = 255 from rfl] at h1
        rw [h1, UInt8.toNat_xor]; rfl
      have HR := hide (And.intro her (And.intro hxr (And.intro hyr (And.intro hyl hcr))))
      clear her hxr hyr hyl hcr
      go_wp2
      go_roundw
      case rel =>
        obtain ⟨her, hxr, hyr, hyl, hcr⟩ := HR.out
        obtain ⟨_, _, _, _, hgc2, hs1, hs2⟩ := HE.out
        have hgs : wr.grownBy (wr.setCell ⟨gc, k, none⟩ (.int .u8 (bn (y ^^^ 255)))) (some gc) := grown_cell (grown_refl wr _) k _
        refine ⟨k + 1, by omega, by go_num, ext_grown her hgs (by omega), hxr.grown hgs (by simp; omega), hyr.grown hgs (by simp; omega), ys.set k (y ^^^ 255), by simp [hyl], ?_⟩
        obtain ⟨cap', e, ho⟩ := hcr
        injection e with e1 e2 e3
        subst e3
        refine ⟨capc, by simp [hyl], ?_⟩
        rw [hyl] at ho
        have h1 := ho.stored k (.int .u8 (bn (y ^^^ 255)))
        rw [List.length_set, hyl, List.map_set]
        exact h1.1
      case measure => simp [intOf]; omega
    · have hd1 : decide ((k : Int) < (xa.length : Int)) = false := by simp; omega
      obtain ⟨_, _, _, _, hgc2, hs1, hs2⟩ := HE.out
      have HW5 := hide (write_any w1.heap.size [] xb (.slice bo xb.length d) wr (by have := HT.out.2.2; omega) hyr (HT.out.ext her) (HB.out.at her (by omega)) (by simp; omega))
      have HF := hide (And.intro her (And.intro hxr (And.intro hs1 hs2)))
      clear her hxr hyr hcr hyl hgc2 hs1 hs2
      go_wp2_with fail
      refine HW5.out.mono ?_
      rintro e w6 ⟨rfl, hy6, hg6⟩
      simp only [List.nil_append] at hy6
      obtain ⟨her, hxr, hs1, hs2⟩ := HF.out
      have he6 : Ext w w6 := ext_grown her hg6 (by omega)
      have hx6 : Hashed w6 w.heap.size xa := hxr.grown hg6 (by simp; omega)
      have HS7 := hide (sum_any w.heap.size xa w6 hx6.lt hx6 (HT.out.ext he6) (by omega))
      have HG := hide (And.intro he6 (And.intro hx6 (And.intro hy6 (And.intro hs1 hs2))))
      clear her hxr hs1 hs2 he6 hx6 hy6 hg6
      go_wp2_with fail
      refine HS7.out.mono ?_
      rintro e w7 ⟨vs, rfl, hown7, hb7⟩
      obtain ⟨he6, hx6, hy6, hs1, hs2⟩ := HG.out
      have he7 : Ext w w7 := he6.trans hb7
      have hx7 := hx6.ext hb7
      have hy7 := hy6.ext hb7
      have hown7' : w7.ownsRow w6.heap.size 5 1 vs (shaB xa).length ((shaB xa).map bc) := by rw [shaB_len]; exact hown7
      obtain ⟨gs, hgs, hOs⟩ := own_of hown7' (by rw [shaB_len]; omega)
      have hgs2 : w.heap.size + 2 ≤ gs := by have := hy6.lt; omega
      have HW8 := hide (write_any w.heap.size xa xb (.slice bo xb.length d) w7 HT.out.2.2 hx7 (HT.out.ext he7) (HB.out.at he7 (Nat.le_refl _)) (by omega))
      have HH := hide (And.intro he7 (And.intro hy7 (And.intro hOs (And.intro hgs2 (And.intro hs1 hs2)))))
      clear he6 hx6 hy6 hs1 hs2 he7 hx7 hy7 hown7 hown7' hb7 hgs hgs2 hOs
      go_wp2_with fail
      refine HW8.out.mono ?_
      rintro e w8 ⟨rfl, hx8, hg8⟩
      obtain ⟨he7, hy7, hOs, hgs2, hs1, hs2⟩ := HH.out
      have he8 : Ext w w8 := ext_grown he7 hg8 (Nat.le_refl _)
      have hy8 : Hashed w8 w1.heap.size xb := hy7.grown hg8 (by simp; omega)
      have hOs8 : Own w8 vs (shaB xa) gs := hOs.grown hg8 (by simp; omega)
      have HI := hide (And.intro he8 (And.intro hx8 (And.intro hy8 hOs8)))
      clear he7 hy7 hOs hgs2 hs1 hs2 he8 hy8 hOs8 hx8 hg8 HH HW8 HG HS7 HF HW5 HE HD HCw HC H1 H2
      go_wp2
      obtain ⟨he8, hx8, hy8, hOs8⟩ := HI.out
      have hd8 : Ext w8 w8.drew := ⟨rfl, rfl, rfl, Nat.le_refl _, fun _ _ => rfl⟩
      have he9 := he8.trans hd8
      have hx9 := hx8.ext hd8
      have hy9 := hy8.ext hd8
      have hOs9 : Own w8.drew vs (shaB xa) gs := hOs8.grown (hd8.gr none) (by simp)
      have ht := HT.out
      have hA := HA.out
      have hB := HB.out
      clear he8 hx8 hy8 hOs8 HI hd8
      obtain ⟨caps, hvs, hoo⟩ := id hOs9
      have hvs' : vs = .slice (some ⟨gs, 0, none⟩) (shaB xa).length caps := hvs
      subst hvs'
      clear hoo hvs
      refine wp_region_ext (by kernel_rfl) ?_
      generalize w8.drew = w9 at *
      refine wpE_take (i := 0) (v := ?va1) rfl (by kernel_rfl) (by kernel_rfl) (by kernel_rfl) (fun _ _ _ h => h) rfl ?ya1 ?ra1
      case ya1 => (intro w' hw'; go_simp; try rfl)
      simp only [List.getElem_toArray, List.getElem_cons_zero, List.getElem_cons_succ, Act.put, List.setIfInBounds_toArray, List.set_cons_zero, List.set_cons_succ]
      refine wpE_take (i := 2) (v := ?va2) rfl (by kernel_rfl) (by kernel_rfl) (by kernel_rfl) (fun _ _ _ h => h) rfl ?ya2 ?ra2
      case ya2 => (intro w' hw'; go_simp; try rfl)
      simp only [List.getElem_toArray, List.getElem_cons_zero, List.getElem_cons_succ, Act.put, List.setIfInBounds_toArray, List.set_cons_zero, List.set_cons_succ]
      refine wpE_take (i := 1) (v := .string (strOf (shaB xa))) rfl (by kernel_rfl) (by kernel_rfl) (by kernel_rfl) (fun _ _ _ h => h) rfl (fun w' hw' => run_op_convert rfl rfl (run_str_at caps hOs9.range hw' (by simp))) ?_
      simp only [List.getElem_toArray, List.getElem_cons_zero, List.getElem_cons_succ, Act.put, List.setIfInBounds_toArray, List.set_cons_zero, List.set_cons_succ]
      refine wpE_call (i := 3) (f := 9) (vals := #[.slice ao xa.length c]) (by kernel_rfl) rfl rfl (by go_simp) (shaSum_any xa _ w9 (ht.ext he9) (hA.at he9 he9.size) (by omega)) ?_
      rintro e w10 ⟨v10, rfl, hown10, hb10⟩
      have he10 : Ext w w10 := he9.trans hb10
      have hx10 := hx9.ext hb10
      have hy10 := hy9.ext hb10
      obtain ⟨g10, c10, hv10, _, _, _, _, hr10⟩ := owns_shape hown10 (by omega)
      subst hv10
      clear hown10
      refine ⟨_, rfl, hb10, ?_⟩
      simp only [List.getElem_toArray, List.getElem_cons_zero, List.getElem_cons_succ, Act.put, List.setIfInBounds_toArray, List.set_cons_zero, List.set_cons_succ]
      refine wpE_take (i := 4) (v := .string (strOf (shaB xa))) rfl (by kernel_rfl) (by kernel_rfl) (by kernel_rfl) (fun _ _ _ h => h) rfl (fun w' hw' => run_op_convert rfl rfl (by rw [← shaB_len xa] at *; exact run_str_at c10 hr10 hw' (by simp))) ?_
      simp only [List.getElem_toArray, List.getElem_cons_zero, List.getElem_cons_succ, Act.put, List.setIfInBounds_toArray, List.set_cons_zero, List.set_cons_succ]
      refine wpE_take (i := 5) (v := ?va3) rfl (by kernel_rfl) (by kernel_rfl) (by kernel_rfl) (fun _ _ _ h => h) rfl ?ya3 ?ra3
      case ya3 => (intro w' hw'; go_simp; try rfl)
      simp only [List.getElem_toArray, List.getElem_cons_zero, List.getElem_cons_succ, Act.put, List.setIfInBounds_toArray, List.set_cons_zero, List.set_cons_succ]
      refine wpE_take (i := 6) (v := ?va4) rfl (by kernel_rfl) (by kernel_rfl) (by kernel_rfl) (fun _ _ _ h => h) rfl ?ya4 ?ra4
      case ya4 => (intro w' hw'; go_simp; try rfl)
      simp only [List.getElem_toArray, List.getElem_cons_zero, List.getElem_cons_succ, Act.put, List.setIfInBounds_toArray, List.set_cons_zero, List.set_cons_succ]
      refine wpE_take (i := 7) (v := ?va5) rfl (by kernel_rfl) (by kernel_rfl) (by kernel_rfl) (fun _ _ _ h => h) rfl ?ya5 ?ra5
      case ya5 => (intro w' hw'; go_simp; try rfl)
      simp only [List.getElem_toArray, List.getElem_cons_zero, List.getElem_cons_succ, Act.put, List.setIfInBounds_toArray, List.set_cons_zero, List.set_cons_succ]
      refine wpE_take (i := 10) (v := ?va6) rfl (by kernel_rfl) (by kernel_rfl) (by kernel_rfl) (fun _ _ _ h => h) rfl ?ya6 ?ra6
      case ya6 => (intro w' hw'; go_simp; try rfl)
      simp only [List.getElem_toArray, List.getElem_cons_zero, List.getElem_cons_succ, Act.put, List.setIfInBounds_toArray, List.set_cons_zero, List.set_cons_succ]
      refine wpE_call (i := 8) (f := 13) (vals := #[.pointer (some ⟨w1.heap.size, 0, none⟩)]) (by kernel_rfl) rfl rfl (by go_simp) (sum_any w1.heap.size xb w10 hy10.lt hy10 (ht.ext he10) (by omega)) ?_
      rintro e w11 ⟨v11, rfl, hown11, hb11⟩
      have he11 : Ext w w11 := he10.trans hb11
      have hx11 := hx10.ext hb11
      obtain ⟨g11, c11, hv11, _, _, _, _, hr11⟩ := owns_shape hown11 (by omega)
      subst hv11
      clear hown11
      refine ⟨_, rfl, hb11, ?_⟩
      simp only [List.getElem_toArray, List.getElem_cons_zero, List.getElem_cons_succ, Act.put, List.setIfInBounds_toArray, List.set_cons_zero, List.set_cons_succ]
      refine wpE_take (i := 9) (v := .string (strOf (shaB xb))) rfl (by kernel_rfl) (by kernel_rfl) (by kernel_rfl) (fun _ _ _ h => h) rfl (fun w' hw' => run_op_convert rfl rfl (by rw [← shaB_len xb] at *; exact run_str_at c11 hr11 hw' (by simp))) ?_
      simp only [List.getElem_toArray, List.getElem_cons_zero, List.getElem_cons_succ, Act.put, List.setIfInBounds_toArray, List.set_cons_zero, List.set_cons_succ]
      refine wpE_call (i := 11) (f := 9) (vals := #[.slice bo xb.length d]) (by kernel_rfl) rfl rfl (by go_simp) (shaSum_any xb _ w11 (ht.ext he11) (hB.at he11 he11.size) (by omega)) ?_
      rintro e w12 ⟨v12, rfl, hown12, hb12⟩
      have he12 : Ext w w12 := he11.trans hb12
      have hx12 := hx11.ext hb12
      obtain ⟨g12, c12, hv12, _, _, _, _, hr12⟩ := owns_shape hown12 (by omega)
      subst hv12
      clear hown12
      refine ⟨_, rfl, hb12, ?_⟩
      simp only [List.getElem_toArray, List.getElem_cons_zero, List.getElem_cons_succ, Act.put, List.setIfInBounds_toArray, List.set_cons_zero, List.set_cons_succ]
      refine wpE_take (i := 12) (v := .string (strOf (shaB xb))) rfl (by kernel_rfl) (by kernel_rfl) (by kernel_rfl) (fun _ _ _ h => h) rfl (fun w' hw' => run_op_convert rfl rfl (by rw [← shaB_len xb] at *; exact run_str_at c12 hr12 hw' (by simp))) ?_
      simp only [List.getElem_toArray, List.getElem_cons_zero, List.getElem_cons_succ, Act.put, List.setIfInBounds_toArray, List.set_cons_zero, List.set_cons_succ]
      refine wpE_take (i := 13) (v := ?va7) rfl (by kernel_rfl) (by kernel_rfl) (by kernel_rfl) (fun _ _ _ h => h) rfl ?ya7 ?ra7
      case ya7 => (intro w' hw'; go_simp; try rfl)
      simp only [List.getElem_toArray, List.getElem_cons_zero, List.getElem_cons_succ, Act.put, List.setIfInBounds_toArray, List.set_cons_zero, List.set_cons_succ]
      refine wpE_take (i := 14) (v := ?va8) rfl (by kernel_rfl) (by kernel_rfl) (by kernel_rfl) (fun _ _ _ h => h) rfl ?ya8 ?ra8
      case ya8 => (intro w' hw'; go_simp; try rfl)
      simp only [List.getElem_toArray, List.getElem_cons_zero, List.getElem_cons_succ, Act.put, List.setIfInBounds_toArray, List.set_cons_zero, List.set_cons_succ]
      refine wpE_take (i := 15) (v := ?va9) rfl (by kernel_rfl) (by kernel_rfl) (by kernel_rfl) (fun _ _ _ h => h) rfl ?ya9 ?ra9
      case ya9 => (intro w' hw'; go_simp; try rfl)
      simp only [List.getElem_toArray, List.getElem_cons_zero, List.getElem_cons_succ, Act.put, List.setIfInBounds_toArray, List.set_cons_zero, List.set_cons_succ]
      refine wpE_take (i := 16) (v := ?va10) rfl (by kernel_rfl) (by kernel_rfl) (by kernel_rfl) (fun _ _ _ h => h) rfl ?ya10 ?ra10
      case ya10 => (intro w' hw'; go_simp; try rfl)
      simp only [List.getElem_toArray, List.getElem_cons_zero, List.getElem_cons_succ, Act.put, List.setIfInBounds_toArray, List.set_cons_zero, List.set_cons_succ]
      refine wpE_take (i := 20) (v := ?va11) rfl (by kernel_rfl) (by kernel_rfl) (by kernel_rfl) (fun _ _ _ h => h) rfl ?ya11 ?ra11
      case ya11 => (intro w' hw'; go_simp; try rfl)
      simp only [List.getElem_toArray, List.getElem_cons_zero, List.getElem_cons_succ, Act.put, List.setIfInBounds_toArray, List.set_cons_zero, List.set_cons_succ]
      refine wpE_take (i := 22) (v := ?va12) rfl (by kernel_rfl) (by kernel_rfl) (by kernel_rfl) (fun _ _ _ h => h) rfl ?ya12 ?ra12
      case ya12 => (intro w' hw'; go_simp; try rfl)
      simp only [List.getElem_toArray, List.getElem_cons_zero, List.getElem_cons_succ, Act.put, List.setIfInBounds_toArray, List.set_cons_zero, List.set_cons_succ]
      refine wpE_all (rs := [17, 19]) (by kernel_rfl) (by simp) ?_
      intro i hi
      simp only [List.mem_cons, List.not_mem_nil, or_false] at hi
      rcases hi with rfl | rfl
      · refine wpOp_of rfl rfl (Oper.wp_enter (f := 13) (vals := #[.pointer (some ⟨w.heap.size, 0, none⟩)]) (by go_simp) (sum_any w.heap.size (xa ++ xb) w12 hx12.lt hx12 (ht.ext he12) (by simp; omega)) ?_)
        rintro e w13 ⟨v13, rfl, hown13, hb13⟩
        obtain ⟨g13, c13, hv13, _, _, _, _, hr13⟩ := owns_shape hown13 (by omega)
        subst hv13
        clear hown13
        refine ⟨_, rfl, none, Ext.gr hb13 none, fun g hg => by (cases hg), ?_⟩
        simp only [List.getElem_toArray, List.getElem_cons_zero, List.getElem_cons_succ, Act.put, List.setIfInBounds_toArray, List.set_cons_zero, List.set_cons_succ]
        refine wpE_take (i := 18) (v := .string (strOf (shaB (xa ++ xb)))) rfl (by kernel_rfl) (by kernel_rfl) (by kernel_rfl) (fun _ _ _ h => h) rfl (fun w' hw' => run_op_convert rfl rfl (by rw [← shaB_len (xa ++ xb)] at *; exact run_str_at c13 hr13 hw' (by simp))) ?_
        simp only [List.getElem_toArray, List.getElem_cons_zero, List.getElem_cons_succ, Act.put, List.setIfInBounds_toArray, List.set_cons_zero, List.set_cons_succ]
        refine wpE_one (i := 19) (by kernel_rfl) rfl rfl (Oper.wp_value (v := .slice (some ⟨w13.heap.size, 0, none⟩) 0 0) (w' := w13.alloc (.cells #[] 5)) (by go_simp) ?_)
        refine ⟨some w13.heap.size, World.grownBy_alloc _ _ _, fun g hg => by (simp only [Option.some.injEq] at hg; subst hg; exact .inr (Nat.le_refl _)), ?_⟩
        simp only [List.getElem_toArray, List.getElem_cons_zero, List.getElem_cons_succ, Act.put, List.setIfInBounds_toArray, List.set_cons_zero, List.set_cons_succ]
        have he13 : Ext w (w13.alloc (.cells #[] 5)) := (he12.trans hb13).trans ((Below.refl _ _).alloc (Nat.le_refl _) _)
        have hg0 : w.heap.size ≤ w13.heap.size := (he12.trans hb13).size
        have hO13 := own_empty w13
        generalize hgg : w13.heap.size = g0 at *
        generalize w13.alloc (.cells #[] 5) = w13' at *
        clear hgg
        refine wpE_one (i := 21) (by kernel_rfl) rfl rfl (wp_append_own2 (.tmp 64) (.tmp 65) rfl _ [] g0 rfl hO13 _ xa rfl (hA.ext he13) (by simp; omega) ?_)
        intro v14 w14 g14 hO14 hg14 hgd14
        simp only [List.nil_append] at hO14
        have he14 : Ext w w14 := ext_grown he13 hg14 hg0
        have hg14w : w.heap.size ≤ g14 := by have := he13.size; omega
        refine ⟨some g14, hg14, fun g hg => by (simp only [Option.some.injEq] at hg; subst hg; rcases hgd14 with h | h; exact .inl (by rw [h]); exact .inr h), ?_⟩
        simp only [List.getElem_toArray, List.getElem_cons_zero, List.getElem_cons_succ, Act.put, List.setIfInBounds_toArray, List.set_cons_zero, List.set_cons_succ]
        refine wpE_one (i := 23) (by kernel_rfl) rfl rfl (wp_append_own2 (.tmp 66) (.tmp 67) rfl _ xa g14 rfl hO14 _ xb rfl (hB.ext he14) (by omega) ?_)
        intro v15 w15 g15 hO15 hg15 hgd15
        have he15 : Ext w w15 := ext_grown he14 hg15 hg14w
        refine ⟨some g15, hg15, fun g hg => by (simp only [Option.some.injEq] at hg; subst hg; rcases hgd15 with h | h; exact .inl (by rw [h]); exact .inr h), ?_⟩
        simp only [List.getElem_toArray, List.getElem_cons_zero, List.getElem_cons_succ, Act.put, List.setIfInBounds_toArray, List.set_cons_zero, List.set_cons_succ]
        have hlt15 := hO15.lt
        have hB15 := bsAt_of_owns' hO15 (show g15 ≠ w15.heap.size by omega)
        have hln : (xa ++ xb).length = xa.length + xb.length := List.length_append
        obtain ⟨cap15, hv15, _⟩ := hO15
        subst hv15
        refine wpE_call (i := 24) (f := 9) (vals := #[.slice (some ⟨g15, 0, none⟩) (xa ++ xb).length cap15]) (by kernel_rfl) rfl rfl (by go_simp) (shaSum_any (xa ++ xb) _ w15 (ht.ext he15) hB15 (by omega)) ?_
        rintro e w16 ⟨v16, rfl, hown16, hb16⟩
        have he16 : Ext w w16 := he15.trans hb16
        obtain ⟨g16, c16, hv16, _, _, hg16, _, hr16⟩ := owns_shape hown16 (by omega)
        subst hv16
        clear hown16
        refine ⟨_, rfl, hb16, ?_⟩
        simp only [List.getElem_toArray, List.getElem_cons_zero, List.getElem_cons_succ, Act.put, List.setIfInBounds_toArray, List.set_cons_zero, List.set_cons_succ]
        refine wpE_take (i := 25) (v := .string (strOf (shaB (xa ++ xb)))) rfl (by kernel_rfl) (by kernel_rfl) (by kernel_rfl) (fun _ _ _ h => h) rfl (fun w' hw' => run_op_convert rfl rfl (by rw [← shaB_len (xa ++ xb)] at *; exact run_str_at c16 hr16 hw' (by simp; omega))) ?_
        simp only [List.getElem_toArray, List.getElem_cons_zero, List.getElem_cons_succ, Act.put, List.setIfInBounds_toArray, List.set_cons_zero, List.set_cons_succ]
        refine wpE_take (i := 26) (v := ?vp1) rfl (by kernel_rfl) (by kernel_rfl) (by kernel_rfl) (fun _ _ _ h => h) rfl ?yp1 ?rp1
        case yp1 => (intro w' hw'; go_simp; try rfl)
        simp only [List.getElem_toArray, List.getElem_cons_zero, List.getElem_cons_succ, Act.put, List.setIfInBounds_toArray, List.set_cons_zero, List.set_cons_succ]
        refine wpE_take (i := 27) (v := ?vp2) rfl (by kernel_rfl) (by kernel_rfl) (by kernel_rfl) (fun _ _ _ h => h) rfl ?yp2 ?rp2
        case yp2 => (intro w' hw'; go_simp; try rfl)
        simp only [List.getElem_toArray, List.getElem_cons_zero, List.getElem_cons_succ, Act.put, List.setIfInBounds_toArray, List.set_cons_zero, List.set_cons_succ]
        refine wpE_take (i := 28) (v := ?vp3) rfl (by kernel_rfl) (by kernel_rfl) (by kernel_rfl) (fun _ _ _ h => h) rfl ?yp3 ?rp3
        case yp3 => (intro w' hw'; go_simp; try rfl)
        simp only [List.getElem_toArray, List.getElem_cons_zero, List.getElem_cons_succ, Act.put, List.setIfInBounds_toArray, List.set_cons_zero, List.set_cons_succ]
        refine wpE_call (i := 29) (f := 8) (vals := #[]) (by kernel_rfl) rfl rfl (by go_simp) (awake_any w16 (ht.ext he16)) ?_
        rintro e w17 ⟨rfl, hb17⟩
        refine ⟨_, rfl, hb17, ?_⟩
        simp only [List.getElem_toArray, List.getElem_cons_zero, List.getElem_cons_succ, Act.put, List.setIfInBounds_toArray, List.set_cons_zero, List.set_cons_succ]
        refine wpE_take (i := 30) (v := ?vp4) rfl (by kernel_rfl) (by kernel_rfl) (by kernel_rfl) (fun _ _ _ h => h) rfl ?yp4 ?rp4
        case yp4 => (intro w' hw'; go_simp; try rfl)
        simp only [List.getElem_toArray, List.getElem_cons_zero, List.getElem_cons_succ, Act.put, List.setIfInBounds_toArray, List.set_cons_zero, List.set_cons_succ]
        refine wpE_take (i := 31) (v := ?vp5) rfl (by kernel_rfl) (by kernel_rfl) (by kernel_rfl) (fun _ _ _ h => h) rfl ?yp5 ?rp5
        case yp5 => (intro w' hw'; go_simp; try rfl)
        simp only [List.getElem_toArray, List.getElem_cons_zero, List.getElem_cons_succ, Act.put, List.setIfInBounds_toArray, List.set_cons_zero, List.set_cons_succ]
        refine wpE_done (by kernel_rfl) ?_
        have HZ := hide (he16.trans hb17)
        clear he9 hx9 hy9 hOs9 hb10 he10 hx10 hy10 hr10 hb11 he11 hx11 hr11 hb12 he12 hx12 hr12 he13 hO13 hO14 hg14 hgd14 he14 hg15 hgd15 he15 hb16 he16 hr16 hb17 hB15
        go_wp2
        go_ret
        exact ⟨rfl, HZ.out⟩
      · refine wpOp_of rfl rfl (Oper.wp_value (v := .slice (some ⟨w12.heap.size, 0, none⟩) 0 0) (w' := w12.alloc (.cells #[] 5)) (by go_simp) ?_)
        refine ⟨some w12.heap.size, World.grownBy_alloc _ _ _, fun g hg => by (simp only [Option.some.injEq] at hg; subst hg; exact .inr (Nat.le_refl _)), ?_⟩
        simp only [List.getElem_toArray, List.getElem_cons_zero, List.getElem_cons_succ, Act.put, List.setIfInBounds_toArray, List.set_cons_zero, List.set_cons_succ]
        have hal : Ext w12 (w12.alloc (.cells #[] 5)) := (Below.refl _ _).alloc (Nat.le_refl _) _
        have he12' := he12.trans hal
        have hx12' := hx12.ext hal
        have hO12 := own_empty w12
        have hg0 : w.heap.size ≤ w12.heap.size := he12.size
        have hsz : (w12.alloc (.cells #[] 5)).heap.size = w12.heap.size + 1 := by simp
        generalize hgg : w12.heap.size = g0 at *
        generalize w12.alloc (.cells #[] 5) = wa12 at *
        clear hgg
        refine wpE_call (i := 17) (f := 13) (vals := #[.pointer (some ⟨w.heap.size, 0, none⟩)]) (by kernel_rfl) rfl rfl (by go_simp) (sum_any w.heap.size (xa ++ xb) wa12 hx12'.lt hx12' (ht.ext he12') (by simp; omega)) ?_
        rintro e w13 ⟨v13, rfl, hown13, hb13⟩
        obtain ⟨g13, c13, hv13, _, _, hg13, _, hr13⟩ := owns_shape hown13 (by omega)
        subst hv13
        clear hown13
        refine ⟨_, rfl, hb13, ?_⟩
        simp only [List.getElem_toArray, List.getElem_cons_zero, List.getElem_cons_succ, Act.put, List.setIfInBounds_toArray, List.set_cons_zero, List.set_cons_succ]
        refine wpE_take (i := 18) (v := .string (strOf (shaB (xa ++ xb)))) rfl (by kernel_rfl) (by kernel_rfl) (by kernel_rfl) (fun _ _ _ h => h) rfl (fun w' hw' => run_op_convert rfl rfl (by rw [← shaB_len (xa ++ xb)] at *; exact run_str_at c13 hr13 hw' (by simp; omega))) ?_
        simp only [List.getElem_toArray, List.getElem_cons_zero, List.getElem_cons_succ, Act.put, List.setIfInBounds_toArray, List.set_cons_zero, List.set_cons_succ]
        have he13 : Ext w w13 := he12'.trans hb13
        have hO13 : Own w13 (.slice (some ⟨g0, 0, none⟩) 0 0) [] g0 := hO12.grown (Ext.gr hb13 none) (by simp)
        refine wpE_one (i := 21) (by kernel_rfl) rfl rfl (wp_append_own2 (.tmp 64) (.tmp 65) rfl _ [] g0 rfl hO13 _ xa rfl (hA.ext he13) (by simp; omega) ?_)
        intro v14 w14 g14 hO14 hg14 hgd14
        simp only [List.nil_append] at hO14
        have he14 : Ext w w14 := ext_grown he13 hg14 hg0
        have hg14w : w.heap.size ≤ g14 := by have := he13.size; omega
        refine ⟨some g14, hg14, fun g hg => by (simp only [Option.some.injEq] at hg; subst hg; rcases hgd14 with h | h; exact .inl (by rw [h]); exact .inr h), ?_⟩
        simp only [List.getElem_toArray, List.getElem_cons_zero, List.getElem_cons_succ, Act.put, List.setIfInBounds_toArray, List.set_cons_zero, List.set_cons_succ]
        refine wpE_one (i := 23) (by kernel_rfl) rfl rfl (wp_append_own2 (.tmp 66) (.tmp 67) rfl _ xa g14 rfl hO14 _ xb rfl (hB.ext he14) (by omega) ?_)
        intro v15 w15 g15 hO15 hg15 hgd15
        have he15 : Ext w w15 := ext_grown he14 hg15 hg14w
        refine ⟨some g15, hg15, fun g hg => by (simp only [Option.some.injEq] at hg; subst hg; rcases hgd15 with h | h; exact .inl (by rw [h]); exact .inr h), ?_⟩
        simp only [List.getElem_toArray, List.getElem_cons_zero, List.getElem_cons_succ, Act.put, List.setIfInBounds_toArray, List.set_cons_zero, List.set_cons_succ]
        have hlt15 := hO15.lt
        have hB15 := bsAt_of_owns' hO15 (show g15 ≠ w15.heap.size by omega)
        have hln : (xa ++ xb).length = xa.length + xb.length := List.length_append
        obtain ⟨cap15, hv15, _⟩ := hO15
        subst hv15
        refine wpE_call (i := 24) (f := 9) (vals := #[.slice (some ⟨g15, 0, none⟩) (xa ++ xb).length cap15]) (by kernel_rfl) rfl rfl (by go_simp) (shaSum_any (xa ++ xb) _ w15 (ht.ext he15) hB15 (by omega)) ?_
        rintro e w16 ⟨v16, rfl, hown16, hb16⟩
        have he16 : Ext w w16 := he15.trans hb16
        obtain ⟨g16, c16, hv16, _, _, hg16, _, hr16⟩ := owns_shape hown16 (by omega)
        subst hv16
        clear hown16
        refine ⟨_, rfl, hb16, ?_⟩
        simp only [List.getElem_toArray, List.getElem_cons_zero, List.getElem_cons_succ, Act.put, List.setIfInBounds_toArray, List.set_cons_zero, List.set_cons_succ]
        refine wpE_take (i := 25) (v := .string (strOf (shaB (xa ++ xb)))) rfl (by kernel_rfl) (by kernel_rfl) (by kernel_rfl) (fun _ _ _ h => h) rfl (fun w' hw' => run_op_convert rfl rfl (by rw [← shaB_len (xa ++ xb)] at *; exact run_str_at c16 hr16 hw' (by simp; omega))) ?_
        simp only [List.getElem_toArray, List.getElem_cons_zero, List.getElem_cons_succ, Act.put, List.setIfInBounds_toArray, List.set_cons_zero, List.set_cons_succ]
        refine wpE_take (i := 26) (v := ?vq1) rfl (by kernel_rfl) (by kernel_rfl) (by kernel_rfl) (fun _ _ _ h => h) rfl ?yq1 ?rq1
        case yq1 => (intro w' hw'; go_simp; try rfl)
        simp only [List.getElem_toArray, List.getElem_cons_zero, List.getElem_cons_succ, Act.put, List.setIfInBounds_toArray, List.set_cons_zero, List.set_cons_succ]
        refine wpE_take (i := 27) (v := ?vq2) rfl (by kernel_rfl) (by kernel_rfl) (by kernel_rfl) (fun _ _ _ h => h) rfl ?yq2 ?rq2
        case yq2 => (intro w' hw'; go_simp; try rfl)
        simp only [List.getElem_toArray, List.getElem_cons_zero, List.getElem_cons_succ, Act.put, List.setIfInBounds_toArray, List.set_cons_zero, List.set_cons_succ]
        refine wpE_take (i := 28) (v := ?vq3) rfl (by kernel_rfl) (by kernel_rfl) (by kernel_rfl) (fun _ _ _ h => h) rfl ?yq3 ?rq3
        case yq3 => (intro w' hw'; go_simp; try rfl)
        simp only [List.getElem_toArray, List.getElem_cons_zero, List.getElem_cons_succ, Act.put, List.setIfInBounds_toArray, List.set_cons_zero, List.set_cons_succ]
        refine wpE_call (i := 29) (f := 8) (vals := #[]) (by kernel_rfl) rfl rfl (by go_simp) (awake_any w16 (ht.ext he16)) ?_
        rintro e w17 ⟨rfl, hb17⟩
        refine ⟨_, rfl, hb17, ?_⟩
        simp only [List.getElem_toArray, List.getElem_cons_zero, List.getElem_cons_succ, Act.put, List.setIfInBounds_toArray, List.set_cons_zero, List.set_cons_succ]
        refine wpE_take (i := 30) (v := ?vq4) rfl (by kernel_rfl) (by kernel_rfl) (by kernel_rfl) (fun _ _ _ h => h) rfl ?yq4 ?rq4
        case yq4 => (intro w' hw'; go_simp; try rfl)
        simp only [List.getElem_toArray, List.getElem_cons_zero, List.getElem_cons_succ, Act.put, List.setIfInBounds_toArray, List.set_cons_zero, List.set_cons_succ]
        refine wpE_take (i := 31) (v := ?vq5) rfl (by kernel_rfl) (by kernel_rfl) (by kernel_rfl) (fun _ _ _ h => h) rfl ?yq5 ?rq5
        case yq5 => (intro w' hw'; go_simp; try rfl)
        simp only [List.getElem_toArray, List.getElem_cons_zero, List.getElem_cons_succ, Act.put, List.setIfInBounds_toArray, List.set_cons_zero, List.set_cons_succ]
        refine wpE_done (by kernel_rfl) ?_
        have HZ := hide (he16.trans hb17)
        clear he9 hx9 hy9 hOs9 hb10 he10 hx10 hy10 hr10 hb11 he11 hx11 hr11 hb12 he12 hx12 hr12 he13 hO13 hO14 hg14 hgd14 he14 hg15 hgd15 he15 hb16 he16 hr16 hb17 hB15
        go_wp2
        go_ret
        exact ⟨rfl, HZ.out⟩
theorem shaTwo_walk (va vb : Value) (xa xb : List UInt8) (w : World) (ht : Tabs w) (ha : BsOld w va xa) (hb : BsOld w vb xb) (hla : xa.length ≤ 140737488351232) (hlb : xb.length ≤ 140737488351232) :
    Calls Tryd.prog 7 #[va, vb] w fun e w' => e = .returned (.bool true) ∧ Below w.heap.size w w' := by
  by_cases hl : xa.length + xb.length ≤ 1000
  · exact two_short va vb xa xb w ht ha hb hl
  · exact two_long va vb xa xb w ht ha hb (by omega) (by omega) (by omega)
end Go.Proofs.YtjkcjlhcfkapkaaDoor
