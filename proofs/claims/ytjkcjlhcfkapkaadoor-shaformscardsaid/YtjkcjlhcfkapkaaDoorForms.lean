/- ShaForms' body: it answers true, for any bytes, with the tables as the text lays them. -/
import Derived.Test.YtjkcjlhcfkapkaaDoorRef
import Derived.Test.YtjkcjlhcfkapkaaDoorDrawn
namespace Go.Proofs.YtjkcjlhcfkapkaaDoor
open Go.RowKit
set_option linter.unusedSimpArgs false in
set_option maxRecDepth 100000 in
set_option maxHeartbeats 2000000 in
theorem shaForms_walk (v : Value) (bs : List UInt8) (w : World) (ht : Tabs w) (hold : BsOld w v bs) (hb : bs.length ≤ 4611686018427387903) :
    Calls Tryd.prog 3 #[v] w fun e w' => e = .returned (.bool true) ∧ Below w.heap.size w w' := by
  obtain ⟨ao, c, rfl, -⟩ := id hold
  have HT := hide ht
  have HO := hide hold
  clear ht hold
  by_cases h3 : bs.length ≤ 3000
  · have hd : decide ((3000 : Int) < (bs.length : Int)) = false := by simp; omega
    go_enter Tryd.func3, Tryd.ntmps3
    go_wp2
    refine wp_region_ext (by kernel_rfl) ?_
    have hd0 : Ext w w.drew := ⟨rfl, rfl, rfl, Nat.le_refl _, fun _ _ => rfl⟩
    have ht0 := HT.out.ext hd0
    have ho0 := HO.out.ext hd0
    have HD := hide hd0
    clear hd0 hd
    generalize w.drew = w0 at *
    refine wpE_take (i := 0) (v := ?va1) rfl (by kernel_rfl) (by kernel_rfl) (by kernel_rfl) (fun _ _ _ h => h) rfl ?ya1 ?ra1
    case ya1 => (intro w' hw'; go_simp; try rfl)
    simp only [List.getElem_toArray, List.getElem_cons_zero, List.getElem_cons_succ, Act.put, List.setIfInBounds_toArray, List.set_cons_zero, List.set_cons_succ]
    refine wpE_take (i := 3) (v := ?va2) rfl (by kernel_rfl) (by kernel_rfl) (by kernel_rfl) (fun _ _ _ h => h) rfl ?ya2 ?ra2
    case ya2 => (intro w' hw'; go_simp; try rfl)
    simp only [List.getElem_toArray, List.getElem_cons_zero, List.getElem_cons_succ, Act.put, List.setIfInBounds_toArray, List.set_cons_zero, List.set_cons_succ]
    refine wpE_call (i := 1) (f := 9) (vals := #[.slice ao bs.length c]) (by kernel_rfl) rfl rfl (by go_simp) (shaSum_any bs _ w0 ht0 (ho0.at (Ext.refl _) (Nat.le_refl _)) (by omega)) ?_
    rintro e w1 ⟨v1, rfl, hown1, hb1⟩
    have ht1 := ht0.ext hb1
    have ho1 := ho0.ext hb1
    obtain ⟨g1, c1, hv1, _, _, _, _, hr1⟩ := owns_shape hown1 (by omega)
    subst hv1
    clear hown1
    refine ⟨_, rfl, hb1, ?_⟩
    simp only [List.getElem_toArray, List.getElem_cons_zero, List.getElem_cons_succ, Act.put, List.setIfInBounds_toArray, List.set_cons_zero, List.set_cons_succ]
    refine wpE_take (i := 2) (v := .string (strOf (shaB bs))) rfl (by kernel_rfl) (by kernel_rfl) (by kernel_rfl) (fun _ _ _ h => h) rfl (fun w' hw' => run_op_convert rfl rfl (by rw [← shaB_len bs] at *; exact run_str_at c1 hr1 hw' (by simp))) ?_
    simp only [List.getElem_toArray, List.getElem_cons_zero, List.getElem_cons_succ, Act.put, List.setIfInBounds_toArray, List.set_cons_zero, List.set_cons_succ]
    refine wpE_call (i := 4) (f := 10) (vals := #[.slice ao bs.length c]) (by kernel_rfl) rfl rfl (by go_simp) (ref_any bs _ w1 ho1 (by omega)) ?_
    rintro e w2 ⟨v2, rfl, hown2, hb2⟩
    have ht2 := ht1.ext hb2
    obtain ⟨g2, c2, hv2, _, _, _, _, hr2⟩ := owns_shape hown2 (by omega)
    subst hv2
    clear hown2
    refine ⟨_, rfl, hb2, ?_⟩
    simp only [List.getElem_toArray, List.getElem_cons_zero, List.getElem_cons_succ, Act.put, List.setIfInBounds_toArray, List.set_cons_zero, List.set_cons_succ]
    refine wpE_take (i := 5) (v := .string (strOf (shaB bs))) rfl (by kernel_rfl) (by kernel_rfl) (by kernel_rfl) (fun _ _ _ h => h) rfl (fun w' hw' => run_op_convert rfl rfl (by rw [← shaB_len bs] at *; exact run_str_at c2 hr2 hw' (by simp))) ?_
    simp only [List.getElem_toArray, List.getElem_cons_zero, List.getElem_cons_succ, Act.put, List.setIfInBounds_toArray, List.set_cons_zero, List.set_cons_succ]
    refine wpE_take (i := 6) (v := ?va3) rfl (by kernel_rfl) (by kernel_rfl) (by kernel_rfl) (fun _ _ _ h => h) rfl ?ya3 ?ra3
    case ya3 => (intro w' hw'; go_simp; try rfl)
    simp only [List.getElem_toArray, List.getElem_cons_zero, List.getElem_cons_succ, Act.put, List.setIfInBounds_toArray, List.set_cons_zero, List.set_cons_succ]
    refine wpE_take (i := 7) (v := ?va4) rfl (by kernel_rfl) (by kernel_rfl) (by kernel_rfl) (fun _ _ _ h => h) rfl ?ya4 ?ra4
    case ya4 => (intro w' hw'; go_simp; try rfl)
    simp only [List.getElem_toArray, List.getElem_cons_zero, List.getElem_cons_succ, Act.put, List.setIfInBounds_toArray, List.set_cons_zero, List.set_cons_succ]
    refine wpE_call (i := 8) (f := 8) (vals := #[]) (by kernel_rfl) rfl rfl (by go_simp) (awake_any w2 ht2) ?_
    rintro e w3 ⟨rfl, hb3⟩
    refine ⟨_, rfl, hb3, ?_⟩
    simp only [List.getElem_toArray, List.getElem_cons_zero, List.getElem_cons_succ, Act.put, List.setIfInBounds_toArray, List.set_cons_zero, List.set_cons_succ]
    refine wpE_take (i := 9) (v := ?va5) rfl (by kernel_rfl) (by kernel_rfl) (by kernel_rfl) (fun _ _ _ h => h) rfl ?ya5 ?ra5
    case ya5 => (intro w' hw'; go_simp; try rfl)
    simp only [List.getElem_toArray, List.getElem_cons_zero, List.getElem_cons_succ, Act.put, List.setIfInBounds_toArray, List.set_cons_zero, List.set_cons_succ]
    refine wpE_take (i := 10) (v := ?va6) rfl (by kernel_rfl) (by kernel_rfl) (by kernel_rfl) (fun _ _ _ h => h) rfl ?ya6 ?ra6
    case ya6 => (intro w' hw'; go_simp; try rfl)
    simp only [List.getElem_toArray, List.getElem_cons_zero, List.getElem_cons_succ, Act.put, List.setIfInBounds_toArray, List.set_cons_zero, List.set_cons_succ]
    refine wpE_done (by kernel_rfl) ?_
    have HZ := hide (HD.out.trans ((Ext.trans (b := w1) hb1 hb2).trans hb3))
    clear ht0 ho0 ht1 ho1 ht2 hr1 hr2 hb1 hb2 hb3
    go_wp2
    go_ret
    exact ⟨rfl, HZ.out⟩
  · have hd : decide ((3000 : Int) < (bs.length : Int)) = true := by simp; omega
    go_enter Tryd.func3, Tryd.ntmps3
    go_wp2_with fail
    refine (awake_any w HT.out).mono ?_
    rintro e w1 ⟨rfl, hb1⟩
    go_wp2
    go_ret
    exact ⟨rfl, hb1⟩
end Go.Proofs.YtjkcjlhcfkapkaaDoor
