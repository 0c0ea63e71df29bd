/- ShaPieces, walked: it answers true, whatever the rows and the number, as long as each row can lie in a machine, where the two tables lie as the text lays them. -/
import Derived.Test.YtjkcjlhcfkapkaaDoorArgs
namespace Go.Proofs.YtjkcjlhcfkapkaaDoor
open Go.RowKit
theorem wrap64_in' (n : Int) (h1 : 0 ≤ n) (h2 : n ≤ 9223372036854775807) : wrap64 n = n := by unfold wrap64; omega
set_option maxRecDepth 100000 in
set_option maxHeartbeats 1000000 in
theorem pieces_many (v : Value) (vs : Nat → Value) (R : List (List UInt8)) (ask : Int) (w : World) (ht : Tabs w) (hR : RowsOld w v vs R) (hl : R.length ≤ 4611686018427387903) (hm : 50 < R.length ∨ (R.length ≤ 50 ∧ 3000 < total R)) :
    Calls Tryd.prog 4 #[v, .int .i64 ask] w fun e w' => e = .returned (.bool true) ∧ Below w.heap.size w w' := by
  obtain ⟨ao, c, rfl, hrow⟩ := hR
  have HT := hide ht
  have HR := hide hrow
  have HM := hide hm
  clear ht hrow hm
  go_enter Tryd.func4, Tryd.ntmps4
  go_wp2
  go_loop [5, 15] (fun t i => ∃ k : Nat, k ≤ R.length ∧ i = .int .i64 k ∧ ∃ z : Int, t = .int .i64 z ∧ (R.length ≤ 50 → z = total (R.take k))) (fun _ i => R.length - (intOf i).toNat)
  case atStart => exact ⟨0, by omega, rfl, 0, rfl, fun _ => rfl⟩
  case round =>
    obtain ⟨k, hk, rfl, z, rfl, hz⟩ := hrel
    have HZ := hide hz
    clear hz
    by_cases hlt : k < R.length
    · obtain ⟨hold, hlen, b, o, hao, hb, hcell⟩ := HR.out k hlt
      obtain ⟨ak, ck, hvk, _⟩ := hold
      rw [hvk] at hcell
      subst hao
      have hlk : (R.getD k []).length ≤ 140737488351232 := hlen
      generalize hlr : (R.getD k []).length = n at *
      have HL := hide hlr
      clear hlr hvk hlen
      go_wp2
      go_round
      case rel => exact ⟨k + 1, by omega, by go_num, _, rfl, fun h50 => by
        have h1 := HZ.out h50
        have h2 := total_succ R k hlt
        have h3 := total_le R (fun i hi => (HR.out i hi).2.1) k (by omega)
        have h4 := HL.out
        rw [h1, h2, h4, wrap64_in' _ (by omega) (by omega)]; omega⟩
      case measure => simp [intOf]; omega
    · have hk2 : k = R.length := by omega
      have hdk : decide ((k : Int) < (R.length : Int)) = false := by simp; omega
      rcases HM.out with h50 | ⟨h50, h3⟩
      · have hd50 : decide ((50 : Int) < (R.length : Int)) = true := by simp; omega
        go_wp2_with fail
        refine (awake_any w HT.out).mono ?_
        rintro e w1 ⟨rfl, hb1⟩
        go_wp2
        go_ret
        exact ⟨rfl, hb1⟩
      · have hd50 : decide ((50 : Int) < (R.length : Int)) = false := by simp; omega
        have hz3 : (3000 : Int) < z := by
          have := HZ.out h50
          rw [hk2, List.take_length] at this
          omega
        go_wp2_with fail
        refine (awake_any w HT.out).mono ?_
        rintro e w1 ⟨rfl, hb1⟩
        go_wp2
        go_ret
        exact ⟨rfl, hb1⟩
set_option linter.unusedSimpArgs false in
set_option maxRecDepth 100000 in
set_option maxHeartbeats 4000000 in
theorem pieces_few (v : Value) (vs : Nat → Value) (R : List (List UInt8)) (ask : Int) (w : World) (ht : Tabs w) (hR : RowsOld w v vs R) (h50 : R.length ≤ 50) (h3 : total R ≤ 3000) :
    Calls Tryd.prog 4 #[v, .int .i64 ask] w fun e w' => e = .returned (.bool true) ∧ Below w.heap.size w w' := by
  obtain ⟨ao, c, rfl, hrow⟩ := hR
  obtain ⟨q, hq, hq2⟩ : ∃ q : Nat, IntKind.u64.wrap ask % 50 = (q : Int) ∧ q < 50 := ⟨(IntKind.u64.wrap ask % 50).toNat, by rw [IntKind.wrap_u64]; omega, by rw [IntKind.wrap_u64]; omega⟩
  have HT := hide ht
  have HR := hide hrow
  have H3 := hide h3
  have HQ := hide hq
  clear ht hrow h3 hq
  go_enter Tryd.func4, Tryd.ntmps4
  go_wp2
  go_loop [5, 15] (fun t i => ∃ k : Nat, k ≤ R.length ∧ i = .int .i64 k ∧ t = .int .i64 (total (R.take k) : Nat)) (fun _ i => R.length - (intOf i).toNat)
  case atStart => exact ⟨0, by omega, rfl, rfl⟩
  case round =>
    obtain ⟨k, hk, rfl, rfl⟩ := hrel
    have hz := total_take_le R k
    have hz3 : total (R.take k) ≤ 3000 := by have := H3.out; omega
    generalize hzz : total (R.take k) = z at *
    have HZ := hide hzz
    clear hzz hz
    by_cases hlt : k < R.length
    · obtain ⟨hold, hlen, b, o, hao, hb, hcell⟩ := HR.out k hlt
      obtain ⟨ak, ck, hvk, _⟩ := hold
      rw [hvk] at hcell
      subst hao
      have hlk : (R.getD k []).length ≤ 140737488351232 := hlen
      generalize hlr : (R.getD k []).length = n at *
      have HL := hide hlr
      clear hlr hvk hlen
      go_wp2
      go_round
      case rel => exact ⟨k + 1, by omega, by go_num, by
        have h2 := total_succ R k hlt
        rw [h2, HZ.out, HL.out]; go_num⟩
      case measure => simp [intOf]; omega
    · have hdk : decide ((k : Int) < (R.length : Int)) = false := by simp; omega
      have hd50 : decide ((50 : Int) < (R.length : Int)) = false := by simp; omega
      have hdz : decide ((3000 : Int) < (z : Int)) = false := by simp; omega
      go_wp2_with fail
      refine (new_any w).mono ?_
      rintro e w1 ⟨rfl, h1, hb1, hs1⟩
      have H1 := hide (And.intro (show Hashed w1 w.heap.size [] from ⟨_, _, _, h1, HInv.zero⟩) (And.intro hb1 hs1))
      clear h1 hb1 hs1
      go_wp2
      clear hk hlt
      go_loopw [9, 35] (fun sv i wr => ∃ j : Nat, j ≤ R.length ∧ i = .int .i64 j ∧ Ext w wr ∧ Hashed wr w.heap.size (flat (R.take j)) ∧ wr.ownsRow (w.heap.size + 1) 5 1 sv (flat (R.take j)).length ((flat (R.take j)).map bc)) (fun _ i _ => R.length - (intOf i).toNat)
      case atStart =>
        obtain ⟨h1, hb1, hs1⟩ := H1.out
        exact ⟨0, by omega, rfl, hb1, h1, World.ownsRow_nil _ _ _ _⟩
      case round =>
        clear hdk
        obtain ⟨j, hj, rfl, her, hhr, hor⟩ := hrel
        have hfl : (flat (R.take j)).length ≤ 3000 := by
          have := total_take_le R j; have := H3.out; unfold total at *; omega
        have HF := hide hfl
        clear hfl
        by_cases hlt : j < R.length
        · obtain ⟨hold, hlen, b, o, hao, hb, hcell⟩ := HR.out j hlt
          subst hao
          have hcellr : wr.cell? ⟨b, o + j, none⟩ = some (vs j) := (Below.cell her hb).trans hcell
          have hfs := flat_succ R j hlt
          have hl3 : (flat (R.take j)).length + (R.getD j []).length ≤ 3000 := by
            have h1 := total_take_le R (j + 1); have := H3.out; unfold total at *; rw [hfs, List.length_append] at h1; omega
          generalize hrw : R.getD j [] = row at *
          generalize hFF : flat (R.take j) = F at *
          have HFF := hide (And.intro hrw hFF)
          have HW := hide (write_any w.heap.size F row (vs j) wr HT.out.2.2 hhr (HT.out.ext her) (hold.at her (Nat.le_refl _)) (by omega))
          have HG := hide (And.intro her (And.intro hhr (And.intro hor (And.intro hold (And.intro hfs hl3)))))
          clear her hhr hor hfs hl3 hcell hlen hrw hFF
          have HOLD := hide hold
          clear hold
          go_wp2_with fail
          refine HW.out.mono ?_
          rintro e w2 ⟨rfl, hh2, hg2⟩
          obtain ⟨her, hhr, hor, hold, hfs, hl3⟩ := HG.out
          have he2 : Ext w w2 := ext_grown her hg2 (Nat.le_refl _)
          have ho2 : w2.ownsRow (w.heap.size + 1) 5 1 u9 F.length (F.map bc) := hor.kept hg2 (by
            cases hv : u9.ownBlock with
            | none => exact .inl rfl
            | some g => exact .inr (by have := (hor.lt g hv).1; simp; omega))
          have hs2 : w.heap.size + 1 ≤ w2.heap.size := hh2.lt
          have hold2 := hold.ext he2
          have HG2 := hide (And.intro he2 (And.intro hh2 (And.intro hfs hl3)))
          clear her hhr hor hold hfs hl3 he2 hh2 hg2 hcellr
          go_wp2_with (at_builtin; refine wpList_append_bytes rfl (.tmp 43) (.tmp 44) rfl (w.heap.size + 1) u9 F rfl ho2 (vs j) row rfl hold2 (by have := HG2.out.2.2.2; omega) hs2 ?_)
          intro va w3 ho3 hg3
          obtain ⟨he2, hh2, hfs, hl3⟩ := HG2.out
          have ho2' := ho2
          have he3 : Ext w w3 := by
            cases hv : u9.ownBlock with
            | none => rw [hv] at hg3; exact he2.trans (Ext.of hg3)
            | some g => rw [hv] at hg3; exact ext_grown he2 hg3 (by have := (ho2'.lt g hv).1; omega)
          have hh3 : Hashed w3 w.heap.size (flat (R.take (j + 1))) := by
            rw [hfs]
            exact hh2.grown hg3 (fun e => by have := (ho2'.lt _ e.symm).1; omega)
          have ho3' : w3.ownsRow (w.heap.size + 1) 5 1 va (flat (R.take (j + 1))).length ((flat (R.take (j + 1))).map bc) := by rw [hfs]; simpa using ho3
          have hf3 : (flat (R.take (j + 1))).length ≤ 3000 := by rw [hfs, List.length_append]; omega
          have HI := hide (And.intro he3 (And.intro hh3 (And.intro ho3' hf3)))
          clear he2 hh2 hfs hl3 ho2' he3 hh3 ho3' ho3 hg3 ho2 hold2 hs2 HG2 HG HW hf3
          generalize hXX : flat (R.take (j + 1)) = X at HI
          have HX := hide hXX
          clear hXX
          go_wp2
          have hqq := HQ.out
          have hqw : IntKind.i64.wrap (q : Int) = (q : Int) := by rw [IntKind.wrap_i64]; omega
          have hqt : (IntKind.u64.wrap ask).tmod 50 = (q : Int) := by rw [Int.tmod_eq_emod_of_nonneg (by rw [IntKind.wrap_u64]; omega)]; exact hqq
          by_cases hjq : j = q
          · have hbq : ((j : Int) == (q : Int)) = true := by rw [beq_iff_eq]; omega
            clear hjq
            refine wp_region_ext (by kernel_rfl) ?_
            obtain ⟨he3, hh3, ho3, hf3⟩ := HI.out
            have hd3 : Ext w3 w3.drew := ⟨rfl, rfl, rfl, Nat.le_refl _, fun _ _ => rfl⟩
            have he4 := he3.trans hd3
            have hh4 := hh3.ext hd3
            have ho4 := (bsOld_of_owns ho3).ext hd3
            have ho4r : w3.drew.ownsRow (w.heap.size + 1) 5 1 va X.length (X.map bc) := ho3.kept (Ext.gr hd3 none) (by cases va.ownBlock <;> simp)
            clear he3 hh3 ho3 hd3
            generalize w3.drew = w4 at *
            refine wpE_take (i := 0) (v := ?va1) rfl (by kernel_rfl) (by kernel_rfl) (by kernel_rfl) (fun _ _ _ h => h) rfl ?ya1 ?ra1
            case ya1 => (intro w' hw'; go_simp; try rfl)
            simp only [List.getElem_toArray, List.getElem_cons_zero, List.getElem_cons_succ, Act.put, List.setIfInBounds_toArray, List.set_cons_zero, List.set_cons_succ]
            refine wpE_take (i := 1) (v := ?va2) rfl (by kernel_rfl) (by kernel_rfl) (by kernel_rfl) (fun _ _ _ h => h) rfl ?ya2 ?ra2
            case ya2 => (intro w' hw'; go_simp; try rfl)
            simp only [List.getElem_toArray, List.getElem_cons_zero, List.getElem_cons_succ, Act.put, List.setIfInBounds_toArray, List.set_cons_zero, List.set_cons_succ]
            refine wpE_take (i := 2) (v := ?va3) rfl (by kernel_rfl) (by kernel_rfl) (by kernel_rfl) (fun _ _ _ h => h) rfl ?ya3 ?ra3
            case ya3 => (intro w' hw'; go_simp; try rfl)
            simp only [List.getElem_toArray, List.getElem_cons_zero, List.getElem_cons_succ, Act.put, List.setIfInBounds_toArray, List.set_cons_zero, List.set_cons_succ]
            refine wpE_take (i := 3) (v := ?va4) rfl (by kernel_rfl) (by kernel_rfl) (by kernel_rfl) (fun _ _ _ h => h) rfl ?ya4 ?ra4
            case ya4 => (intro w' hw'; go_simp; try rfl)
            simp only [List.getElem_toArray, List.getElem_cons_zero, List.getElem_cons_succ, Act.put, List.setIfInBounds_toArray, List.set_cons_zero, List.set_cons_succ]
            refine wpE_take (i := 4) (v := ?va5) rfl (by kernel_rfl) (by kernel_rfl) (by kernel_rfl) (fun _ _ _ h => h) rfl ?ya5 ?ra5
            case ya5 => (intro w' hw'; go_simp; try rfl)
            simp only [List.getElem_toArray, List.getElem_cons_zero, List.getElem_cons_succ, Act.put, List.setIfInBounds_toArray, List.set_cons_zero, List.set_cons_succ]
            refine wpE_take (i := 5) (v := ?va6) rfl (by kernel_rfl) (by kernel_rfl) (by kernel_rfl) (fun _ _ _ h => h) rfl ?ya6 ?ra6
            case ya6 => (intro w' hw'; go_simp; try rfl)
            simp only [List.getElem_toArray, List.getElem_cons_zero, List.getElem_cons_succ, Act.put, List.setIfInBounds_toArray, List.set_cons_zero, List.set_cons_succ]
            refine wpE_take (i := 6) (v := ?va7) rfl (by kernel_rfl) (by kernel_rfl) (by kernel_rfl) (fun _ _ _ h => h) rfl ?ya7 ?ra7
            case ya7 => (intro w' hw'; go_simp; try rfl)
            simp only [List.getElem_toArray, List.getElem_cons_zero, List.getElem_cons_succ, Act.put, List.setIfInBounds_toArray, List.set_cons_zero, List.set_cons_succ]
            refine wpE_take (i := 7) (v := ?va8) rfl (by kernel_rfl) (by kernel_rfl) (by kernel_rfl) (fun _ _ _ h => h) rfl ?ya8 ?ra8
            case ya8 => (intro w' hw'; go_simp; try rfl)
            simp only [List.getElem_toArray, List.getElem_cons_zero, List.getElem_cons_succ, Act.put, List.setIfInBounds_toArray, List.set_cons_zero, List.set_cons_succ]
            refine wpE_take (i := 10) (v := ?va9) rfl (by kernel_rfl) (by kernel_rfl) (by kernel_rfl) (fun _ _ _ h => h) rfl ?ya9 ?ra9
            case ya9 => (intro w' hw'; go_simp; try rfl)
            simp only [List.getElem_toArray, List.getElem_cons_zero, List.getElem_cons_succ, Act.put, List.setIfInBounds_toArray, List.set_cons_zero, List.set_cons_succ]
            refine wpE_call (i := 8) (f := 13) (vals := #[.pointer (some ⟨w.heap.size, 0, none⟩)]) (by kernel_rfl) rfl rfl (by go_simp) (sum_any w.heap.size X w4 hh4.lt hh4 (HT.out.ext he4) (by omega)) ?_
            rintro e w5 ⟨v5, rfl, hown5, hb5⟩
            have he5 : Ext w w5 := he4.trans hb5
            obtain ⟨g5, c5, hv5, _, _, _, _, hr5⟩ := owns_shape hown5 (by omega)
            subst hv5
            clear hown5
            refine ⟨_, rfl, hb5, ?_⟩
            simp only [List.getElem_toArray, List.getElem_cons_zero, List.getElem_cons_succ, Act.put, List.setIfInBounds_toArray, List.set_cons_zero, List.set_cons_succ]
            refine wpE_take (i := 9) (v := .string (strOf (shaB X))) rfl (by kernel_rfl) (by kernel_rfl) (by kernel_rfl) (fun _ _ _ h => h) rfl (fun w' hw' => run_op_convert rfl rfl (by rw [← shaB_len X] at *; exact run_str_at c5 hr5 hw' (by simp))) ?_
            simp only [List.getElem_toArray, List.getElem_cons_zero, List.getElem_cons_succ, Act.put, List.setIfInBounds_toArray, List.set_cons_zero, List.set_cons_succ]
            refine wpE_call (i := 11) (f := 9) (vals := #[va]) (by kernel_rfl) rfl rfl (by go_simp) (shaSum_any X va w5 (HT.out.ext he5) ((ho4.ext hb5).at (Ext.refl _) (Nat.le_refl _)) (by omega)) ?_
            rintro e w6 ⟨v6, rfl, hown6, hb6⟩
            obtain ⟨g6, c6, hv6, _, _, _, _, hr6⟩ := owns_shape hown6 (by omega)
            subst hv6
            clear hown6
            refine ⟨_, rfl, hb6, ?_⟩
            simp only [List.getElem_toArray, List.getElem_cons_zero, List.getElem_cons_succ, Act.put, List.setIfInBounds_toArray, List.set_cons_zero, List.set_cons_succ]
            refine wpE_take (i := 12) (v := .string (strOf (shaB X))) rfl (by kernel_rfl) (by kernel_rfl) (by kernel_rfl) (fun _ _ _ h => h) rfl (fun w' hw' => run_op_convert rfl rfl (by rw [← shaB_len X] at *; exact run_str_at c6 hr6 hw' (by simp))) ?_
            simp only [List.getElem_toArray, List.getElem_cons_zero, List.getElem_cons_succ, Act.put, List.setIfInBounds_toArray, List.set_cons_zero, List.set_cons_succ]
            refine wpE_take (i := 13) (v := ?va10) rfl (by kernel_rfl) (by kernel_rfl) (by kernel_rfl) (fun _ _ _ h => h) rfl ?ya10 ?ra10
            case ya10 => (intro w' hw'; go_simp; try rfl)
            simp only [List.getElem_toArray, List.getElem_cons_zero, List.getElem_cons_succ, Act.put, List.setIfInBounds_toArray, List.set_cons_zero, List.set_cons_succ]
            refine wpE_take (i := 14) (v := ?va11) rfl (by kernel_rfl) (by kernel_rfl) (by kernel_rfl) (fun _ _ _ h => h) rfl ?ya11 ?ra11
            case ya11 => (intro w' hw'; go_simp; try rfl)
            simp only [List.getElem_toArray, List.getElem_cons_zero, List.getElem_cons_succ, Act.put, List.setIfInBounds_toArray, List.set_cons_zero, List.set_cons_succ]
            refine wpE_done (by kernel_rfl) ?_
            have hh6 := (hh4.ext hb5).ext hb6
            have he6 : Ext w w6 := he5.trans hb6
            have ho6 : w6.ownsRow (w.heap.size + 1) 5 1 va X.length (X.map bc) := (ho4r.kept (Ext.gr hb5 none) (by cases va.ownBlock <;> simp)).kept (Ext.gr hb6 none) (by cases va.ownBlock <;> simp)
            have HZ6 := hide (And.intro he6 (And.intro hh6 ho6))
            clear he4 hh4 ho4 ho4r hb5 he5 hr5 hb6 hr6 hh6 he6 ho6 hqq hqw hqt
            go_wp2
            go_roundw
            case rel => exact ⟨j + 1, by omega, by go_num, HZ6.out.1, by rw [HX.out]; exact HZ6.out.2.1, by rw [HX.out]; exact HZ6.out.2.2⟩
            case measure => simp [intOf]; omega
          · have hbq : ((j : Int) == (q : Int)) = false := by rw [beq_eq_false_iff_ne]; omega
            clear hjq
            refine wp_region_ext (by kernel_rfl) ?_
            obtain ⟨he3, hh3, ho3, hf3⟩ := HI.out
            have hd3 : Ext w3 w3.drew := ⟨rfl, rfl, rfl, Nat.le_refl _, fun _ _ => rfl⟩
            have he4 := he3.trans hd3
            have hh4 := hh3.ext hd3
            have ho4r : w3.drew.ownsRow (w.heap.size + 1) 5 1 va X.length (X.map bc) := ho3.kept (Ext.gr hd3 none) (by cases va.ownBlock <;> simp)
            clear he3 hh3 ho3 hd3
            generalize w3.drew = w4 at *
            refine wpE_take (i := 0) (v := ?vb1) rfl (by kernel_rfl) (by kernel_rfl) (by kernel_rfl) (fun _ _ _ h => h) rfl ?yb1 ?rb1
            case yb1 => (intro w' hw'; go_simp; try rfl)
            simp only [List.getElem_toArray, List.getElem_cons_zero, List.getElem_cons_succ, Act.put, List.setIfInBounds_toArray, List.set_cons_zero, List.set_cons_succ]
            refine wpE_take (i := 1) (v := ?vb2) rfl (by kernel_rfl) (by kernel_rfl) (by kernel_rfl) (fun _ _ _ h => h) rfl ?yb2 ?rb2
            case yb2 => (intro w' hw'; go_simp; try rfl)
            simp only [List.getElem_toArray, List.getElem_cons_zero, List.getElem_cons_succ, Act.put, List.setIfInBounds_toArray, List.set_cons_zero, List.set_cons_succ]
            refine wpE_take (i := 2) (v := ?vb3) rfl (by kernel_rfl) (by kernel_rfl) (by kernel_rfl) (fun _ _ _ h => h) rfl ?yb3 ?rb3
            case yb3 => (intro w' hw'; go_simp; try rfl)
            simp only [List.getElem_toArray, List.getElem_cons_zero, List.getElem_cons_succ, Act.put, List.setIfInBounds_toArray, List.set_cons_zero, List.set_cons_succ]
            refine wpE_take (i := 3) (v := ?vb4) rfl (by kernel_rfl) (by kernel_rfl) (by kernel_rfl) (fun _ _ _ h => h) rfl ?yb4 ?rb4
            case yb4 => (intro w' hw'; go_simp; try rfl)
            simp only [List.getElem_toArray, List.getElem_cons_zero, List.getElem_cons_succ, Act.put, List.setIfInBounds_toArray, List.set_cons_zero, List.set_cons_succ]
            refine wpE_take (i := 4) (v := ?vb5) rfl (by kernel_rfl) (by kernel_rfl) (by kernel_rfl) (fun _ _ _ h => h) rfl ?yb5 ?rb5
            case yb5 => (intro w' hw'; go_simp; try rfl)
            simp only [List.getElem_toArray, List.getElem_cons_zero, List.getElem_cons_succ, Act.put, List.setIfInBounds_toArray, List.set_cons_zero, List.set_cons_succ]
            refine wpE_take (i := 5) (v := ?vb6) rfl (by kernel_rfl) (by kernel_rfl) (by kernel_rfl) (fun _ _ _ h => h) rfl ?yb6 ?rb6
            case yb6 => (intro w' hw'; go_simp; try rfl)
            simp only [List.getElem_toArray, List.getElem_cons_zero, List.getElem_cons_succ, Act.put, List.setIfInBounds_toArray, List.set_cons_zero, List.set_cons_succ]
            refine wpE_take (i := 6) (v := ?vb7) rfl (by kernel_rfl) (by kernel_rfl) (by kernel_rfl) (fun _ _ _ h => h) rfl ?yb7 ?rb7
            case yb7 => (intro w' hw'; go_simp; try rfl)
            simp only [List.getElem_toArray, List.getElem_cons_zero, List.getElem_cons_succ, Act.put, List.setIfInBounds_toArray, List.set_cons_zero, List.set_cons_succ]
            refine wpE_skip (i := 7) rfl (by kernel_rfl) (by kernel_rfl) (by kernel_rfl) (fun _ _ _ h => h) rfl ?_
            simp only [List.getElem_toArray, List.getElem_cons_zero, List.getElem_cons_succ, Act.put, List.setIfInBounds_toArray, List.set_cons_zero, List.set_cons_succ]
            refine wpE_skip (i := 8) rfl (by kernel_rfl) (by kernel_rfl) (by kernel_rfl) (fun _ _ _ h => h) rfl ?_
            simp only [List.getElem_toArray, List.getElem_cons_zero, List.getElem_cons_succ, Act.put, List.setIfInBounds_toArray, List.set_cons_zero, List.set_cons_succ]
            refine wpE_skip (i := 9) rfl (by kernel_rfl) (by kernel_rfl) (by kernel_rfl) (fun _ _ _ h => h) rfl ?_
            simp only [List.getElem_toArray, List.getElem_cons_zero, List.getElem_cons_succ, Act.put, List.setIfInBounds_toArray, List.set_cons_zero, List.set_cons_succ]
            refine wpE_skip (i := 10) rfl (by kernel_rfl) (by kernel_rfl) (by kernel_rfl) (fun _ _ _ h => h) rfl ?_
            simp only [List.getElem_toArray, List.getElem_cons_zero, List.getElem_cons_succ, Act.put, List.setIfInBounds_toArray, List.set_cons_zero, List.set_cons_succ]
            refine wpE_skip (i := 11) rfl (by kernel_rfl) (by kernel_rfl) (by kernel_rfl) (fun _ _ _ h => h) rfl ?_
            simp only [List.getElem_toArray, List.getElem_cons_zero, List.getElem_cons_succ, Act.put, List.setIfInBounds_toArray, List.set_cons_zero, List.set_cons_succ]
            refine wpE_skip (i := 12) rfl (by kernel_rfl) (by kernel_rfl) (by kernel_rfl) (fun _ _ _ h => h) rfl ?_
            simp only [List.getElem_toArray, List.getElem_cons_zero, List.getElem_cons_succ, Act.put, List.setIfInBounds_toArray, List.set_cons_zero, List.set_cons_succ]
            refine wpE_skip (i := 13) rfl (by kernel_rfl) (by kernel_rfl) (by kernel_rfl) (fun _ _ _ h => h) rfl ?_
            simp only [List.getElem_toArray, List.getElem_cons_zero, List.getElem_cons_succ, Act.put, List.setIfInBounds_toArray, List.set_cons_zero, List.set_cons_succ]
            refine wpE_take (i := 14) (v := ?vb8) rfl (by kernel_rfl) (by kernel_rfl) (by kernel_rfl) (fun _ _ _ h => h) rfl ?yb8 ?rb8
            case yb8 => (intro w' hw'; go_simp; try rfl)
            simp only [List.getElem_toArray, List.getElem_cons_zero, List.getElem_cons_succ, Act.put, List.setIfInBounds_toArray, List.set_cons_zero, List.set_cons_succ]
            refine wpE_done (by kernel_rfl) ?_
            have HZ6 := hide (And.intro he4 (And.intro hh4 ho4r))
            clear he4 hh4 ho4r hqq hqw hqt
            go_wp2
            go_roundw
            case rel => exact ⟨j + 1, by omega, by go_num, HZ6.out.1, by rw [HX.out]; exact HZ6.out.2.1, by rw [HX.out]; exact HZ6.out.2.2⟩
            case measure => simp [intOf]; omega
        · have hj2 : j = R.length := by omega
          have hdj : decide ((j : Int) < (R.length : Int)) = false := by simp; omega
          have HS := hide (sum_any w.heap.size (flat (R.take j)) wr hhr.lt hhr (HT.out.ext her) (by have := HF.out; omega))
          have HI := hide (And.intro her (And.intro hhr hor))
          clear her hhr hor hj2
          generalize hXX : flat (R.take j) = X at *
          clear hXX
          go_wp2_with fail
          refine HS.out.mono ?_
          rintro e w2 ⟨v2, rfl, hown2, hb2⟩
          obtain ⟨g2, c2, hv2, _, _, _, hg2, hr2⟩ := owns_shape hown2 (by omega)
          subst hv2
          have HJ := hide (And.intro hb2 (And.intro hg2 hr2))
          clear hown2 hb2 hg2 hr2
          go_wp2
          refine wp_region_ext (by kernel_rfl) ?_
          obtain ⟨her, hhr, hor⟩ := HI.out
          obtain ⟨hb2, hg2, hr2⟩ := HJ.out
          have hd3 : Ext w2 w2.drew := ⟨rfl, rfl, rfl, Nat.le_refl _, fun _ _ => rfl⟩
          have h23 : Ext wr w2.drew := Ext.trans (b := w2) hb2 hd3
          have he4 := her.trans h23
          have hh4 := hhr.ext h23
          have ho4 := (bsOld_of_owns hor).ext h23
          have hr4 : w2.drew.rangeAt g2 0 ((shaB X).map bc) := range_ext hr2 hg2 hd3
          have hg4 : g2 < w2.drew.heap.size := hg2
          have hf3 := HF.out
          clear her hhr hor hb2 hg2 hr2 hd3 h23
          generalize w2.drew = w4 at *
          refine wpE_take (i := 0) (v := ?vc1) rfl (by kernel_rfl) (by kernel_rfl) (by kernel_rfl) (fun _ _ _ h => h) rfl ?yc1 ?rc1
          case yc1 => (intro w' hw'; go_simp; try rfl)
          simp only [List.getElem_toArray, List.getElem_cons_zero, List.getElem_cons_succ, Act.put, List.setIfInBounds_toArray, List.set_cons_zero, List.set_cons_succ]
          refine wpE_take (i := 2) (v := ?vc2) rfl (by kernel_rfl) (by kernel_rfl) (by kernel_rfl) (fun _ _ _ h => h) rfl ?yc2 ?rc2
          case yc2 => (intro w' hw'; go_simp; try rfl)
          simp only [List.getElem_toArray, List.getElem_cons_zero, List.getElem_cons_succ, Act.put, List.setIfInBounds_toArray, List.set_cons_zero, List.set_cons_succ]
          refine wpE_take (i := 1) (v := .string (strOf (shaB X))) rfl (by kernel_rfl) (by kernel_rfl) (by kernel_rfl) (fun _ _ _ h => h) rfl (fun w' hw' => run_op_convert rfl rfl (by rw [← shaB_len X] at *; exact run_str_at c2 hr4 hw' (by simp))) ?_
          simp only [List.getElem_toArray, List.getElem_cons_zero, List.getElem_cons_succ, Act.put, List.setIfInBounds_toArray, List.set_cons_zero, List.set_cons_succ]
          refine wpE_call (i := 3) (f := 9) (vals := #[u9]) (by kernel_rfl) rfl rfl (by go_simp) (shaSum_any X u9 w4 (HT.out.ext he4) (ho4.at (Ext.refl _) (Nat.le_refl _)) (by omega)) ?_
          rintro e w5 ⟨v5, rfl, hown5, hb5⟩
          have he5 : Ext w w5 := he4.trans hb5
          have hh5 := hh4.ext hb5
          have hr42 := range_ext hr4 hg4 hb5
          have hg42 : g2 < w5.heap.size := Nat.lt_of_lt_of_le hg4 hb5.size
          obtain ⟨g5, c5, hv5, _, _, _, _, hr5⟩ := owns_shape hown5 (by omega)
          subst hv5
          clear hown5
          refine ⟨_, rfl, hb5, ?_⟩
          simp only [List.getElem_toArray, List.getElem_cons_zero, List.getElem_cons_succ, Act.put, List.setIfInBounds_toArray, List.set_cons_zero, List.set_cons_succ]
          refine wpE_take (i := 4) (v := .string (strOf (shaB X))) rfl (by kernel_rfl) (by kernel_rfl) (by kernel_rfl) (fun _ _ _ h => h) rfl (fun w' hw' => run_op_convert rfl rfl (by rw [← shaB_len X] at *; exact run_str_at c5 hr5 hw' (by simp))) ?_
          simp only [List.getElem_toArray, List.getElem_cons_zero, List.getElem_cons_succ, Act.put, List.setIfInBounds_toArray, List.set_cons_zero, List.set_cons_succ]
          refine wpE_take (i := 5) (v := ?vc3) rfl (by kernel_rfl) (by kernel_rfl) (by kernel_rfl) (fun _ _ _ h => h) rfl ?yc3 ?rc3
          case yc3 => (intro w' hw'; go_simp; try rfl)
          simp only [List.getElem_toArray, List.getElem_cons_zero, List.getElem_cons_succ, Act.put, List.setIfInBounds_toArray, List.set_cons_zero, List.set_cons_succ]
          refine wpE_take (i := 6) (v := ?vc4) rfl (by kernel_rfl) (by kernel_rfl) (by kernel_rfl) (fun _ _ _ h => h) rfl ?yc4 ?rc4
          case yc4 => (intro w' hw'; go_simp; try rfl)
          simp only [List.getElem_toArray, List.getElem_cons_zero, List.getElem_cons_succ, Act.put, List.setIfInBounds_toArray, List.set_cons_zero, List.set_cons_succ]
          refine wpE_take (i := 7) (v := ?vc5) rfl (by kernel_rfl) (by kernel_rfl) (by kernel_rfl) (fun _ _ _ h => h) rfl ?yc5 ?rc5
          case yc5 => (intro w' hw'; go_simp; try rfl)
          simp only [List.getElem_toArray, List.getElem_cons_zero, List.getElem_cons_succ, Act.put, List.setIfInBounds_toArray, List.set_cons_zero, List.set_cons_succ]
          refine wpE_take (i := 10) (v := ?vc6) rfl (by kernel_rfl) (by kernel_rfl) (by kernel_rfl) (fun _ _ _ h => h) rfl ?yc6 ?rc6
          case yc6 => (intro w' hw'; go_simp; try rfl)
          simp only [List.getElem_toArray, List.getElem_cons_zero, List.getElem_cons_succ, Act.put, List.setIfInBounds_toArray, List.set_cons_zero, List.set_cons_succ]
          refine wpE_take (i := 11) (v := .string (strOf (shaB X))) rfl (by kernel_rfl) (by kernel_rfl) (by kernel_rfl) (fun _ _ _ h => h) rfl (fun w' hw' => run_op_convert rfl rfl (by rw [← shaB_len X] at *; exact run_str_at c2 hr42 hw' (by simp))) ?_
          simp only [List.getElem_toArray, List.getElem_cons_zero, List.getElem_cons_succ, Act.put, List.setIfInBounds_toArray, List.set_cons_zero, List.set_cons_succ]
          refine wpE_call (i := 8) (f := 13) (vals := #[.pointer (some ⟨w.heap.size, 0, none⟩)]) (by kernel_rfl) rfl rfl (by go_simp) (sum_any w.heap.size X w5 hh5.lt hh5 (HT.out.ext he5) (by omega)) ?_
          rintro e w6 ⟨v6, rfl, hown6, hb6⟩
          have he6 : Ext w w6 := he5.trans hb6
          obtain ⟨g6, c6, hv6, _, _, _, _, hr6⟩ := owns_shape hown6 (by omega)
          subst hv6
          clear hown6
          refine ⟨_, rfl, hb6, ?_⟩
          simp only [List.getElem_toArray, List.getElem_cons_zero, List.getElem_cons_succ, Act.put, List.setIfInBounds_toArray, List.set_cons_zero, List.set_cons_succ]
          refine wpE_take (i := 9) (v := .string (strOf (shaB X))) rfl (by kernel_rfl) (by kernel_rfl) (by kernel_rfl) (fun _ _ _ h => h) rfl (fun w' hw' => run_op_convert rfl rfl (by rw [← shaB_len X] at *; exact run_str_at c6 hr6 hw' (by simp))) ?_
          simp only [List.getElem_toArray, List.getElem_cons_zero, List.getElem_cons_succ, Act.put, List.setIfInBounds_toArray, List.set_cons_zero, List.set_cons_succ]
          refine wpE_take (i := 12) (v := ?vc7) rfl (by kernel_rfl) (by kernel_rfl) (by kernel_rfl) (fun _ _ _ h => h) rfl ?yc7 ?rc7
          case yc7 => (intro w' hw'; go_simp; try rfl)
          simp only [List.getElem_toArray, List.getElem_cons_zero, List.getElem_cons_succ, Act.put, List.setIfInBounds_toArray, List.set_cons_zero, List.set_cons_succ]
          refine wpE_take (i := 13) (v := ?vc8) rfl (by kernel_rfl) (by kernel_rfl) (by kernel_rfl) (fun _ _ _ h => h) rfl ?yc8 ?rc8
          case yc8 => (intro w' hw'; go_simp; try rfl)
          simp only [List.getElem_toArray, List.getElem_cons_zero, List.getElem_cons_succ, Act.put, List.setIfInBounds_toArray, List.set_cons_zero, List.set_cons_succ]
          refine wpE_take (i := 14) (v := ?vc9) rfl (by kernel_rfl) (by kernel_rfl) (by kernel_rfl) (fun _ _ _ h => h) rfl ?yc9 ?rc9
          case yc9 => (intro w' hw'; go_simp; try rfl)
          simp only [List.getElem_toArray, List.getElem_cons_zero, List.getElem_cons_succ, Act.put, List.setIfInBounds_toArray, List.set_cons_zero, List.set_cons_succ]
          refine wpE_call (i := 15) (f := 8) (vals := #[]) (by kernel_rfl) rfl rfl (by go_simp) (awake_any w6 (HT.out.ext he6)) ?_
          rintro e w7 ⟨rfl, hb7⟩
          refine ⟨_, rfl, hb7, ?_⟩
          simp only [List.getElem_toArray, List.getElem_cons_zero, List.getElem_cons_succ, Act.put, List.setIfInBounds_toArray, List.set_cons_zero, List.set_cons_succ]
          refine wpE_take (i := 16) (v := ?vc10) rfl (by kernel_rfl) (by kernel_rfl) (by kernel_rfl) (fun _ _ _ h => h) rfl ?yc10 ?rc10
          case yc10 => (intro w' hw'; go_simp; try rfl)
          simp only [List.getElem_toArray, List.getElem_cons_zero, List.getElem_cons_succ, Act.put, List.setIfInBounds_toArray, List.set_cons_zero, List.set_cons_succ]
          refine wpE_take (i := 17) (v := ?vc11) rfl (by kernel_rfl) (by kernel_rfl) (by kernel_rfl) (fun _ _ _ h => h) rfl ?yc11 ?rc11
          case yc11 => (intro w' hw'; go_simp; try rfl)
          simp only [List.getElem_toArray, List.getElem_cons_zero, List.getElem_cons_succ, Act.put, List.setIfInBounds_toArray, List.set_cons_zero, List.set_cons_succ]
          refine wpE_done (by kernel_rfl) ?_
          have HZ7 := hide (he6.trans hb7)
          clear he4 hh4 ho4 hr4 hg4 he5 hh5 hr42 hg42 hr5 hb5 he6 hr6 hb6 hb7
          go_wp2
          go_ret
          exact ⟨rfl, HZ7.out⟩
theorem shaPieces_walk (v : Value) (vs : Nat → Value) (R : List (List UInt8)) (ask : Int) (w : World) (ht : Tabs w) (hR : RowsOld w v vs R) (hl : R.length ≤ 4611686018427387903) :
    Calls Tryd.prog 4 #[v, .int .i64 ask] w fun e w' => e = .returned (.bool true) ∧ Below w.heap.size w w' := by
  by_cases h50 : R.length ≤ 50
  · by_cases h3 : total R ≤ 3000
    · exact pieces_few v vs R ask w ht hR h50 h3
    · exact pieces_many v vs R ask w ht hR hl (.inr ⟨h50, by omega⟩)
  · exact pieces_many v vs R ask w ht hR hl (.inl (by omega))
end Go.Proofs.YtjkcjlhcfkapkaaDoor
