/- A field is read: its tag, and what is behind it by the tag's way. -/
import Derived.Test.YtogegmdimfinaaaPb4
namespace Go.Proofs.Ytogegmdimfinaaa
open Go.RowKit
/-- The ways by wire type. -/
def waysA (g : Nat) : Array Value := #[.func (.func 34) #[.pointer (some ⟨g, 0, none⟩)] #[], .nilFunc, .func (.func 35) #[.pointer (some ⟨g, 0, none⟩)] #[], .nilFunc, .nilFunc, .nilFunc, .nilFunc, .nilFunc]
set_option maxRecDepth 100000 in
set_option maxHeartbeats 1000000 in
theorem ways_any (g : Nat) (w : World) : Calls Try.prog 33 #[.pointer (some ⟨g, 0, none⟩)] w fun e w' => e = .returned (.agg (waysA g)) ∧ Below w.heap.size w w' := by
  have B := hide (Below.setRow (alloc_below w (.cells #[.nilFunc, .nilFunc, .nilFunc, .nilFunc, .nilFunc, .nilFunc, .nilFunc, .nilFunc] 78)) w.heap.size (waysA g) (Nat.le_refl _))
  go_enter Try.func33, Try.ntmps33
  go_wp2_with (refine wpList_store_row rfl 78 (.tmp 2) (.tmp 7) rfl w.heap.size (waysA g) rfl rfl 78 #[.nilFunc, .nilFunc, .nilFunc, .nilFunc, .nilFunc, .nilFunc, .nilFunc, .nilFunc] (heap_alloc_last _ _) (by kernel_rfl) rfl (by simp [waysA, Value.oneCell']) ?_)
  go_wp2
  refine bodyPost_ret_by (results_cell_row rfl _ _ w.heap.size 78 _ (0, 0) _ rfl (setRow_heap _ _ _ _ _ _ (heap_alloc_last _ _)) Try.underlying78 rfl (by kernel_rfl)) rfl ?_
  exact ⟨rfl, B.out⟩
/-- The way that a wire type has. -/
def wayOf (g m : Nat) : Value := (waysA g).getD m .nilFunc
theorem ix_way (g m : Nat) (hm : m < 8) (w : World) : (Instr.index 78 (.agg (waysA g)) (.int .u64 (m : Int))).run Try.prog w = .ok (wayOf g m) w := by
  obtain rfl | rfl | rfl | rfl | rfl | rfl | rfl | rfl : m = 0 ∨ m = 1 ∨ m = 2 ∨ m = 3 ∨ m = 4 ∨ m = 5 ∨ m = 6 ∨ m = 7 := by omega
  all_goals kernel_rfl
theorem way_nil (g m : Nat) (h : m ≠ 0 ∧ m ≠ 2) (hm : m < 8) : wayOf g m = .nilFunc := by
  obtain rfl | rfl | rfl | rfl | rfl | rfl : m = 1 ∨ m = 3 ∨ m = 4 ∨ m = 5 ∨ m = 6 ∨ m = 7 := by omega
  all_goals rfl
theorem fld1_bad3 {l : List Nat} {tag k : Nat} (h : rv 0 0 l = .ok tag k) (hc : (tag / 8 < 1 ∨ 100 < tag / 8) ∨ (tag % 8 ≠ 0 ∧ tag % 8 ≠ 2)) : fld1 l = .bad 3 := by
  unfold fld1; rw [h]; simp only []; rw [if_pos hc]
theorem fld1_go {l : List Nat} {tag k : Nat} (h : rv 0 0 l = .ok tag k) (hc : ¬ ((tag / 8 < 1 ∨ 100 < tag / 8) ∨ (tag % 8 ≠ 0 ∧ tag % 8 ≠ 2))) : fld1 l = fld2 (tag / 8) (tag % 8) (l.drop k) := by
  unfold fld1; rw [h]; simp only []; rw [if_neg hc]
set_option maxRecDepth 100000 in
set_option maxHeartbeats 2000000 in
theorem field_any {g : Nat} {l : List Nat} {W w : World} (h : RAt W w g l) (hl : l.length ≤ 100000000) (hlim : limB l) (Q : Ending → World → Prop)
    (hbad : ∀ e w', fld1 l = .bad e → w.grownBy w' (some g) → Q (.returned (.tuple #[fz, .int .i64 (e : Int)])) w')
    (hok : ∀ f t bv w', fld1 l = .ok f t → Own w' w.heap.size bv f.b → RAt W w' g t → w.grownBy w' (some g) → Q (.returned (.tuple #[fv f bv, .int .i64 0])) w') :
    Calls Try.prog 29 #[.pointer (some ⟨g, 0, none⟩)] w Q := by
  have hg := h.lt
  have HB := hide (And.intro hbad (And.intro hok (And.intro hl hlim)))
  have H0 := hide h
  clear hbad hok h hl hlim
  go_enter Try.func29, Try.ntmps29
  go_wp2_with fail
  refine varint_at (H0.out.alloc _) _ (fun e' he => ?_) (fun n k w' he hA hgr _ hkeep hsz => ?_)
  · have HQ := hide (HB.out.1 e' (w.alloc (.cells #[.int .i64 0, .bool false, .int .u64 0, .slice none 0 0] 54)) (by unfold fld1; rw [he]) (grown_alloc _ _ _))
    have hne : ((e' : Int) != 0) = true := by rcases rv_bad _ _ _ _ he with rfl | rfl <;> rfl
    clear he
    go_wp2
    refine bodyPost_ret_by (results_row_tmp rfl _ _ w.heap.size 54 _ (0, 0) _ rfl (heap_alloc_last _ _) Try.underlying54 rfl (by kernel_rfl)) rfl ?_
    exact HQ.out
  · have R := hide ((hkeep w.heap.size (by omega)).trans (heap_alloc_last _ _))
    have hgr' := grown_trans (grown_alloc w (some g) _) hgr
    have hsz' : w.heap.size < w'.heap.size := by rw [hsz]; simp
    have hn64 := (rv_dec HB.out.2.2.2 he).1
    have HA := hide (And.intro he (And.intro hA (And.intro hgr' hsz')))
    clear he hA hgr hkeep hsz hgr' hsz'
    have eq8 : IntKind.u64.wrap ((n : Int) / 8) = ((n / 8 : Nat) : Int) := by rw [IntKind.wrap_u64]; omega
    have em8 : ((n : Int)).tmod 8 = ((n % 8 : Nat) : Int) := by rw [Int.tmod_eq_emod_of_nonneg (by omega)]; omega
    have hm8 : n % 8 < 8 := Nat.mod_lt _ (by decide)
    have hix := fun w_ => ix_way g (n % 8) hm8 w_
    have hq64 : n / 8 < 2305843009213693952 := by omega
    obtain ⟨q, hq⟩ : ∃ q, n / 8 = q := ⟨_, rfl⟩
    obtain ⟨m, hm⟩ : ∃ m, n % 8 = m := ⟨_, rfl⟩
    have HN := hide (And.intro hq hm)
    rw [hq] at eq8 hq64
    rw [hm] at em8 hm8 hix
    clear hq hm
    obtain ⟨rd, hrd⟩ : ∃ rd, wayOf g m = rd := ⟨_, rfl⟩
    simp only [hrd] at hix
    have HW := hide hrd
    clear hrd hn64
    go_wp2_with fail
    go_region_with (go_at_call 33; refine (ways_any g _).mono ?_; rintro e w2 ⟨rfl, b2⟩)
    obtain ⟨he, hA, hgr, hsz⟩ := HA.out
    have b2' : Below w'.heap.size w' w2 := Below.trans (Below.refl _ _).drew b2
    have hA2 := hA.below b2'
    have hgr2 : w.grownBy w2 (some g) := grown_trans hgr (Ext.gr b2' _)
    have R2 := hide (Below.heap b2' hsz R.out)
    have hsz2 : w.heap.size < w2.heap.size := Nat.lt_of_lt_of_le hsz b2'.size
    have HX := hide (And.intro he (And.intro hA2 (And.intro hgr2 hsz2)))
    clear he hA hgr hsz b2 b2' hA2 hgr2 hsz2 R HA
    by_cases hbadq : (q < 1 ∨ 100 < q) ∨ (m ≠ 0 ∧ m ≠ 2)
    · have HQ := hide (HB.out.1 3 (w2.setRow w.heap.size #[.int .i64 0, .bool false, .int .u64 0, .slice none 0 0]) (fld1_bad3 HX.out.1 (by rw [HN.out.1, HN.out.2]; exact hbadq)) (grown_row HX.out.2.2.1 (Nat.le_refl _) _))
      by_cases hq0 : q < 1
      · obtain rfl : q = 0 := by omega
        clear hbadq hq0
        go_wp2_with (refine wpList_store_f rfl 54 sizeF (.tmp 2) (.tmp 34) rfl w.heap.size rfl rfl rfl R2.out ?_)
        go_wp2
        refine bodyPost_ret_by (results_row_tmp rfl _ _ w.heap.size 54 _ (0, 0) _ rfl (setRow_heap _ _ _ _ _ _ R2.out) Try.underlying54 rfl (by kernel_rfl)) rfl ?_
        exact HQ.out
      · have hd0 : decide ((q : Int) < 1) = false := decide_eq_false (by omega)
        by_cases hq1 : 100 < q
        · have hd1 : decide ((100 : Int) < (q : Int)) = true := decide_eq_true (by omega)
          clear hbadq
          go_wp2_with (refine wpList_store_f rfl 54 sizeF (.tmp 2) (.tmp 34) rfl w.heap.size rfl rfl rfl R2.out ?_)
          go_wp2
          refine bodyPost_ret_by (results_row_tmp rfl _ _ w.heap.size 54 _ (0, 0) _ rfl (setRow_heap _ _ _ _ _ _ R2.out) Try.underlying54 rfl (by kernel_rfl)) rfl ?_
          exact HQ.out
        · have hd1 : decide ((100 : Int) < (q : Int)) = false := decide_eq_false (by omega)
          obtain rfl : rd = .nilFunc := by rw [← HW.out]; exact way_nil g m (by omega) hm8
          have hfn : ∀ W : World, (binOp BinOp.eql 77 Value.nilFunc Value.nilFunc).run Try.prog W = .ok (.bool true) W := fun W => by kernel_rfl
          clear hbadq
          go_wp2_with (refine wpList_store_f rfl 54 sizeF (.tmp 2) (.tmp 34) rfl w.heap.size rfl rfl rfl R2.out ?_)
          go_wp2
          refine bodyPost_ret_by (results_row_tmp rfl _ _ w.heap.size 54 _ (0, 0) _ rfl (setRow_heap _ _ _ _ _ _ R2.out) Try.underlying54 rfl (by kernel_rfl)) rfl ?_
          exact HQ.out
    · have hd0 : decide ((q : Int) < 1) = false := decide_eq_false (by omega)
      have hd1 : decide ((100 : Int) < (q : Int)) = false := decide_eq_false (by omega)
      have hf1 : fld1 l = fld2 q m (l.drop k) := by have h1 := fld1_go HX.out.1 (by rw [HN.out.1, HN.out.2]; exact hbadq); rw [HN.out.1, HN.out.2] at h1; exact h1
      have hq100 : q ≤ 100 := by omega
      have hm02 : m = 0 ∨ m = 2 := by omega
      have HF := hide hf1
      clear hf1 hbadq
      rcases hm02 with rfl | rfl
      · obtain rfl : rd = .func (.func 34) #[.pointer (some ⟨g, 0, none⟩)] #[] := by rw [← HW.out]; rfl
        have hfn : ∀ W : World, (binOp BinOp.eql 77 (Value.func (.func 34) #[.pointer (some ⟨g, 0, none⟩)] #[]) Value.nilFunc).run Try.prog W = .ok (.bool false) W := fun W => by kernel_rfl
        go_wp2_with fail
        refine number_any HX.out.2.1 _ (fun e w3 hf hg3 => ?_) (fun f t bv w3 hf hO hA3 hg3 => ?_)
        · have hkeep : w3.heap[w.heap.size]? = w2.heap[w.heap.size]? := hg3.block _ HX.out.2.2.2 (fun h => by injection h with h; omega)
          have HQ := hide (HB.out.1 e (w3.setRow w.heap.size #[.int .i64 0, .bool false, .int .u64 0, .slice none 0 0]) (HF.out.trans hf) (grown_row (grown_trans HX.out.2.2.1 hg3) (Nat.le_refl _) _))
          have R3 := hide (hkeep.trans R2.out)
          clear hf hg3 hkeep
          unfold fz
          go_wp2_with (refine wpList_store_f rfl 54 sizeF (.tmp 2) (.tmp 39) rfl w.heap.size rfl rfl rfl R3.out ?_)
          go_wp2
          refine bodyPost_ret_by (results_row_tmp rfl _ _ w.heap.size 54 _ (0, 0) _ rfl (setRow_heap _ _ _ _ _ _ R3.out) Try.underlying54 rfl (by kernel_rfl)) rfl ?_
          exact HQ.out
        · have hkeep : w3.heap[w.heap.size]? = w2.heap[w.heap.size]? := hg3.block _ HX.out.2.2.2 (fun h => by injection h with h; omega)
          have hsz := HX.out.2.2.2
          obtain ⟨ua, uc, hbv, _, _⟩ := hO.at.len
          have HQ := hide (HB.out.2.1 f t bv (w3.setRow w.heap.size #[.int .i64 (f.num : Int), .bool f.whole, .int .u64 (f.n : Int), bv]) (HF.out.trans hf) ((hO.keep fun b hb => setRow_other _ _ _ _ (by omega)).low (by omega)) (hA3.setRow hg _) (grown_row (grown_trans HX.out.2.2.1 hg3) (Nat.le_refl _) _))
          have R3 := hide (hkeep.trans R2.out)
          clear hf hg3 hkeep hO hA3 hsz
          unfold fv at HQ ⊢
          generalize f.num = fn at *
          generalize f.whole = fw at *
          generalize f.n = fN at *
          generalize f.b.length = fl at *
          subst hbv
          go_wp2_with (refine wpList_store_f rfl 54 sizeF (.tmp 2) (.tmp 39) rfl w.heap.size rfl rfl rfl R3.out ?_)
          go_wp2
          refine bodyPost_ret_by (results_row_tmp rfl _ _ w.heap.size 54 _ (0, 0) _ rfl (setRow_heap _ _ _ _ _ _ R3.out) Try.underlying54 rfl (by kernel_rfl)) rfl ?_
          exact HQ.out
      · obtain rfl : rd = .func (.func 35) #[.pointer (some ⟨g, 0, none⟩)] #[] := by rw [← HW.out]; rfl
        have hfn : ∀ W : World, (binOp BinOp.eql 77 (Value.func (.func 35) #[.pointer (some ⟨g, 0, none⟩)] #[]) Value.nilFunc).run Try.prog W = .ok (.bool false) W := fun W => by kernel_rfl
        go_wp2_with fail
        refine whole_any HX.out.2.1 (by have := HB.out.2.2.1; simp; omega) _ (fun e w3 hf hg3 => ?_) (fun f t bv w3 hf hO hA3 hg3 => ?_)
        · have hkeep : w3.heap[w.heap.size]? = w2.heap[w.heap.size]? := hg3.block _ HX.out.2.2.2 (fun h => by injection h with h; omega)
          have HQ := hide (HB.out.1 e (w3.setRow w.heap.size #[.int .i64 0, .bool false, .int .u64 0, .slice none 0 0]) (HF.out.trans hf) (grown_row (grown_trans HX.out.2.2.1 hg3) (Nat.le_refl _) _))
          have R3 := hide (hkeep.trans R2.out)
          clear hf hg3 hkeep
          unfold fz
          go_wp2_with (refine wpList_store_f rfl 54 sizeF (.tmp 2) (.tmp 39) rfl w.heap.size rfl rfl rfl R3.out ?_)
          go_wp2
          refine bodyPost_ret_by (results_row_tmp rfl _ _ w.heap.size 54 _ (0, 0) _ rfl (setRow_heap _ _ _ _ _ _ R3.out) Try.underlying54 rfl (by kernel_rfl)) rfl ?_
          exact HQ.out
        · have hkeep : w3.heap[w.heap.size]? = w2.heap[w.heap.size]? := hg3.block _ HX.out.2.2.2 (fun h => by injection h with h; omega)
          have hsz := HX.out.2.2.2
          obtain ⟨ua, uc, hbv, _, _⟩ := hO.at.len
          have HQ := hide (HB.out.2.1 f t bv (w3.setRow w.heap.size #[.int .i64 (f.num : Int), .bool f.whole, .int .u64 (f.n : Int), bv]) (HF.out.trans hf) ((hO.keep fun b hb => setRow_other _ _ _ _ (by omega)).low (by omega)) (hA3.setRow hg _) (grown_row (grown_trans HX.out.2.2.1 hg3) (Nat.le_refl _) _))
          have R3 := hide (hkeep.trans R2.out)
          clear hf hg3 hkeep hO hA3 hsz
          unfold fv at HQ ⊢
          generalize f.num = fn at *
          generalize f.whole = fw at *
          generalize f.n = fN at *
          generalize f.b.length = fl at *
          subst hbv
          go_wp2_with (refine wpList_store_f rfl 54 sizeF (.tmp 2) (.tmp 39) rfl w.heap.size rfl rfl rfl R3.out ?_)
          go_wp2
          refine bodyPost_ret_by (results_row_tmp rfl _ _ w.heap.size 54 _ (0, 0) _ rfl (setRow_heap _ _ _ _ _ _ R3.out) Try.underlying54 rfl (by kernel_rfl)) rfl ?_
          exact HQ.out
end Go.Proofs.Ytogegmdimfinaaa
