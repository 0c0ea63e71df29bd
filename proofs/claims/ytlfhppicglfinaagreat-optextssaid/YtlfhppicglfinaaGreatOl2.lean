/- Operations of texts as the laws need them. -/
import Derived.Test.YtlfhppicglfinaaGreatOl1
import Derived.Test.YtlfhppicglfinaaGreatOp2
import Derived.Lib.IndexMore
namespace Go.Proofs.YtlfhppicglfinaaGreat
open Go.RowKit
abbrev svv (s : ByteArray) : Value := .agg #[.int .i64 3, .int .i64 0, .string s, .slice none 0 0]
abbrev yvv : Value := .agg #[.int .i64 6, .int .i64 1, .string ⟨#[]⟩, .slice none 0 0]
theorem app_list (s t : ByteArray) : (s ++ t).data.toList = s.data.toList ++ t.data.toList := by
  rw [ByteArray.data_append, Array.toList_append]
theorem prefix_app (s t : ByteArray) : Lib.hasPrefix (s ++ t).data.toList s.data.toList = true := by
  rw [app_list]
  unfold Lib.hasPrefix
  rw [List.isPrefixOf_iff_prefix]
  exact List.prefix_append _ _
theorem suffix_app (s t : ByteArray) : Lib.hasSuffix (s ++ t).data.toList t.data.toList = true := by
  rw [app_list]
  unfold Lib.hasSuffix
  rw [List.isSuffixOf_iff_suffix]
  exact List.suffix_append _ _
theorem contains_app (s t : ByteArray) : Lib.contains (s ++ t).data.toList t.data.toList = true := by
  rw [app_list]
  unfold Lib.contains
  rcases Lib.index_spec (s.data.toList ++ t.data.toList) t.data.toList with ⟨_, h⟩ | ⟨i, h, _⟩
  · have h1 := h s.data.toList.length (by simp)
    unfold Lib.occAt at h1
    rw [List.drop_left] at h1
    have h2 : t.data.toList.isPrefixOf t.data.toList = true := List.isPrefixOf_iff_prefix.2 (List.prefix_refl _)
    rw [h2] at h1
    cases h1
  · rw [h]
    exact decide_eq_true (by omega)
set_option maxRecDepth 100000 in
theorem t7_in {s t : ByteArray} (hs : s.size ≤ 256) (ht : t.size ≤ 256) (h : ¬ 256 < s.size + t.size) : Says 12 #[.int .i64 7, svv s, svv t] (.tuple #[svv (s ++ t), .int .i64 0]) := by
  intro w
  show Calls Tryz.prog 12 #[.int .i64 7, tv (textT s) none 0, tv (textT t) none 0] w (OpF (textT (s ++ t)) 0 w)
  exact bin7F (a := textT s) (b := textT t) (a1 := none) (c1 := 0) (a2 := none) (c2 := 0) (w := w) (r := textT (s ++ t)) (E := 0) (textT_fl (by rw [ByteArray.size_append]; omega)) ((textT_fl (by omega)).at w) ((textT_fl (by omega)).at w) (fix_textT hs) (fix_textT ht) rfl (fun W _ _ _ => add_text 0 s none 0 0 3 0 t none 0 0 hs ht h W)
set_option maxRecDepth 100000 in
theorem t7_out {s t : ByteArray} (hs : s.size ≤ 256) (ht : t.size ≤ 256) (h : 256 < s.size + t.size) : Says 12 #[.int .i64 7, svv s, svv t] (.tuple #[zvv, .int .i64 4]) := by
  intro w
  show Calls Tryz.prog 12 #[.int .i64 7, tv (textT s) none 0, tv (textT t) none 0] w (OpF zt 4 w)
  exact bin7F (a := textT s) (b := textT t) (a1 := none) (c1 := 0) (a2 := none) (c2 := 0) (w := w) (r := zt) (E := 4) zt_fl ((textT_fl (by omega)).at w) ((textT_fl (by omega)).at w) (fix_textT hs) (fix_textT ht) rfl (fun W _ _ _ => add_long 0 s none 0 0 3 0 t none 0 0 hs ht h W)
set_option maxRecDepth 100000 in
theorem t12 {s t : ByteArray} (hs : s.size ≤ 256) (ht : t.size ≤ 256) (h : Lib.hasPrefix s.data.toList t.data.toList = true) : Says 12 #[.int .i64 12, svv s, svv t] (.tuple #[yvv, .int .i64 0]) := by
  intro w
  show Calls Tryz.prog 12 #[.int .i64 12, tv (textT s) none 0, tv (textT t) none 0] w (OpF (trueT true) 0 w)
  exact bin12F (a := textT s) (b := textT t) (a1 := none) (c1 := 0) (a2 := none) (c2 := 0) (w := w) (r := trueT true) (E := 0) (trueT_fl _) ((textT_fl (by omega)).at w) ((textT_fl (by omega)).at w) (fix_textT hs) (fix_textT ht) rfl (fun W _ _ _ => by have h1 := starts_any 3 0 s none 0 0 3 0 t none 0 0 W; rw [h] at h1; exact h1)
set_option maxRecDepth 100000 in
theorem t13 {s t : ByteArray} (hs : s.size ≤ 256) (ht : t.size ≤ 256) (h : Lib.hasSuffix s.data.toList t.data.toList = true) : Says 12 #[.int .i64 13, svv s, svv t] (.tuple #[yvv, .int .i64 0]) := by
  intro w
  show Calls Tryz.prog 12 #[.int .i64 13, tv (textT s) none 0, tv (textT t) none 0] w (OpF (trueT true) 0 w)
  exact bin13F (a := textT s) (b := textT t) (a1 := none) (c1 := 0) (a2 := none) (c2 := 0) (w := w) (r := trueT true) (E := 0) (trueT_fl _) ((textT_fl (by omega)).at w) ((textT_fl (by omega)).at w) (fix_textT hs) (fix_textT ht) rfl (fun W _ _ _ => by have h1 := ends_any 3 0 s none 0 0 3 0 t none 0 0 (by omega) W; rw [h] at h1; exact h1)
set_option maxRecDepth 100000 in
theorem t11 {s t : ByteArray} (hs : s.size ≤ 256) (ht : t.size ≤ 256) (h : Lib.contains s.data.toList t.data.toList = true) {w : World} (hM : MaxL w) : Calls Tryz.prog 12 #[.int .i64 11, svv s, svv t] w fun e w' => e = .returned (.tuple #[yvv, .int .i64 0]) ∧ Below w.heap.size w w' := by
  show Calls Tryz.prog 12 #[.int .i64 11, tv (textT s) none 0, tv (textT t) none 0] w (OpF (trueT true) 0 w)
  exact bin11F (a := textT s) (b := textT t) (a1 := none) (c1 := 0) (a2 := none) (c2 := 0) (w := w) (r := trueT true) (E := 0) (trueT_fl _) ((textT_fl (by omega)).at w) ((textT_fl (by omega)).at w) (fix_textT hs) (fix_textT ht) rfl (fun W hW _ _ => by have h1 := contains_text 0 s none 0 0 3 0 t none 0 0 (by omega) (hM.ext hW); rw [h] at h1; exact h1)
set_option maxRecDepth 100000 in
theorem u3 {s : ByteArray} (hs : s.size ≤ 256) : Says 11 #[.int .i64 3, svv s] (.tuple #[nvv (s.size : Int), .int .i64 0]) := by
  intro w
  show Calls Tryz.prog 11 #[.int .i64 3, tv (textT s) none 0] w (OpF (numT (s.size : Int)) 0 w)
  exact un_length (a := textT s) (a1 := none) (c1 := 0) (w := w) ((textT_fl (by omega)).at w) (fix_textT hs) (fun W => len3_any 0 s none 0 0 W)
end Go.Proofs.YtlfhppicglfinaaGreat
