/- Texts as lists of bytes: what is cut out of them, and put behind them. -/
import Derived.Test.YtmjnedafcfolgaaRx0
namespace Go.Proofs.Ytmjnedafcfolgaa
open Go.RowKit
theorem bl_add (a b : ByteArray) : bl (a ++ b) = bl a ++ bl b := by
  unfold bl
  rw [ByteArray.data_append, Array.toList_append, List.map_append]
theorem sl_one (x : ByteArray) (j : Nat) (h : j < x.size) (w : World) : (Instr.sliceAt 9 (.string x) (some (.int .i64 (j : Int))) (some (.int .i64 ((j : Int) + 1))) none).run Try.prog w = .ok (.string (x.extract j (j + 1))) w := by
  have g5 : ((j : Int) + 1).toNat = j + 1 := by omega
  go_simp
  rw [if_pos ⟨by omega, by omega⟩, if_pos (by omega)]
theorem bl_one (s : ByteArray) (j : Nat) (h : j < s.size) : bl (s.extract j (j + 1)) = [bt s j] := by
  have h1 : (s.extract j (j + 1)).data.toList = (s.data.toList.drop j).take 1 := by
    rw [ByteArray.data_extract, Array.toList_extract, List.extract_eq_take_drop, show j + 1 - j = 1 by omega]
  have h2 : j < s.data.toList.length := h
  have h3 : s.data[j]? = some s.data.toList[j] := by rw [← Array.getElem?_toList, List.getElem?_eq_getElem h2]
  unfold bl bt
  rw [h1, List.drop_eq_getElem_cons h2, h3]
  rfl
theorem bl_take (s : ByteArray) (j : Nat) (h : j < s.size) : (bl s).take (j + 1) = (bl s).take j ++ [bt s j] := by
  have h1 : (bl s)[j]? = some (bt s j) := by
    have h2 : j < s.data.toList.length := h
    unfold bl bt
    rw [List.getElem?_map, ← Array.getElem?_toList, List.getElem?_eq_getElem h2]
    rfl
  rw [List.take_add_one, h1]
  rfl
theorem bl_at (s : ByteArray) (j : Nat) (h : j < s.size) : (bl s)[j]? = some (bt s j) := by
  have h2 : j < s.data.toList.length := h
  unfold bl bt
  rw [List.getElem?_map, ← Array.getElem?_toList, List.getElem?_eq_getElem h2]
  rfl
theorem bt_lt (s : ByteArray) (j : Nat) : bt s j < 256 := (s.data[j]?.getD 0).toNat_lt
theorem run_str1 (w : World) (c : Nat) (hc : c < 256) : (convert 29 9 (.slice (some ⟨w.heap.size, 0, none⟩) 1 1)).run Try.prog (w.alloc (.cells #[.int .u8 (c : Int)] 5)) = .ok (.string ⟨#[UInt8.ofNat c]⟩) (w.alloc (.cells #[.int .u8 (c : Int)] 5)) := by
  refine run_convert_bytes_back (P := Try.prog) _ 29 9 5 ⟨w.heap.size, 0, none⟩ 1 [UInt8.ofNat c] Try.underlying29 Try.underlying5 Try.underlying9 fun j hj => ?_
  match j, hj with
  | 0, _ =>
    rw [Addr.add_mid, Nat.zero_add, cell_of_row _ _ _ _ _ _ (heap_alloc_last w _)]
    simp [Nat.mod_eq_of_lt hc]
theorem bl_byte (c : Nat) (hc : c < 256) : bl ⟨#[UInt8.ofNat c]⟩ = [c] := by
  show [(UInt8.ofNat c).toNat] = [c]
  have e : (UInt8.ofNat c).toNat = c := by rw [UInt8.toNat_ofNat']; omega
  rw [e]
end Go.Proofs.Ytmjnedafcfolgaa
