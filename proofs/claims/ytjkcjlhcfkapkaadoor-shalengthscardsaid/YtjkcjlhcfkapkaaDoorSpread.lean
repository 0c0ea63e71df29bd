/- The words of a piece: what spread answers, in any world, for every piece of 128 bytes. -/
import Derived.Test.YtjkcjlhcfkapkaaDoorLeaf
import Derived.Test.YtjkcjlhcfkapkaaDoorSpec
import Derived.Deep.WholeRow
import Derived.Deep.MidRow
import Derived.Deep.RegionHeld3
namespace Go.Proofs.YtjkcjlhcfkapkaaDoor
open Go.RowKit
theorem hide {p : Prop} (h : p) : Hid p := h
theorem zero36 (w : World) : (zeroValue 36).run Tryd.prog w = .ok (.agg (wa z80)) w := by kernel_rfl
theorem size36 : (Tryd.prog.info? 36).map (·.size) = some 80 := by kernel_rfl
theorem size40 : (Tryd.prog.info? 40).map (·.size) = some 128 := by kernel_rfl
theorem und36 : Tryd.prog.underlying 36 = some (.array 80 30) := by kernel_rfl
theorem und40 : Tryd.prog.underlying 40 = some (.array 128 5) := by kernel_rfl
theorem size5 : (Tryd.prog.info? 5).map (·.size) = some 1 := by kernel_rfl
theorem i64_wrap (n : Int) (h : -9223372036854775808 ≤ n ∧ n ≤ 9223372036854775807) : IntKind.i64.wrap n = n := by
  rw [IntKind.wrap_i64]; omega
theorem keep_set {w : World} {g n m : Nat} {v x : Value} (hm : m ≠ n) (h : w.cell? ⟨g, m, none⟩ = some x) : (w.setCell ⟨g, n, none⟩ v).drew.cell? ⟨g, m, none⟩ = some x := by
  show (w.setCell ⟨g, n, none⟩ v).cell? ⟨g, m, none⟩ = some x
  rw [World.cell?_setCell_other _ _ _ _ (fun e => hm (by injection e with _ e2; exact e2.symm))]; exact h
theorem w_shl8 (x : BitVec 64) : IntKind.u64.wrap (wn x * (256 : Int)) = wn (x <<< 8) := w_shl x 8
theorem heap_alloc_last3 (w : World) (a b c : Obj) : (((w.alloc a).alloc b).alloc c).heap[w.heap.size + 1 + 1]? = some c := by
  have h := heap_alloc_last ((w.alloc a).alloc b) c
  simpa using h
theorem heap_alloc_mid3 (w : World) (a b c : Obj) : (((w.alloc a).alloc b).alloc c).heap[w.heap.size + 1]? = some b := by
  rw [Below.heap_alloc _ _ _ (by simp)]
  have h := heap_alloc_last (w.alloc a) b
  simpa using h
theorem Below.setRow {B : Nat} {a w : World} (h : Below B a w) (g : Nat) (cs : Array Value) (hg : B ≤ g) : Below B a (w.setRow g cs) :=
  h.trans ⟨rfl, rfl, rfl, by simp, fun k hk => setRow_other w g k cs (by omega)⟩
theorem below3 (w : World) (a b c : Obj) : Below w.heap.size w (((w.alloc a).alloc b).alloc c) :=
  (((Below.refl _ _).alloc (Nat.le_refl _) _).alloc (by simp) _).alloc (by simp; omega) _
/-- An element of an array that is a value. -/
theorem run_index_arr {P : Program} {t e : TypeId} {len : Nat} {d : TypeDesc} (hu : P.underlying t = some (.array len e)) (he : P.underlying e = some d) (hd : d.isRow = false) (hs : (P.info? e).map (·.size) = some 1)
    (cs : Array Value) (i : Nat) (hi : i < len) (v : Value) (hv : cs[i]? = some v) (w : World) : (Instr.index t (.agg cs) (.int .i64 (i : Int))).run P w = .ok v w := by
  cases hq : P.info? e with
  | none => simp [hq] at hs
  | some ie =>
    have h1 : ie.size = 1 := by simpa [hq] using hs
    have hagg : (isAgg e).run P w = .ok false w := by
      unfold isAgg
      rw [Sem.run_bind, run_underlying he w]
      cases d <;> simp_all
    have h2 : ¬ len ≤ i := by omega
    simp [Instr.index, asIntOf, run_underlying hu, part, hagg, sizeOf, typeInfo, hq, h1, hv, h2]

set_option maxRecDepth 100000 in
set_option maxHeartbeats 400000 in
theorem spread_any (bs : List UInt8) (hbs : bs.length = 128) (w : World) :
    Calls Tryd.prog 22 #[.agg (ba bs)] w fun e w' => e = .returned (.agg (wa (spreadW bs))) ∧ Below w.heap.size w w' := by
  have hz := zero36
  go_enter Tryd.func22, Tryd.ntmps22
  have hg : (((w.alloc (.cells (ba bs) 40)).alloc (.cells (wa z80) 36)).alloc (.cells (wa z80) 36)).heap[w.heap.size]? = some (.cells (ba bs) 40 (0, 0)) := by
    rw [Below.heap_alloc _ _ _ (by simp; omega), Below.heap_alloc _ _ _ (by simp), heap_alloc_last]
  go_wp2_with (refine wpList_load_row rfl 40 (.tmp 1) rfl w.heap.size rfl 40 (ba bs) (0,0) (.array 128 5) hg und40 rfl (by rw [ba_size, hbs]; exact size40) ?_)
  clear hz hg
  go_loopw [8] (fun i wr => ∃ k : Nat, k ≤ 128 ∧ i = .int .i64 k ∧ wr.heap[w.heap.size + 1 + 1]? = some (.cells (wa (w1 bs k)) 36 (0,0)) ∧ wr.heap.size = w.heap.size + 1 + 1 + 1 ∧ wr.heap[w.heap.size + 1]? = some (.cells (wa z80) 36 (0,0)) ∧ Below w.heap.size w wr) (fun i _ => 128 - (intOf i).toNat)
  case atStart => exact ⟨0, by omega, rfl, heap_alloc_last3 _ _ _ _, by simp, heap_alloc_mid3 _ _ _ _, below3 _ _ _ _⟩
  case round =>
    obtain ⟨k, hk, rfl, hrow, hsz, hold, hb⟩ := hrel
    by_cases hlt : k < 128
    · have hidx := run_index_arr und40 Tryd.underlying5 rfl size5 (ba bs) k hlt _ (ba_get bs k (by omega))
      have hcell : wr.cell? ⟨w.heap.size + 1 + 1, k / 8, none⟩ = some (.int .u64 (wn ((w1 bs k).getD (k / 8) 0))) := by
        rw [cell_of_row _ _ _ _ _ _ hrow, wa_get _ _ (by rw [w1_len]; omega)]
      have hfro : wr.frozen? ⟨w.heap.size + 1 + 1, k / 8, none⟩ = false := frozen_of_row _ _ _ _ _ hrow
      have HR : Hid (wr.heap[w.heap.size + 1 + 1]? = some (.cells (wa (w1 bs k)) 36 (0,0))) := hrow
      clear hrow
      generalize hy : (w1 bs k).getD (k / 8) 0 = y at hcell
      have HY := hide hy
      clear hy
      generalize hx : bs.getD k 0 = x at hidx
      have HX := hide hx
      clear hx
      go_wp2
      go_roundw
      case rel =>
        refine ⟨k + 1, by omega, by go_num, ?_, ?_, ?_, ?_⟩
        · rw [heap_setCell_same _ _ _ _ _ _ HR.out, w_shl8, b64_wrap, w_or, wa_set, w1, put, HX.out, HY.out]
        · simpa using hsz
        · rw [heap_setCell_other _ _ _ _ (by simp)]; exact hold
        · exact hb.setCell (by simp; omega) _
      case measure => simp [intOf]; omega
    · have hk128 : k = 128 := by omega
      rw [hk128] at hrow
      clear hk128
      go_wp2
      clear hlt hk
      go_loopw [6] (fun i wr => ∃ n : Nat, 16 ≤ n ∧ n ≤ 80 ∧ i = .int .i64 n ∧ wr.heap[w.heap.size + 1 + 1]? = some (.cells (wa (w2 (w1 bs 128) (n - 16))) 36 (0,0)) ∧ wr.heap.size = w.heap.size + 1 + 1 + 1 ∧ wr.heap[w.heap.size + 1]? = some (.cells (wa z80) 36 (0,0)) ∧ Below w.heap.size w wr) (fun i _ => 80 - (intOf i).toNat)
      case atStart => exact ⟨16, by omega, by omega, rfl, hrow, hsz, hold, hb⟩
      case round =>
        clear hrow hsz hold hb
        obtain ⟨n, hn, hk, rfl, hrow, hsz, hold, hb⟩ := hrel
        by_cases hlt : n < 80
        · have hl : (w2 (w1 bs 128) (n - 16)).length = 80 := by rw [w2_len, w1_len]
          have hget := fun i (h : i < 80) => (cell_of_row _ _ i _ _ _ hrow).trans (wa_get (w2 (w1 bs 128) (n - 16)) i (by omega))
          have c2 := hget (n - 2) (by omega)
          have c7 := hget (n - 7) (by omega)
          have c15 := hget (n - 15) (by omega)
          have c16 := hget (n - 16) (by omega)
          have c0 := hget n (by omega)
          have hfro : wr.frozen? ⟨w.heap.size + 1 + 1, n, none⟩ = false := frozen_of_row _ _ _ _ _ hrow
          have HR := hide hrow
          have HL := hide hl
          clear hget hrow hl
          generalize hx2 : (w2 (w1 bs 128) (n - 16)).getD (n - 2) 0 = x2 at c2
          generalize hx7 : (w2 (w1 bs 128) (n - 16)).getD (n - 7) 0 = x7 at c7
          generalize hx15 : (w2 (w1 bs 128) (n - 16)).getD (n - 15) 0 = x15 at c15
          generalize hx16 : (w2 (w1 bs 128) (n - 16)).getD (n - 16) 0 = x16 at c16
          generalize hx0 : (w2 (w1 bs 128) (n - 16)).getD n 0 = x0 at c0
          have HX := hide (And.intro hx2 (And.intro hx7 (And.intro hx15 hx16)))
          clear hx2 hx7 hx15 hx16 hx0
          have b2 : ((n - 2 : Nat) : Int) < 80 := by omega
          have d2 : IntKind.i64.wrap ((n : Int) - 2) = ((n - 2 : Nat) : Int) := by rw [i64_wrap _ (by omega)]; omega
          have b7 : ((n - 7 : Nat) : Int) < 80 := by omega
          have d7 : IntKind.i64.wrap ((n : Int) - 7) = ((n - 7 : Nat) : Int) := by rw [i64_wrap _ (by omega)]; omega
          have b15 : ((n - 15 : Nat) : Int) < 80 := by omega
          have d15 : IntKind.i64.wrap ((n : Int) - 15) = ((n - 15 : Nat) : Int) := by rw [i64_wrap _ (by omega)]; omega
          have b16 : ((n - 16 : Nat) : Int) < 80 := by omega
          have d16 : IntKind.i64.wrap ((n : Int) - 16) = ((n - 16 : Nat) : Int) := by rw [i64_wrap _ (by omega)]; omega
          have b0 : (n : Int) < 80 := by omega
          go_wp2
          go_region_held3 (fun w' => w'.cell? ⟨w.heap.size + 1 + 1, n - 2, none⟩ = some (.int .u64 (wn x2)) ∧ w'.cell? ⟨w.heap.size + 1 + 1, n - 7, none⟩ = some (.int .u64 (wn x7)) ∧ w'.cell? ⟨w.heap.size + 1 + 1, n - 15, none⟩ = some (.int .u64 (wn x15)) ∧ w'.cell? ⟨w.heap.size + 1 + 1, n - 16, none⟩ = some (.int .u64 (wn x16))) (first | (go_keep; done) | (exact ⟨keep_set (by omega) c2, keep_set (by omega) c7, keep_set (by omega) c15, keep_set (by omega) c16⟩)) (first | (go_at_call 27; refine (sg1_any _ _).mono ?_; rintro e w' ⟨rfl, rfl⟩) | (go_at_call 28; refine (sg0_any _ _).mono ?_; rintro e w' ⟨rfl, rfl⟩))
          clear c2 c7 c15 c16 c0 b2 d2 b7 d7 b15 d15 b16 d16 b0
          go_wp2
          go_roundw
          case rel =>
            refine ⟨n + 1, by omega, by omega, by go_num, ?_, ?_, ?_, ?_⟩
            · rw [heap_drew, heap_setCell_same _ _ _ _ _ _ HR.out, w_add, w_add, w_add, wa_set, show n + 1 - 16 = n - 16 + 1 by omega, w2]
              rw [show 16 + (n - 16) = n by omega, nxw, HX.out.1, HX.out.2.1, HX.out.2.2.1, HX.out.2.2.2]
            · simpa [heap_drew] using hsz
            · rw [heap_drew, heap_setCell_other _ _ _ _ (by simp)]; exact hold
            · exact (hb.setCell (by simp; omega) _).drew
          case measure => simp [intOf]; omega
        · obtain rfl : n = 80 := by omega
          have hw : (wa (w2 (w1 bs 128) 64)).size = 80 := by rw [wa_size, w2_len, w1_len]
          go_wp2_with (first | (refine wpList_load_row rfl 36 (.tmp 3) rfl (w.heap.size + 1 + 1) rfl 36 (wa (w2 (w1 bs 128) 64)) (0,0) (.array 80 30) hrow und36 rfl (by rw [hw]; exact size36) ?_) | (refine wpList_store_row rfl 36 (.tmp 2) (.tmp 51) rfl (w.heap.size + 1) (wa (w2 (w1 bs 128) 64)) rfl rfl 36 (wa z80) hold (by rw [hw]; exact size36) (by rw [hw]; rfl) (wa_one _) ?_))
          refine bodyPost_ret_by (results_cell_row rfl _ _ (w.heap.size + 1) 36 (wa (w2 (w1 bs 128) 64)) (0, 0) (.array 80 30) rfl (setRow_heap _ _ _ _ _ _ hold) und36 rfl (by rw [hw]; exact size36)) rfl ⟨rfl, ?_⟩
          exact Below.setRow hb _ _ (by omega)
end Go.Proofs.YtjkcjlhcfkapkaaDoor
