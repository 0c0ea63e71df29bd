/- The page's own table: its calls, and what they answer. -/
import Derived.Test.YtcmalffpahkleaaDoorSy9
import Derived.Deep.WholeRow
namespace Go.Proofs.YtcmalffpahkleaaDoor
open Go.RowKit
def kn0 : Array Value := (List.replicate 16 (Value.string ⟨#[]⟩)).toArray
set_option maxRecDepth 100000 in
set_option maxHeartbeats 4000000 in
theorem Known_any (w : World) : Calls Tryd.prog 20 #[] w fun e w' => e = .returned (.agg (kno.map Value.string).toArray) ∧ Below w.heap.size w w' := by
  go_enter Tryd.func20, Tryd.ntmps20
  go_wp2_with (refine wpList_store_row rfl 46 (.tmp 0) (.tmp 1) rfl w.heap.size (kno.map Value.string).toArray rfl rfl 46 kn0 (heap_alloc_last _ _) (by kernel_rfl) rfl (by kernel_rfl) ?_)
  exact bodyPost_ret_by (results_cell_row rfl _ _ w.heap.size 46 (kno.map Value.string).toArray (0, 0) (.array 16 9) rfl (setRow_heap _ _ _ _ _ _ (heap_alloc_last _ _)) (by kernel_rfl) rfl (by kernel_rfl)) rfl ⟨rfl, (alloc_below w _).trans ⟨rfl, rfl, rfl, by simp, fun k hk => setRow_other _ _ _ _ (by omega)⟩⟩
/-- The page's table in memory. -/
structure PtAt (w : World) (g : Nat) (v : Value) (l : List ByteArray) : Prop where
  hd : w.heap[g]? = some (.cells #[v] 30 (0, 0))
  row : w.ownsRow 0 9 1 v l.length (l.map .string)
theorem PtAt.kp {S : List Nat} {w w' : World} {g : Nat} {v : Value} {l : List ByteArray} (h : PtAt w g v l) (k : Kp S w w') (h0 : g ∉ S) (hn : ∀ x, v.ownBlock = some x → x ∉ S) : PtAt w' g v l := ⟨k.heap h.hd h0, row_kp h.row k hn⟩
theorem PtAt.ext {w w' : World} {g : Nat} {v : Value} {l : List ByteArray} (h : PtAt w g v l) (b : Below w.heap.size w w') : PtAt w' g v l := h.kp (Kp.of_below (S := []) b) (by simp) (by simp)
/-- What the page's find answers. -/
def pfV (l : List ByteArray) (s : ByteArray) : Int := match fnd l s with | some n => (n : Int) | none => -1
set_option maxRecDepth 100000 in
set_option maxHeartbeats 2000000 in
theorem pfind_any {w : World} {g : Nat} {v : Value} {l : List ByteArray} (s : ByteArray) (hT : PtAt w g v l) (hl : l.length ≤ 1000) : Calls Tryd.prog 21 #[.pointer (some ⟨g, 0, none⟩), .string s] w fun e w' => e = .returned (.int .i64 (pfV l s)) ∧ Below w.heap.size w w' := by
  have hg : g < w.heap.size := (Array.getElem?_eq_some_iff.1 hT.hd).1
  have hc : w.cell? ⟨g, 0, none⟩ = some v := (row_reads hT.hd).1 0
  obtain ⟨L, hL⟩ : ∃ L, kno.map Value.string = L := ⟨_, rfl⟩
  have hL := hide hL
  have HKN := Known_any w
  rw [hL.out] at HKN
  have HKN := hide HKN
  have HT := hide hT
  have HL := hide hl
  obtain ⟨a, c, rfl, hlc, hcm, hcell⟩ := row_slice hT.row
  have HC := hide hcell
  have HG : Hid (∀ W, Below w.heap.size w W → W.cell? ⟨g, 0, none⟩ = some (.slice a l.length c)) := ⟨fun W B => (Below.cell (p := ⟨g, 0, none⟩) B hg).trans hc⟩
  clear hT hl hc hg hcell
  cases hp : place kno s with
  | some i =>
    have e1 : pfV l s = (i : Int) := by unfold pfV fnd; rw [hp]
    rw [e1]
    have hP := hide (place_some.1 hp)
    have hi : i < 16 := place_lt hp
    clear hp e1
    go_enter Tryd.func21, Tryd.ntmps21
    go_wp2_with fail
    refine HKN.out.mono ?_
    rintro e_ w1 ⟨rfl, b1⟩
    have B1 := hide b1
    clear b1
    go_wp2
    go_loopw [10] (fun v wr => ∃ k : Nat, k ≤ i ∧ v = .int .i64 (k : Int) ∧ wr = w1) (fun v _ => 16 - (intOf v).toNat)
    case atStart => exact ⟨0, Nat.zero_le _, rfl, rfl⟩
    case round =>
      obtain ⟨k, hk, rfl, rfl⟩ := hrel
      have hlt : decide ((k : Int) < 16) = true := decide_eq_true (by omega)
      obtain ⟨x, hx⟩ : ∃ x, kno[k]? = some x := ⟨_, List.getElem?_eq_getElem (by rw [kno_len]; omega)⟩
      have hix := kn_ix k x hx hL.out
      have he := eq_dec x s
      by_cases hki : k = i
      · have hxs : x = s := by have h1 := hP.out.1; rw [← hki, hx] at h1; injection h1
        rw [decide_eq_true hxs] at he
        have HK := hide hki
        clear hki hxs
        go_wp2
        go_ret
        rw [HK.out]
        exact ⟨rfl, B1.out⟩
      · have hxs : x ≠ s := fun e => hP.out.2 k (by omega) (by rw [hx, e])
        rw [decide_eq_false hxs] at he
        clear hxs
        go_wp2
        exact ⟨⟨k + 1, by omega, by simp, trivial⟩, by simp only [intOf]; omega⟩
  | none =>
    have hP := hide (place_none.1 hp)
    have e1 : pfV l s = match place l s with | some i => 1024 + (i : Int) | none => -1 := by
      unfold pfV fnd
      rw [hp]
      cases place l s with
      | some i => simp
      | none => rfl
    obtain ⟨V, hV⟩ : ∃ V, pfV l s = V := ⟨_, rfl⟩
    rw [hV] at e1 ⊢
    have HV := hide e1
    clear hp e1 hV
    go_enter Tryd.func21, Tryd.ntmps21
    go_wp2_with fail
    refine HKN.out.mono ?_
    rintro e_ w1 ⟨rfl, b1⟩
    have hc1 := HG.out _ b1
    have B1 := hide b1
    clear b1
    go_wp2
    go_loopw [10] (fun v wr => ∃ k : Nat, k ≤ 16 ∧ v = .int .i64 (k : Int) ∧ wr = w1) (fun v _ => 16 - (intOf v).toNat)
    case atStart => exact ⟨0, Nat.zero_le _, rfl, rfl⟩
    case round =>
      obtain ⟨k, hk, rfl, rfl⟩ := hrel
      by_cases hk16 : k < 16
      · have hlt : decide ((k : Int) < 16) = true := decide_eq_true (by omega)
        obtain ⟨x, hx⟩ : ∃ x, kno[k]? = some x := ⟨_, List.getElem?_eq_getElem (by rw [kno_len]; omega)⟩
        have hix := kn_ix k x hx hL.out
        have he := eq_dec x s
        have hxs : x ≠ s := fun e => hP.out (List.mem_iff_getElem?.2 ⟨k, by rw [hx, e]⟩)
        rw [decide_eq_false hxs] at he
        clear hxs hx
        go_wp2
        exact ⟨⟨k + 1, by omega, by simp, trivial⟩, by simp only [intOf]; omega⟩
      · have hlt : decide ((k : Int) < 16) = false := decide_eq_false (by omega)
        clear hk16 hk
        go_wp2
        go_loopw [24] (fun v w2 => ∃ m : Nat, m ≤ l.length ∧ v = .int .i64 (m : Int) ∧ w2 = wr ∧ ∀ j, j < m → l[j]? ≠ some s) (fun v _ => l.length - (intOf v).toNat)
        case atStart => exact ⟨0, Nat.zero_le _, rfl, rfl, fun j hj => absurd hj (by omega)⟩
        case round =>
          obtain ⟨m, hm, rfl, rfl, hno⟩ := hrel
          have HNO := hide hno
          clear hno
          by_cases hml : m < l.length
          · have dm : decide (m < l.length) = true := decide_eq_true hml
            obtain ⟨x, hx⟩ : ∃ x, l[m]? = some x := ⟨_, List.getElem?_eq_getElem hml⟩
            obtain ⟨b, rfl, hbb, hcb⟩ := HC.out m x hx
            have hcw := (Below.cell (p := ⟨b, m, none⟩) B1.out hbb).trans hcb
            have hix := fun w_ => ix_strs w_ b l.length c m hml
            have he := eq_dec x s
            have hm1 : IntKind.i64.wrap ((m : Int) + 1) = (m : Int) + 1 := i64_wrap _ (by have := HL.out; omega)
            have hm2 : IntKind.i64.wrap (1024 + (m : Int)) = 1024 + (m : Int) := i64_wrap _ (by have := HL.out; omega)
            have HM := hide (And.intro hml hx)
            clear hml hbb hcb hm
            by_cases hxs : x = s
            · rw [decide_eq_true hxs] at he
              have HX := hide hxs
              clear hxs hx
              go_wp2
              go_ret
              have : place l s = some m := place_some.2 ⟨by rw [← HX.out]; exact HM.out.2, HNO.out⟩
              exact ⟨by rw [HV.out, this]; rfl, B1.out⟩
            · rw [decide_eq_false hxs] at he
              have HX := hide hxs
              clear hxs hx
              go_wp2
              refine ⟨⟨m + 1, HM.out.1, by simp, trivial, fun j hj => ?_⟩, by have := HM.out.1; simp only [intOf]; omega⟩
              rcases Nat.lt_or_ge j m with h | h
              · exact HNO.out j h
              · obtain rfl : j = m := by omega
                rw [HM.out.2]
                intro e
                injection e with e
                exact HX.out e
          · have dm : decide (m < l.length) = false := decide_eq_false hml
            have hno2 : place l s = none := place_none.2 (fun hmem => by
              obtain ⟨j, hj⟩ := List.mem_iff_getElem?.1 hmem
              exact HNO.out j (by have := (List.getElem?_eq_some_iff.1 hj).1; omega) hj)
            have HE := hide hno2
            clear hml hm hno2
            go_wp2
            go_ret
            exact ⟨by rw [HV.out, HE.out]; rfl, B1.out⟩
end Go.Proofs.YtcmalffpahkleaaDoor
