/- The sum of any bytes; and that of the three letters, as the statements ask it, where the two tables lie as the text lays them. -/
import Derived.Test.YtjkcjlhcfkapkaaDoorSum
import Derived.Test.YtjkcjlhcfkapkaaDoorAbc
import Derived.Lib.SlBytesConst
import Derived.Laws.BytesArg
namespace Go.Proofs.YtjkcjlhcfkapkaaDoor
open Go.RowKit
theorem owns_mono {w : World} {base base' : Nat} {v : Value} {n : Nat} {xs : List Value} (h : w.ownsRow base 5 1 v n xs) (hb : base' ≤ base) : w.ownsRow base' 5 1 v n xs := by
  refine ⟨h.1, h.2.imp id ?_⟩
  rintro ⟨g, cap, cur, h1, h2, r⟩
  exact ⟨g, cap, cur, h1, Nat.le_trans hb h2, r⟩
set_option maxRecDepth 100000 in
set_option maxHeartbeats 1000000 in
/-- The sum of bytes, whatever they are. -/
theorem shaSum_any (bs : List UInt8) (v : Value) (w : World) (ht : Tabs w) (hbs : BsAt w w.heap.size v bs) (hm : bs.length < 8000000000000000000) :
    Calls Tryd.prog 9 #[v] w fun e w' => ∃ v', e = .returned v' ∧ w'.ownsRow w.heap.size 5 1 v' 64 ((shaB bs).map bc) ∧ Below w.heap.size w w' := by
  have HT := hide (And.intro ht hbs)
  clear ht hbs
  go_enter Tryd.func9, Tryd.ntmps9
  go_wp2_with fail
  refine (new_any w).mono ?_
  rintro e w1 ⟨rfl, h1, hb1, hs1⟩
  obtain ⟨ht, hbs⟩ := HT.out
  have hbs1 : BsAt w1 w.heap.size v bs := by
    obtain ⟨ao, c, e, hc, hh⟩ := hbs
    refine ⟨ao, c, e, hc, fun hne => ?_⟩
    obtain ⟨b, o, e1, hb, hb2, hr⟩ := hh hne
    exact ⟨b, o, e1, hb, by omega, fun j u hu => (hb1.cell hb2).trans (hr j u hu)⟩
  have HW := hide (write_any w.heap.size [] bs v w1 ht.2.2 ⟨_, _, _, h1, HInv.zero⟩ (ht.below hb1 ht.2.2) hbs1 (by simp; omega))
  have HB := hide (And.intro hb1 (And.intro hs1 ht))
  clear h1 hb1 hs1 ht hbs hbs1
  go_wp2_with fail
  refine HW.out.mono ?_
  rintro e w2 ⟨rfl, h2, hg2⟩
  obtain ⟨hb1, hs1, ht⟩ := HB.out
  have hb2 : Below w.heap.size w w2 := hb1.trans ⟨hg2.os, hg2.tape, hg2.output, hg2.size, fun k hk => hg2.block k (by omega) (by simp; omega)⟩
  have HS := hide (sum_any w.heap.size bs w2 (by have := hg2.size; omega) h2 (ht.below hb2 ht.2.2) hm)
  have HB2 := hide hb2
  clear h2 hg2 hb1 hs1 ht hb2
  go_wp2_with fail
  refine HS.out.mono ?_
  rintro e w3 ⟨v3, rfl, hown3, hb3⟩
  have hb2 := HB2.out
  have R := hide (And.intro (owns_mono hown3 hb2.size) (hb2.trans (hb3.mono hb2.size)))
  clear hown3 hb3 hb2
  go_wp2
  go_ret
  exact ⟨_, rfl, R.out.1, R.out.2⟩
/-- What is owned is a slice with an address, where there is anything. -/
theorem owns_shape {w : World} {base : Nat} {v : Value} {n : Nat} {bs : List UInt8} (h : w.ownsRow base 5 1 v n (bs.map bc)) (hn : 0 < n) : ∃ g cap, v = .slice (some ⟨g, 0, none⟩) n cap ∧ n ≤ cap ∧ cap ≤ maxLen ∧ base ≤ g ∧ g < w.heap.size ∧ w.rangeAt g 0 (bs.map bc) := by
  rcases h.2 with ⟨_, h0⟩ | ⟨b, cap, cur, rfl, hb, hr, hc, hm, _, ht⟩
  · omega
  · refine ⟨b, cap, rfl, hc, hm, hb, (Array.getElem?_eq_some_iff.1 hr).1, ?_⟩
    intro j u hu
    rw [Nat.zero_add, cell_of_row _ _ _ _ _ _ hr]
    rw [← ht, List.getElem?_take] at hu
    split at hu
    · simpa using hu
    · cases hu
theorem run_slice_to (w : World) (ad : Addr) (n c k : Nat) (hk : k ≤ c) : (Instr.sliceAt 22 (.slice (some ad) n c) none (some (.int .i64 (k : Int))) none).run Tryd.prog w = .ok (.slice (some ad) k c) w := by
  have h1 : ¬ c < k := by omega
  simp [Instr.sliceAt, Instr.slice, run_underlying und22, Instr.sliceBounds, Instr.sliceBound, asIntOf, h1, Addr.add]
/-- Bytes as a string. -/
def strOf (bs : List UInt8) : ByteArray := ⟨bs.toArray⟩
theorem run_str_of (w : World) (b o c : Nat) (bs : List UInt8) (h : w.rangeAt b o (bs.map bc)) : (convert 22 9 (.slice (some ⟨b, o, none⟩) bs.length c)).run Tryd.prog w = .ok (.string (strOf bs)) w := by
  have hx := run_convert_bytes_arg (P := Tryd.prog) w 22 5 und22 Tryd.underlying5 b o bs.length c (bs.map bn) (by simp) (fun i hi => by
    have := h i (bc (bs.getD i 0)) (by simp [hi])
    rw [this]; simp [bc, hi]) 9 Tryd.underlying9
  rw [hx]
  congr 2
  have e : (bs.map bn).map (fun n => UInt8.ofNat n.toNat) = bs := by
    rw [List.map_map]
    conv => rhs; rw [← List.map_id bs]
    apply List.map_congr_left
    intro x _
    simp [bn]
  unfold strOfNums strOf
  rw [e]
set_option maxRecDepth 100000 in
set_option maxHeartbeats 1000000 in
/-- A sum that every program must know. -/
theorem awake_any (w : World) (ht : Tabs w) : Calls Tryd.prog 8 #[] w fun e w' => e = .returned (.bool true) ∧ Below w.heap.size w w' := by
  have kc := fun (w : World) (C : Array Value) (n c : Nat) => Lib.run_convert_bytes_const (P := Tryd.prog) w 22 5 C n c und22 Tryd.underlying5
  have HT := hide ht
  clear ht
  go_enter Tryd.func8, Tryd.ntmps8
  go_wp2_with fail
  have ht := HT.out
  have hb0 : Below w.heap.size w (w.alloc (Obj.cells #[.int .u8 97, .int .u8 98, .int .u8 99] 5 (3, 4))) := (Below.refl _ _).alloc (Nat.le_refl _) _
  have hbs : BsAt (w.alloc (Obj.cells #[.int .u8 97, .int .u8 98, .int .u8 99] 5 (3, 4))) (w.alloc (Obj.cells #[.int .u8 97, .int .u8 98, .int .u8 99] 5 (3, 4))).heap.size (.slice (some ⟨w.heap.size, 0, none⟩) 3 3) [97, 98, 99] := by
    refine ⟨_, 3, rfl, by decide, fun _ => ⟨w.heap.size, 0, rfl, by simp, by simp, ?_⟩⟩
    intro j u hu
    rw [Nat.zero_add, cell_of_row _ _ j _ _ _ (heap_alloc_last w _)]
    rw [← hu]
    show (ba [97, 98, 99])[j]? = _
    simp only [ba, List.getElem?_toArray]
  refine (shaSum_any [97, 98, 99] _ _ (ht.below hb0 ht.2.2) hbs (by decide)).mono ?_
  rintro e w1 ⟨v1, rfl, hown1, hb1⟩
  have hb01 : Below w.heap.size w w1 := hb0.trans (hb1.mono (by simp))
  obtain ⟨g, cap, hv, hc, hm, hg1, hg2, hr⟩ := owns_shape hown1 (by omega)
  rw [hv]
  have hr8 : w1.rangeAt g 0 (([221, 175, 53, 161, 147, 97, 122, 186] : List UInt8).map bc) := fun j u hu => hr j u (by
    rw [← abc_sum, List.map_take, List.getElem?_take] at hu
    split at hu
    · exact hu
    · cases hu)
  have hsl := run_slice_to w1 ⟨g, 0, none⟩ 64 cap 8 (by omega)
  have hst : (convert 22 9 (.slice (some ⟨g, 0, none⟩) 8 cap)).run Tryd.prog w1 = .ok (.string ⟨#[221, 175, 53, 161, 147, 97, 122, 186]⟩) w1 := run_str_of w1 g 0 cap [221, 175, 53, 161, 147, 97, 122, 186] hr8
  have HB := hide hb01
  clear hb01 hb1 hb0 hbs hown1 hr hr8 hv ht kc
  go_wp2
  go_ret
  exact ⟨rfl, HB.out⟩
end Go.Proofs.YtjkcjlhcfkapkaaDoor
