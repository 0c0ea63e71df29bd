/- The names of an expression's variables: the program's call Names. -/
import Derived.Test.YteiacgpaocnofaaGreatXb
import Derived.Test.YteiacgpaocnofaaGreatShelf2
import Derived.Sort.OwnSorted
namespace Go.Proofs.YteiacgpaocnofaaGreat
open Go.RowKit
theorem appS : AppTy 25 9 1 16 := appTy_of (.string ⟨#[]⟩) (by kernel_rfl) (by kernel_rfl) (by kernel_rfl) (by decide)
/-- The names of the variables, as they come. -/
def varN (l : List Ox) : List ByteArray := (l.filter fun x => x.t.k == 1).map (·.t.s)
theorem varN_next {l : List Ox} {k : Nat} {x : Ox} (hx : l[k]? = some x) : varN (l.take (k + 1)) = varN (l.take k) ++ (if (x.t.k == 1) = true then [x.t.s] else []) := by
  unfold varN
  rw [List.take_add_one, hx, List.filter_append, List.map_append]
  congr 1
  cases h : (x.t.k == 1) <;> simp [h]
theorem varN_len (l : List Ox) : (varN l).length ≤ l.length := by
  unfold varN
  rw [List.length_map]
  exact List.length_filter_le _ _
theorem varN_mem {l : List Ox} {s : ByteArray} : s ∈ varN l ↔ ∃ x ∈ l, x.t.k = 1 ∧ x.t.s = s := by
  unfold varN
  simp only [List.mem_map, List.mem_filter, beq_iff_eq]
  constructor
  · rintro ⟨x, ⟨h1, h2⟩, h3⟩; exact ⟨x, h1, h2, h3⟩
  · rintro ⟨x, h1, h2, h3⟩; exact ⟨x, ⟨h1, h2⟩, h3⟩
def sv1 (l : List ByteArray) : List Value := l.map .string
/-- So many of the operations are gone through. -/
structure NmS (w : World) (l : List Ox) (k : Nat) (v : Value) (wr : World) : Prop where
  row : wr.ownsRow (w.heap.size + 1) 9 1 v (varN (l.take k)).length (sv1 (varN (l.take k)))
  bel : Below w.heap.size w wr
  big : w.heap.size + 1 ≤ wr.heap.size
theorem NmS.ext {w wr w' : World} {l : List Ox} {k : Nat} {v : Value} (h : NmS w l k v wr) (he : Below wr.heap.size wr w') : NmS w l k v w' :=
  ⟨row_ext h.row he, Below.chain h.bel he, Nat.le_trans h.big he.size⟩
theorem NmS.skip {w wr : World} {l : List Ox} {k : Nat} {v : Value} {x : Ox} (h : NmS w l k v wr) (hx : l[k]? = some x) (hn : (x.t.k == 1) = false) : NmS w l (k + 1) v wr := by
  have e : varN (l.take (k + 1)) = varN (l.take k) := by rw [varN_next hx, hn]; simp
  exact ⟨by rw [e]; exact h.row, h.bel, h.big⟩
theorem NmS.put {w wr w' : World} {l : List Ox} {k : Nat} {v v' : Value} {x : Ox} (h : NmS w l k v wr) (hx : l[k]? = some x) (hn : (x.t.k == 1) = true)
    (ho : w'.ownsRow (w.heap.size + 1) 9 1 v' ((varN (l.take k)).length + 1) (sv1 (varN (l.take k)) ++ [.string x.t.s])) (hg : wr.grownBy w' v.ownBlock) : NmS w l (k + 1) v' w' := by
  have hX : ∀ g, v.ownBlock = some g → w.heap.size + 1 ≤ g := fun g hg => (h.row.lt g hg).1
  refine ⟨?_, below_grow h.bel hg (fun g hg => by have := hX g hg; omega) h.bel.size, Nat.le_trans h.big hg.size⟩
  have e : varN (l.take (k + 1)) = varN (l.take k) ++ [x.t.s] := by rw [varN_next hx, hn]; rfl
  rw [e, List.length_append]
  unfold sv1 at ho ⊢
  rw [List.map_append]
  exact ho
/-- The names, rising, each once. -/
def namesL (vs : List ByteArray) : List (List UInt8) := Lib.compact ((vs.map (·.data.toList)).mergeSort fun x y => decide (x ≤ y))
theorem compact_mem {α : Type} [Inhabited α] [DecidableEq α] (zs : List α) (s : α) : s ∈ Lib.compact zs ↔ s ∈ zs := by
  have key : ∀ m, m ≤ zs.length → (s ∈ Lib.compactUpTo zs.toArray m ↔ s ∈ zs.take m) := by
    intro m
    induction m with
    | zero => intro _; simp [Lib.compactUpTo]
    | succ m ih =>
      intro hm
      have hml : m < zs.length := by omega
      have hget : zs.toArray[m]! = zs[m] := by simp [hml]
      rw [Lib.compactUpTo_succ, List.mem_append, ih (by omega), List.take_add_one, List.mem_append, List.getElem?_eq_getElem hml]
      by_cases hk : Lib.keeps zs.toArray m = true
      · rw [if_pos hk, hget]; simp
      · rw [if_neg hk]
        have hm0 : m ≠ 0 := fun e => hk (Lib.keeps_lt_one _ _ (by omega))
        have heq : zs[m] = zs[m - 1]'(by omega) := by
          apply Decidable.byContradiction
          intro hne
          apply hk
          apply Lib.keeps_pos
          have h1 : zs.toArray[m - 1]! = zs[m - 1]'(by omega) := by simp [show m - 1 < zs.length by omega]
          rw [hget, h1]
          exact hne
        constructor
        · rintro (h | h)
          · exact .inl h
          · simp at h
        · rintro (h | h)
          · exact .inl h
          · left
            have hs : s = zs[m] := by simpa using h
            rw [hs, heq]
            exact List.mem_of_getElem? (i := m - 1) (by rw [List.getElem?_take, if_pos (by omega), List.getElem?_eq_getElem])
  have := key zs.length (Nat.le_refl _)
  rw [List.take_length] at this
  exact this
theorem namesL_mem {vs : List ByteArray} {b : List UInt8} : b ∈ namesL vs ↔ b ∈ vs.map (·.data.toList) := by
  unfold namesL
  rw [compact_mem, List.mem_mergeSort]
theorem namesL_one (s : ByteArray) : namesL [s] = [s.data.toList] := by
  unfold namesL
  simp [Lib.compact, Lib.compactUpTo, Lib.keeps]
def baL (l : List (List UInt8)) : List ByteArray := l.map fun b => ⟨b.toArray⟩
theorem ba_id (s : ByteArray) : (⟨s.data.toList.toArray⟩ : ByteArray) = s := by simp
theorem str_one (s : ByteArray) : ∀ u ∈ [Value.string s], u.oneCell' = true := fun u hu => by
  simp at hu; subst hu; rfl
theorem str_news {W : World} {g : Nat} {s : ByteArray} (h : W.heap[g]? = some (.cells #[.string s] 9 (0, 0))) : ∀ j u, [Value.string s][j]? = some u → W.cell? (Addr.add ⟨g, 0, none⟩ j) = some u := fun j u hu => by
  rw [Addr.add_mid, Nat.zero_add, cell_of_row _ _ _ _ _ _ h]
  simpa using hu
open Go.Sort in
theorem enc_s (s : ByteArray) : encStr s.data.toList = .string s := by simp [encStr]
open Go.Sort in
theorem sv1_enc (vs : List ByteArray) : sv1 vs = (vs.map (·.data.toList)).map encStr := by
  unfold sv1
  rw [List.map_map]
  apply List.map_congr_left
  intro s _
  exact (enc_s s).symm
open Go.Sort in
theorem sort_own {w : World} {B n : Nat} {v : Value} {ss : List (List UInt8)} (h : w.ownsRow B 9 1 v n (ss.map encStr)) (hn : n = ss.length) (hs : n ≤ 1000) :
    Calls Tryz.prog 43 #[v] w fun e w' => e = .returned (.tuple #[]) ∧ w'.ownsRow B 9 1 v n ((ss.mergeSort fun x y => decide (x ≤ y)).map encStr) ∧ w.grownBy w' v.ownBlock := by
  rcases h.2 with ⟨rfl, h0⟩ | ⟨q, cap, cur, rfl, hb, hr, hnc, hm, hcs, ht⟩
  · subst h0
    have e0 : ss = [] := List.eq_nil_of_length_eq_zero hn.symm
    subst e0
    have hC : Calls Tryz.prog 43 #[.slice none 0 0] w fun e w' => e = .returned (.tuple #[]) ∧ w' = w := Any.slices_Sort_string_none Tryz.lays190 none 0 w
    refine hC.mono ?_
    rintro e w' ⟨he, rfl⟩
    exact ⟨he, by simpa using h, ⟨rfl, rfl, rfl, Nat.le_refl _, fun _ _ _ => rfl⟩⟩
  · subst hn
    have hql := (Array.getElem?_eq_some_iff.1 hr).1
    rw [Nat.mul_one] at ht
    have hC : Calls Tryz.prog 43 #[.slice (some ⟨q, 0, none⟩) ss.length cap] w fun e w' => e = .returned (.tuple #[]) ∧ ∃ n os, w' = grow (putRow encStr (Sort.ahead w n) q 0 (ss.mergeSort fun x y => decide (x ≤ y)).toArray) os := Any.slices_Sort_string Tryz.lays190 q 0 cap ss w (holds_of_block hr ht) hql (by omega)
    refine hC.mono ?_
    rintro e w' ⟨he, n, os, rfl⟩
    exact ⟨he, ownsRow_sorted (by simp) hb hr hnc hm hcs, grownBy_sorted _⟩
open Go.Sort in
theorem compact_own {w : World} {B n : Nat} {v : Value} {ss : List (List UInt8)} (h : w.ownsRow B 9 1 v n (ss.map encStr)) (hn : n = ss.length) (hs : n ≤ 1000) (hz : ∀ b ∈ ss, b.length ≤ 9223372036854775807) :
    Calls Tryz.prog 44 #[v] w fun e w' => (∃ a c, e = .returned (.slice a (Lib.compact ss).length c) ∧ NAt w' (baL (Lib.compact ss)) a c) ∧ w.grownBy w' v.ownBlock := by
  rcases h.2 with ⟨rfl, h0⟩ | ⟨q, cap, cur, rfl, hb, hr, hnc, hm, hcs, ht⟩
  · subst h0
    have e0 : ss = [] := List.eq_nil_of_length_eq_zero hn.symm
    subst e0
    have hC : Calls Tryz.prog 44 #[.slice none 0 0] w fun e w' => e = .returned (.slice none 0 0) ∧ w' = w := Any.slices_Compact_string_empty Tryz.lays194 none 0 w
    refine hC.mono ?_
    rintro e w' ⟨he, rfl⟩
    exact ⟨⟨none, 0, he, Nat.le_refl _, by decide, 0, 0, fun h => absurd rfl h, fun i s h => by simp [baL, Lib.compact, Lib.compactUpTo] at h⟩, ⟨rfl, rfl, rfl, Nat.le_refl _, fun _ _ _ => rfl⟩⟩
  · subst hn
    have hql := (Array.getElem?_eq_some_iff.1 hr).1
    rw [Nat.mul_one] at ht
    have hmx : ss.length ≤ 9223372036854775807 := by omega
    have hC : Calls Tryz.prog 44 #[.slice (some ⟨q, 0, none⟩) ss.length cap] w fun e w' => e = .returned (.slice (some ⟨q, 0, none⟩) (Lib.compact ss).length cap) ∧ ∃ r, w' = putRow encStr (Sort.ahead w r) q 0 (Lib.compact ss ++ List.replicate (ss.length - (Lib.compact ss).length) []).toArray := Any.slices_Compact_string Tryz.lays194 q 0 cap ss w (holds_of_block hr ht) hmx hnc
    refine hC.mono ?_
    rintro e w' ⟨he, r, rfl⟩
    have hle : (Lib.compact ss).length ≤ ss.length := by
      unfold Lib.compact Lib.compactUpTo
      rw [List.length_map]
      exact Nat.le_trans (List.length_filter_le _ _) (by simp)
    have hlen : (Lib.compact ss ++ List.replicate (ss.length - (Lib.compact ss).length) []).length = ss.length := by rw [List.length_append, List.length_replicate]; omega
    have hgr := grownBy_sorted (w := w) (g := q) (n := r) (os := #[]) (Lib.compact ss ++ List.replicate (ss.length - (Lib.compact ss).length) []).toArray
    have hw := heap_sorted (w := w) (g := q) (n := r) (os := #[]) (Lib.compact ss ++ List.replicate (ss.length - (Lib.compact ss).length) []).toArray hr
    rw [grow_empty] at hgr hw
    have htk := take_putCells cur (Lib.compact ss ++ List.replicate (ss.length - (Lib.compact ss).length) []) (by rw [hlen, hcs]; omega)
    refine ⟨⟨some ⟨q, 0, none⟩, cap, he, ?_⟩, hgr⟩
    have hbl : (baL (Lib.compact ss)).length = (Lib.compact ss).length := by unfold baL; rw [List.length_map]
    refine ⟨by rw [hbl]; omega, by unfold maxLen at hm; omega, q, 0, fun _ => ⟨rfl, (Array.getElem?_eq_some_iff.1 hw).1⟩, fun i s his => ?_⟩
    unfold baL at his
    rw [List.getElem?_map] at his
    obtain ⟨b, hb1, rfl⟩ := Option.map_eq_some_iff.1 his
    have hil := (List.getElem?_eq_some_iff.1 hb1).1
    constructor
    · rw [Nat.zero_add, cell_of_row _ _ _ _ _ _ hw]
      have h1 : ((putCells encStr 0 (Lib.compact ss ++ List.replicate (ss.length - (Lib.compact ss).length) []).toArray cur).toList.take (Lib.compact ss ++ List.replicate (ss.length - (Lib.compact ss).length) []).length)[i]? = some (encStr b) := by
        rw [htk, List.getElem?_map, List.getElem?_append_left hil, hb1]; rfl
      rw [List.getElem?_take, if_pos (by rw [hlen]; omega)] at h1
      rw [Array.getElem?_toList] at h1
      rw [h1]
    · have := hz b ((compact_mem ss b).1 (List.mem_of_getElem? hb1))
      show b.toArray.size ≤ _
      rw [List.size_toArray]
      exact this
def NamesA (l : List Ox) (w : World) (e : Ending) (w' : World) : Prop := ∃ N a c, e = .returned (.slice a N.length c) ∧ NAt w' N a c ∧ N = (if mayE l = true then baL (namesL (varN l)) else []) ∧ Below w.heap.size w w'
set_option maxRecDepth 100000 in
set_option maxHeartbeats 8000000 in
theorem Names_any {l : List Ox} {a : Option Addr} {c : Nat} {w : World} (h : OAt w l a c) : Calls Tryz.prog 24 #[.agg #[.slice a l.length c]] w (NamesA l w) := by
  have bA := alloc_below w (.cells #[.slice a l.length c] 24)
  have rA := heap_alloc_last w (.cells #[.slice a l.length c] 24)
  have q0 := cell_of_row _ _ 0 _ _ _ rA
  simp only [List.getElem?_toArray, List.getElem?_cons_zero] at q0
  obtain ⟨M, hMM⟩ : ∃ v, mayE l = v := ⟨_, rfl⟩
  have HC := hide (show Calls Tryz.prog 18 #[.agg #[.slice a l.length c]] (w.alloc (.cells #[.slice a l.length c] 24)) (Ans M _) from by rw [← hMM]; exact EMay_any (h.ext bA))
  have HM := hide hMM
  have HX := hide (And.intro bA (And.intro rA h))
  clear bA rA h hMM
  go_enter Tryz.func24, Tryz.ntmps24
  go_wp2_with fail
  refine HC.out.mono ?_
  rintro e_ w1 ⟨rfl, b1⟩
  have HB1 := hide (Below.chain HX.out.1 b1)
  have R1 := Below.heap b1 (Array.getElem?_eq_some_iff.1 HX.out.2.1).1 HX.out.2.1
  have HR1 := hide (Array.getElem?_eq_some_iff.1 R1).1
  have q1 := cell_of_row _ _ 0 _ _ _ R1
  simp only [List.getElem?_toArray, List.getElem?_cons_zero] at q1
  clear b1 HC q0 R1
  cases M with
  | false =>
    go_wp2
    go_ret
    exact ⟨[], none, 0, rfl, ⟨Nat.le_refl _, by decide, 0, 0, fun h => absurd rfl h, fun i s h => by simp at h⟩, by rw [HM.out]; rfl, HB1.out⟩
  | true =>
  have hl32 : l.length ≤ 32 := (may_hg HM.out).1
  go_wp2
  have HN0 := hide (show NmS w l 0 (.slice none 0 0) w1 from ⟨World.ownsRow_nil _ _ _ _, HB1.out, HR1.out⟩)
  clear q1
  go_loopw [12, 3] (fun j s wr => ∃ k : Nat, k ≤ l.length ∧ j = .int .i64 (k : Int) ∧ NmS w l k s wr) (fun j _ _ => l.length - (intOf j).toNat)
  case atStart => exact ⟨0, Nat.zero_le _, rfl, HN0.out⟩
  case round =>
    obtain ⟨k, hk, rfl, hS⟩ := hrel
    by_cases hlt : k < l.length
    · obtain ⟨x, hx⟩ : ∃ x, l[k]? = some x := ⟨_, List.getElem?_eq_getElem hlt⟩
      obtain ⟨g, o, hao, hbb, hcs⟩ := HX.out.2.2.read (by omega)
      subst hao
      obtain ⟨xa, xc, hxt, hF, hc7⟩ := hcs k x hx
      obtain ⟨p0, p1, p2, p3, p4, p5, p6⟩ := hc7 wr hS.bel
      have hix := fun w_ => ix_ops w_ g o l.length c k hlt
      have bB := alloc_below wr (.cells (ovC x xa xc) 48)
      have SB := hS.ext bB
      have SY := SB.ext (alloc_below _ (.cells #[.string x.t.s] 9))
      have HS := hide (And.intro hS (And.intro SB (And.intro SY hx)))
      have o1 := SY.row
      have o2 := SY.big
      have hfew : (varN (l.take k)).length ≤ 32 := Nat.le_trans (varN_len _) (by rw [List.length_take]; omega)
      clear hcs hc7 hxt hF hx hS bB SB SY
      cases hk1 : (x.t.k == 1) with
      | true =>
        have HK := hide hk1
        go_wp2_with (at_builtin; refine wpList_append_r appS rfl (.tmp 20) (.tmp 24) rfl (base := w.heap.size + 1) (n := (varN (l.take k)).length) (xs := sv1 (varN (l.take k))) o1 (ad := ⟨_, 0, none⟩) (m := 1) (c := 1) (news := [.string x.t.s]) rfl rfl (str_news (box2 wr (ovC x xa xc) #[.string x.t.s] 48 9).2.1) (str_one x.t.s) (by unfold maxLen; omega) (by omega) o2 ?_)
        intro v5 w5 o5 g5
        have HN := hide (HS.out.2.2.1.put HS.out.2.2.2 HK.out o5 g5)
        clear o5 g5 o1 o2
        go_wp2
        go_roundw
        case rel => exact ⟨k + 1, by omega, by go_num, HN.out⟩
        case measure => simp [intOf]; omega
      | false =>
        have HN := hide (HS.out.2.1.skip HS.out.2.2.2 hk1)
        clear o1 o2
        go_wp2
        go_roundw
        case rel => exact ⟨k + 1, by omega, by go_num, HN.out⟩
        case measure => simp [intOf]; omega
    · obtain rfl : k = l.length := by omega
      have hrow := hS.row
      rw [List.take_length, sv1_enc] at hrow
      have hvl := varN_len l
      have HN := hide (And.intro hS.bel (And.intro hS.big hrow))
      have HSo := hide (sort_own hrow (by simp) (by omega))
      clear hrow hS
      go_wp2_with fail
      refine HSo.out.mono ?_
      rintro e_ w3 ⟨rfl, o3, g3⟩
      have hX := fun g hg => (HN.out.2.2.lt g hg).1
      have b3 := below_grow HN.out.1 g3 (fun g hg => by have := hX g hg; omega) HN.out.1.size
      have hbig3 := Nat.le_trans HN.out.2.1 g3.size
      have HCo := hide (compact_own o3 (by simp) (by omega) (fun b hb => by
        rw [List.mem_mergeSort] at hb
        obtain ⟨s, hs, rfl⟩ := List.mem_map.1 hb
        obtain ⟨x, hx, _, rfl⟩ := varN_mem.1 hs
        obtain ⟨i, hi⟩ := List.mem_iff_getElem?.1 hx
        obtain ⟨_, _, _, _, _, _, _, hc⟩ := HX.out.2.2
        have := (hc i x hi).2.1.fits.2.2.1
        rw [Array.length_toList]
        exact this))
      have H3 := hide (And.intro b3 hX)
      clear o3 g3 b3 hbig3 hX
      go_wp2_with fail
      refine HCo.out.mono ?_
      rintro e_ w4 ⟨⟨a4, c4, rfl, hN⟩, g4⟩
      have b4 := below_grow H3.out.1 g4 (fun g hg => by have := H3.out.2 g hg; omega) H3.out.1.size
      have H4 := hide (And.intro b4 hN)
      have hbl : (baL (namesL (varN l))).length = (namesL (varN l)).length := by unfold baL; rw [List.length_map]
      clear b4 hN g4
      go_wp2
      go_ret
      refine ⟨baL (namesL (varN l)), a4, c4, ?_, H4.out.2, by rw [HM.out]; rfl, H4.out.1⟩
      rw [hbl]
      rfl
end Go.Proofs.YteiacgpaocnofaaGreat
