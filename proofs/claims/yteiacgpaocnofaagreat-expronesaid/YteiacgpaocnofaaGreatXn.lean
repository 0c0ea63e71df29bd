/- Names: sorted and once each; expressions of one operation, and of more. -/
import Derived.Shelf.Sort.Plain
import Derived.Shelf.Slices.CompactS
import Derived.Shelf.Slices.In.SortNone
import Derived.Test.YteiacgpaocnofaaGreatProg
import Derived.Test.YteiacgpaocnofaaGreatXb
import Derived.Sort.OwnSorted
import Derived.Test.YteiacgpaocnofaaGreatXe
/- The numbers that two of the library's contracts (of slices.Sort, slices.Compact) have in this program. -/
namespace Go.Proofs
open Go.Shelf
def Tryz.lays190_ren : Go.Shelf.Ren := ⟨fun | 190 => 43 | 125 => 68 | 258 => 67 | 128 => 97 | 129 => 98 | 302 => 89 | 303 => 90 | 304 => 91 | 305 => 92 | 306 => 93 | 307 => 94 | 308 => 81 | 309 => 95 | 310 => 96 | 333 => 111 | 329 => 112 | 330 => 113 | 334 => 114 | 335 => 115 | 336 => 108 | 344 => 123 | n => n, fun | 31 => 25 | 9 => 9 | 3 => 3 | 46 => 90 | 0 => 0 | 51 => 105 | 53 => 107 | 4 => 4 | 183 => 99 | 182 => 98 | 131 => 82 | 5 => 5 | 218 => 122 | 222 => 126 | 228 => 145 | 229 => 146 | n => n, fun | n => n⟩
theorem Tryz.lays190 : Go.Proofs.Lays.n190 Tryz.prog Tryz.lays190_ren := {
  mixed := by kernel_rfl
  f125 := Tryz.func68.trans (congrArg some (by kernel_rfl))
  f128 := Tryz.func97.trans (congrArg some (by kernel_rfl))
  f129 := Tryz.func98.trans (congrArg some (by kernel_rfl))
  f190 := Tryz.func43.trans (congrArg some (by kernel_rfl))
  f258 := Tryz.func67.trans (congrArg some (by kernel_rfl))
  f302 := Tryz.func89.trans (congrArg some (by kernel_rfl))
  f303 := Tryz.func90.trans (congrArg some (by kernel_rfl))
  f304 := Tryz.func91.trans (congrArg some (by kernel_rfl))
  f305 := Tryz.func92.trans (congrArg some (by kernel_rfl))
  f306 := Tryz.func93.trans (congrArg some (by kernel_rfl))
  f307 := Tryz.func94.trans (congrArg some (by kernel_rfl))
  f308 := Tryz.func81.trans (congrArg some (by kernel_rfl))
  f309 := Tryz.func95.trans (congrArg some (by kernel_rfl))
  f310 := Tryz.func96.trans (congrArg some (by kernel_rfl))
  f329 := Tryz.func112.trans (congrArg some (by kernel_rfl))
  f330 := Tryz.func113.trans (congrArg some (by kernel_rfl))
  f333 := Tryz.func111.trans (congrArg some (by kernel_rfl))
  f334 := Tryz.func114.trans (congrArg some (by kernel_rfl))
  f335 := Tryz.func115.trans (congrArg some (by kernel_rfl))
  f336 := Tryz.func108.trans (congrArg some (by kernel_rfl))
  f344 := Tryz.func123.trans (congrArg some (by kernel_rfl))
  t0 := Tryz.underlying0
  a0 := Tryz.isAgg0
  z0 := Tryz.sizeOf0
  v0 := Tryz.zeroValue0
  t3 := Tryz.underlying3
  a3 := Tryz.isAgg3
  z3 := Tryz.sizeOf3
  v3 := Tryz.zeroValue3
  t4 := Tryz.underlying4
  a4 := Tryz.isAgg4
  z4 := Tryz.sizeOf4
  v4 := Tryz.zeroValue4
  t5 := Tryz.underlying5
  a5 := Tryz.isAgg5
  z5 := Tryz.sizeOf5
  v5 := Tryz.zeroValue5
  t9 := Tryz.underlying9
  a9 := Tryz.isAgg9
  z9 := Tryz.sizeOf9
  v9 := Tryz.zeroValue9
  t31 := Tryz.underlying25
  a31 := Tryz.isAgg25
  z31 := Tryz.sizeOf25
  v31 := Tryz.zeroValue25
  t46 := Tryz.underlying90
  a46 := Tryz.isAgg90
  z46 := Tryz.sizeOf90
  v46 := Tryz.zeroValue90
  t51 := Tryz.underlying105
  a51 := Tryz.isAgg105
  z51 := Tryz.sizeOf105
  v51 := Tryz.zeroValue105
  t53 := Tryz.underlying107
  a53 := Tryz.isAgg107
  z53 := Tryz.sizeOf107
  v53 := Tryz.zeroValue107
  t131 := Tryz.underlying82
  a131 := Tryz.isAgg82
  z131 := Tryz.sizeOf82
  v131 := Tryz.zeroValue82
  t182 := Tryz.underlying98
  a182 := Tryz.isAgg98
  z182 := Tryz.sizeOf98
  v182 := Tryz.zeroValue98
  t183 := Tryz.underlying99
  a183 := Tryz.isAgg99
  z183 := Tryz.sizeOf99
  v183 := Tryz.zeroValue99
  t218 := Tryz.underlying122
  a218 := Tryz.isAgg122
  z218 := Tryz.sizeOf122
  v218 := Tryz.zeroValue122
  t222 := Tryz.underlying126
  a222 := Tryz.isAgg126
  z222 := Tryz.sizeOf126
  v222 := Tryz.zeroValue126
  t228 := Tryz.underlying145
  a228 := Tryz.isAgg145
  z228 := Tryz.sizeOf145
  v228 := Tryz.zeroValue145
  t229 := Tryz.underlying146
  a229 := Tryz.isAgg146
  z229 := Tryz.sizeOf146
  v229 := Tryz.zeroValue146 }
def Tryz.lays194_ren : Go.Shelf.Ren := ⟨fun | 194 => 44 | n => n, fun | 31 => 25 | 9 => 9 | 3 => 3 | 4 => 4 | 0 => 0 | n => n, fun | n => n⟩
theorem Tryz.lays194 : Go.Proofs.Lays.n194 Tryz.prog Tryz.lays194_ren := {
  mixed := by kernel_rfl
  f194 := Tryz.func44.trans (congrArg some (by kernel_rfl))
  t0 := Tryz.underlying0
  a0 := Tryz.isAgg0
  z0 := Tryz.sizeOf0
  v0 := Tryz.zeroValue0
  t3 := Tryz.underlying3
  a3 := Tryz.isAgg3
  z3 := Tryz.sizeOf3
  v3 := Tryz.zeroValue3
  t4 := Tryz.underlying4
  a4 := Tryz.isAgg4
  z4 := Tryz.sizeOf4
  v4 := Tryz.zeroValue4
  t9 := Tryz.underlying9
  a9 := Tryz.isAgg9
  z9 := Tryz.sizeOf9
  v9 := Tryz.zeroValue9
  t31 := Tryz.underlying25
  a31 := Tryz.isAgg25
  z31 := Tryz.sizeOf25
  v31 := Tryz.zeroValue25 }
end Go.Proofs
/- The names of an expression's variables: the program's call Names. -/
namespace Go.Proofs.YteiacgpaocnofaaGreat
open Go.RowKit
theorem appS : AppTy 25 9 1 16 := appTy_of (.string ⟨#[]⟩) (by kernel_rfl) (by kernel_rfl) (by kernel_rfl) (by decide)
/-- The names of the variables, as they come. -/
def varN (l : List Ox) : List ByteArray := (l.filter fun x => x.t.k == 1).map (·.t.s)
theorem varN_next {l : List Ox} {k : Nat} {x : Ox} (hx : l[k]? = some x) : varN (l.take (k + 1)) = varN (l.take k) ++ (if (x.t.k == 1) = true then [x.t.s] else []) := by
  unfold varN
  rw [List.take_add_one, hx, List.filter_append, List.map_append]
  congr 1
  cases h : (x.t.k == 1) <;> simp [h]
theorem varN_len (l : List Ox) : (varN l).length ≤ l.length := by
  unfold varN
  rw [List.length_map]
  exact List.length_filter_le _ _
theorem varN_mem {l : List Ox} {s : ByteArray} : s ∈ varN l ↔ ∃ x ∈ l, x.t.k = 1 ∧ x.t.s = s := by
  unfold varN
  simp only [List.mem_map, List.mem_filter, beq_iff_eq]
  constructor
  · rintro ⟨x, ⟨h1, h2⟩, h3⟩; exact ⟨x, h1, h2, h3⟩
  · rintro ⟨x, h1, h2, h3⟩; exact ⟨x, ⟨h1, h2⟩, h3⟩
def sv1 (l : List ByteArray) : List Value := l.map .string
/-- So many of the operations are gone through. -/
structure NmS (w : World) (l : List Ox) (k : Nat) (v : Value) (wr : World) : Prop where
  row : wr.ownsRow (w.heap.size + 1) 9 1 v (varN (l.take k)).length (sv1 (varN (l.take k)))
  bel : Below w.heap.size w wr
  big : w.heap.size + 1 ≤ wr.heap.size
theorem NmS.ext {w wr w' : World} {l : List Ox} {k : Nat} {v : Value} (h : NmS w l k v wr) (he : Below wr.heap.size wr w') : NmS w l k v w' :=
  ⟨row_ext h.row he, Below.chain h.bel he, Nat.le_trans h.big he.size⟩
theorem NmS.skip {w wr : World} {l : List Ox} {k : Nat} {v : Value} {x : Ox} (h : NmS w l k v wr) (hx : l[k]? = some x) (hn : (x.t.k == 1) = false) : NmS w l (k + 1) v wr := by
  have e : varN (l.take (k + 1)) = varN (l.take k) := by rw [varN_next hx, hn]; simp
  exact ⟨by rw [e]; exact h.row, h.bel, h.big⟩
theorem NmS.put {w wr w' : World} {l : List Ox} {k : Nat} {v v' : Value} {x : Ox} (h : NmS w l k v wr) (hx : l[k]? = some x) (hn : (x.t.k == 1) = true)
    (ho : w'.ownsRow (w.heap.size + 1) 9 1 v' ((varN (l.take k)).length + 1) (sv1 (varN (l.take k)) ++ [.string x.t.s])) (hg : wr.grownBy w' v.ownBlock) : NmS w l (k + 1) v' w' := by
  have hX : ∀ g, v.ownBlock = some g → w.heap.size + 1 ≤ g := fun g hg => (h.row.lt g hg).1
  refine ⟨?_, below_grow h.bel hg (fun g hg => by have := hX g hg; omega) h.bel.size, Nat.le_trans h.big hg.size⟩
  have e : varN (l.take (k + 1)) = varN (l.take k) ++ [x.t.s] := by rw [varN_next hx, hn]; rfl
  rw [e, List.length_append]
  unfold sv1 at ho ⊢
  rw [List.map_append]
  exact ho
/-- The names, rising, each once. -/
def namesL (vs : List ByteArray) : List (List UInt8) := Lib.compact ((vs.map (·.data.toList)).mergeSort fun x y => decide (x ≤ y))
theorem compact_mem {α : Type} [Inhabited α] [DecidableEq α] (zs : List α) (s : α) : s ∈ Lib.compact zs ↔ s ∈ zs := by
  have key : ∀ m, m ≤ zs.length → (s ∈ Lib.compactUpTo zs.toArray m ↔ s ∈ zs.take m) := by
    intro m
    induction m with
    | zero => intro _; simp [Lib.compactUpTo]
    | succ m ih =>
      intro hm
      have hml : m < zs.length := by omega
      have hget : zs.toArray[m]! = zs[m] := by simp [hml]
      rw [Lib.compactUpTo_succ, List.mem_append, ih (by omega), List.take_add_one, List.mem_append, List.getElem?_eq_getElem hml]
      by_cases hk : Lib.keeps zs.toArray m = true
      · rw [if_pos hk, hget]; simp
      · rw [if_neg hk]
        have hm0 : m ≠ 0 := fun e => hk (Lib.keeps_lt_one _ _ (by omega))
        have heq : zs[m] = zs[m - 1]'(by omega) := by
          apply Decidable.byContradiction
          intro hne
          apply hk
          apply Lib.keeps_pos
          have h1 : zs.toArray[m - 1]! = zs[m - 1]'(by omega) := by simp [show m - 1 < zs.length by omega]
          rw [hget, h1]
          exact hne
        constructor
        · rintro (h | h)
          · exact .inl h
          · simp at h
        · rintro (h | h)
          · exact .inl h
          · left
            have hs : s = zs[m] := by simpa using h
            rw [hs, heq]
            exact List.mem_of_getElem? (i := m - 1) (by rw [List.getElem?_take, if_pos (by omega), List.getElem?_eq_getElem])
  have := key zs.length (Nat.le_refl _)
  rw [List.take_length] at this
  exact this
theorem namesL_mem {vs : List ByteArray} {b : List UInt8} : b ∈ namesL vs ↔ b ∈ vs.map (·.data.toList) := by
  unfold namesL
  rw [compact_mem, List.mem_mergeSort]
theorem namesL_one (s : ByteArray) : namesL [s] = [s.data.toList] := by
  unfold namesL
  simp [Lib.compact, Lib.compactUpTo, Lib.keeps]
def baL (l : List (List UInt8)) : List ByteArray := l.map fun b => ⟨b.toArray⟩
theorem ba_id (s : ByteArray) : (⟨s.data.toList.toArray⟩ : ByteArray) = s := by simp
theorem str_one (s : ByteArray) : ∀ u ∈ [Value.string s], u.oneCell' = true := fun u hu => by
  simp at hu; subst hu; rfl
theorem str_news {W : World} {g : Nat} {s : ByteArray} (h : W.heap[g]? = some (.cells #[.string s] 9 (0, 0))) : ∀ j u, [Value.string s][j]? = some u → W.cell? (Addr.add ⟨g, 0, none⟩ j) = some u := fun j u hu => by
  rw [Addr.add_mid, Nat.zero_add, cell_of_row _ _ _ _ _ _ h]
  simpa using hu
open Go.Sort in
theorem enc_s (s : ByteArray) : encStr s.data.toList = .string s := by simp [encStr]
open Go.Sort in
theorem sv1_enc (vs : List ByteArray) : sv1 vs = (vs.map (·.data.toList)).map encStr := by
  unfold sv1
  rw [List.map_map]
  apply List.map_congr_left
  intro s _
  exact (enc_s s).symm
open Go.Sort in
theorem sort_own {w : World} {B n : Nat} {v : Value} {ss : List (List UInt8)} (h : w.ownsRow B 9 1 v n (ss.map encStr)) (hn : n = ss.length) (hs : n ≤ 1000) :
    Calls Tryz.prog 43 #[v] w fun e w' => e = .returned (.tuple #[]) ∧ w'.ownsRow B 9 1 v n ((ss.mergeSort fun x y => decide (x ≤ y)).map encStr) ∧ w.grownBy w' v.ownBlock := by
  rcases h.2 with ⟨rfl, h0⟩ | ⟨q, cap, cur, rfl, hb, hr, hnc, hm, hcs, ht⟩
  · subst h0
    have e0 : ss = [] := List.eq_nil_of_length_eq_zero hn.symm
    subst e0
    have hC : Calls Tryz.prog 43 #[.slice none 0 0] w fun e w' => e = .returned (.tuple #[]) ∧ w' = w := Any.slices_Sort_string_none Tryz.lays190 none 0 w
    refine hC.mono ?_
    rintro e w' ⟨he, rfl⟩
    exact ⟨he, by simpa using h, ⟨rfl, rfl, rfl, Nat.le_refl _, fun _ _ _ => rfl⟩⟩
  · subst hn
    have hql := (Array.getElem?_eq_some_iff.1 hr).1
    rw [Nat.mul_one] at ht
    have hC : Calls Tryz.prog 43 #[.slice (some ⟨q, 0, none⟩) ss.length cap] w fun e w' => e = .returned (.tuple #[]) ∧ ∃ n os, w' = grow (putRow encStr (Sort.ahead w n) q 0 (ss.mergeSort fun x y => decide (x ≤ y)).toArray) os := Any.slices_Sort_string Tryz.lays190 q 0 cap ss w (holds_of_block hr ht) hql (by omega)
    refine hC.mono ?_
    rintro e w' ⟨he, n, os, rfl⟩
    exact ⟨he, ownsRow_sorted (by simp) hb hr hnc hm hcs, grownBy_sorted _⟩
open Go.Sort in
theorem compact_own {w : World} {B n : Nat} {v : Value} {ss : List (List UInt8)} (h : w.ownsRow B 9 1 v n (ss.map encStr)) (hn : n = ss.length) (hs : n ≤ 1000) (hz : ∀ b ∈ ss, b.length ≤ 9223372036854775807) :
    Calls Tryz.prog 44 #[v] w fun e w' => (∃ a c, e = .returned (.slice a (Lib.compact ss).length c) ∧ NAt w' (baL (Lib.compact ss)) a c) ∧ w.grownBy w' v.ownBlock := by
  rcases h.2 with ⟨rfl, h0⟩ | ⟨q, cap, cur, rfl, hb, hr, hnc, hm, hcs, ht⟩
  · subst h0
    have e0 : ss = [] := List.eq_nil_of_length_eq_zero hn.symm
    subst e0
    have hC : Calls Tryz.prog 44 #[.slice none 0 0] w fun e w' => e = .returned (.slice none 0 0) ∧ w' = w := Any.slices_Compact_string_empty Tryz.lays194 none 0 w
    refine hC.mono ?_
    rintro e w' ⟨he, rfl⟩
    exact ⟨⟨none, 0, he, Nat.le_refl _, by decide, 0, 0, fun h => absurd rfl h, fun i s h => by simp [baL, Lib.compact, Lib.compactUpTo] at h⟩, ⟨rfl, rfl, rfl, Nat.le_refl _, fun _ _ _ => rfl⟩⟩
  · subst hn
    have hql := (Array.getElem?_eq_some_iff.1 hr).1
    rw [Nat.mul_one] at ht
    have hmx : ss.length ≤ 9223372036854775807 := by omega
    have hC : Calls Tryz.prog 44 #[.slice (some ⟨q, 0, none⟩) ss.length cap] w fun e w' => e = .returned (.slice (some ⟨q, 0, none⟩) (Lib.compact ss).length cap) ∧ ∃ r, w' = putRow encStr (Sort.ahead w r) q 0 (Lib.compact ss ++ List.replicate (ss.length - (Lib.compact ss).length) []).toArray := Any.slices_Compact_string Tryz.lays194 q 0 cap ss w (holds_of_block hr ht) hmx hnc
    refine hC.mono ?_
    rintro e w' ⟨he, r, rfl⟩
    have hle : (Lib.compact ss).length ≤ ss.length := by
      unfold Lib.compact Lib.compactUpTo
      rw [List.length_map]
      exact Nat.le_trans (List.length_filter_le _ _) (by simp)
    have hlen : (Lib.compact ss ++ List.replicate (ss.length - (Lib.compact ss).length) []).length = ss.length := by rw [List.length_append, List.length_replicate]; omega
    have hgr := grownBy_sorted (w := w) (g := q) (n := r) (os := #[]) (Lib.compact ss ++ List.replicate (ss.length - (Lib.compact ss).length) []).toArray
    have hw := heap_sorted (w := w) (g := q) (n := r) (os := #[]) (Lib.compact ss ++ List.replicate (ss.length - (Lib.compact ss).length) []).toArray hr
    rw [grow_empty] at hgr hw
    have htk := take_putCells cur (Lib.compact ss ++ List.replicate (ss.length - (Lib.compact ss).length) []) (by rw [hlen, hcs]; omega)
    refine ⟨⟨some ⟨q, 0, none⟩, cap, he, ?_⟩, hgr⟩
    have hbl : (baL (Lib.compact ss)).length = (Lib.compact ss).length := by unfold baL; rw [List.length_map]
    refine ⟨by rw [hbl]; omega, by unfold maxLen at hm; omega, q, 0, fun _ => ⟨rfl, (Array.getElem?_eq_some_iff.1 hw).1⟩, fun i s his => ?_⟩
    unfold baL at his
    rw [List.getElem?_map] at his
    obtain ⟨b, hb1, rfl⟩ := Option.map_eq_some_iff.1 his
    have hil := (List.getElem?_eq_some_iff.1 hb1).1
    constructor
    · rw [Nat.zero_add, cell_of_row _ _ _ _ _ _ hw]
      have h1 : ((putCells encStr 0 (Lib.compact ss ++ List.replicate (ss.length - (Lib.compact ss).length) []).toArray cur).toList.take (Lib.compact ss ++ List.replicate (ss.length - (Lib.compact ss).length) []).length)[i]? = some (encStr b) := by
        rw [htk, List.getElem?_map, List.getElem?_append_left hil, hb1]; rfl
      rw [List.getElem?_take, if_pos (by rw [hlen]; omega)] at h1
      rw [Array.getElem?_toList] at h1
      rw [h1]
    · have := hz b ((compact_mem ss b).1 (List.mem_of_getElem? hb1))
      show b.toArray.size ≤ _
      rw [List.size_toArray]
      exact this
def NamesA (l : List Ox) (w : World) (e : Ending) (w' : World) : Prop := ∃ N a c, e = .returned (.slice a N.length c) ∧ NAt w' N a c ∧ N = (if mayE l = true then baL (namesL (varN l)) else []) ∧ Below w.heap.size w w'
set_option maxRecDepth 100000 in
set_option maxHeartbeats 8000000 in
theorem Names_any {l : List Ox} {a : Option Addr} {c : Nat} {w : World} (h : OAt w l a c) : Calls Tryz.prog 24 #[.agg #[.slice a l.length c]] w (NamesA l w) := by
  have bA := alloc_below w (.cells #[.slice a l.length c] 24)
  have rA := heap_alloc_last w (.cells #[.slice a l.length c] 24)
  have q0 := cell_of_row _ _ 0 _ _ _ rA
  simp only [List.getElem?_toArray, List.getElem?_cons_zero] at q0
  obtain ⟨M, hMM⟩ : ∃ v, mayE l = v := ⟨_, rfl⟩
  have HC := hide (show Calls Tryz.prog 18 #[.agg #[.slice a l.length c]] (w.alloc (.cells #[.slice a l.length c] 24)) (Ans M _) from by rw [← hMM]; exact EMay_any (h.ext bA))
  have HM := hide hMM
  have HX := hide (And.intro bA (And.intro rA h))
  clear bA rA h hMM
  go_enter Tryz.func24, Tryz.ntmps24
  go_wp2_with fail
  refine HC.out.mono ?_
  rintro e_ w1 ⟨rfl, b1⟩
  have HB1 := hide (Below.chain HX.out.1 b1)
  have R1 := Below.heap b1 (Array.getElem?_eq_some_iff.1 HX.out.2.1).1 HX.out.2.1
  have HR1 := hide (Array.getElem?_eq_some_iff.1 R1).1
  have q1 := cell_of_row _ _ 0 _ _ _ R1
  simp only [List.getElem?_toArray, List.getElem?_cons_zero] at q1
  clear b1 HC q0 R1
  cases M with
  | false =>
    go_wp2
    go_ret
    exact ⟨[], none, 0, rfl, ⟨Nat.le_refl _, by decide, 0, 0, fun h => absurd rfl h, fun i s h => by simp at h⟩, by rw [HM.out]; rfl, HB1.out⟩
  | true =>
  have hl32 : l.length ≤ 32 := (may_hg HM.out).1
  go_wp2
  have HN0 := hide (show NmS w l 0 (.slice none 0 0) w1 from ⟨World.ownsRow_nil _ _ _ _, HB1.out, HR1.out⟩)
  clear q1
  go_loopw [12, 3] (fun j s wr => ∃ k : Nat, k ≤ l.length ∧ j = .int .i64 (k : Int) ∧ NmS w l k s wr) (fun j _ _ => l.length - (intOf j).toNat)
  case atStart => exact ⟨0, Nat.zero_le _, rfl, HN0.out⟩
  case round =>
    obtain ⟨k, hk, rfl, hS⟩ := hrel
    by_cases hlt : k < l.length
    · obtain ⟨x, hx⟩ : ∃ x, l[k]? = some x := ⟨_, List.getElem?_eq_getElem hlt⟩
      obtain ⟨g, o, hao, hbb, hcs⟩ := HX.out.2.2.read (by omega)
      subst hao
      obtain ⟨xa, xc, hxt, hF, hc7⟩ := hcs k x hx
      obtain ⟨p0, p1, p2, p3, p4, p5, p6⟩ := hc7 wr hS.bel
      have hix := fun w_ => ix_ops w_ g o l.length c k hlt
      have bB := alloc_below wr (.cells (ovC x xa xc) 48)
      have SB := hS.ext bB
      have SY := SB.ext (alloc_below _ (.cells #[.string x.t.s] 9))
      have HS := hide (And.intro hS (And.intro SB (And.intro SY hx)))
      have o1 := SY.row
      have o2 := SY.big
      have hfew : (varN (l.take k)).length ≤ 32 := Nat.le_trans (varN_len _) (by rw [List.length_take]; omega)
      clear hcs hc7 hxt hF hx hS bB SB SY
      cases hk1 : (x.t.k == 1) with
      | true =>
        have HK := hide hk1
        go_wp2_with (at_builtin; refine wpList_append_r appS rfl (.tmp 20) (.tmp 24) rfl (base := w.heap.size + 1) (n := (varN (l.take k)).length) (xs := sv1 (varN (l.take k))) o1 (ad := ⟨_, 0, none⟩) (m := 1) (c := 1) (news := [.string x.t.s]) rfl rfl (str_news (box2 wr (ovC x xa xc) #[.string x.t.s] 48 9).2.1) (str_one x.t.s) (by unfold maxLen; omega) (by omega) o2 ?_)
        intro v5 w5 o5 g5
        have HN := hide (HS.out.2.2.1.put HS.out.2.2.2 HK.out o5 g5)
        clear o5 g5 o1 o2
        go_wp2
        go_roundw
        case rel => exact ⟨k + 1, by omega, by go_num, HN.out⟩
        case measure => simp [intOf]; omega
      | false =>
        have HN := hide (HS.out.2.1.skip HS.out.2.2.2 hk1)
        clear o1 o2
        go_wp2
        go_roundw
        case rel => exact ⟨k + 1, by omega, by go_num, HN.out⟩
        case measure => simp [intOf]; omega
    · obtain rfl : k = l.length := by omega
      have hrow := hS.row
      rw [List.take_length, sv1_enc] at hrow
      have hvl := varN_len l
      have HN := hide (And.intro hS.bel (And.intro hS.big hrow))
      have HSo := hide (sort_own hrow (by simp) (by omega))
      clear hrow hS
      go_wp2_with fail
      refine HSo.out.mono ?_
      rintro e_ w3 ⟨rfl, o3, g3⟩
      have hX := fun g hg => (HN.out.2.2.lt g hg).1
      have b3 := below_grow HN.out.1 g3 (fun g hg => by have := hX g hg; omega) HN.out.1.size
      have hbig3 := Nat.le_trans HN.out.2.1 g3.size
      have HCo := hide (compact_own o3 (by simp) (by omega) (fun b hb => by
        rw [List.mem_mergeSort] at hb
        obtain ⟨s, hs, rfl⟩ := List.mem_map.1 hb
        obtain ⟨x, hx, _, rfl⟩ := varN_mem.1 hs
        obtain ⟨i, hi⟩ := List.mem_iff_getElem?.1 hx
        obtain ⟨_, _, _, _, _, _, _, hc⟩ := HX.out.2.2
        have := (hc i x hi).2.1.fits.2.2.1
        rw [Array.length_toList]
        exact this))
      have H3 := hide (And.intro b3 hX)
      clear o3 g3 b3 hbig3 hX
      go_wp2_with fail
      refine HCo.out.mono ?_
      rintro e_ w4 ⟨⟨a4, c4, rfl, hN⟩, g4⟩
      have b4 := below_grow H3.out.1 g4 (fun g hg => by have := H3.out.2 g hg; omega) H3.out.1.size
      have H4 := hide (And.intro b4 hN)
      have hbl : (baL (namesL (varN l))).length = (namesL (varN l)).length := by unfold baL; rw [List.length_map]
      clear b4 hN g4
      go_wp2
      go_ret
      refine ⟨baL (namesL (varN l)), a4, c4, ?_, H4.out.2, by rw [HM.out]; rfl, H4.out.1⟩
      rw [hbl]
      rfl
end Go.Proofs.YteiacgpaocnofaaGreat
/- Which errors there are: a name that is bound to nothing is one of the expression's. -/
namespace Go.Proofs.YteiacgpaocnofaaGreat
open Go.RowKit
def NeP (p : Tm × Int) : Prop := p.2 ≠ 8
theorem neP_ite {p : Prop} [Decidable p] {x y : Tm × Int} (h1 : NeP x) (h2 : NeP y) : NeP (if p then x else y) := by
  by_cases h : p
  · rw [if_pos h]; exact h1
  · rw [if_neg h]; exact h2
theorem numE_ne (z : Int) : numE z ≠ 8 := by unfold numE; split <;> decide
theorem ne_num (z : Int) : NeP (numR z, numE z) := numE_ne z
theorem ne_zero (t : Tm) : NeP (t, 0) := by show (0 : Int) ≠ 8; decide
theorem ne_lit (t : Tm) {e : Int} (h : e ≠ 8) : NeP (t, e) := h
theorem un_ne (c : Int) (a : Tm) : NeP (unF c a) := by
  unfold unF
  repeat' refine neP_ite ?_ ?_
  all_goals first | exact ne_zero _ | exact ne_num _ | exact ne_lit _ (by decide)
theorem opF_ne (c : Int) (a b : Tm) : NeP (opF c a b) := by
  unfold opF addF divF
  repeat' refine neP_ite ?_ ?_
  all_goals first | exact ne_zero _ | exact ne_num _ | exact ne_lit _ (by decide)
theorem set_ne {l : List Tm} {r : Tm} {E : Int} (h : SetR l r E) : E ≠ 8 := by
  cases hf : fitB l with
  | true => have := (h.1 hf).1; omega
  | false => have := (h.2 hf).1; omega
theorem bin_ne {c : Int} {a b r : Tm} {E : Int} (h : BinR c a b r E) : E ≠ 8 := by
  unfold BinR at h
  split at h
  · split at h
    · unfold opR at h
      split at h
      · unfold MatR at h
        split at h
        · omega
        · omega
      · split at h
        · exact set_ne h
        · split at h
          · cases hl : likeS a b with
            | false => have := (h.1 hl).2; omega
            | true =>
              by_cases h16 : 16 < (a.l ++ sel a false b.l).length
              · have := (h.2.1 hl h16).2; omega
              · exact set_ne (h.2.2 hl (by omega))
          · have e : E = (opF c a b).2 := congrArg Prod.snd h
            rw [e]; exact opF_ne c a b
    · omega
  · omega
theorem step_name {lk : ByteArray → Option Tm} {x : Ox} {r r1 : List Ox} {S S1 : List Tm} (h : stepR lk x r S r1 S1 8) : x.t.k = 1 ∧ lk x.t.s = none := by
  unfold stepR at h
  by_cases c1 : x.kd = 1
  · rw [if_pos c1] at h
    have h := h.2
    by_cases cv : x.t.k = 1
    · rw [if_pos cv] at h
      cases hl : lk x.t.s with
      | none => exact ⟨cv, rfl⟩
      | some y => rw [hl] at h; exact absurd h.2 (by decide)
    · rw [if_neg cv] at h; exact absurd h.2 (by decide)
  rw [if_neg c1] at h
  by_cases c2 : x.kd = 2
  · rw [if_pos c2] at h
    obtain ⟨_, a, S0, _, h2, _⟩ := h
    exact absurd h2.symm (un_ne x.cd a)
  rw [if_neg c2] at h
  by_cases c3 : x.kd = 3
  · rw [if_pos c3] at h
    obtain ⟨_, b, a, S0, t, _, h2, _⟩ := h
    exact absurd rfl (bin_ne h2)
  rw [if_neg c3] at h
  obtain ⟨a, S0, _, h⟩ := h
  by_cases c6 : a.k ≠ 6
  · rw [if_pos c6] at h; exact absurd h.1 (by decide)
  · rw [if_neg c6] at h; exact absurd h.1 (by decide)
theorem step_sub {lk : ByteArray → Option Tm} {x : Ox} {r r1 : List Ox} {S S1 : List Tm} {e : Int} (h : stepR lk x r S r1 S1 e) : ∀ y ∈ r1, y ∈ r := by
  unfold stepR at h
  by_cases c1 : x.kd = 1
  · rw [if_pos c1] at h; rw [h.1]; exact fun y hy => hy
  rw [if_neg c1] at h
  by_cases c2 : x.kd = 2
  · rw [if_pos c2] at h; rw [h.1]; exact fun y hy => hy
  rw [if_neg c2] at h
  by_cases c3 : x.kd = 3
  · rw [if_pos c3] at h; rw [h.1]; exact fun y hy => hy
  rw [if_neg c3] at h
  obtain ⟨a, S0, _, h⟩ := h
  by_cases c6 : a.k ≠ 6
  · rw [if_pos c6] at h; rw [h.2.1]; exact fun y hy => hy
  · rw [if_neg c6] at h
    have h := h.2
    split at h
    · rw [h.1]; exact fun y hy => List.mem_of_mem_drop hy
    · rw [h.1]; exact fun y hy => hy
theorem ev_name {lk : ByteArray → Option Tm} {l : List Ox} {S S1 : List Tm} {E : Int} (h : EvR lk l S S1 E) (hE : E = 8) : ∃ x ∈ l, x.t.k = 1 ∧ lk x.t.s = none := by
  induction h with
  | nil S => exact absurd hE (by decide)
  | err h he =>
    subst hE
    exact ⟨_, List.mem_cons_self, step_name h⟩
  | go h t ih =>
    obtain ⟨x, hx, h2⟩ := ih hE
    exact ⟨x, List.mem_cons_of_mem _ (step_sub h x hx), h2⟩
/-- A name is missing: it is one of the names, and nothing is bound to it. -/
theorem eval_name {nl : List ByteArray} {tl : List Tm} {l : List Ox} {r : Tm} (h : EvalR nl tl l r 8) : ∃ s ∈ baL (namesL (varN l)), lookF nl tl s = none := by
  unfold EvalR at h
  by_cases c : mayE l = true ∧ mbB nl tl = true
  · rw [if_pos c] at h
    obtain ⟨S, h1, _⟩ := h
    obtain ⟨x, hx, hk, hl⟩ := ev_name h1 rfl
    refine ⟨x.t.s, ?_, by unfold lookF; rw [if_pos c.2]; exact hl⟩
    unfold baL
    refine List.mem_map.2 ⟨x.t.s.data.toList, namesL_mem.2 (List.mem_map.2 ⟨x.t.s, varN_mem.2 ⟨x, hx, hk, rfl⟩, rfl⟩), ba_id _⟩
  · rw [if_neg c] at h
    exact absurd h.2 (by decide)
theorem eval_both {nl : List ByteArray} {tl : List Tm} {l : List Ox} {r : Tm} (h : EvalR nl tl l r 0) : mayE l = true ∧ mbB nl tl = true := by
  unfold EvalR at h
  by_cases c : mayE l = true ∧ mbB nl tl = true
  · exact c
  · rw [if_neg c] at h; exact absurd h.2 (by decide)
theorem eval_arg {nl : List ByteArray} {tl : List Tm} {l : List Ox} {r : Tm} {E : Int} (h : EvalR nl tl l r E) (c : ¬ (mayE l = true ∧ mbB nl tl = true)) : E = 1 := by
  unfold EvalR at h
  rw [if_neg c] at h; exact h.2
end Go.Proofs.YteiacgpaocnofaaGreat
