/- What the rows of this seat list: the sixteen texts. -/
import Derived.Test.YtcmalffpahkleaaDoorSy0
import Derived.Lib.LaidTab
import Derived.Stop.LaidErr
import Derived.LaidSub
import Derived.OpenShut
namespace Go.Proofs.YtcmalffpahkleaaDoor
open Go.RowKit
def nmK : String := ((Rows.symbolNilRow.laid.map Prod.fst)[0]?).getD default
/-- An array of texts that reads so holds them, cell for cell. -/
theorem cells_of_texts {H : Type} {enc : TypeId × Value → H} {P : Program} {w : World} {base : Nat} {sp : Nat → Bool} {held : Bool} {fuel : Nat} {t e : TypeId} {n : Nat} {cs : List Value} {zs : List ByteArray} {p : List MemPlace}
    (ht : P.underlying t = some (.array n e)) (he : P.underlying e = some .string) (hce : P.cellsOf e = 1) (hct : P.cellsOf t = n)
    (h : DataW.trod enc P w base sp held fuel t cs = some (.agg (zs.map fun z => .lit (.string z.data.toList)), p)) : cs = zs.map Value.string := by
  cases fuel with
  | zero => simp [DataW.trod] at h
  | succ fuel =>
    simp only [DataW.trod, ht, hce, hct, Nat.mul_one] at h
    split at h
    · rename_i hl
      obtain ⟨xs, hm, hx⟩ := Option.map_eq_some_iff.1 h
      have hxs : xs.map (·.1) = zs.map fun z => (DataW.lit (.string z.data.toList) : DataW H) := by
        have := congrArg Prod.fst hx
        simpa using this
      have hxl : xs.length = n := by simpa using Lib.mapM_length hm
      have hzl : zs.length = n := by
        have := congrArg List.length hxs
        simp at this
        omega
      apply List.ext_getElem?
      intro i
      by_cases hi : i < n
      · obtain ⟨b, hb, hf⟩ := Lib.mapM_at hm i i (by simp [hi])
        obtain ⟨z, hc, rfl, _⟩ := DataW.trod_string he hf
        have h1 : cs[i]? = some (.string z) := by
          have := congrArg (·[0]?) hc
          simpa [List.getElem?_take, List.getElem?_drop] using this
        have h2 : (xs.map (·.1))[i]? = some (DataW.lit (.string z.data.toList) : DataW H) := by simp [hb]
        rw [hxs] at h2
        simp only [List.getElem?_map, Option.map_eq_some_iff, DataW.lit.injEq, Lit.string.injEq] at h2
        obtain ⟨z', hz', hzz⟩ := h2
        have : z' = z := by
          cases z; cases z'
          simp at hzz
          rw [hzz]
        rw [h1, List.getElem?_map, hz', this]
        rfl
      · rw [List.getElem?_eq_none (by omega), List.getElem?_eq_none (by simp; omega)]
    · cases h
theorem gK : Tryd.prog.globalNamed nmK = some 0 := by kernel_rfl
theorem kn_of {l : List (String × DataW Unit)} {W : World} (he : l.filter (fun x => x.1 == nmK) = [(nmK, .agg (kno.map fun z => .lit (.string z.data.toList)))]) (h : laidMet Tryd.prog l W) : KnAt W := by
  have h1 := laidMet.filter (fun x => x.1 == nmK) h
  rw [he] at h1
  obtain ⟨ps, ⟨g', t', cs, fuel, p, q, hg', ht', hvar, hd, _, _⟩, _⟩ := h1
  obtain rfl := Option.some.inj (gK.symm.trans hg')
  obtain rfl : 46 = t' := Option.some.inj ((by kernel_rfl : (Tryd.prog.globals[0]?).map (·.type) = some 46).symm.trans ht')
  have hcs := cells_of_texts (n := 16) (by kernel_rfl) Tryd.underlying9 (by kernel_rfl) (by kernel_rfl) hd
  have hcell : ∀ i x, kno[i]? = some x → W.cell? ⟨0, i, none⟩ = some (.string x) := fun i x hx => by
    rw [World.var?_cell gK hvar i, ← Array.getElem?_toList, hcs, List.getElem?_map, hx]
    rfl
  exact ⟨World.block_lt_of_cell? W _ (hcell 0 _ rfl), hcell⟩
/-- The texts as the initialiser lays them. -/
def k16a : Array Value := (kno.map Value.string).toArray
end Go.Proofs.YtcmalffpahkleaaDoor
