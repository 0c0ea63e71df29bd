/- The program's call find: is a text known, and by which number. -/
import Derived.Test.YtcmalffpahkleaaDoorSy0
namespace Go.Proofs.YtcmalffpahkleaaDoor
open Go.RowKit
theorem toList_inj {a b : ByteArray} (h : a.toList = b.toList) : a = b := by
  have h1 : a.data.toList = b.data.toList := by simpa [ByteArray.toList_eq] using h
  cases a; cases b
  simp only [ByteArray.mk.injEq]
  exact Array.toList_inj.1 h1
theorem eq_iff {a b : ByteArray} : (a.toList == b.toList) = true ↔ a = b := by
  constructor
  · intro h; exact toList_inj (by simpa using h)
  · intro h; subst h; simp
theorem eq_dec (a b : ByteArray) : (a.toList == b.toList) = decide (a = b) := by
  by_cases h : a = b
  · rw [decide_eq_true h]; exact eq_iff.2 h
  · rw [decide_eq_false h]
    cases hc : (a.toList == b.toList) with
    | false => rfl
    | true => exact absurd (eq_iff.1 hc) h
/-- An element of an array that is a value. -/
theorem run_index_arr {P : Program} {t e : TypeId} {len : Nat} {d : TypeDesc} (hu : P.underlying t = some (.array len e)) (he : P.underlying e = some d) (hd : d.isRow = false) (hs : (P.info? e).map (·.size) = some 1)
    (cs : Array Value) (i : Nat) (hi : i < len) (v : Value) (hv : cs[i]? = some v) (w : World) : (Instr.index t (.agg cs) (.int .i64 (i : Int))).run P w = .ok v w := by
  cases hq : P.info? e with
  | none => simp [hq] at hs
  | some ie =>
    have h1 : ie.size = 1 := by simpa [hq] using hs
    have hagg : (isAgg e).run P w = .ok false w := by
      unfold isAgg
      rw [Sem.run_bind, run_underlying he w]
      cases d <;> simp_all
    have h2 : ¬ len ≤ i := by omega
    simp [Instr.index, asIntOf, run_underlying hu, part, hagg, sizeOf, typeInfo, hq, h1, hv, h2]
theorem kn_ix (k : Nat) (x : ByteArray) (hx : kno[k]? = some x) {L : List Value} (hL : kno.map Value.string = L) (w : World) : (Instr.index 46 (.agg L.toArray) (.int .i64 (k : Int))).run Tryd.prog w = .ok (.string x) w :=
  run_index_arr (len := 16) (e := 9) (d := .string) (by kernel_rfl) (by kernel_rfl) rfl (by kernel_rfl) L.toArray k (by have := (List.getElem?_eq_some_iff.1 hx).1; rw [kno_len] at this; exact this) (.string x) (by rw [List.getElem?_toArray, ← hL, List.getElem?_map, hx]; rfl) w
theorem kn_range {w : World} (h : KnAt w) : w.rangeAt 0 0 (kno.map Value.string) := by
  intro j v hv
  rw [List.getElem?_map] at hv
  obtain ⟨x, hx, rfl⟩ := Option.map_eq_some_iff.1 hv
  rw [Nat.zero_add]
  exact h.2 j x hx
theorem key_str {s : ByteArray} (h : s.size ≤ maxLen) : keyOf Tryd.prog 9 (.string s) = some (ky s)  := WideMaps.keyOf_string_mk Tryd.underlying9 h
set_option maxRecDepth 100000 in
theorem find_known {w : World} {s : ByteArray} {p : Option Addr} {i : Nat} (hk : KnAt w) (h : place kno s = some i) : Calls Tryd.prog 24 #[.pointer p, .string s] w fun e w' => e = .returned (.tuple #[.int .i64 (i : Int), .bool true]) ∧ w' = w := by
  have hr := kn_range hk
  obtain ⟨L, hL⟩ : ∃ L, kno.map Value.string = L := ⟨_, rfl⟩
  rw [hL] at hr
  have hn : L.length = 16 := by rw [← hL]; rfl
  have hr := hide hr
  have hn := hide hn
  have hL := hide hL
  clear hk
  have hP := hide (place_some.1 h)
  have hi : i < 16 := place_lt h
  clear h
  go_enter Tryd.func24, Tryd.ntmps24
  go_wp2_with (refine wpList_load_mid rfl 46 (.global 0) rfl 0 0 rfl L (.array 16 9) hr.out (by kernel_rfl) rfl (by rw [hn.out]; kernel_rfl) ?_)
  go_loopw [11] (fun v wr => ∃ k : Nat, k ≤ i ∧ v = .int .i64 (k : Int) ∧ wr = w) (fun v _ => 16 - (intOf v).toNat)
  case atStart => exact ⟨0, Nat.zero_le _, rfl, rfl⟩
  case round =>
    obtain ⟨k, hk, rfl, rfl⟩ := hrel
    have hlt : decide ((k : Int) < 16) = true := decide_eq_true (by omega)
    obtain ⟨x, hx⟩ : ∃ x, kno[k]? = some x := ⟨_, List.getElem?_eq_getElem (by rw [kno_len]; omega)⟩
    have hix := kn_ix k x hx hL.out
    have he := eq_dec x s
    by_cases hki : k = i
    · have hxs : x = s := by have h1 := hP.out.1; rw [← hki, hx] at h1; injection h1
      rw [decide_eq_true hxs] at he
      have HK := hide hki
      clear hki hxs
      go_wp2
      go_ret2
      rw [HK.out]
      exact ⟨rfl, rfl⟩
    · have hxs : x ≠ s := fun e => hP.out.2 k (by omega) (by rw [hx, e])
      rw [decide_eq_false hxs] at he
      clear hxs
      go_wp2
      exact ⟨⟨k + 1, by omega, by simp, trivial⟩, by simp only [intOf]; omega⟩
/-- What the map tells of a text. -/
def mpB (l : List ByteArray) (s : ByteArray) : Int × Bool :=
  match place l s with
  | some i => (1024 + (i : Int), true)
  | none => (0, false)
theorem mp_look {w : World} {mv : Option Nat} {l : List ByteArray} (h : MpAt w mv l) {s : ByteArray} (hs : s.size ≤ maxLen) : (Instr.lookup 43 (.map mv) (.string s) true).run Tryd.prog w = .ok (.tuple #[.int .i64 (mpB l s).1, .bool (mpB l s).2]) w := by
  have hz : (zeroValue 3).run Tryd.prog w = .ok (.int .i64 0) w := by kernel_rfl
  rcases h with ⟨rfl, rfl⟩ | ⟨mb, D, rfl, h1, h2⟩
  · exact Maps.look_nil true keyed (by kernel_rfl) hz (key_str hs)
  · obtain ⟨v, ps, hr, hv⟩ := h1.look_ok (t := 43) keyed (by kernel_rfl) hz (plainElem_int (a := 0) Tryd.underlying3 (by decide)) (key_str hs)
    obtain ⟨c, rfl, hc, _⟩ := plainElem_int_inv Tryd.underlying3 hv
    rw [hr]
    obtain ⟨k1, k2⟩ := h2 s
    unfold mpB
    cases hp : place l s with
    | some i =>
      have hat := k2 i hp
      simp only [Prod.mk.injEq] at hc
      rw [hat] at hc
      have hci := hc.1
      injection hci with hci
      injection hci with _ hci
      rw [k1, hp, ← hci]
      rfl
    | none =>
      rw [k1, hp]
      have hat := Maps.atKey_of_not_has (D := D) (k := ky s) (by rw [k1, hp]; rfl) (.lit (.int .i64 0))
      simp only [Prod.mk.injEq] at hc
      rw [hat] at hc
      have hci := hc.1
      injection hci with hci
      injection hci with _ hci
      rw [← hci]
      rfl
set_option maxRecDepth 100000 in
theorem find_new {w : World} {s : ByteArray} {g : Nat} {v : Value} {mv : Option Nat} {l : List ByteArray} (hk : KnAt w) (hT : TbAt w g v mv l) (hs : s.size ≤ maxLen) (h : place kno s = none) : Calls Tryd.prog 24 #[.pointer (some ⟨g, 0, none⟩), .string s] w fun e w' => e = .returned (.tuple #[.int .i64 (mpB l s).1, .bool (mpB l s).2]) ∧ w' = w := by
  have hr := kn_range hk
  obtain ⟨L, hL⟩ : ∃ L, kno.map Value.string = L := ⟨_, rfl⟩
  rw [hL] at hr
  have hn : L.length = 16 := by rw [← hL]; rfl
  have hr := hide hr
  have hn := hide hn
  have hL := hide hL
  clear hk
  have hP := hide (place_none.1 h)
  clear h
  have hlook := mp_look hT.mp hs
  have hc := (row_reads hT.hd).1 1
  simp only [List.getElem?_toArray] at hc
  have hc : w.cell? ⟨g, 1, none⟩ = some (.map mv) := hc
  clear hs
  have hT := hide hT
  obtain ⟨X, hX⟩ : ∃ X, mpB l s = X := ⟨_, rfl⟩
  rw [hX] at hlook ⊢
  go_enter Tryd.func24, Tryd.ntmps24
  go_wp2_with (refine wpList_load_mid rfl 46 (.global 0) rfl 0 0 rfl L (.array 16 9) hr.out (by kernel_rfl) rfl (by rw [hn.out]; kernel_rfl) ?_)
  go_loopw [11] (fun v wr => ∃ k : Nat, k ≤ 16 ∧ v = .int .i64 (k : Int) ∧ wr = w) (fun v _ => 16 - (intOf v).toNat)
  case atStart => exact ⟨0, Nat.zero_le _, rfl, rfl⟩
  case round =>
    obtain ⟨k, hk, rfl, rfl⟩ := hrel
    by_cases hk16 : k < 16
    · have hlt : decide ((k : Int) < 16) = true := decide_eq_true (by omega)
      obtain ⟨x, hx⟩ : ∃ x, kno[k]? = some x := ⟨_, List.getElem?_eq_getElem (by rw [kno_len]; omega)⟩
      have hix := kn_ix k x hx hL.out
      have he := eq_dec x s
      have hxs : x ≠ s := fun e => hP.out (List.mem_iff_getElem?.2 ⟨k, by rw [hx, e]⟩)
      rw [decide_eq_false hxs] at he
      clear hxs hx
      go_wp2
      exact ⟨⟨k + 1, by omega, by simp, trivial⟩, by simp only [intOf]; omega⟩
    · have hlt : decide ((k : Int) < 16) = false := decide_eq_false (by omega)
      clear hk16 hk
      go_wp2
      go_ret2
      exact ⟨rfl, rfl⟩
/-- What find answers. -/
def fdV (l : List ByteArray) (s : ByteArray) : Value :=
  match fnd l s with
  | some n => .tuple #[.int .i64 (n : Int), .bool true]
  | none => .tuple #[.int .i64 0, .bool false]
theorem find_any {w : World} {s : ByteArray} {g : Nat} {v : Value} {mv : Option Nat} {l : List ByteArray} (hk : KnAt w) (hT : TbAt w g v mv l) (hs : s.size ≤ maxLen) : Calls Tryd.prog 24 #[.pointer (some ⟨g, 0, none⟩), .string s] w fun e w' => e = .returned (fdV l s) ∧ w' = w := by
  unfold fdV fnd
  cases hp : place kno s with
  | some i => exact find_known hk hp
  | none =>
    refine (find_new hk hT hs hp).mono ?_
    rintro e w' ⟨rfl, rfl⟩
    refine ⟨?_, rfl⟩
    unfold mpB
    cases hq : place l s with
    | some i => simp
    | none => rfl
end Go.Proofs.YtcmalffpahkleaaDoor
