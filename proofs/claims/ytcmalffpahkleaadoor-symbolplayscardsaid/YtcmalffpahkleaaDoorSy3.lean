/- The program's calls New, Number, Text: what they answer, and the table behind them. -/
import Derived.Test.YtcmalffpahkleaaDoorSy2
namespace Go.Proofs.YtcmalffpahkleaaDoor
open Go.RowKit
/-- What Number answers. -/
def numV (l : List ByteArray) (s : ByteArray) : Value := .tuple #[.int .i64 (numF l s).1, .bool (numF l s).2.1]
/-- A table behind a call, of other blocks only if they are new. -/
def TbNew (w w' : World) (g : Nat) (v : Value) (mv : Option Nat) (l : List ByteArray) : Prop :=
  ∃ v' mv', TbAt w' g v' mv' l ∧ Kp (bls g v mv) w w' ∧ ∀ x ∈ bls g v' mv', x ∈ bls g v mv ∨ w.heap.size ≤ x
theorem TbNew.refl {w : World} {g : Nat} {v : Value} {mv : Option Nat} {l : List ByteArray} (h : TbAt w g v mv l) : TbNew w w g v mv l := ⟨v, mv, h, Kp.refl _ _, fun _ hx => .inl hx⟩
set_option maxRecDepth 100000 in
theorem New_any (w : World) : Calls Tryd.prog 9 #[] w fun e w' => ∃ g, e = .returned (.pointer (some ⟨g, 0, none⟩)) ∧ TbAt w' g (.slice none 0 0) none [] ∧ Below w.heap.size w w' ∧ w.heap.size ≤ g := by
  go_enter Tryd.func9, Tryd.ntmps9
  go_wp2
  go_ret
  exact ⟨w.heap.size, rfl, ⟨Own.nil, heap_alloc_new w _, World.ownsRow_nil _ _ _ _, .inl ⟨rfl, rfl⟩⟩, alloc_below _ _, Nat.le_refl _⟩
set_option maxRecDepth 100000 in
theorem Number_nil (s : ByteArray) (w : World) : Calls Tryd.prog 16 #[.pointer none, .string s] w fun e w' => e = .returned (.tuple #[.int .i64 0, .bool false]) ∧ w' = w := by
  go_enter Tryd.func16, Tryd.ntmps16
  go_wp2
  go_ret2
  exact ⟨rfl, rfl⟩
set_option maxRecDepth 100000 in
theorem Number_long {s : ByteArray} {p : Addr} {w : World} (h : 256 < s.size) : Calls Tryd.prog 16 #[.pointer (some p), .string s] w fun e w' => e = .returned (.tuple #[.int .i64 0, .bool false]) ∧ w' = w := by
  have hsz : decide ((256 : Int) < (s.size : Int)) = true := decide_eq_true (by omega)
  clear h
  go_enter Tryd.func16, Tryd.ntmps16
  go_wp2
  go_ret2
  exact ⟨rfl, rfl⟩
set_option maxRecDepth 100000 in
theorem Number_known {w : World} {s : ByteArray} {g n : Nat} {v : Value} {mv : Option Nat} {l : List ByteArray} (hk : KnAt w) (hT : TbAt w g v mv l) (h : s.size ≤ 256) (hf : fnd l s = some n) : Calls Tryd.prog 16 #[.pointer (some ⟨g, 0, none⟩), .string s] w fun e w' => e = .returned (.tuple #[.int .i64 (n : Int), .bool true]) ∧ w' = w := by
  have hsz : decide ((256 : Int) < (s.size : Int)) = false := decide_eq_false (by omega)
  have HF := find_any hk hT (s := s) (by unfold maxLen; omega)
  unfold fdV at HF
  rw [hf] at HF
  have HF := hide HF
  clear h hT hk hf
  go_enter Tryd.func16, Tryd.ntmps16
  go_wp2_with (go_at_call 24; refine HF.out.mono ?_; rintro e_ w_ ⟨rfl, rfl⟩)
  go_ret2
  exact ⟨rfl, rfl⟩
set_option maxRecDepth 100000 in
theorem Number_new {w : World} {s : ByteArray} {g : Nat} {v : Value} {mv : Option Nat} {l : List ByteArray} (hk : KnAt w) (hT : TbAt w g v mv l) (h : s.size ≤ 256) (hf : fnd l s = none) : Calls Tryd.prog 16 #[.pointer (some ⟨g, 0, none⟩), .string s] w fun e w' => e = .returned (numV l s) ∧ TbNew w w' g v mv (numF l s).2.2 := by
  have hsz : decide ((256 : Int) < (s.size : Int)) = false := decide_eq_false (by omega)
  have HF := find_any hk hT (s := s) (by unfold maxLen; omega)
  unfold fdV at HF
  rw [hf] at HF
  have HF := hide HF
  have HP : Hid (Calls Tryd.prog 25 #[.pointer (some ⟨g, 0, none⟩), .string s] w fun e w' => e = .returned (numV l s) ∧ TbNew w w' g v mv (numF l s).2.2) := by
    unfold numV numF
    rw [hf]
    simp only
    by_cases hl : l.length < 1000
    · rw [if_neg (by omega)]
      refine ⟨(put_room hT hl h hf).mono ?_⟩
      rintro e w' ⟨v', mv', rfl, h1, h2⟩
      exact ⟨rfl, v', mv', h1, h2⟩
    · rw [if_pos (by omega)]
      refine ⟨(put_full hT (by omega)).mono ?_⟩
      rintro e w' ⟨rfl, rfl⟩
      exact ⟨rfl, TbNew.refl hT⟩
  clear h hT hk hf
  unfold numV at HP ⊢
  obtain ⟨X, hX⟩ : ∃ X, (numF l s).1 = X := ⟨_, rfl⟩
  obtain ⟨Y, hY⟩ : ∃ Y, (numF l s).2.1 = Y := ⟨_, rfl⟩
  obtain ⟨Z, hZ⟩ : ∃ Z, (numF l s).2.2 = Z := ⟨_, rfl⟩
  rw [hX, hY, hZ] at HP ⊢
  clear hX hY hZ
  go_enter Tryd.func16, Tryd.ntmps16
  go_wp2_with (first | (go_at_call 24; refine HF.out.mono ?_; rintro e_ w_ ⟨rfl, rfl⟩) | (go_at_call 25; refine HP.out.mono ?_; rintro e_ w_ ⟨rfl, hN⟩))
  go_ret2
  exact ⟨rfl, hN⟩
theorem Number_any {w : World} (s : ByteArray) {g : Nat} {v : Value} {mv : Option Nat} {l : List ByteArray} (hk : KnAt w) (hT : TbAt w g v mv l) : Calls Tryd.prog 16 #[.pointer (some ⟨g, 0, none⟩), .string s] w fun e w' => e = .returned (numV l s) ∧ TbNew w w' g v mv (numF l s).2.2 := by
  by_cases h : 256 < s.size
  · have hf : fnd l s = none := by
      cases hc : fnd l s with
      | none => rfl
      | some n => have := (hT.own.known hc).1; omega
    have e : numF l s = (0, false, l) := by unfold numF; rw [hf]; simp only; rw [if_pos (.inl h)]
    unfold numV
    rw [e]
    refine (Number_long h).mono ?_
    rintro e_ w' ⟨rfl, rfl⟩
    exact ⟨rfl, TbNew.refl hT⟩
  · cases hf : fnd l s with
    | none => exact Number_new hk hT (by omega) hf
    | some n =>
      have e : numF l s = ((n : Int), true, l) := by unfold numF; rw [hf]
      unfold numV
      rw [e]
      refine (Number_known hk hT (by omega) hf).mono ?_
      rintro e_ w' ⟨rfl, rfl⟩
      exact ⟨rfl, TbNew.refl hT⟩
/-- What Text answers. -/
def txtV (l : List ByteArray) (n : Int) : Value :=
  match txtF l n with
  | some s => .tuple #[.string s, .bool true]
  | none => .tuple #[.string ⟨#[]⟩, .bool false]
set_option maxRecDepth 100000 in
theorem Text_nil (n : Int) (w : World) : Calls Tryd.prog 10 #[.pointer none, .int .i64 n] w fun e w' => e = .returned (.tuple #[.string ⟨#[]⟩, .bool false]) ∧ w' = w := by
  go_enter Tryd.func10, Tryd.ntmps10
  go_wp2
  go_ret2
  exact ⟨rfl, rfl⟩
theorem kn_ixa (w : World) (n : Nat) (h : n < 16) : (Instr.indexAt 46 (.pointer (some ⟨0, 0, none⟩)) (.int .i64 (n : Int))).run Tryd.prog w = .ok (.pointer (some ⟨0, n, none⟩)) w := by
  have h1 : decide ((n : Int) < 0) = false := decide_eq_false (by omega)
  have h2 : ¬ ((16 : Int) ≤ (n : Int)) := by omega
  go_simp
theorem ix_strs (w : World) (b n c k : Nat) (hk : k < n) : (Instr.indexAt 28 (.slice (some ⟨b, 0, none⟩) n c) (.int .i64 (k : Int))).run Tryd.prog w = .ok (.pointer (some ⟨b, k, none⟩)) w := by
  have h1 : decide ((k : Int) < 0) = false := decide_eq_false (by omega)
  have h2 : ¬ ((n : Int) ≤ (k : Int)) := by omega
  go_simp
set_option maxRecDepth 100000 in
theorem Text_any {w : World} {n : Int} {g : Nat} {v : Value} {mv : Option Nat} {l : List ByteArray} (hn : -9223372036854775808 ≤ n ∧ n ≤ 9223372036854775807) (hk : KnAt w) (hT : TbAt w g v mv l) : Calls Tryd.prog 10 #[.pointer (some ⟨g, 0, none⟩), .int .i64 n] w fun e w' => e = .returned (txtV l n) ∧ w' = w := by
  obtain ⟨a, c, rfl, hlc, hcm, hcell⟩ := row_slice hT.row
  have hc : w.cell? ⟨g, 0, none⟩ = some (.slice a l.length c) := (row_reads hT.hd).1 0
  have hH := hide (And.intro hT (And.intro hk (And.intro hlc (And.intro hcm (And.intro hcell hn)))))
  unfold txtV txtF
  by_cases h0 : n < 0
  · rw [if_pos h0]
    have d0 : decide (n < 0) = true := decide_eq_true h0
    clear hT hk hlc hcm hcell hn h0
    go_enter Tryd.func10, Tryd.ntmps10
    go_wp2
    go_ret2
    exact ⟨rfl, rfl⟩
  · rw [if_neg h0]
    have d0 : decide (n < 0) = false := decide_eq_false h0
    by_cases h16 : n < 16
    · rw [if_pos h16]
      have d16 : decide (n < 16) = true := decide_eq_true h16
      obtain ⟨i, rfl⟩ : ∃ i : Nat, n = (i : Int) := ⟨n.toNat, by omega⟩
      obtain ⟨x, hx⟩ : ∃ x, kno[i]? = some x := ⟨_, List.getElem?_eq_getElem (by rw [kno_len]; omega)⟩
      have hix := fun w_ => kn_ixa w_ i (by omega)
      have hcx := hk.2 i x hx
      rw [Int.toNat_natCast, hx]
      have hx' := hide hx
      have d0' : decide ((i : Int) < 0) = false := d0
      clear hT hk hlc hcm hcell hn h0 hx h16
      go_enter Tryd.func10, Tryd.ntmps10
      go_wp2
      go_ret2
      exact ⟨rfl, rfl⟩
    · rw [if_neg h16]
      have d16 : decide (n < 16) = false := decide_eq_false h16
      by_cases h24 : 1024 ≤ n
      · rw [if_pos h24]
        have d24 : decide (1024 ≤ n) = true := decide_eq_true h24
        obtain ⟨i, rfl⟩ : ∃ i : Nat, n = 1024 + (i : Int) := ⟨n.toNat - 1024, by omega⟩
        have hsub : IntKind.i64.wrap (1024 + (i : Int) - 1024) = (i : Int) := by rw [i64_wrap _ (by omega)]; omega
        have e1 : (1024 + (i : Int)).toNat - 1024 = i := by omega
        rw [e1]
        obtain ⟨m, hm⟩ : ∃ m, 1024 + (i : Int) = m := ⟨_, rfl⟩
        rw [hm] at d0 d16 d24 hsub ⊢
        cases hx : l[i]? with
        | none =>
          have hle : l.length ≤ i := List.getElem?_eq_none_iff.1 hx
          have dl : decide (i < l.length) = false := decide_eq_false (by omega)
          clear hT hk hlc hcm hcell hn h0 hx h16 h24 e1 hm hle
          go_enter Tryd.func10, Tryd.ntmps10
          go_wp2
          go_ret2
          exact ⟨rfl, rfl⟩
        | some x =>
          have hlt : i < l.length := (List.getElem?_eq_some_iff.1 hx).1
          have dl : decide (i < l.length) = true := decide_eq_true hlt
          obtain ⟨b, rfl, hb, hcx⟩ := hcell i x hx
          have hix := fun w_ => ix_strs w_ b l.length c i hlt
          clear hT hk hlc hcm hcell hn h0 hx h16 h24 e1 hm hlt hb
          go_enter Tryd.func10, Tryd.ntmps10
          go_wp2
          go_ret2
          exact ⟨rfl, rfl⟩
      · rw [if_neg h24]
        have d24 : decide (1024 ≤ n) = false := decide_eq_false h24
        clear hT hk hlc hcm hcell hn h0 h16 h24
        go_enter Tryd.func10, Tryd.ntmps10
        go_wp2
        go_ret2
        exact ⟨rfl, rfl⟩
end Go.Proofs.YtcmalffpahkleaaDoor
