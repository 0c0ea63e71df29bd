/- Set: the program's call. -/
import Derived.Test.YteiacgpaocnofaaGreatSp
import Derived.Laws.ResultCell
namespace Go.Proofs.YteiacgpaocnofaaGreat
open Go.RowKit
theorem results_row_tmp {P : Program} {fn : Func} {p u : Tmp} {ty : TypeId} (h : fn.results = #[.cell p ty, .tmp u]) (tmps : Array Value) (w : World) (g : Nat) (t : TypeId) (cs : Array Value) (fr : Nat × Nat) (d : TypeDesc)
    (hp : tmps.getD p undef = .pointer (some ⟨g, 0, none⟩)) (hg : w.heap[g]? = some (.cells cs t fr))
    (hu : P.underlying ty = some d) (hd : (match d with | .struct _ | .array _ _ => true | _ => false) = true) (hi : (P.info? ty).map (·.size) = some cs.size) :
    (results fn tmps).run P w = .ok (.tuple #[.agg cs, tmps.getD u undef]) w := by
  rw [results_cell_tmp h, hp]
  simp only [asAddr, Sem.run_pure, Result.andThen_ok, run_loadVar_row w g t ty cs fr d hg hu hd hi]
/-- What is told of terms as a set. -/
def SetR (l : List Tm) (r : Tm) (E : Int) : Prop := (fitB l = true → E = 0 ∧ ∃ zs, r = .mk 7 0 ⟨#[]⟩ zs ∧ IsSet l zs ∧ ∀ z ∈ zs, Fl z) ∧ (fitB l = false → E = 1 ∧ r = zt)
theorem mayV_flat {k n : Int} {s : ByteArray} {l : Nat} (h : mayV k n s l = true) : l = 0 := by
  have key : ((l : Int) == 0) = true → l = 0 := fun h => by simpa using h
  unfold mayV at h
  split at h
  · simp only [Bool.and_eq_true] at h; exact key h.1.2
  · split at h
    · simp only [Bool.and_eq_true] at h; exact key h.2
    · split at h
      · simp only [Bool.and_eq_true] at h; exact key h.1.2
      · split at h
        · simp only [Bool.and_eq_true] at h; exact key h.1.1.2
        · split at h
          · simp only [Bool.and_eq_true] at h; exact key h.1.2
          · cases h
theorem one_flat {k0 : Int} {x : Tm} (h : oneB k0 x = true) : x.l = [] := by
  unfold oneB fixV at h
  simp only [Bool.and_eq_true] at h
  exact List.eq_nil_of_length_eq_zero (mayV_flat h.2.2)
theorem fit_flat {l : List Tm} (h : fitB l = true) : l.length ≤ 16 ∧ ∀ x ∈ l, x.l = [] := by
  unfold fitB at h
  simp only [Bool.and_eq_true, decide_eq_true_eq, List.all_eq_true] at h
  exact ⟨h.1, fun x hx => one_flat (h.2 x hx)⟩
def SetP (l : List Tm) (w : World) (e : Ending) (w' : World) : Prop := ∃ r a c E, e = .returned (.tuple #[tv r a c, .int .i64 E]) ∧ TAt w' r a c ∧ SetR l r E ∧ Below w.heap.size w w'
theorem zt_at (w : World) : TAt w zt none 0 := LAt.term (LAt.nil w none 0 (by decide)) (by unfold Fits zt Tm.k Tm.n Tm.s Tm.l; exact ⟨by decide, by decide, by decide, by decide, by decide⟩)
theorem set_at {w : World} {zs : List Tm} {a : Option Addr} {c : Nat} (h : LAt w zs a c) : TAt w (.mk 7 0 ⟨#[]⟩ zs) a c := LAt.term (t := .mk 7 0 ⟨#[]⟩ zs) h ⟨⟨by show (-9223372036854775808 : Int) ≤ 7; decide, by show (7 : Int) ≤ 9223372036854775807; decide⟩, ⟨by show (-9223372036854775808 : Int) ≤ 0; decide, by show (0 : Int) ≤ 9223372036854775807; decide⟩, by show (0 : Nat) ≤ 9223372036854775807; decide, h.1, h.2.1⟩
theorem row_set {w : World} {B k n : Nat} {v : Value} {xs : List Value} (h : w.ownsRow B 33 4 v n xs) (hk : k < B) (cs : Array Value) : (w.setRow k cs).ownsRow B 33 4 v n xs :=
  ⟨h.1, by
    rcases h.2 with h1 | ⟨g, cap, cur, hv, hb, hr, hn⟩
    · exact .inl h1
    · exact .inr ⟨g, cap, cur, hv, hb, (setRow_other w k g cs (by omega)).trans hr, hn⟩⟩
set_option maxRecDepth 100000 in
set_option maxHeartbeats 1000000 in
theorem Set_any {l : List Tm} {ao : Option Addr} {c : Nat} {w : World} (h : LAt w l ao c) : Calls Tryz.prog 179 #[.slice ao l.length c] w (SetP l w) := by
  have b0 := alloc_below w (.cells #[.int .i64 0, .int .i64 0, .string ⟨#[]⟩, .slice none 0 0] 33)
  have r0 := heap_alloc_last w (.cells #[.int .i64 0, .int .i64 0, .string ⟨#[]⟩, .slice none 0 0] 33)
  have HC := hide (fitSet_any (h.ext b0))
  have HX := hide (And.intro b0 (And.intro r0 (h.ext b0)))
  clear h b0 r0
  cases hf : fitB l with
  | false =>
    rw [hf] at HC
    go_enter Tryz.func179, Tryz.ntmps179
    go_wp2_with fail
    refine HC.out.mono ?_
    rintro e w1 ⟨rfl, b1⟩
    have R1 := hide (Below.heap b1 (Array.getElem?_eq_some_iff.1 HX.out.2.1).1 HX.out.2.1)
    have HB := hide (Below.chain HX.out.1 b1)
    clear b1 HC HX
    go_wp2_with (refine wpList_store_row rfl 33 (.tmp 2) (.tmp 7) rfl w.heap.size #[.int .i64 0, .int .i64 0, .string ⟨#[]⟩, .slice none 0 0] rfl rfl 33 #[.int .i64 0, .int .i64 0, .string ⟨#[]⟩, .slice none 0 0] R1.out (by kernel_rfl) rfl (by kernel_rfl) ?_)
    refine bodyPost_ret_by (results_row_tmp rfl _ _ w.heap.size 33 _ (0, 0) _ rfl (setRow_heap _ _ _ _ _ _ R1.out) Tryz.underlying33 rfl (by kernel_rfl)) rfl ?_
    exact ⟨zt, none, 0, 1, rfl, zt_at _, ⟨fun e => absurd (hf.symm.trans e) (by decide), fun _ => ⟨rfl, rfl⟩⟩, Below.setRow HB.out _ _ (Nat.le_refl _)⟩
  | true =>
    rw [hf] at HC
    have hfl := fit_flat hf
    go_enter Tryz.func179, Tryz.ntmps179
    go_wp2_with fail
    refine HC.out.mono ?_
    rintro e w1 ⟨rfl, b1⟩
    have HS := hide (sorted_any (HX.out.2.2.ext b1) hfl.1 hfl.2)
    have R1 := hide (Below.heap b1 (Array.getElem?_eq_some_iff.1 HX.out.2.1).1 HX.out.2.1)
    have HB := hide (Below.chain HX.out.1 b1)
    have HLT := hide (show w.heap.size < w1.heap.size from (Array.getElem?_eq_some_iff.1 R1.out).1)
    clear b1 HC HX hfl
    go_wp2_with fail
    refine HS.out.mono ?_
    rintro e w2 ⟨a', c', zs, rfl, hL, hset, hzf, b2⟩
    have R2 := hide (Below.heap b2 (Array.getElem?_eq_some_iff.1 R1.out).1 R1.out)
    have HB2 := hide (And.intro (Below.chain HB.out b2) (And.intro hL (And.intro hset hzf)))
    clear b2 HS R1 HB hL hset hzf
    go_wp2_with (refine wpList_store_row rfl 33 (.tmp 2) (.tmp 10) rfl w.heap.size #[.int .i64 7, .int .i64 0, .string ⟨#[]⟩, .slice a' zs.length c'] rfl rfl 33 #[.int .i64 0, .int .i64 0, .string ⟨#[]⟩, .slice none 0 0] R2.out (by kernel_rfl) rfl (by kernel_rfl) ?_)
    refine bodyPost_ret_by (results_row_tmp rfl _ _ w.heap.size 33 _ (0, 0) _ rfl (setRow_heap _ _ _ _ _ _ R2.out) Tryz.underlying33 rfl (by kernel_rfl)) rfl ?_
    refine ⟨.mk 7 0 ⟨#[]⟩ zs, a', c', 0, rfl, ?_, ⟨fun _ => ⟨rfl, zs, rfl, HB2.out.2.2.1, HB2.out.2.2.2⟩, fun e => absurd (hf.symm.trans e) (by decide)⟩, Below.setRow HB2.out.1 _ _ (Nat.le_refl _)⟩
    obtain ⟨a2, c2, e2, hLL⟩ := row_lat (row_set HB2.out.2.1 HLT.out #[.int .i64 7, .int .i64 0, .string ⟨#[]⟩, .slice a' zs.length c']) HB2.out.2.2.2
    injection e2 with e3 _ e4
    rw [← e3, ← e4] at hLL
    exact set_at hLL
end Go.Proofs.YteiacgpaocnofaaGreat
