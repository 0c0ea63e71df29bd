/- Rows of fields whose bytes lie in memory that was there; what is put is what is wanted. -/
import Derived.Test.YtogegmdimfinaaaPbS
import Derived.Test.YtogegmdimfinaaaPbT
import Derived.Test.YtogegmdimfinaaaPbC
namespace Go.Proofs.Ytogegmdimfinaaa
open Go.RowKit
/-- A row of fields of the call's own, their bytes in an older world. -/
def FsO (T : TypeId) (W w : World) (base : Nat) (v : Value) (fs : List Fld) : Prop :=
  ∃ ps : List (Fld × Value), ps.map (·.1) = fs ∧ w.ownsRow base T 4 v fs.length (fcs ps) ∧ ∀ p ∈ ps, BsAt W p.2 p.1.b
theorem FsO.nil (T : TypeId) (W w : World) (base : Nat) : FsO T W w base (.slice none 0 0) [] := ⟨[], rfl, World.ownsRow_nil _ _ _ _, fun _ h => absurd h (by simp)⟩
theorem FsO.ext {T : TypeId} {W w w' : World} {base : Nat} {v : Value} {fs : List Fld} (h : FsO T W w base v fs) (he : Below w.heap.size w w') : FsO T W w' base v fs := by
  obtain ⟨ps, h1, h2, h3⟩ := h
  exact ⟨ps, h1, row_ext h2 he, h3⟩
theorem FsO.off {T : TypeId} {W w w' : World} {base : Nat} {v : Value} {fs : List Fld} (h : FsO T W w base v fs) {X : Option Nat} (hg : w.grownBy w' X) (h1 : Off w X T) : FsO T W w' base v fs := by
  obtain ⟨ps, e, h2, h3⟩ := h
  exact ⟨ps, e, row_off h2 hg h1, h3⟩
/-- One field more, at a region's list. -/
theorem wpList_append_fo {t T : Nat} (hA : AppTy t T 4 48) {ops : Array Oper} {rest : List Oper} {o : Oper} {a : Act} {W w : World} {Q : Exit → Act → World → Prop} (hgd : o.guard = none) (s x : Operand) (ho : o.op = .call { callee := .builtin .append, args := #[s, x], argTypes := #[t, t] })
    {base : Nat} {fs : List Fld} (f : Fld) {bv : Value} (hF : FsO T W w base (a.eval s) fs) (hb : BsAt W bv f.b) {g : Nat} (hx : a.eval x = .slice (some ⟨g, 0, none⟩) 1 1) (hr : w.heap[g]? = some (.cells #[.int .i64 (f.num : Int), .bool f.whole, .int .u64 (f.n : Int), bv] T (0, 0)))
    (hn : fs.length ≤ 1000000) (hbase : base ≤ w.heap.size)
    (hk : ∀ v' w', FsO T W w' base v' (fs ++ [f]) → w.grownBy w' (a.eval s).ownBlock → (∀ e, T ≠ e → Off w (a.eval s).ownBlock e) → (∀ k, (a.eval s).ownBlock = some k → base ≤ k) → wpList Try.prog ops Q rest (a.put o.dst v') w') : wpList Try.prog ops Q (o :: rest) a w := by
  obtain ⟨ps, e1, e2, e3⟩ := hF
  obtain ⟨ba, bc, hbv, _, _⟩ := hb.len
  refine wpList_append_r hA hgd s x ho e2 hx (news := [Value.int .i64 (f.num : Int), .bool f.whole, .int .u64 (f.n : Int), bv]) rfl (fun j u hu => ?_) (fun u hu => ?_) (by unfold maxLen; omega) (by omega) hbase fun v' w' h1 h2 => ?_
  · rw [Addr.add_mid, Nat.zero_add, cell_of_row _ _ _ _ _ _ hr]
    simpa using hu
  · simp at hu
    rcases hu with rfl | rfl | rfl | rfl
    · rfl
    · rfl
    · rfl
    · rw [hbv]; rfl
  · refine hk v' w' ⟨ps ++ [(f, bv)], by simp [e1], by rw [List.length_append, fcs_app]; exact h1, fun p hp => ?_⟩ h2 (fun e he => off_row e2 he) (fun k hk => (e2.lt k hk).1)
    rcases List.mem_append.1 hp with h | h
    · exact e3 p h
    · simp at h; subst h; exact hb
/-- What a row of fields reads as. -/
def ReadF (w : World) (v : Value) (fs : List Fld) : Prop :=
  ∃ (ao : Option Addr) (g cap : Nat), v = .slice ao fs.length cap ∧ fs.length ≤ 9223372036854775807 ∧ (0 < fs.length → ao = some ⟨g, 0, none⟩ ∧ ∀ i f, fs[i]? = some f → ∃ bv, BsAt w bv f.b ∧
    ∀ w', Below w.heap.size w w' → w'.cell? ⟨g, i * 4, none⟩ = some (.int .i64 (f.num : Int)) ∧ w'.cell? ⟨g, i * 4 + 1, none⟩ = some (.bool f.whole) ∧ w'.cell? ⟨g, i * 4 + 2, none⟩ = some (.int .u64 (f.n : Int)) ∧ w'.cell? ⟨g, i * 4 + 3, none⟩ = some bv)
theorem readF_row {T : TypeId} {w : World} {base : Nat} {v : Value} {fs : List Fld} {ps : List (Fld × Value)} (e1 : ps.map (·.1) = fs) (e2 : w.ownsRow base T 4 v fs.length (fcs ps)) (e3 : ∀ p ∈ ps, BsAt w p.2 p.1.b) : ReadF w v fs := by
  have hpl : ps.length = fs.length := by rw [← e1]; simp
  rcases e2.2 with ⟨rfl, h0⟩ | ⟨g, cap, cur, rfl, hb, hr, hn, hm, hs, ht⟩
  · exact ⟨none, 0, 0, by rw [h0], by omega, fun h => by omega⟩
  · refine ⟨_, g, cap, rfl, by unfold maxLen at hm; omega, fun _ => ⟨rfl, fun i f hf => ?_⟩⟩
    have hi : i < fs.length := (List.getElem?_eq_some_iff.1 hf).1
    have hg := (Array.getElem?_eq_some_iff.1 hr).1
    obtain ⟨p, hp⟩ : ∃ p, ps[i]? = some p := ⟨_, List.getElem?_eq_getElem (by omega)⟩
    have hpf : p.1 = f := by
      rw [← e1, List.getElem?_map, hp] at hf
      simpa using hf
    subst hpf
    obtain ⟨c0, c1, c2, c3⟩ := fcs_get ps i p hp
    refine ⟨p.2, e3 p (List.mem_of_getElem? hp), fun w' he => ?_⟩
    rw [Nat.mul_comm i 4]
    exact ⟨(Below.cell (p := ⟨g, 4 * i, none⟩) he hg).trans (by rw [e2.cellAt _ (by omega)]; exact c0), (Below.cell (p := ⟨g, 4 * i + 1, none⟩) he hg).trans (by rw [e2.cellAt _ (by omega)]; exact c1), (Below.cell (p := ⟨g, 4 * i + 2, none⟩) he hg).trans (by rw [e2.cellAt _ (by omega)]; exact c2), (Below.cell (p := ⟨g, 4 * i + 3, none⟩) he hg).trans (by rw [e2.cellAt _ (by omega)]; exact c3)⟩
theorem FsAt.readF {T : TypeId} {w : World} {base : Nat} {v : Value} {fs : List Fld} (h : FsAt T w base v fs) : ReadF w v fs := by
  obtain ⟨ps, e1, e2, e3⟩ := h
  exact readF_row e1 e2 fun p hp => (e3 p hp).at
theorem FsO.readF {T : TypeId} {W w : World} {base : Nat} {v : Value} {fs : List Fld} (h : FsO T W w base v fs) (hb : Below W.heap.size W w) : ReadF w v fs := by
  obtain ⟨ps, e1, e2, e3⟩ := h
  exact readF_row e1 e2 fun p hp => (e3 p hp).ext hb
set_option maxRecDepth 100000 in
set_option maxHeartbeats 2000000 in
theorem same_r {va vb : Value} {fs : List Fld} {w : World} (h1 : ReadF w va fs) (h2 : ReadF w vb fs) : Calls Try.prog 24 #[va, vb] w fun e w' => e = .returned (.bool true) ∧ Below w.heap.size w w' := by
  obtain ⟨ao1, g1, k1, rfl, hbd, r1⟩ := h1
  obtain ⟨ao2, g2, k2, rfl, _, r2⟩ := h2
  have HR := hide (And.intro r1 r2)
  clear r1 r2
  go_enter Try.func24, Try.ntmps24
  go_wp2
  go_loopw [15] (fun i wr => ∃ k : Nat, k ≤ fs.length ∧ i = .int .i64 (k : Int) ∧ Below w.heap.size w wr) (fun i _ => fs.length - (intOf i).toNat)
  case atStart => exact ⟨0, Nat.zero_le _, rfl, Below.refl _ _⟩
  case round =>
    obtain ⟨k, hk, rfl, hB⟩ := hrel
    by_cases hlt : k < fs.length
    · obtain ⟨f, hf⟩ : ∃ f, fs[k]? = some f := ⟨_, List.getElem?_eq_getElem hlt⟩
      obtain ⟨rfl, r1⟩ := HR.out.1 (by omega)
      obtain ⟨rfl, r2⟩ := HR.out.2 (by omega)
      obtain ⟨bv1, o1, c1⟩ := r1 k f hf
      obtain ⟨bv2, o2, c2⟩ := r2 k f hf
      obtain ⟨a0, a1, a2, a3⟩ := c1 wr hB
      have bA := alloc_below wr (.cells #[.int .i64 (f.num : Int), .bool f.whole, .int .u64 (f.n : Int), bv1] 54)
      have bB := alloc_below (wr.alloc (.cells #[.int .i64 (f.num : Int), .bool f.whole, .int .u64 (f.n : Int), bv1] 54)) (.cells #[.int .i64 (f.num : Int), .bool f.whole, .int .u64 (f.n : Int), bv2] 53)
      obtain ⟨d0, d1, d2, d3⟩ := c2 _ (Below.chain hB bA)
      have hw2 := Below.chain (Below.chain hB bA) bB
      have s1 := run_sob (o1.ext hw2)
      have s2 := run_sob (o2.ext hw2)
      have i1 := fun w_ => ix_pf w_ g1 fs.length k1 k hlt
      have i2 := fun w_ => ix_rf w_ g2 fs.length k2 k hlt
      have hbw := bne_self' f.whole
      have hbN : ((f.n : Int) != (f.n : Int)) = false := by simp
      have HX := hide hw2
      obtain ⟨p1, q1, rfl, _, _⟩ := o1.len
      obtain ⟨p2, q2, rfl, _, _⟩ := o2.len
      generalize hSS : sob f.b = S at *
      generalize f.num = fn at *
      generalize f.whole = fw at *
      generalize f.n = fN at *
      generalize f.b.length = fl at *
      clear o1 o2 c1 c2 hB bA bB hw2 hSS r1 r2
      go_wp2
      go_roundw
      case rel => exact ⟨k + 1, by omega, by go_num, HX.out⟩
      case measure => simp [intOf]; omega
    · obtain rfl : k = fs.length := by omega
      have HX := hide hB
      clear hB
      go_wp2
      go_ret
      exact ⟨rfl, HX.out⟩
/-- What is wanted of a field to put. -/
def fp (p : Pu) : List Fld := if 1 ≤ p.num ∧ p.num ≤ 100 then (if p.whole = true then [⟨p.num.toNat, true, 0, p.b⟩] else [⟨p.num.toNat, false, p.n, []⟩]) else []
def wantF (ps : List Pu) : List Fld := (ps.map fp).flatten
theorem wantF_step (ps : List Pu) (k : Nat) (p : Pu) (h : ps[k]? = some p) : wantF (ps.take (k + 1)) = wantF (ps.take k) ++ fp p := by
  unfold wantF
  rw [List.take_add_one, h]
  simp
theorem wantF_len : ∀ ps : List Pu, (wantF ps).length ≤ ps.length
  | [] => by simp [wantF]
  | p :: ps => by
    have h1 := wantF_len ps
    have e : wantF (p :: ps) = fp p ++ wantF ps := by simp [wantF]
    have h2 : (fp p).length ≤ 1 := by unfold fp; split <;> (try split) <;> simp
    rw [e, List.length_append, List.length_cons]
    omega
theorem putP_fp {p : Pu} (hl : p.b.length ≤ 65536) : putP p = (fp p).map Fld.enc := by
  unfold putP fp
  by_cases h : 1 ≤ p.num ∧ p.num ≤ 100
  · obtain ⟨k, hk⟩ : ∃ k : Nat, p.num = (k : Int) := ⟨p.num.toNat, by omega⟩
    rw [if_pos h, hk, show ((k : Int)).toNat = k by omega]
    split
    · rw [putR_enc (by omega) hl]; rfl
    · rw [putI_enc (by omega)]; rfl
  · rw [if_neg h]
    unfold putR putI
    split
    · rw [pbs_out h]; rfl
    · rw [pbs_out h]; rfl
theorem pieces_want : ∀ {ps : List Pu}, (∀ p ∈ ps, p.b.length ≤ 65536) → pieces ps = (wantF ps).map Fld.enc
  | [], _ => rfl
  | p :: ps, h => by
    have e : pieces (p :: ps) = putP p ++ pieces ps := by simp [pieces]
    have e2 : wantF (p :: ps) = fp p ++ wantF ps := by simp [wantF]
    rw [e, e2, List.map_append, putP_fp (h p (by simp)), pieces_want (fun q hq => h q (by simp [hq]))]
theorem fp_ok {p : Pu} (hl : p.b.length ≤ 65536) (hb : limB p.b) (hn : p.n < 18446744073709551616) : ∀ f ∈ fp p, f.Ok := fun f hf => by
  unfold fp at hf
  split at hf
  · split at hf
    · simp at hf; subst hf; exact raw_ok (by omega) hl hb
    · simp at hf; subst hf; exact num_ok (by omega) hn
  · simp at hf
theorem want_ok {ps : List Pu} (h : ∀ p ∈ ps, p.b.length ≤ 65536 ∧ limB p.b ∧ p.n < 18446744073709551616) : ∀ f ∈ wantF ps, f.Ok := fun f hf => by
  unfold wantF at hf
  obtain ⟨l, hl, hfl⟩ := List.mem_flatten.1 hf
  obtain ⟨p, hp, rfl⟩ := List.mem_map.1 hl
  exact fp_ok (h p hp).1 (h p hp).2.1 (h p hp).2.2 f hfl
theorem tot_mem : ∀ {ps : List Pu} {p : Pu}, p ∈ ps → p.b.length ≤ tot ps
  | q :: ps, p, h => by
    have e2 : tot (q :: ps) = q.b.length + tot ps := by simp [tot]
    rw [e2]
    rcases List.mem_cons.1 h with rfl | h
    · omega
    · have := tot_mem h; omega
theorem PsAt.valid {w : World} {v : Value} {ps : List Pu} (h : PsAt w v ps) (ht : tot ps ≤ 4000) : ∀ p ∈ ps, p.b.length ≤ 65536 ∧ limB p.b ∧ p.n < 18446744073709551616 := fun p hp => by
  obtain ⟨b, o, c, ao, _, _, _, hh⟩ := h
  obtain ⟨_, _, hps⟩ := hh (fun e => by subst e; simp at hp)
  obtain ⟨i, hi⟩ := List.getElem?_of_mem hp
  obtain ⟨bv, _, _, _, _, hbs, _, hn, _⟩ := hps i p hi
  have := tot_mem hp
  exact ⟨by omega, hbs.limB, hn⟩
theorem encs_flat (fs : List Fld) : (fs.map Fld.enc).flatten = encs fs := rfl
/-- What is put is read. -/
theorem put_read {ps : List Pu} (h : ∀ p ∈ ps, p.b.length ≤ 65536 ∧ limB p.b ∧ p.n < 18446744073709551616) (hl : (pieces ps).flatten.length ≤ 6000) : rdF (pieces ps).flatten = .ok (wantF ps) := by
  unfold rdF
  rw [if_pos (by omega)]
  have e := pieces_want (fun p hp => (h p hp).1)
  rw [e, encs_flat]
  exact flds_all (want_ok h) (Nat.le_refl _)
end Go.Proofs.Ytogegmdimfinaaa
