/- Rows of fields in memory, grown by one; the fields of bytes, as the program's call tells them. -/
import Derived.Test.YtogegmdimfinaaaPb5
import Derived.Deep.LoopGhost
namespace Go.Proofs.Ytogegmdimfinaaa
open Go.RowKit
/-- What append wants to know of a type of slices. -/
structure AppTy (t e size bytes : Nat) : Prop where
  und : Try.prog.underlying t = some (.slice e)
  info : ∃ i z, Try.prog.info? e = some i ∧ i.zero = some z ∧ i.size = size ∧ i.bytes = bytes ∧ z.cells.size = size
  pos : 0 < size
theorem appTy_of {t e size bytes : Nat} (z : Value) (hu : Try.prog.underlying t = some (.slice e)) (hi : (Try.prog.info? e).map (fun i => (i.zero, i.size, i.bytes)) = some (some z, size, bytes)) (hz : z.cells.size = size) (hp : 0 < size) : AppTy t e size bytes := by
  refine ⟨hu, ?_, hp⟩
  cases he : Try.prog.info? e with
  | none => rw [he] at hi; cases hi
  | some i =>
    rw [he] at hi
    simp only [Option.map_some, Option.some.injEq, Prod.mk.injEq] at hi
    exact ⟨i, z, rfl, hi.1, hi.2.1, hi.2.2, hz⟩
theorem appF : AppTy 44 54 4 48 := appTy_of (.agg #[.int .i64 0, .bool false, .int .u64 0, .slice none 0 0]) (by kernel_rfl) (by kernel_rfl) (by kernel_rfl) (by decide)
theorem appR : AppTy 48 53 4 48 := appTy_of (.agg #[.int .i64 0, .bool false, .int .u64 0, .slice none 0 0]) (by kernel_rfl) (by kernel_rfl) (by kernel_rfl) (by decide)
theorem appS : AppTy 62 30 1 24 := appTy_of (.slice none 0 0) (by kernel_rfl) (by kernel_rfl) (by kernel_rfl) (by decide)
theorem appP : AppTy 22 32 4 48 := appTy_of (.agg #[.int .i64 0, .bool false, .int .u64 0, .slice none 0 0]) (by kernel_rfl) (by kernel_rfl) (by kernel_rfl) (by decide)
theorem wpList_append_r {t e size bytes : Nat} (hA : AppTy t e size bytes) {ops : Array Oper} {rest : List Oper} {o : Oper} {a : Act} {w : World} {Q : Exit → Act → World → Prop} (hgd : o.guard = none) (s x : Operand) (ho : o.op = .call { callee := .builtin .append, args := #[s, x], argTypes := #[t, t] })
    {base n : Nat} {xs : List Value} (h : w.ownsRow base e size (a.eval s) n xs) {ad : Addr} {m c : Nat} {news : List Value} (hx : a.eval x = .slice (some ad) m c) (hl : news.length = m * size) (hnews : ∀ j u, news[j]? = some u → w.cell? (ad.add j) = some u) (h1 : ∀ u ∈ news, u.oneCell' = true)
    (h63 : n + m ≤ maxLen) (hby : (n + m) * bytes ≤ 140737488355328) (hb : base ≤ w.heap.size)
    (hk : ∀ v' w', w'.ownsRow base e size v' (n + m) (xs ++ news) → w.grownBy w' (a.eval s).ownBlock → wpList Try.prog ops Q rest (a.put o.dst v') w') : wpList Try.prog ops Q (o :: rest) a w := by
  refine wpList_plain hgd fun K hK => ?_
  obtain ⟨i, z, hi, hz, hs, hbt, hzs⟩ := hA.info
  obtain ⟨v', w', hr, h2, h3, _⟩ := run_append_own (P := Try.prog) w base t o.type e i z size bytes hA.und hi hz hs hbt hzs hA.pos _ n xs h ad m c news hl hnews h1 h63 hby hb
  exact Oper.wp_value (run_op_append ho (by rw [hx]; exact hr)) (hK _ _ (hk v' w' h2 h3))
theorem row_ext {w w' : World} {base e size n : Nat} {v : Value} {xs : List Value} (h : w.ownsRow base e size v n xs) (he : Below w.heap.size w w') : w'.ownsRow base e size v n xs :=
  ⟨h.1, by
    rcases h.2 with h1 | ⟨g, cap, cur, hv, hb, hr, hn⟩
    · exact .inl h1
    · exact .inr ⟨g, cap, cur, hv, hb, (he.block g (Array.getElem?_eq_some_iff.1 hr).1).trans hr, hn⟩⟩
/-- A block of another type, or none at all, is what was written. -/
def Off (w : World) (X : Option Nat) (e : TypeId) : Prop := ∀ g, X = some g → ∃ c t fr, w.heap[g]? = some (.cells c t fr) ∧ t ≠ e
theorem row_off {w w' : World} {base e size n : Nat} {v : Value} {xs : List Value} (h : w.ownsRow base e size v n xs) {X : Option Nat} (hg : w.grownBy w' X) (ho : Off w X e) : w'.ownsRow base e size v n xs :=
  ⟨h.1, by
    rcases h.2 with h1 | ⟨g, cap, cur, hv, hb, hr, hn⟩
    · exact .inl h1
    · refine .inr ⟨g, cap, cur, hv, hb, (hg.block g (Array.getElem?_eq_some_iff.1 hr).1 (fun e => ?_)).trans hr, hn⟩
      obtain ⟨c, t, fr, h2, h3⟩ := ho g e.symm
      rw [hr] at h2
      injection h2 with h2
      injection h2 with _ h2 _
      exact h3 h2.symm⟩
theorem Own.off {w w' : World} {base : Nat} {v : Value} {l : List Nat} (h : Own w base v l) {X : Option Nat} (hg : w.grownBy w' X) (ho : Off w X 5) : Own w' base v l := ⟨row_off h.row hg ho, h.lim⟩
theorem off_row {w : World} {base e size n e' : Nat} {v : Value} {xs : List Value} (h : w.ownsRow base e size v n xs) (hne : e ≠ e') : Off w v.ownBlock e' := fun g hg => by
  rcases h.2 with ⟨rfl, _⟩ | ⟨g', cap, cur, rfl, hb, hr, _⟩
  · cases hg
  · injection hg with hg
    subst hg
    exact ⟨cur, e, _, hr, hne⟩
theorem off_of {w : World} {g e t : Nat} {c : Array Value} {fr : Nat × Nat} (h : w.heap[g]? = some (.cells c t fr)) (hne : t ≠ e) : Off w (some g) e := fun g' hg => by
  injection hg with hg
  subst hg
  exact ⟨c, t, fr, h, hne⟩
/-- The cells of fields. -/
def fcs (ps : List (Fld × Value)) : List Value := (ps.map fun p => [Value.int .i64 (p.1.num : Int), .bool p.1.whole, .int .u64 (p.1.n : Int), p.2]).flatten
theorem fcs_app (a b : List (Fld × Value)) : fcs (a ++ b) = fcs a ++ fcs b := by simp [fcs]
/-- A row of fields of the call's own. -/
def FsAt (T : TypeId) (w : World) (base : Nat) (v : Value) (fs : List Fld) : Prop :=
  ∃ ps : List (Fld × Value), ps.map (·.1) = fs ∧ w.ownsRow base T 4 v fs.length (fcs ps) ∧ ∀ p ∈ ps, Own w base p.2 p.1.b
theorem FsAt.nil (T : TypeId) (w : World) (base : Nat) : FsAt T w base (.slice none 0 0) [] := ⟨[], rfl, World.ownsRow_nil _ _ _ _, fun _ h => absurd h (by simp)⟩
theorem FsAt.ext {T : TypeId} {w w' : World} {base : Nat} {v : Value} {fs : List Fld} (h : FsAt T w base v fs) (he : Below w.heap.size w w') : FsAt T w' base v fs := by
  obtain ⟨ps, h1, h2, h3⟩ := h
  exact ⟨ps, h1, row_ext h2 he, fun p hp => (h3 p hp).ext he⟩
theorem FsAt.off {T : TypeId} {w w' : World} {base : Nat} {v : Value} {fs : List Fld} (h : FsAt T w base v fs) {X : Option Nat} (hg : w.grownBy w' X) (h1 : Off w X T) (h5 : Off w X 5) : FsAt T w' base v fs := by
  obtain ⟨ps, e, h2, h3⟩ := h
  exact ⟨ps, e, row_off h2 hg h1, fun p hp => (h3 p hp).off hg h5⟩
theorem FsAt.push {T : TypeId} {w w' : World} {base : Nat} {v v' bv : Value} {fs : List Fld} {ps : List (Fld × Value)} {f : Fld} (hT : T ≠ 5) (e : ps.map (·.1) = fs) (h2 : w.ownsRow base T 4 v fs.length (fcs ps)) (h3 : ∀ p ∈ ps, Own w base p.2 p.1.b) (hb : Own w base bv f.b)
    (hr : w'.ownsRow base T 4 v' (fs.length + 1) (fcs ps ++ [Value.int .i64 (f.num : Int), .bool f.whole, .int .u64 (f.n : Int), bv])) (hg : w.grownBy w' v.ownBlock) : FsAt T w' base v' (fs ++ [f]) := by
  have ho := off_row h2 hT
  refine ⟨ps ++ [(f, bv)], by simp [e], ?_, fun p hp => ?_⟩
  · rw [List.length_append, fcs_app]; exact hr
  · rcases List.mem_append.1 hp with h | h
    · exact (h3 p h).off hg ho
    · simp at h; subst h; exact hb.off hg ho
theorem RAt.off {W w w' : World} {g : Nat} {l : List Nat} (h : RAt W w g l) {X : Option Nat} (hg : w.grownBy w' X) (ho : Off w X 69) (hX : ∀ k, X = some k → W.heap.size ≤ k) : RAt W w' g l := by
  obtain ⟨v, hb, hW, hgw, hr⟩ := h
  refine ⟨v, hb, hW, gr_trans hgw hg (fun k hk => .inr (hX k hk)), (hg.block g (Array.getElem?_eq_some_iff.1 hr).1 (fun e => ?_)).trans hr⟩
  obtain ⟨c, t, fr, h2, h3⟩ := ho g e.symm
  rw [hr] at h2
  injection h2 with h2
  injection h2 with _ h2 _
  exact h3 h2.symm
theorem below_of_grown {w w' : World} {X : Option Nat} (h : w.grownBy w' X) (hX : ∀ k, X = some k → w.heap.size ≤ k) : Below w.heap.size w w' :=
  ⟨h.os, h.tape, h.output, h.size, fun k hk => h.block k hk (fun e => by have := hX k e.symm; omega)⟩
/-- What the call answers. -/
def rdF (l : List Nat) : Rs := if l.length ≤ 65536 then flds l.length l else .bad 4
def Rs.err : Rs → Nat
  | .bad e => e
  | .ok _ => 0
def Rs.got : Rs → List Fld
  | .bad _ => []
  | .ok fs => fs
theorem FsAt.row {T : TypeId} {w : World} {base : Nat} {v : Value} {fs : List Fld} (h : FsAt T w base v fs) : ∃ xs, w.ownsRow base T 4 v fs.length xs := by
  obtain ⟨ps, _, h2, _⟩ := h
  exact ⟨_, h2⟩
/-- One field more, at a region's list. -/
theorem wpList_append_fld {t T : Nat} (hA : AppTy t T 4 48) (hT : T ≠ 5) {ops : Array Oper} {rest : List Oper} {o : Oper} {a : Act} {w : World} {Q : Exit → Act → World → Prop} (hgd : o.guard = none) (s x : Operand) (ho : o.op = .call { callee := .builtin .append, args := #[s, x], argTypes := #[t, t] })
    {base : Nat} {fs : List Fld} (f : Fld) {bv : Value} (hF : FsAt T w base (a.eval s) fs) (hb : Own w base bv f.b) {g : Nat} (hx : a.eval x = .slice (some ⟨g, 0, none⟩) 1 1) (hr : w.heap[g]? = some (.cells #[.int .i64 (f.num : Int), .bool f.whole, .int .u64 (f.n : Int), bv] T (0, 0)))
    (hn : fs.length ≤ 1000000) (hbase : base ≤ w.heap.size)
    (hk : ∀ v' w', FsAt T w' base v' (fs ++ [f]) → w.grownBy w' (a.eval s).ownBlock → (∀ e, T ≠ e → Off w (a.eval s).ownBlock e) → (∀ k, (a.eval s).ownBlock = some k → base ≤ k) → wpList Try.prog ops Q rest (a.put o.dst v') w') : wpList Try.prog ops Q (o :: rest) a w := by
  obtain ⟨ps, e1, e2, e3⟩ := hF
  obtain ⟨ba, bc, hbv, _, _⟩ := hb.at.len
  refine wpList_append_r hA hgd s x ho e2 hx (news := [Value.int .i64 (f.num : Int), .bool f.whole, .int .u64 (f.n : Int), bv]) rfl (fun j u hu => ?_) (fun u hu => ?_) (by unfold maxLen; omega) (by omega) hbase fun v' w' h1 h2 => ?_
  · rw [Addr.add_mid, Nat.zero_add, cell_of_row _ _ _ _ _ _ hr]
    simpa using hu
  · simp at hu
    rcases hu with rfl | rfl | rfl | rfl
    · rfl
    · rfl
    · rfl
    · rw [hbv]; rfl
  · exact hk v' w' (FsAt.push hT e1 e2 e3 hb h1 h2) h2 (fun e he => off_row e2 he) (fun k hk => (e2.lt k hk).1)
set_option maxRecDepth 100000 in
set_option maxHeartbeats 2000000 in
theorem Fields_any {v : Value} {l : List Nat} {w : World} (h : BsAt w v l) : Calls Try.prog 22 #[v] w fun e w' => ∃ u, e = .returned (.tuple #[u, .int .i64 ((rdF l).err : Int)]) ∧ FsAt 54 w' w.heap.size u (rdF l).got ∧ Below w.heap.size w w' := by
  by_cases hl : l.length ≤ 65536
  · obtain ⟨R, hR⟩ : ∃ R, rdF l = R := ⟨_, rfl⟩
    rw [hR]
    unfold rdF at hR
    rw [if_pos hl] at hR
    have H0 := hide (And.intro h (And.intro hR hl))
    obtain ⟨va, vc, rfl, _, _⟩ := h.len
    have hd : decide ((65536 : Int) < (l.length : Int)) = false := decide_eq_false (by omega)
    clear h hR hl
    go_enter Try.func22, Try.ntmps22
    go_wp2
    go_loopg [5] l.length (fun k s5 wr => ∃ (A : List Fld) (r : List Nat), r.length ≤ k ∧ FsAt 54 wr w.heap.size s5 A ∧ RAt w wr w.heap.size r ∧ (flds k r).behind A = R ∧ limB r ∧ A.length + r.length ≤ 65536)
    case atStart =>
      refine ⟨[], l, Nat.le_refl _, FsAt.nil _ _ _, ⟨_, H0.out.1, Nat.le_refl _, grown_alloc _ _ _, heap_alloc_last _ _⟩, ?_, H0.out.1.limB, by have := H0.out.2.2; simp; omega⟩
      rw [H0.out.2.1]; cases R <;> rfl
    case round =>
      obtain ⟨A, r, hk, hF, hA, hR, hlr, hAr⟩ := hrel
      obtain ⟨v, hb, hW, hgw, hr⟩ := hA
      obtain ⟨x0, y0⟩ := row_reads hr
      have hcl := x0 0
      have hfr := y0 0
      simp only [List.getElem?_toArray, List.getElem?_cons_zero] at hcl
      have HX := hide (And.intro hk (And.intro hF (And.intro hR (And.intro hlr (And.intro hAr (And.intro hb (And.intro hgw hr)))))))
      obtain ⟨ra, rc, rfl, _, _⟩ := hb.len
      clear hk hF hR hlr hAr hb hgw hr x0 y0 hW
      by_cases hr0 : 0 < r.length
      · have hd0 : decide ((0 : Int) < (r.length : Int)) = true := decide_eq_true (by omega)
        obtain ⟨k', hk'⟩ : ∃ k', gk = k' + 1 := ⟨gk - 1, by have := HX.out.1; omega⟩
        have hrne : r ≠ [] := fun e => by subst e; simp at hr0
        go_wp2_with fail
        refine field_any (W := w) ⟨_, HX.out.2.2.2.2.2.1, Nat.le_refl _, HX.out.2.2.2.2.2.2.1, HX.out.2.2.2.2.2.2.2⟩ (by have := HX.out.2.2.2.2.1; omega) HX.out.2.2.2.1 _ (fun e w' hf hg => ?_) (fun f t bv w' hf hO hA' hg => ?_)
        · have hne : ((e : Int) != 0) = true := by rcases fld1_err hf with rfl | rfl <;> rfl
          have hRb : R = .bad e := by rw [← HX.out.2.2.1, hk', flds_bad hf hrne]; rfl
          have hB := Below.chain (below_of_grown (grown_trans HX.out.2.2.2.2.2.2.1 hg) (fun k hk => by injection hk with hk; omega)) (alloc_below w' (.cells #[.int .i64 0, .bool false, .int .u64 0, .slice none 0 0] 54))
          have HZ := hide (And.intro hRb hB)
          clear hf hg hRb hB hk'
          unfold fz
          go_wp2
          go_ret2
          rw [HZ.out.1]
          exact ⟨_, rfl, FsAt.nil _ _ _, HZ.out.2⟩
        · have hoff5 : Off wr (some w.heap.size) 5 := off_of HX.out.2.2.2.2.2.2.2 (by decide)
          have hoffT : Off wr (some w.heap.size) 54 := off_of HX.out.2.2.2.2.2.2.2 (by decide)
          have hBw : w.heap.size ≤ wr.heap.size := HX.out.2.2.2.2.2.2.1.size
          have E := hide (And.intro (HX.out.2.1.off hg hoffT hoff5) (And.intro (hO.low hBw) (And.intro hA' (And.intro hf (And.intro hg hrne)))))
          clear hf hg hO hA' hoff5 hoffT hrne
          obtain ⟨ba, bc, hbv, _, _⟩ := E.out.2.1.at.len
          unfold fv
          subst hbv
          have b1 := hide (Below.chain (alloc_below w' (.cells #[.int .i64 (f.num : Int), .bool f.whole, .int .u64 (f.n : Int), .slice ba f.b.length bc] 54)) (alloc_below _ (.cells #[.int .i64 (f.num : Int), .bool f.whole, .int .u64 (f.n : Int), .slice ba f.b.length bc] 54)))
          go_wp2_with (at_builtin; refine wpList_append_fld appF (by decide) rfl (.tmp 28) (.tmp 30) rfl (base := w.heap.size) (fs := A) f (E.out.1.ext b1.out) (E.out.2.1.ext b1.out) rfl (by have h9 := heap_alloc_last (w'.alloc (.cells #[.int .i64 (f.num : Int), .bool f.whole, .int .u64 (f.n : Int), .slice ba f.b.length bc] 54)) (.cells #[.int .i64 (f.num : Int), .bool f.whole, .int .u64 (f.n : Int), .slice ba f.b.length bc] 54); simpa using h9) (by have := HX.out.2.2.2.2.1; omega) (Nat.le_trans hBw (Nat.le_trans E.out.2.2.2.2.1.size b1.out.size)) ?_)
          intro v2 w2 hF2 hg2 hoff2 hk2
          have hA2 : RAt w w2 w.heap.size t := (E.out.2.2.1.below b1.out).off hg2 (hoff2 _ (by decide)) hk2
          have hd2 := fld1_dec HX.out.2.2.2.1 E.out.2.2.2.1
          have htl : t.length ≤ k' ∧ (A ++ [f]).length + t.length ≤ 65536 := by
            have h3 := enc_pos f
            have h4 := congrArg List.length hd2.2
            rw [List.length_append] at h4
            have h5 := HX.out.1
            have h6 := HX.out.2.2.2.2.1
            simp only [List.length_append, List.length_cons, List.length_nil]
            omega
          have hRk : (flds k' t).behind (A ++ [f]) = R := by
            rw [← HX.out.2.2.1, hk', flds_cons E.out.2.2.2.1 E.out.2.2.2.2.2]
            cases flds k' t <;> simp [Rs.behind]
          have hlt : limB t := fun c hc => HX.out.2.2.2.1 c (by rw [hd2.2]; simp [hc])
          have F := hide (And.intro hF2 (And.intro hA2 (And.intro htl (And.intro hRk hlt))))
          have hkk := hide hk'
          clear hF2 hg2 hoff2 hk2 hA2 hd2 htl hRk hlt b1 E hk' HX hcl hfr
          go_wp2
          go_roundg k'
          case measure => have := hkk.out; omega
          case rel => exact ⟨A ++ [f], t, F.out.2.2.1.1, F.out.1, F.out.2.1, F.out.2.2.2.1, F.out.2.2.2.2, F.out.2.2.1.2⟩
      · have hd0 : decide ((0 : Int) < (r.length : Int)) = false := decide_eq_false (by omega)
        obtain rfl : r = [] := List.eq_nil_of_length_eq_zero (by omega)
        have hRk : R = .ok A := by
          rw [← HX.out.2.2.1]
          cases gk <;> simp [flds, Rs.behind]
        have F := hide (And.intro hRk (And.intro HX.out.2.1 (below_of_grown HX.out.2.2.2.2.2.2.1 (fun k hk => by injection hk with hk; omega))))
        clear hRk HX hr0
        go_wp2
        go_ret2
        rw [F.out.1]
        exact ⟨_, rfl, F.out.2.1, F.out.2.2⟩
  · have hR : rdF l = .bad 4 := by unfold rdF; rw [if_neg hl]
    rw [hR]
    obtain ⟨va, vc, rfl, _, _⟩ := h.len
    have hd : decide ((65536 : Int) < (l.length : Int)) = true := decide_eq_true (by omega)
    clear h hR
    go_enter Try.func22, Try.ntmps22
    go_wp2
    go_ret2
    exact ⟨_, rfl, FsAt.nil _ _ _, Below.refl _ _⟩
end Go.Proofs.Ytogegmdimfinaaa
