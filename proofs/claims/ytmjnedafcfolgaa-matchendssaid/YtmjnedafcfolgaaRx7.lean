/- Atoms: the program's calls that read one. -/
import Derived.Test.YtmjnedafcfolgaaRx2
import Derived.Test.YtmjnedafcfolgaaRx6
namespace Go.Proofs.Ytmjnedafcfolgaa
open Go.RowKit
/-- What a call that reads steps answers: the steps, the reader behind them; or none, and the error. -/
def Ans (w : World) (g : Nat) (s : ByteArray) (d : Nat) (R : Rd (List In)) (e : Ending) (w' : World) : Prop :=
  match R with
  | .ok a u => (∃ v, e = .returned (.tuple #[v, .int .i64 0]) ∧ LsAt w' v a ∧ PAt w' g s u d) ∧ w.grownBy w' (some g)
  | .bad n => (e = .returned (.tuple #[.slice none 0 0, .int .i64 (n : Int)]) ∧ (n = 3 ∨ n = 4)) ∧ w.grownBy w' (some g)
/-- The whole of a variable that holds a set, read. -/
theorem wpList_load_set {ops : Array Oper} {rest : List Oper} {o : Oper} {a : Act} {w : World} {Q : Exit → Act → World → Prop} (hgd : o.guard = none) (x : Operand) (ho : o.op = .load 65 x) {m : Nat} {s : Nat → Nat} (hx : a.eval x = .pointer (some ⟨m, 0, none⟩)) (h : SAt w m s)
    (hk : wpList Try.prog ops Q rest (a.put o.dst (sv s)) w) : wpList Try.prog ops Q (o :: rest) a w :=
  wpList_load_row hgd 65 x ho m hx 65 #[.int .u64 (s 0 : Int), .int .u64 (s 1 : Int), .int .u64 (s 2 : Int), .int .u64 (s 3 : Int)] (0, 0) (.array 4 28) h.2 Try.underlying65 rfl sizeB hk
theorem wpList_store_set {ops : Array Oper} {rest : List Oper} {o : Oper} {a : Act} {w : World} {Q : Exit → Act → World → Prop} (hgd : o.guard = none) (x y : Operand) (ho : o.op = .store 65 x y) {m : Nat} {s u : Nat → Nat} (hx : a.eval x = .pointer (some ⟨m, 0, none⟩)) (hy : a.eval y = sv u) (h : SAt w m s) (hu : ∀ j, u j < 18446744073709551616)
    (hk : ∀ w', SAt w' m u → w.grownBy w' (some m) → wpList Try.prog ops Q rest (a.put o.dst undef) w') : wpList Try.prog ops Q (o :: rest) a w :=
  wpList_store_row hgd 65 x y ho m #[.int .u64 (u 0 : Int), .int .u64 (u 1 : Int), .int .u64 (u 2 : Int), .int .u64 (u 3 : Int)] hx hy 65 #[.int .u64 (s 0 : Int), .int .u64 (s 1 : Int), .int .u64 (s 2 : Int), .int .u64 (s 3 : Int)] h.2 sizeB rfl (by simp [Value.oneCell'])
    (hk _ ⟨hu, setRow_heap _ _ _ _ _ _ h.2⟩ ⟨rfl, rfl, rfl, by simp, fun k _ hne => setRow_other w m k _ (fun e => hne (by rw [e]))⟩)
theorem zs_new (w : World) : SAt (w.alloc (.cells #[.int .u64 0, .int .u64 0, .int .u64 0, .int .u64 0] 65)) w.heap.size zs := ⟨fun _ => by unfold zs; decide, heap_alloc_last _ _⟩
theorem add_lt {s : Nat → Nat} (h : ∀ j, s j < 18446744073709551616) : ∀ (n c : Nat), ∀ j, addN s c n j < 18446744073709551616 := by
  intro n
  induction n generalizing s with
  | zero => intro c; exact h
  | succ n ih => intro c; exact ih (put_lt h c) _
set_option maxRecDepth 100000 in
set_option maxHeartbeats 1000000 in
theorem first_any {w : World} {g : Nat} {s : ByteArray} {t : List Nat} {d : Nat} (h : PAt w g s t d) : Calls Try.prog 37 #[.pointer (some ⟨g, 0, none⟩)] w (Ans w g s d (.ok [stepI 4] t)) := by
  have H0 := hide h
  clear h
  go_enter Try.func37, Try.ntmps37
  go_wp2_with fail
  refine (step_any 4).mono ?_
  rintro e_ w1 ⟨v, rfl, h1, b1⟩
  have H1 := hide (And.intro h1 b1)
  clear h1 b1
  go_wp2
  go_ret2
  exact ⟨⟨_, rfl, H1.out.1, H0.out.ext H1.out.2⟩, Ext.gr H1.out.2 _⟩

set_option maxRecDepth 100000 in
set_option maxHeartbeats 1000000 in
theorem last_any {w : World} {g : Nat} {s : ByteArray} {t : List Nat} {d : Nat} (h : PAt w g s t d) : Calls Try.prog 38 #[.pointer (some ⟨g, 0, none⟩)] w (Ans w g s d (.ok [stepI 5] t)) := by
  have H0 := hide h
  clear h
  go_enter Try.func38, Try.ntmps38
  go_wp2_with fail
  refine (step_any 5).mono ?_
  rintro e_ w1 ⟨v, rfl, h1, b1⟩
  have H1 := hide (And.intro h1 b1)
  clear h1 b1
  go_wp2
  go_ret2
  exact ⟨⟨_, rfl, H1.out.1, H0.out.ext H1.out.2⟩, Ext.gr H1.out.2 _⟩

set_option maxRecDepth 100000 in
theorem nothing_any {w : World} {g : Nat} {s : ByteArray} {d : Nat} : Calls Try.prog 39 #[.pointer (some ⟨g, 0, none⟩)] w (Ans w g s d (.bad 3)) := by
  go_enter Try.func39, Try.ntmps39
  go_wp2
  go_ret2
  exact ⟨⟨rfl, .inl rfl⟩, grown_refl _ _⟩

set_option maxRecDepth 100000 in
set_option maxHeartbeats 1000000 in
theorem any_any {w : World} {g : Nat} {s : ByteArray} {t : List Nat} {d : Nat} (h : PAt w g s t d) : Calls Try.prog 34 #[.pointer (some ⟨g, 0, none⟩)] w (Ans w g s d (.ok [charI (othS zs)] t)) := by
  have H0 := hide h
  clear h
  have HZ := hide (zs_new w)
  have HB := hide (alloc_below w (.cells #[.int .u64 0, .int .u64 0, .int .u64 0, .int .u64 0] 65))
  go_enter Try.func34, Try.ntmps34
  go_wp2_with (refine wpList_load_set rfl (.tmp 4) rfl rfl HZ.out ?_)
  refine (others_any zs HZ.out.1).mono ?_
  rintro e_ w1 ⟨rfl, b1⟩
  replace HB := hide (Below.chain HB.out b1)
  clear b1
  go_wp2_with fail
  refine (char_any (othS zs)).mono ?_
  rintro e_ w2 ⟨v, rfl, h2, b2⟩
  replace HB := hide (Below.chain HB.out b2)
  have H2 := hide h2
  clear h2 b2
  go_wp2
  go_ret2
  exact ⟨⟨_, rfl, H2.out, H0.out.ext HB.out⟩, Ext.gr HB.out _⟩

set_option maxRecDepth 100000 in
set_option maxHeartbeats 1000000 in
theorem only_any {w : World} {g : Nat} {s : ByteArray} {t : List Nat} {d : Nat} (h : PAt w g s t d) {c : Nat} (hc : c < 256) : Calls Try.prog 44 #[.pointer (some ⟨g, 0, none⟩), .int .u8 (c : Int)] w (Ans w g s d (.ok [onlyI c] t)) := by
  have H0 := hide h
  clear h
  have HZ := hide (zs_new w)
  have HB := hide (alloc_below w (.cells #[.int .u64 0, .int .u64 0, .int .u64 0, .int .u64 0] 65))
  go_enter Try.func44, Try.ntmps44
  go_wp2_with fail
  refine (add_any HZ.out hc hc).mono ?_
  rintro e_ w1 ⟨rfl, h1, g1⟩
  have H1 := hide h1
  replace HB := hide (HB.out.grown g1 (by simp) (fun k hk => by injection hk with hk; omega))
  clear h1 g1
  go_wp2_with (refine wpList_load_set rfl (.tmp 6) rfl rfl H1.out ?_)
  refine (char_any (addS zs c c)).mono ?_
  rintro e_ w2 ⟨v, rfl, h2, b2⟩
  replace HB := hide (Below.chain HB.out b2)
  have H2 := hide h2
  clear h2 b2
  go_wp2
  go_ret2
  exact ⟨⟨_, rfl, H2.out, H0.out.ext HB.out⟩, Ext.gr HB.out _⟩

theorem prev_bt {s : ByteArray} {p t : List Nat} {c i : Nat} (hp : bl s = p ++ c :: t) (hi : i + t.length = s.size) : 1 ≤ i ∧ bt s (i - 1) = c ∧ i - 1 < s.size ∧ c < 256 := by
  have h1 := congrArg List.length hp
  rw [bl_len, List.length_append, List.length_cons] at h1
  have h2 : (bl s).drop (i - 1) = c :: t := by
    rw [hp, show i - 1 = p.length by omega, List.drop_left]
  obtain ⟨b1, b2, _⟩ := bt_of h2
  exact ⟨by omega, b1, b2, bl_lt s c (by rw [hp]; simp)⟩
set_option maxRecDepth 100000 in
set_option maxHeartbeats 1000000 in
theorem itself_any {w : World} {g : Nat} {s : ByteArray} {t : List Nat} {d : Nat} (h : PAt w g s t d) {c : Nat} (hp : ∃ p, bl s = p ++ c :: t) : Calls Try.prog 40 #[.pointer (some ⟨g, 0, none⟩)] w (Ans w g s d (.ok [onlyI c] t)) := by
  have H0 := hide h
  obtain ⟨p, hp⟩ := hp
  obtain ⟨i, hi, _, hr⟩ := h
  obtain ⟨h1i, b1, b2, hc⟩ := prev_bt hp hi.1
  obtain ⟨x0, _⟩ := row_reads hr
  have c0 := x0 0
  have c1 := x0 1
  simp only [List.getElem?_toArray, List.getElem?_cons_zero, List.getElem?_cons_succ] at c0 c1
  have hix := str_ix s (i - 1) b2
  rw [b1, show ((i - 1 : Nat) : Int) = (i : Int) - 1 by omega] at hix
  have hi2 : (i : Int) ≤ 256 := by omega
  have hw : IntKind.i64.wrap ((i : Int) - 1) = (i : Int) - 1 := by rw [IntKind.wrap_i64]; omega
  clear x0 hi b1 b2 hr hp h1i
  go_enter Try.func40, Try.ntmps40
  go_wp2_with fail
  go_region_with (go_at_call 44; refine (only_any (H0.out.ext (Below.refl _ _).drew) hc).mono ?_; rintro e w2 ⟨⟨v, rfl, h2, h3⟩, g2⟩)
  all_goals
    have H2 := hide (And.intro h2 (And.intro h3 (grown_trans (Ext.gr ((Below.refl w.heap.size w).drew) (some g)) g2)))
    clear h2 h3 g2
    first
      | go_ret2
      | (go_wp2; go_ret2)
    exact ⟨⟨_, rfl, H2.out.1, H2.out.2.1⟩, H2.out.2.2⟩

set_option maxRecDepth 100000 in
set_option maxHeartbeats 1000000 in
theorem escaped_any {w : World} {g : Nat} {s : ByteArray} {t : List Nat} {d : Nat} (h : PAt w g s t d) : Calls Try.prog 33 #[.pointer (some ⟨g, 0, none⟩)] w (Ans w g s d (escS t)) := by
  have H0 := hide h
  cases t with
  | nil =>
    clear h
    go_enter Try.func33, Try.ntmps33
    go_wp2_with fail
    refine (next_nil H0.out).mono ?_
    rintro e_ w1 ⟨rfl, h1_, h2_⟩
    have H1 := hide (And.intro h1_ h2_)
    clear h1_ h2_
    go_wp2
    go_ret2
    exact ⟨⟨rfl, .inl rfl⟩, H1.out.2⟩

  | cons c u =>
    have hc : c < 256 := by obtain ⟨i, _, hb, _⟩ := h; exact bl_lt s c (List.mem_of_mem_drop (hb ▸ List.mem_cons_self))
    clear h
    go_enter Try.func33, Try.ntmps33
    go_wp2_with fail
    refine (next_cons H0.out).mono ?_
    rintro e_ w1 ⟨rfl, h1_, h2_⟩
    have H1 := hide (And.intro h1_ h2_)
    clear h1_ h2_
    obtain ⟨i, ib, dm, c0, c1, c2, f1, f2, SA, SD⟩ := PAt.cells H1.out.1
    have HS := hide (And.intro (SA.out _ _ rfl) (grown_trans H1.out.2 (grown_set w1 g 1 (.int .i64 ((i : Int) + 1)))))
    clear SA SD
    go_wp2_with fail
    refine (only_any HS.out.1 hc).mono ?_
    rintro e_ w2 ⟨⟨v, rfl, h2, h3⟩, g2⟩
    have H2 := hide (And.intro h2 (And.intro h3 (grown_trans HS.out.2 g2)))
    clear h2 h3 g2
    go_wp2
    go_ret2
    exact ⟨⟨_, rfl, H2.out.1, H2.out.2.1⟩, H2.out.2.2⟩

end Go.Proofs.Ytmjnedafcfolgaa
