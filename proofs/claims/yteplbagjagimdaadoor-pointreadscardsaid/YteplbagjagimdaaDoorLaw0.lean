/- What the laws of this layer share: small numbers' bytes, the points that every program must know. -/
import Derived.Test.YteplbagjagimdaaDoorOrd
namespace Go.Proofs.YteplbagjagimdaaDoor
open Go.RowKit
/-- A number's two low bytes. -/
def smb (n : Int) : List Nat := [(n % 256).toNat, (n / 256 % 256).toNat]
theorem smb_lim (n : Int) : ∀ i, (smb n).getD i 0 < 256 := lim_list (by
  unfold smb
  have h1 : (n % 256).toNat < 256 := by omega
  have h2 : (n / 256 % 256).toNat < 256 := by omega
  simp [h1, h2])
theorem smb_val (n : Int) : bval ((smb n).take 32) = (n % 65536).toNat := by
  show (n % 256).toNat + 256 * ((n / 256 % 256).toNat + 256 * 0) = _
  omega
set_option maxHeartbeats 1000000 in
theorem small_h {u : Value} {n : Int} {w : World} (h : u = .int .i64 n) : Hands Tryd.prog 16 #[u] w (isb (smb n)) := by
  subst h
  suffices HH : ∀ R_ : STy, (∀ W v, BsAt W v (smb n) → R_.p W v) → Hands Tryd.prog 16 #[.int .i64 n] w R_ from HH _ (fun _ _ h => h)
  intro R_ hR_
  have HR := hide hR_
  clear hR_
  unfold Hands
  go_enter Tryd.func16, Tryd.ntmps16
  go_wp2
  go_ret
  refine ⟨_, rfl, (Below.refl _ _).alloc (Nat.le_refl _) _, HR.out _ _ ?_⟩
  have h := marked_at (w := w) (smb n) (smb_lim n) (by show 2 ≤ maxLen; decide) (0, 0)
  have e : ba (smb n) = #[.int .u8 (n % 256), .int .u8 (n / 256 % 256)] := by
    unfold ba smb
    have h1 : (((n % 256).toNat : Nat) : Int) = n % 256 := by omega
    have h2 : (((n / 256 % 256).toNat : Nat) : Int) = n / 256 % 256 := by omega
    simp only [List.map_cons, List.map_nil, h1, h2]
  rw [e] at h
  exact h
theorem lull_P (B : Nat) (S : List Nat) (P : Pt) : LullT B S (isP P) := lull_isv _ _ _
theorem row_P (P : Pt) : RowT 8 (isP P) := row_p _ _
theorem iff_t {p : Prop} (h : p) : true = true ↔ p := ⟨fun _ => h, fun _ => rfl⟩
theorem iff_f {p : Prop} (h : ¬ p) : false = true ↔ p := ⟨fun h => (by cases h), fun h2 => absurd h2 h⟩
theorem g_equ8 {ops : Array Oper} {Q : Exit → Act → World → Prop} {o : Oper} {a : Act} {w : World} (hw : Region.wanted o (yielded ops a.tmps) = true) {x : Operand} {v c : Nat} (ho : o.op = .binOp .eql 5 x (.const (.int .u8 (c : Int))) 5) (hx : a.eval x = .int .u8 (v : Int)) (h : v = c) : Gives Tryd.prog ops Q o (isv (.bool true)) a w := by
  subst h
  refine g_bin hw ho (v := .bool true) ?_ rfl
  rw [hx]
  show (do eqGuard BinOp.eql 5 x (.const (.int .u8 (v : Int))) (Value.int .u8 (v : Int)) (.int .u8 (v : Int)); binOp BinOp.eql 5 (Value.int .u8 (v : Int)) (.int .u8 (v : Int)) : Sem Value).run Tryd.prog w = _
  go_simp
theorem aw0 : (pkb bx byy).getD 0 0 = 88 := by decide +kernel
theorem aw1 : (pkb bx byy).getD 1 0 = 102 := by decide +kernel
theorem aw31 : (pkb bx byy).getD 31 0 = 102 := by decide +kernel
theorem az0 : (pkb 0 1).getD 0 0 = 1 := by decide +kernel
set_option maxRecDepth 100000 in
set_option maxHeartbeats 2000000 in
theorem awake_h {w : World} : Hands Tryd.prog 9 #[] w (isv (.bool true)) := by
  suffices HH : ∀ R_ : STy, (∀ W, R_.p W (.bool true)) → Hands Tryd.prog 9 #[] w R_ from HH _ (fun _ => rfl)
  intro R_ hR_
  have HR := hide hR_
  clear hR_
  unfold Hands
  go_enter Tryd.func9, Tryd.ntmps9
  go_upto_region 1 with fail
  refine wp_region_lined3 (tl := [isP Bp, isb (pkb bx byy)]) (pre := [])
    (plan := [.val [] 0, .val [(2, 0)] 1, .val [(3, 1)] 1])
    [1] [] [] 32 (by kernel_rfl) rfl (by kernel_rfl) ⟨.inr (lull_P _ _ _), ⟨.inl rfl, trivial⟩⟩
    snkAt0 snk0 trivial
      (OkL3.cons (fun a w X_ h => g_call0 (wanted_none rfl) (by kernel_rfl) rfl (p_baseP))
      (OkL3.cons (fun a w X_ h => g_call1 (wanted_none rfl) (by kernel_rfl) rfl (h_bytes h.1))
      (OkL3.cons (fun a w X_ h => g_move (wanted_none rfl) (.inr rfl) h.1)
      OkL3.nil))) ?_
  rintro W1 X1 _ rfl v3 - v1 k1
  refine FinL3.done ?_
  simp only [Act.put, List.setIfInBounds_toArray, List.set_cons_zero, List.set_cons_succ]
  have BEL := hide X1.ext
  clear X1
  go_upto_region 2 with fail
  refine wp_region_lined3 (tl := [isb (pkb bx byy), isv (.int .i64 32), isv (.bool true), isp 88, isv (.int .u8 ((88 : Nat) : Int)), isp 102, isv (.int .u8 ((102 : Nat) : Int)), isP Pt.zero, isb (pkb 0 1), isp (1 : Kp), isv (.int .u8 ((1 : Nat) : Int))]) (pre := [(1, 0)])
    (plan := [.val [(1, 0)] 0, .val [(4, 0)] 1, .val [(5, 1)] 2, .val [(6, 2)] 2, .val [(7, 2), (1, 0)] 0, .val [(7, 2), (8, 0)] 3, .val [(7, 2), (9, 3)] 4, .val [(7, 2), (10, 4)] 2, .val [(7, 2), (11, 2)] 2, .val [(12, 2)] 2, .val [(13, 2), (1, 0)] 0, .val [(13, 2), (14, 0)] 5, .val [(13, 2), (15, 5)] 6, .val [(13, 2), (16, 6)] 2, .val [(13, 2), (17, 2)] 2, .val [(18, 2)] 2, .val [(19, 2), (1, 0)] 0, .val [(19, 2), (20, 0)] 5, .val [(19, 2), (21, 5)] 6, .val [(19, 2), (22, 6)] 2, .val [(19, 2), (23, 2)] 2, .val [(24, 2)] 2, .val [(25, 2)] 7, .val [(25, 2), (26, 7)] 8, .val [(25, 2), (27, 8)] 9, .val [(25, 2), (28, 9)] 10, .val [(25, 2), (29, 10)] 2, .val [(25, 2), (30, 2)] 2, .val [(31, 2)] 2])
    [0, 3, 5, 8, 9] [] [] 32 (by kernel_rfl) rfl (by kernel_rfl) ⟨.inl rfl, ⟨.inr (lull_isv _ _ _), ⟨.inr (lull_isv _ _ _), ⟨.inl rfl, ⟨.inr (lull_isv _ _ _), ⟨.inl rfl, ⟨.inr (lull_isv _ _ _), ⟨.inr (lull_P _ _ _), ⟨.inl rfl, ⟨.inl rfl, ⟨.inr (lull_isv _ _ _), trivial⟩⟩⟩⟩⟩⟩⟩⟩⟩⟩⟩
    snkAt0 snk0 ⟨k1, trivial⟩
      (OkL3.cons (fun a w X_ h => g_move (wanted_none rfl) (.inl rfl) h.1)
      (OkL3.cons (fun a w X_ h => g_lenb (wanted_none rfl) rfl h.1 (by rw [pkb_len]; rfl) rfl)
      (OkL3.cons (fun a w X_ h => g_bin (wanted_none rfl) rfl (v := .bool true) (by rw [show a.eval (.tmp 5) = .int .i64 32 from h.1]; go_simp) rfl)
      (OkL3.cons (fun a w X_ h => g_move (wanted_none rfl) (.inl rfl) h.1)
      (OkL3.cons (fun a w X_ h => g_move (wanted_some rfl rfl h.1) (.inl rfl) h.2.1)
      (OkL3.cons (fun a w X_ h => g_ixb (wanted_some rfl rfl h.1) 0 rfl rfl h.2.1 (by rw [pkb_len]; decide) (aw0))
      (OkL3.cons (fun a w X_ h => g_ldb (wanted_some rfl rfl h.1) rfl h.2.1 rfl)
      (OkL3.cons (fun a w X_ h => g_equ8 (wanted_some rfl rfl h.1) rfl h.2.1 rfl)
      (OkL3.cons (fun a w X_ h => g_pick (wanted_none rfl) rfl h.1 h.2.1)
      (OkL3.cons (fun a w X_ h => g_move (wanted_none rfl) (.inl rfl) h.1)
      (OkL3.cons (fun a w X_ h => g_move (wanted_some rfl rfl h.1) (.inl rfl) h.2.1)
      (OkL3.cons (fun a w X_ h => g_ixb (wanted_some rfl rfl h.1) 1 rfl rfl h.2.1 (by rw [pkb_len]; decide) (aw1))
      (OkL3.cons (fun a w X_ h => g_ldb (wanted_some rfl rfl h.1) rfl h.2.1 rfl)
      (OkL3.cons (fun a w X_ h => g_equ8 (wanted_some rfl rfl h.1) rfl h.2.1 rfl)
      (OkL3.cons (fun a w X_ h => g_pick (wanted_none rfl) rfl h.1 h.2.1)
      (OkL3.cons (fun a w X_ h => g_move (wanted_none rfl) (.inl rfl) h.1)
      (OkL3.cons (fun a w X_ h => g_move (wanted_some rfl rfl h.1) (.inl rfl) h.2.1)
      (OkL3.cons (fun a w X_ h => g_ixb (wanted_some rfl rfl h.1) 31 rfl rfl h.2.1 (by rw [pkb_len]; decide) (aw31))
      (OkL3.cons (fun a w X_ h => g_ldb (wanted_some rfl rfl h.1) rfl h.2.1 rfl)
      (OkL3.cons (fun a w X_ h => g_equ8 (wanted_some rfl rfl h.1) rfl h.2.1 rfl)
      (OkL3.cons (fun a w X_ h => g_pick (wanted_none rfl) rfl h.1 h.2.1)
      (OkL3.cons (fun a w X_ h => g_move (wanted_none rfl) (.inl rfl) h.1)
      (OkL3.cons (fun a w X_ h => g_call0 (wanted_some rfl rfl h.1) (by kernel_rfl) rfl (p_zeroP))
      (OkL3.cons (fun a w X_ h => g_call1 (wanted_some rfl rfl h.1) (by kernel_rfl) rfl (h_bytes h.2.1))
      (OkL3.cons (fun a w X_ h => g_ixb (wanted_some rfl rfl h.1) 0 rfl rfl h.2.1 (by rw [pkb_len]; decide) (az0))
      (OkL3.cons (fun a w X_ h => g_ldb (wanted_some rfl rfl h.1) rfl h.2.1 rfl)
      (OkL3.cons (fun a w X_ h => g_equ8 (wanted_some rfl rfl h.1) rfl h.2.1 rfl)
      (OkL3.cons (fun a w X_ h => g_pick (wanted_none rfl) rfl h.1 h.2.1)
      (OkL3.cons (fun a w X_ h => g_move (wanted_none rfl) (.inr rfl) h.1)
      OkL3.nil))))))))))))))))))))))))))))) ?_
  rintro W2 X2 v4 - _ rfl _ rfl _ rfl v8 - v9 - _ rfl _ rfl _ rfl _ rfl v14 - v15 - _ rfl _ rfl _ rfl _ rfl v20 - v21 - _ rfl _ rfl _ rfl _ rfl _ rfl v27 - v28 - _ rfl _ rfl _ rfl _ rfl
  refine FinL3.done ?_
  simp only [Act.put, List.setIfInBounds_toArray, List.set_cons_zero, List.set_cons_succ]
  replace BEL := hide (Below.chain BEL.out X2.ext)
  clear X2
  go_wp2
  go_ret
  exact ⟨_, rfl, BEL.out, HR.out _⟩
end Go.Proofs.YteplbagjagimdaaDoor
