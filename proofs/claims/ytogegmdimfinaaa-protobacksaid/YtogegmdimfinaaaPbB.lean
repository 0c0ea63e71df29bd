/- What is put is read; what is read, of whatever bytes, is written as these; a message that there isn't has none: the law ProtoBack answers true for all inputs. -/
import Derived.Test.YtogegmdimfinaaaPbU
namespace Go.Proofs.Ytogegmdimfinaaa
open Go.RowKit
theorem MAtX.offT {w w' : World} {A : Nat → Prop} {g : Nat} {bs : List (List Nat)} (h : MAtX w A g bs) {X : Option Nat} (hg : w.grownBy w' X) (hm : Off w X 29) (h1 : Off w X 64) (h5 : Off w X 5) : MAtX w' A g bs := by
  obtain ⟨p, e1, e2⟩ := h
  exact ⟨p, heap_off hg e1 hm, e2.off hg h1 h5⟩
theorem flds_err : ∀ (m : Nat) (l : List Nat) (e : Nat), l.length ≤ m → limB l → flds m l = .bad e → e = 2 ∨ e = 3
  | m, [], e, _, _, h => by cases m <;> (unfold flds at h; cases h)
  | 0, c :: t, e, hm, _, _ => by simp at hm
  | m + 1, c :: t, e, hm, hl, h => by
    unfold flds at h
    split at h
    · rename_i e' hf; injection h with h; subst h; exact fld1_err hf
    · rename_i f r hf
      obtain ⟨h1, h2⟩ := fld1_dec hl hf
      have h3 := enc_pos f
      have h4 := congrArg List.length h2
      rw [List.length_append] at h4
      cases hq : flds m r with
      | bad e2 =>
        rw [hq] at h
        injection h with h
        subst h
        exact flds_err m r e2 (by omega) (fun c hc => hl c (by rw [h2]; simp [hc])) hq
      | ok gs => rw [hq] at h; cases h
theorem enc_step (fs : List Fld) (k : Nat) (f : Fld) (h : fs[k]? = some f) : (fs.take (k + 1)).map Fld.enc = (fs.take k).map Fld.enc ++ [f.enc] := by
  rw [List.take_add_one, h]
  simp
theorem encs_len : ∀ fs : List Fld, fs.length ≤ (encs fs).length
  | [] => by simp
  | f :: fs => by
    have h1 := encs_len fs
    have h2 := enc_pos f
    rw [encs_cons, List.length_append, List.length_cons]
    omega
theorem enc_le {f : Fld} : f.b.length ≤ f.enc.length ∨ f.b.length ≤ f.enc.length + 0 ∨ f.whole = false := by
  unfold Fld.enc
  by_cases h : f.whole = true
  · rw [if_pos h]; left; simp; omega
  · right; right; simpa using h
theorem encs_mem : ∀ {fs : List Fld} {f : Fld}, f ∈ fs → f.enc.length ≤ (encs fs).length
  | g :: fs, f, h => by
    rw [encs_cons, List.length_append]
    rcases List.mem_cons.1 h with rfl | h
    · omega
    · have := encs_mem h; omega
theorem b_len {f : Fld} (h : f.Ok) : f.b.length ≤ f.enc.length := by
  rcases enc_le (f := f) with h1 | h1 | h1
  · exact h1
  · omega
  · rw [h.b0 h1]; simp
set_option linter.unusedSimpArgs false in
set_option maxRecDepth 100000 in
set_option maxHeartbeats 8000000 in
theorem back_walk (v rw : Value) (ps : List Pu) (raw : List Nat) (w : World) (h : PsAt w v ps) (hr : BsAt w rw raw) :
    Calls Try.prog 5 #[v, rw] w fun e w' => e = .returned (.bool true) ∧ Below w.heap.size w w' := by
  have HF := hide (few_any h)
  have HRW := hide hr
  have H0 := hide h
  obtain ⟨b, o, c, ao, rfl, hc, hl, hh⟩ := h
  obtain ⟨ra, rc, rfl, _, _⟩ := hr.len
  have HH := hide hh
  clear hh hr
  go_enter Try.func5, Try.ntmps5
  go_wp2_with fail
  refine HF.out.mono ?_
  rintro e w1 ⟨Fw, rfl, hFw, b1⟩
  cases Fw with
  | false =>
    have HB := hide b1
    clear hFw b1
    go_wp2_with fail
    refine (awake_any w1).mono ?_
    rintro e w2 ⟨rfl, b2⟩
    have R := hide (Below.chain HB.out b2)
    clear b2
    go_wp2
    go_ret
    exact ⟨rfl, R.out⟩
  | true =>
    by_cases hr5 : raw.length ≤ 500
    · have hd5 : decide ((500 : Int) < (raw.length : Int)) = false := decide_eq_false (by omega)
      have hS := few_small (hFw rfl)
      have HVAL := hide (H0.out.valid (hFw rfl).2)
      have HB := hide b1
      have HSM := hide (And.intro hS.1 (And.intro hS.2 (hFw rfl).1))
      have M0 := hide (MAt.new (A := fun _ => True) w1)
      have B0 := hide (alloc_below w1 (.cells #[.pointer none] 29))
      have HR5 := hide hr5
      clear hFw b1 hS
      go_wp2
      go_loopw [31, 6] (fun i s wr => ∃ k : Nat, k ≤ ps.length ∧ i = .int .i64 (k : Int) ∧ MAt wr w1.heap.size (pieces (ps.take k)) ∧ FsO 53 w1 wr w1.heap.size s (wantF (ps.take k)) ∧ Below w1.heap.size w1 wr) (fun i _ _ => ps.length - (intOf i).toNat)
      case atStart => exact ⟨0, Nat.zero_le _, rfl, M0.out, FsO.nil _ _ _ _, B0.out⟩
      case round =>
        obtain ⟨k, hk, rfl, hM, hO, hB⟩ := hrel
        by_cases hlt : k < ps.length
        · obtain ⟨rfl, hbb, hps⟩ := HH.out (fun e => by subst e; simp at hlt)
          obtain ⟨p, hp⟩ : ∃ p, ps[k]? = some p := ⟨_, List.getElem?_eq_getElem hlt⟩
          obtain ⟨bv, hbs, ⟨hpn, hpN, hbl⟩, hcs⟩ := (hps k p hp).read hbb
          obtain ⟨c0, c1, c2, c3⟩ := hcs wr (Below.chain HB.out hB)
          have HBS := hide hbs
          have hix := fun w_ => ix_puts w_ b o ps.length c k hlt
          have hst := pieces_step ps k p hp
          have hsw := wantF_step ps k p hp
          obtain ⟨ba, bc, rfl, _, _⟩ := hbs.len
          obtain ⟨PK, hPK⟩ : ∃ PK, pieces (ps.take k) = PK := ⟨_, rfl⟩
          rw [hPK] at hst hM
          have b2 := alloc_below wr (.cells #[.int .i64 p.num, .bool p.whole, .int .u64 (p.n : Int), .slice ba p.b.length bc] 32)
          have HX := hide (And.intro (hM.ext b2) (And.intro (hO.ext b2) (And.intro (Below.chain hB b2) (And.intro hst (And.intro hsw hpN)))))
          clear hst hM hO hB hbs hps hPK hbb b2 hcs hsw
          cases hwh : p.whole with
          | true =>
            rw [hwh] at c1 HX
            have hpp : putP p = putR p.num p.b := by unfold putP; rw [if_pos hwh]
            have HC := hide (Raw_any (num := p.num) HX.out.1 (HBS.out.ext (Below.chain HB.out HX.out.2.2.1)))
            rw [← hpp] at HC
            obtain ⟨PP, hPP⟩ : ∃ PP, putP p = PP := ⟨_, rfl⟩
            rw [hPP] at HC HX
            clear hpp hPP
            go_wp2_with fail
            refine HC.out.mono ?_
            rintro e w3 ⟨rfl, m3, g3⟩
            obtain ⟨hM, hO, hB, hst, hsw, hpN⟩ := HX.out
            have hrow := heap_off g3 (heap_alloc_last wr (.cells #[.int .i64 p.num, .bool true, .int .u64 (p.n : Int), .slice ba p.b.length bc] 32)) (hM.offs (by decide))
            have x0 := (row_reads hrow).1
            have d0 := x0 0
            have d1 := x0 1
            have d2 := x0 2
            have d3 := x0 3
            simp only [List.getElem?_toArray, List.getElem?_cons_zero, List.getElem?_cons_succ] at d0 d1 d2 d3
            have hB3 : Below w1.heap.size w1 w3 := hB.grown g3 hB.size (fun q hq => by injection hq with hq; omega)
            have H3 := hide (And.intro m3 (And.intro (hO.off g3 (hM.offs (by decide))) (And.intro hB3 (And.intro hst (And.intro hsw hpN)))))
            clear hM hO hB hst hsw hpN hrow x0 hB3 m3 g3 HX HC c0 c1 c2 c3 hix
            by_cases hin : 1 ≤ p.num ∧ p.num ≤ 100
            · have e1 : decide ((1 : Int) ≤ p.num) = true := decide_eq_true hin.1
              have e2 : decide (p.num ≤ (100 : Int)) = true := decide_eq_true hin.2
              obtain ⟨kk, hkk⟩ : ∃ kk : Nat, p.num = (kk : Int) := ⟨p.num.toNat, by omega⟩
              have hfp : fp p = [⟨kk, true, 0, p.b⟩] := by
                unfold fp
                rw [if_pos hin, hwh, hkk]
                simp
              rw [hfp] at H3
              rw [hkk] at d0 e1 e2
              have hNF := H3.out.2.1
              have bX := Below.chain (alloc_below w3 (.cells #[.int .i64 (kk : Int), .bool true, .int .u64 0, .slice ba p.b.length bc] 53)) (alloc_below _ (.cells #[.int .i64 (kk : Int), .bool true, .int .u64 0, .slice ba p.b.length bc] 53))
              have BX := hide bX
              have LX := hide (heap_alloc_last (w3.alloc (.cells #[.int .i64 (kk : Int), .bool true, .int .u64 0, .slice ba p.b.length bc] 53)) (.cells #[.int .i64 (kk : Int), .bool true, .int .u64 0, .slice ba p.b.length bc] 53))
              have BLN := hide (show (wantF (ps.take k)).length ≤ 1000000 by have h9 := wantF_len (ps.take k); rw [List.length_take] at h9; have := HSM.out.2.2; omega)
              have hwl : w3.heap.size < (w3.alloc (.cells #[.int .i64 (kk : Int), .bool true, .int .u64 0, .slice ba p.b.length bc] 53)).heap.size := by simp
              obtain ⟨WK, hWK⟩ : ∃ WK, wantF (ps.take k) = WK := ⟨_, rfl⟩
              rw [hWK] at H3 BLN
              have HLX : Hid (((w3.alloc (.cells #[.int .i64 (kk : Int), .bool true, .int .u64 0, .slice ba p.b.length bc] 53)).alloc (.cells #[.int .i64 (kk : Int), .bool true, .int .u64 0, .slice ba p.b.length bc] 53)).heap[w3.heap.size + 1]? = some (.cells #[.int .i64 (kk : Int), .bool true, .int .u64 0, .slice ba p.b.length bc] 53 (0, 0))) := by
                have h9 := LX.out
                rw [show (w3.alloc (.cells #[.int .i64 (kk : Int), .bool true, .int .u64 0, .slice ba p.b.length bc] 53)).heap.size = w3.heap.size + 1 by simp] at h9
                exact h9
              have hwr3 : wr.heap.size < w3.heap.size := by
                have h9 := (World.block_lt_of_cell? w3 _ d0)
                exact h9
              clear hfp hin hkk bX LX hNF hWK
              go_wp2_with (at_builtin; refine wpList_append_fo appR rfl (.tmp 71) (.tmp 73) rfl (W := w1) (base := w1.heap.size) (fs := WK) ⟨kk, true, 0, p.b⟩ (bv := .slice ba p.b.length bc) (H3.out.2.1.ext BX.out) (HBS.out.ext HB.out) rfl HLX.out BLN.out (Nat.le_trans H3.out.2.2.1.size BX.out.size) ?_)
              intro v5 w5 hF5 hg5 hoff5 hk5
              have hB5 : Below w1.heap.size w1 w5 := (Below.chain H3.out.2.2.1 BX.out).grown hg5 (Below.chain H3.out.2.2.1 BX.out).size hk5
              have hM5 := (H3.out.1.ext BX.out).offT hg5 (hoff5 _ (by decide)) (hoff5 _ (by decide)) (hoff5 _ (by decide))
              have H5 := hide (And.intro hM5 (And.intro hF5 (And.intro hB5 (And.intro H3.out.2.2.2.1 H3.out.2.2.2.2.1))))
              clear hF5 hg5 hoff5 hk5 hB5 hM5 H3 d0 d1 d2 d3
              go_wp2
              go_roundw
              case rel => exact ⟨k + 1, by omega, by go_num, by rw [H5.out.2.2.2.1]; exact H5.out.1, by rw [H5.out.2.2.2.2]; exact H5.out.2.1, H5.out.2.2.1⟩
              case measure => simp [intOf]; omega
            · have hfp : fp p = [] := by unfold fp; rw [if_neg hin]
              rw [hfp, List.append_nil] at H3
              by_cases hlo : 1 ≤ p.num
              · have e1 : decide ((1 : Int) ≤ p.num) = true := decide_eq_true hlo
                have e2 : decide (p.num ≤ (100 : Int)) = false := decide_eq_false (by omega)
                clear hfp hin
                go_wp2
                go_roundw
                case rel => exact ⟨k + 1, by omega, by go_num, by rw [H3.out.2.2.2.1]; exact H3.out.1, by rw [H3.out.2.2.2.2.1]; exact H3.out.2.1, H3.out.2.2.1⟩
                case measure => simp [intOf]; omega
              · have e1 : decide ((1 : Int) ≤ p.num) = false := decide_eq_false hlo
                clear hfp hin
                go_wp2
                go_roundw
                case rel => exact ⟨k + 1, by omega, by go_num, by rw [H3.out.2.2.2.1]; exact H3.out.1, by rw [H3.out.2.2.2.2.1]; exact H3.out.2.1, H3.out.2.2.1⟩
                case measure => simp [intOf]; omega
          | false =>
            rw [hwh] at c1 HX
            have hpp : putP p = putI p.num p.n := by unfold putP; rw [if_neg (by rw [hwh]; decide)]
            have HC := hide (Int_any (num := p.num) HX.out.1 HX.out.2.2.2.2.2)
            rw [← hpp] at HC
            obtain ⟨PP, hPP⟩ : ∃ PP, putP p = PP := ⟨_, rfl⟩
            rw [hPP] at HC HX
            clear hpp hPP
            go_wp2_with fail
            refine HC.out.mono ?_
            rintro e w3 ⟨rfl, m3, g3⟩
            obtain ⟨hM, hO, hB, hst, hsw, hpN⟩ := HX.out
            have hrow := heap_off g3 (heap_alloc_last wr (.cells #[.int .i64 p.num, .bool false, .int .u64 (p.n : Int), .slice ba p.b.length bc] 32)) (hM.offs (by decide))
            have x0 := (row_reads hrow).1
            have d0 := x0 0
            have d1 := x0 1
            have d2 := x0 2
            have d3 := x0 3
            simp only [List.getElem?_toArray, List.getElem?_cons_zero, List.getElem?_cons_succ] at d0 d1 d2 d3
            have hB3 : Below w1.heap.size w1 w3 := hB.grown g3 hB.size (fun q hq => by injection hq with hq; omega)
            have H3 := hide (And.intro m3 (And.intro (hO.off g3 (hM.offs (by decide))) (And.intro hB3 (And.intro hst (And.intro hsw hpN)))))
            clear hM hO hB hst hsw hpN hrow x0 hB3 m3 g3 HX HC c0 c1 c2 c3 hix
            by_cases hin : 1 ≤ p.num ∧ p.num ≤ 100
            · have e1 : decide ((1 : Int) ≤ p.num) = true := decide_eq_true hin.1
              have e2 : decide (p.num ≤ (100 : Int)) = true := decide_eq_true hin.2
              obtain ⟨kk, hkk⟩ : ∃ kk : Nat, p.num = (kk : Int) := ⟨p.num.toNat, by omega⟩
              have hfp : fp p = [⟨kk, false, p.n, []⟩] := by
                unfold fp
                rw [if_pos hin, hwh, hkk]
                simp
              rw [hfp] at H3
              rw [hkk] at d0 e1 e2
              have hNF := H3.out.2.1
              have bX := Below.chain (alloc_below w3 (.cells #[.int .i64 (kk : Int), .bool false, .int .u64 (p.n : Int), .slice none 0 0] 53)) (alloc_below _ (.cells #[.int .i64 (kk : Int), .bool false, .int .u64 (p.n : Int), .slice none 0 0] 53))
              have BX := hide bX
              have LX := hide (heap_alloc_last (w3.alloc (.cells #[.int .i64 (kk : Int), .bool false, .int .u64 (p.n : Int), .slice none 0 0] 53)) (.cells #[.int .i64 (kk : Int), .bool false, .int .u64 (p.n : Int), .slice none 0 0] 53))
              have BLN := hide (show (wantF (ps.take k)).length ≤ 1000000 by have h9 := wantF_len (ps.take k); rw [List.length_take] at h9; have := HSM.out.2.2; omega)
              have hwl : w3.heap.size < (w3.alloc (.cells #[.int .i64 (kk : Int), .bool false, .int .u64 (p.n : Int), .slice none 0 0] 53)).heap.size := by simp
              obtain ⟨WK, hWK⟩ : ∃ WK, wantF (ps.take k) = WK := ⟨_, rfl⟩
              rw [hWK] at H3 BLN
              have HLX : Hid (((w3.alloc (.cells #[.int .i64 (kk : Int), .bool false, .int .u64 (p.n : Int), .slice none 0 0] 53)).alloc (.cells #[.int .i64 (kk : Int), .bool false, .int .u64 (p.n : Int), .slice none 0 0] 53)).heap[w3.heap.size + 1]? = some (.cells #[.int .i64 (kk : Int), .bool false, .int .u64 (p.n : Int), .slice none 0 0] 53 (0, 0))) := by
                have h9 := LX.out
                rw [show (w3.alloc (.cells #[.int .i64 (kk : Int), .bool false, .int .u64 (p.n : Int), .slice none 0 0] 53)).heap.size = w3.heap.size + 1 by simp] at h9
                exact h9
              have hwr3 : wr.heap.size < w3.heap.size := by
                have h9 := (World.block_lt_of_cell? w3 _ d0)
                exact h9
              clear hfp hin hkk bX LX hNF hWK
              go_wp2_with (at_builtin; refine wpList_append_fo appR rfl (.tmp 71) (.tmp 73) rfl (W := w1) (base := w1.heap.size) (fs := WK) ⟨kk, false, p.n, []⟩ (bv := .slice none 0 0) (H3.out.2.1.ext BX.out) (nil_bs w1) rfl HLX.out BLN.out (Nat.le_trans H3.out.2.2.1.size BX.out.size) ?_)
              intro v5 w5 hF5 hg5 hoff5 hk5
              have hB5 : Below w1.heap.size w1 w5 := (Below.chain H3.out.2.2.1 BX.out).grown hg5 (Below.chain H3.out.2.2.1 BX.out).size hk5
              have hM5 := (H3.out.1.ext BX.out).offT hg5 (hoff5 _ (by decide)) (hoff5 _ (by decide)) (hoff5 _ (by decide))
              have H5 := hide (And.intro hM5 (And.intro hF5 (And.intro hB5 (And.intro H3.out.2.2.2.1 H3.out.2.2.2.2.1))))
              clear hF5 hg5 hoff5 hk5 hB5 hM5 H3 d0 d1 d2 d3
              go_wp2
              go_roundw
              case rel => exact ⟨k + 1, by omega, by go_num, by rw [H5.out.2.2.2.1]; exact H5.out.1, by rw [H5.out.2.2.2.2]; exact H5.out.2.1, H5.out.2.2.1⟩
              case measure => simp [intOf]; omega
            · have hfp : fp p = [] := by unfold fp; rw [if_neg hin]
              rw [hfp, List.append_nil] at H3
              by_cases hlo : 1 ≤ p.num
              · have e1 : decide ((1 : Int) ≤ p.num) = true := decide_eq_true hlo
                have e2 : decide (p.num ≤ (100 : Int)) = false := decide_eq_false (by omega)
                clear hfp hin
                go_wp2
                go_roundw
                case rel => exact ⟨k + 1, by omega, by go_num, by rw [H3.out.2.2.2.1]; exact H3.out.1, by rw [H3.out.2.2.2.2.1]; exact H3.out.2.1, H3.out.2.2.1⟩
                case measure => simp [intOf]; omega
              · have e1 : decide ((1 : Int) ≤ p.num) = false := decide_eq_false hlo
                clear hfp hin
                go_wp2
                go_roundw
                case rel => exact ⟨k + 1, by omega, by go_num, by rw [H3.out.2.2.2.1]; exact H3.out.1, by rw [H3.out.2.2.2.2.1]; exact H3.out.2.1, H3.out.2.2.1⟩
                case measure => simp [intOf]; omega
        · obtain rfl : k = ps.length := by omega
          rw [List.take_of_length_le (Nat.le_refl _)] at hM hO
          have hPR := put_read HVAL.out HSM.out.2.1
          have hbytes := Bytes_any hM (by have := HSM.out.1; omega) (by have := HSM.out.2.1; omega)
          obtain ⟨FL, hFL⟩ : ∃ FL, (pieces ps).flatten = FL := ⟨_, rfl⟩
          rw [hFL] at hPR hbytes
          have HC := hide hbytes
          have H1 := hide (And.intro hO (And.intro hB hPR))
          clear hM hO hB hPR hbytes hFL hk
          go_wp2_with fail
          refine HC.out.mono ?_
          rintro e w2 ⟨u2, rfl, o2, b2⟩
          have HFd := hide (Fields_any o2.at)
          rw [H1.out.2.2] at HFd
          have H2 := hide (And.intro (H1.out.1.ext b2) (Below.chain H1.out.2.1 b2))
          clear o2 b2 HC H1
          go_wp2_with fail
          refine HFd.out.mono ?_
          rintro e w3 ⟨u3, rfl, f3, b3⟩
          have hsm := same_r (FsAt.readF f3) ((H2.out.1.ext b3).readF (Below.chain H2.out.2 b3))
          have HSa := hide hsm
          have H3 := hide (Below.chain H2.out.2 b3)
          rw [show (Rs.ok (wantF ps)).err = 0 from rfl]
          clear f3 b3 HFd H2 hsm
          go_wp2_with fail
          refine HSa.out.mono ?_
          rintro e w4 ⟨rfl, b4⟩
          have H4 := hide (Below.chain HB.out (Below.chain H3.out b4))
          clear b4 HSa H3
          go_wp2_with fail
          refine (Int_nil (n := 1) (num := 1) (by decide)).mono ?_
          rintro e w5 ⟨rfl, b5⟩
          have H5 := hide (Below.chain H4.out b5)
          clear b5 H4
          go_wp2_with fail
          refine (Raw_nil (num := 1) (HRW.out.ext H5.out) (by have := HR5.out; omega)).mono ?_
          rintro e w6 ⟨rfl, b6⟩
          have H6 := hide (Below.chain H5.out b6)
          clear b6 H5
          go_wp2_with fail
          refine (Bytes_nil w6).mono ?_
          rintro e w7 ⟨rfl, hw7⟩
          replace hw7 := hw7.symm
          subst hw7
          have HFr := hide (Fields_any (HRW.out.ext H6.out))
          go_wp2_with fail
          refine HFr.out.mono ?_
          rintro e W3 ⟨u8, rfl, f8, b8⟩
          have H8 := hide (Below.chain H6.out b8)
          clear b8 HFr H6
          cases hRd : rdF raw with
          | bad e =>
            rw [hRd] at f8
            obtain ⟨ea, ec, rfl⟩ := FsAt.empty f8
            have hne : (((Rs.bad e).err : Int) != 0) = true := by
              unfold rdF at hRd
              rw [if_pos (by omega)] at hRd
              rcases flds_err _ _ _ (Nat.le_refl _) HRW.out.limB hRd with rfl | rfl <;> rfl
            rw [show (Rs.bad e).err = e from rfl] at hne ⊢
            clear f8 hRd
            go_wp2_with fail
            refine (awake_any W3).mono ?_
            rintro e w9 ⟨rfl, b9⟩
            have R := hide (Below.chain H8.out b9)
            clear b9
            go_wp2
            go_ret
            exact ⟨rfl, R.out⟩
          | ok fs =>
            rw [hRd] at f8
            rw [show (Rs.ok fs).err = 0 from rfl]
            have hdec : (∀ f ∈ fs, f.Ok) ∧ raw = encs fs := by
              unfold rdF at hRd
              rw [if_pos (by omega)] at hRd
              exact flds_dec _ _ _ HRW.out.limB hRd
            obtain ⟨ao8, g8, cap8, rfl, hln8, r8⟩ := FsAt.readF f8
            rw [show (Rs.ok fs).got = fs from rfl] at r8 hln8 ⊢
            have HR8 := hide (And.intro r8 hdec)
            have M8 := hide (MAt.new (A := fun _ => True) W3)
            have B8 := hide (alloc_below W3 (.cells #[.pointer none] 29))
            clear f8 r8 hdec hRd
            go_wp2
            go_loopw [116] (fun i wq => ∃ k : Nat, k ≤ fs.length ∧ i = .int .i64 (k : Int) ∧ MAt wq W3.heap.size ((fs.take k).map Fld.enc) ∧ Below W3.heap.size W3 wq) (fun i _ => fs.length - (intOf i).toNat)
            case atStart => exact ⟨0, Nat.zero_le _, rfl, M8.out, B8.out⟩
            case round =>
              obtain ⟨k, hk, rfl, hM, hB⟩ := hrel
              by_cases hlt2 : k < fs.length
              · obtain ⟨f, hf⟩ : ∃ f, fs[k]? = some f := ⟨_, List.getElem?_eq_getElem hlt2⟩
                obtain ⟨rfl, r8⟩ := HR8.out.1 (by omega)
                obtain ⟨bv, hbs, hcs⟩ := r8 k f hf
                obtain ⟨c0, c1, c2, c3⟩ := hcs wr hB
                have hok := HR8.out.2.1 f (List.mem_of_getElem? hf)
                have hbl : f.b.length ≤ 65536 := by
                  have h1 := b_len hok
                  have h2 := encs_mem (List.mem_of_getElem? hf)
                  rw [← HR8.out.2.2] at h2
                  have := HR5.out
                  omega
                have hix := fun w_ => ix_pf w_ g8 fs.length cap8 k hlt2
                have HST := hide (enc_step fs k f hf)
                obtain ⟨ba, bc, rfl, _, _⟩ := hbs.len
                have b2 := alloc_below wr (.cells #[.int .i64 (f.num : Int), .bool f.whole, .int .u64 (f.n : Int), .slice ba f.b.length bc] 54)
                have HX := hide (And.intro (hM.ext b2) (And.intro (Below.chain hB b2) (And.intro (hbs.ext (Below.chain hB b2)) (And.intro hbl hok))))
                clear hM hB hbs hcs r8 b2 hok hbl
                cases hwh : f.whole with
                | true =>
                  have HC := hide (Raw_any (num := (f.num : Int)) HX.out.1 HX.out.2.2.1)
                  have hz0 := HX.out.2.2.2.2.num0 hwh
                  have hfe : (⟨f.num, true, 0, f.b⟩ : Fld) = f := by cases f; simp only at hwh hz0 ⊢; subst hwh hz0; rfl
                  rw [putR_enc ⟨HX.out.2.2.2.2.lo, HX.out.2.2.2.2.hi⟩ HX.out.2.2.2.1, hfe] at HC
                  rw [hwh] at c1 HX HC
                  clear hz0 hfe
                  obtain ⟨EN, hEN⟩ : ∃ EN, f.enc = EN := ⟨_, rfl⟩
                  rw [hEN] at HC
                  have HEN := hide hEN
                  generalize f.num = fnn at *
                  generalize f.n = fnN at *
                  generalize f.b.length = fbl at *
                  clear hEN
                  go_wp2_with fail
                  refine HC.out.mono ?_
                  rintro e wd ⟨rfl, md, gd⟩
                  have hBd : Below W3.heap.size W3 wd := HX.out.2.1.grown gd HX.out.2.1.size (fun q hq => by injection hq with hq; omega)
                  have HD := hide (And.intro md (And.intro hBd HST.out))
                  rw [HEN.out] at HD
                  clear md gd hBd HC HX c0 c1 c2 c3 hix
                  go_wp2
                  go_roundw
                  case rel => exact ⟨k + 1, by omega, by go_num, by rw [HD.out.2.2]; exact HD.out.1, HD.out.2.1⟩
                  case measure => simp [intOf]; omega
                | false =>
                  have HC := hide (Int_any (num := (f.num : Int)) HX.out.1 HX.out.2.2.2.2.n)
                  have hz0 := HX.out.2.2.2.2.b0 hwh
                  have hfe : (⟨f.num, false, f.n, []⟩ : Fld) = f := by cases f; simp only at hwh hz0 ⊢; subst hwh hz0; rfl
                  rw [putI_enc ⟨HX.out.2.2.2.2.lo, HX.out.2.2.2.2.hi⟩, hfe] at HC
                  rw [hwh] at c1 HX HC
                  clear hz0 hfe
                  obtain ⟨EN, hEN⟩ : ∃ EN, f.enc = EN := ⟨_, rfl⟩
                  rw [hEN] at HC
                  have HEN := hide hEN
                  generalize f.num = fnn at *
                  generalize f.n = fnN at *
                  generalize f.b.length = fbl at *
                  clear hEN
                  go_wp2_with fail
                  refine HC.out.mono ?_
                  rintro e wd ⟨rfl, md, gd⟩
                  have hBd : Below W3.heap.size W3 wd := HX.out.2.1.grown gd HX.out.2.1.size (fun q hq => by injection hq with hq; omega)
                  have HD := hide (And.intro md (And.intro hBd HST.out))
                  rw [HEN.out] at HD
                  clear md gd hBd HC HX c0 c1 c2 c3 hix
                  go_wp2
                  go_roundw
                  case rel => exact ⟨k + 1, by omega, by go_num, by rw [HD.out.2.2]; exact HD.out.1, HD.out.2.1⟩
                  case measure => simp [intOf]; omega
              · obtain rfl : k = fs.length := by omega
                rw [List.take_of_length_le (Nat.le_refl _)] at hM
                obtain ⟨PC, hPC⟩ : ∃ PC, fs.map Fld.enc = PC := ⟨_, rfl⟩
                have hfl : PC.flatten = raw := by rw [← hPC, encs_flat]; exact HR8.out.2.2.symm
                have hcn : PC.length ≤ 100000 := by
                  rw [← hPC, List.length_map]
                  have h1 := encs_len fs
                  rw [← HR8.out.2.2] at h1
                  have := HR5.out
                  omega
                rw [hPC] at hM
                have HM := hide hM
                have HS := hide (show PC.length ≤ 100000 ∧ PC.flatten.length ≤ 100000000 ∧ PC.flatten = raw from ⟨hcn, by rw [hfl]; have := HR5.out; omega, hfl⟩)
                have HBB := hide (Below.chain H8.out hB)
                have HRR := hide (HRW.out.ext HBB.out)
                clear hM hB hPC hfl hcn hk
                obtain ⟨g, hg⟩ : ∃ g, W3.heap.size = g := ⟨_, rfl⟩
                rw [hg] at HM ⊢
                clear hg
                go_wp2_with fail
                refine wp_region_typed (tys := fun ix_ => List.getD [ism g PC, isb (raw), isv (.string (sob (raw))), isv (.bool true)] ix_ anyv) (pre := [(1, 1), (15, 0)])
                  (plan := [([(15, 0)], 0), ([(135, 0)], 1), ([(136, 1)], 2), ([(1, 1)], 1), ([(138, 1)], 2), ([(137, 2), (139, 2)], 3), ([(140, 3)], 3), ([(141, 3)], 3), ([(141, 3), (142, 3)], 3), ([(143, 3)], 3)])
                  (by kernel_rfl) 144 (by kernel_rfl) rfl ⟨HRR.out, ⟨⟨rfl, HM.out⟩, trivial⟩⟩
                    (OkL.cons (fun a w X_ h => g_move (wanted_none rfl) (.inl rfl) h.1)
                    (OkL.cons (fun a w X_ h => g_call1 (wanted_none rfl) (by kernel_rfl) rfl (h_bytes h.1 HS.out.1 HS.out.2.1 HS.out.2.2))
                    (OkL.cons (fun a w X_ h => g_str (wanted_none rfl) rfl h.1 rfl)
                    (OkL.cons (fun a w X_ h => g_move (wanted_none rfl) (.inl rfl) h.1)
                    (OkL.cons (fun a w X_ h => g_str (wanted_none rfl) rfl h.1 rfl)
                    (OkL.cons (fun a w X_ h => g_eqs (wanted_none rfl) rfl h.1 h.2.1 (sob_t rfl))
                    (OkL.cons (fun a w X_ h => g_move (wanted_none rfl) (.inl rfl) h.1)
                    (OkL.cons (fun a w X_ h => g_call0 (wanted_some rfl rfl h.1) (by kernel_rfl) rfl (h_awake))
                    (OkL.cons (fun a w X_ h => g_pick (wanted_none rfl) rfl h.1 h.2.1)
                    (OkL.cons (fun a w X_ h => g_move (wanted_none rfl) (.inr rfl) h.1)
                    OkL.nil)))))))))) ?_
                rintro w9 X9 v135 - v136 - _ rfl v138 - _ rfl _ rfl _ rfl _ rfl _ rfl _ rfl
                refine FinL.done ?_
                simp only [Act.put, List.setIfInBounds_toArray, List.set_cons_zero, List.set_cons_succ]
                replace HBB := hide (Below.chain HBB.out X9)
                clear X9
                go_wp2
                go_ret
                exact ⟨rfl, HBB.out⟩
    · have hd5 : decide ((500 : Int) < (raw.length : Int)) = true := decide_eq_true (by omega)
      have HB := hide b1
      clear hFw b1
      go_wp2_with fail
      refine (awake_any w1).mono ?_
      rintro e w2 ⟨rfl, b2⟩
      have R := hide (Below.chain HB.out b2)
      clear b2
      go_wp2
      go_ret
      exact ⟨rfl, R.out⟩
end Go.Proofs.Ytogegmdimfinaaa
