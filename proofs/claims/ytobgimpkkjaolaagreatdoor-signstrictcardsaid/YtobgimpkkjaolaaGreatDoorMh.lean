/- SHA-512: the program's calls, and what they answer. -/
import Derived.Laws.Bits64b
import Derived.Laws.BitsAllLaws
import Derived.Test.YtobgimpkkjaolaaGreatDoorRows
import Derived.WalkKit
import Derived.WalkSpells
import Derived.WalkLawsBesides
import Derived.Deep.WholeRow
import Derived.Deep.MidRow
import Derived.Deep.RegionHeld3
import Derived.Deep.QuietTactic
import Derived.BigQuiet
import Derived.Test.YtobgimpkkjaolaaGreatDoorMb
import Derived.Lib.SlBytesConst
import Derived.Laws.BytesArg
/- Words of 64 bits: how the program's integers are words, and what its operations make of them. Plain mathematics, no condition. -/
namespace Go.Proofs.YtobgimpkkjaolaaGreatDoor.Sh
def wn (x : BitVec 64) : Int := (x.toNat : Int)
theorem w_lt (x : BitVec 64) : x.toNat < 18446744073709551616 := x.isLt
theorem wn_inj {x y : BitVec 64} (h : wn x = wn y) : x = y := BitVec.eq_of_toNat_eq (by unfold wn at h; omega)
theorem wn_nonneg (x : BitVec 64) : 0 ≤ wn x := by unfold wn; omega
theorem w_and (x y : BitVec 64) : bits .and .u64 (wn x) (wn y) = wn (x &&& y) := by
  unfold wn; rw [bits_and_u64_nat _ _ (w_lt x) (w_lt y), BitVec.toNat_and]
theorem w_or (x y : BitVec 64) : bits .or .u64 (wn x) (wn y) = wn (x ||| y) := by
  unfold wn; rw [bits_or_u64_nat _ _ (w_lt x) (w_lt y), BitVec.toNat_or]
theorem w_xor (x y : BitVec 64) : bits .xor .u64 (wn x) (wn y) = wn (x ^^^ y) := by
  unfold wn; rw [bits_xor_u64_nat _ _ (w_lt x) (w_lt y), BitVec.toNat_xor]
theorem w_not (x : BitVec 64) : bits .xor .u64 IntKind.u64.max (wn x) = wn (~~~ x) := by
  have h : IntKind.u64.max = wn (BitVec.allOnes 64) := by decide
  rw [h, w_xor, BitVec.allOnes_xor]
theorem w_add (x y : BitVec 64) : IntKind.u64.wrap (wn x + wn y) = wn (x + y) := by
  unfold wn; rw [IntKind.wrap_u64, BitVec.toNat_add]; omega
theorem w_shl (x : BitVec 64) (n : Nat) : IntKind.u64.wrap (wn x * 2 ^ n) = wn (x <<< n) := by
  unfold wn; rw [IntKind.wrap_u64, BitVec.toNat_shiftLeft, Nat.shiftLeft_eq, Int.natCast_emod, Int.natCast_mul, Int.natCast_pow]; rfl
theorem w_shr (x : BitVec 64) (n : Nat) : wn x / 2 ^ n = wn (x >>> n) := by
  unfold wn; rw [BitVec.toNat_ushiftRight, Nat.shiftRight_eq_div_pow, Int.natCast_ediv, Int.natCast_pow]; rfl
def rotr (x : BitVec 64) (n : Nat) : BitVec 64 := x >>> n ||| x <<< (64 - n)
def sg0 (x : BitVec 64) : BitVec 64 := rotr x 1 ^^^ rotr x 8 ^^^ x >>> 7
def sg1 (x : BitVec 64) : BitVec 64 := rotr x 19 ^^^ rotr x 61 ^^^ x >>> 6
def bg0 (x : BitVec 64) : BitVec 64 := rotr x 28 ^^^ rotr x 34 ^^^ rotr x 39
def bg1 (x : BitVec 64) : BitVec 64 := rotr x 14 ^^^ rotr x 18 ^^^ rotr x 41
def chw (x y z : BitVec 64) : BitVec 64 := x &&& y ^^^ ~~~ x &&& z
def majw (x y z : BitVec 64) : BitVec 64 := x &&& y ^^^ x &&& z ^^^ y &&& z
theorem ch_or (x y z : BitVec 64) : (x &&& y) ||| (~~~ x &&& z) = chw x y z := by
  unfold chw; ext i hi; simp; cases x[i] <;> simp
theorem maj_or (x y z : BitVec 64) : (x &&& y) ||| (x &&& z) ||| (y &&& z) = majw x y z := by
  unfold majw; ext i hi; simp; cases x[i] <;> cases y[i] <;> simp
theorem rotr_or (x : BitVec 64) (n : Nat) : x <<< (64 - n) ||| x >>> n = rotr x n := by
  unfold rotr; exact BitVec.or_comm _ _
end Go.Proofs.YtobgimpkkjaolaaGreatDoor.Sh
/- The leaves of SHA-512: what each small function on words answers, in any world, for all words. -/
namespace Go.Proofs.YtobgimpkkjaolaaGreatDoor.Sh
open Go.RowKit
attribute [local go_sem] w_and w_or w_xor w_not w_add
set_option maxHeartbeats 400000 in
theorem choose_any (x y z : BitVec 64) (w : World) :
    Calls Tryz.prog 122 #[.int .u64 (wn x), .int .u64 (wn y), .int .u64 (wn z)] w fun e w' => e = .returned (.int .u64 (wn (chw x y z))) ∧ w' = w := by
  go_enter Tryz.func122, Tryz.ntmps122
  go_wp2
  go_ret
  refine ⟨?_, rfl⟩
  rw [← ch_or]; rfl
set_option maxHeartbeats 400000 in
theorem maj_any (x y z : BitVec 64) (w : World) :
    Calls Tryz.prog 124 #[.int .u64 (wn x), .int .u64 (wn y), .int .u64 (wn z)] w fun e w' => e = .returned (.int .u64 (wn (majw x y z))) ∧ w' = w := by
  go_enter Tryz.func124, Tryz.ntmps124
  go_wp2
  go_ret
  refine ⟨?_, rfl⟩
  rw [← maj_or]; rfl
set_option maxHeartbeats 400000 in
theorem rotl_any (x : BitVec 64) (k : Int) (j n : Nat) (hn : j + n = 64) (hk : bits BinOp.and IntKind.u64 (IntKind.u64.wrap k) 63 = (j : Int)) (w : World) :
    Calls Tryz.prog 128 #[.int .u64 (wn x), .int .i64 k] w fun e w' => e = .returned (.int .u64 (wn (rotr x n))) ∧ w' = w := by
  have h1 : IntKind.u64.wrap (wn x * 2 ^ min j 64) = wn (x <<< j) := by rw [show min j 64 = j by omega, w_shl]
  have h2 : wn x / 2 ^ min n 64 = wn (x >>> n) := by rw [show min n 64 = n by omega, w_shr]
  have h3 : IntKind.u64.wrap (64 - (j : Int)) = (n : Int) := by rw [IntKind.wrap_u64]; omega
  have hn' : Hid (j + n = 64) := hn
  clear hn
  go_enter Tryz.func128, Tryz.ntmps128
  go_wp2
  go_ret
  refine ⟨?_, rfl⟩
  have := hn'.out
  rw [← rotr_or, show 64 - n = j by omega]; rfl
theorem neg_mask (n : Nat) (h1 : 1 ≤ n) (h2 : n ≤ 63) : bits BinOp.and IntKind.u64 (IntKind.u64.wrap (-(n : Int))) 63 = ((64 - n : Nat) : Int) := by
  have h : ∀ m : Fin 64, 1 ≤ m.val → bits BinOp.and IntKind.u64 (IntKind.u64.wrap (-(m.val : Int))) 63 = ((64 - m.val : Nat) : Int) := by decide +kernel
  exact h ⟨n, by omega⟩ h1
set_option maxHeartbeats 400000 in
theorem rotate_any (x : BitVec 64) (n : Nat) (h1 : 1 ≤ n) (h2 : n ≤ 63) (w : World) :
    Calls Tryz.prog 127 #[.int .u64 (wn x), .int .i64 (n : Int)] w fun e w' => e = .returned (.int .u64 (wn (rotr x n))) ∧ w' = w := by
  have hk : bits BinOp.and IntKind.u64 (IntKind.u64.wrap (-(n : Int))) 63 = ((64 - n : Nat) : Int) := neg_mask n h1 h2
  go_enter Tryz.func127, Tryz.ntmps127
  go_wp2_with fail
  refine (rotl_any x _ (64 - n) n (by omega) hk _).mono ?_
  rintro e w' ⟨rfl, rfl⟩
  go_wp2
  go_ret
  exact ⟨rfl, rfl⟩
theorem w_shr7 (x : BitVec 64) : wn x / (128 : Int) = wn (x >>> 7) := w_shr x 7
theorem w_shr6 (x : BitVec 64) : wn x / (64 : Int) = wn (x >>> 6) := w_shr x 6
set_option maxHeartbeats 400000 in
theorem sg0_any (x : BitVec 64) (w : World) :
    Calls Tryz.prog 126 #[.int .u64 (wn x)] w fun e w' => e = .returned (.int .u64 (wn (sg0 x))) ∧ w' = w := by
  go_enter Tryz.func126, Tryz.ntmps126
  go_wp2_with fail
  refine (rotate_any x 1 (by omega) (by omega) _).mono ?_
  rintro e w' ⟨rfl, rfl⟩
  go_wp2_with fail
  refine (rotate_any x 8 (by omega) (by omega) _).mono ?_
  rintro e w' ⟨rfl, rfl⟩
  go_wp2
  go_ret
  refine ⟨?_, rfl⟩
  show Ending.returned (.int .u64 (bits .xor .u64 (wn (rotr x 1 ^^^ rotr x 8)) (wn x / 128))) = _
  rw [w_shr7, w_xor]; rfl
set_option maxHeartbeats 400000 in
theorem sg1_any (x : BitVec 64) (w : World) :
    Calls Tryz.prog 125 #[.int .u64 (wn x)] w fun e w' => e = .returned (.int .u64 (wn (sg1 x))) ∧ w' = w := by
  go_enter Tryz.func125, Tryz.ntmps125
  go_wp2_with fail
  refine (rotate_any x 19 (by omega) (by omega) _).mono ?_
  rintro e w' ⟨rfl, rfl⟩
  go_wp2_with fail
  refine (rotate_any x 61 (by omega) (by omega) _).mono ?_
  rintro e w' ⟨rfl, rfl⟩
  go_wp2
  go_ret
  refine ⟨?_, rfl⟩
  show Ending.returned (.int .u64 (bits .xor .u64 (wn (rotr x 19 ^^^ rotr x 61)) (wn x / 64))) = _
  rw [w_shr6, w_xor]; rfl
set_option maxHeartbeats 400000 in
theorem bg0_any (x : BitVec 64) (w : World) :
    Calls Tryz.prog 123 #[.int .u64 (wn x)] w fun e w' => e = .returned (.int .u64 (wn (bg0 x))) ∧ w' = w := by
  go_enter Tryz.func123, Tryz.ntmps123
  go_wp2_with fail
  refine (rotate_any x 28 (by omega) (by omega) _).mono ?_
  rintro e w' ⟨rfl, rfl⟩
  go_wp2_with fail
  refine (rotate_any x 34 (by omega) (by omega) _).mono ?_
  rintro e w' ⟨rfl, rfl⟩
  go_wp2_with fail
  refine (rotate_any x 39 (by omega) (by omega) _).mono ?_
  rintro e w' ⟨rfl, rfl⟩
  go_wp2
  go_ret
  exact ⟨rfl, rfl⟩
set_option maxHeartbeats 400000 in
theorem bg1_any (x : BitVec 64) (w : World) :
    Calls Tryz.prog 121 #[.int .u64 (wn x)] w fun e w' => e = .returned (.int .u64 (wn (bg1 x))) ∧ w' = w := by
  go_enter Tryz.func121, Tryz.ntmps121
  go_wp2_with fail
  refine (rotate_any x 14 (by omega) (by omega) _).mono ?_
  rintro e w' ⟨rfl, rfl⟩
  go_wp2_with fail
  refine (rotate_any x 18 (by omega) (by omega) _).mono ?_
  rintro e w' ⟨rfl, rfl⟩
  go_wp2_with fail
  refine (rotate_any x 41 (by omega) (by omega) _).mono ?_
  rintro e w' ⟨rfl, rfl⟩
  go_wp2
  go_ret
  exact ⟨rfl, rfl⟩
set_option maxHeartbeats 400000 in
theorem ref_rotr (x : BitVec 64) (n : Nat) (h1 : 1 ≤ n) (h2 : n ≤ 63) (w : World) :
    Calls Tryz.prog 47 #[.int .u64 (wn x), .int .u64 (n : Int)] w fun e w' => e = .returned (.int .u64 (wn (rotr x n))) ∧ w' = w := by
  have e1 := w_shl x (64 - n)
  have e2 := w_shr x n
  have e3 : IntKind.u64.wrap (64 - (n : Int)) = ((64 - n : Nat) : Int) := by rw [IntKind.wrap_u64]; omega
  go_enter Tryz.func47, Tryz.ntmps47
  go_wp2
  go_ret
  exact ⟨rfl, rfl⟩
end Go.Proofs.YtobgimpkkjaolaaGreatDoor.Sh
/- SHA-512 on lists: the words of a piece, the rounds, the sum. Plain mathematics, no condition. -/
namespace Go.Proofs.YtobgimpkkjaolaaGreatDoor.Sh
def bn (b : UInt8) : Int := (b.toNat : Int)
def b64 (b : UInt8) : BitVec 64 := BitVec.ofNat 64 b.toNat
theorem b64_wrap (b : UInt8) : IntKind.u64.wrap (bn b) = wn (b64 b) := by
  have := b.toNat_lt
  unfold bn b64 wn; rw [IntKind.wrap_u64, BitVec.toNat_ofNat]; omega
def lb (x : BitVec 64) : UInt8 := UInt8.ofNat x.toNat
theorem lb_wrap (x : BitVec 64) : IntKind.u8.wrap (wn x) = bn (lb x) := by
  unfold bn lb wn; rw [IntKind.wrap_u8', UInt8.toNat_ofNat']; omega
def be8 (x : BitVec 64) : Nat → List UInt8
  | 0 => []
  | k + 1 => be8 x k ++ [lb (x >>> (56 - 8 * k))]
theorem be8_len (x : BitVec 64) : ∀ k, (be8 x k).length = k
  | 0 => rfl
  | k + 1 => by simp [be8, be8_len x k]
def wc (x : BitVec 64) : Value := .int .u64 (wn x)
def bc (b : UInt8) : Value := .int .u8 (bn b)
def wa (l : List (BitVec 64)) : Array Value := (l.map wc).toArray
def ba (l : List UInt8) : Array Value := (l.map bc).toArray
theorem wa_size (l : List (BitVec 64)) : (wa l).size = l.length := by simp [wa]
theorem ba_size (l : List UInt8) : (ba l).size = l.length := by simp [ba]
theorem wa_get (l : List (BitVec 64)) (i : Nat) (h : i < l.length) : (wa l)[i]? = some (.int .u64 (wn (l.getD i 0))) := by
  simp [wa, h, wc]
theorem ba_get (l : List UInt8) (i : Nat) (h : i < l.length) : (ba l)[i]? = some (.int .u8 (bn (l.getD i 0))) := by
  simp [ba, h, bc]
theorem wa_set (l : List (BitVec 64)) (i : Nat) (x : BitVec 64) : (wa l).setIfInBounds i (.int .u64 (wn x)) = wa (l.set i x) := by
  simp [wa, wc, List.map_set]
theorem wa_one (l : List (BitVec 64)) : (wa l).all (·.oneCell') = true := by
  rw [Array.all_eq_true_iff_forall_mem]; intro v hv; simp [wa, wc] at hv; obtain ⟨x, _, rfl⟩ := hv; rfl
def put (ws : List (BitVec 64)) (i : Nat) (b : UInt8) : List (BitVec 64) := ws.set (i / 8) (ws.getD (i / 8) 0 <<< 8 ||| b64 b)
def z80 : List (BitVec 64) := List.replicate 80 0
def w1 (bs : List UInt8) : Nat → List (BitVec 64)
  | 0 => z80
  | k + 1 => put (w1 bs k) k (bs.getD k 0)
def nxw (ws : List (BitVec 64)) (i : Nat) : BitVec 64 := sg1 (ws.getD (i - 2) 0) + ws.getD (i - 7) 0 + sg0 (ws.getD (i - 15) 0) + ws.getD (i - 16) 0
def w2 (ws : List (BitVec 64)) : Nat → List (BitVec 64)
  | 0 => ws
  | k + 1 => (w2 ws k).set (16 + k) (nxw (w2 ws k) (16 + k))
def spreadW (bs : List UInt8) : List (BitVec 64) := w2 (w1 bs 128) 64
theorem w1_len (bs : List UInt8) : ∀ k, (w1 bs k).length = 80
  | 0 => by simp [w1, z80]
  | k + 1 => by simp [w1, put, w1_len bs k]
theorem w2_len (ws : List (BitVec 64)) : ∀ k, (w2 ws k).length = ws.length
  | 0 => rfl
  | k + 1 => by simp [w2, w2_len ws k]
theorem spreadW_len (bs : List UInt8) : (spreadW bs).length = 80 := by simp [spreadW, w2_len, w1_len]
def h0w : List (BitVec 64) := [0x6a09e667f3bcc908, 0xbb67ae8584caa73b, 0x3c6ef372fe94f82b, 0xa54ff53a5f1d36f1, 0x510e527fade682d1, 0x9b05688c2b3e6c1f, 0x1f83d9abfb41bd6b, 0x5be0cd19137e2179]
def kw : List (BitVec 64) := [0x428a2f98d728ae22, 0x7137449123ef65cd, 0xb5c0fbcfec4d3b2f, 0xe9b5dba58189dbbc, 0x3956c25bf348b538, 0x59f111f1b605d019, 0x923f82a4af194f9b, 0xab1c5ed5da6d8118, 0xd807aa98a3030242, 0x12835b0145706fbe, 0x243185be4ee4b28c, 0x550c7dc3d5ffb4e2, 0x72be5d74f27b896f, 0x80deb1fe3b1696b1, 0x9bdc06a725c71235, 0xc19bf174cf692694, 0xe49b69c19ef14ad2, 0xefbe4786384f25e3, 0x0fc19dc68b8cd5b5, 0x240ca1cc77ac9c65, 0x2de92c6f592b0275, 0x4a7484aa6ea6e483, 0x5cb0a9dcbd41fbd4, 0x76f988da831153b5, 0x983e5152ee66dfab, 0xa831c66d2db43210, 0xb00327c898fb213f, 0xbf597fc7beef0ee4, 0xc6e00bf33da88fc2, 0xd5a79147930aa725, 0x06ca6351e003826f, 0x142929670a0e6e70, 0x27b70a8546d22ffc, 0x2e1b21385c26c926, 0x4d2c6dfc5ac42aed, 0x53380d139d95b3df, 0x650a73548baf63de, 0x766a0abb3c77b2a8, 0x81c2c92e47edaee6, 0x92722c851482353b, 0xa2bfe8a14cf10364, 0xa81a664bbc423001, 0xc24b8b70d0f89791, 0xc76c51a30654be30, 0xd192e819d6ef5218, 0xd69906245565a910, 0xf40e35855771202a, 0x106aa07032bbd1b8, 0x19a4c116b8d2d0c8, 0x1e376c085141ab53, 0x2748774cdf8eeb99, 0x34b0bcb5e19b48a8, 0x391c0cb3c5c95a63, 0x4ed8aa4ae3418acb, 0x5b9cca4f7763e373, 0x682e6ff3d6b2b8a3, 0x748f82ee5defb2fc, 0x78a5636f43172f60, 0x84c87814a1f0ab72, 0x8cc702081a6439ec, 0x90befffa23631e28, 0xa4506cebde82bde9, 0xbef9a3f7b2c67915, 0xc67178f2e372532b, 0xca273eceea26619c, 0xd186b8c721c0c207, 0xeada7dd6cde0eb1e, 0xf57d4f7fee6ed178, 0x06f067aa72176fba, 0x0a637dc5a2c898a6, 0x113f9804bef90dae, 0x1b710b35131c471b, 0x28db77f523047d84, 0x32caab7b40c72493, 0x3c9ebe0a15c9bebc, 0x431d67c49c100d4c, 0x4cc5d4becb3e42b6, 0x597f299cfc657e2a, 0x5fcb6fab3ad6faec, 0x6c44198c4a475817]
def t1w (e f g h k w : BitVec 64) : BitVec 64 := h + bg1 e + chw e f g + k + w
def t2w (a b c : BitVec 64) : BitVec 64 := bg0 a + majw a b c
def rnd (l : List (BitVec 64)) (k w : BitVec 64) : List (BitVec 64) :=
  [t1w (l.getD 4 0) (l.getD 5 0) (l.getD 6 0) (l.getD 7 0) k w + t2w (l.getD 0 0) (l.getD 1 0) (l.getD 2 0), l.getD 0 0, l.getD 1 0, l.getD 2 0,
   l.getD 3 0 + t1w (l.getD 4 0) (l.getD 5 0) (l.getD 6 0) (l.getD 7 0) k w, l.getD 4 0, l.getD 5 0, l.getD 6 0]
def rs (s ws : List (BitVec 64)) : Nat → List (BitVec 64)
  | 0 => s
  | k + 1 => rnd (rs s ws k) (kw.getD k 0) (ws.getD k 0)
def addTo (s r : List (BitVec 64)) : Nat → List (BitVec 64)
  | 0 => s
  | k + 1 => (addTo s r k).set k ((addTo s r k).getD k 0 + r.getD k 0)
def foldW (s ws : List (BitVec 64)) : List (BitVec 64) := addTo s (rs s ws 80) 8
theorem addTo_len (s r : List (BitVec 64)) : ∀ k, (addTo s r k).length = s.length
  | 0 => rfl
  | k + 1 => by simp [addTo, addTo_len s r k]
theorem foldW_len (s ws : List (BitVec 64)) : (foldW s ws).length = s.length := addTo_len _ _ _
theorem rs_len (s ws : List (BitVec 64)) (h : s.length = 8) : ∀ k, (rs s ws k).length = 8
  | 0 => h
  | _ + 1 => rfl
theorem eight (l : List (BitVec 64)) (h : l.length = 8) : l = [l.getD 0 0, l.getD 1 0, l.getD 2 0, l.getD 3 0, l.getD 4 0, l.getD 5 0, l.getD 6 0, l.getD 7 0] := by
  match l, h with
  | [_, _, _, _, _, _, _, _], _ => rfl
end Go.Proofs.YtobgimpkkjaolaaGreatDoor.Sh
/- The words of a piece: what spread answers, in any world, for every piece of 128 bytes. -/
namespace Go.Proofs.YtobgimpkkjaolaaGreatDoor.Sh
open Go.RowKit
theorem hide {p : Prop} (h : p) : Hid p := h
theorem zero36 (w : World) : (zeroValue 67).run Tryz.prog w = .ok (.agg (wa z80)) w := by kernel_rfl
theorem size36 : (Tryz.prog.info? 67).map (·.size) = some 80 := by kernel_rfl
theorem size40 : (Tryz.prog.info? 114).map (·.size) = some 128 := by kernel_rfl
theorem und36 : Tryz.prog.underlying 67 = some (.array 80 27) := by kernel_rfl
theorem und40 : Tryz.prog.underlying 114 = some (.array 128 5) := by kernel_rfl
theorem size5 : (Tryz.prog.info? 5).map (·.size) = some 1 := by kernel_rfl
theorem i64_wrap (n : Int) (h : -9223372036854775808 ≤ n ∧ n ≤ 9223372036854775807) : IntKind.i64.wrap n = n := by
  rw [IntKind.wrap_i64]; omega
theorem keep_set {w : World} {g n m : Nat} {v x : Value} (hm : m ≠ n) (h : w.cell? ⟨g, m, none⟩ = some x) : (w.setCell ⟨g, n, none⟩ v).drew.cell? ⟨g, m, none⟩ = some x := by
  show (w.setCell ⟨g, n, none⟩ v).cell? ⟨g, m, none⟩ = some x
  rw [World.cell?_setCell_other _ _ _ _ (fun e => hm (by injection e with _ e2; exact e2.symm))]; exact h
theorem w_shl8 (x : BitVec 64) : IntKind.u64.wrap (wn x * (256 : Int)) = wn (x <<< 8) := w_shl x 8
theorem heap_alloc_last3 (w : World) (a b c : Obj) : (((w.alloc a).alloc b).alloc c).heap[w.heap.size + 1 + 1]? = some c := by
  have h := heap_alloc_last ((w.alloc a).alloc b) c
  simpa using h
theorem heap_alloc_mid3 (w : World) (a b c : Obj) : (((w.alloc a).alloc b).alloc c).heap[w.heap.size + 1]? = some b := by
  rw [Below.heap_alloc _ _ _ (by simp)]
  have h := heap_alloc_last (w.alloc a) b
  simpa using h
theorem Below.setRow {B : Nat} {a w : World} (h : Below B a w) (g : Nat) (cs : Array Value) (hg : B ≤ g) : Below B a (w.setRow g cs) :=
  h.trans ⟨rfl, rfl, rfl, by simp, fun k hk => setRow_other w g k cs (by omega)⟩
theorem below3 (w : World) (a b c : Obj) : Below w.heap.size w (((w.alloc a).alloc b).alloc c) :=
  (((Below.refl _ _).alloc (Nat.le_refl _) _).alloc (by simp) _).alloc (by simp; omega) _
theorem run_index_arr {P : Program} {t e : TypeId} {len : Nat} {d : TypeDesc} (hu : P.underlying t = some (.array len e)) (he : P.underlying e = some d) (hd : d.isRow = false) (hs : (P.info? e).map (·.size) = some 1)
    (cs : Array Value) (i : Nat) (hi : i < len) (v : Value) (hv : cs[i]? = some v) (w : World) : (Instr.index t (.agg cs) (.int .i64 (i : Int))).run P w = .ok v w := by
  cases hq : P.info? e with
  | none => simp [hq] at hs
  | some ie =>
    have h1 : ie.size = 1 := by simpa [hq] using hs
    have hagg : (isAgg e).run P w = .ok false w := by
      unfold isAgg
      rw [Sem.run_bind, run_underlying he w]
      cases d <;> simp_all
    have h2 : ¬ len ≤ i := by omega
    simp [Instr.index, asIntOf, run_underlying hu, part, hagg, sizeOf, typeInfo, hq, h1, hv, h2]
set_option maxRecDepth 100000 in
set_option maxHeartbeats 400000 in
theorem spread_any (bs : List UInt8) (hbs : bs.length = 128) (w : World) :
    Calls Tryz.prog 120 #[.agg (ba bs)] w fun e w' => e = .returned (.agg (wa (spreadW bs))) ∧ Below w.heap.size w w' := by
  have hz := zero36
  go_enter Tryz.func120, Tryz.ntmps120
  have hg : (((w.alloc (.cells (ba bs) 114)).alloc (.cells (wa z80) 67)).alloc (.cells (wa z80) 67)).heap[w.heap.size]? = some (.cells (ba bs) 114 (0, 0)) := by
    rw [Below.heap_alloc _ _ _ (by simp; omega), Below.heap_alloc _ _ _ (by simp), heap_alloc_last]
  go_wp2_with (refine wpList_load_row rfl 114 (.tmp 1) rfl w.heap.size rfl 114 (ba bs) (0,0) (.array 128 5) hg und40 rfl (by rw [ba_size, hbs]; exact size40) ?_)
  clear hz hg
  go_loopw [8] (fun i wr => ∃ k : Nat, k ≤ 128 ∧ i = .int .i64 k ∧ wr.heap[w.heap.size + 1 + 1]? = some (.cells (wa (w1 bs k)) 67 (0,0)) ∧ wr.heap.size = w.heap.size + 1 + 1 + 1 ∧ wr.heap[w.heap.size + 1]? = some (.cells (wa z80) 67 (0,0)) ∧ Below w.heap.size w wr) (fun i _ => 128 - (intOf i).toNat)
  case atStart => exact ⟨0, by omega, rfl, heap_alloc_last3 _ _ _ _, by simp, heap_alloc_mid3 _ _ _ _, below3 _ _ _ _⟩
  case round =>
    obtain ⟨k, hk, rfl, hrow, hsz, hold, hb⟩ := hrel
    by_cases hlt : k < 128
    · have hidx := run_index_arr und40 Tryz.underlying5 rfl size5 (ba bs) k hlt _ (ba_get bs k (by omega))
      have hcell : wr.cell? ⟨w.heap.size + 1 + 1, k / 8, none⟩ = some (.int .u64 (wn ((w1 bs k).getD (k / 8) 0))) := by
        rw [cell_of_row _ _ _ _ _ _ hrow, wa_get _ _ (by rw [w1_len]; omega)]
      have hfro : wr.frozen? ⟨w.heap.size + 1 + 1, k / 8, none⟩ = false := frozen_of_row _ _ _ _ _ hrow
      have HR : Hid (wr.heap[w.heap.size + 1 + 1]? = some (.cells (wa (w1 bs k)) 67 (0,0))) := hrow
      clear hrow
      generalize hy : (w1 bs k).getD (k / 8) 0 = y at hcell
      have HY := hide hy
      clear hy
      generalize hx : bs.getD k 0 = x at hidx
      have HX := hide hx
      clear hx
      go_wp2
      go_roundw
      case rel =>
        refine ⟨k + 1, by omega, by go_num, ?_, ?_, ?_, ?_⟩
        · rw [heap_setCell_same _ _ _ _ _ _ HR.out, w_shl8, b64_wrap, w_or, wa_set, w1, put, HX.out, HY.out]
        · simpa using hsz
        · rw [heap_setCell_other _ _ _ _ (by simp)]; exact hold
        · exact hb.setCell (by simp; omega) _
      case measure => simp [intOf]; omega
    · have hk128 : k = 128 := by omega
      rw [hk128] at hrow
      clear hk128
      go_wp2
      clear hlt hk
      go_loopw [6] (fun i wr => ∃ n : Nat, 16 ≤ n ∧ n ≤ 80 ∧ i = .int .i64 n ∧ wr.heap[w.heap.size + 1 + 1]? = some (.cells (wa (w2 (w1 bs 128) (n - 16))) 67 (0,0)) ∧ wr.heap.size = w.heap.size + 1 + 1 + 1 ∧ wr.heap[w.heap.size + 1]? = some (.cells (wa z80) 67 (0,0)) ∧ Below w.heap.size w wr) (fun i _ => 80 - (intOf i).toNat)
      case atStart => exact ⟨16, by omega, by omega, rfl, hrow, hsz, hold, hb⟩
      case round =>
        clear hrow hsz hold hb
        obtain ⟨n, hn, hk, rfl, hrow, hsz, hold, hb⟩ := hrel
        by_cases hlt : n < 80
        · have hl : (w2 (w1 bs 128) (n - 16)).length = 80 := by rw [w2_len, w1_len]
          have hget := fun i (h : i < 80) => (cell_of_row _ _ i _ _ _ hrow).trans (wa_get (w2 (w1 bs 128) (n - 16)) i (by omega))
          have c2 := hget (n - 2) (by omega)
          have c7 := hget (n - 7) (by omega)
          have c15 := hget (n - 15) (by omega)
          have c16 := hget (n - 16) (by omega)
          have c0 := hget n (by omega)
          have hfro : wr.frozen? ⟨w.heap.size + 1 + 1, n, none⟩ = false := frozen_of_row _ _ _ _ _ hrow
          have HR := hide hrow
          have HL := hide hl
          clear hget hrow hl
          generalize hx2 : (w2 (w1 bs 128) (n - 16)).getD (n - 2) 0 = x2 at c2
          generalize hx7 : (w2 (w1 bs 128) (n - 16)).getD (n - 7) 0 = x7 at c7
          generalize hx15 : (w2 (w1 bs 128) (n - 16)).getD (n - 15) 0 = x15 at c15
          generalize hx16 : (w2 (w1 bs 128) (n - 16)).getD (n - 16) 0 = x16 at c16
          generalize hx0 : (w2 (w1 bs 128) (n - 16)).getD n 0 = x0 at c0
          have HX := hide (And.intro hx2 (And.intro hx7 (And.intro hx15 hx16)))
          clear hx2 hx7 hx15 hx16 hx0
          have b2 : ((n - 2 : Nat) : Int) < 80 := by omega
          have d2 : IntKind.i64.wrap ((n : Int) - 2) = ((n - 2 : Nat) : Int) := by rw [i64_wrap _ (by omega)]; omega
          have b7 : ((n - 7 : Nat) : Int) < 80 := by omega
          have d7 : IntKind.i64.wrap ((n : Int) - 7) = ((n - 7 : Nat) : Int) := by rw [i64_wrap _ (by omega)]; omega
          have b15 : ((n - 15 : Nat) : Int) < 80 := by omega
          have d15 : IntKind.i64.wrap ((n : Int) - 15) = ((n - 15 : Nat) : Int) := by rw [i64_wrap _ (by omega)]; omega
          have b16 : ((n - 16 : Nat) : Int) < 80 := by omega
          have d16 : IntKind.i64.wrap ((n : Int) - 16) = ((n - 16 : Nat) : Int) := by rw [i64_wrap _ (by omega)]; omega
          have b0 : (n : Int) < 80 := by omega
          go_wp2
          go_region_held3 (fun w' => w'.cell? ⟨w.heap.size + 1 + 1, n - 2, none⟩ = some (.int .u64 (wn x2)) ∧ w'.cell? ⟨w.heap.size + 1 + 1, n - 7, none⟩ = some (.int .u64 (wn x7)) ∧ w'.cell? ⟨w.heap.size + 1 + 1, n - 15, none⟩ = some (.int .u64 (wn x15)) ∧ w'.cell? ⟨w.heap.size + 1 + 1, n - 16, none⟩ = some (.int .u64 (wn x16))) (first | (go_keep; done) | (exact ⟨keep_set (by omega) c2, keep_set (by omega) c7, keep_set (by omega) c15, keep_set (by omega) c16⟩)) (first | (go_at_call 125; refine (sg1_any _ _).mono ?_; rintro e w' ⟨rfl, rfl⟩) | (go_at_call 126; refine (sg0_any _ _).mono ?_; rintro e w' ⟨rfl, rfl⟩))
          clear c2 c7 c15 c16 c0 b2 d2 b7 d7 b15 d15 b16 d16 b0
          go_wp2
          go_roundw
          case rel =>
            refine ⟨n + 1, by omega, by omega, by go_num, ?_, ?_, ?_, ?_⟩
            · rw [heap_drew, heap_setCell_same _ _ _ _ _ _ HR.out, w_add, w_add, w_add, wa_set, show n + 1 - 16 = n - 16 + 1 by omega, w2]
              rw [show 16 + (n - 16) = n by omega, nxw, HX.out.1, HX.out.2.1, HX.out.2.2.1, HX.out.2.2.2]
            · simpa [heap_drew] using hsz
            · rw [heap_drew, heap_setCell_other _ _ _ _ (by simp)]; exact hold
            · exact (hb.setCell (by simp; omega) _).drew
          case measure => simp [intOf]; omega
        · obtain rfl : n = 80 := by omega
          have hw : (wa (w2 (w1 bs 128) 64)).size = 80 := by rw [wa_size, w2_len, w1_len]
          go_wp2_with (first | (refine wpList_load_row rfl 67 (.tmp 3) rfl (w.heap.size + 1 + 1) rfl 67 (wa (w2 (w1 bs 128) 64)) (0,0) (.array 80 27) hrow und36 rfl (by rw [hw]; exact size36) ?_) | (refine wpList_store_row rfl 67 (.tmp 2) (.tmp 51) rfl (w.heap.size + 1) (wa (w2 (w1 bs 128) 64)) rfl rfl 67 (wa z80) hold (by rw [hw]; exact size36) (by rw [hw]; rfl) (wa_one _) ?_))
          refine bodyPost_ret_by (results_cell_row rfl _ _ (w.heap.size + 1) 67 (wa (w2 (w1 bs 128) 64)) (0, 0) (.array 80 27) rfl (setRow_heap _ _ _ _ _ _ hold) und36 rfl (by rw [hw]; exact size36)) rfl ⟨rfl, ?_⟩
          exact Below.setRow hb _ _ (by omega)
end Go.Proofs.YtobgimpkkjaolaaGreatDoor.Sh
/- The rounds: what fold answers, where the table of constants lies as the text lays it. -/
namespace Go.Proofs.YtobgimpkkjaolaaGreatDoor.Sh
open Go.RowKit
def Tabs (w : World) : Prop := w.rangeAt 4 0 (h0w.map wc) ∧ w.rangeAt 5 0 (kw.map wc) ∧ 6 ≤ w.heap.size
theorem Tabs.below {B : Nat} {w w' : World} (h : Tabs w) (hb : Below B w w') (hB : 6 ≤ B) : Tabs w' :=
  ⟨fun j v hv => (hb.cell (by simp; omega)).trans (h.1 j v hv), fun j v hv => (hb.cell (by simp; omega)).trans (h.2.1 j v hv), Nat.le_trans h.2.2 hb.size⟩
theorem Tabs.k {w : World} (h : Tabs w) (i : Nat) (hi : i < 80) : w.cell? ⟨5, i, none⟩ = some (.int .u64 (wn (kw.getD i 0))) := by
  have := h.2.1 i (wc (kw.getD i 0)) (by rw [List.getElem?_map, List.getD_eq_getElem?_getD, List.getElem?_eq_getElem (show i < kw.length from hi)]; rfl)
  simpa [wc] using this
theorem zero35 (w : World) : (zeroValue 66).run Tryz.prog w = .ok (.agg (wa [0, 0, 0, 0, 0, 0, 0, 0])) w := by kernel_rfl
theorem size35 : (Tryz.prog.info? 66).map (·.size) = some 8 := by kernel_rfl
theorem und35 : Tryz.prog.underlying 66 = some (.array 8 27) := by kernel_rfl
theorem size30 : (Tryz.prog.info? 27).map (·.size) = some 1 := by kernel_rfl
theorem heap_drewN (w : World) (n : Nat) : (w.drewN n).heap = w.heap := rfl
theorem heap_alloc_first3 (w : World) (a b c : Obj) : (((w.alloc a).alloc b).alloc c).heap[w.heap.size]? = some a := by
  rw [Below.heap_alloc _ _ _ (by simp; omega), Below.heap_alloc _ _ _ (by simp), heap_alloc_last]
def z8 : List (BitVec 64) := [0, 0, 0, 0, 0, 0, 0, 0]
attribute [local go_sem] w_add
set_option maxRecDepth 100000 in
set_option maxHeartbeats 1000000 in
theorem fold_any (a0 a1 a2 a3 a4 a5 a6 a7 : BitVec 64) (ws : List (BitVec 64)) (hws : ws.length = 80) (w : World) (ht : Tabs w) :
    Calls Tryz.prog 119 #[.agg (wa [a0, a1, a2, a3, a4, a5, a6, a7]), .agg (wa ws)] w fun e w' => e = .returned (.agg (wa (foldW [a0, a1, a2, a3, a4, a5, a6, a7] ws))) ∧ Below w.heap.size w w' := by
  have hz : ∀ w, (zeroValue 66).run Tryz.prog w = .ok (.agg (wa z8)) w := zero35
  generalize hs : [a0, a1, a2, a3, a4, a5, a6, a7] = s
  have hg : ∀ i (h : i < 8), (wa s)[i]? = some (.int .u64 (wn ([a0, a1, a2, a3, a4, a5, a6, a7].getD i 0))) := fun i h => by rw [hs]; exact wa_get s i (by rw [← hs]; simpa using h)
  have g0 : (wa s)[0]? = some (.int .u64 (wn a0)) := hg 0 (by omega)
  have g1 : (wa s)[1]? = some (.int .u64 (wn a1)) := hg 1 (by omega)
  have g2 : (wa s)[2]? = some (.int .u64 (wn a2)) := hg 2 (by omega)
  have g3 : (wa s)[3]? = some (.int .u64 (wn a3)) := hg 3 (by omega)
  have g4 : (wa s)[4]? = some (.int .u64 (wn a4)) := hg 4 (by omega)
  have g5 : (wa s)[5]? = some (.int .u64 (wn a5)) := hg 5 (by omega)
  have g6 : (wa s)[6]? = some (.int .u64 (wn a6)) := hg 6 (by omega)
  have g7 : (wa s)[7]? = some (.int .u64 (wn a7)) := hg 7 (by omega)
  have HS := hide hs
  clear hg hs
  go_enter Tryz.func119, Tryz.ntmps119
  go_wp2
  go_quiet (fail)
  revert nq
  intro n1
  go_wp2
  go_quiet (fail)
  revert nq
  intro n2
  have hw0 : (((((w.alloc (Obj.cells (wa s) 66)).alloc (Obj.cells (wa ws) 67)).alloc (Obj.cells (wa z8) 66)).drewN n1).drewN n2).heap = (((w.alloc (Obj.cells (wa s) 66)).alloc (Obj.cells (wa ws) 67)).alloc (Obj.cells (wa z8) 66)).heap := by
    rw [heap_drewN, heap_drewN]
  have hb0 : Below w.heap.size w (((((w.alloc (Obj.cells (wa s) 66)).alloc (Obj.cells (wa ws) 67)).alloc (Obj.cells (wa z8) 66)).drewN n1).drewN n2) := below_drewN (below_drewN (below3 _ _ _ _) _) _
  generalize ((((w.alloc (Obj.cells (wa s) 66)).alloc (Obj.cells (wa ws) 67)).alloc (Obj.cells (wa z8) 66)).drewN n1).drewN n2 = W at hw0 hb0 ⊢
  have r0 : W.heap[w.heap.size]? = some (.cells (wa s) 66 (0, 0)) := by rw [hw0]; exact heap_alloc_first3 _ _ _ _
  have r1 : W.heap[w.heap.size + 1]? = some (.cells (wa ws) 67 (0, 0)) := by rw [hw0]; exact heap_alloc_mid3 _ _ _ _
  have r2 : W.heap[w.heap.size + 1 + 1]? = some (.cells (wa z8) 66 (0, 0)) := by rw [hw0]; exact heap_alloc_last3 _ _ _ _
  have r3 : W.heap.size = w.heap.size + 1 + 1 + 1 := by rw [hw0]; simp
  clear hw0 g0 g1 g2 g3 g4 g5 g6 g7 hz
  go_wp2_with (refine wpList_load_row rfl 67 (.tmp 3) rfl (w.heap.size + 1) rfl 67 (wa ws) (0,0) (.array 80 27) r1 und36 rfl (by rw [wa_size, hws]; exact size36) ?_)
  go_loopw [5, 6, 7, 8, 9, 10, 11, 12, 36] (fun a b c d e f g h i wr => ∃ k : Nat, k ≤ 80 ∧ i = .int .i64 k ∧
      a = .int .u64 (wn ((rs s ws k).getD 0 0)) ∧ b = .int .u64 (wn ((rs s ws k).getD 1 0)) ∧ c = .int .u64 (wn ((rs s ws k).getD 2 0)) ∧ d = .int .u64 (wn ((rs s ws k).getD 3 0)) ∧
      e = .int .u64 (wn ((rs s ws k).getD 4 0)) ∧ f = .int .u64 (wn ((rs s ws k).getD 5 0)) ∧ g = .int .u64 (wn ((rs s ws k).getD 6 0)) ∧ h = .int .u64 (wn ((rs s ws k).getD 7 0)) ∧
      wr.heap = W.heap ∧ Below w.heap.size w wr) (fun _ _ _ _ _ _ _ _ i _ => 80 - (intOf i).toNat)
  case atStart =>
    have := HS.out
    subst this
    exact ⟨0, by omega, rfl, rfl, rfl, rfl, rfl, rfl, rfl, rfl, rfl, rfl, hb0⟩
  case round =>
    obtain ⟨k, hk, rfl, rfl, rfl, rfl, rfl, rfl, rfl, rfl, rfl, hh, hb⟩ := hrel
    by_cases hlt : k < 80
    · have hidx := run_index_arr und36 Tryz.underlying27 rfl size30 (wa ws) k hlt _ (wa_get ws k (by omega))
      have hkk := (ht.below hb ht.2.2).k k hlt
      have HH := hide hh
      generalize hR : rs s ws k = R
      have HR := hide hR
      generalize hx0 : R.getD 0 0 = x0
      generalize hx1 : R.getD 1 0 = x1
      generalize hx2 : R.getD 2 0 = x2
      generalize hx3 : R.getD 3 0 = x3
      generalize hx4 : R.getD 4 0 = x4
      generalize hx5 : R.getD 5 0 = x5
      generalize hx6 : R.getD 6 0 = x6
      generalize hx7 : R.getD 7 0 = x7
      generalize hkw : kw.getD k 0 = kk at hkk
      generalize hww : ws.getD k 0 = ww at hidx
      have HX := hide (And.intro hx0 (And.intro hx1 (And.intro hx2 (And.intro hx3 (And.intro hx4 (And.intro hx5 (And.intro hx6 hx7)))))))
      have HK := hide (And.intro hkw hww)
      clear hx0 hx1 hx2 hx3 hx4 hx5 hx6 hx7 hkw hww hh hR r0 r1 r2
      go_wp2
      go_quiet ((first | (go_at_call 121; exact Calls.quiet_of_same (bg1_any _ _)) | (go_at_call 122; exact Calls.quiet_of_same (choose_any _ _ _ _))))
      go_wp2_with (first | (go_at_call 123; refine (bg0_any _ _).mono ?_; rintro e w' ⟨rfl, rfl⟩) | (go_at_call 124; refine (maj_any _ _ _ _).mono ?_; rintro e w' ⟨rfl, rfl⟩))
      go_roundw
      case rel =>
        refine ⟨k + 1, by omega, by go_num, ?_, ?_, ?_, ?_, ?_, ?_, ?_, ?_, HH.out, below_drewN hb _⟩
        all_goals rw [rs, HR.out, rnd, HK.out.1, HK.out.2, HX.out.1, HX.out.2.1, HX.out.2.2.1, HX.out.2.2.2.1, HX.out.2.2.2.2.1, HX.out.2.2.2.2.2.1, HX.out.2.2.2.2.2.2.1, HX.out.2.2.2.2.2.2.2]
        all_goals rfl
      case measure => simp [intOf]; omega
    · have hk80 : k = 80 := by omega
      have q0 : wr.heap[w.heap.size]? = some (.cells (wa s) 66 (0, 0)) := by rw [hh]; exact r0
      have q2 : wr.heap[w.heap.size + 1 + 1]? = some (.cells (wa z8) 66 (0, 0)) := by rw [hh]; exact r2
      have q3 : wr.heap.size = w.heap.size + 1 + 1 + 1 := by rw [hh]; exact r3
      have hlR : (rs s ws k).length = 8 := rs_len s ws (by rw [← HS.out]; rfl) k
      have hfin : foldW s ws = addTo s (rs s ws k) 8 := by rw [hk80]; rfl
      have H1 := hide hlR
      have H2 := hide hfin
      clear hk80 hfin hlR
      generalize hR : rs s ws k = R at H1 H2
      have HR := hide hR
      have hwa : wa R = wa [R.getD 0 0, R.getD 1 0, R.getD 2 0, R.getD 3 0, R.getD 4 0, R.getD 5 0, R.getD 6 0, R.getD 7 0] := congrArg wa (eight R H1.out)
      generalize hx0 : R.getD 0 0 = x0 at hwa
      generalize hx1 : R.getD 1 0 = x1 at hwa
      generalize hx2 : R.getD 2 0 = x2 at hwa
      generalize hx3 : R.getD 3 0 = x3 at hwa
      generalize hx4 : R.getD 4 0 = x4 at hwa
      generalize hx5 : R.getD 5 0 = x5 at hwa
      generalize hx6 : R.getD 6 0 = x6 at hwa
      generalize hx7 : R.getD 7 0 = x7 at hwa
      have HW := hide hwa
      have hd : decide ((k : Int) < 80) = false := by simp; omega
      clear hx0 hx1 hx2 hx3 hx4 hx5 hx6 hx7 hR hwa r0 r1 r2 r3 hh hb0 hk
      go_wp2
      clear hlt hd
      go_loopw [84] (fun i wr => ∃ j : Nat, j ≤ 8 ∧ i = .int .i64 j ∧ wr.heap[w.heap.size]? = some (.cells (wa (addTo s R j)) 66 (0, 0)) ∧ wr.heap[w.heap.size + 1 + 1]? = some (.cells (wa z8) 66 (0, 0)) ∧ wr.heap.size = w.heap.size + 1 + 1 + 1 ∧ Below w.heap.size w wr) (fun i _ => 8 - (intOf i).toNat)
      case atStart => exact ⟨0, by omega, rfl, q0, q2, q3, hb⟩
      case round =>
        clear q0 q2 q3 hb
        obtain ⟨j, hj, rfl, q0, q2, q3, hb⟩ := hrel
        have hls : (addTo s R j).length = 8 := by rw [addTo_len, ← HS.out]; rfl
        by_cases hlt : j < 8
        · have hidx : ∀ w, (Instr.index 66 (.agg #[.int .u64 (wn x0), .int .u64 (wn x1), .int .u64 (wn x2), .int .u64 (wn x3), .int .u64 (wn x4), .int .u64 (wn x5), .int .u64 (wn x6), .int .u64 (wn x7)]) (.int .i64 (j : Int))).run Tryz.prog w = .ok (.int .u64 (wn (R.getD j 0))) w :=
            run_index_arr und35 Tryz.underlying27 rfl size30 _ j hlt _ (by
              show (wa [x0, x1, x2, x3, x4, x5, x6, x7])[j]? = _
              rw [← HW.out]; exact wa_get R j (by rw [H1.out]; omega))
          have hcell : wr.cell? ⟨w.heap.size, j, none⟩ = some (.int .u64 (wn ((addTo s R j).getD j 0))) := by
            rw [cell_of_row _ _ _ _ _ _ q0, wa_get _ _ (by omega)]
          have hfro : wr.frozen? ⟨w.heap.size, j, none⟩ = false := frozen_of_row _ _ _ _ _ q0
          have Q0 := hide q0
          have Q2 := hide q2
          clear q0 q2 hls
          generalize hy : (addTo s R j).getD j 0 = y at hcell
          generalize hx : R.getD j 0 = x at hidx
          have HY := hide (And.intro hy hx)
          clear hy hx
          go_wp2
          go_roundw
          case rel =>
            refine ⟨j + 1, by omega, by go_num, ?_, ?_, ?_, ?_⟩
            · rw [heap_setCell_same _ _ _ _ _ _ Q0.out, wa_set, addTo, HY.out.1, HY.out.2]
            · rw [heap_setCell_other _ _ _ _ (by simp; omega)]; exact Q2.out
            · simpa using q3
            · exact hb.setCell (by simp) _
          case measure => simp [intOf]; omega
        · have hj8 : j = 8 := by omega
          have hf := H2.out
          rw [hj8] at q0 hls
          rw [← hf] at q0 hls
          have hw8 : (wa (foldW s ws)).size = 8 := by rw [wa_size]; exact hls
          clear hf hj8 hls
          go_wp2_with (first | (refine wpList_load_row rfl 66 (.tmp 2) rfl w.heap.size rfl 66 (wa (foldW s ws)) (0,0) (.array 8 27) q0 und35 rfl (by rw [hw8]; exact size35) ?_) | (refine wpList_store_row rfl 66 (.tmp 4) (.tmp 95) rfl (w.heap.size + 1 + 1) (wa (foldW s ws)) rfl rfl 66 (wa z8) q2 (by rw [hw8]; exact size35) (by rw [hw8]; rfl) (wa_one _) ?_))
          refine bodyPost_ret_by (results_cell_row rfl _ _ (w.heap.size + 1 + 1) 66 (wa (foldW s ws)) (0, 0) (.array 8 27) rfl (setRow_heap _ _ _ _ _ _ q2) und35 rfl (by rw [hw8]; exact size35)) rfl ⟨rfl, ?_⟩
          exact Below.setRow hb _ _ (by omega)
end Go.Proofs.YtobgimpkkjaolaaGreatDoor.Sh
/- A word behind bytes of the call's own: what appendWord leaves, for bytes that are not too many for any machine. -/
namespace Go.Proofs.YtobgimpkkjaolaaGreatDoor.Sh
open Go.RowKit
theorem und22 : Tryz.prog.underlying 22 = some (.slice 5) := by kernel_rfl
theorem info5 : (Tryz.prog.info? 5).map (fun i => (i.zero, i.size, i.bytes)) = some (some (.int .u8 0), 1, 1) := by kernel_rfl
theorem lb_mod (x : BitVec 64) : wn x % (256 : Int) = bn (lb x) := by rw [← lb_wrap, IntKind.wrap_u8']
attribute [local go_sem] lb_wrap lb_mod
set_option maxRecDepth 100000 in
set_option maxHeartbeats 1000000 in
theorem appendWord_any (x : BitVec 64) (v : Value) (n base : Nat) (bs : List UInt8) (w : World) (hn : n ≤ 1000000000000) (hbase : base ≤ w.heap.size) (hown : w.ownsRow base 5 1 v n (bs.map bc)) :
    Calls Tryz.prog 101 #[v, .int .u64 (wn x)] w fun e w' => ∃ v', e = .returned v' ∧ w'.ownsRow base 5 1 v' (n + 8) ((bs ++ be8 x 8).map bc) ∧ Below base w w' := by
  obtain ⟨i0, hi, hz0, hz1, hz2⟩ := info_parts info5
  go_enter Tryz.func101, Tryz.ntmps101
  go_wp2
  go_loopw [0, 5] (fun sv i wr => ∃ k : Nat, k ≤ 8 ∧ i = .int .i64 (56 - 8 * (k : Int)) ∧ wr.ownsRow base 5 1 sv (n + k) ((bs ++ be8 x k).map bc) ∧ base ≤ wr.heap.size ∧ Below base w wr) (fun _ i _ => (intOf i + 8).toNat)
  case atStart => exact ⟨0, by omega, rfl, by simpa [be8] using hown, hbase, Below.refl _ _⟩
  case round =>
    clear hown
    obtain ⟨k, hk, rfl, hown, hbs, hb⟩ := hrel
    by_cases hlt : k < 8
    · obtain ⟨m, hm⟩ : ∃ m : Nat, (56 : Int) - 8 * (k : Int) = (m : Int) := ⟨56 - 8 * k, by omega⟩
      rw [hm]
      have hx : wn x / 2 ^ m = wn (x >>> (56 - 8 * k)) := by rw [show m = 56 - 8 * k by omega, w_shr]
      have hm56 : m ≤ 56 := by omega
      have HM := hide hm
      clear hm
      go_wp2_with (at_builtin; go_must (refine wpList_append_own _ rfl (.tmp 10) (.tmp 15) 22 rfl base 5 i0 (.int .u8 0) 1 1 und22 hi hz0 hz1 hz2 rfl (by decide) u0 (n + k) ((bs ++ be8 x k).map bc) rfl (hown.alloc _) ⟨wr.heap.size, 0, none⟩ 1 1 [.int .u8 (bn (lb (x >>> (56 - 8 * k))))] rfl rfl (cell_one_new _ _ _) ?_ ?_ ?_ ?_ ?_))
      · intro u hu; simp at hu; subst hu; rfl
      · unfold maxLen; omega
      · omega
      · simp; omega
      intro v' w1 hown' hgrow _
      have R1 : w1.ownsRow base 5 1 v' (n + (k + 1)) ((bs ++ be8 x (k + 1)).map bc) := by
        have e : (bs ++ be8 x (k + 1)).map bc = List.map bc bs ++ (List.map bc (be8 x k) ++ [.int .u8 (bn (lb (x >>> (56 - 8 * k))))]) := by simp [be8, bc]
        rw [e]; exact hown'
      have hb1 : Below base w w1 := (hb.alloc hbs _).grown hgrow (by simp; omega) (fun q hq => (hown.lt q hq).1)
      have hs1 : base ≤ w1.heap.size := by have := hgrow.size; simp at this; omega
      clear hown' hgrow hown
      go_wp2
      go_roundw
      case rel => exact ⟨k + 1, by omega, by have := HM.out; go_num, R1, hs1, hb1⟩
      case measure => have := HM.out; simp [intOf]; omega
    · obtain rfl : k = 8 := by omega
      go_wp2
      go_ret
      exact ⟨_, rfl, hown, hb⟩
end Go.Proofs.YtobgimpkkjaolaaGreatDoor.Sh
/- SHA-512 of a whole message, and what a hash holds of the message that was written so far. Plain mathematics, no condition. -/
namespace Go.Proofs.YtobgimpkkjaolaaGreatDoor.Sh
def stAt (m : List UInt8) : Nat → List (BitVec 64)
  | 0 => h0w
  | k + 1 => foldW (stAt m k) (spreadW ((m.drop (128 * k)).take 128))
theorem stAt_len (m : List UInt8) : ∀ k, (stAt m k).length = 8
  | 0 => rfl
  | k + 1 => by rw [stAt, foldW_len, stAt_len m k]
theorem stAt_append (m x : List UInt8) : ∀ k, 128 * k ≤ m.length → stAt (m ++ x) k = stAt m k
  | 0, _ => rfl
  | k + 1, h => by
    rw [stAt, stAt, stAt_append m x k (by omega)]
    congr 2
    rw [List.drop_append_of_le_length (by omega), List.take_append_of_le_length (by simp; omega)]
structure HInv (m : List UInt8) (st : List (BitVec 64)) (piece : List UInt8) (L : BitVec 64) : Prop where
  len : L.toNat = m.length
  st8 : st.length = 8
  p128 : piece.length = 128
  state : 128 ≤ m.length → st = stAt m (m.length / 128)
  open_ : piece.take (m.length % 128) = m.drop (128 * (m.length / 128))
def tookN (m bs : List UInt8) : Nat := min (128 - m.length % 128) bs.length
def tookP (piece m bs : List UInt8) : List UInt8 := piece.take (m.length % 128) ++ bs.take (tookN m bs) ++ piece.drop (m.length % 128 + tookN m bs)
theorem tookN_le (m bs : List UInt8) : tookN m bs ≤ bs.length ∧ m.length % 128 + tookN m bs ≤ 128 := by unfold tookN; omega
theorem tookP_len (piece m bs : List UInt8) (h : piece.length = 128) : (tookP piece m bs).length = 128 := by
  have := tookN_le m bs
  simp [tookP, h]; omega
theorem tookP_open {m st piece L} (bs : List UInt8) (h : HInv m st piece L) : (tookP piece m bs).take (m.length % 128 + tookN m bs) = m.drop (128 * (m.length / 128)) ++ bs.take (tookN m bs) := by
  have hn := tookN_le m bs
  have e1 : (piece.take (m.length % 128) ++ bs.take (tookN m bs)).length = m.length % 128 + tookN m bs := by simp [h.p128]; omega
  rw [tookP, List.take_append_of_le_length (by omega), List.take_of_length_le (by omega), h.open_]
theorem HInv.more {m st piece L} (bs : List UInt8) (h : HInv m st piece L) (hb : m.length + bs.length < 18446744073709551616) (hlt : m.length % 128 + tookN m bs < 128) :
    HInv (m ++ bs.take (tookN m bs)) st (tookP piece m bs) (L + BitVec.ofNat 64 (tookN m bs)) := by
  have hn := tookN_le m bs
  have hl : (m ++ bs.take (tookN m bs)).length = m.length + tookN m bs := by simp; omega
  have hd : (m.length + tookN m bs) / 128 = m.length / 128 := by omega
  have hm : (m.length + tookN m bs) % 128 = m.length % 128 + tookN m bs := by omega
  refine ⟨?_, h.st8, tookP_len _ _ _ h.p128, ?_, ?_⟩
  · rw [BitVec.toNat_add, BitVec.toNat_ofNat, h.len, hl]; omega
  · intro h128
    rw [hl] at h128
    rw [hl, hd, stAt_append _ _ _ (by omega)]
    exact h.state (by omega)
  · rw [hl, hd, hm, tookP_open bs h, List.drop_append_of_le_length (by omega)]
theorem HInv.full {m st piece L} (bs : List UInt8) (h : HInv m st piece L) (hb : m.length + bs.length < 18446744073709551616) (heq : m.length % 128 + tookN m bs = 128) :
    HInv (m ++ bs.take (tookN m bs)) (foldW (if L + BitVec.ofNat 64 (tookN m bs) = 128 then h0w else st) (spreadW (tookP piece m bs))) (tookP piece m bs) (L + BitVec.ofNat 64 (tookN m bs)) := by
  have hn := tookN_le m bs
  have hl : (m ++ bs.take (tookN m bs)).length = m.length + tookN m bs := by simp; omega
  have hd : (m.length + tookN m bs) / 128 = m.length / 128 + 1 := by omega
  have hm : (m.length + tookN m bs) % 128 = 0 := by omega
  have hLn : (L + BitVec.ofNat 64 (tookN m bs)).toNat = m.length + tookN m bs := by
    rw [BitVec.toNat_add, BitVec.toNat_ofNat, h.len]; omega
  have hif : (if L + BitVec.ofNat 64 (tookN m bs) = 128 then h0w else st) = stAt m (m.length / 128) := by
    by_cases h1 : m.length < 128
    · have : L + BitVec.ofNat 64 (tookN m bs) = 128 := BitVec.eq_of_toNat_eq (by rw [hLn]; show _ = 128; omega)
      rw [if_pos this, show m.length / 128 = 0 by omega]; rfl
    · have : ¬ L + BitVec.ofNat 64 (tookN m bs) = 128 := fun e => by
        have := congrArg BitVec.toNat e
        rw [hLn] at this
        have h2 : (128 : BitVec 64).toNat = 128 := rfl
        omega
      rw [if_neg this]; exact h.state (by omega)
  have hp : tookP piece m bs = ((m ++ bs.take (tookN m bs)).drop (128 * (m.length / 128))).take 128 := by
    have e := tookP_open bs h
    rw [heq, List.take_of_length_le (by rw [tookP_len _ _ _ h.p128]; omega)] at e
    rw [e, List.drop_append_of_le_length (by omega)]
    exact (List.take_of_length_le (by simp only [List.length_append, List.length_drop, List.length_take]; omega)).symm
  refine ⟨by rw [hLn, hl], ?_, tookP_len _ _ _ h.p128, ?_, ?_⟩
  · rw [foldW_len, hif, stAt_len]
  · intro _
    rw [hl, hd, stAt, stAt_append _ _ _ (by omega), hif, ← hp]
  · rw [hl, hd, hm, List.take_zero, List.drop_eq_nil_of_le (by rw [hl]; omega)]
def zeros (r : Nat) : Nat := (239 - r % 128) % 128
def padB (L : BitVec 64) : List UInt8 := (128 : UInt8) :: List.replicate (zeros L.toNat) 0 ++ be8 (L >>> 61) 8 ++ be8 (L <<< 3) 8
theorem padB_len (L : BitVec 64) : (padB L).length = 1 + zeros L.toNat + 8 + 8 := by simp [padB, be8_len]; omega
def padded (m : List UInt8) : List UInt8 := m ++ padB (BitVec.ofNat 64 m.length)
theorem padded_len (m : List UInt8) (h : m.length < 18446744073709551616) : (padded m).length % 128 = 0 ∧ 128 ≤ (padded m).length := by
  have e : (padded m).length = m.length + (1 + (239 - m.length % 128) % 128 + 8 + 8) := by
    rw [padded, List.length_append, padB_len, zeros, BitVec.toNat_ofNat, show m.length % 2 ^ 64 = m.length by omega]
  omega
def words (l : List (BitVec 64)) : Nat → List UInt8
  | 0 => []
  | k + 1 => words l k ++ be8 (l.getD k 0) 8
theorem words_len (l : List (BitVec 64)) : ∀ k, (words l k).length = 8 * k
  | 0 => rfl
  | k + 1 => by simp [words, words_len l k, be8_len]; omega
def shaB (m : List UInt8) : List UInt8 := words (stAt (padded m) ((padded m).length / 128)) 8
theorem shaB_len (m : List UInt8) : (shaB m).length = 64 := words_len _ 8
theorem HInv.ofLen {m st piece L} (h : HInv m st piece L) : L = BitVec.ofNat 64 m.length := BitVec.eq_of_toNat_eq (by
  rw [BitVec.toNat_ofNat, ← h.len]; exact (Nat.mod_eq_of_lt L.isLt).symm)
theorem HInv.zero : HInv [] [0, 0, 0, 0, 0, 0, 0, 0] (List.replicate 128 0) 0 := ⟨rfl, rfl, rfl, fun h => absurd h (by decide), rfl⟩
end Go.Proofs.YtobgimpkkjaolaaGreatDoor.Sh
/- What comes behind a message: what padding answers, for every length. -/
namespace Go.Proofs.YtobgimpkkjaolaaGreatDoor.Sh
open Go.RowKit
def zb (n : Nat) : Array Value := ba (List.replicate n 0)
theorem zb_size (n : Nat) : (zb n).size = n := by simp [zb, ba_size]
theorem zb_made (n : Nat) : madeCells #[.int .u8 0] n = zb n := by
  apply Array.toList_inj.1
  rw [toList_madeCells_one]; simp [zb, ba]; exact Or.inr rfl
theorem own_first (w : World) (z c : Nat) (hc : 1 + z ≤ c) (hm : c ≤ 1000) : (w.alloc (.cells ((zb c).setIfInBounds 0 (.int .u8 128)) 5)).ownsRow w.heap.size 5 1 (.slice (some ⟨w.heap.size, 0, none⟩) (1 + z) c) (1 + z) (((128 : UInt8) :: List.replicate z 0).map bc) := by
  refine ⟨by simp; omega, .inr ⟨w.heap.size, c, _, rfl, Nat.le_refl _, heap_alloc_last _ _, hc, by unfold maxLen; omega, by simp [zb_size], ?_⟩⟩
  obtain ⟨d, rfl⟩ : ∃ d, c = 1 + z + d := ⟨c - (1 + z), by omega⟩
  have e : List.replicate (1 + z + d) (0 : UInt8) = 0 :: (List.replicate z 0 ++ List.replicate d 0) := by
    rw [show 1 + z + d = (z + d) + 1 by omega, List.replicate_succ, ← List.replicate_append_replicate]
  rw [zb, e]
  have e2 : (1 + z) * 1 = z + 1 := by omega
  rw [e2]
  simp [ba, bc]
  rfl
attribute [local go_sem] lb_wrap lb_mod
set_option maxRecDepth 100000 in
set_option maxHeartbeats 1000000 in
theorem padding_any (L : BitVec 64) (w : World) :
    Calls Tryz.prog 100 #[.int .u64 (wn L)] w fun e w' => ∃ v', e = .returned v' ∧ w'.ownsRow w.heap.size 5 1 v' (padB L).length ((padB L).map bc) ∧ Below w.heap.size w w' := by
  have hw0 := wn_nonneg L
  obtain ⟨r, hr, hr2, hrz⟩ : ∃ r : Nat, wn L % 128 = (r : Int) ∧ r < 128 ∧ zeros L.toNat = (239 - r) % 128 := ⟨L.toNat % 128, by unfold wn; omega, by omega, rfl⟩
  obtain ⟨z, hz, hz2, hzz⟩ : ∃ z : Nat, ((239 : Int) - r) % 128 = (z : Int) ∧ z < 128 ∧ zeros L.toNat = z := ⟨zeros L.toNat, by rw [hrz]; omega, by rw [hrz]; omega, rfl⟩
  obtain ⟨i0, hi, hz0, hz1, hz5⟩ := info_parts info5
  have hmk : ∀ w, (Instr.makeSlice 22 (.int .i64 (1 + (z : Int))) (.int .i64 (1 + (z : Int) + 16))).run Tryz.prog w = .ok (.slice (some ⟨w.heap.size, 0, none⟩) (1 + z) (1 + z + 16)) (w.alloc (.cells (zb (1 + z + 16)) 5)) := by
    intro w
    have h := run_make (P := Tryz.prog) w 22 5 i0 (.int .u8 0) und22 hi hz0 .i64 .i64 (1 + (z : Int)) (1 + (z : Int) + 16) (by omega) (by omega) (by rw [hz5]; omega) (by omega)
    rw [h, hz1, show (1 + (z : Int)).toNat = 1 + z by omega, show (1 + (z : Int) + 16).toNat = 1 + z + 16 by omega, Nat.mul_one]
    show Result.ok _ (w.alloc (.cells (madeCells #[.int .u8 0] (1 + z + 16)) 5)) = _
    rw [zb_made]
  have hs0 : 0 < (zb (1 + z + 16)).size := by rw [zb_size]; omega
  have hg0 : (zb (1 + z + 16))[0]? = some (.int .u8 0) := by
    rw [zb, ba_get _ _ (by simp), List.getD_eq_getElem?_getD, List.getElem?_replicate]; simp; rfl
  have h61 : wn L / (2305843009213693952 : Int) = wn (L >>> 61) := w_shr L 61
  have h3 : IntKind.u64.wrap (wn L * (8 : Int)) = wn (L <<< 3) := w_shl L 3
  have HZ := hide hzz
  clear hrz hi hz0 hz1 hz5 hzz
  go_enter Tryz.func100, Tryz.ntmps100
  go_wp2_with fail
  have hb0 : Below w.heap.size w (w.alloc (.cells ((zb (1 + z + 16)).setIfInBounds 0 (.int .u8 128)) 5)) := (Below.refl _ _).alloc (Nat.le_refl _) _
  refine (appendWord_any (L >>> 61) _ (1 + z) w.heap.size _ _ (by omega) (by simp) (own_first w z (1 + z + 16) (by omega) (by omega))).mono ?_
  rintro e w1 ⟨v1, rfl, hown1, hb1⟩
  go_wp2_with fail
  refine (appendWord_any (L <<< 3) _ (1 + z + 8) w.heap.size _ _ (by omega) (by have := hb1.size; simp at this; omega) hown1).mono ?_
  rintro e w2 ⟨v2, rfl, hown2, hb2⟩
  go_wp2
  go_ret
  refine ⟨_, rfl, ?_, (hb0.trans hb1).trans hb2⟩
  rw [padB_len, HZ.out, padB, HZ.out]
  exact hown2
end Go.Proofs.YtobgimpkkjaolaaGreatDoor.Sh
/- A hash in memory; what New makes and what foldPiece leaves, where the two tables lie as the text lays them. -/
namespace Go.Proofs.YtobgimpkkjaolaaGreatDoor.Sh
open Go.RowKit
def hashCells (st : List (BitVec 64)) (piece : List UInt8) (L : BitVec 64) : List Value := st.map wc ++ (piece.map bc ++ [wc L])
structure HashAt (w : World) (g : Nat) (st : List (BitVec 64)) (piece : List UInt8) (L : BitVec 64) : Prop where
  row : w.heap[g]? = some (.cells (hashCells st piece L).toArray 116 (0, 0))
  st8 : st.length = 8
  p128 : piece.length = 128
def z128 : List UInt8 := List.replicate 128 0
theorem HashAt.cell {w : World} {g : Nat} {st : List (BitVec 64)} {piece : List UInt8} {L : BitVec 64} (h : HashAt w g st piece L) (i : Nat) : w.cell? ⟨g, i, none⟩ = (hashCells st piece L)[i]? := by
  rw [cell_of_row _ _ _ _ _ _ h.row]; simp
theorem HashAt.len {w : World} {g : Nat} {st : List (BitVec 64)} {piece : List UInt8} {L : BitVec 64} (h : HashAt w g st piece L) : w.cell? ⟨g, 136, none⟩ = some (.int .u64 (wn L)) := by
  rw [h.cell, hashCells, List.getElem?_append_right (by simp [h.st8]), List.getElem?_append_right (by simp [h.st8, h.p128])]
  simp [h.st8, h.p128, wc]
theorem HashAt.stR {w : World} {g : Nat} {st : List (BitVec 64)} {piece : List UInt8} {L : BitVec 64} (h : HashAt w g st piece L) : w.rangeAt g 0 (st.map wc) := fun j v hv => by
  rw [Nat.zero_add, h.cell, hashCells, List.getElem?_append_left (by simpa using (List.getElem?_eq_some_iff.1 hv).1), hv]
theorem HashAt.pR {w : World} {g : Nat} {st : List (BitVec 64)} {piece : List UInt8} {L : BitVec 64} (h : HashAt w g st piece L) : w.rangeAt g 8 (piece.map bc) := fun j v hv => by
  rw [h.cell, hashCells, List.getElem?_append_right (by simp [h.st8]), List.getElem?_append_left (by have := (List.getElem?_eq_some_iff.1 hv).1; simp [h.st8] at this ⊢; omega)]
  simp only [List.length_map, h.st8, Nat.add_sub_cancel_left]; exact hv
theorem HashAt.fro {w : World} {g : Nat} {st : List (BitVec 64)} {piece : List UInt8} {L : BitVec 64} (h : HashAt w g st piece L) (i : Nat) : w.frozen? ⟨g, i, none⟩ = false := frozen_of_row _ _ _ _ _ h.row
theorem zero42 (w : World) : (zeroValue 116).run Tryz.prog w = .ok (.agg (hashCells z8 z128 0).toArray) w := by kernel_rfl
set_option maxRecDepth 100000 in
set_option maxHeartbeats 400000 in
theorem new_any (w : World) :
    Calls Tryz.prog 63 #[] w fun e w' => e = .returned (.pointer (some ⟨w.heap.size, 0, none⟩)) ∧ HashAt w' w.heap.size z8 z128 0 ∧ Below w.heap.size w w' ∧ w'.heap.size = w.heap.size + 1 := by
  have hb := zero42
  go_enter Tryz.func63, Tryz.ntmps63
  go_wp2
  go_ret
  exact ⟨rfl, ⟨heap_alloc_last _ _, rfl, rfl⟩, (Below.refl _ _).alloc (Nat.le_refl _) _, by simp⟩
theorem grown_of_below {w w' : World} {r : Option Nat} (h : Below w.heap.size w w') : w.grownBy w' r := ⟨h.os, h.tape, h.output, h.size, fun k hk _ => h.block k hk⟩
theorem grown_set {w w' : World} {g : Nat} (h : w.grownBy w' (some g)) (cs : Array Value) : w.grownBy (w'.setRow g cs) (some g) :=
  ⟨h.os, h.tape, h.output, by simpa using h.size, fun k hk hne => (setRow_other w' g k cs (fun e => hne (by rw [e]))).trans (h.block k hk hne)⟩
theorem grown_trans {a b c : World} {r : Option Nat} (h : a.grownBy b r) (k : b.grownBy c r) : a.grownBy c r :=
  ⟨k.os.trans h.os, k.tape.trans h.tape, k.output.trans h.output, Nat.le_trans h.size k.size, fun i hi hne => (k.block i (Nat.lt_of_lt_of_le hi h.size) hne).trans (h.block i hi hne)⟩
theorem seg_state (s0 s1 : List (BitVec 64)) (piece : List UInt8) (L : BitVec 64) (h0 : s0.length = 8) (h1 : s1.length = 8 := by rfl) : segSet (hashCells s0 piece L).toArray 0 (wa s1).toList = (hashCells s1 piece L).toArray := by
  unfold segSet
  congr 1
  have e : (wa s1).toList = s1.map wc := by simp [wa]
  rw [e, List.length_map, h1]
  have e8 : (s0.map wc).length = 8 := by simp [h0]
  simp only [List.take_zero, List.nil_append, Nat.zero_add, hashCells]
  rw [← e8, List.drop_left]
set_option linter.unusedSimpArgs false in
set_option maxRecDepth 100000 in
set_option maxHeartbeats 1000000 in
theorem foldPiece_no (g : Nat) (a0 a1 a2 a3 a4 a5 a6 a7 : BitVec 64) (piece : List UInt8) (L : BitVec 64) (w : World) (h : HashAt w g [a0, a1, a2, a3, a4, a5, a6, a7] piece L) (ht : Tabs w) (hL : (wn L == 128) = false) :
    Calls Tryz.prog 112 #[.pointer (some ⟨g, 0, none⟩)] w fun e w' => e = .returned (.tuple #[]) ∧ HashAt w' g (foldW [a0, a1, a2, a3, a4, a5, a6, a7] (spreadW piece)) piece L ∧ w.grownBy w' (some g) := by
  have hlen := h.len
  have z40 : (Tryz.prog.info? 114).map (·.size) = some (piece.map bc).length := by rw [List.length_map, h.p128]; exact size40
  go_enter Tryz.func112, Tryz.ntmps112
  go_wp2
  refine wp_region_sink (S := fun w' => w'.rangeAt g 0 (([a0, a1, a2, a3, a4, a5, a6, a7] : List (BitVec 64)).map wc) ∧ w'.rangeAt g 8 (piece.map bc)) 13 (by kernel_rfl) rfl rfl rfl rfl (by kernel_rfl) (by kernel_rfl) (by kernel_rfl) ⟨h.stR, h.pR⟩ (fun hS => ?_)
  simp only [List.setIfInBounds_toArray, List.set_cons_zero, List.set_cons_succ, Oper.idle]
  refine wpAnyH_take (i := 0) (v := .pointer (some ⟨g, 0, none⟩)) rfl (by kernel_rfl) (by kernel_rfl) (by kernel_rfl) (fun _ _ _ h => h) (Or.inl ⟨by rfl, fun w hSw => by go_simp⟩) hS ?_
  simp only [List.getElem_toArray, List.getElem_cons_zero, List.getElem_cons_succ, Act.put, List.setIfInBounds_toArray, List.set_cons_zero, List.set_cons_succ]
  refine wpAnyH_take (i := 1) (v := .pointer (some ⟨g, 0, none⟩)) rfl (by kernel_rfl) (by kernel_rfl) (by kernel_rfl) (fun _ _ _ h => h) (Or.inl ⟨by rfl, fun w hSw => by go_simp⟩) hS ?_
  simp only [List.getElem_toArray, List.getElem_cons_zero, List.getElem_cons_succ, Act.put, List.setIfInBounds_toArray, List.set_cons_zero, List.set_cons_succ]
  refine wpAnyH_take (i := 2) (v := .pointer (some ⟨g, 0, none⟩)) rfl (by kernel_rfl) (by kernel_rfl) (by kernel_rfl) (fun _ _ _ h => h) (Or.inl ⟨by rfl, fun w hSw => by go_simp⟩) hS ?_
  simp only [List.getElem_toArray, List.getElem_cons_zero, List.getElem_cons_succ, Act.put, List.setIfInBounds_toArray, List.set_cons_zero, List.set_cons_succ]
  refine wpAnyH_take (i := 3) (v := .pointer (some ⟨g, 0, none⟩)) rfl (by kernel_rfl) (by kernel_rfl) (by kernel_rfl) (fun _ _ _ h => h) (Or.inl ⟨by rfl, fun w hSw => by go_simp⟩) hS ?_
  simp only [List.getElem_toArray, List.getElem_cons_zero, List.getElem_cons_succ, Act.put, List.setIfInBounds_toArray, List.set_cons_zero, List.set_cons_succ]
  refine wpAnyH_take (i := 4) (v := .agg (([a0, a1, a2, a3, a4, a5, a6, a7] : List (BitVec 64)).map wc).toArray) rfl (by kernel_rfl) (by kernel_rfl) (by kernel_rfl) (fun _ _ _ h => h) (yieldsIf_load_mid (by rfl) 66 (.tmp 14) rfl g 0 rfl _ (.array 8 27) (fun w h => h.1) und35 rfl size35) hS ?_
  simp only [List.getElem_toArray, List.getElem_cons_zero, List.getElem_cons_succ, Act.put, List.setIfInBounds_toArray, List.set_cons_zero, List.set_cons_succ]
  refine wpAnyH_take (i := 5) (v := .pointer (some ⟨g, 0, none⟩)) rfl (by kernel_rfl) (by kernel_rfl) (by kernel_rfl) (fun _ _ _ h => h) (Or.inl ⟨by rfl, fun w hSw => by go_simp⟩) hS ?_
  simp only [List.getElem_toArray, List.getElem_cons_zero, List.getElem_cons_succ, Act.put, List.setIfInBounds_toArray, List.set_cons_zero, List.set_cons_succ]
  refine wpAnyH_take (i := 6) (v := .pointer (some ⟨g, 0, none⟩)) rfl (by kernel_rfl) (by kernel_rfl) (by kernel_rfl) (fun _ _ _ h => h) (Or.inl ⟨by rfl, fun w hSw => by go_simp⟩) hS ?_
  simp only [List.getElem_toArray, List.getElem_cons_zero, List.getElem_cons_succ, Act.put, List.setIfInBounds_toArray, List.set_cons_zero, List.set_cons_succ]
  refine wpAnyH_take (i := 7) (v := .pointer (some ⟨g, 8, none⟩)) rfl (by kernel_rfl) (by kernel_rfl) (by kernel_rfl) (fun _ _ _ h => h) (Or.inl ⟨by rfl, fun w hSw => by go_simp⟩) hS ?_
  simp only [List.getElem_toArray, List.getElem_cons_zero, List.getElem_cons_succ, Act.put, List.setIfInBounds_toArray, List.set_cons_zero, List.set_cons_succ]
  refine wpAnyH_take (i := 8) (v := .agg (piece.map bc).toArray) rfl (by kernel_rfl) (by kernel_rfl) (by kernel_rfl) (fun _ _ _ h => h) (yieldsIf_load_mid (by rfl) 114 (.tmp 18) rfl g 8 rfl _ (.array 128 5) (fun w h => h.2) und40 rfl z40) hS ?_
  simp only [List.getElem_toArray, List.getElem_cons_zero, List.getElem_cons_succ, Act.put, List.setIfInBounds_toArray, List.set_cons_zero, List.set_cons_succ]
  refine wpAnyH_enter (i := 9) (f := 120) (vals := #[.agg (ba piece)]) (by kernel_rfl) rfl rfl (by go_simp; rfl) (spread_any piece h.p128 _) ?_
  rintro e w1 ⟨rfl, hb1⟩
  have hgw : g < w.heap.size := (Array.getElem?_eq_some_iff.1 h.row).1
  have hb1' : Below w.heap.size w w1 := ⟨hb1.os, hb1.tape, hb1.output, hb1.size, hb1.block⟩
  have hS1 : (fun w' : World => w'.rangeAt g 0 (([a0, a1, a2, a3, a4, a5, a6, a7] : List (BitVec 64)).map wc) ∧ w'.rangeAt g 8 (piece.map bc)) w1 := ⟨fun j v hv => (hb1'.cell hgw).trans (h.stR j v hv), fun j v hv => (hb1'.cell hgw).trans (h.pR j v hv)⟩
  refine ⟨_, rfl, hS1, ?_⟩
  simp only [List.getElem_toArray, List.getElem_cons_zero, List.getElem_cons_succ, Act.put, List.setIfInBounds_toArray, List.set_cons_zero, List.set_cons_succ]
  refine wpAnyH_enter (i := 10) (f := 119) (vals := #[.agg (wa [a0, a1, a2, a3, a4, a5, a6, a7]), .agg (wa (spreadW piece))]) (by kernel_rfl) rfl rfl (by go_simp; rfl) (fold_any a0 a1 a2 a3 a4 a5 a6 a7 _ (spreadW_len _) _ (ht.below hb1' ht.2.2)) ?_
  rintro e w2 ⟨rfl, hb2⟩
  have hb2' : Below w.heap.size w w2 := hb1'.trans (hb2.mono hb1'.size)
  have hS : (fun w' : World => w'.rangeAt g 0 (([a0, a1, a2, a3, a4, a5, a6, a7] : List (BitVec 64)).map wc) ∧ w'.rangeAt g 8 (piece.map bc)) w2 := ⟨fun j v hv => (hb2'.cell hgw).trans (h.stR j v hv), fun j v hv => (hb2'.cell hgw).trans (h.pR j v hv)⟩
  refine ⟨_, rfl, hS, ?_⟩
  simp only [List.getElem_toArray, List.getElem_cons_zero, List.getElem_cons_succ, Act.put, List.setIfInBounds_toArray, List.set_cons_zero, List.set_cons_succ]
  refine wpAnyH_take (i := 11) (v := .pointer (some ⟨g, 0, none⟩)) rfl (by kernel_rfl) (by kernel_rfl) (by kernel_rfl) (fun _ _ _ h => h) (Or.inl ⟨by rfl, fun w hSw => by go_simp⟩) hS ?_
  simp only [List.getElem_toArray, List.getElem_cons_zero, List.getElem_cons_succ, Act.put, List.setIfInBounds_toArray, List.set_cons_zero, List.set_cons_succ]
  refine wpAnyH_take (i := 12) (v := .pointer (some ⟨g, 0, none⟩)) rfl (by kernel_rfl) (by kernel_rfl) (by kernel_rfl) (fun _ _ _ h => h) (Or.inl ⟨by rfl, fun w hSw => by go_simp⟩) hS ?_
  simp only [List.getElem_toArray, List.getElem_cons_zero, List.getElem_cons_succ, Act.put, List.setIfInBounds_toArray, List.set_cons_zero, List.set_cons_succ]
  refine wpAnyH_take (i := 13) (v := .bool false) rfl (by kernel_rfl) (by kernel_rfl) (by kernel_rfl) (fun _ _ _ h => h) (Or.inl ⟨by rfl, fun w hSw => by go_simp⟩) hS ?_
  simp only [List.getElem_toArray, List.getElem_cons_zero, List.getElem_cons_succ, Act.put, List.setIfInBounds_toArray, List.set_cons_zero, List.set_cons_succ]
  refine wpAnyH_done (by kernel_rfl) ?_ _
  have r2 : w2.heap[g]? = some (.cells (hashCells [a0, a1, a2, a3, a4, a5, a6, a7] piece L).toArray 116 (0, 0)) := (hb2'.block g hgw).trans h.row
  have hf8 : (wa (foldW [a0, a1, a2, a3, a4, a5, a6, a7] (spreadW piece))).size = 8 := by rw [wa_size, foldW_len]; rfl
  refine wp_store_seg 66 (.tmp 23) (.tmp 21) rfl g 0 _ rfl rfl 116 _ r2 (by rw [hf8]; exact size35) (by rw [hf8]; simp [hashCells]) (wa_one _) ?_
  generalize hq : segSet (hashCells [a0, a1, a2, a3, a4, a5, a6, a7] piece L).toArray 0 (wa (foldW [a0, a1, a2, a3, a4, a5, a6, a7] (spreadW piece))).toList = cs
  go_end0
  refine ⟨rfl, ⟨?_, by rw [foldW_len]; rfl, h.p128⟩, ?_⟩
  · rw [setRow_heap _ _ _ _ _ _ r2, ← hq]
    congr 2
  · exact grown_set (grown_of_below hb2') _
set_option linter.unusedSimpArgs false in
set_option maxRecDepth 100000 in
set_option maxHeartbeats 1000000 in
theorem foldPiece_yes (g : Nat) (a0 a1 a2 a3 a4 a5 a6 a7 : BitVec 64) (s0 : List (BitVec 64)) (piece : List UInt8) (L : BitVec 64) (w0 : World) (hg : 6 ≤ g) (h0 : HashAt w0 g s0 piece L) (ht0 : Tabs w0) (htab : w0.rangeAt 4 0 (([a0, a1, a2, a3, a4, a5, a6, a7] : List (BitVec 64)).map wc)) (hL : (wn L == 128) = true) :
    Calls Tryz.prog 112 #[.pointer (some ⟨g, 0, none⟩)] w0 fun e w' => e = .returned (.tuple #[]) ∧ HashAt w' g (foldW [a0, a1, a2, a3, a4, a5, a6, a7] (spreadW piece)) piece L ∧ w0.grownBy w' (some g) := by
  have hlen := h0.len
  have z40 : (Tryz.prog.info? 114).map (·.size) = some (piece.map bc).length := by rw [List.length_map, h0.p128]; exact size40
  have hc0 := h0.st8
  have hp0 := h0.p128
  go_enter Tryz.func112, Tryz.ntmps112
  go_wp2_with (first | (refine wpList_load_mid rfl 66 (.global 4) rfl 4 0 rfl _ (.array 8 27) htab und35 rfl size35 ?_) | (refine wpList_store_seg rfl 66 (.tmp 10) (.tmp 8) rfl g 0 _ rfl rfl 116 _ h0.row size35 (by simp [hashCells, hc0, hp0]) (wa_one [a0, a1, a2, a3, a4, a5, a6, a7]) ?_))
  obtain ⟨w, hw⟩ : ∃ w, w = w0.setRow g (segSet (hashCells s0 piece L).toArray 0 [wc a0, wc a1, wc a2, wc a3, wc a4, wc a5, wc a6, wc a7]) := ⟨_, rfl⟩
  have hgr0 : w0.grownBy w (some g) := by rw [hw]; exact grown_set ⟨rfl, rfl, rfl, Nat.le_refl _, fun _ _ _ => rfl⟩ _
  have h : HashAt w g [a0, a1, a2, a3, a4, a5, a6, a7] piece L := by
    refine ⟨?_, rfl, hp0⟩
    rw [hw, setRow_heap _ _ _ _ _ _ h0.row]
    exact congrArg (fun c => some (Obj.cells c 116 (0, 0))) (seg_state s0 [a0, a1, a2, a3, a4, a5, a6, a7] piece L hc0)
  have ht : Tabs w := by rw [hw]; exact ht0.below (B := 6) (Below.setRow (Below.refl _ _) _ _ hg) (Nat.le_refl _)
  rw [← hw]
  clear hw hlen
  simp only [Act.put]
  refine wp_region_sink (S := fun w' => w'.rangeAt g 0 (([a0, a1, a2, a3, a4, a5, a6, a7] : List (BitVec 64)).map wc) ∧ w'.rangeAt g 8 (piece.map bc)) 13 (by kernel_rfl) rfl rfl rfl rfl (by kernel_rfl) (by kernel_rfl) (by kernel_rfl) ⟨h.stR, h.pR⟩ (fun hS => ?_)
  simp only [List.setIfInBounds_toArray, List.set_cons_zero, List.set_cons_succ, Oper.idle]
  refine wpAnyH_take (i := 0) (v := .pointer (some ⟨g, 0, none⟩)) rfl (by kernel_rfl) (by kernel_rfl) (by kernel_rfl) (fun _ _ _ h => h) (Or.inl ⟨by rfl, fun w hSw => by go_simp⟩) hS ?_
  simp only [List.getElem_toArray, List.getElem_cons_zero, List.getElem_cons_succ, Act.put, List.setIfInBounds_toArray, List.set_cons_zero, List.set_cons_succ]
  refine wpAnyH_take (i := 1) (v := .pointer (some ⟨g, 0, none⟩)) rfl (by kernel_rfl) (by kernel_rfl) (by kernel_rfl) (fun _ _ _ h => h) (Or.inl ⟨by rfl, fun w hSw => by go_simp⟩) hS ?_
  simp only [List.getElem_toArray, List.getElem_cons_zero, List.getElem_cons_succ, Act.put, List.setIfInBounds_toArray, List.set_cons_zero, List.set_cons_succ]
  refine wpAnyH_take (i := 2) (v := .pointer (some ⟨g, 0, none⟩)) rfl (by kernel_rfl) (by kernel_rfl) (by kernel_rfl) (fun _ _ _ h => h) (Or.inl ⟨by rfl, fun w hSw => by go_simp⟩) hS ?_
  simp only [List.getElem_toArray, List.getElem_cons_zero, List.getElem_cons_succ, Act.put, List.setIfInBounds_toArray, List.set_cons_zero, List.set_cons_succ]
  refine wpAnyH_take (i := 3) (v := .pointer (some ⟨g, 0, none⟩)) rfl (by kernel_rfl) (by kernel_rfl) (by kernel_rfl) (fun _ _ _ h => h) (Or.inl ⟨by rfl, fun w hSw => by go_simp⟩) hS ?_
  simp only [List.getElem_toArray, List.getElem_cons_zero, List.getElem_cons_succ, Act.put, List.setIfInBounds_toArray, List.set_cons_zero, List.set_cons_succ]
  refine wpAnyH_take (i := 4) (v := .agg (([a0, a1, a2, a3, a4, a5, a6, a7] : List (BitVec 64)).map wc).toArray) rfl (by kernel_rfl) (by kernel_rfl) (by kernel_rfl) (fun _ _ _ h => h) (yieldsIf_load_mid (by rfl) 66 (.tmp 14) rfl g 0 rfl _ (.array 8 27) (fun w h => h.1) und35 rfl size35) hS ?_
  simp only [List.getElem_toArray, List.getElem_cons_zero, List.getElem_cons_succ, Act.put, List.setIfInBounds_toArray, List.set_cons_zero, List.set_cons_succ]
  refine wpAnyH_take (i := 5) (v := .pointer (some ⟨g, 0, none⟩)) rfl (by kernel_rfl) (by kernel_rfl) (by kernel_rfl) (fun _ _ _ h => h) (Or.inl ⟨by rfl, fun w hSw => by go_simp⟩) hS ?_
  simp only [List.getElem_toArray, List.getElem_cons_zero, List.getElem_cons_succ, Act.put, List.setIfInBounds_toArray, List.set_cons_zero, List.set_cons_succ]
  refine wpAnyH_take (i := 6) (v := .pointer (some ⟨g, 0, none⟩)) rfl (by kernel_rfl) (by kernel_rfl) (by kernel_rfl) (fun _ _ _ h => h) (Or.inl ⟨by rfl, fun w hSw => by go_simp⟩) hS ?_
  simp only [List.getElem_toArray, List.getElem_cons_zero, List.getElem_cons_succ, Act.put, List.setIfInBounds_toArray, List.set_cons_zero, List.set_cons_succ]
  refine wpAnyH_take (i := 7) (v := .pointer (some ⟨g, 8, none⟩)) rfl (by kernel_rfl) (by kernel_rfl) (by kernel_rfl) (fun _ _ _ h => h) (Or.inl ⟨by rfl, fun w hSw => by go_simp⟩) hS ?_
  simp only [List.getElem_toArray, List.getElem_cons_zero, List.getElem_cons_succ, Act.put, List.setIfInBounds_toArray, List.set_cons_zero, List.set_cons_succ]
  refine wpAnyH_take (i := 8) (v := .agg (piece.map bc).toArray) rfl (by kernel_rfl) (by kernel_rfl) (by kernel_rfl) (fun _ _ _ h => h) (yieldsIf_load_mid (by rfl) 114 (.tmp 18) rfl g 8 rfl _ (.array 128 5) (fun w h => h.2) und40 rfl z40) hS ?_
  simp only [List.getElem_toArray, List.getElem_cons_zero, List.getElem_cons_succ, Act.put, List.setIfInBounds_toArray, List.set_cons_zero, List.set_cons_succ]
  refine wpAnyH_enter (i := 9) (f := 120) (vals := #[.agg (ba piece)]) (by kernel_rfl) rfl rfl (by go_simp; rfl) (spread_any piece h.p128 _) ?_
  rintro e w1 ⟨rfl, hb1⟩
  have hgw : g < w.heap.size := (Array.getElem?_eq_some_iff.1 h.row).1
  have hb1' : Below w.heap.size w w1 := ⟨hb1.os, hb1.tape, hb1.output, hb1.size, hb1.block⟩
  have hS1 : (fun w' : World => w'.rangeAt g 0 (([a0, a1, a2, a3, a4, a5, a6, a7] : List (BitVec 64)).map wc) ∧ w'.rangeAt g 8 (piece.map bc)) w1 := ⟨fun j v hv => (hb1'.cell hgw).trans (h.stR j v hv), fun j v hv => (hb1'.cell hgw).trans (h.pR j v hv)⟩
  refine ⟨_, rfl, hS1, ?_⟩
  simp only [List.getElem_toArray, List.getElem_cons_zero, List.getElem_cons_succ, Act.put, List.setIfInBounds_toArray, List.set_cons_zero, List.set_cons_succ]
  refine wpAnyH_enter (i := 10) (f := 119) (vals := #[.agg (wa [a0, a1, a2, a3, a4, a5, a6, a7]), .agg (wa (spreadW piece))]) (by kernel_rfl) rfl rfl (by go_simp; rfl) (fold_any a0 a1 a2 a3 a4 a5 a6 a7 _ (spreadW_len _) _ (ht.below hb1' ht.2.2)) ?_
  rintro e w2 ⟨rfl, hb2⟩
  have hb2' : Below w.heap.size w w2 := hb1'.trans (hb2.mono hb1'.size)
  have hS : (fun w' : World => w'.rangeAt g 0 (([a0, a1, a2, a3, a4, a5, a6, a7] : List (BitVec 64)).map wc) ∧ w'.rangeAt g 8 (piece.map bc)) w2 := ⟨fun j v hv => (hb2'.cell hgw).trans (h.stR j v hv), fun j v hv => (hb2'.cell hgw).trans (h.pR j v hv)⟩
  refine ⟨_, rfl, hS, ?_⟩
  simp only [List.getElem_toArray, List.getElem_cons_zero, List.getElem_cons_succ, Act.put, List.setIfInBounds_toArray, List.set_cons_zero, List.set_cons_succ]
  refine wpAnyH_take (i := 11) (v := .pointer (some ⟨g, 0, none⟩)) rfl (by kernel_rfl) (by kernel_rfl) (by kernel_rfl) (fun _ _ _ h => h) (Or.inl ⟨by rfl, fun w hSw => by go_simp⟩) hS ?_
  simp only [List.getElem_toArray, List.getElem_cons_zero, List.getElem_cons_succ, Act.put, List.setIfInBounds_toArray, List.set_cons_zero, List.set_cons_succ]
  refine wpAnyH_take (i := 12) (v := .pointer (some ⟨g, 0, none⟩)) rfl (by kernel_rfl) (by kernel_rfl) (by kernel_rfl) (fun _ _ _ h => h) (Or.inl ⟨by rfl, fun w hSw => by go_simp⟩) hS ?_
  simp only [List.getElem_toArray, List.getElem_cons_zero, List.getElem_cons_succ, Act.put, List.setIfInBounds_toArray, List.set_cons_zero, List.set_cons_succ]
  refine wpAnyH_take (i := 13) (v := .bool false) rfl (by kernel_rfl) (by kernel_rfl) (by kernel_rfl) (fun _ _ _ h => h) (Or.inl ⟨by rfl, fun w hSw => by go_simp⟩) hS ?_
  simp only [List.getElem_toArray, List.getElem_cons_zero, List.getElem_cons_succ, Act.put, List.setIfInBounds_toArray, List.set_cons_zero, List.set_cons_succ]
  refine wpAnyH_done (by kernel_rfl) ?_ _
  have r2 : w2.heap[g]? = some (.cells (hashCells [a0, a1, a2, a3, a4, a5, a6, a7] piece L).toArray 116 (0, 0)) := (hb2'.block g hgw).trans h.row
  have hf8 : (wa (foldW [a0, a1, a2, a3, a4, a5, a6, a7] (spreadW piece))).size = 8 := by rw [wa_size, foldW_len]; rfl
  refine wp_store_seg 66 (.tmp 23) (.tmp 21) rfl g 0 _ rfl rfl 116 _ r2 (by rw [hf8]; exact size35) (by rw [hf8]; simp [hashCells]) (wa_one _) ?_
  generalize hq : segSet (hashCells [a0, a1, a2, a3, a4, a5, a6, a7] piece L).toArray 0 (wa (foldW [a0, a1, a2, a3, a4, a5, a6, a7] (spreadW piece))).toList = cs
  go_end0
  refine ⟨rfl, ⟨?_, by rw [foldW_len]; rfl, h.p128⟩, ?_⟩
  · rw [setRow_heap _ _ _ _ _ _ r2, ← hq]
    congr 2
  · exact grown_trans hgr0 (grown_set (grown_of_below hb2') _)
end Go.Proofs.YtobgimpkkjaolaaGreatDoor.Sh
/- What take leaves of a hash and of the bytes that it is handed, as long as all of them are fewer than nine times ten to the eighteenth. -/
namespace Go.Proofs.YtobgimpkkjaolaaGreatDoor.Sh
open Go.RowKit
theorem h0_tab {w : World} (h : Tabs w) : w.rangeAt 4 0 (h0w.map wc) := h.1
theorem foldPiece_any (g : Nat) (st : List (BitVec 64)) (piece : List UInt8) (L : BitVec 64) (w : World) (hg : 6 ≤ g) (h : HashAt w g st piece L) (ht : Tabs w) :
    Calls Tryz.prog 112 #[.pointer (some ⟨g, 0, none⟩)] w fun e w' => e = .returned (.tuple #[]) ∧ HashAt w' g (foldW (if L = 128 then h0w else st) (spreadW piece)) piece L ∧ w.grownBy w' (some g) := by
  by_cases hL : L = 128
  · have hb : (wn L == 128) = true := by rw [hL]; decide
    rw [if_pos hL]
    exact foldPiece_yes g _ _ _ _ _ _ _ _ st piece L w hg h ht (h0_tab ht) hb
  · have hb : (wn L == 128) = false := by
      rw [beq_eq_false_iff_ne]; intro e; exact hL (wn_inj (e.trans (by decide)))
    rw [if_neg hL]
    have e8 := eight st h.st8
    rw [e8] at h ⊢
    exact foldPiece_no g _ _ _ _ _ _ _ _ piece L w h ht hb
def BsAt (w : World) (g : Nat) (v : Value) (bs : List UInt8) : Prop :=
  ∃ ao c, v = .slice ao bs.length c ∧ bs.length ≤ c ∧ (bs ≠ [] → ∃ b o, ao = some ⟨b, o, none⟩ ∧ b ≠ g ∧ b < w.heap.size ∧ w.rangeAt b o (bs.map bc))
theorem run_slice_piece (w : World) (g r : Nat) (h : r < 128) : (Instr.sliceAt 114 (.pointer (some ⟨g, 8, none⟩)) (some (.int .i64 (r : Int))) none none).run Tryz.prog w = .ok (.slice (some ⟨g, 8 + r, none⟩) (128 - r) (128 - r)) w := by
  have h1 : ¬ 128 < r := by omega
  have h2 : ¬ 128 = r := by omega
  simp [Instr.sliceAt, run_underlying und40, Instr.sureAddr, Instr.sliceBounds, Instr.sliceBound, asIntOf, h1, h2, Addr.add_mid]
theorem seg_piece (st : List (BitVec 64)) (piece new : List UInt8) (L : BitVec 64) (r : Nat) (h0 : st.length = 8) (hp : piece.length = 128) (hr : r + new.length ≤ 128) :
    (hashCells st piece L).take (8 + r) ++ new.map bc ++ (hashCells st piece L).drop (8 + r + (new.map bc).length) = hashCells st (piece.take r ++ new ++ piece.drop (r + new.length)) L := by
  have e8 : (st.map wc).length = 8 := by simp [h0]
  have e1 : (hashCells st piece L).take (8 + r) = st.map wc ++ (piece.map bc).take r := by
    unfold hashCells
    rw [← e8, List.take_length_add_append, List.take_append_of_le_length (by simp; omega)]
  have e2 : (hashCells st piece L).drop (8 + r + (new.map bc).length) = (piece.map bc).drop (r + new.length) ++ [wc L] := by
    unfold hashCells
    rw [List.length_map, Nat.add_assoc, ← e8, List.drop_length_add_append, List.drop_append_of_le_length (by simp; omega)]
  rw [e1, e2]
  simp [hashCells]
theorem HashAt.setLen {w : World} {g : Nat} {st : List (BitVec 64)} {piece : List UInt8} {L : BitVec 64} (h : HashAt w g st piece L) (L' : BitVec 64) : HashAt (w.setCell ⟨g, 136, none⟩ (.int .u64 (wn L'))) g st piece L' := by
  refine ⟨?_, h.st8, h.p128⟩
  rw [heap_setCell_same _ _ _ _ _ _ h.row]
  congr 2
  have e : (st.map wc ++ piece.map bc).length = 136 := by simp [h.st8, h.p128]
  simp only [hashCells, ← List.append_assoc, List.setIfInBounds_toArray]
  rw [← e, List.set_append_right _ _ (Nat.le_refl _)]
  simp [wc]
theorem grown_cell {w w' : World} {g : Nat} (h : w.grownBy w' (some g)) (i : Nat) (v : Value) : w.grownBy (w'.setCell ⟨g, i, none⟩ v) (some g) :=
  ⟨h.os, h.tape, h.output, by simpa using h.size, fun k hk hne => (heap_setCell_other w' _ k v (fun e => hne (by rw [e]))).trans (h.block k hk hne)⟩
theorem tabs_grown {w w' : World} {g : Nat} (h : Tabs w) (hg : w.grownBy w' (some g)) (h2 : 6 ≤ g) : Tabs w' :=
  ⟨fun j v hv => hg.cell (h.1 j v hv) (by simp; omega), fun j v hv => hg.cell (h.2.1 j v hv) (by simp; omega), Nat.le_trans h.2.2 hg.size⟩
theorem n_wrap (n : Nat) : IntKind.u64.wrap (n : Int) = wn (BitVec.ofNat 64 n) := by
  unfold wn; rw [IntKind.wrap_u64, BitVec.toNat_ofNat]; omega
set_option maxRecDepth 100000 in
set_option maxHeartbeats 1000000 in
theorem take_any (g : Nat) (m bs : List UInt8) (st : List (BitVec 64)) (piece : List UInt8) (L : BitVec 64) (w : World) (b o c : Nat) (hg : 6 ≤ g) (h : HashAt w g st piece L) (hI : HInv m st piece L) (ht : Tabs w)
    (hbs : w.rangeAt b o (bs.map bc)) (hm : m.length + bs.length < 9000000000000000000) :
    Calls Tryz.prog 99 #[.pointer (some ⟨g, 0, none⟩), .slice (some ⟨b, o, none⟩) bs.length c] w fun e w' => e = .returned (.int .i64 (tookN m bs : Nat)) ∧ (∃ st' piece' L', HashAt w' g st' piece' L' ∧ HInv (m ++ bs.take (tookN m bs)) st' piece' L') ∧ w.grownBy w' (some g) := by
  obtain ⟨r, hr, hr2, hr3⟩ : ∃ r : Nat, wn L % 128 = (r : Int) ∧ r < 128 ∧ m.length % 128 = r := ⟨m.length % 128, by rw [← hI.len]; unfold wn; omega, by omega, rfl⟩
  have hw0 := wn_nonneg L
  have hlen := h.len
  have hfr := h.fro 136
  have hsl := run_slice_piece w g r hr2
  have hN := tookN_le m bs
  have hNr : tookN m bs = min (128 - r) bs.length := by rw [tookN, hr3]
  obtain ⟨W1, hcp, h1, hg1⟩ : ∃ W1, (Builtin.copy_ #[22, 22] 3 #[.slice (some ⟨g, 8 + r, none⟩) (128 - r) (128 - r), .slice (some ⟨b, o, none⟩) bs.length c]).run Tryz.prog w = .ok (.int .i64 (tookN m bs : Nat)) W1 ∧ HashAt W1 g st (tookP piece m bs) L ∧ w.grownBy W1 (some g) := by
    have hl : ((bs.take (tookN m bs)).map bc).length = tookN m bs := by simp; omega
    have hcp := run_copy_row Tryz.prog w 22 22 3 5 g (8 + r) (128 - r) (128 - r) ⟨b, o, none⟩ bs.length c (hashCells st piece L).toArray 116 ((bs.take (tookN m bs)).map bc) und22 size5 h.row
      (by rw [hl, hNr]; exact Nat.min_comm _ _) (fun j v hv => by
        rw [Addr.add_mid]
        refine hbs j v ?_
        rw [List.map_take, List.getElem?_take] at hv
        split at hv
        · exact hv
        · simp at hv) (by rw [hl]; simp [hashCells, h.st8, h.p128]; omega) (by intro v hv; rw [List.mem_map] at hv; obtain ⟨x, _, rfl⟩ := hv; rfl)
    have hgi : goInt ((bs.take (tookN m bs)).map bc).length = Value.int .i64 (tookN m bs : Nat) := by rw [hl]; rfl
    rw [hgi] at hcp
    refine ⟨_, hcp, ?_, grown_set ⟨rfl, rfl, rfl, Nat.le_refl _, fun _ _ _ => rfl⟩ _⟩
    refine ⟨?_, h.st8, tookP_len _ _ _ h.p128⟩
    have hsp := seg_piece st piece (bs.take (tookN m bs)) L r h.st8 h.p128 (by simp; omega)
    rw [setRow_heap _ _ _ _ _ _ h.row]
    show some (Obj.cells (List.take (8 + r) (hashCells st piece L) ++ List.map bc (List.take (tookN m bs) bs) ++ List.drop (8 + r + (List.map bc (List.take (tookN m bs) bs)).length) (hashCells st piece L)).toArray 116 (0, 0)) = _
    rw [hsp]
    have hl2 : (bs.take (tookN m bs)).length = tookN m bs := by simp; omega
    rw [tookP, hr3, hl2]
  have hlen1 := h1.len
  have hfr1 := h1.fro 136
  have hnw := n_wrap (tookN m bs)
  have hadd := w_add L (BitVec.ofNat 64 (tookN m bs))
  have hN64 : (tookN m bs : Int) ≤ 128 := by omega
  have H := hide (And.intro hr3 (And.intro hN (And.intro h1 (And.intro hg1 hI))))
  have HM := hide hm
  clear hNr hr3 hN h1 hg1 h hI hbs hm
  by_cases hfull : r + tookN m bs = 128
  · have hd : ((r : Int) + (tookN m bs : Int) == 128) = true := by rw [beq_iff_eq]; omega
    have HF := hide hfull
    clear hfull
    generalize htn : tookN m bs = N at *
    go_enter Tryz.func99, Tryz.ntmps99
    go_wp2_with fail
    obtain ⟨hr3, hN, h1, hg1, hI⟩ := H.out
    have ht1 : Tabs (W1.setCell ⟨g, 136, none⟩ (.int .u64 (wn (L + BitVec.ofNat 64 N)))) := tabs_grown ht (grown_cell hg1 136 _) hg
    refine (foldPiece_any g st _ _ _ hg (h1.setLen _) ht1).mono ?_
    rintro e w2 ⟨rfl, h2, hg2⟩
    have hgf : w.grownBy w2 (some g) := grown_trans (grown_cell hg1 136 _) hg2
    have hI2 := hI.full bs (by have := HM.out; omega) (by rw [htn, hr3]; exact HF.out)
    rw [htn] at hI2
    have R := hide (And.intro hgf (And.intro h2 hI2))
    clear hgf h2 hI2 hg2 ht1 h1 hg1 hI hr3 hN
    go_wp2
    go_ret
    exact ⟨rfl, ⟨_, _, _, R.out.2.1, R.out.2.2⟩, R.out.1⟩
  · have hd : ((r : Int) + (tookN m bs : Int) == 128) = false := by rw [beq_eq_false_iff_ne]; omega
    have HF := hide hfull
    clear hfull
    generalize htn : tookN m bs = N at *
    go_enter Tryz.func99, Tryz.ntmps99
    go_wp2
    go_ret
    obtain ⟨hr3, hN, h1, hg1, hI⟩ := H.out
    have hI2 := hI.more bs (by have := HM.out; omega) (by have := HF.out; rw [htn, hr3]; omega)
    rw [htn] at hI2
    exact ⟨rfl, ⟨_, _, _, h1.setLen _, hI2⟩, grown_cell hg1 136 _⟩
end Go.Proofs.YtobgimpkkjaolaaGreatDoor.Sh
/- What handOn and Write leave of a hash: all that was written, and the bytes behind it; under the bound of take. -/
namespace Go.Proofs.YtobgimpkkjaolaaGreatDoor.Sh
open Go.RowKit
def Hashed (w : World) (g : Nat) (m : List UInt8) : Prop := ∃ st piece L, HashAt w g st piece L ∧ HInv m st piece L
def sliceLen : Value → Nat
  | .slice _ n _ => n
  | _ => 0
theorem run_reslice (w : World) (ao : Option Addr) (n c k : Nat) (hk : k ≤ n) : (Instr.sliceAt 22 (.slice ao n c) (some (.int .i64 (k : Int))) none none).run Tryz.prog w = .ok (.slice (if c = k then ao else ao.map (·.add k)) (n - k) (c - k)) w := by
  have h1 : ¬ n < k := by omega
  simp [Instr.sliceAt, Instr.slice, run_underlying und22, Instr.sliceBounds, Instr.sliceBound, asIntOf, h1]
theorem BsAt.drop {w : World} {g : Nat} {bs : List UInt8} {ao : Option Addr} {c : Nat} (h : BsAt w g (.slice ao bs.length c) bs) (k : Nat) :
    BsAt w g (.slice (if c = k then ao else ao.map (·.add k)) (bs.length - k) (c - k)) (bs.drop k) := by
  obtain ⟨ao', c', e, hc, hh⟩ := h
  injection e with e1 e2 e3
  subst e1 e3
  refine ⟨_, _, by rw [List.length_drop], by simp; omega, ?_⟩
  intro hne
  have hlt : k < bs.length := by
    rcases Nat.lt_or_ge k bs.length with h | h
    · exact h
    · exact absurd (List.drop_eq_nil_of_le h) hne
  obtain ⟨b, o, rfl, hb, hb2, hr⟩ := hh (fun e => by rw [e] at hlt; simp at hlt)
  have hck : ¬ c = k := by omega
  refine ⟨b, o + k, by simp [hck, Addr.add_mid], hb, hb2, ?_⟩
  intro j v hv
  rw [Nat.add_assoc]
  exact hr (k + j) v (by rw [List.map_drop, List.getElem?_drop] at hv; exact hv)
theorem BsAt.grown {w w' : World} {g : Nat} {v : Value} {bs : List UInt8} (h : BsAt w g v bs) (hg : w.grownBy w' (some g)) : BsAt w' g v bs := by
  obtain ⟨ao, c, e, hc, hh⟩ := h
  refine ⟨ao, c, e, hc, fun hne => ?_⟩
  obtain ⟨b, o, e1, hb, hb2, hr⟩ := hh hne
  exact ⟨b, o, e1, hb, Nat.lt_of_lt_of_le hb2 hg.size, fun j u hu => hg.cell (hr j u hu) (by simpa using hb)⟩
set_option maxRecDepth 100000 in
set_option maxHeartbeats 1000000 in
theorem handOn_any (g : Nat) (m bs : List UInt8) (v : Value) (w : World) (hg : 6 ≤ g) (h : Hashed w g m) (ht : Tabs w) (hbs : BsAt w g v bs) (hm : m.length + bs.length < 9000000000000000000) :
    Calls Tryz.prog 98 #[v, .func (.func 99) #[.pointer (some ⟨g, 0, none⟩)] #[]] w fun e w' => e = .returned (.tuple #[]) ∧ Hashed w' g (m ++ bs) ∧ w.grownBy w' (some g) := by
  go_enter Tryz.func98, Tryz.ntmps98
  go_wp2
  go_loopw [0] (fun sv wr => ∃ k : Nat, k ≤ bs.length ∧ BsAt wr g sv (bs.drop k) ∧ Hashed wr g (m ++ bs.take k) ∧ w.grownBy wr (some g)) (fun sv _ => sliceLen sv)
  case atStart => exact ⟨0, by omega, hbs, by simpa using h, ⟨rfl, rfl, rfl, Nat.le_refl _, fun _ _ _ => rfl⟩⟩
  case round =>
    obtain ⟨k, hk, hbk, hhk, hgk⟩ := hrel
    clear hbs h
    obtain ⟨d, hd⟩ : ∃ d, bs.drop k = d := ⟨_, rfl⟩
    obtain ⟨M, hM⟩ : ∃ M, m ++ bs.take k = M := ⟨_, rfl⟩
    have hld : d.length = bs.length - k := by rw [← hd]; simp
    have hMl : M.length = m.length + k := by rw [← hM]; simp; omega
    rw [hd] at hbk
    rw [hM] at hhk
    have hbk' := hbk
    obtain ⟨ao, c, rfl, hc, hh⟩ := hbk
    by_cases hlt : k < bs.length
    · have hne : d ≠ [] := fun e => by rw [e] at hld; simp at hld; omega
      obtain ⟨b, o, rfl, hb, hb2, hr⟩ := hh hne
      obtain ⟨st, piece, L, h1, hI⟩ := hhk
      have hN := tookN_le M d
      have hNp : 0 < tookN M d := by unfold tookN; omega
      have hdec : (0 : Int) < (d.length : Int) := by omega
      obtain ⟨sv, hsl, hlen, hbs1⟩ : ∃ sv, (∀ w, (Instr.sliceAt 22 (.slice (some ⟨b, o, none⟩) d.length c) (some (.int .i64 (tookN M d : Nat))) none none).run Tryz.prog w = .ok sv w) ∧ sliceLen sv = d.length - tookN M d ∧ BsAt wr g sv (d.drop (tookN M d)) :=
        ⟨_, fun w => run_reslice w _ _ _ _ hN.1, rfl, hbk'.drop _⟩
      have htk := take_any g M d st piece L wr b o c hg h1 hI (tabs_grown ht hgk hg) hr (by omega)
      have H := hide (And.intro hd (And.intro hM (And.intro hN (And.intro hNp (And.intro hlen (And.intro hbs1 hgk))))))
      have HT := hide htk
      have HL := hide hld
      clear hd hM hN hlen hbs1 hgk htk hbk' hh h1 hI hr hld hMl hNp
      generalize hNN : tookN M d = N at *
      go_wp2_with fail
      refine HT.out.mono ?_
      rintro e w1 ⟨rfl, hhN, hgN⟩
      obtain ⟨hd, hM, hN, hNp, hlen, hbs1, hgk⟩ := H.out
      have R : BsAt w1 g sv (bs.drop (k + N)) ∧ Hashed w1 g (m ++ bs.take (k + N)) ∧ w.grownBy w1 (some g) ∧ k + N ≤ bs.length := by
        have hld := HL.out
        refine ⟨?_, ?_, grown_trans hgk hgN, by omega⟩
        · have := hbs1.grown hgN
          rw [← hd, List.drop_drop] at this
          exact this
        · obtain ⟨st', p', L', q1, q2⟩ := hhN
          refine ⟨st', p', L', q1, ?_⟩
          rw [List.take_add, ← List.append_assoc, hM, hd]; exact q2
      have HR := hide R
      have HM := hide (And.intro hlen hNp)
      clear hhN hgN R hd hM hN hlen hbs1 hgk hNp
      go_wp2
      go_roundw
      case rel => exact ⟨k + N, HR.out.2.2.2, HR.out.1, HR.out.2.1, HR.out.2.2.1⟩
      case measure => have := HM.out; have := HL.out; simp only [sliceLen] at *; omega
    · have hk2 : k = bs.length := by omega
      have hd0 : d.length = 0 := by omega
      have hdec : decide ((0 : Int) < (d.length : Int)) = false := by rw [hd0]; decide
      have HR := hide (And.intro hhk (And.intro hgk (And.intro hM hk2)))
      clear hh hbk' hhk hgk hM hd hk2 hld hMl
      go_wp2
      go_end0
      obtain ⟨h1, h2, hM, hk2⟩ := HR.out
      rw [← hM, hk2, List.take_length] at h1
      exact ⟨rfl, h1, h2⟩
set_option maxRecDepth 100000 in
set_option maxHeartbeats 1000000 in
theorem write_any (g : Nat) (m bs : List UInt8) (v : Value) (w : World) (hg : 6 ≤ g) (h : Hashed w g m) (ht : Tabs w) (hbs : BsAt w g v bs) (hm : m.length + bs.length < 9000000000000000000) :
    Calls Tryz.prog 65 #[.pointer (some ⟨g, 0, none⟩), v] w fun e w' => e = .returned (.tuple #[]) ∧ Hashed w' g (m ++ bs) ∧ w.grownBy w' (some g) := by
  have HC := hide (handOn_any g m bs v w hg h ht hbs hm)
  clear h ht hbs hm
  go_enter Tryz.func65, Tryz.ntmps65
  go_wp2_with fail
  refine HC.out.mono ?_
  rintro e w1 ⟨rfl, h1, h2⟩
  have HR := hide (And.intro h1 h2)
  clear h1 h2
  go_wp2
  go_end0
  exact ⟨rfl, HR.out.1, HR.out.2⟩
end Go.Proofs.YtobgimpkkjaolaaGreatDoor.Sh
/- What the sum of a hash is: that of all that was written; the hash stays as it was; under the bound of take. -/
namespace Go.Proofs.YtobgimpkkjaolaaGreatDoor.Sh
open Go.RowKit
theorem size42 : (Tryz.prog.info? 116).map (·.size) = some 137 := by kernel_rfl
theorem und42 : ∃ fs, Tryz.prog.underlying 116 = some (.struct fs) := ⟨_, Tryz.underlying116⟩
theorem hashCells_len (st : List (BitVec 64)) (piece : List UInt8) (L : BitVec 64) (h : st.length = 8) (hp : piece.length = 128) : (hashCells st piece L).toArray.size = 137 := by simp [hashCells, h, hp]
theorem hashCells_one (st : List (BitVec 64)) (piece : List UInt8) (L : BitVec 64) : (hashCells st piece L).toArray.all (·.oneCell') = true := by
  rw [Array.all_eq_true_iff_forall_mem]; intro v hv
  simp [hashCells] at hv
  rcases hv with ⟨x, _, rfl⟩ | ⟨x, _, rfl⟩ | rfl <;> rfl
theorem bsAt_of_owns {w : World} {g base : Nat} {v : Value} {bs : List UInt8} (h : w.ownsRow base 5 1 v bs.length (bs.map bc)) (hg : g < base) : BsAt w g v bs := by
  rcases h.2 with ⟨rfl, h0⟩ | ⟨b, cap, cur, rfl, hb, hr, hn, _, _, ht⟩
  · have : bs = [] := List.eq_nil_of_length_eq_zero h0
    subst this
    exact ⟨none, 0, rfl, Nat.le_refl _, fun h => absurd rfl h⟩
  · refine ⟨_, cap, rfl, hn, fun _ => ⟨b, 0, rfl, by omega, (Array.getElem?_eq_some_iff.1 hr).1, ?_⟩⟩
    intro j u hu
    rw [Nat.zero_add, cell_of_row _ _ _ _ _ _ hr]
    rw [← ht, List.getElem?_take] at hu
    split at hu
    · simpa using hu
    · cases hu
set_option maxRecDepth 100000 in
set_option maxHeartbeats 1000000 in
theorem sum_any (g : Nat) (m : List UInt8) (w : World) (hg : g < w.heap.size) (h : Hashed w g m) (ht : Tabs w) (hm : m.length < 8000000000000000000) :
    Calls Tryz.prog 67 #[.pointer (some ⟨g, 0, none⟩)] w fun e w' => ∃ v, e = .returned v ∧ w'.ownsRow w.heap.size 5 1 v 64 ((shaB m).map bc) ∧ Below w.heap.size w w' := by
  obtain ⟨st, piece, L, h1, hI⟩ := h
  have hz := zero42
  obtain ⟨fs, hu42⟩ := und42
  have hs := hashCells_len st piece L h1.st8 h1.p128
  have hs0 : (hashCells z8 z128 0).toArray.size = 137 := rfl
  have hrow := h1.row
  have hlen : (w.alloc (.cells (hashCells st piece L).toArray 116)).cell? ⟨g, 136, none⟩ = some (.int .u64 (wn L)) := by rw [World.cell?_alloc_lt _ _ _ hg]; exact h1.len
  go_enter Tryz.func67, Tryz.ntmps67
  go_wp2_with (first | (refine wpList_load_row rfl 116 (.tmp 10) rfl g rfl 116 (hashCells st piece L).toArray (0,0) (.struct fs) hrow hu42 rfl (by rw [hs]; exact size42) ?_) | (refine wpList_store_row rfl 116 (.tmp 3) (.tmp 11) rfl w.heap.size (hashCells st piece L).toArray rfl rfl 116 (hashCells z8 z128 0).toArray (heap_alloc_last _ _) (by rw [hs]; exact size42) (by rw [hs, hs0]) (hashCells_one _ _ _) ?_; rw [World.setRow_alloc_new]))
  have hsz : (w.alloc (.cells (hashCells st piece L).toArray 116)).heap.size = w.heap.size + 1 := by simp
  have hb0 : Below w.heap.size w (w.alloc (.cells (hashCells st piece L).toArray 116)) := (Below.refl _ _).alloc (Nat.le_refl _) _
  have hh0 : Hashed (w.alloc (.cells (hashCells st piece L).toArray 116)) w.heap.size m := ⟨st, piece, L, ⟨heap_alloc_last _ _, h1.st8, h1.p128⟩, hI⟩
  have hLm := hI.ofLen
  have HL := hide hLm
  generalize w.alloc (.cells (hashCells st piece L).toArray 116) = W0 at *
  have HC := hide (And.intro hsz (And.intro hb0 (And.intro hh0 ht)))
  clear hsz hb0 hh0 hlen hrow hs hs0 hz h1 hI ht hLm
  refine (padding_any L W0).mono ?_
  rintro e w1 ⟨v1, rfl, hown1, hb1⟩
  obtain ⟨hsz, hb0, hh0, ht⟩ := HC.out
  have hb01 : Below w.heap.size w w1 := hb0.trans (hb1.mono (by omega))
  have hh1 : Hashed w1 w.heap.size m := by
    obtain ⟨st', p', L', q1, q2⟩ := hh0
    exact ⟨st', p', L', ⟨(hb1.block _ (by omega)).trans q1.row, q1.st8, q1.p128⟩, q2⟩
  have hpl : (padB L).length ≤ 1000 := by rw [padB_len, zeros]; omega
  have HW := hide (handOn_any w.heap.size m (padB L) v1 w1 (by have := ht.2.2; omega) hh1 (ht.below hb01 ht.2.2) (bsAt_of_owns hown1 (by omega)) (by omega))
  have HB := hide (And.intro hb01 ht)
  clear hown1 hb1 hh1 hsz hb0 hh0 hb01 hpl ht
  go_wp2_with fail
  refine HW.out.mono ?_
  rintro e w2 ⟨rfl, hh2, hg2⟩
  obtain ⟨st2, p2, L2, q1, q2⟩ := hh2
  have hst2 : st2 = stAt (padded m) ((padded m).length / 128) := by
    rw [HL.out] at q2
    exact q2.state (padded_len m (by omega)).2
  have hsha : words st2 8 = shaB m := by rw [hst2]; rfl
  have hl8 := q1.st8
  have hb2 : Below w.heap.size w w2 := HB.out.1.trans ⟨hg2.os, hg2.tape, hg2.output, hg2.size, fun k hk => hg2.block k (Nat.lt_of_lt_of_le hk HB.out.1.size) (by simp; omega)⟩
  have hr2 : (w2.alloc (.cells (zb 64) 5)).rangeAt w.heap.size 0 (st2.map wc) := World.rangeAt_alloc q1.stR _
  have hz35 : (Tryz.prog.info? 66).map (·.size) = some (st2.map wc).length := by rw [List.length_map, hl8]; exact size35
  have hmk : ∀ w, (Instr.makeSlice 22 (.int .i64 0) (.int .i64 64)).run Tryz.prog w = .ok (.slice (some ⟨w.heap.size, 0, none⟩) 0 64) (w.alloc (.cells (zb 64) 5)) := by
    intro w
    obtain ⟨i0, hi, hz0, hz1, hz5⟩ := info_parts info5
    have h := run_make (P := Tryz.prog) w 22 5 i0 (.int .u8 0) und22 hi hz0 .i64 .i64 0 64 (by omega) (by omega) (by rw [hz5]; omega) (by omega)
    rw [h, hz1]
    show Result.ok _ (w.alloc (.cells (madeCells #[.int .u8 0] 64) 5)) = _
    rw [zb_made]; rfl
  have hown0 : (w2.alloc (.cells (zb 64) 5)).ownsRow w.heap.size 5 1 (.slice (some ⟨w2.heap.size, 0, none⟩) 0 64) 0 [] := World.ownsRow_made w2 _ 64 hb2.size (by unfold maxLen; omega) (by rw [zb_size])
  have hb3 : Below w.heap.size w (w2.alloc (.cells (zb 64) 5)) := hb2.alloc hb2.size _
  have HS := hide hsha
  have HB3 := hide (And.intro hown0 hb3)
  clear hst2 q2 q1 hb2 hg2 hsha hown0 hb3 HB HW HC
  go_wp2_with (refine wpList_load_mid rfl 66 (.tmp 20) rfl w.heap.size 0 rfl _ (.array 8 27) hr2 und35 rfl hz35 ?_)
  clear hmk hr2
  obtain ⟨hown0, hb3⟩ := HB3.out
  generalize w2.alloc (.cells (zb 64) 5) = W3 at *
  go_loopw [4, 22] (fun sv i wr => ∃ k : Nat, k ≤ 8 ∧ i = .int .i64 k ∧ wr.ownsRow w.heap.size 5 1 sv (8 * k) ((words st2 k).map bc) ∧ Below w.heap.size w wr) (fun _ i _ => 8 - (intOf i).toNat)
  case atStart => exact ⟨0, by omega, rfl, hown0, hb3⟩
  case round =>
    clear hown0 hb3
    obtain ⟨k, hk, rfl, hown, hb⟩ := hrel
    by_cases hlt : k < 8
    · have hidx : ∀ w, (Instr.index 66 (.agg (st2.map wc).toArray) (.int .i64 (k : Int))).run Tryz.prog w = .ok (.int .u64 (wn (st2.getD k 0))) w :=
        run_index_arr und35 Tryz.underlying27 rfl size30 _ k hlt _ (wa_get st2 k (by omega))
      generalize hx : st2.getD k 0 = x at hidx
      have HX := hide hx
      have HC := hide (appendWord_any x u4 (8 * k) w.heap.size (words st2 k) wr (by omega) hb.size hown)
      have HB := hide hb
      clear hown hb hx
      go_wp2_with fail
      refine HC.out.mono ?_
      rintro e w4 ⟨v4, rfl, hown4, hb4⟩
      have R := hide (And.intro hown4 (HB.out.trans hb4))
      clear hown4 hb4
      go_wp2
      go_roundw
      case rel => exact ⟨k + 1, by omega, by go_num, by rw [words, HX.out]; exact R.out.1, R.out.2⟩
      case measure => simp [intOf]; omega
    · obtain rfl : k = 8 := by omega
      go_wp2
      go_ret
      exact ⟨_, rfl, by rw [← HS.out]; exact hown, hb⟩
end Go.Proofs.YtobgimpkkjaolaaGreatDoor.Sh
/- The sum of any bytes; and that of the three letters, as the statements ask it, where the two tables lie as the text lays them. -/
namespace Go.Proofs.YtobgimpkkjaolaaGreatDoor.Sh
open Go.RowKit
theorem owns_mono {w : World} {base base' : Nat} {v : Value} {n : Nat} {xs : List Value} (h : w.ownsRow base 5 1 v n xs) (hb : base' ≤ base) : w.ownsRow base' 5 1 v n xs := by
  refine ⟨h.1, h.2.imp id ?_⟩
  rintro ⟨g, cap, cur, h1, h2, r⟩
  exact ⟨g, cap, cur, h1, Nat.le_trans hb h2, r⟩
set_option maxRecDepth 100000 in
set_option maxHeartbeats 1000000 in
theorem shaSum_any (bs : List UInt8) (v : Value) (w : World) (ht : Tabs w) (hbs : BsAt w w.heap.size v bs) (hm : bs.length < 8000000000000000000) :
    Calls Tryz.prog 38 #[v] w fun e w' => ∃ v', e = .returned v' ∧ w'.ownsRow w.heap.size 5 1 v' 64 ((shaB bs).map bc) ∧ Below w.heap.size w w' := by
  have HT := hide (And.intro ht hbs)
  clear ht hbs
  go_enter Tryz.func38, Tryz.ntmps38
  go_wp2_with fail
  refine (new_any w).mono ?_
  rintro e w1 ⟨rfl, h1, hb1, hs1⟩
  obtain ⟨ht, hbs⟩ := HT.out
  have hbs1 : BsAt w1 w.heap.size v bs := by
    obtain ⟨ao, c, e, hc, hh⟩ := hbs
    refine ⟨ao, c, e, hc, fun hne => ?_⟩
    obtain ⟨b, o, e1, hb, hb2, hr⟩ := hh hne
    exact ⟨b, o, e1, hb, by omega, fun j u hu => (hb1.cell hb2).trans (hr j u hu)⟩
  have HW := hide (write_any w.heap.size [] bs v w1 ht.2.2 ⟨_, _, _, h1, HInv.zero⟩ (ht.below hb1 ht.2.2) hbs1 (by simp; omega))
  have HB := hide (And.intro hb1 (And.intro hs1 ht))
  clear h1 hb1 hs1 ht hbs hbs1
  go_wp2_with fail
  refine HW.out.mono ?_
  rintro e w2 ⟨rfl, h2, hg2⟩
  obtain ⟨hb1, hs1, ht⟩ := HB.out
  have hb2 : Below w.heap.size w w2 := hb1.trans ⟨hg2.os, hg2.tape, hg2.output, hg2.size, fun k hk => hg2.block k (by omega) (by simp; omega)⟩
  have HS := hide (sum_any w.heap.size bs w2 (by have := hg2.size; omega) h2 (ht.below hb2 ht.2.2) hm)
  have HB2 := hide hb2
  clear h2 hg2 hb1 hs1 ht hb2
  go_wp2_with fail
  refine HS.out.mono ?_
  rintro e w3 ⟨v3, rfl, hown3, hb3⟩
  have hb2 := HB2.out
  have R := hide (And.intro (owns_mono hown3 hb2.size) (hb2.trans (hb3.mono hb2.size)))
  clear hown3 hb3 hb2
  go_wp2
  go_ret
  exact ⟨_, rfl, R.out.1, R.out.2⟩
theorem owns_shape {w : World} {base : Nat} {v : Value} {n : Nat} {bs : List UInt8} (h : w.ownsRow base 5 1 v n (bs.map bc)) (hn : 0 < n) : ∃ g cap, v = .slice (some ⟨g, 0, none⟩) n cap ∧ n ≤ cap ∧ cap ≤ maxLen ∧ base ≤ g ∧ g < w.heap.size ∧ w.rangeAt g 0 (bs.map bc) := by
  rcases h.2 with ⟨_, h0⟩ | ⟨b, cap, cur, rfl, hb, hr, hc, hm, _, ht⟩
  · omega
  · refine ⟨b, cap, rfl, hc, hm, hb, (Array.getElem?_eq_some_iff.1 hr).1, ?_⟩
    intro j u hu
    rw [Nat.zero_add, cell_of_row _ _ _ _ _ _ hr]
    rw [← ht, List.getElem?_take] at hu
    split at hu
    · simpa using hu
    · cases hu
theorem run_slice_to (w : World) (ad : Addr) (n c k : Nat) (hk : k ≤ c) : (Instr.sliceAt 22 (.slice (some ad) n c) none (some (.int .i64 (k : Int))) none).run Tryz.prog w = .ok (.slice (some ad) k c) w := by
  have h1 : ¬ c < k := by omega
  simp [Instr.sliceAt, Instr.slice, run_underlying und22, Instr.sliceBounds, Instr.sliceBound, asIntOf, h1, Addr.add]
end Go.Proofs.YtobgimpkkjaolaaGreatDoor.Sh
