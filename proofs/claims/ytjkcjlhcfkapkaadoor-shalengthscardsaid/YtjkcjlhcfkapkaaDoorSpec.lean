/- SHA-512 on lists: the words of a piece, the rounds, the sum. Plain mathematics, no condition. -/
import Derived.Test.YtjkcjlhcfkapkaaDoorWords
namespace Go.Proofs.YtjkcjlhcfkapkaaDoor

/-- A byte as a number, and as a word. -/
def bn (b : UInt8) : Int := (b.toNat : Int)
def b64 (b : UInt8) : BitVec 64 := BitVec.ofNat 64 b.toNat
theorem b64_wrap (b : UInt8) : IntKind.u64.wrap (bn b) = wn (b64 b) := by
  have := b.toNat_lt
  unfold bn b64 wn; rw [IntKind.wrap_u64, BitVec.toNat_ofNat]; omega
theorem bn_nonneg (b : UInt8) : 0 ≤ bn b := by unfold bn; omega
theorem bn_lt (b : UInt8) : bn b < 256 := by have := b.toNat_lt; unfold bn; omega

/-- The lowest byte of a word; its eight bytes, the highest first. -/
def lb (x : BitVec 64) : UInt8 := UInt8.ofNat x.toNat
theorem lb_wrap (x : BitVec 64) : IntKind.u8.wrap (wn x) = bn (lb x) := by
  unfold bn lb wn; rw [IntKind.wrap_u8', UInt8.toNat_ofNat']; omega
def be8 (x : BitVec 64) : Nat → List UInt8
  | 0 => []
  | k + 1 => be8 x k ++ [lb (x >>> (56 - 8 * k))]
theorem be8_len (x : BitVec 64) : ∀ k, (be8 x k).length = k
  | 0 => rfl
  | k + 1 => by simp [be8, be8_len x k]
/-- Words and bytes as rows of cells. -/
def wc (x : BitVec 64) : Value := .int .u64 (wn x)
def bc (b : UInt8) : Value := .int .u8 (bn b)
def wa (l : List (BitVec 64)) : Array Value := (l.map wc).toArray
def ba (l : List UInt8) : Array Value := (l.map bc).toArray
theorem wa_size (l : List (BitVec 64)) : (wa l).size = l.length := by simp [wa]
theorem ba_size (l : List UInt8) : (ba l).size = l.length := by simp [ba]
theorem wa_get (l : List (BitVec 64)) (i : Nat) (h : i < l.length) : (wa l)[i]? = some (.int .u64 (wn (l.getD i 0))) := by
  simp [wa, h, wc]
theorem ba_get (l : List UInt8) (i : Nat) (h : i < l.length) : (ba l)[i]? = some (.int .u8 (bn (l.getD i 0))) := by
  simp [ba, h, bc]
theorem wa_set (l : List (BitVec 64)) (i : Nat) (x : BitVec 64) : (wa l).setIfInBounds i (.int .u64 (wn x)) = wa (l.set i x) := by
  simp [wa, wc, List.map_set]
theorem wa_one (l : List (BitVec 64)) : (wa l).all (·.oneCell') = true := by
  rw [Array.all_eq_true_iff_forall_mem]; intro v hv; simp [wa, wc] at hv; obtain ⟨x, _, rfl⟩ := hv; rfl
theorem ba_one (l : List UInt8) : (ba l).all (·.oneCell') = true := by
  rw [Array.all_eq_true_iff_forall_mem]; intro v hv; simp [ba, bc] at hv; obtain ⟨x, _, rfl⟩ := hv; rfl

/-- The words of a piece: byte by byte, then on to eighty. -/
def put (ws : List (BitVec 64)) (i : Nat) (b : UInt8) : List (BitVec 64) := ws.set (i / 8) (ws.getD (i / 8) 0 <<< 8 ||| b64 b)
def z80 : List (BitVec 64) := List.replicate 80 0
def w1 (bs : List UInt8) : Nat → List (BitVec 64)
  | 0 => z80
  | k + 1 => put (w1 bs k) k (bs.getD k 0)
def nxw (ws : List (BitVec 64)) (i : Nat) : BitVec 64 := sg1 (ws.getD (i - 2) 0) + ws.getD (i - 7) 0 + sg0 (ws.getD (i - 15) 0) + ws.getD (i - 16) 0
def w2 (ws : List (BitVec 64)) : Nat → List (BitVec 64)
  | 0 => ws
  | k + 1 => (w2 ws k).set (16 + k) (nxw (w2 ws k) (16 + k))
def spreadW (bs : List UInt8) : List (BitVec 64) := w2 (w1 bs 128) 64
theorem w1_len (bs : List UInt8) : ∀ k, (w1 bs k).length = 80
  | 0 => by simp [w1, z80]
  | k + 1 => by simp [w1, put, w1_len bs k]
theorem w2_len (ws : List (BitVec 64)) : ∀ k, (w2 ws k).length = ws.length
  | 0 => rfl
  | k + 1 => by simp [w2, w2_len ws k]
theorem spreadW_len (bs : List UInt8) : (spreadW bs).length = 80 := by simp [spreadW, w2_len, w1_len]
/-- The rounds. -/
def h0w : List (BitVec 64) := [0x6a09e667f3bcc908, 0xbb67ae8584caa73b, 0x3c6ef372fe94f82b, 0xa54ff53a5f1d36f1, 0x510e527fade682d1, 0x9b05688c2b3e6c1f, 0x1f83d9abfb41bd6b, 0x5be0cd19137e2179]
def kw : List (BitVec 64) := [0x428a2f98d728ae22, 0x7137449123ef65cd, 0xb5c0fbcfec4d3b2f, 0xe9b5dba58189dbbc, 0x3956c25bf348b538, 0x59f111f1b605d019, 0x923f82a4af194f9b, 0xab1c5ed5da6d8118, 0xd807aa98a3030242, 0x12835b0145706fbe, 0x243185be4ee4b28c, 0x550c7dc3d5ffb4e2, 0x72be5d74f27b896f, 0x80deb1fe3b1696b1, 0x9bdc06a725c71235, 0xc19bf174cf692694, 0xe49b69c19ef14ad2, 0xefbe4786384f25e3, 0x0fc19dc68b8cd5b5, 0x240ca1cc77ac9c65, 0x2de92c6f592b0275, 0x4a7484aa6ea6e483, 0x5cb0a9dcbd41fbd4, 0x76f988da831153b5, 0x983e5152ee66dfab, 0xa831c66d2db43210, 0xb00327c898fb213f, 0xbf597fc7beef0ee4, 0xc6e00bf33da88fc2, 0xd5a79147930aa725, 0x06ca6351e003826f, 0x142929670a0e6e70, 0x27b70a8546d22ffc, 0x2e1b21385c26c926, 0x4d2c6dfc5ac42aed, 0x53380d139d95b3df, 0x650a73548baf63de, 0x766a0abb3c77b2a8, 0x81c2c92e47edaee6, 0x92722c851482353b, 0xa2bfe8a14cf10364, 0xa81a664bbc423001, 0xc24b8b70d0f89791, 0xc76c51a30654be30, 0xd192e819d6ef5218, 0xd69906245565a910, 0xf40e35855771202a, 0x106aa07032bbd1b8, 0x19a4c116b8d2d0c8, 0x1e376c085141ab53, 0x2748774cdf8eeb99, 0x34b0bcb5e19b48a8, 0x391c0cb3c5c95a63, 0x4ed8aa4ae3418acb, 0x5b9cca4f7763e373, 0x682e6ff3d6b2b8a3, 0x748f82ee5defb2fc, 0x78a5636f43172f60, 0x84c87814a1f0ab72, 0x8cc702081a6439ec, 0x90befffa23631e28, 0xa4506cebde82bde9, 0xbef9a3f7b2c67915, 0xc67178f2e372532b, 0xca273eceea26619c, 0xd186b8c721c0c207, 0xeada7dd6cde0eb1e, 0xf57d4f7fee6ed178, 0x06f067aa72176fba, 0x0a637dc5a2c898a6, 0x113f9804bef90dae, 0x1b710b35131c471b, 0x28db77f523047d84, 0x32caab7b40c72493, 0x3c9ebe0a15c9bebc, 0x431d67c49c100d4c, 0x4cc5d4becb3e42b6, 0x597f299cfc657e2a, 0x5fcb6fab3ad6faec, 0x6c44198c4a475817]
def t1w (e f g h k w : BitVec 64) : BitVec 64 := h + bg1 e + chw e f g + k + w
def t2w (a b c : BitVec 64) : BitVec 64 := bg0 a + majw a b c
def rnd (l : List (BitVec 64)) (k w : BitVec 64) : List (BitVec 64) :=
  [t1w (l.getD 4 0) (l.getD 5 0) (l.getD 6 0) (l.getD 7 0) k w + t2w (l.getD 0 0) (l.getD 1 0) (l.getD 2 0), l.getD 0 0, l.getD 1 0, l.getD 2 0,
   l.getD 3 0 + t1w (l.getD 4 0) (l.getD 5 0) (l.getD 6 0) (l.getD 7 0) k w, l.getD 4 0, l.getD 5 0, l.getD 6 0]
def rs (s ws : List (BitVec 64)) : Nat → List (BitVec 64)
  | 0 => s
  | k + 1 => rnd (rs s ws k) (kw.getD k 0) (ws.getD k 0)
def addTo (s r : List (BitVec 64)) : Nat → List (BitVec 64)
  | 0 => s
  | k + 1 => (addTo s r k).set k ((addTo s r k).getD k 0 + r.getD k 0)
def foldW (s ws : List (BitVec 64)) : List (BitVec 64) := addTo s (rs s ws 80) 8
theorem addTo_len (s r : List (BitVec 64)) : ∀ k, (addTo s r k).length = s.length
  | 0 => rfl
  | k + 1 => by simp [addTo, addTo_len s r k]
theorem foldW_len (s ws : List (BitVec 64)) : (foldW s ws).length = s.length := addTo_len _ _ _
theorem rs_len (s ws : List (BitVec 64)) (h : s.length = 8) : ∀ k, (rs s ws k).length = 8
  | 0 => h
  | _ + 1 => rfl
theorem eight (l : List (BitVec 64)) (h : l.length = 8) : l = [l.getD 0 0, l.getD 1 0, l.getD 2 0, l.getD 3 0, l.getD 4 0, l.getD 5 0, l.getD 6 0, l.getD 7 0] := by
  match l, h with
  | [_, _, _, _, _, _, _, _], _ => rfl
end Go.Proofs.YtjkcjlhcfkapkaaDoor
