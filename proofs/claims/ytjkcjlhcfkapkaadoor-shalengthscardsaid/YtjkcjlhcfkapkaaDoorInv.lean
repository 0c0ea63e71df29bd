/- SHA-512 of a whole message, and what a hash holds of the message that was written so far. Plain mathematics, no condition. -/
import Derived.Test.YtjkcjlhcfkapkaaDoorSpec
namespace Go.Proofs.YtjkcjlhcfkapkaaDoor

/-- The state behind k pieces of m. -/
def stAt (m : List UInt8) : Nat → List (BitVec 64)
  | 0 => h0w
  | k + 1 => foldW (stAt m k) (spreadW ((m.drop (128 * k)).take 128))
theorem stAt_len (m : List UInt8) : ∀ k, (stAt m k).length = 8
  | 0 => rfl
  | k + 1 => by rw [stAt, foldW_len, stAt_len m k]
theorem stAt_append (m x : List UInt8) : ∀ k, 128 * k ≤ m.length → stAt (m ++ x) k = stAt m k
  | 0, _ => rfl
  | k + 1, h => by
    rw [stAt, stAt, stAt_append m x k (by omega)]
    congr 2
    rw [List.drop_append_of_le_length (by omega), List.take_append_of_le_length (by simp; omega)]

/-- What a hash holds when m has been written. -/
structure HInv (m : List UInt8) (st : List (BitVec 64)) (piece : List UInt8) (L : BitVec 64) : Prop where
  len : L.toNat = m.length
  st8 : st.length = 8
  p128 : piece.length = 128
  state : 128 ≤ m.length → st = stAt m (m.length / 128)
  open_ : piece.take (m.length % 128) = m.drop (128 * (m.length / 128))

/-- How many bytes are taken; the piece behind that. -/
def tookN (m bs : List UInt8) : Nat := min (128 - m.length % 128) bs.length
def tookP (piece m bs : List UInt8) : List UInt8 := piece.take (m.length % 128) ++ bs.take (tookN m bs) ++ piece.drop (m.length % 128 + tookN m bs)
theorem tookN_le (m bs : List UInt8) : tookN m bs ≤ bs.length ∧ m.length % 128 + tookN m bs ≤ 128 := by unfold tookN; omega
theorem tookP_len (piece m bs : List UInt8) (h : piece.length = 128) : (tookP piece m bs).length = 128 := by
  have := tookN_le m bs
  simp [tookP, h]; omega

theorem tookP_open {m st piece L} (bs : List UInt8) (h : HInv m st piece L) : (tookP piece m bs).take (m.length % 128 + tookN m bs) = m.drop (128 * (m.length / 128)) ++ bs.take (tookN m bs) := by
  have hn := tookN_le m bs
  have e1 : (piece.take (m.length % 128) ++ bs.take (tookN m bs)).length = m.length % 128 + tookN m bs := by simp [h.p128]; omega
  rw [tookP, List.take_append_of_le_length (by omega), List.take_of_length_le (by omega), h.open_]

/-- Bytes that do not fill the piece. -/
theorem HInv.more {m st piece L} (bs : List UInt8) (h : HInv m st piece L) (hb : m.length + bs.length < 18446744073709551616) (hlt : m.length % 128 + tookN m bs < 128) :
    HInv (m ++ bs.take (tookN m bs)) st (tookP piece m bs) (L + BitVec.ofNat 64 (tookN m bs)) := by
  have hn := tookN_le m bs
  have hl : (m ++ bs.take (tookN m bs)).length = m.length + tookN m bs := by simp; omega
  have hd : (m.length + tookN m bs) / 128 = m.length / 128 := by omega
  have hm : (m.length + tookN m bs) % 128 = m.length % 128 + tookN m bs := by omega
  refine ⟨?_, h.st8, tookP_len _ _ _ h.p128, ?_, ?_⟩
  · rw [BitVec.toNat_add, BitVec.toNat_ofNat, h.len, hl]; omega
  · intro h128
    rw [hl] at h128
    rw [hl, hd, stAt_append _ _ _ (by omega)]
    exact h.state (by omega)
  · rw [hl, hd, hm, tookP_open bs h, List.drop_append_of_le_length (by omega)]

/-- Bytes that fill it. -/
theorem HInv.full {m st piece L} (bs : List UInt8) (h : HInv m st piece L) (hb : m.length + bs.length < 18446744073709551616) (heq : m.length % 128 + tookN m bs = 128) :
    HInv (m ++ bs.take (tookN m bs)) (foldW (if L + BitVec.ofNat 64 (tookN m bs) = 128 then h0w else st) (spreadW (tookP piece m bs))) (tookP piece m bs) (L + BitVec.ofNat 64 (tookN m bs)) := by
  have hn := tookN_le m bs
  have hl : (m ++ bs.take (tookN m bs)).length = m.length + tookN m bs := by simp; omega
  have hd : (m.length + tookN m bs) / 128 = m.length / 128 + 1 := by omega
  have hm : (m.length + tookN m bs) % 128 = 0 := by omega
  have hLn : (L + BitVec.ofNat 64 (tookN m bs)).toNat = m.length + tookN m bs := by
    rw [BitVec.toNat_add, BitVec.toNat_ofNat, h.len]; omega
  have hif : (if L + BitVec.ofNat 64 (tookN m bs) = 128 then h0w else st) = stAt m (m.length / 128) := by
    by_cases h1 : m.length < 128
    · have : L + BitVec.ofNat 64 (tookN m bs) = 128 := BitVec.eq_of_toNat_eq (by rw [hLn]; show _ = 128; omega)
      rw [if_pos this, show m.length / 128 = 0 by omega]; rfl
    · have : ¬ L + BitVec.ofNat 64 (tookN m bs) = 128 := fun e => by
        have := congrArg BitVec.toNat e
        rw [hLn] at this
        have h2 : (128 : BitVec 64).toNat = 128 := rfl
        omega
      rw [if_neg this]; exact h.state (by omega)
  have hp : tookP piece m bs = ((m ++ bs.take (tookN m bs)).drop (128 * (m.length / 128))).take 128 := by
    have e := tookP_open bs h
    rw [heq, List.take_of_length_le (by rw [tookP_len _ _ _ h.p128]; omega)] at e
    rw [e, List.drop_append_of_le_length (by omega)]
    exact (List.take_of_length_le (by simp only [List.length_append, List.length_drop, List.length_take]; omega)).symm
  refine ⟨by rw [hLn, hl], ?_, tookP_len _ _ _ h.p128, ?_, ?_⟩
  · rw [foldW_len, hif, stAt_len]
  · intro _
    rw [hl, hd, stAt, stAt_append _ _ _ (by omega), hif, ← hp]
  · rw [hl, hd, hm, List.take_zero, List.drop_eq_nil_of_le (by rw [hl]; omega)]

/-- How many zeros; the whole padding; the sum. -/
def zeros (r : Nat) : Nat := (239 - r % 128) % 128
def padB (L : BitVec 64) : List UInt8 := (128 : UInt8) :: List.replicate (zeros L.toNat) 0 ++ be8 (L >>> 61) 8 ++ be8 (L <<< 3) 8
theorem padB_len (L : BitVec 64) : (padB L).length = 1 + zeros L.toNat + 8 + 8 := by simp [padB, be8_len]; omega
def padded (m : List UInt8) : List UInt8 := m ++ padB (BitVec.ofNat 64 m.length)
theorem padded_len (m : List UInt8) (h : m.length < 18446744073709551616) : (padded m).length % 128 = 0 ∧ 128 ≤ (padded m).length := by
  have e : (padded m).length = m.length + (1 + (239 - m.length % 128) % 128 + 8 + 8) := by
    rw [padded, List.length_append, padB_len, zeros, BitVec.toNat_ofNat, show m.length % 2 ^ 64 = m.length by omega]
  omega
def words (l : List (BitVec 64)) : Nat → List UInt8
  | 0 => []
  | k + 1 => words l k ++ be8 (l.getD k 0) 8
theorem words_len (l : List (BitVec 64)) : ∀ k, (words l k).length = 8 * k
  | 0 => rfl
  | k + 1 => by simp [words, words_len l k, be8_len]; omega
def shaB (m : List UInt8) : List UInt8 := words (stAt (padded m) ((padded m).length / 128)) 8
theorem shaB_len (m : List UInt8) : (shaB m).length = 64 := words_len _ 8
theorem HInv.ofLen {m st piece L} (h : HInv m st piece L) : L = BitVec.ofNat 64 m.length := BitVec.eq_of_toNat_eq (by
  rw [BitVec.toNat_ofNat, ← h.len]; exact (Nat.mod_eq_of_lt L.isLt).symm)

theorem HInv.zero : HInv [] [0, 0, 0, 0, 0, 0, 0, 0] (List.replicate 128 0) 0 := ⟨rfl, rfl, rfl, fun h => absurd h (by decide), rfl⟩
end Go.Proofs.YtjkcjlhcfkapkaaDoor
