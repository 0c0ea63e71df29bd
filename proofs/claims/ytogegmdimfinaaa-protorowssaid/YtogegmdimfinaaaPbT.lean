/- What calls give, within a region that draws its order: a message's bytes, numbers' bytes, signs, what every program must know. -/
import Derived.Test.YtogegmdimfinaaaPbA
namespace Go.Proofs.Ytogegmdimfinaaa
open Go.RowKit
/-- A message with these pieces. -/
def ism (g : Nat) (bs : List (List Nat)) : STy := ⟨fun w v => v = .pointer (some ⟨g, 0, none⟩) ∧ MAt w g bs, fun hx h => ⟨h.1, h.2.ext hx⟩⟩
theorem h_bytes {g : Nat} {bs : List (List Nat)} {F : List Nat} {v : Value} {w : World} (h : (ism g bs).p w v) (hn : bs.length ≤ 100000) (hl : bs.flatten.length ≤ 100000000) (hF : bs.flatten = F) : Hands Try.prog 15 #[v] w (isb F) := by
  obtain ⟨rfl, h2⟩ := h
  subst hF
  exact (Bytes_any h2 hn hl).mono fun e w' ⟨u, he, ho, hb⟩ => ⟨u, he, hb, ho.at⟩
theorem h_varw {n : Nat} {v : Value} {w : World} (h : v = .int .u64 (n : Int)) (hn : n < 18446744073709551616) : Hands Try.prog 16 #[v] w (isb (vbn n)) := by
  subst h
  exact (varint_w n w hn).mono fun e w' ⟨u, he, ho, hb⟩ => ⟨u, he, hb, ho.at⟩
theorem h_varr {n : Nat} {v : Value} {w : World} (h : v = .int .u64 (n : Int)) (hn : n < 18446744073709551616) : Hands Try.prog 17 #[v] w (isb (vbn n)) := by
  subst h
  exact (varint_r n w hn).mono fun e w' ⟨u, he, ho, hb⟩ => ⟨u, he, hb, ho.at⟩
theorem h_zigw {m : Int} {v : Value} {w : World} (h : v = .int .i64 m) (hm : -9223372036854775808 ≤ m ∧ m ≤ 9223372036854775807) : Hands Try.prog 18 #[v] w (isv (.int .u64 ((zig m : Nat) : Int))) := by
  subst h
  exact (zig_w m w hm.1 hm.2).mono fun e w' ⟨he, hw⟩ => ⟨_, he, by subst hw; exact Below.refl _ _, rfl⟩
theorem h_zigr {m : Int} {v : Value} {w : World} (h : v = .int .i64 m) (hm : -9223372036854775808 ≤ m ∧ m ≤ 9223372036854775807) : Hands Try.prog 19 #[v] w (isv (.int .u64 ((zig m : Nat) : Int))) := by
  subst h
  exact (zig_r m w hm.1 hm.2).mono fun e w' ⟨he, hw⟩ => ⟨_, he, by subst hw; exact Below.refl _ _, rfl⟩
theorem h_zagw {n : Nat} {v : Value} {w : World} (h : v = .int .u64 (n : Int)) (hn : n < 18446744073709551616) : Hands Try.prog 20 #[v] w (isv (.int .i64 (zag n))) := by
  subst h
  exact (zag_w n w hn).mono fun e w' ⟨he, hw⟩ => ⟨_, he, by subst hw; exact Below.refl _ _, rfl⟩
theorem h_zagr {n : Nat} {v : Value} {w : World} (h : v = .int .u64 (n : Int)) (hn : n < 18446744073709551616) : Hands Try.prog 21 #[v] w (isv (.int .i64 (zag n))) := by
  subst h
  exact (zag_r n w hn).mono fun e w' ⟨he, hw⟩ => ⟨_, he, by subst hw; exact Below.refl _ _, rfl⟩
theorem h_awake {w : World} : Hands Try.prog 10 #[] w (isv (.bool true)) := (awake_any w).mono fun _ _ ⟨he, hb⟩ => ⟨_, he, hb, rfl⟩
/-- The pieces of fields to put. -/
def putP (p : Pu) : List (List Nat) := if p.whole = true then putR p.num p.b else putI p.num p.n
def pieces (ps : List Pu) : List (List Nat) := (ps.map putP).flatten
theorem pieces_step (ps : List Pu) (k : Nat) (p : Pu) (h : ps[k]? = some p) : pieces (ps.take (k + 1)) = pieces (ps.take k) ++ putP p := by
  unfold pieces
  rw [List.take_add_one, h]
  simp
theorem pbs_len (num : Int) (wire : Nat) (x : List Nat) : (pbs num wire x).length ≤ 1 ∧ (pbs num wire x).flatten.length ≤ 10 + x.length := by
  unfold pbs
  have := vbn_le (8 * num.toNat + wire)
  split <;> simp; omega
theorem putP_len (p : Pu) : (putP p).length ≤ 1 ∧ (putP p).flatten.length ≤ 20 + p.b.length := by
  unfold putP
  split
  · unfold putR
    split
    · have h1 := pbs_len p.num 2 (vbn p.b.length ++ p.b)
      have h2 := vbn_le p.b.length
      rw [List.length_append] at h1
      omega
    · simp
  · unfold putI
    have h1 := pbs_len p.num 0 (vbn p.n)
    have h2 := vbn_le p.n
    omega
theorem pieces_len : ∀ ps : List Pu, (pieces ps).length ≤ ps.length ∧ (pieces ps).flatten.length ≤ 20 * ps.length + tot ps
  | [] => by simp [pieces, tot]
  | p :: ps => by
    have h1 := pieces_len ps
    have h2 := putP_len p
    have e : pieces (p :: ps) = putP p ++ pieces ps := by simp [pieces]
    have e2 : tot (p :: ps) = p.b.length + tot ps := by simp [tot]
    rw [e, e2, List.flatten_append, List.length_append, List.length_append, List.length_cons]
    omega
theorem few_small {ps : List Pu} (h : ps.length ≤ 60 ∧ tot ps ≤ 4000) : (pieces ps).length ≤ 60 ∧ (pieces ps).flatten.length ≤ 6000 := by
  have := pieces_len ps
  omega
theorem pieces_le (ps : List Pu) (k : Nat) : (pieces (ps.take k)).flatten.length ≤ (pieces ps).flatten.length ∧ (pieces (ps.take k)).length ≤ (pieces ps).length := by
  have e : pieces ps = pieces (ps.take k) ++ pieces (ps.drop k) := by
    unfold pieces
    conv => lhs; rw [← List.take_append_drop k ps, List.map_append, List.flatten_append]
  rw [e, List.flatten_append, List.length_append, List.length_append]
  omega
end Go.Proofs.Ytogegmdimfinaaa
