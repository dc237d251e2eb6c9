/- Notes: who goes is found in its piece (plain). -/
import Derived.Test.YtjoikidnnhjogaaNtH
namespace Go.Proofs.Ytjoikidnnhjogaa
open Go.RowKit
set_option linter.unusedVariables false
theorem rsL_read (r : ByteArray) (h : r.size ≤ 255) : byRs (ofL (rsL r), 0) = r := by
  unfold byRs rsL
  by_cases h0 : r.size = 0
  · rw [if_pos h0]
    have e : r = { data := #[] } := empty_of_size h0
    rw [if_pos (by rw [ofL_size]; rfl), e]
  · rw [if_neg h0]
    have hb : (be ((r.size : Nat) : Int) 1).length = 1 := be_len _ _
    rw [if_neg (by rw [ofL_size, List.length_append, hb]; omega)]
    obtain ⟨t1, s1, e1⟩ := raw_ahead (be ((r.size : Nat) : Int) 1) (by_ r ++ List.replicate (upW (1 + r.size)) 0) 0 1 (by rw [hb]; rfl)
    have g := getN_be1 ((r.size : Nat) : Int)
    have r1 : rd (ofL (be ((r.size : Nat) : Int) 1 ++ (by_ r ++ List.replicate (upW (1 + r.size)) 0)), 0) 1 = (ofL (by_ r ++ List.replicate (upW (1 + r.size)) 0), 0) := by unfold rd; rw [s1, e1]
    rw [r1, t1]
    simp only
    rw [by_ofL, show ((getN (be ((r.size : Nat) : Int) 1) : Nat) : Int) = ((r.size : Nat) : Int) from by omega]
    have t2 := (raw_ahead (by_ r) (List.replicate (upW (1 + r.size)) 0) 0 ((r.size : Nat) : Int) (by rw [by_len])).1
    rw [t2, ofL_by]
theorem by_rd (b : BY) (h : byMay b) (hs : ∀ s ∈ b.srcs, 0 ≤ s ∧ s ≤ 4294967295) : byRd (byP b) = b := by
  have e : byP b = ⟨(b.srcs.length : Nat), 203, ofL (bes b.srcs 4 ++ rsL b.reason)⟩ := by unfold byP; rw [if_pos h]; rfl
  obtain ⟨m1, m2⟩ := h
  rw [e]
  unfold byRd byN
  simp only
  have hn : (min ((b.srcs.length : Nat) : Int) 31).toNat = b.srcs.length := by omega
  rw [hn, rds_ahead b.srcs (rsL b.reason) b.srcs.length (Nat.le_refl _), List.drop_length]
  have hb : bes ([] : List Int) 4 ++ rsL b.reason = rsL b.reason := by simp [bes]
  rw [hb, rsL_read _ m2, osF_ahead b.srcs (rsL b.reason) hs]
theorem by_back (b : BY) (h : byMay b) (hs : ∀ s ∈ b.srcs, 0 ≤ s ∧ s ≤ 4294967295) : toBE (byP b) = 0 ∧ toB (byP b) = b := by
  have e := by_rd b h hs
  have hk : (byP b).kind = 203 := by unfold byP; rw [if_pos h]
  have hE : toBE (byP b) = 0 := by
    unfold toBE
    rw [if_neg (by rw [hk]; decide), e, if_pos rfl]
  exact ⟨hE, by unfold toB; rw [if_pos hE, e]⟩
end Go.Proofs.Ytjoikidnnhjogaa

