/- CrcTurnsBack: the walk. -/
import Derived.Test.YtiffocdohknopaaCrcT
namespace Go.Proofs.Ytiffocdohknopaa
open Go.RowKit
set_option linter.unusedVariables false
theorem turnL_bit (l : List UInt8) (at_ : Int) (m j : Nat) (hj : j < 8 * l.length) : Crc.bitOf (turnL l at_ m) j = (Crc.bitOf l j ^^ (decide (near at_ (8 * l.length) ≤ j ∧ j < near at_ (8 * l.length) + min 32 (8 * l.length - near at_ (8 * l.length))) && m.testBit (31 - (j - near at_ (8 * l.length))))) := by
  have h := near_le at_ (8 * l.length)
  unfold turnL
  exact Crc.turn_bit l _ m _ (by omega) j hj
/-- Turned twice: as it was. -/
theorem turnL_back (l : List UInt8) (at_ : Int) (m : Nat) : turnL (turnL l at_ m) at_ m = l := by
  apply Crc.bits_ext
  · rw [turnL_len, turnL_len]
  · intro i hi
    rw [turnL_len, turnL_len] at hi
    rw [turnL_bit _ _ _ _ (by rw [turnL_len]; exact hi), turnL_len, turnL_bit _ _ _ _ hi, Bool.xor_assoc, Bool.xor_self, Bool.xor_false]
theorem turnB_back (s : ByteArray) (at_ : Int) (m : Nat) : ofL (turnL (by_ (ofL (turnL (by_ s) at_ m))) at_ m) = s := by
  rw [by_ofL, turnL_back]
  simp [ofL, by_]
/-- Of a text turned no more than 32 bits lie between. -/
theorem span_turn (l : List UInt8) (at_ : Int) (m : Nat) : 0 ≤ span (dif l (turnL l at_ m)) (8 * l.length) ∧ span (dif l (turnL l at_ m)) (8 * l.length) ≤ 32 ∧ (0 < span (dif l (turnL l at_ m)) (8 * l.length) ↔ l ≠ turnL l at_ m) := by
  have hd : ∀ j, j < 8 * l.length → dif l (turnL l at_ m) j = true → near at_ (8 * l.length) ≤ j ∧ j < near at_ (8 * l.length) + min 32 (8 * l.length - near at_ (8 * l.length)) := by
    intro j hj h
    unfold dif at h
    rw [turnL_bit l at_ m j hj] at h
    by_cases c : near at_ (8 * l.length) ≤ j ∧ j < near at_ (8 * l.length) + min 32 (8 * l.length - near at_ (8 * l.length))
    · exact c
    · rw [decide_eq_false c, Bool.false_and, Bool.xor_false, bne_self_eq_false] at h
      cases h
  unfold span
  rcases fl_spec (dif l (turnL l at_ m)) (8 * l.length) with ⟨h1, h2, h3⟩ | ⟨F, L, h1, h2, h3, h4, h5, h6, h7, h8⟩
  · rw [if_pos (by omega)]
    refine ⟨by omega, by omega, ⟨fun h => by omega, fun h => ?_⟩⟩
    exact absurd (Crc.bits_ext _ _ (turnL_len _ _ _).symm (fun i hi => by have := h3 i hi; unfold dif at this; simpa using this)) h
  · rw [if_neg (by omega), h1, h2]
    have a := hd F (by omega) h5
    have b := hd L (by omega) h6
    refine ⟨by omega, by omega, ⟨fun _ e => ?_, fun _ => by omega⟩⟩
    unfold dif at h5
    rw [← e] at h5
    simp at h5
theorem ofL_ne (s : ByteArray) (l : List UInt8) : (by_ s ≠ l) ↔ (s ≠ ofL l) := by
  constructor
  · intro h e; exact h (by rw [e, by_ofL])
  · intro h e; exact h (by rw [← e]; simp [ofL, by_])
namespace crcTurnsBack
end crcTurnsBack
end Go.Proofs.Ytiffocdohknopaa
