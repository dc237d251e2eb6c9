/- BURST: a turned text. -/
import Derived.Test.YtiffocdohknopaaCrcTB
namespace Go.Proofs.Ytiffocdohknopaa
open Go.RowKit
set_option linter.unusedVariables false
/-- BURST: a text that is right, turned, is right just if nothing was. -/
theorem turn_right (l : List UInt8) (at_ : Int) (m : Nat) (h0 : remOf l = 0#32) : (((remOf (turnL l at_ m)).toNat : Int) == 0) = (span (dif l (turnL l at_ m)) (8 * l.length) == 0) := by
  obtain ⟨h1, h2, h3⟩ := span_turn l at_ m
  by_cases hn : 0 < span (dif l (turnL l at_ m)) (8 * l.length)
  · have hs : (span (dif l (turnL l at_ m)) (8 * l.length) == 0) = false := by rw [beq_eq_false_iff_ne]; omega
    rw [hs, beq_eq_false_iff_ne]
    intro e
    have e0 : remOf (turnL l at_ m) = 0#32 := by apply BitVec.eq_of_toNat_eq; simpa using e
    have e1 : remOf l = remOf (turnL l at_ m) := by rw [h0, e0]
    unfold remOf at e1
    rw [turnL_len] at e1
    unfold span at h2 hn
    rcases fl_spec (dif l (turnL l at_ m)) (8 * l.length) with ⟨g1, g2, g3⟩ | ⟨F, L, g1, g2, g3, g4, g5, g6, g7, g8⟩
    · rw [if_pos (by omega)] at hn; omega
    · rw [if_neg (by omega), g1, g2] at h2
      refine Crc.R_burst (Crc.bitOf l) (Crc.bitOf (turnL l at_ m)) (8 * l.length) F L g3 g4 (by omega) ?_ ?_ ?_ e1
      · intro i hi; have := g7 i hi; unfold dif at this; simpa using this
      · unfold dif at g5; simpa using g5
      · intro i hi hj; have := g8 i hi hj; unfold dif at this; simpa using this
  · have hs : (span (dif l (turnL l at_ m)) (8 * l.length) == 0) = true := by rw [beq_iff_eq]; omega
    have e : l = turnL l at_ m := Classical.byContradiction fun h => hn (h3.2 h)
    rw [hs, ← e, h0]
    rfl
end Go.Proofs.Ytiffocdohknopaa
