/- How far two texts part. -/
import Derived.Test.YtbmbomojnljccaaCrcD
import Derived.BigQuiet
import Derived.Deep.QuietTactic
import Derived.WalkSmall
namespace Go.Proofs.Ytbmbomojnljccaa
open Go.RowKit
set_option linter.unusedVariables false
/-- The first and the last place that parts, of the first k: -1 if there is none. -/
def fl (d : Nat → Bool) : Nat → Int × Int
  | 0 => (-1, -1)
  | k + 1 => if d k then (if (fl d k).1 < 0 then (k : Int) else (fl d k).1, (k : Int)) else fl d k
def span (d : Nat → Bool) (n : Nat) : Int := if (fl d n).1 < 0 then 0 else (fl d n).2 - (fl d n).1 + 1
theorem fl_yes_first (d : Nat → Bool) (k : Nat) (h : d k = true) (h1 : (fl d k).1 < 0) : (fl d (k + 1)).1 = k ∧ (fl d (k + 1)).2 = k := by
  simp [fl, h, h1]
theorem fl_yes (d : Nat → Bool) (k : Nat) (h : d k = true) (h1 : ¬ (fl d k).1 < 0) : (fl d (k + 1)).1 = (fl d k).1 ∧ (fl d (k + 1)).2 = k := by
  simp [fl, h, h1]
theorem fl_no (d : Nat → Bool) (k : Nat) (h : d k = false) : fl d (k + 1) = fl d k := by
  simp [fl, h]
theorem fl_spec (d : Nat → Bool) : ∀ k : Nat, ((fl d k).1 = -1 ∧ (fl d k).2 = -1 ∧ ∀ i, i < k → d i = false) ∨
    ∃ F L : Nat, (fl d k).1 = F ∧ (fl d k).2 = L ∧ F ≤ L ∧ L < k ∧ d F = true ∧ d L = true ∧ (∀ i, i < F → d i = false) ∧ ∀ i, L < i → i < k → d i = false
  | 0 => .inl ⟨rfl, rfl, fun _ h => by omega⟩
  | k + 1 => by
    cases h : d k
    · rw [fl_no d k h]
      rcases fl_spec d k with ⟨h1, h2, h3⟩ | ⟨F, L, h1, h2, h3, h4, h5, h6, h7, h8⟩
      · refine .inl ⟨h1, h2, fun i hi => ?_⟩
        by_cases e : i = k
        · rw [e, h]
        · exact h3 i (by omega)
      · refine .inr ⟨F, L, h1, h2, h3, by omega, h5, h6, h7, fun i a b => ?_⟩
        by_cases e : i = k
        · rw [e, h]
        · exact h8 i a (by omega)
    · rcases fl_spec d k with ⟨h1, h2, h3⟩ | ⟨F, L, h1, h2, h3, h4, h5, h6, h7, h8⟩
      · obtain ⟨e1, e2⟩ := fl_yes_first d k h (by omega)
        exact .inr ⟨k, k, e1, e2, by omega, by omega, h, h, h3, fun i a b => by omega⟩
      · obtain ⟨e1, e2⟩ := fl_yes d k h (by omega)
        exact .inr ⟨F, k, by omega, e2, by omega, by omega, h5, h, h7, fun i a b => by omega⟩
theorem fl_bd (d : Nat → Bool) (k : Nat) : -1 ≤ (fl d k).1 ∧ (fl d k).1 ≤ k ∧ -1 ≤ (fl d k).2 ∧ (fl d k).2 ≤ k := by
  rcases fl_spec d k with ⟨h1, h2, h3⟩ | ⟨F, L, h1, h2, h3, h4, h5, h6, h7, h8⟩ <;> omega
/-- Where two texts part. -/
def dif (a b : List UInt8) (i : Nat) : Bool := Crc.bitOf a i != Crc.bitOf b i
theorem bn_eq (a b : Bool) : ((bn a : Int) == (bn b : Int)) = !(a != b) := by cases a <;> cases b <;> decide
theorem bn_ne (a b : Bool) : ((bn a : Int) != (bn b : Int)) = (a != b) := by cases a <;> cases b <;> decide
theorem span_ret (d : Nat → Bool) (n : Nat) (f l : Int) (hf : f = (fl d n).1) (hl : l = (fl d n).2) (h : ¬ f < 0) : l - f + 1 = span d n := by
  unfold span; rw [if_neg (by omega), hf, hl]
theorem span_zero (d : Nat → Bool) (n : Nat) (f : Int) (hf : f = (fl d n).1) (h : f < 0) : 0 = span d n := by
  unfold span; rw [if_pos (by omega)]
end Go.Proofs.Ytbmbomojnljccaa
