/- What is lost: plain facts. -/
import Derived.Test.YtncpepbpphpkoaaSerMath
namespace Go.Proofs.Ytncpepbpphpkoaa
/-- Among -2^40 and 2^40. -/
def n40 (n : Int) : Int := max (-1099511627776) (min n 1099511627776)
theorem n40_bd (n : Int) : -1099511627776 ≤ n40 n ∧ n40 n ≤ 1099511627776 := by unfold n40; omega
theorem n40_min (n : Int) : min (max n (-1099511627776)) 1099511627776 = n40 n := by unfold n40; omega
/-- The fraction that is lost. -/
def frac (e r : Int) : Int := if e ≤ 0 ∨ e ≤ r then 0 else if r ≤ 0 then 255 else 256 * (e - r) / e
theorem frac_bd (e r : Int) : 0 ≤ frac e r ∧ frac e r ≤ 255 := by
  unfold frac
  split
  · omega
  · rename_i h
    split
    · omega
    · rename_i k
      have he : 0 < e := by omega
      constructor
      · exact Int.ediv_nonneg (by omega) (by omega)
      · have : 256 * (e - r) / e < 256 := Int.ediv_lt_of_lt_mul he (by omega)
        omega
theorem frac_mono (e r r2 : Int) (h : r2 ≤ r) : frac e r ≤ frac e r2 := by
  have hb := frac_bd e r2
  have hb1 := frac_bd e r
  by_cases h1 : e ≤ 0 ∨ e ≤ r
  · have : frac e r = 0 := by unfold frac; rw [if_pos h1]
    omega
  · by_cases h2 : r2 ≤ 0
    · have : frac e r2 = 255 := by unfold frac; rw [if_neg (by omega), if_pos h2]
      omega
    · have e1 : frac e r = 256 * (e - r) / e := by unfold frac; rw [if_neg h1, if_neg (by omega)]
      have e2 : frac e r2 = 256 * (e - r2) / e := by unfold frac; rw [if_neg (by omega), if_neg h2]
      rw [e1, e2]
      exact Int.ediv_le_ediv (by omega) (by omega)
/-- A fraction in hundredths. -/
def perc (f : Int) : Int := min (max f 0) 256 * 100 / 256
theorem n40_sub (r m : Int) (hm : 0 ≤ m) : n40 (n40 r - m) ≤ n40 r := by unfold n40; omega
theorem ref_frac (e r : Int) (h : ¬ (e ≤ 0 ∨ e ≤ r)) : (if 255 < 256 * (e - r) / e then 255 else 256 * (e - r) / e) = frac e r := by
  have he : 0 < e := by omega
  unfold frac
  rw [if_neg h]
  by_cases k : r ≤ 0
  · rw [if_pos k]
    have : 256 ≤ 256 * (e - r) / e := (Int.le_ediv_iff_mul_le he).2 (by omega)
    rw [if_pos (by omega)]
  · rw [if_neg k]
    have : 256 * (e - r) / e < 256 := Int.ediv_lt_of_lt_mul he (by omega)
    rw [if_neg (by omega)]
theorem frac_none (e l : Int) (he : 1 ≤ e) (hl : 0 ≤ l) : (frac e (e - l) = 0 ↔ 256 * l < e) ∧ (frac e (e - l) = 255 ↔ 255 * e ≤ 256 * l) := by
  unfold frac
  by_cases h0 : l = 0
  · rw [if_pos (by omega)]
    constructor <;> omega
  · rw [if_neg (by omega)]
    by_cases h1 : e - l ≤ 0
    · rw [if_pos h1]
      constructor <;> omega
    · rw [if_neg h1, show e - (e - l) = l from by omega]
      have d0 : 0 < e := by omega
      have m := Int.emod_nonneg (256 * l) (by omega : e ≠ 0)
      have m2 := Int.emod_lt_of_pos (256 * l) d0
      have m3 := Int.mul_ediv_add_emod (256 * l) e
      have q0 : 0 ≤ 256 * l / e := Int.ediv_nonneg (by omega) (by omega)
      have q1 : 256 * l / e < 256 := Int.ediv_lt_of_lt_mul d0 (by omega)
      constructor
      · constructor
        · intro h; rw [h] at m3; omega
        · intro h; exact Int.ediv_eq_zero_of_lt (by omega) h
      · constructor
        · intro h; rw [h] at m3; omega
        · intro h
          have : 255 ≤ 256 * l / e := (Int.le_ediv_iff_mul_le d0).2 (by omega)
          omega
end Go.Proofs.Ytncpepbpphpkoaa
