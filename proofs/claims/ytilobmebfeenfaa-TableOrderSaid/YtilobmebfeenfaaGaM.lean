/- gauge: plain facts: how a jitter and a rate come down. -/
import Derived.Test.YtilobmebfeenfaaSerMath
namespace Go.Proofs.Ytilobmebfeenfaa
set_option linter.unusedVariables false
/-- A number among 0 and the most. -/
def upM (m n : Int) : Int := min (max n 0) m
theorem upM_in (m n : Int) (h0 : 0 ≤ n) (h1 : n ≤ m) : upM m n = n := by unfold upM; omega
/-- A jitter behind one more packet that is so far from the one ahead. -/
def jst (s d : Int) : Int := s + d - (s + 8) / 16
theorem jst_nn (s d : Int) (h : 0 ≤ s) (hd : 0 ≤ d) : 0 ≤ jst s d := by unfold jst; omega
theorem jst_le (s d m : Int) (h0 : 0 ≤ s) (hs : s ≤ 16 * m + 7) (hd : d ≤ m) : jst s d ≤ 16 * m + 7 := by unfold jst; omega
theorem jst_up (s d : Int) (h0 : 0 ≤ s) : jst s d ≤ s + d := by unfold jst; omega
/-- So far at most has a jitter come down behind so many packets that are alike. -/
def jsq : Nat → Nat
  | 0 => 131072
  | k + 1 => jsq k - (jsq k + 8) / 16
theorem jst_sq (s : Int) (k : Nat) (h0 : 0 ≤ s) (h : s ≤ jsq k) : jst s 0 ≤ jsq (k + 1) := by
  have e : jsq (k + 1) = jsq k - (jsq k + 8) / 16 := rfl
  rw [e]
  generalize jsq k = t at h ⊢
  unfold jst
  omega
set_option maxRecDepth 100000 in
theorem jsq_end : jsq 400 ≤ 15 := by
  have h : Nat.ble (jsq 400) 15 = true := by kernel_rfl
  exact Nat.le_of_ble_eq_true h
/-- A rate behind so many steps in which nothing came. -/
def rdn : Nat → Int → Int
  | 0, s => s
  | k + 1, s => rdn k s - rdn k s / 8
theorem rdn_bd (k : Nat) (s : Int) (h : 0 ≤ s) : 0 ≤ rdn k s ∧ rdn k s ≤ s := by
  induction k with
  | zero => exact ⟨h, Int.le_refl _⟩
  | succ k ih =>
    have e : rdn (k + 1) s = rdn k s - rdn k s / 8 := rfl
    rw [e]
    omega
end Go.Proofs.Ytilobmebfeenfaa
