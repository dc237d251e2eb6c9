/- gaps: packets that are wanting; what each call leaves (plain facts). -/
import Derived.Test.YtdbmhgfdcdcgfaaReB
namespace Go.Proofs.Ytdbmhgfdcdcgfaa
open Go.RowKit
set_option linter.unusedVariables false
set_option linter.unusedSimpArgs false
/-- One that is wanting: its number, when it is to be asked for, how often it was. -/
structure GW where
  n : Int
  at_ : Int
  k : Nat
/-- How long behind the next time once more. -/
def wtR (A : Int) : Nat → Int
  | 0 => A
  | k + 1 => min (2 * wtR A k) 1048576
theorem wtR_bd (A : Int) (hA : 1 ≤ A ∧ A ≤ 1048576) (k : Nat) : 1 ≤ wtR A k ∧ wtR A k ≤ 1048576 := by
  induction k with
  | zero => exact hA
  | succ k ih => simp only [wtR]; omega
def GW.cs (A : Int) (g : GW) : List Value := [.int .i64 g.n, .int .i64 g.at_, .int .i64 (wtR A g.k), .int .i64 g.k]
def GW.rs (g : GW) : List Value := [.int .i64 g.n, .int .i64 g.at_, .int .i64 g.k]
theorem GW.cs_len (A : Int) (g : GW) : (g.cs A).length = 4 := rfl
theorem GW.rs_len (g : GW) : g.rs.length = 3 := rfl
theorem GW.cs_one (A : Int) (g : GW) : ∀ u ∈ g.cs A, u.oneCell' = true := by
  intro u hu
  simp only [GW.cs, List.mem_cons, List.not_mem_nil, or_false] at hu
  rcases hu with rfl | rfl | rfl | rfl <;> rfl
theorem GW.rs_one (g : GW) : ∀ u ∈ g.rs, u.oneCell' = true := by
  intro u hu
  simp only [GW.rs, List.mem_cons, List.not_mem_nil, or_false] at hu
  rcases hu with rfl | rfl | rfl <;> rfl
def gpV (A : Int) (l : List GW) : List Value := rowsV (GW.cs A) l
def grV (l : List GW) : List Value := rowsV GW.rs l
theorem gpV_len (A : Int) (l : List GW) : (gpV A l).length = l.length * 4 := rowsV_len (GW.cs_len A) l
theorem grV_len (l : List GW) : (grV l).length = l.length * 3 := rowsV_len GW.rs_len l
theorem gpV_snoc (A : Int) (l : List GW) (r : GW) : gpV A (l ++ [r]) = gpV A l ++ r.cs A := rowsV_snoc l r
theorem grV_snoc (l : List GW) (r : GW) : grV (l ++ [r]) = grV l ++ r.rs := rowsV_snoc l r
theorem gpV_one (A : Int) (l : List GW) : ∀ u ∈ gpV A l, u.oneCell' = true := rowsV_one (GW.cs_one A) l
theorem grV_one (l : List GW) : ∀ u ∈ grV l, u.oneCell' = true := rowsV_one GW.rs_one l
theorem gpV_drop (A : Int) (l : List GW) (k : Nat) : (gpV A l).drop (k * 4) = gpV A (l.drop k) := rowsV_drop (GW.cs_len A) l k
theorem gpV_take (A : Int) (l : List GW) (k : Nat) : (gpV A l).take (k * 4) = gpV A (l.take k) := rowsV_take (GW.cs_len A) l k
/-- Bounds as they count. -/
def gpM (n : Int) : Int := min (max n 1) 1024
def gpT (n : Int) : Int := min (max n 1) 100
def gpF (n : Int) : Int := min (max n 0) 1048576
def gpA (n : Int) : Int := min (max n 1) 1048576
def gpN (n : Int) : Int := min (max n (-1099511627776)) 1099511627776
def gpK (n : Int) : Int := min (max n 0) 1099511627776
theorem gpM_bd (n : Int) : 1 ≤ gpM n ∧ gpM n ≤ 1024 := by unfold gpM; omega
theorem gpT_bd (n : Int) : 1 ≤ gpT n ∧ gpT n ≤ 100 := by unfold gpT; omega
theorem gpF_bd (n : Int) : 0 ≤ gpF n ∧ gpF n ≤ 1048576 := by unfold gpF; omega
theorem gpA_bd (n : Int) : 1 ≤ gpA n ∧ gpA n ≤ 1048576 := by unfold gpA; omega
theorem gpN_bd (n : Int) : -1099511627776 ≤ gpN n ∧ gpN n ≤ 1099511627776 := by unfold gpN; omega
theorem gpK_bd (n : Int) : 0 ≤ gpK n ∧ gpK n ≤ 1099511627776 := by unfold gpK; omega
/-- Packets that rise by their numbers. -/
def GpUp (l : List GW) : Prop := l.Pairwise (fun a b => a.n < b.n)
end Go.Proofs.Ytdbmhgfdcdcgfaa
