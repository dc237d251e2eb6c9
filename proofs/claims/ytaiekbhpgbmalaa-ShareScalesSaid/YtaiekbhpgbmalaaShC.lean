/- share: cmp.Or of two numbers; against. -/
import Derived.Test.YtaiekbhpgbmalaaShB
namespace Go.Proofs.Ytaiekbhpgbmalaa
open Go.RowKit
set_option linter.unusedVariables false
theorem or2_any (a b : Int) (g : Nat) (w : World) (h0 : w.cell? ⟨g, 0, none⟩ = some (.int .i64 a)) (h1 : w.cell? ⟨g, 1, none⟩ = some (.int .i64 b)) : Calls Try.prog 22 #[.slice (some ⟨g, 0, none⟩) 2 2] w fun e w' => e = .returned (.int .i64 (if a = 0 then b else a)) ∧ w = w' := by
  go_enter Try.func22, Try.ntmps22
  go_wp2
  go_loop [8] (fun i => i = .int .i64 0 ∨ i = .int .i64 1 ∧ a = 0 ∨ i = .int .i64 2 ∧ a = 0 ∧ b = 0) (fun i => 2 - (intOf i).toNat)
  case atStart => exact Or.inl rfl
  case round =>
    rcases hrel with rfl | ⟨rfl, rfl⟩ | ⟨rfl, rfl, rfl⟩
    · by_cases ha : a = 0
      · subst ha
        go_wp2
        go_round
        case rel => exact Or.inr (Or.inl ⟨by first | trivial | rfl, by first | trivial | rfl⟩)
        case measure => simp [intOf]
      · go_wp2
        go_ret
        exact ⟨by simp, rfl⟩
    · by_cases hb : b = 0
      · subst hb
        go_wp2
        go_round
        case rel => exact Or.inr (Or.inr ⟨by first | trivial | rfl, by first | trivial | rfl, by first | trivial | rfl⟩)
        case measure => simp [intOf]
      · go_wp2
        go_ret
        exact ⟨by simp, rfl⟩
    · go_wp2
      go_ret
      exact ⟨by simp, rfl⟩
theorem or2_r (a b r : Int) (g : Nat) (w : World) (h0 : w.cell? ⟨g, 0, none⟩ = some (.int .i64 a)) (h1 : w.cell? ⟨g, 1, none⟩ = some (.int .i64 b)) (hr : (if a = 0 then b else a) = r) : Calls Try.prog 22 #[.slice (some ⟨g, 0, none⟩) 2 2] w fun e w' => e = .returned (.int .i64 r) ∧ w = w' := by
  subst hr
  exact or2_any a b g w h0 h1
/-- What a load carried by its weight against that of another one, and then their paths. -/
def agS (x m : SL) : Int := if cmpI (x.c * m.w) (m.c * x.w) = 0 then cmpI x.p m.p else cmpI (x.c * m.w) (m.c * x.w)
theorem cmpI_lt (a b : Int) : cmpI a b < 0 ↔ a < b := by
  unfold cmpI
  split
  · omega
  · split <;> omega
theorem cmpI_z (a b : Int) : cmpI a b = 0 ↔ a = b := by
  unfold cmpI
  split
  · omega
  · split <;> omega
theorem agS_lt (x m : SL) (h : m.p < x.p) : agS x m < 0 ↔ x.c * m.w < m.c * x.w := by
  unfold agS
  split
  case isTrue g =>
    rw [cmpI_lt]
    rw [cmpI_z] at g
    omega
  case isFalse g => rw [cmpI_lt]
end Go.Proofs.Ytaiekbhpgbmalaa
