/- Slices of bools that came in. -/
import Derived.Test.YtkefpedijjbmfaaRow
import Derived.Deep.Grids
namespace Go.Proofs.Ytkefpedijjbmfaa
open Go.RowKit
set_option linter.unusedVariables false
/-- A slice of bools that came in. -/
def IsBools (w : World) (a : Option Addr) (n : Nat) (B : Nat → Bool) : Prop :=
  n = 0 ∨ ∃ b off, a = some ⟨b, off, none⟩ ∧ ∀ i, i < n → w.cell? ⟨b, off + i, none⟩ = some (.bool (B i))
theorem IsBools.later {w w' : World} {a : Option Addr} {n : Nat} {B : Nat → Bool} (h : IsBools w a n B) (hb : Below w.heap.size w w') : IsBools w' a n B := by
  rcases h with h | ⟨b, off, ha, hc⟩
  · exact .inl h
  · exact .inr ⟨b, off, ha, fun i hi => cell_later hb (hc i hi)⟩
theorem isBools_mk {w : World} {a : Addr} {n c : Nat} {B : Nat → Bool} (hl : n ≤ c) (h : ∀ i, i < c → w.cell? (a.add i) = some (.bool (B i))) : IsBools w (some a) n B := by
  by_cases h0 : n = 0
  · exact .inl h0
  · obtain ⟨b, off, spot⟩ := a
    have hspot : spot = none := by simpa [Addr.add] using World.cell?_spot (h 0 (by omega))
    subst hspot
    exact .inr ⟨b, off, rfl, fun j hj => by rw [← Go.WideShapes.add_plain]; exact h j (by omega)⟩
end Go.Proofs.Ytkefpedijjbmfaa
