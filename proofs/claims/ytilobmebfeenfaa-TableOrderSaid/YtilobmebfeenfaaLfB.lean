/- life: four cells in memory; the tables. -/
import Derived.Test.YtilobmebfeenfaaGaB
import Derived.Test.YtilobmebfeenfaaLfM
namespace Go.Proofs.Ytilobmebfeenfaa
open Go.RowKit
set_option linter.unusedVariables false
/-- Four cells in memory. -/
def At4 (T : TypeId) (W : World) (g : Nat) (c0 c1 c2 c3 : Value) : Prop := W.heap[g]? = some (.cells #[c0, c1, c2, c3] T (0, 0))
section
variable {T : TypeId} {W W' : World} {g b : Nat} {c0 c1 c2 c3 : Value}
theorem At4.cells (h : At4 T W g c0 c1 c2 c3) : W.cell? ⟨g, 0, none⟩ = some c0 ∧ W.cell? ⟨g, 1, none⟩ = some c1 ∧ W.cell? ⟨g, 2, none⟩ = some c2 ∧ W.cell? ⟨g, 3, none⟩ = some c3 := by
  have f := fun i => cell_of_row W g i _ _ (0, 0) h
  exact ⟨by simpa using f 0, by simpa using f 1, by simpa using f 2, by simpa using f 3⟩
theorem At4.free (h : At4 T W g c0 c1 c2 c3) (i : Nat) : W.frozen? ⟨g, i, none⟩ = false := by unfold At4 at h; simp [World.frozen?, h]
theorem At4.frees (h : At4 T W g c0 c1 c2 c3) : W.frozen? ⟨g, 0, none⟩ = false ∧ W.frozen? ⟨g, 1, none⟩ = false ∧ W.frozen? ⟨g, 2, none⟩ = false ∧ W.frozen? ⟨g, 3, none⟩ = false := ⟨h.free 0, h.free 1, h.free 2, h.free 3⟩
theorem At4.later (h : At4 T W g c0 c1 c2 c3) (hb : Below W.heap.size W W') : At4 T W' g c0 c1 c2 c3 := by unfold At4; rw [hb.block g (lt_of_block h)]; exact h
theorem At4.lt (h : At4 T W g c0 c1 c2 c3) : g < W.heap.size := lt_of_block h
theorem At4.alloc (h : At4 T W g c0 c1 c2 c3) (o : Obj) : At4 T (W.alloc o) g c0 c1 c2 c3 := ga_old _ _ _ _ h
theorem At4.drew (h : At4 T W g c0 c1 c2 c3) : At4 T W.drew g c0 c1 c2 c3 := h
theorem At4.only (h : At4 T W g c0 c1 c2 c3) (hg : g ≠ b) (ho : Only b W W') : At4 T W' g c0 c1 c2 c3 := by unfold At4; rw [ho.block g hg]; exact h
theorem at4_new (T : TypeId) (W : World) (n : Nat) (c0 c1 c2 c3 : Value) (hn : n = W.heap.size) : At4 T (W.alloc (.cells #[c0, c1, c2, c3] T)) n c0 c1 c2 c3 := by subst hn; exact heap_alloc_new W _
theorem at4_put (h : At4 T W g c0 c1 c2 c3) (d0 d1 d2 d3 : Value) : At4 T ((((W.setCell ⟨g, 0, none⟩ d0).setCell ⟨g, 1, none⟩ d1).setCell ⟨g, 2, none⟩ d2).setCell ⟨g, 3, none⟩ d3) g d0 d1 d2 d3 := by
  have h0 : At4 T (W.setCell ⟨g, 0, none⟩ d0) g d0 c1 c2 c3 := block_setCell h
  have h1 : At4 T ((W.setCell ⟨g, 0, none⟩ d0).setCell ⟨g, 1, none⟩ d1) g d0 d1 c2 c3 := block_setCell h0
  have h2 : At4 T (((W.setCell ⟨g, 0, none⟩ d0).setCell ⟨g, 1, none⟩ d1).setCell ⟨g, 2, none⟩ d2) g d0 d1 d2 c3 := block_setCell h1
  exact block_setCell h2
theorem put4_only (W : World) (g : Nat) (d0 d1 d2 d3 : Value) : Only g W ((((W.setCell ⟨g, 0, none⟩ d0).setCell ⟨g, 1, none⟩ d1).setCell ⟨g, 2, none⟩ d2).setCell ⟨g, 3, none⟩ d3) :=
  ((((Only.refl _ _).setCell 0 _).setCell 1 _).setCell 2 _).setCell 3 _
end
theorem lt_of_cell {W : World} {b i : Nat} {v : Value} (h : W.cell? ⟨b, i, none⟩ = some v) : b < W.heap.size := by
  rcases Nat.lt_or_ge b W.heap.size with h1 | h1
  · exact h1
  · have : W.heap[b]? = none := by simp [h1]
    simp [World.cell?, this] at h
theorem cell_keep {W W' : World} {b i : Nat} {v : Value} (h : W.cell? ⟨b, i, none⟩ = some v) (hb : Below W.heap.size W W') : W'.cell? ⟨b, i, none⟩ = some v := by
  rw [hb.cell (lt_of_cell h)]; exact h
/-- The tables byLow, byHigh as they are laid; divisor. -/
def Tb (W : World) : Prop := ∀ n : Nat, n < 4 → W.cell? ⟨0, n, none⟩ = some (.int .i64 (bLow n)) ∧ W.cell? ⟨2, n, none⟩ = some (.int .i64 (bHigh n))
def dvs (n : Nat) : Int := if n = 0 then 4 else if n = 1 then 1 else 2
def Td (W : World) : Prop := ∀ n : Nat, n < 3 → W.cell? ⟨1, n, none⟩ = some (.int .i64 (dvs n))
theorem Tb.later {W W' : World} (h : Tb W) (hb : Below W.heap.size W W') : Tb W' := fun n hn => ⟨cell_keep (h n hn).1 hb, cell_keep (h n hn).2 hb⟩
theorem Td.later {W W' : World} (h : Td W) (hb : Below W.heap.size W W') : Td W' := fun n hn => cell_keep (h n hn) hb
def LC.val (c : LC) : Value := .agg #[.int .i64 c.t, .int .i64 c.lo, .int .i64 c.hi, .int .i64 c.st]
def LL.val (l : LL) : Value := .agg #[.int .i64 l.s, .int .i64 l.h, .int .i64 l.k]
end Go.Proofs.Ytilobmebfeenfaa
