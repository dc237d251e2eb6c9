/- gauge: three cells in memory. -/
import Derived.Test.YtilobmebfeenfaaPenI
import Derived.Test.YtilobmebfeenfaaGaM
namespace Go.Proofs.Ytilobmebfeenfaa
open Go.RowKit
set_option linter.unusedVariables false
theorem ga_old (W : World) (o o' : Obj) (g : Nat) (h : W.heap[g]? = some o') : (W.alloc o).heap[g]? = some o' := by
  have hg := lt_of_block h
  show (W.heap.push o)[g]? = _
  rw [Array.getElem?_push]
  simp [Nat.ne_of_lt hg, h]
/-- Three cells in memory. -/
def At3 (T : TypeId) (W : World) (g : Nat) (c0 c1 c2 : Value) : Prop := W.heap[g]? = some (.cells #[c0, c1, c2] T (0, 0))
section
variable {T : TypeId} {W W' : World} {g b : Nat} {c0 c1 c2 : Value}
theorem At3.cells (h : At3 T W g c0 c1 c2) : W.cell? ⟨g, 0, none⟩ = some c0 ∧ W.cell? ⟨g, 1, none⟩ = some c1 ∧ W.cell? ⟨g, 2, none⟩ = some c2 := by
  have f := fun i => cell_of_row W g i _ _ (0, 0) h
  exact ⟨by simpa using f 0, by simpa using f 1, by simpa using f 2⟩
theorem At3.free (h : At3 T W g c0 c1 c2) (i : Nat) : W.frozen? ⟨g, i, none⟩ = false := by unfold At3 at h; simp [World.frozen?, h]
theorem At3.frees (h : At3 T W g c0 c1 c2) : W.frozen? ⟨g, 0, none⟩ = false ∧ W.frozen? ⟨g, 1, none⟩ = false ∧ W.frozen? ⟨g, 2, none⟩ = false := ⟨h.free 0, h.free 1, h.free 2⟩
theorem At3.later (h : At3 T W g c0 c1 c2) (hb : Below W.heap.size W W') : At3 T W' g c0 c1 c2 := by unfold At3; rw [hb.block g (lt_of_block h)]; exact h
theorem At3.lt (h : At3 T W g c0 c1 c2) : g < W.heap.size := lt_of_block h
theorem At3.alloc (h : At3 T W g c0 c1 c2) (o : Obj) : At3 T (W.alloc o) g c0 c1 c2 := ga_old _ _ _ _ h
theorem At3.drew (h : At3 T W g c0 c1 c2) : At3 T W.drew g c0 c1 c2 := h
theorem At3.only (h : At3 T W g c0 c1 c2) (hg : g ≠ b) (ho : Only b W W') : At3 T W' g c0 c1 c2 := by unfold At3; rw [ho.block g hg]; exact h
theorem at3_new (T : TypeId) (W : World) (n : Nat) (c0 c1 c2 : Value) (hn : n = W.heap.size) : At3 T (W.alloc (.cells #[c0, c1, c2] T)) n c0 c1 c2 := by subst hn; exact heap_alloc_new W _
theorem at3_set0 (h : At3 T W g c0 c1 c2) (u : Value) : At3 T (W.setCell ⟨g, 0, none⟩ u) g u c1 c2 := block_setCell h
theorem at3_set1 (h : At3 T W g c0 c1 c2) (u : Value) : At3 T (W.setCell ⟨g, 1, none⟩ u) g c0 u c2 := block_setCell h
theorem at3_set2 (h : At3 T W g c0 c1 c2) (u : Value) : At3 T (W.setCell ⟨g, 2, none⟩ u) g c0 c1 u := block_setCell h
theorem at3_store (h : At3 T W g c0 c1 c2) (d0 d1 d2 : Value) : At3 T (((W.setCell ⟨g, 0, none⟩ d0).setCell ⟨g, 1, none⟩ d1).setCell ⟨g, 2, none⟩ d2) g d0 d1 d2 :=
  at3_set2 (at3_set1 (at3_set0 h d0) d1) d2
theorem store3_only (W : World) (g : Nat) (d0 d1 d2 : Value) : Only g W (((W.setCell ⟨g, 0, none⟩ d0).setCell ⟨g, 1, none⟩ d1).setCell ⟨g, 2, none⟩ d2) :=
  (((Only.refl _ _).setCell 0 _).setCell 1 _).setCell 2 _
end
end Go.Proofs.Ytilobmebfeenfaa
