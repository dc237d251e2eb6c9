/- Any number of cells in memory. -/
import Derived.Test.YtjoikidnnhjogaaPcJ
namespace Go.Proofs.Ytjoikidnnhjogaa
open Go.RowKit
set_option linter.unusedVariables false
def AtC (T : TypeId) (W : World) (g : Nat) (cs : Array Value) : Prop := W.heap[g]? = some (.cells cs T (0, 0))
section
variable {T : TypeId} {W W' : World} {g b : Nat} {cs : Array Value}
theorem AtC.cell (h : AtC T W g cs) (i : Nat) : W.cell? ⟨g, i, none⟩ = cs[i]? := cell_of_row W g i _ _ (0, 0) h
theorem AtC.cells4 {c0 c1 c2 c3 : Value} (h : AtC T W g #[c0, c1, c2, c3]) : W.cell? ⟨g, 0, none⟩ = some c0 ∧ W.cell? ⟨g, 1, none⟩ = some c1 ∧ W.cell? ⟨g, 2, none⟩ = some c2 ∧ W.cell? ⟨g, 3, none⟩ = some c3 := by
  have f := h.cell
  exact ⟨by simpa using f 0, by simpa using f 1, by simpa using f 2, by simpa using f 3⟩
theorem AtC.cells3 {c0 c1 c2 : Value} (h : AtC T W g #[c0, c1, c2]) : W.cell? ⟨g, 0, none⟩ = some c0 ∧ W.cell? ⟨g, 1, none⟩ = some c1 ∧ W.cell? ⟨g, 2, none⟩ = some c2 := by
  have f := h.cell
  exact ⟨by simpa using f 0, by simpa using f 1, by simpa using f 2⟩
theorem AtC.cells2 {c0 c1 : Value} (h : AtC T W g #[c0, c1]) : W.cell? ⟨g, 0, none⟩ = some c0 ∧ W.cell? ⟨g, 1, none⟩ = some c1 := by
  have f := h.cell
  exact ⟨by simpa using f 0, by simpa using f 1⟩
theorem AtC.free (h : AtC T W g cs) (i : Nat) : W.frozen? ⟨g, i, none⟩ = false := by unfold AtC at h; simp [World.frozen?, h]
theorem AtC.frees4 (h : AtC T W g cs) : W.frozen? ⟨g, 0, none⟩ = false ∧ W.frozen? ⟨g, 1, none⟩ = false ∧ W.frozen? ⟨g, 2, none⟩ = false ∧ W.frozen? ⟨g, 3, none⟩ = false := ⟨h.free 0, h.free 1, h.free 2, h.free 3⟩
theorem AtC.later (h : AtC T W g cs) (hb : Below W.heap.size W W') : AtC T W' g cs := by unfold AtC; rw [hb.block g (lt_of_block h)]; exact h
theorem AtC.lt (h : AtC T W g cs) : g < W.heap.size := lt_of_block h
theorem AtC.alloc (h : AtC T W g cs) (o : Obj) : AtC T (W.alloc o) g cs := heap_at_old _ _ _ _ h
theorem AtC.drew (h : AtC T W g cs) : AtC T W.drew g cs := h
theorem AtC.only (h : AtC T W g cs) (hg : g ≠ b) (ho : Only b W W') : AtC T W' g cs := by unfold AtC; rw [ho.block g hg]; exact h
theorem AtC.ex (h : AtC T W g cs) (hg : g ≠ b) (ho : Ex b W W') : AtC T W' g cs := by unfold AtC; rw [ho.block g (lt_of_block h) hg]; exact h
theorem AtC.others (h : AtC T W g cs) (hT : T ≠ 5) (hg : g ≠ b) (ho : Others b W W') : AtC T W' g cs := ho g _ h hg (by intro cur p e; simp at e; exact hT e.2.1)
theorem AtC.oth (h : AtC T W g cs) (hT : T ≠ 5) (ho : Others b W W') (hg : g ≠ b) : AtC T W' g cs := h.others hT hg ho
theorem atC_new (T : TypeId) (W : World) (cs : Array Value) : AtC T (W.alloc (.cells cs T)) W.heap.size cs := heap_alloc_new W _
theorem atC_at (T : TypeId) (W : World) (n : Nat) (cs : Array Value) (h : n = W.heap.size) : AtC T (W.alloc (.cells cs T)) n cs := by subst h; exact heap_alloc_new W _
theorem at4_set0 {c0 c1 c2 c3 : Value} (h : AtC T W g #[c0, c1, c2, c3]) (u : Value) : AtC T (W.setCell ⟨g, 0, none⟩ u) g #[u, c1, c2, c3] := block_setCell h
theorem at4_set3 {c0 c1 c2 c3 : Value} (h : AtC T W g #[c0, c1, c2, c3]) (u : Value) : AtC T (W.setCell ⟨g, 3, none⟩ u) g #[c0, c1, c2, u] := block_setCell h
theorem at4_store {c0 c1 c2 c3 : Value} (d0 d1 d2 d3 : Value) (h : AtC T W g #[c0, c1, c2, c3]) : AtC T ((((W.setCell ⟨g, 0, none⟩ d0).setCell ⟨g, 1, none⟩ d1).setCell ⟨g, 2, none⟩ d2).setCell ⟨g, 3, none⟩ d3) g #[d0, d1, d2, d3] := by
  have h0 : AtC T (W.setCell ⟨g, 0, none⟩ d0) g #[d0, c1, c2, c3] := block_setCell h
  have h1 : AtC T ((W.setCell ⟨g, 0, none⟩ d0).setCell ⟨g, 1, none⟩ d1) g #[d0, d1, c2, c3] := block_setCell h0
  have h2 : AtC T (((W.setCell ⟨g, 0, none⟩ d0).setCell ⟨g, 1, none⟩ d1).setCell ⟨g, 2, none⟩ d2) g #[d0, d1, d2, c3] := block_setCell h1
  exact block_setCell h2
theorem store4_only (W : World) (g : Nat) (d0 d1 d2 d3 : Value) : Only g W ((((W.setCell ⟨g, 0, none⟩ d0).setCell ⟨g, 1, none⟩ d1).setCell ⟨g, 2, none⟩ d2).setCell ⟨g, 3, none⟩ d3) :=
  ((((Only.refl _ _).setCell 0 _).setCell 1 _).setCell 2 _).setCell 3 _
theorem at3_store {c0 c1 c2 : Value} (d0 d1 d2 : Value) (h : AtC T W g #[c0, c1, c2]) : AtC T (((W.setCell ⟨g, 0, none⟩ d0).setCell ⟨g, 1, none⟩ d1).setCell ⟨g, 2, none⟩ d2) g #[d0, d1, d2] := by
  have h0 : AtC T (W.setCell ⟨g, 0, none⟩ d0) g #[d0, c1, c2] := block_setCell h
  have h1 : AtC T ((W.setCell ⟨g, 0, none⟩ d0).setCell ⟨g, 1, none⟩ d1) g #[d0, d1, c2] := block_setCell h0
  exact block_setCell h1
theorem store3_only (W : World) (g : Nat) (d0 d1 d2 : Value) : Only g W (((W.setCell ⟨g, 0, none⟩ d0).setCell ⟨g, 1, none⟩ d1).setCell ⟨g, 2, none⟩ d2) :=
  (((Only.refl _ _).setCell 0 _).setCell 1 _).setCell 2 _
end
end Go.Proofs.Ytjoikidnnhjogaa

