/- A source in memory. -/
import Derived.Test.YtncpepbpphpkoaaPenI
import Derived.Test.YtncpepbpphpkoaaSoM
import Derived.Test.YtncpepbpphpkoaaSerE
namespace Go.Proofs.Ytncpepbpphpkoaa
open Go.RowKit
set_option linter.unusedVariables false
theorem so_old (W : World) (o o' : Obj) (g : Nat) (h : W.heap[g]? = some o') : (W.alloc o).heap[g]? = some o' := by
  have hg := lt_of_block h
  show (W.heap.push o)[g]? = _
  rw [Array.getElem?_push]
  simp [Nat.ne_of_lt hg, h]
/-- Six cells in memory. -/
def At6 (T : TypeId) (W : World) (g : Nat) (c0 c1 c2 c3 c4 c5 : Value) : Prop := W.heap[g]? = some (.cells #[c0, c1, c2, c3, c4, c5] T (0, 0))
section
variable {T : TypeId} {W W' : World} {g b : Nat} {c0 c1 c2 c3 c4 c5 : Value}
theorem At6.cells (h : At6 T W g c0 c1 c2 c3 c4 c5) : W.cell? ⟨g, 0, none⟩ = some c0 ∧ W.cell? ⟨g, 1, none⟩ = some c1 ∧ W.cell? ⟨g, 2, none⟩ = some c2 ∧ W.cell? ⟨g, 3, none⟩ = some c3 ∧ W.cell? ⟨g, 4, none⟩ = some c4 ∧ W.cell? ⟨g, 5, none⟩ = some c5 := by
  have f := fun i => cell_of_row W g i _ _ (0, 0) h
  exact ⟨by simpa using f 0, by simpa using f 1, by simpa using f 2, by simpa using f 3, by simpa using f 4, by simpa using f 5⟩
theorem At6.free (h : At6 T W g c0 c1 c2 c3 c4 c5) (i : Nat) : W.frozen? ⟨g, i, none⟩ = false := by unfold At6 at h; simp [World.frozen?, h]
theorem At6.frees (h : At6 T W g c0 c1 c2 c3 c4 c5) : W.frozen? ⟨g, 0, none⟩ = false ∧ W.frozen? ⟨g, 1, none⟩ = false ∧ W.frozen? ⟨g, 2, none⟩ = false ∧ W.frozen? ⟨g, 3, none⟩ = false ∧ W.frozen? ⟨g, 4, none⟩ = false ∧ W.frozen? ⟨g, 5, none⟩ = false := ⟨h.free 0, h.free 1, h.free 2, h.free 3, h.free 4, h.free 5⟩
theorem At6.later (h : At6 T W g c0 c1 c2 c3 c4 c5) (hb : Below W.heap.size W W') : At6 T W' g c0 c1 c2 c3 c4 c5 := by unfold At6; rw [hb.block g (lt_of_block h)]; exact h
theorem At6.lt (h : At6 T W g c0 c1 c2 c3 c4 c5) : g < W.heap.size := lt_of_block h
theorem At6.alloc (h : At6 T W g c0 c1 c2 c3 c4 c5) (o : Obj) : At6 T (W.alloc o) g c0 c1 c2 c3 c4 c5 := so_old _ _ _ _ h
theorem At6.only (h : At6 T W g c0 c1 c2 c3 c4 c5) (hg : g ≠ b) (ho : Only b W W') : At6 T W' g c0 c1 c2 c3 c4 c5 := by unfold At6; rw [ho.block g hg]; exact h
theorem at6_new (T : TypeId) (W : World) (n : Nat) (c0 c1 c2 c3 c4 c5 : Value) (hn : n = W.heap.size) : At6 T (W.alloc (.cells #[c0, c1, c2, c3, c4, c5] T)) n c0 c1 c2 c3 c4 c5 := by subst hn; exact heap_alloc_new W _
theorem at6_set0 (h : At6 T W g c0 c1 c2 c3 c4 c5) (u : Value) : At6 T (W.setCell ⟨g, 0, none⟩ u) g u c1 c2 c3 c4 c5 := block_setCell h
theorem at6_set1 (h : At6 T W g c0 c1 c2 c3 c4 c5) (u : Value) : At6 T (W.setCell ⟨g, 1, none⟩ u) g c0 u c2 c3 c4 c5 := block_setCell h
theorem at6_set2 (h : At6 T W g c0 c1 c2 c3 c4 c5) (u : Value) : At6 T (W.setCell ⟨g, 2, none⟩ u) g c0 c1 u c3 c4 c5 := block_setCell h
theorem at6_set3 (h : At6 T W g c0 c1 c2 c3 c4 c5) (u : Value) : At6 T (W.setCell ⟨g, 3, none⟩ u) g c0 c1 c2 u c4 c5 := block_setCell h
theorem at6_set4 (h : At6 T W g c0 c1 c2 c3 c4 c5) (u : Value) : At6 T (W.setCell ⟨g, 4, none⟩ u) g c0 c1 c2 c3 u c5 := block_setCell h
theorem at6_set5 (h : At6 T W g c0 c1 c2 c3 c4 c5) (u : Value) : At6 T (W.setCell ⟨g, 5, none⟩ u) g c0 c1 c2 c3 c4 u := block_setCell h
/-- A whole one is stored. -/
def set6 (W : World) (g : Nat) (d0 d1 d2 d3 d4 d5 : Value) : World := (((((W.setCell ⟨g, 0, none⟩ d0).setCell ⟨g, 1, none⟩ d1).setCell ⟨g, 2, none⟩ d2).setCell ⟨g, 3, none⟩ d3).setCell ⟨g, 4, none⟩ d4).setCell ⟨g, 5, none⟩ d5
theorem at6_store (h : At6 T W g c0 c1 c2 c3 c4 c5) (d0 d1 d2 d3 d4 d5 : Value) : At6 T ((((((W.setCell ⟨g, 0, none⟩ d0).setCell ⟨g, 1, none⟩ d1).setCell ⟨g, 2, none⟩ d2).setCell ⟨g, 3, none⟩ d3).setCell ⟨g, 4, none⟩ d4).setCell ⟨g, 5, none⟩ d5) g d0 d1 d2 d3 d4 d5 :=
  at6_set5 (at6_set4 (at6_set3 (at6_set2 (at6_set1 (at6_set0 h d0) d1) d2) d3) d4) d5
theorem store6_only (W : World) (g : Nat) (d0 d1 d2 d3 d4 d5 : Value) : Only g W ((((((W.setCell ⟨g, 0, none⟩ d0).setCell ⟨g, 1, none⟩ d1).setCell ⟨g, 2, none⟩ d2).setCell ⟨g, 3, none⟩ d3).setCell ⟨g, 4, none⟩ d4).setCell ⟨g, 5, none⟩ d5) :=
  ((((((Only.refl _ _).setCell 0 _).setCell 1 _).setCell 2 _).setCell 3 _).setCell 4 _).setCell 5 _
theorem At6.drew (h : At6 T W g c0 c1 c2 c3 c4 c5) : At6 T W.drew g c0 c1 c2 c3 c4 c5 := h
def Held6 (T : TypeId) (B : Nat) (w W : World) (g : Nat) (c0 c1 c2 c3 c4 c5 : Value) : Prop := W.cell? ⟨g, 0, none⟩ = some c0 ∧ W.cell? ⟨g, 1, none⟩ = some c1 ∧ W.cell? ⟨g, 2, none⟩ = some c2 ∧ W.cell? ⟨g, 3, none⟩ = some c3 ∧ W.cell? ⟨g, 4, none⟩ = some c4 ∧ W.cell? ⟨g, 5, none⟩ = some c5 ∧ At6 T W g c0 c1 c2 c3 c4 c5 ∧ Below B w W
theorem so_start {B : Nat} {w : World} (h : At6 T W g c0 c1 c2 c3 c4 c5) (hb : Below B w W) : W.cell? ⟨g, 0, none⟩ = some c0 ∧ W.cell? ⟨g, 1, none⟩ = some c1 ∧ W.cell? ⟨g, 2, none⟩ = some c2 ∧ W.cell? ⟨g, 3, none⟩ = some c3 ∧ W.cell? ⟨g, 4, none⟩ = some c4 ∧ W.cell? ⟨g, 5, none⟩ = some c5 ∧ At6 T W g c0 c1 c2 c3 c4 c5 ∧ Below B w W := by
  obtain ⟨a0, a1, a2, a3, a4, a5⟩ := h.cells
  exact ⟨a0, a1, a2, a3, a4, a5, h, hb⟩
theorem so_step {B : Nat} {w : World} (hB : B ≤ g) (h : At6 T W g c0 c1 c2 c3 c4 c5) (hb : Below B w W) (k : Below W.heap.size W W') : W'.cell? ⟨g, 0, none⟩ = some c0 ∧ W'.cell? ⟨g, 1, none⟩ = some c1 ∧ W'.cell? ⟨g, 2, none⟩ = some c2 ∧ W'.cell? ⟨g, 3, none⟩ = some c3 ∧ W'.cell? ⟨g, 4, none⟩ = some c4 ∧ W'.cell? ⟨g, 5, none⟩ = some c5 ∧ At6 T W' g c0 c1 c2 c3 c4 c5 ∧ Below B w W' :=
  so_start (h.later k) (hb.trans (k.mono (by have := h.lt; omega)))
end
section
variable {T U : TypeId} {W W' : World} {g b : Nat} {c0 c1 c2 c3 c4 c5 e0 e1 e2 e3 e4 e5 : Value}
theorem so_start2 {B : Nat} {w : World} (h : At6 T W g c0 c1 c2 c3 c4 c5) (k : At6 U W b e0 e1 e2 e3 e4 e5) (hb : Below B w W) : W.cell? ⟨g, 0, none⟩ = some c0 ∧ W.cell? ⟨g, 1, none⟩ = some c1 ∧ W.cell? ⟨g, 2, none⟩ = some c2 ∧ W.cell? ⟨g, 3, none⟩ = some c3 ∧ W.cell? ⟨g, 4, none⟩ = some c4 ∧ W.cell? ⟨g, 5, none⟩ = some c5 ∧ W.cell? ⟨b, 0, none⟩ = some e0 ∧ W.cell? ⟨b, 1, none⟩ = some e1 ∧ W.cell? ⟨b, 2, none⟩ = some e2 ∧ W.cell? ⟨b, 3, none⟩ = some e3 ∧ W.cell? ⟨b, 4, none⟩ = some e4 ∧ W.cell? ⟨b, 5, none⟩ = some e5 ∧ At6 T W g c0 c1 c2 c3 c4 c5 ∧ At6 U W b e0 e1 e2 e3 e4 e5 ∧ Below B w W := by
  obtain ⟨a0, a1, a2, a3, a4, a5⟩ := h.cells
  obtain ⟨f0, f1, f2, f3, f4, f5⟩ := k.cells
  exact ⟨a0, a1, a2, a3, a4, a5, f0, f1, f2, f3, f4, f5, h, k, hb⟩
theorem so_step2 {B : Nat} {w : World} (hB : B ≤ g) (hC : B ≤ b) (h : At6 T W g c0 c1 c2 c3 c4 c5) (k : At6 U W b e0 e1 e2 e3 e4 e5) (hb : Below B w W) (l : Below W.heap.size W W') : W'.cell? ⟨g, 0, none⟩ = some c0 ∧ W'.cell? ⟨g, 1, none⟩ = some c1 ∧ W'.cell? ⟨g, 2, none⟩ = some c2 ∧ W'.cell? ⟨g, 3, none⟩ = some c3 ∧ W'.cell? ⟨g, 4, none⟩ = some c4 ∧ W'.cell? ⟨g, 5, none⟩ = some c5 ∧ W'.cell? ⟨b, 0, none⟩ = some e0 ∧ W'.cell? ⟨b, 1, none⟩ = some e1 ∧ W'.cell? ⟨b, 2, none⟩ = some e2 ∧ W'.cell? ⟨b, 3, none⟩ = some e3 ∧ W'.cell? ⟨b, 4, none⟩ = some e4 ∧ W'.cell? ⟨b, 5, none⟩ = some e5 ∧ At6 T W' g c0 c1 c2 c3 c4 c5 ∧ At6 U W' b e0 e1 e2 e3 e4 e5 ∧ Below B w W' :=
  so_start2 (h.later l) (k.later l) (hb.trans (l.mono (by have := h.lt; omega)))
end
/-- A source as a value; the document's. -/
def SR.val (s : SR) : Value := .agg #[.int .u16 s.mx, .int .i64 s.cy, .int .i64 s.ba, .int .i64 s.bd, .int .i64 s.pr, .int .i64 s.rc]
def SR.ref (s : SR) : Value := .agg #[.int .i64 s.mx, .int .i64 s.cy, .int .i64 s.ba, .int .i64 s.bd, .int .i64 s.pr, .int .i64 s.rc]
end Go.Proofs.Ytncpepbpphpkoaa
