/- PaceMore: its argument, opened; eight and two cells in memory. -/
import Derived.Test.YtgmggilnhkdceaaPaW
import Derived.Lib.SmallJoins
import Derived.OpenShut
namespace Go.Proofs.Ytgmggilnhkdceaa
open Go.RowKit
set_option linter.unusedVariables false
def AtP2 (T : TypeId) (W : World) (g : Nat) (c0 c1 : Value) : Prop := W.heap[g]? = some (.cells #[c0, c1] T (0, 0))
section
variable {T : TypeId} {W W' : World} {g : Nat} {c0 c1 : Value}
theorem AtP2.cells (h : AtP2 T W g c0 c1) : W.cell? ⟨g, 0, none⟩ = some c0 ∧ W.cell? ⟨g, 1, none⟩ = some c1 := by
  have f := fun i => cell_of_row W g i _ _ (0, 0) h
  exact ⟨by simpa using f 0, by simpa using f 1⟩
theorem AtP2.later (h : AtP2 T W g c0 c1) (hb : Below W.heap.size W W') : AtP2 T W' g c0 c1 := by unfold AtP2; rw [hb.block g (lt_of_block h)]; exact h
theorem AtP2.lt (h : AtP2 T W g c0 c1) : g < W.heap.size := lt_of_block h
theorem AtP2.alloc (h : AtP2 T W g c0 c1) (o : Obj) : AtP2 T (W.alloc o) g c0 c1 := ga_old _ _ _ _ h
theorem AtP2.drew (h : AtP2 T W g c0 c1) : AtP2 T W.drew g c0 c1 := h
theorem atP2_new (T : TypeId) (W : World) (n : Nat) (c0 c1 : Value) (hn : n = W.heap.size) : AtP2 T (W.alloc (.cells #[c0, c1] T)) n c0 c1 := by subst hn; exact heap_alloc_new W _
end
def AtP8 (T : TypeId) (W : World) (g : Nat) (c0 c1 c2 c3 c4 c5 c6 c7 : Value) : Prop := W.heap[g]? = some (.cells #[c0, c1, c2, c3, c4, c5, c6, c7] T (0, 0))
section
variable {T : TypeId} {W W' : World} {g : Nat} {c0 c1 c2 c3 c4 c5 c6 c7 : Value}
theorem AtP8.cells (h : AtP8 T W g c0 c1 c2 c3 c4 c5 c6 c7) : W.cell? ⟨g, 0, none⟩ = some c0 ∧ W.cell? ⟨g, 1, none⟩ = some c1 ∧ W.cell? ⟨g, 2, none⟩ = some c2 ∧ W.cell? ⟨g, 3, none⟩ = some c3 ∧ W.cell? ⟨g, 4, none⟩ = some c4 ∧ W.cell? ⟨g, 5, none⟩ = some c5 ∧ W.cell? ⟨g, 6, none⟩ = some c6 ∧ W.cell? ⟨g, 7, none⟩ = some c7 := by
  have f := fun i => cell_of_row W g i _ _ (0, 0) h
  exact ⟨by simpa using f 0, by simpa using f 1, by simpa using f 2, by simpa using f 3, by simpa using f 4, by simpa using f 5, by simpa using f 6, by simpa using f 7⟩
theorem AtP8.later (h : AtP8 T W g c0 c1 c2 c3 c4 c5 c6 c7) (hb : Below W.heap.size W W') : AtP8 T W' g c0 c1 c2 c3 c4 c5 c6 c7 := by unfold AtP8; rw [hb.block g (lt_of_block h)]; exact h
theorem AtP8.lt (h : AtP8 T W g c0 c1 c2 c3 c4 c5 c6 c7) : g < W.heap.size := lt_of_block h
theorem AtP8.alloc (h : AtP8 T W g c0 c1 c2 c3 c4 c5 c6 c7) (o : Obj) : AtP8 T (W.alloc o) g c0 c1 c2 c3 c4 c5 c6 c7 := ga_old _ _ _ _ h
theorem AtP8.drew (h : AtP8 T W g c0 c1 c2 c3 c4 c5 c6 c7) : AtP8 T W.drew g c0 c1 c2 c3 c4 c5 c6 c7 := h
theorem atP8_new (T : TypeId) (W : World) (n : Nat) (c0 c1 c2 c3 c4 c5 c6 c7 : Value) (hn : n = W.heap.size) : AtP8 T (W.alloc (.cells #[c0, c1, c2, c3, c4, c5, c6, c7] T)) n c0 c1 c2 c3 c4 c5 c6 c7 := by subst hn; exact heap_alloc_new W _
end
set_option linter.unusedSimpArgs false
theorem pmCellsM : Try.prog.cellsOf 66 = 8 := by kernel_rfl
theorem pmCellsP : Try.prog.cellsOf 47 = 4 := by kernel_rfl
theorem pmCellsA : Try.prog.cellsOf 64 = 2 := by kernel_rfl
theorem pmCellsI : Try.prog.cellsOf 3 = 1 := by kernel_rfl
theorem pmGet {α : Type} {xs : List α} {i n : Nat} (h : xs.length = n) (hi : i < n) : ∃ x, xs[i]? = some x := ⟨_, List.getElem?_eq_getElem (by omega)⟩
set_option maxRecDepth 100000 in
set_option maxHeartbeats 1600000 in
theorem more_open {H : Type} {enc : TypeId × Value → H} {w : World} {base : Nat} {held : Bool} {v : Value} {d : DataW H} {pl : List MemPlace}
    (hv : Value.okWide Try.prog w .any 0 66 v) (h : DataW.Trod enc Try.prog w base (fun _ => true) held 66 v d pl) :
    ∃ a0 a1 a2 a3 b0 b1 n l : Int, v = .agg #[.int .i64 a0, .int .i64 a1, .int .i64 a2, .int .i64 a3, .int .i64 b0, .int .i64 b1, .int .i64 n, .int .i64 l] := by
  obtain ⟨cs, rfl, hsz⟩ := Go.WideShapes.okWide_struct Try.underlying66 hv
  rw [pmCellsM] at hsz
  obtain ⟨l⟩ := cs
  obtain ⟨fuel, hf⟩ := h
  obtain ⟨xs, m, _, _, _, hl, hx⟩ := DataW.trod_struct Try.underlying66 hf
  clear hf
  match l, hsz with
  | [c0, c1, c2, c3, c4, c5, c6, c7], _ =>
    simp only [List.size_toArray, List.length_cons, List.length_nil] at hl
    obtain ⟨z0, e0⟩ := pmGet hl (show 0 < 4 by omega)
    obtain ⟨z1, e1⟩ := pmGet hl (show 1 < 4 by omega)
    obtain ⟨z2, e2⟩ := pmGet hl (show 2 < 4 by omega)
    obtain ⟨z3, e3⟩ := pmGet hl (show 3 < 4 by omega)
    have k0 := (hx 0 _ rfl).trans e0
    have k1 := (hx 1 _ rfl).trans e1
    have k2 := (hx 2 _ rfl).trans e2
    have k3 := (hx 3 _ rfl).trans e3
    simp only [Value.cells, pmCellsP, pmCellsA, pmCellsI, List.drop_succ_cons, List.drop_zero, List.take_succ_cons, List.take_zero] at k0 k1 k2 k3
    obtain ⟨n6, e6, _, _⟩ := DataW.trod_int Try.underlying3 k2
    cases e6
    obtain ⟨n7, e7, _, _⟩ := DataW.trod_int Try.underlying3 k3
    cases e7
    obtain ⟨xs1, m1, _, _, _, hl1, hx1⟩ := DataW.trod_array Try.underlying64 k1
    obtain ⟨y0, f0⟩ := pmGet hl1 (show 0 < 2 by omega)
    obtain ⟨y1, f1⟩ := pmGet hl1 (show 1 < 2 by omega)
    have j0 := (hx1 0 (by omega)).trans f0
    have j1 := (hx1 1 (by omega)).trans f1
    simp only [pmCellsI, Nat.zero_mul, Nat.one_mul, List.drop_succ_cons, List.drop_zero, List.take_succ_cons, List.take_zero] at j0 j1
    obtain ⟨n4, e4, _, _⟩ := DataW.trod_int Try.underlying3 j0
    cases e4
    obtain ⟨n5, e5, _, _⟩ := DataW.trod_int Try.underlying3 j1
    cases e5
    obtain ⟨xs2, m2, _, _, _, hl2, hx2⟩ := DataW.trod_struct Try.underlying47 k0
    simp only [List.size_toArray, List.length_cons, List.length_nil] at hl2
    obtain ⟨u0, g0⟩ := pmGet hl2 (show 0 < 4 by omega)
    obtain ⟨u1, g1⟩ := pmGet hl2 (show 1 < 4 by omega)
    obtain ⟨u2, g2⟩ := pmGet hl2 (show 2 < 4 by omega)
    obtain ⟨u3, g3⟩ := pmGet hl2 (show 3 < 4 by omega)
    have i0 := (hx2 0 _ rfl).trans g0
    have i1 := (hx2 1 _ rfl).trans g1
    have i2 := (hx2 2 _ rfl).trans g2
    have i3 := (hx2 3 _ rfl).trans g3
    try simp only [pmCellsI, List.drop_succ_cons, List.drop_zero, List.take_succ_cons, List.take_zero] at i0 i1 i2 i3
    obtain ⟨n0, q0, _, _⟩ := DataW.trod_int Try.underlying3 i0
    cases q0
    obtain ⟨n1, q1, _, _⟩ := DataW.trod_int Try.underlying3 i1
    cases q1
    obtain ⟨n2, q2, _, _⟩ := DataW.trod_int Try.underlying3 i2
    cases q2
    obtain ⟨n3, q3, _, _⟩ := DataW.trod_int Try.underlying3 i3
    cases q3
    exact ⟨n0, n1, n2, n3, n4, n5, n6, n7, rfl⟩
end Go.Proofs.Ytgmggilnhkdceaa
