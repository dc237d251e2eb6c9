/- nack: cells in memory; pieces in a variable; small laws (few imports: a claim has at most 60 files). -/
import Derived.Test.YtagimjaojpdfiaaNkO
import Derived.Test.YtagimjaojpdfiaaPcP
import Derived.Test.YtagimjaojpdfiaaPcT
import Derived.RegionTactic
import Derived.BigRegion
import Derived.Deep.RegionHeld3
namespace Go.Proofs.Ytagimjaojpdfiaa
open Go.RowKit
set_option linter.unusedVariables false
def AtK (T : TypeId) (W : World) (g : Nat) (cs : Array Value) : Prop := W.heap[g]? = some (.cells cs T (0, 0))
section
variable {T : TypeId} {W W' : World} {g b : Nat} {cs : Array Value}
theorem AtK.cell (h : AtK T W g cs) (i : Nat) : W.cell? ⟨g, i, none⟩ = cs[i]? := cell_of_row W g i _ _ (0, 0) h
theorem AtK.cells3 {c0 c1 c2 : Value} (h : AtK T W g #[c0, c1, c2]) : W.cell? ⟨g, 0, none⟩ = some c0 ∧ W.cell? ⟨g, 1, none⟩ = some c1 ∧ W.cell? ⟨g, 2, none⟩ = some c2 := by
  have f := h.cell
  exact ⟨by simpa using f 0, by simpa using f 1, by simpa using f 2⟩
theorem AtK.cells2 {c0 c1 : Value} (h : AtK T W g #[c0, c1]) : W.cell? ⟨g, 0, none⟩ = some c0 ∧ W.cell? ⟨g, 1, none⟩ = some c1 := by
  have f := h.cell
  exact ⟨by simpa using f 0, by simpa using f 1⟩
theorem AtK.free (h : AtK T W g cs) (i : Nat) : W.frozen? ⟨g, i, none⟩ = false := by unfold AtK at h; simp [World.frozen?, h]
theorem AtK.frees3 (h : AtK T W g cs) : W.frozen? ⟨g, 0, none⟩ = false ∧ W.frozen? ⟨g, 1, none⟩ = false ∧ W.frozen? ⟨g, 2, none⟩ = false := ⟨h.free 0, h.free 1, h.free 2⟩
theorem AtK.later (h : AtK T W g cs) (hb : Below W.heap.size W W') : AtK T W' g cs := by unfold AtK; rw [hb.block g (lt_of_block h)]; exact h
theorem AtK.lt (h : AtK T W g cs) : g < W.heap.size := lt_of_block h
theorem AtK.alloc (h : AtK T W g cs) (o : Obj) : AtK T (W.alloc o) g cs := heap_at_old _ _ _ _ h
theorem AtK.drew (h : AtK T W g cs) : AtK T W.drew g cs := h
theorem AtK.only (h : AtK T W g cs) (hg : g ≠ b) (ho : Only b W W') : AtK T W' g cs := by unfold AtK; rw [ho.block g hg]; exact h
theorem AtK.others (h : AtK T W g cs) (hT : T ≠ 5) (hg : g ≠ b) (ho : Others b W W') : AtK T W' g cs := ho g _ h hg (by intro cur p e; simp at e; exact hT e.2.1)
theorem atK_new (T : TypeId) (W : World) (cs : Array Value) : AtK T (W.alloc (.cells cs T)) W.heap.size cs := heap_alloc_new W _
theorem atK_store {c0 c1 c2 : Value} (d0 d1 d2 : Value) (h : AtK T W g #[c0, c1, c2]) : AtK T (((W.setCell ⟨g, 0, none⟩ d0).setCell ⟨g, 1, none⟩ d1).setCell ⟨g, 2, none⟩ d2) g #[d0, d1, d2] := by
  have h0 : AtK T (W.setCell ⟨g, 0, none⟩ d0) g #[d0, c1, c2] := block_setCell h
  have h1 : AtK T ((W.setCell ⟨g, 0, none⟩ d0).setCell ⟨g, 1, none⟩ d1) g #[d0, d1, c2] := block_setCell h0
  exact block_setCell h1
theorem storeK_only (W : World) (g : Nat) (d0 d1 d2 : Value) : Only g W (((W.setCell ⟨g, 0, none⟩ d0).setCell ⟨g, 1, none⟩ d1).setCell ⟨g, 2, none⟩ d2) :=
  (((Only.refl _ _).setCell 0 _).setCell 1 _).setCell 2 _
theorem ownK_store {w : World} {B i : Nat} {e : TypeId} {m : Nat} {v u : Value} {n : Nat} {xs : List Value} (h : w.ownsRow B e m v n xs) (hP : AtK T w g cs) (hne : T ≠ e) : (w.setCell ⟨g, i, none⟩ u).ownsRow B e m v n xs :=
  ownsRow_setCell_other h (fun x => row_neP h hP (by intro cur p q; simp at q; exact hne q.2.1) x.symm) _
theorem ownK_in {w w' : World} {B m : Nat} {e : TypeId} {v : Value} {n : Nat} {xs : List Value} {s : ByteArray} {er : Int} (h : w.ownsRow B e m v n xs) (hk : InAt w b s er) (hne : 199 ≠ e) (ho : Only b w w') : w'.ownsRow B e m v n xs := by
  refine h.kept (row := some b) ⟨ho.os, ho.tape, ho.output, by rw [ho.size]; exact Nat.le_refl _, fun k _ hkb => ho.block k (fun e => hkb (by rw [e]))⟩ (.inr (fun x => row_neP h hk (by intro cur p q; simp at q; exact hne q.2.1) x.symm))
end
/-- A document's piece in a variable. -/
def NkBox (W : World) (g : Nat) (p : PC) : Prop := W.heap[g]? = some (.cells #[.int .i64 p.count, .int .i64 p.kind, .string p.body] 30 (0, 0))
theorem nkBox_S {W : World} {g : Nat} {p : PC} (h : NkBox W g p) : W.cell? ⟨g, 0, none⟩ = some (.int .i64 p.count) ∧ W.cell? ⟨g, 1, none⟩ = some (.int .i64 p.kind) ∧ W.cell? ⟨g, 2, none⟩ = some (.string p.body) ∧ NkBox W g p := by
  have f := fun i => cell_of_row W g i _ _ (0, 0) h
  exact ⟨by simpa using f 0, by simpa using f 1, by simpa using f 2, h⟩
theorem NkBox.alloc {W : World} {g : Nat} {p : PC} (h : NkBox W g p) (o : Obj) : NkBox (W.alloc o) g p := heap_at_old _ _ _ _ h
theorem NkBox.drew {W : World} {g : Nat} {p : PC} (h : NkBox W g p) : NkBox W.drew g p := h
theorem NkBox.later {W W' : World} {g : Nat} {p : PC} (h : NkBox W g p) (hb : Below W.heap.size W W') : NkBox W' g p := by unfold NkBox; rw [hb.block g (lt_of_block h)]; exact h
theorem nkBox_new (W : World) (p : PC) : NkBox (W.alloc (.cells #[.int .i64 p.count, .int .i64 p.kind, .string p.body] 30)) W.heap.size p := heap_alloc_new W _
theorem nkPut_as (S n : Int) (size : Nat) (w : World) (hS : S = (size : Int)) (h1 : -9223372036854775808 ≤ n) (h2 : n ≤ 9223372036854775807) (h4 : size ≤ 8) :
    Calls Try.prog 57 #[.int .i64 n, .int .i64 S] w fun e w' => e = .returned (.string (ofL (be n size))) ∧ Below w.heap.size w w' := by
  rw [hS]; exact put_any n size w h1 h2 h4
theorem nkSum_run (L M N : List UInt8) (h : L ++ M = N) (hl : N.length ≤ 1000000000) (W : World) : Sem.run Try.prog (Op.stringOp .add (ofL L) (ofL M)) W = Result.ok (.string (ofL N)) W := by
  rw [← h, ofL_append]
  refine run_string_add_sum _ _ _ ?_
  rw [ofL_size, ofL_size]
  have := congrArg List.length h
  rw [List.length_append] at this
  omega
theorem nkBelow_step {w W W' : World} (a : Below w.heap.size w W) (b : Below W.heap.size W W') : Below w.heap.size w W' := a.trans (b.mono a.size)
end Go.Proofs.Ytagimjaojpdfiaa
