/- piece.Pack. -/
import Derived.Test.YtjoikidnnhjogaaPcC
import Derived.Test.YtjoikidnnhjogaaRtpW
import Derived.Deep.RegionHeld3
namespace Go.Proofs.Ytjoikidnnhjogaa
open Go.RowKit
set_option linter.unusedVariables false
def allMay (l : List PC) : Prop := ∀ p ∈ l, pcMay p
instance allMay_dec (l : List PC) : Decidable (allMay l) := by unfold allMay; infer_instance
/-- The bytes of pieces; none if one may not be. -/
def pcsS (l : List PC) : ByteArray := if allMay l then ofL (pcsL l) else { data := #[] }
theorem pc_mem (l : List PC) (k : Nat) (h : k < l.length) : l[k]?.getD zeroPC ∈ l := by
  rw [List.getElem?_eq_getElem h]
  exact List.getElem_mem h
theorem take_may (l : List PC) (k : Nat) (h : k < l.length) (h1 : allMay (l.take k)) (h2 : pcMay (l[k]?.getD zeroPC)) : allMay (l.take (k + 1)) := by
  intro p hp
  rw [List.take_succ_eq_append_getElem h] at hp
  rcases List.mem_append.1 hp with hp | hp
  · exact h1 p hp
  · rw [List.mem_singleton] at hp
    rw [List.getElem?_eq_getElem h] at h2
    subst hp; exact h2
theorem pcsS_bad (l : List PC) (p : PC) (hp : p ∈ l) (h : ¬ pcMay p) : pcsS l = { data := #[] } := by
  unfold pcsS
  rw [if_neg (fun ha => h (ha p hp))]
theorem pcsS_good (l : List PC) (h : allMay l) : pcsS l = ofL (pcsL l) := by unfold pcsS; rw [if_pos h]
theorem pcsL_take_len (l : List PC) (k n : Nat) (h : ∀ p ∈ l, p.body.size ≤ n) : (pcsL (l.take k)).length ≤ l.length * (4 + n) := by
  have h1 := pcsL_len_le (l.take k) n (fun p hp => h p (List.mem_of_mem_take hp))
  have h2 : (l.take k).length ≤ l.length := by rw [List.length_take]; omega
  exact Nat.le_trans h1 (Nat.mul_le_mul_right _ h2)
/-- A piece in memory. -/
def PcAt (W : World) (g : Nat) (p : PC) : Prop := W.heap[g]? = some (.cells #[.int .i64 p.count, .int .i64 p.kind, .string p.body] 33 (0, 0))
theorem PcAt.drew {W : World} {g : Nat} {p : PC} (h : PcAt W g p) : PcAt W.drew g p := h
theorem PcAt.alloc {W : World} {g : Nat} {p : PC} (h : PcAt W g p) (o : Obj) : PcAt (W.alloc o) g p := heap_at_old _ _ _ _ h
theorem PcAt.others {W w' : World} {g b : Nat} {p : PC} (h : PcAt W g p) (hg : g ≠ b) (ho : Others b W w') : PcAt w' g p := ho g _ h hg (by intro cur p e; cases e)
theorem PcAt.later {W w' : World} {g : Nat} {p : PC} (h : PcAt W g p) (hb : Below W.heap.size W w') : PcAt w' g p := by unfold PcAt; rw [hb.block g (lt_of_block h)]; exact h
theorem PcAt.lt {W : World} {g : Nat} {p : PC} (h : PcAt W g p) : g < W.heap.size := lt_of_block h
theorem pcAt_S {W : World} {g : Nat} {p : PC} (h : PcAt W g p) : W.cell? ⟨g, 0, none⟩ = some (.int .i64 p.count) ∧ W.cell? ⟨g, 1, none⟩ = some (.int .i64 p.kind) ∧ W.cell? ⟨g, 2, none⟩ = some (.string p.body) ∧ PcAt W g p := by
  have f := fun i => cell_of_row W g i _ _ (0, 0) h
  exact ⟨by simpa using f 0, by simpa using f 1, by simpa using f 2, h⟩
theorem pc_new (W : World) (p : PC) : PcAt (W.alloc (.cells #[.int .i64 p.count, .int .i64 p.kind, .string p.body] 33)) W.heap.size p := heap_alloc_new _ _
end Go.Proofs.Ytjoikidnnhjogaa

