/- nack: the document's Pairs: the walk. -/
import Derived.Test.YtagimjaojpdfiaaNkR
namespace Go.Proofs.Ytagimjaojpdfiaa
open Go.RowKit
set_option linter.unusedVariables false
theorem keep_row {W w' : World} {B1 e1 s1 k1 B2 e2 s2 k2 : Nat} {v1 v2 : Value} {x1 x2 : List Value} (h1 : W.ownsRow B1 e1 s1 v1 k1 x1) (h2 : W.ownsRow B2 e2 s2 v2 k2 x2) (hne : e1 ≠ e2) (hg : W.grownBy w' v2.ownBlock) : w'.ownsRow B1 e1 s1 v1 k1 x1 := by
  refine ⟨h1.1, ?_⟩
  rcases h1.2 with hz | ⟨g, cap, cur, rfl, q1, q2, q3⟩
  · exact .inl hz
  · refine .inr ⟨g, cap, cur, rfl, q1, ?_, q3⟩
    rw [hg.block g (lt_of_block q2) (fun e => ?_)]
    · exact q2
    · rcases h2.2 with ⟨rfl, _⟩ | ⟨g', cap', cur', rfl, _, r2, _⟩
      · simp [Value.ownBlock] at e
      · obtain rfl : g = g' := by simpa [Value.ownBlock] using e
        rw [q2] at r2
        simp at r2
        exact hne r2.2
theorem keep_blk {W w' : World} {g e1 B2 e2 s2 k2 : Nat} {cs : Array Value} {v2 : Value} {x2 : List Value} (h1 : W.heap[g]? = some (Obj.cells cs e1 (0, 0))) (h2 : W.ownsRow B2 e2 s2 v2 k2 x2) (hne : e1 ≠ e2) (hg : W.grownBy w' v2.ownBlock) : w'.heap[g]? = some (Obj.cells cs e1 (0, 0)) := by
  rw [hg.block g (lt_of_block h1) (fun e => ?_)]
  · exact h1
  · rcases h2.2 with ⟨rfl, _⟩ | ⟨g', cap', cur', rfl, _, r2, _⟩
    · simp [Value.ownBlock] at e
    · obtain rfl : g = g' := by simpa [Value.ownBlock] using e
      rw [h1] at r2
      simp at r2
      exact hne r2.2
theorem own_made0 {W : World} {B g T s : Nat} (hB : B ≤ g) (h : W.heap[g]? = some (Obj.cells #[] T (0, 0))) : W.ownsRow B T s (.slice (some ⟨g, 0, none⟩) 0 0) 0 [] :=
  ⟨by simp, .inr ⟨g, 0, #[], rfl, hB, h, Nat.le_refl _, by unfold maxLen; omega, by simp, by simp⟩⟩
theorem take_drop_one (zs : List Int) (k j : Nat) (h : k + j < zs.length) : (zs.drop k).take (j + 1) = (zs.drop k).take j ++ [zs[k + j]?.getD 0] := by
  rw [List.take_succ_eq_append_getElem (by rw [List.length_drop]; omega), List.getElem_drop, List.getElem?_eq_getElem h]
  rfl
def p2 (t : Nat) : Nat := 2 ^ (t - 1)
theorem p2_succ (t : Nat) (h : 1 ≤ t) : 2 * p2 t = p2 (t + 1) := by
  unfold p2
  obtain ⟨s, rfl⟩ : ∃ s, t = s + 1 := ⟨t - 1, by omega⟩
  rw [Nat.add_sub_cancel, Nat.add_sub_cancel, Nat.pow_succ]
  omega
theorem p2_le (t : Nat) (h : t ≤ 16) : p2 t ≤ 32768 := by
  unfold p2
  exact Nat.pow_le_pow_right (n := 2) (by omega) (show t - 1 ≤ 15 by omega)
theorem row_setn {W : World} {B e s k g : Nat} {v : Value} {xs : List Value} (h : W.ownsRow B e s v k xs) (hne : some g ≠ v.ownBlock) (i : Nat) (u : Value) : (W.setCell ⟨g, i, none⟩ u).ownsRow B e s v k xs := by
  refine ⟨h.1, ?_⟩
  rcases h.2 with hz | ⟨g', cap, cur, rfl, q1, q2, q3⟩
  · exact .inl hz
  · exact .inr ⟨g', cap, cur, rfl, q1, by rw [Below.heap_setCell _ _ _ _ (fun e => hne (by rw [e]; rfl))]; exact q2, q3⟩
theorem blk_ne {W : World} {B e s k g T : Nat} {v : Value} {xs : List Value} {cs : Array Value} (h : W.ownsRow B e s v k xs) (hX : W.heap[g]? = some (Obj.cells cs T (0, 0))) (hne : T ≠ e) : some g ≠ v.ownBlock := fun e1 => by
  rcases h.2 with ⟨rfl, _⟩ | ⟨g', cap, cur, rfl, _, r2, _⟩
  · simp [Value.ownBlock] at e1
  · obtain rfl : g = g' := by simpa [Value.ownBlock] using e1
    rw [hX] at r2
    simp at r2
    exact hne r2.2
theorem blp_nil (n : Int) : ∀ k, blp (fun x => ([] : List Int).contains x) n k = 0
  | 0 => rfl
  | k + 1 => by rw [blp, blp_nil n k]; simp
/-- The bits of those in a list. -/
def blA (ad : List Int) (n : Int) : Nat := blp (fun x => ad.contains x) n 16
end Go.Proofs.Ytagimjaojpdfiaa
