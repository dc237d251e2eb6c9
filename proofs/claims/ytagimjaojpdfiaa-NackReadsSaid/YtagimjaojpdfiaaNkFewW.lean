/- NackFewer: the walk. -/
import Derived.Test.YtagimjaojpdfiaaNkI
namespace Go.Proofs.Ytagimjaojpdfiaa
open Go.RowKit
set_option linter.unusedVariables false
theorem prV_at (l : List (Int × Nat)) : ∀ k, k < l.length → (prV l)[k * 2]? = some (.int .u16 (l[k]?.getD (0, 0)).1) ∧ (prV l)[k * 2 + 1]? = some (.int .u16 ((l[k]?.getD (0, 0)).2 : Int)) := by
  induction l with
  | nil => intro k h; simp at h
  | cons p l ih =>
    intro k h
    have e : prV (p :: l) = .int .u16 p.1 :: .int .u16 (p.2 : Int) :: prV l := by simp [prV]
    rw [e]
    cases k with
    | zero => simp
    | succ k =>
      have := ih k (by simpa using h)
      rw [show (k + 1) * 2 = k * 2 + 1 + 1 from by omega]
      simpa using this
theorem numSum_take (l : List (Int × Nat)) (k : Nat) (h : k < l.length) : numSum (l.take (k + 1)) = numSum (l.take k) + (nums (l[k]?.getD (0, 0)).1 (l[k]?.getD (0, 0)).2 16).length := by
  rw [List.take_succ_eq_append_getElem h, numSum_snoc, List.getElem?_eq_getElem h]
  rfl
/-- At a there are these pairs. -/
def RdP (W : World) (a : Option Addr) (l : List (Int × Nat)) : Prop := l = [] ∨ ∃ g, a = some ⟨g, 0, none⟩ ∧ g < W.heap.size ∧ ∀ i u, (prV l)[i]? = some u → W.cell? ⟨g, i, none⟩ = some u
theorem RdP.later {W W' : World} {a : Option Addr} {l : List (Int × Nat)} (h : RdP W a l) (hb : Below W.heap.size W W') : RdP W' a l := by
  rcases h with h | ⟨g, ha, hg, hc⟩
  · exact .inl h
  · exact .inr ⟨g, ha, Nat.lt_of_lt_of_le hg hb.size, fun i u hu => (hb.cell (p := ⟨g, i, none⟩) hg).trans (hc i u hu)⟩
theorem own_prs {W : World} {B : Nat} {T : TypeId} {v : Value} {l : List (Int × Nat)} (h : W.ownsRow B T 2 v l.length (prV l)) : ∃ a c, v = .slice a l.length c ∧ l.length ≤ c ∧ RdP W a l := by
  rcases Nat.eq_zero_or_pos l.length with h0 | h0
  · rcases h.2 with ⟨rfl, _⟩ | ⟨g, cap, cur, rfl, _, _, h1, _⟩
    · exact ⟨none, 0, by rw [h0], by omega, .inl (List.eq_nil_of_length_eq_zero h0)⟩
    · exact ⟨_, cap, rfl, h1, .inl (List.eq_nil_of_length_eq_zero h0)⟩
  · obtain ⟨g, cap, rfl, h1, h2, h3⟩ := own_cells h h0
    exact ⟨_, cap, rfl, h1, .inr ⟨g, rfl, h2, h3⟩⟩
theorem RdP.at {W : World} {a : Option Addr} {l : List (Int × Nat)} (h : RdP W a l) {k : Nat} (hk : k < l.length) : ∃ g, a = some ⟨g, 0, none⟩ ∧ g < W.heap.size ∧ W.cell? ⟨g, k * 2, none⟩ = some (.int .u16 (l[k]?.getD (0, 0)).1) ∧ W.cell? ⟨g, k * 2 + 1, none⟩ = some (.int .u16 ((l[k]?.getD (0, 0)).2 : Int)) := by
  rcases h with h | ⟨g, ha, hg, hc⟩
  · simp [h] at hk
  · obtain ⟨h1, h2⟩ := prV_at l k hk
    exact ⟨g, ha, hg, hc _ _ h1, hc _ _ h2⟩
namespace nackFewer
end nackFewer
end Go.Proofs.Ytagimjaojpdfiaa
