/- Pieces: which may be; slices of pieces. -/
import Derived.Test.YtagimjaojpdfiaaPcM
import Derived.Test.YtagimjaojpdfiaaPenL
import Derived.Test.YtagimjaojpdfiaaRecs
namespace Go.Proofs.Ytagimjaojpdfiaa
open Go.RowKit
set_option linter.unusedVariables false
set_option maxHeartbeats 800000 in
theorem pcCheck_any (p : PC) (w : World) (hs : p.body.size ≤ 9223372036854775807) (b : Int) (hb : (b = 0 ∧ pcMay p) ∨ (b = 6 ∧ ¬ pcMay p)) :
    Calls Try.prog 24 #[.agg #[.int .i64 p.count, .int .i64 p.kind, .string p.body]] w fun e w' => e = .returned (.int .i64 b) ∧ Below w.heap.size w w' := by
  obtain ⟨count, kind, body⟩ := p
  unfold pcMay at hb
  simp only at *
  by_cases k0 : count < 0
  · obtain rfl : b = 6 := by
      rcases hb with ⟨_, h⟩ | ⟨h, _⟩
      · obtain ⟨x1, x2, x3, x4, x5, x6⟩ := h; omega
      · exact h
    clear hb
    go_enter Try.func24, Try.ntmps24
    go_wp2
    go_ret
    exact ⟨rfl, (Below.refl _ _).alloc (Nat.le_refl _) _⟩
  · skip
    by_cases k1 : 31 < count
    · obtain rfl : b = 6 := by
        rcases hb with ⟨_, h⟩ | ⟨h, _⟩
        · obtain ⟨x1, x2, x3, x4, x5, x6⟩ := h; omega
        · exact h
      clear hb
      go_enter Try.func24, Try.ntmps24
      go_wp2
      go_ret
      exact ⟨rfl, (Below.refl _ _).alloc (Nat.le_refl _) _⟩
    · skip
      by_cases k2 : kind < 192
      · obtain rfl : b = 6 := by
          rcases hb with ⟨_, h⟩ | ⟨h, _⟩
          · obtain ⟨x1, x2, x3, x4, x5, x6⟩ := h; omega
          · exact h
        clear hb
        go_enter Try.func24, Try.ntmps24
        go_wp2
        go_ret
        exact ⟨rfl, (Below.refl _ _).alloc (Nat.le_refl _) _⟩
      · skip
        by_cases k3 : 223 < kind
        · obtain rfl : b = 6 := by
            rcases hb with ⟨_, h⟩ | ⟨h, _⟩
            · obtain ⟨x1, x2, x3, x4, x5, x6⟩ := h; omega
            · exact h
          clear hb
          go_enter Try.func24, Try.ntmps24
          go_wp2
          go_ret
          exact ⟨rfl, (Below.refl _ _).alloc (Nat.le_refl _) _⟩
        · skip
          by_cases k5 : body.size % 4 = 0
          · by_cases k6 : 262140 < body.size
            · have h5 : (((body.size : Int) % 4) != 0) = false := by simp; omega
              have h6 : (262140 : Int) < (body.size : Int) := by omega
              obtain rfl : b = 6 := by
                rcases hb with ⟨_, h⟩ | ⟨h, _⟩
                · obtain ⟨x1, x2, x3, x4, x5, x6⟩ := h; omega
                · exact h
              clear k5 k6
              clear hb
              go_enter Try.func24, Try.ntmps24
              go_wp2
              go_ret
              exact ⟨rfl, (Below.refl _ _).alloc (Nat.le_refl _) _⟩
            · have h5 : (((body.size : Int) % 4) != 0) = false := by simp; omega
              have h6 : (body.size : Int) ≤ (262140 : Int) := by omega
              obtain rfl : b = 0 := by
                rcases hb with ⟨h, _⟩ | ⟨_, h⟩
                · exact h
                · exact absurd ⟨by omega, by omega, by omega, by omega, by omega, by omega⟩ h
              clear k5 k6
              clear hb
              go_enter Try.func24, Try.ntmps24
              go_wp2
              go_ret
              exact ⟨rfl, (Below.refl _ _).alloc (Nat.le_refl _) _⟩
          · have h5 : (((body.size : Int) % 4) != 0) = true := by simp; omega
            obtain rfl : b = 6 := by
              rcases hb with ⟨_, h⟩ | ⟨h, _⟩
              · obtain ⟨x1, x2, x3, x4, x5, x6⟩ := h; omega
              · exact h
            clear k5
            clear hb
            go_enter Try.func24, Try.ntmps24
            go_wp2
            go_ret
            exact ⟨rfl, (Below.refl _ _).alloc (Nat.le_refl _) _⟩
/-- A slice of pieces. -/
def ReadsP (w : World) (a : Option Addr) (l : List PC) : Prop :=
  l = [] ∨ ∃ b off, a = some ⟨b, off, none⟩ ∧ ∀ i, i < l.length → ∀ j v, (l[i]?.getD zeroPC).vals[j]? = some v → w.cell? ⟨b, off + (i * 3 + j), none⟩ = some v
theorem ReadsP.later {w w' : World} {a : Option Addr} {l : List PC} (h : ReadsP w a l) (hb : Below w.heap.size w w') : ReadsP w' a l := by
  rcases h with h | ⟨b, off, ha, hc⟩
  · exact Or.inl h
  · exact Or.inr ⟨b, off, ha, fun i hi j v hv => cell_later hb (hc i hi j v hv)⟩
theorem ReadsP.at {w : World} {a : Option Addr} {l : List PC} (h : ReadsP w a l) {i : Nat} (hi : i < l.length) :
    ∃ b off, a = some ⟨b, off, none⟩ ∧ w.cell? ⟨b, off + i * 3, none⟩ = some (.int .i64 (l[i]?.getD zeroPC).count) ∧ w.cell? ⟨b, off + i * 3 + 1, none⟩ = some (.int .i64 (l[i]?.getD zeroPC).kind) ∧ w.cell? ⟨b, off + i * 3 + 2, none⟩ = some (.string (l[i]?.getD zeroPC).body) := by
  rcases h with h | ⟨b, off, ha, hc⟩
  · simp [h] at hi
  · exact ⟨b, off, ha, hc i hi 0 _ rfl, hc i hi 1 _ rfl, hc i hi 2 _ rfl⟩
/-- Cells of pieces, one behind the other. -/
def pcsV (l : List PC) : List Value := (l.map PC.vals).flatten
theorem pcsV_len (l : List PC) : (pcsV l).length = l.length * 3 := by
  unfold pcsV
  induction l with
  | nil => rfl
  | cons p l ih => simp only [List.map_cons, List.flatten_cons, List.length_append, ih, List.length_cons]; rw [Nat.add_mul, Nat.one_mul, Nat.add_comm]; rfl
theorem pcsV_snoc (l : List PC) (p : PC) : pcsV (l ++ [p]) = pcsV l ++ p.vals := by simp [pcsV]
theorem pcsV_at : ∀ (l : List PC) (i j : Nat) (v : Value), i < l.length → (l[i]?.getD zeroPC).vals[j]? = some v → (pcsV l)[i * 3 + j]? = some v
  | [], i, j, v, h, _ => by simp at h
  | p :: l, 0, j, v, _, hv => by
    have hj : j < 3 := (List.getElem?_eq_some_iff.1 hv).1
    show (p.vals ++ pcsV l)[0 * 3 + j]? = _
    rw [show 0 * 3 + j = j from by omega, List.getElem?_append_left (by show j < 3; exact hj)]
    simpa using hv
  | p :: l, i + 1, j, v, h, hv => by
    show (p.vals ++ pcsV l)[(i + 1) * 3 + j]? = _
    rw [List.getElem?_append_right (by show 3 ≤ (i + 1) * 3 + j; omega), show (i + 1) * 3 + j - p.vals.length = i * 3 + j from by show (i + 1) * 3 + j - 3 = _; omega]
    exact pcsV_at l i j v (by simpa using h) (by simpa using hv)
/-- An owned row of pieces, as a slice of pieces. -/
theorem own_readsP {w : World} {B : Nat} {e : TypeId} {v : Value} {n : Nat} {l : List PC} (h : w.ownsRow B e 3 v n (pcsV l)) :
    ∃ a c, v = .slice a n c ∧ n = l.length ∧ n ≤ c ∧ c ≤ 9223372036854775807 ∧ ReadsP w a l := by
  have hn : n = l.length := by have := h.1; rw [pcsV_len] at this; omega
  rcases h.2 with ⟨hv, hn0⟩ | ⟨g, cap, cur, hv, _, _, hl, hm, _, _⟩
  · refine ⟨none, 0, by rw [hv, hn0], hn, by omega, by omega, Or.inl ?_⟩
    exact List.length_eq_zero_iff.1 (by omega)
  · refine ⟨some ⟨g, 0, none⟩, cap, hv, hn, hl, by unfold maxLen at hm; omega, Or.inr ⟨g, 0, rfl, fun i hi j v' hv' => ?_⟩⟩
    subst hv
    have hj : j < 3 := (List.getElem?_eq_some_iff.1 hv').1
    rw [Nat.zero_add, h.cellAt (i * 3 + j) (by omega), pcsV_at l i j v' hi hv']
theorem infoPc : (Try.prog.info? 28).map (fun i => (i.zero, i.size, i.bytes)) = some (some (.agg #[.int .i64 0, .int .i64 0, .string { data := #[] }]), 3, 32) := by kernel_rfl
theorem infoPr : (Try.prog.info? 30).map (fun i => (i.zero, i.size, i.bytes)) = some (some (.agg #[.int .i64 0, .int .i64 0, .string { data := #[] }]), 3, 32) := by kernel_rfl
end Go.Proofs.Ytagimjaojpdfiaa
