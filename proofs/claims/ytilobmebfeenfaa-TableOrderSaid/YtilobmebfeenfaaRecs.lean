/- Slices of structs of one-cell fields that came in. -/
import Derived.WalkKit
import Derived.ProofKit
import Derived.OpenShut
import Derived.Deep.Slices
import Derived.Deep.Fields
import Derived.ChangeSame
import Derived.WalkSpells
import Derived.ChangeOld
import Derived.Below
namespace Go.Proofs.Ytilobmebfeenfaa
open Go.RowKit Go.ChangeShapes Go.WideShapes Go.Deep
set_option linter.unusedVariables false
section
variable {H : Type} {enc : TypeId × Value → H} {P : Program} {w : World} {base : Nat} {spare : Nat → Bool} {held : Bool}
/-- A slice of structs: each cell of each element. -/
theorem open_rec {t e : TypeId} {fs : Array Field} {fuel : Nat} {cs : List Value} {x : DataW H × List MemPlace} (ht : P.underlying t = some (.slice e)) (he : P.underlying e = some (.struct fs))
    (hone : oneCellFields P fs = true) (hC : P.cellsOf e = fs.size) (h : DataW.trod enc P w base spare held fuel t cs = some x) :
    (cs = [.slice none 0 0]) ∨
    ∃ (a : Addr) (len cap : Nat), cs = [.slice (some a) len cap] ∧ len ≤ cap ∧ cap ≤ maxLen ∧
      ∀ i, i < len → ∀ (j : Nat) (f : Field), fs[j]? = some f → ∃ (n : Nat) (v : Value) (y : DataW H × List MemPlace), w.cell? (a.add (i * fs.size + j)) = some v ∧ DataW.trod enc P w base spare held n f.type [v] = some y := by
  rcases open_slice ht h with ⟨h0, _⟩ | ⟨a, len, cap, m, n, D, Pl, hcs, hb, hl, hm, hmm, hx, hi⟩
  · exact .inl h0
  · refine .inr ⟨a, len, cap, hcs, hl, hm, fun i hil => ?_⟩
    have him : i < m := by rw [hmm]; split <;> omega
    obtain ⟨cs', hc, ht'⟩ := hi i him
    rw [hC] at hc
    obtain ⟨ys, n', hn', hy, hlen, hyl, hf⟩ := DataW.trod_struct he ht'
    obtain ⟨_, hcl, hat⟩ := World.cells?_some hc
    intro j f hj
    obtain ⟨ho, hk⟩ := hone_of hone j f hj
    have hjl : j < fs.size := (Array.getElem?_eq_some_iff.1 hj).1
    have hcell := hat j hjl
    have hv : cs'[j]? = some (cs'[j]'(by omega)) := List.getElem?_eq_getElem (by omega)
    have h1 := hf j f hj
    rw [ho, hk] at h1
    have hone' : (cs'.drop j).take 1 = [cs'[j]'(by omega)] := by
      rw [List.drop_eq_getElem_cons (by omega)]
      rfl
    rw [hone'] at h1
    have hys : ys[j]? = some (ys[j]'(by omega)) := List.getElem?_eq_getElem (by omega)
    refine ⟨_, _, _, ?_, h1.trans hys⟩
    rw [← Go.Deep.add_add, hcell, hv]
end
def isNum (k : IntKind) (v : Value) : Prop := ∃ n, v = .int k n ∧ (Lit.int k n).wf = true
def isText (v : Value) : Prop := ∃ s : ByteArray, v = .string s ∧ s.size ≤ maxLen
def isBool (v : Value) : Prop := ∃ b, v = .bool b
/-- A slice of structs that came in: its elements' cells are as said. -/
def Recs (ps : List (Value → Prop)) (w : World) (a : Option Addr) (n : Nat) : Prop :=
  n = 0 ∨ ∃ b off, a = some ⟨b, off, none⟩ ∧ b < w.heap.size ∧ ∀ i, i < n → ∀ j p, ps[j]? = some p → ∃ v, w.cell? ⟨b, off + (i * ps.length + j), none⟩ = some v ∧ p v
theorem Recs.later {ps : List (Value → Prop)} {w w' : World} {a : Option Addr} {n : Nat} (h : Recs ps w a n) (hb : Below w.heap.size w w') : Recs ps w' a n := by
  rcases h with h | ⟨b, off, ha, hlt, hc⟩
  · exact .inl h
  · refine .inr ⟨b, off, ha, Nat.lt_of_lt_of_le hlt hb.size, fun i hi j p hp => ?_⟩
    obtain ⟨v, hv, hpv⟩ := hc i hi j p hp
    exact ⟨v, cell_later hb hv, hpv⟩
theorem recs_open {H : Type} {enc : TypeId × Value → H} {P : Program} {w : World} {base : Nat} {spare : Nat → Bool} {held : Bool} {t e : TypeId} {fs : Array Field} {fuel len cap : Nat} {pp : Option Addr} {x : DataW H × List MemPlace}
    (ps : List (Value → Prop)) (ht : P.underlying t = some (.slice e)) (he : P.underlying e = some (.struct fs)) (hone : oneCellFields P fs = true) (hC : P.cellsOf e = fs.size) (hps : ps.length = fs.size) (h0 : 0 < fs.size)
    (hF : ∀ (j : Nat) (f : Field) (p : Value → Prop), fs[j]? = some f → ps[j]? = some p → ∀ n v y, DataW.trod enc P w base spare held n f.type [v] = some y → p v)
    (h : DataW.trod enc P w base spare held fuel t [.slice pp len cap] = some x) : Recs ps w pp len ∧ len ≤ 9223372036854775807 := by
  rcases open_rec ht he hone hC h with h1 | ⟨a, l, c, hcs, hl, hm, hc⟩
  · simp at h1
    exact ⟨.inl h1.2.1, by omega⟩
  · simp only [List.cons.injEq, Value.slice.injEq, and_true] at hcs
    obtain ⟨rfl, rfl, rfl⟩ := hcs
    unfold maxLen at hm
    refine ⟨?_, by omega⟩
    by_cases hz : len = 0
    · exact .inl hz
    · obtain ⟨f0, hf0⟩ : ∃ f, fs[0]? = some f := ⟨_, Array.getElem?_eq_getElem h0⟩
      obtain ⟨n, v, y, hv, _⟩ := hc 0 (by omega) 0 f0 hf0
      obtain ⟨b, off, spot⟩ := a
      have hspot : spot = none := by simpa [Addr.add] using World.cell?_spot hv
      subst hspot
      refine .inr ⟨b, off, rfl, ?_, fun i hi j p hp => ?_⟩
      · have := World.block_lt_of_cell? w _ hv
        rw [Go.WideShapes.add_plain] at this
        exact this
      · have hj : j < fs.size := by rw [← hps]; exact (List.getElem?_eq_some_iff.1 hp).1
        obtain ⟨f, hf⟩ : ∃ f, fs[j]? = some f := ⟨_, Array.getElem?_eq_getElem hj⟩
        obtain ⟨n, v, y, hv, hy⟩ := hc i hi j f hf
        rw [Go.WideShapes.add_plain] at hv
        rw [hps]
        exact ⟨v, hv, hF j f p hf hp n v y hy⟩
end Go.Proofs.Ytilobmebfeenfaa
