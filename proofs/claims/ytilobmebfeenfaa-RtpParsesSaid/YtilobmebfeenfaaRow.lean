/- Slices of integers, and of texts, that came in: what a walk is told of them. -/
import Derived.WalkKit
import Derived.ProofKit
import Derived.OpenShut
import Derived.WalkLawsBesides
import Derived.WalkSpells
import Derived.SliceStrings
import Derived.Below
namespace Go.Proofs.Ytilobmebfeenfaa
open Go.RowKit Go.WideShapes
/-- A slice of integers that came in: nil; or a row of 'cap' cells, of which the first 'len' are its elements. -/
def IsRow (k : IntKind) (w : World) (a : Option Addr) (len cap : Nat) (zs : List Int) : Prop :=
  (a = none ∧ len = 0 ∧ cap = 0 ∧ zs = []) ∨
  ∃ x, a = some x ∧ len ≤ cap ∧ cap ≤ maxLen ∧ zs.length = cap ∧ (∀ i, i < zs.length → w.cell? (x.add i) = some (.int k (zs.getD i 0))) ∧ ∀ n ∈ zs, (Lit.int k n).wf = true
/-- A slice of texts that came in. -/
def IsTexts (w : World) (a : Option Addr) (len cap : Nat) (zs : List ByteArray) : Prop :=
  (a = none ∧ len = 0 ∧ cap = 0 ∧ zs = []) ∨
  ∃ x, a = some x ∧ len ≤ cap ∧ cap ≤ maxLen ∧ zs.length = cap ∧ (∀ i, i < zs.length → w.cell? (x.add i) = some (.string (zs.getD i ByteArray.empty))) ∧ ∀ s ∈ zs, s.size ≤ maxLen
/-- The value is a slice whose elements, in w, are these values. -/
def Holds (w : World) (a : Option Addr) (vs : List Value) : Prop :=
  vs = [] ∨ ∃ b off, a = some ⟨b, off, none⟩ ∧ ∀ i, i < vs.length → w.cell? ⟨b, off + i, none⟩ = some (vs[i]?.getD undef)
/-- The value is a slice whose elements, in w, are these numbers. -/
def Reads (k : IntKind) (w : World) (a : Option Addr) (zs : List Int) : Prop :=
  zs = [] ∨ ∃ b off, a = some ⟨b, off, none⟩ ∧ ∀ i, i < zs.length → w.cell? ⟨b, off + i, none⟩ = some (.int k (zs[i]?.getD 0))
def ReadsT (w : World) (a : Option Addr) (zs : List ByteArray) : Prop :=
  zs = [] ∨ ∃ b off, a = some ⟨b, off, none⟩ ∧ ∀ i, i < zs.length → w.cell? ⟨b, off + i, none⟩ = some (.string (zs[i]?.getD ByteArray.empty))
theorem Reads.later {k : IntKind} {w w' : World} {a : Option Addr} {zs : List Int} (h : Reads k w a zs) (hb : Below w.heap.size w w') : Reads k w' a zs := by
  rcases h with h | ⟨b, off, ha, hc⟩
  · exact Or.inl h
  · exact Or.inr ⟨b, off, ha, fun i hi => cell_later hb (hc i hi)⟩
theorem ReadsT.later {w w' : World} {a : Option Addr} {zs : List ByteArray} (h : ReadsT w a zs) (hb : Below w.heap.size w w') : ReadsT w' a zs := by
  rcases h with h | ⟨b, off, ha, hc⟩
  · exact Or.inl h
  · exact Or.inr ⟨b, off, ha, fun i hi => cell_later hb (hc i hi)⟩
theorem Reads.take {k : IntKind} {w : World} {a : Option Addr} {zs : List Int} (h : Reads k w a zs) (n : Nat) : Reads k w a (zs.take n) := by
  rcases h with h | ⟨b, off, ha, hc⟩
  · exact Or.inl (by simp [h])
  · refine Or.inr ⟨b, off, ha, fun i hi => ?_⟩
    rw [List.length_take] at hi
    rw [hc i (by omega), List.getElem?_take_of_lt (by omega)]
theorem ReadsT.take {w : World} {a : Option Addr} {zs : List ByteArray} (h : ReadsT w a zs) (n : Nat) : ReadsT w a (zs.take n) := by
  rcases h with h | ⟨b, off, ha, hc⟩
  · exact Or.inl (by simp [h])
  · refine Or.inr ⟨b, off, ha, fun i hi => ?_⟩
    rw [List.length_take] at hi
    rw [hc i (by omega), List.getElem?_take_of_lt (by omega)]
theorem Reads.at {k : IntKind} {w : World} {a : Option Addr} {zs : List Int} (h : Reads k w a zs) {i : Nat} (hi : i < zs.length) :
    ∃ b off, a = some ⟨b, off, none⟩ ∧ w.cell? ⟨b, off + i, none⟩ = some (.int k (zs[i]?.getD 0)) := by
  rcases h with h | ⟨b, off, ha, hc⟩
  · simp [h] at hi
  · exact ⟨b, off, ha, hc i hi⟩
theorem ReadsT.at {w : World} {a : Option Addr} {zs : List ByteArray} (h : ReadsT w a zs) {i : Nat} (hi : i < zs.length) :
    ∃ b off, a = some ⟨b, off, none⟩ ∧ w.cell? ⟨b, off + i, none⟩ = some (.string (zs[i]?.getD ByteArray.empty)) := by
  rcases h with h | ⟨b, off, ha, hc⟩
  · simp [h] at hi
  · exact ⟨b, off, ha, hc i hi⟩
/-- What came in, as its elements alone. -/
theorem IsRow.reads {k : IntKind} {w : World} {a : Option Addr} {len cap : Nat} {zs : List Int} (h : IsRow k w a len cap zs) :
    ∃ es, es.length = len ∧ len ≤ cap ∧ cap ≤ 9223372036854775807 ∧ Reads k w a es ∧ ∀ n ∈ es, (Lit.int k n).wf = true := by
  rcases h with ⟨_, h, h', _⟩ | ⟨x, rfl, hl, hm, hz, hcell, hwz⟩
  · exact ⟨[], by simp [h], by omega, by omega, Or.inl rfl, by simp⟩
  · refine ⟨zs.take len, by simp; omega, hl, by unfold maxLen at hm; omega, ?_, fun n hn => hwz n (List.mem_of_mem_take hn)⟩
    by_cases h0 : zs.length = 0
    · exact Or.inl (by rw [List.length_eq_zero_iff] at h0; simp [h0])
    · obtain ⟨b, off, rfl, hc⟩ := ints_at hcell (by omega)
      exact Reads.take (Or.inr ⟨b, off, rfl, fun i hi => by rw [hc i hi, List.getD_eq_getElem?_getD]⟩) len
theorem texts_at {w : World} {a : Addr} {zs : List ByteArray} (h : ∀ i, i < zs.length → w.cell? (a.add i) = some (.string (zs.getD i ByteArray.empty))) (hp : 0 < zs.length) :
    ∃ b off, a = ⟨b, off, none⟩ ∧ ∀ j, j < zs.length → w.cell? ⟨b, off + j, none⟩ = some (.string (zs.getD j ByteArray.empty)) := by
  obtain ⟨b, off, spot⟩ := a
  have hspot : spot = none := by simpa [Addr.add] using World.cell?_spot (h 0 hp)
  subst hspot
  exact ⟨b, off, rfl, fun j hj => by rw [← Go.WideShapes.add_plain]; exact h j hj⟩
theorem IsTexts.reads {w : World} {a : Option Addr} {len cap : Nat} {zs : List ByteArray} (h : IsTexts w a len cap zs) :
    ∃ es, es.length = len ∧ len ≤ cap ∧ cap ≤ 9223372036854775807 ∧ ReadsT w a es ∧ ∀ s ∈ es, s.size ≤ maxLen := by
  rcases h with ⟨_, h, h', _⟩ | ⟨x, rfl, hl, hm, hz, hcell, hwz⟩
  · exact ⟨[], by simp [h], by omega, by omega, Or.inl rfl, by simp⟩
  · refine ⟨zs.take len, by simp; omega, hl, by unfold maxLen at hm; omega, ?_, fun n hn => hwz n (List.mem_of_mem_take hn)⟩
    by_cases h0 : zs.length = 0
    · exact Or.inl (by rw [List.length_eq_zero_iff] at h0; simp [h0])
    · obtain ⟨b, off, rfl, hc⟩ := texts_at hcell (by omega)
      exact ReadsT.take (Or.inr ⟨b, off, rfl, fun i hi => by rw [hc i hi, List.getD_eq_getElem?_getD]⟩) len
/-- An owned row of numbers, as a slice whose elements are these. -/
theorem own_reads {k : IntKind} {w : World} {B : Nat} {e : TypeId} {v : Value} {n : Nat} {zs : List Int} (h : w.ownsRow B e 1 v n (zs.map (Value.int k))) :
    ∃ a c, v = .slice a n c ∧ n = zs.length ∧ n ≤ c ∧ c ≤ 9223372036854775807 ∧ Reads k w a zs := by
  have hn : n = zs.length := by have := h.1; simp at this; omega
  rcases h.2 with ⟨hv, hn0⟩ | ⟨g, cap, cur, hv, _, _, hl, hm, _, _⟩
  · refine ⟨none, 0, by rw [hv, hn0], hn, by omega, by omega, Or.inl ?_⟩
    exact List.length_eq_zero_iff.1 (by omega)
  · refine ⟨some ⟨g, 0, none⟩, cap, hv, hn, hl, by unfold maxLen at hm; omega, Or.inr ⟨g, 0, rfl, fun i hi => ?_⟩⟩
    subst hv
    rw [Nat.zero_add, h.cellAt i (by omega)]
    simp [hi]
theorem own_readsT {w : World} {B : Nat} {e : TypeId} {v : Value} {n : Nat} {zs : List ByteArray} (h : w.ownsRow B e 1 v n (zs.map Value.string)) :
    ∃ a c, v = .slice a n c ∧ n = zs.length ∧ n ≤ c ∧ c ≤ 9223372036854775807 ∧ ReadsT w a zs := by
  have hn : n = zs.length := by have := h.1; simp at this; omega
  rcases h.2 with ⟨hv, hn0⟩ | ⟨g, cap, cur, hv, _, _, hl, hm, _, _⟩
  · refine ⟨none, 0, by rw [hv, hn0], hn, by omega, by omega, Or.inl ?_⟩
    exact List.length_eq_zero_iff.1 (by omega)
  · refine ⟨some ⟨g, 0, none⟩, cap, hv, hn, hl, by unfold maxLen at hm; omega, Or.inr ⟨g, 0, rfl, fun i hi => ?_⟩⟩
    subst hv
    rw [Nat.zero_add, h.cellAt i (by omega)]
    simp [hi]
/-- 'append' of one element to a row of the call's own. -/
theorem append_one {P : Program} {w W : World} {ops : Array Oper} {rest : List Oper} {o : Oper} {a : Act} {Q : Exit → Act → World → Prop} (hgd : o.guard = none) (s x : Operand) (t : TypeId)
    (ho : o.op = .call { callee := .builtin .append, args := #[s, x], argTypes := #[t, t] })
    (base : Nat) (e : TypeId) (i : TypeInfo) (z : Value) (bytes : Nat) (ht : P.underlying t = some (.slice e)) (hi : P.info? e = some i) (hz : i.zero = some z)
    (hsize : i.size = 1) (hby : i.bytes = bytes) (hzs : z.cells.size = 1)
    (v : Value) (n : Nat) (xs : List Value) (hs : a.eval s = v) (hown : w.ownsRow base e 1 v n xs)
    (u : Value) (hx : a.eval x = .slice (some ⟨w.heap.size, 0, none⟩) 1 1) (h1 : u.oneCell' = true)
    (h63 : n + 1 ≤ maxLen) (hbytes : (n + 1) * bytes ≤ 140737488355328) (B : Nat) (hB : B ≤ base) (hbase : base ≤ w.heap.size) (hbel : Below B W w)
    (h : ∀ v' w', w'.ownsRow base e 1 v' (n + 1) (xs ++ [u]) → Below B W w' → wpList P ops Q rest (a.put o.dst v') w') :
    wpList P ops Q (o :: rest) a (w.alloc (.cells #[u] e)) := by
  refine wpList_append_own _ hgd s x t ho base e i z 1 bytes ht hi hz hsize hby hzs (by decide) v n xs hs (hown.alloc _) ⟨w.heap.size, 0, none⟩ 1 1 [u] hx rfl ?_ ?_ h63 hbytes ?_ ?_
  · intro j u' hj
    match j, hj with
    | 0, hj => simp at hj; subst hj; simp [Addr.add]
  · intro u' hu; simp at hu; subst hu; exact h1
  · simp; omega
  · intro v' w' hown' hgrow _
    refine h v' w' hown' ?_
    refine (hbel.alloc (by omega) _).grown hgrow (by simp; omega) ?_
    intro k hk
    exact Nat.le_trans hB (hown.lt k hk).1
end Go.Proofs.Ytilobmebfeenfaa
