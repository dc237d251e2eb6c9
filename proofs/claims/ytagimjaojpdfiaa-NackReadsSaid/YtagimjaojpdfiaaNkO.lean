/- A Nack that came in, opened. -/
import Derived.Test.YtagimjaojpdfiaaNkG
import Derived.Test.YtagimjaojpdfiaaRecs
import Derived.WalkKit
import Derived.ProofKit
import Derived.OpenShut
import Derived.ShutString
import Derived.ChangeOld
import Derived.Below
import Derived.SliceStrings
import Derived.Lib.SmallJoins
namespace Go.Proofs.Ytagimjaojpdfiaa
open Go.ChangeShapes Go.WideShapes Go.ChangeAt Go.RowKit Go.Joins
open Go.ChangeMaps (open_string shut_string)
set_option linter.unusedVariables false
theorem nkCellsU32 : Try.prog.cellsOf 22 = 1 := by kernel_rfl
theorem nkU32_bd {a : Int} (h : (Lit.int .u32 a).wf = true) : 0 ≤ a ∧ a ≤ 4294967295 := by
  simp [Lit.wf, IntKind.min, IntKind.max, IntKind.bits, IntKind.signed] at h; omega
theorem nkSome_lt {α : Type} {l : List α} {i : Nat} (h : i < l.length) : ∃ y, l[i]? = some y := ⟨_, List.getElem?_eq_getElem h⟩
theorem cellsNk : Try.prog.cellsOf 25 = 3 := by kernel_rfl
theorem cellsPl : Try.prog.cellsOf 23 = 1 := by kernel_rfl
theorem typesNk : Try.prog.cellTypes Try.prog.depth 25 = some [22, 22, 23] := by kernel_rfl
/-- Pairs of a slice that came in. -/
def RdO (W : World) (a : Option Addr) (l : List (Int × Nat)) : Prop := l = [] ∨ ∃ g off, a = some ⟨g, off, none⟩ ∧ ∀ i u, (prV l)[i]? = some u → W.cell? ⟨g, off + i, none⟩ = some u
theorem RdO.later {W W' : World} {a : Option Addr} {l : List (Int × Nat)} (h : RdO W a l) (hb : Below W.heap.size W W') : RdO W' a l := by
  rcases h with h | ⟨g, off, ha, hc⟩
  · exact .inl h
  · exact .inr ⟨g, off, ha, fun i u hu => cell_later hb (hc i u hu)⟩
theorem prV_len (l : List (Int × Nat)) : (prV l).length = l.length * 2 := by
  induction l with
  | nil => rfl
  | cons p l ih =>
    have e : prV (p :: l) = .int .u16 p.1 :: .int .u16 (p.2 : Int) :: prV l := by simp [prV]
    rw [e]
    simp only [List.length_cons]
    omega
theorem u16_bd2 {x : Int} (h : (Lit.int .u16 x).wf = true) : 0 ≤ x ∧ x < 65536 := by
  simp [Lit.wf, IntKind.min, IntKind.max, IntKind.bits, IntKind.signed] at h
  omega
theorem recs_pairs {w : World} {b off n : Nat} (hc : ∀ i, i < n → ∀ j p, ([isNum .u16, isNum .u16] : List (Value → Prop))[j]? = some p → ∃ v, w.cell? ⟨b, off + (i * 2 + j), none⟩ = some v ∧ p v) :
    ∀ m, m ≤ n → ∃ l : List (Int × Nat), l.length = m ∧ (∀ p ∈ l, 0 ≤ p.1 ∧ p.1 < 65536 ∧ p.2 < 65536) ∧ ∀ i u, (prV l)[i]? = some u → w.cell? ⟨b, off + i, none⟩ = some u
  | 0, _ => ⟨[], rfl, fun q hq => (by cases hq), fun i u hu => by simp [prV] at hu⟩
  | m + 1, hm => by
    obtain ⟨l, hl, ho, hr⟩ := recs_pairs hc m (by omega)
    obtain ⟨_, h0, a0, rfl, q0⟩ := hc m (by omega) 0 _ rfl
    obtain ⟨_, h1, a1, rfl, q1⟩ := hc m (by omega) 1 _ rfl
    have b0 := u16_bd2 q0
    have b1 := u16_bd2 q1
    obtain ⟨n1, rfl⟩ : ∃ n1 : Nat, a1 = (n1 : Int) := ⟨a1.toNat, by omega⟩
    refine ⟨l ++ [(a0, n1)], by simp [hl], ?_, ?_⟩
    · intro q hq
      rcases List.mem_append.1 hq with hq | hq
      · exact ho q hq
      · rw [List.mem_singleton] at hq
        subst hq
        exact ⟨b0.1, b0.2, by show n1 < 65536; omega⟩
    · intro i u hu
      rw [prV_snoc] at hu
      have hpl := prV_len l
      by_cases him : i < (prV l).length
      · rw [List.getElem?_append_left him] at hu
        exact hr i u hu
      · rw [List.getElem?_append_right (by omega)] at hu
        have hi2 : i = m * 2 ∨ i = m * 2 + 1 ∨ m * 2 + 2 ≤ i := by omega
        rcases hi2 with rfl | rfl | h3
        · rw [show m * 2 - (prV l).length = 0 from by omega] at hu
          cases hu
          exact h0
        · rw [show m * 2 + 1 - (prV l).length = 1 from by omega] at hu
          cases hu
          exact h1
        · rw [List.getElem?_eq_none (by simp; omega)] at hu
          cases hu
set_option maxRecDepth 100000 in
set_option maxHeartbeats 3200000 in
theorem nk_open {H : Type} {enc : TypeId × Value → H} {w : World} {base : Nat} {held : Bool} {v : Value} {d : DataW H} {pl : List MemPlace}
    (hv : Value.okWide Try.prog w .any 0 25 v) (h : DataW.Trod enc Try.prog w base (fun _ => true) held 25 v d pl) :
    ∃ (f b : Int) (l : List (Int × Nat)) (a : Option Addr) (c : Nat), v = .agg #[.int .u32 f, .int .u32 b, .slice a l.length c] ∧ (0 ≤ f ∧ f ≤ 4294967295) ∧ (0 ≤ b ∧ b ≤ 4294967295) ∧ (∀ p ∈ l, 0 ≤ p.1 ∧ p.1 < 65536 ∧ p.2 < 65536) ∧ l.length ≤ c ∧ c ≤ 9223372036854775807 ∧ RdO w a l ∧ ((a = none ∧ l.length = 0 ∧ c = 0) ∨ ∃ g off, a = some ⟨g, off, none⟩) := by
  simp only [Value.okWide, Try.underlying25] at hv
  obtain ⟨⟨l⟩, rfl, hsz, ts, hts, _, hrow⟩ := hv
  rw [cellsNk] at hsz
  rw [typesNk] at hts
  cases hts
  obtain ⟨fuel, hf⟩ := h
  obtain ⟨xs, m, _, _, _, hl, hx⟩ := DataW.trod_struct Try.underlying25 hf
  clear hf
  match l, hsz, hrow with
  | [c0, c1, c2], _, hrow =>
    obtain ⟨u2, hu2, hok2⟩ := hrow 2 c2 rfl
    cases hu2
    have g := fun i (hi : i < xs.length) => nkSome_lt hi
    simp only [List.size_toArray, List.length_cons, List.length_nil] at hl
    obtain ⟨z0, e0⟩ := g 0 (by omega)
    obtain ⟨z1, e1⟩ := g 1 (by omega)
    obtain ⟨z2, e2⟩ := g 2 (by omega)
    have k0 := (hx 0 _ rfl).trans e0
    have k1 := (hx 1 _ rfl).trans e1
    have k2 := (hx 2 _ rfl).trans e2
    simp only [Value.cells, nkCellsU32, cellsPl, List.getElem_toArray, List.getElem_cons_zero, List.getElem_cons_succ, List.drop_succ_cons, List.drop_zero, List.take_succ_cons, List.take_zero] at k0 k1 k2
    obtain ⟨n0, e, _, w0⟩ := DataW.trod_int Try.underlying22 k0
    cases e
    obtain ⟨n1, e, _, w1⟩ := DataW.trod_int Try.underlying22 k1
    cases e
    have i0 := nkU32_bd w0
    have i1 := nkU32_bd w1
    rcases open_rec Try.underlying23 Try.underlying131 (by kernel_rfl) (by kernel_rfl) k2 with hcs | ⟨x, ln, c, hcs, hlc, hm, _⟩
    · cases hcs
      exact ⟨n0, n1, [], none, 0, rfl, by omega, by omega, fun b hb => (by cases hb), Nat.le_refl _, by omega, .inl rfl, .inl ⟨rfl, rfl, rfl⟩⟩
    · cases hcs
      have hsp : x.spot = none := by
        simp only [Cell.okWide, Try.underlying23, Cell.ok] at hok2
        exact hok2.2.2.2.1
      obtain ⟨hrec, _⟩ := recs_open (cap := c) [isNum .u16, isNum .u16] Try.underlying23 Try.underlying131 (by kernel_rfl) (by kernel_rfl) rfl (by decide) (by
        intro q f p hq hp n v y hy
        match q, hq, hp with
        | 0, hq, hp => cases hq; cases hp; obtain ⟨a, e, _, hw⟩ := DataW.trod_int Try.underlying129 hy; cases e; exact ⟨a, rfl, hw⟩
        | 1, hq, hp => cases hq; cases hp; obtain ⟨a, e, _, hw⟩ := DataW.trod_int Try.underlying129 hy; cases e; exact ⟨a, rfl, hw⟩
        | k + 2, hq, _ => simp at hq) k2
      unfold maxLen at hm
      obtain ⟨xb, xo, xs'⟩ := x
      cases hsp
      rcases hrec with h0 | ⟨b, off, ha, _, hc⟩
      · subst h0
        exact ⟨n0, n1, [], some ⟨xb, xo, none⟩, c, rfl, by omega, by omega, fun b hb => (by cases hb), hlc, by omega, .inl rfl, .inr ⟨xb, xo, rfl⟩⟩
      · cases ha
        obtain ⟨l, hl, ho, hr⟩ := recs_pairs hc ln (Nat.le_refl _)
        subst hl
        exact ⟨n0, n1, l, some ⟨xb, xo, none⟩, c, rfl, by omega, by omega, ho, hlc, by omega, .inr ⟨xb, xo, rfl, hr⟩, .inr ⟨xb, xo, rfl⟩⟩
end Go.Proofs.Ytagimjaojpdfiaa
