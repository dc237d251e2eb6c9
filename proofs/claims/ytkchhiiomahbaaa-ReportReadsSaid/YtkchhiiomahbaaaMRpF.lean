/- A report that came in, opened. -/
import Derived.Test.YtkchhiiomahbaaaMRpA
import Derived.Test.YtkchhiiomahbaaaMa
import Derived.Test.YtkchhiiomahbaaaMc
namespace Go.Proofs.Ytkchhiiomahbaaa
open Go.ChangeShapes Go.WideShapes Go.ChangeAt Go.RowKit Go.Joins
open Go.ChangeMaps (open_string shut_string)
set_option linter.unusedVariables false
theorem cellsRp : Try.prog.cellsOf 31 = 7 := by kernel_rfl
theorem cellsSn : Try.prog.cellsOf 28 = 4 := by kernel_rfl
theorem cellsU32 : Try.prog.cellsOf 26 = 1 := by kernel_rfl
theorem cellsBool : Try.prog.cellsOf 4 = 1 := by kernel_rfl
theorem cellsBl : Try.prog.cellsOf 29 = 1 := by kernel_rfl
theorem typesRp : Try.prog.cellTypes Try.prog.depth 31 = some [26, 4, 3, 26, 26, 26, 29] := by kernel_rfl
/-- A number of 64 bits. -/
def i64ok (x : Int) : Prop := -9223372036854775808 ≤ x ∧ x ≤ 9223372036854775807
def BK.wide (b : BK) : Prop := i64ok b.frac ∧ i64ok b.lost
theorem i64_bd {a : Int} (h : (Lit.int .i64 a).wf = true) : i64ok a := by
  simp [Lit.wf, IntKind.min, IntKind.max, IntKind.bits, IntKind.signed] at h; exact h
/-- The blocks of a slice that came in. -/
theorem recs_blocks {w : World} {b off n : Nat} (hc : ∀ i, i < n → ∀ j p, ([isNum .u32, isNum .i64, isNum .i64, isNum .u32, isNum .u32, isNum .u32, isNum .u32] : List (Value → Prop))[j]? = some p → ∃ v, w.cell? ⟨b, off + (i * 7 + j), none⟩ = some v ∧ p v) :
    ∀ m, m ≤ n → ∃ l : List BK, l.length = m ∧ (∀ q ∈ l, q.ok ∧ q.wide) ∧ ∀ i, i < m → ∀ j v, (BK.vals (l[i]?.getD zeroBK))[j]? = some v → w.cell? ⟨b, off + (i * 7 + j), none⟩ = some v
  | 0, _ => ⟨[], rfl, fun q hq => (by cases hq), fun i hi => absurd hi (Nat.not_lt_zero i)⟩
  | m + 1, hm => by
    obtain ⟨l, hl, ho, hr⟩ := recs_blocks hc m (by omega)
    obtain ⟨_, h0, a0, rfl, q0⟩ := hc m (by omega) 0 _ rfl
    obtain ⟨_, h1, a1, rfl, q1⟩ := hc m (by omega) 1 _ rfl
    obtain ⟨_, h2, a2, rfl, q2⟩ := hc m (by omega) 2 _ rfl
    obtain ⟨_, h3, a3, rfl, q3⟩ := hc m (by omega) 3 _ rfl
    obtain ⟨_, h4, a4, rfl, q4⟩ := hc m (by omega) 4 _ rfl
    obtain ⟨_, h5, a5, rfl, q5⟩ := hc m (by omega) 5 _ rfl
    obtain ⟨_, h6, a6, rfl, q6⟩ := hc m (by omega) 6 _ rfl
    refine ⟨l ++ [⟨a0, a1, a2, a3, a4, a5, a6⟩], by simp [hl], ?_, ?_⟩
    · intro q hq
      rcases List.mem_append.1 hq with hq | hq
      · exact ho q hq
      · rw [List.mem_singleton] at hq
        subst hq
        exact ⟨⟨u32_bd q0, u32_bd q3, u32_bd q4, u32_bd q5, u32_bd q6⟩, i64_bd q1, i64_bd q2⟩
    · intro i hi j v hv
      by_cases him : i < m
      · rw [List.getElem?_append_left (by omega)] at hv
        exact hr i him j v hv
      · obtain rfl : i = m := by omega
        rw [List.getElem?_append_right (by omega), hl, Nat.sub_self] at hv
        match j, hv with
        | 0, hv => cases hv; exact h0
        | 1, hv => cases hv; exact h1
        | 2, hv => cases hv; exact h2
        | 3, hv => cases hv; exact h3
        | 4, hv => cases hv; exact h4
        | 5, hv => cases hv; exact h5
        | 6, hv => cases hv; exact h6
        | k + 7, hv => simp [BK.vals] at hv
set_option maxRecDepth 100000 in
set_option maxHeartbeats 3200000 in
theorem rp_open {H : Type} {enc : TypeId × Value → H} {w : World} {base : Nat} {held : Bool} {v : Value} {d : DataW H} {pl : List MemPlace}
    (hv : Value.okWide Try.prog w .any 0 31 v) (h : DataW.Trod enc Try.prog w base (fun _ => true) held 31 v d pl) :
    ∃ (q : RP) (a : Option Addr) (c : Nat), v = .agg (q.cells a c) ∧ q.ok ∧ i64ok q.clock ∧ (∀ b ∈ q.blocks, b.wide) ∧ q.blocks.length ≤ c ∧ c ≤ 9223372036854775807 ∧ ReadsB BK.vals w a q.blocks ∧ ((a = none ∧ q.blocks.length = 0 ∧ c = 0) ∨ ∃ b off, a = some ⟨b, off, none⟩) := by
  simp only [Value.okWide, Try.underlying31] at hv
  obtain ⟨⟨l⟩, rfl, hsz, ts, hts, _, hrow⟩ := hv
  rw [cellsRp] at hsz
  rw [typesRp] at hts
  cases hts
  obtain ⟨fuel, hf⟩ := h
  obtain ⟨xs, m, _, _, _, hl, hx⟩ := DataW.trod_struct Try.underlying31 hf
  clear hf
  match l, hsz, hrow with
  | [c0, c1, c2, c3, c4, c5, c6], _, hrow =>
    obtain ⟨u6, hu6, hok6⟩ := hrow 6 c6 rfl
    cases hu6
    have g := fun i (hi : i < xs.length) => some_of_lt hi
    simp only [List.size_toArray, List.length_cons, List.length_nil] at hl
    obtain ⟨z0, e0⟩ := g 0 (by omega)
    obtain ⟨z1, e1⟩ := g 1 (by omega)
    obtain ⟨z2, e2⟩ := g 2 (by omega)
    obtain ⟨z3, e3⟩ := g 3 (by omega)
    have k0 := (hx 0 _ rfl).trans e0
    have k1 := (hx 1 _ rfl).trans e1
    have k2 := (hx 2 _ rfl).trans e2
    have k3 := (hx 3 _ rfl).trans e3
    simp only [Value.cells, cellsU32, cellsBool, cellsSn, cellsBl, List.getElem_toArray, List.getElem_cons_zero, List.getElem_cons_succ, List.drop_succ_cons, List.drop_zero, List.take_succ_cons, List.take_zero] at k0 k1 k2 k3
    obtain ⟨n0, e, _, w0⟩ := DataW.trod_int Try.underlying26 k0
    cases e
    obtain ⟨b1, e, _⟩ := DataW.trod_bool Try.underlying4 k1
    cases e
    obtain ⟨ys, m2, _, _, _, hl2, hy⟩ := DataW.trod_struct Try.underlying28 k2
    have g2 := fun i (hi : i < ys.length) => some_of_lt hi
    simp only [List.size_toArray, List.length_cons, List.length_nil] at hl2
    obtain ⟨y0, f0⟩ := g2 0 (by omega)
    obtain ⟨y1, f1⟩ := g2 1 (by omega)
    obtain ⟨y2, f2⟩ := g2 2 (by omega)
    obtain ⟨y3, f3⟩ := g2 3 (by omega)
    have j0 := (hy 0 _ rfl).trans f0
    have j1 := (hy 1 _ rfl).trans f1
    have j2 := (hy 2 _ rfl).trans f2
    have j3 := (hy 3 _ rfl).trans f3
    simp only [cellsU32, cellsInt, List.getElem_toArray, List.getElem_cons_zero, List.getElem_cons_succ, List.drop_succ_cons, List.drop_zero, List.take_succ_cons, List.take_zero] at j0 j1 j2 j3
    obtain ⟨n2, e, _, w2⟩ := DataW.trod_int Try.underlying3 j0
    cases e
    obtain ⟨n3, e, _, w3⟩ := DataW.trod_int Try.underlying26 j1
    cases e
    obtain ⟨n4, e, _, w4⟩ := DataW.trod_int Try.underlying26 j2
    cases e
    obtain ⟨n5, e, _, w5⟩ := DataW.trod_int Try.underlying26 j3
    cases e
    have i0 := u32_bd w0
    have i2 := i64_bd w2
    have i3 := u32_bd w3
    have i4 := u32_bd w4
    have i5 := u32_bd w5
    rcases open_rec Try.underlying29 Try.underlying122 (by kernel_rfl) (by kernel_rfl) k3 with hcs | ⟨x, ln, c, hcs, hlc, hm, _⟩
    · cases hcs
      exact ⟨⟨n0, b1, n2, n3, n4, n5, []⟩, none, 0, rfl, ⟨i0, i3, i4, i5, fun b hb => (by cases hb)⟩, i2, fun b hb => (by cases hb), Nat.le_refl _, by omega, .inl rfl, .inl ⟨rfl, rfl, rfl⟩⟩
    · cases hcs
      have hsp : x.spot = none := by
        simp only [Cell.okWide, Try.underlying29, Cell.ok] at hok6
        exact hok6.2.2.2.1
      obtain ⟨hrec, _⟩ := recs_open (cap := c) [isNum .u32, isNum .i64, isNum .i64, isNum .u32, isNum .u32, isNum .u32, isNum .u32] Try.underlying29 Try.underlying122 (by kernel_rfl) (by kernel_rfl) rfl (by decide) (by
        intro q f p hq hp n v y hy
        match q, hq, hp with
        | 0, hq, hp => cases hq; cases hp; obtain ⟨a, e, _, hw⟩ := DataW.trod_int Try.underlying26 hy; cases e; exact ⟨a, rfl, hw⟩
        | 1, hq, hp => cases hq; cases hp; obtain ⟨a, e, _, hw⟩ := DataW.trod_int Try.underlying3 hy; cases e; exact ⟨a, rfl, hw⟩
        | 2, hq, hp => cases hq; cases hp; obtain ⟨a, e, _, hw⟩ := DataW.trod_int Try.underlying3 hy; cases e; exact ⟨a, rfl, hw⟩
        | 3, hq, hp => cases hq; cases hp; obtain ⟨a, e, _, hw⟩ := DataW.trod_int Try.underlying26 hy; cases e; exact ⟨a, rfl, hw⟩
        | 4, hq, hp => cases hq; cases hp; obtain ⟨a, e, _, hw⟩ := DataW.trod_int Try.underlying26 hy; cases e; exact ⟨a, rfl, hw⟩
        | 5, hq, hp => cases hq; cases hp; obtain ⟨a, e, _, hw⟩ := DataW.trod_int Try.underlying26 hy; cases e; exact ⟨a, rfl, hw⟩
        | 6, hq, hp => cases hq; cases hp; obtain ⟨a, e, _, hw⟩ := DataW.trod_int Try.underlying26 hy; cases e; exact ⟨a, rfl, hw⟩
        | k + 7, hq, _ => simp at hq) k3
      unfold maxLen at hm
      obtain ⟨xb, xo, xs'⟩ := x
      cases hsp
      rcases hrec with h0 | ⟨b, off, ha, _, hc⟩
      · subst h0
        exact ⟨⟨n0, b1, n2, n3, n4, n5, []⟩, some ⟨xb, xo, none⟩, c, rfl, ⟨i0, i3, i4, i5, fun b hb => (by cases hb)⟩, i2, fun b hb => (by cases hb), hlc, by omega, .inl rfl, .inr ⟨xb, xo, rfl⟩⟩
      · cases ha
        obtain ⟨l, hl, ho, hr⟩ := recs_blocks hc ln (Nat.le_refl _)
        subst hl
        exact ⟨⟨n0, b1, n2, n3, n4, n5, l⟩, some ⟨xb, xo, none⟩, c, rfl, ⟨i0, i3, i4, i5, fun q hq => (ho q hq).1⟩, i2, fun q hq => (ho q hq).2, hlc, by omega, .inr ⟨xb, xo, rfl, hr⟩, .inr ⟨xb, xo, rfl⟩⟩
/-- Cells of blocks, one behind the other. -/
def bksV (l : List BK) : List Value := (l.map BK.vals).flatten
theorem bksV_len (l : List BK) : (bksV l).length = l.length * 7 := by
  unfold bksV
  induction l with
  | nil => rfl
  | cons p l ih => simp only [List.map_cons, List.flatten_cons, List.length_append, ih, List.length_cons]; rw [Nat.add_mul, Nat.one_mul, Nat.add_comm]; rfl
theorem bksV_at : ∀ (l : List BK) (i j : Nat) (v : Value), i < l.length → (l[i]?.getD zeroBK).vals[j]? = some v → (bksV l)[i * 7 + j]? = some v
  | [], i, j, v, h, _ => by simp at h
  | p :: l, 0, j, v, _, hv => by
    have hj : j < 7 := (List.getElem?_eq_some_iff.1 hv).1
    show (p.vals ++ bksV l)[0 * 7 + j]? = _
    rw [show 0 * 7 + j = j from by omega, List.getElem?_append_left (by show j < 7; exact hj)]
    simpa using hv
  | p :: l, i + 1, j, v, h, hv => by
    show (p.vals ++ bksV l)[(i + 1) * 7 + j]? = _
    rw [List.getElem?_append_right (by show 7 ≤ (i + 1) * 7 + j; omega), show (i + 1) * 7 + j - p.vals.length = i * 7 + j from by show (i + 1) * 7 + j - 7 = _; omega]
    exact bksV_at l i j v (by simpa using h) (by simpa using hv)
theorem own_readsB {w : World} {B : Nat} {e : TypeId} {v : Value} {n : Nat} {l : List BK} (h : w.ownsRow B e 7 v n (bksV l)) :
    ∃ a c, v = .slice a n c ∧ n = l.length ∧ n ≤ c ∧ c ≤ 9223372036854775807 ∧ ReadsB BK.vals w a l := by
  have hn : n = l.length := by have := h.1; rw [bksV_len] at this; omega
  rcases h.2 with ⟨hv, hn0⟩ | ⟨g, cap, cur, hv, _, _, hl, hm, _, _⟩
  · refine ⟨none, 0, by rw [hv, hn0], hn, by omega, by omega, Or.inl ?_⟩
    exact List.length_eq_zero_iff.1 (by omega)
  · refine ⟨some ⟨g, 0, none⟩, cap, hv, hn, hl, by unfold maxLen at hm; omega, Or.inr ⟨g, 0, rfl, fun i hi j v' hv' => ?_⟩⟩
    subst hv
    have hj : j < 7 := (List.getElem?_eq_some_iff.1 hv').1
    rw [Nat.zero_add, h.cellAt (i * 7 + j) (by omega), bksV_at l i j v' hi hv']
/-- The cells of the first blocks. -/
theorem readsB_news {w : World} {b off : Nat} {l : List BK} (hc : ∀ i, i < l.length → ∀ j v, (BK.vals (l[i]?.getD zeroBK))[j]? = some v → w.cell? ⟨b, off + (i * 7 + j), none⟩ = some v) (m : Nat) (hm : m ≤ l.length) :
    ∀ k u, (bksV (l.take m))[k]? = some u → w.cell? ⟨b, off + k, none⟩ = some u := by
  intro k u hk
  have hlt : k < (bksV (l.take m)).length := (List.getElem?_eq_some_iff.1 hk).1
  rw [bksV_len, List.length_take, Nat.min_eq_left hm] at hlt
  have hi : k / 7 < m := by omega
  have hj : k % 7 < 7 := by omega
  have hv : ∃ v, (BK.vals (l[k / 7]?.getD zeroBK))[k % 7]? = some v := ⟨_, List.getElem?_eq_getElem (by show k % 7 < 7; exact hj)⟩
  obtain ⟨v, hv⟩ := hv
  have h1 := hc (k / 7) (by omega) (k % 7) v hv
  have h2 := bksV_at (l.take m) (k / 7) (k % 7) v (by rw [List.length_take]; omega) (by rw [List.getElem?_take_of_lt hi]; exact hv)
  rw [show k / 7 * 7 + k % 7 = k from by omega] at h1 h2
  rw [h2] at hk
  rw [h1, hk]
theorem bksV_one (l : List BK) : ∀ u ∈ bksV l, u.oneCell' = true := by
  intro u hu
  unfold bksV at hu
  rw [List.mem_flatten] at hu
  obtain ⟨vs, hvs, hu⟩ := hu
  obtain ⟨b, _, rfl⟩ := List.mem_map.1 hvs
  simp [BK.vals] at hu
  rcases hu with rfl | rfl | rfl | rfl | rfl | rfl | rfl <;> rfl
theorem infoBk : (Try.prog.info? 122).map (fun i => (i.zero, i.size, i.bytes)) = some (some (.agg #[.int .u32 0, .int .i64 0, .int .i64 0, .int .u32 0, .int .u32 0, .int .u32 0, .int .u32 0]), 7, 40) := by kernel_rfl
end Go.Proofs.Ytkchhiiomahbaaa

