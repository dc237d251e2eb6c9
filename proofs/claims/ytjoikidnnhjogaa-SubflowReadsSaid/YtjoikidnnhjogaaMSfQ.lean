/- Lines in memory; adverts put behind others in a region that draws its order. -/
import Derived.Test.YtjoikidnnhjogaaMSfK
import Derived.Test.YtjoikidnnhjogaaMSfAdvW
namespace Go.Proofs.Ytjoikidnnhjogaa
open Go.RowKit
set_option linter.unusedVariables false
def lisV (l : List LI) : List Value := (l.map LI.vals).flatten
theorem lisV_len (l : List LI) : (lisV l).length = l.length * 8 := by
  unfold lisV
  induction l with
  | nil => rfl
  | cons p l ih => simp only [List.map_cons, List.flatten_cons, List.length_append, ih, List.length_cons]; rw [Nat.add_mul, Nat.one_mul, Nat.add_comm]; rfl
theorem lisV_at : ∀ (l : List LI) (i j : Nat) (v : Value), i < l.length → (l[i]?.getD zeroLI).vals[j]? = some v → (lisV l)[i * 8 + j]? = some v
  | [], i, j, v, h, _ => by simp at h
  | p :: l, 0, j, v, _, hv => by
    have hj : j < 8 := (List.getElem?_eq_some_iff.1 hv).1
    show (p.vals ++ lisV l)[0 * 8 + j]? = _
    rw [show 0 * 8 + j = j from by omega, List.getElem?_append_left (by show j < 8; exact hj)]
    simpa using hv
  | p :: l, i + 1, j, v, h, hv => by
    show (p.vals ++ lisV l)[(i + 1) * 8 + j]? = _
    rw [List.getElem?_append_right (by show 8 ≤ (i + 1) * 8 + j; omega), show (i + 1) * 8 + j - p.vals.length = i * 8 + j from by show (i + 1) * 8 + j - 8 = _; omega]
    exact lisV_at l i j v (by simpa using h) (by simpa using hv)
theorem own_readsL {w : World} {B : Nat} {e : TypeId} {a : Option Addr} {n c : Nat} {l : List LI} (h : w.ownsRow B e 8 (.slice a n c) n (lisV l)) : ReadsL LI.vals w a l := by
  have hn : n = l.length := by have := h.1; rw [lisV_len] at this; omega
  rcases h.2 with ⟨hv, hn0⟩ | ⟨g, cap, cur, hv, _, _, hl, hm, _, _⟩
  · exact .inl (List.length_eq_zero_iff.1 (by omega))
  · cases hv
    refine .inr ⟨g, 0, rfl, fun i hi j v' hv' => ?_⟩
    have hj : j < 8 := (List.getElem?_eq_some_iff.1 hv').1
    rw [Nat.zero_add, h.cellAt (i * 8 + j) (by omega), lisV_at l i j v' hi hv']
theorem readsL_news {w : World} {b off : Nat} {l : List LI} (hc : ∀ i, i < l.length → ∀ j v, (LI.vals (l[i]?.getD zeroLI))[j]? = some v → w.cell? ⟨b, off + (i * 8 + j), none⟩ = some v) (m : Nat) (hm : m ≤ l.length) :
    ∀ k u, (lisV (l.take m))[k]? = some u → w.cell? ⟨b, off + k, none⟩ = some u := by
  intro k u hk
  have hlt : k < (lisV (l.take m)).length := (List.getElem?_eq_some_iff.1 hk).1
  rw [lisV_len, List.length_take, Nat.min_eq_left hm] at hlt
  have hi : k / 8 < m := by omega
  have hj : k % 8 < 8 := by omega
  have hv : ∃ v, (LI.vals (l[k / 8]?.getD zeroLI))[k % 8]? = some v := ⟨_, List.getElem?_eq_getElem (by show k % 8 < 8; exact hj)⟩
  obtain ⟨v, hv⟩ := hv
  have h1 := hc (k / 8) (by omega) (k % 8) v hv
  have h2 := lisV_at (l.take m) (k / 8) (k % 8) v (by rw [List.length_take]; omega) (by rw [List.getElem?_take_of_lt hi]; exact hv)
  rw [show k / 8 * 8 + k % 8 = k from by omega] at h1 h2
  rw [h2] at hk
  rw [h1, hk]
theorem lisV_one (l : List LI) : ∀ u ∈ lisV l, u.oneCell' = true := by
  intro u hu
  unfold lisV at hu
  rw [List.mem_flatten] at hu
  obtain ⟨vs, hvs, hu⟩ := hu
  obtain ⟨b, _, rfl⟩ := List.mem_map.1 hvs
  simp [LI.vals] at hu
  rcases hu with rfl | rfl | rfl | rfl | rfl | rfl | rfl | rfl <;> rfl
theorem infoLi : (Try.prog.info? 128).map (fun i => (i.zero, i.size, i.bytes)) = some (some (.agg #[.int .i64 0, .int .i64 0, .int .i64 0, .int .u32 0, .int .u32 0, .int .u32 0, .int .u32 0, .int .u32 0]), 8, 48) := by kernel_rfl
theorem recs_lis {w : World} {a : Option Addr} {n : Nat} (h : Recs [isNum .i64, isNum .i64, isNum .i64, isNum .u32, isNum .u32, isNum .u32, isNum .u32, isNum .u32] w a n) : ∃ l : List LI, l.length = n ∧ ReadsL LI.vals w a l := by
  rcases h with h | ⟨b, off, rfl, hlt, hc⟩
  · exact ⟨[], by simp [h], .inl rfl⟩
  · have hE : ∀ i, i < n → ∃ x : LI, ∀ j v, x.vals[j]? = some v → w.cell? ⟨b, off + (i * 8 + j), none⟩ = some v := by
      intro i hi
      obtain ⟨v0, h0, p0, rfl, _⟩ := hc i hi 0 _ rfl
      obtain ⟨v1, h1, p1, rfl, _⟩ := hc i hi 1 _ rfl
      obtain ⟨v2, h2, p2, rfl, _⟩ := hc i hi 2 _ rfl
      obtain ⟨v3, h3, p3, rfl, _⟩ := hc i hi 3 _ rfl
      obtain ⟨v4, h4, p4, rfl, _⟩ := hc i hi 4 _ rfl
      obtain ⟨v5, h5, p5, rfl, _⟩ := hc i hi 5 _ rfl
      obtain ⟨v6, h6, p6, rfl, _⟩ := hc i hi 6 _ rfl
      obtain ⟨v7, h7, p7, rfl, _⟩ := hc i hi 7 _ rfl
      refine ⟨⟨p0, p1, p2, p3, p4, p5, p6, p7⟩, fun j v hv => ?_⟩
      match j, hv with
      | 0, hv => cases hv; exact h0
      | 1, hv => cases hv; exact h1
      | 2, hv => cases hv; exact h2
      | 3, hv => cases hv; exact h3
      | 4, hv => cases hv; exact h4
      | 5, hv => cases hv; exact h5
      | 6, hv => cases hv; exact h6
      | 7, hv => cases hv; exact h7
      | (m + 8), hv => simp [LI.vals] at hv
    have hL : ∀ m, m ≤ n → ∃ l : List LI, l.length = m ∧ (∀ i, i < m → ∀ j v, ((l[i]?.getD zeroLI).vals)[j]? = some v → w.cell? ⟨b, off + (i * 8 + j), none⟩ = some v) := by
      intro m
      induction m with
      | zero => intro _; exact ⟨[], rfl, fun i hi => by omega⟩
      | succ m ih =>
        intro hm
        obtain ⟨l, hl, hcl⟩ := ih (by omega)
        obtain ⟨x, hxc⟩ := hE m (by omega)
        refine ⟨l ++ [x], by simp [hl], fun i hi j v hv => ?_⟩
        by_cases him : i < m
        · rw [List.getElem?_append_left (by omega)] at hv
          exact hcl i him j v hv
        · obtain rfl : i = m := by omega
          rw [List.getElem?_append_right (by omega), hl, Nat.sub_self] at hv
          exact hxc j v hv
    obtain ⟨l, hl, hcl⟩ := hL n (Nat.le_refl _)
    exact ⟨l, hl, .inr ⟨b, off, rfl, fun i hi j v hv => hcl i (by omega) j v hv⟩⟩
section
open Go.ChangeShapes Go.WideShapes Go.Deep
theorem recs_open3 {H : Type} {enc : TypeId × Value → H} {P : Program} {w : World} {base : Nat} {spare : Nat → Bool} {held : Bool} {t e : TypeId} {fs : Array Field} {fuel : Nat} {c : Value} {x : DataW H × List MemPlace}
    (ps : List (Value → Prop)) (ht : P.underlying t = some (.slice e)) (he : P.underlying e = some (.struct fs)) (hone : oneCellFields P fs = true) (hC : P.cellsOf e = fs.size) (hps : ps.length = fs.size) (h0 : 0 < fs.size)
    (hF : ∀ (j : Nat) (f : Field) (p : Value → Prop), fs[j]? = some f → ps[j]? = some p → ∀ n v y, DataW.trod enc P w base spare held n f.type [v] = some y → p v)
    (h : DataW.trod enc P w base spare held fuel t [c] = some x) : ∃ pp len cap, c = .slice pp len cap ∧ Recs ps w pp len ∧ len ≤ cap ∧ cap ≤ 9223372036854775807 ∧ ((pp = none ∧ len = 0 ∧ cap = 0) ∨ ∃ y, pp = some y) := by
  have hc : ∃ pp len cap, c = .slice pp len cap := by
    rcases open_rec ht he hone hC h with h1 | ⟨a, l, c', hcs, _⟩
    · simp at h1; exact ⟨_, _, _, h1⟩
    · simp at hcs; exact ⟨_, _, _, hcs⟩
  obtain ⟨pp, len, cap, rfl⟩ := hc
  exact ⟨pp, len, cap, rfl, recs_open2 ps ht he hone hC hps h0 hF h⟩
end
/-- 'a.All = append(a.All, x)', the append, in a region that draws its order. -/
theorem step_adv {ops : Array Oper} {o : Oper} {a : Act} {w : World} {K : Act → World → Prop} {Q : Exit → Act → World → Prop} {E : Prop} (hgd : o.guard = none) (s x : Operand)
    (ho : o.op = .call { callee := .builtin .append, args := #[s, x], argTypes := #[37, 37] })
    (B r : Nat) (v : Value) (k : Nat) (xs : List AD) (p : AD) (c0 : Value)
    (hX : AtC 39 w r #[c0, v]) (hv : w.ownsRow B 115 3 v k (adsV xs)) (hB : B ≤ w.heap.size) (hl : k ≤ 1000) (hs : a.eval s = v) (hx : a.eval x = .slice (some ⟨w.heap.size, 0, none⟩) 1 1)
    (h : ∀ ad c w', Hid (w'.ownsRow B 115 3 (.slice ad (k + 1) c) (k + 1) (adsV (xs ++ [p])) ∧ (∀ (k : Nat) (o : Obj), w.heap[k]? = some o → (∀ cur q, o ≠ .cells cur 115 q) → w'.heap[k]? = some o) ∧ (∀ {B2 : Nat} {e2 : TypeId} {m2 : Nat} {v2 : Value} {n2 : Nat} {ys : List Value}, e2 ≠ 115 → w.ownsRow B2 e2 m2 v2 n2 ys → w'.ownsRow B2 e2 m2 v2 n2 ys) ∧ (∀ B0 w0, B0 ≤ B → Below B0 w0 w → Below B0 w0 w')) → w'.cell? ⟨r, 1, none⟩ = some v → w'.frozen? ⟨r, 1, none⟩ = false → K (a.put o.dst (.slice ad (k + 1) c)) w') :
    if Region.wanted o (yielded ops a.tmps) = true then Oper.wp Try.prog o a (w.alloc (.cells #[.int .i64 p.path, .bool p.up, .int .i64 p.rate] 115)).drew K Q else E := by
  obtain ⟨i0, hi, hz0, hz1, hz2⟩ := info_parts infoAd
  have hv1 : (w.alloc (.cells #[.int .i64 p.path, .bool p.up, .int .i64 p.rate] 115)).drew.ownsRow B 115 3 v k (adsV xs) := World.ownsRow.drew (hv.alloc (.cells #[.int .i64 p.path, .bool p.up, .int .i64 p.rate] 115))
  refine step_append_own hgd s x _ ho B 115 i0 _ 3 24 Try.underlying37 hi hz0 hz1 hz2 rfl (by decide) v k (adsV xs) hs hv1 ⟨w.heap.size, 0, none⟩ 1 1 p.vals hx rfl ?_ ?_ (by unfold maxLen; omega) (by omega) (by show B ≤ (w.alloc _).heap.size; simp; omega) ?_
  · intro j u hj
    rw [addr_add, cell_of_row _ w.heap.size j _ 115 (0, 0) (heap_at_drew (heap_alloc_new w _)), ← Array.getElem?_toList]
    exact hj
  · intro u hu
    unfold AD.vals at hu
    simp only [List.mem_cons, List.not_mem_nil, or_false] at hu
    rcases hu with rfl | rfl | rfl <;> rfl
  · intro v' w' hown hgrow _
    obtain ⟨ad, c, rfl⟩ : ∃ ad c, v' = .slice ad (k + 1) c := by
      rcases hown.2 with ⟨_, h0⟩ | ⟨g, cap, cur, rfl, _⟩
      · omega
      · exact ⟨_, _, rfl⟩
    have hk : ∀ (k : Nat) (o : Obj), w.heap[k]? = some o → (∀ cur q, o ≠ .cells cur 115 q) → w'.heap[k]? = some o := fun k o hk hn => by
      rw [hgrow.block k (by have := lt_of_block hk; show k < (w.alloc _).heap.size; simp; omega) (row_neP hv hk hn)]
      exact heap_at_drew (heap_at_old _ _ _ _ hk)
    have hX2 : AtC 39 w' r #[c0, v] := hk _ _ hX (by intro cur q e; cases e)
    obtain ⟨_, q1⟩ := hX2.cells2
    refine h ad c w' (Lib.hid ⟨?_, hk, fun hne h2 => (World.ownsRow.drew (h2.alloc _)).kept hgrow (own_apart hv1 (World.ownsRow.drew (h2.alloc _)) hne), fun B0 w0 h0 hb => ?_⟩) q1 (hX2.free 1)
    · have e : adsV (xs ++ [p]) = adsV xs ++ p.vals := by rw [adsV_append]; show adsV xs ++ (p.vals ++ []) = _; rw [List.append_nil]
      rw [e]
      exact hown
    · exact ((hb.alloc (by omega) _).drew).grown hgrow (by show B0 ≤ (w.alloc _).heap.size; simp; omega) (fun k hk => Nat.le_trans h0 (hv1.lt k hk).1)
end Go.Proofs.Ytjoikidnnhjogaa

