/- SubflowAdverts: the walk. -/
import Derived.Test.YtjoikidnnhjogaaMSfJ
import Derived.Test.YtjoikidnnhjogaaMa
import Derived.Laws.AppendOwnNone
namespace Go.Proofs.Ytjoikidnnhjogaa
open Go.RowKit
set_option linter.unusedVariables false
theorem recs_ads {w : World} {a : Option Addr} {n : Nat} (h : Recs [isNum .i64, isBool, isNum .i64] w a n) : ∃ l : List AD, l.length = n ∧ ReadsA w a l := by
  rcases h with h | ⟨b, off, rfl, hlt, hc⟩
  · exact ⟨[], by simp [h], .inl rfl⟩
  · have hE : ∀ i, i < n → ∃ x : AD, ∀ j v, x.vals[j]? = some v → w.cell? ⟨b, off + (i * 3 + j), none⟩ = some v := by
      intro i hi
      obtain ⟨v0, h0, p, rfl, hp⟩ := hc i hi 0 _ rfl
      obtain ⟨v1, h1, u, rfl⟩ := hc i hi 1 _ rfl
      obtain ⟨v2, h2, r, rfl, hr⟩ := hc i hi 2 _ rfl
      refine ⟨⟨p, u, r⟩, fun j v hv => ?_⟩
      match j, hv with
      | 0, hv => cases hv; exact h0
      | 1, hv => cases hv; exact h1
      | 2, hv => cases hv; exact h2
      | (m + 3), hv => simp [AD.vals] at hv
    have hL : ∀ m, m ≤ n → ∃ l : List AD, l.length = m ∧ (∀ i, i < m → ∀ j v, ((l[i]?.getD zeroAD).vals)[j]? = some v → w.cell? ⟨b, off + (i * 3 + j), none⟩ = some v) := by
      intro m
      induction m with
      | zero => intro _; exact ⟨[], rfl, fun i hi => by omega⟩
      | succ m ih =>
        intro hm
        obtain ⟨l, hl, hcl⟩ := ih (by omega)
        obtain ⟨x, hxc⟩ := hE m (by omega)
        refine ⟨l ++ [x], by simp [hl], fun i hi j v hv => ?_⟩
        by_cases him : i < m
        · rw [List.getElem?_append_left (by omega)] at hv
          exact hcl i him j v hv
        · obtain rfl : i = m := by omega
          rw [List.getElem?_append_right (by omega), hl, Nat.sub_self] at hv
          exact hxc j v hv
    obtain ⟨l, hl, hcl⟩ := hL n (Nat.le_refl _)
    exact ⟨l, hl, .inr ⟨b, off, rfl, fun i hi j v hv => hcl i (by omega) j v hv⟩⟩
section
open Go.ChangeShapes Go.WideShapes Go.Deep
theorem recs_open2 {H : Type} {enc : TypeId × Value → H} {P : Program} {w : World} {base : Nat} {spare : Nat → Bool} {held : Bool} {t e : TypeId} {fs : Array Field} {fuel len cap : Nat} {pp : Option Addr} {x : DataW H × List MemPlace}
    (ps : List (Value → Prop)) (ht : P.underlying t = some (.slice e)) (he : P.underlying e = some (.struct fs)) (hone : oneCellFields P fs = true) (hC : P.cellsOf e = fs.size) (hps : ps.length = fs.size) (h0 : 0 < fs.size)
    (hF : ∀ (j : Nat) (f : Field) (p : Value → Prop), fs[j]? = some f → ps[j]? = some p → ∀ n v y, DataW.trod enc P w base spare held n f.type [v] = some y → p v)
    (h : DataW.trod enc P w base spare held fuel t [.slice pp len cap] = some x) : Recs ps w pp len ∧ len ≤ cap ∧ cap ≤ 9223372036854775807 ∧ ((pp = none ∧ len = 0 ∧ cap = 0) ∨ ∃ y, pp = some y) := by
  refine ⟨(recs_open ps ht he hone hC hps h0 hF h).1, ?_⟩
  rcases open_rec ht he hone hC h with h1 | ⟨a, l, c, hcs, hl, hm, hc⟩
  · simp at h1
    exact ⟨by omega, by omega, .inl h1⟩
  · simp only [List.cons.injEq, Value.slice.injEq, and_true] at hcs
    obtain ⟨rfl, rfl, rfl⟩ := hcs
    unfold maxLen at hm
    exact ⟨hl, by omega, .inr ⟨_, rfl⟩⟩
end
theorem ownS_store {w : World} {T : TypeId} {B g i : Nat} {e : TypeId} {m : Nat} {v u : Value} {n : Nat} {xs : List Value} {cs : Array Value} (h : w.ownsRow B e m v n xs) (hP : AtC T w g cs) (hne : T ≠ e) : (w.setCell ⟨g, i, none⟩ u).ownsRow B e m v n xs :=
  ownsRow_setCell_other h (fun x => row_neP h hP (by intro cur p q; simp at q; exact hne q.2.1) x.symm) _
theorem AtC.grown {W W' : World} {T e : TypeId} {B m n g : Nat} {v : Value} {xs : List Value} {cs : Array Value} (h : AtC T W g cs) (hv : W.ownsRow B e m v n xs) (hg : W.grownBy W' v.ownBlock) (hne : T ≠ e) : AtC T W' g cs := by
  unfold AtC
  rw [hg.block g h.lt (row_neP hv h (by intro cur q x; simp at x; exact hne x.2.1))]
  exact h
/-- 'append' of one number to a row of the call's own; what else is kept. -/
theorem app_int {ops : Array Oper} {o : Oper} {a : Act} {w : World} {rest : List Oper} {Q : Exit → Act → World → Prop} (hgd : o.guard = none) (s x : Operand)
    (ho : o.op = .call { callee := .builtin .append, args := #[s, x], argTypes := #[53, 53] })
    (B : Nat) (v : Value) (k : Nat) (xs : List Int) (u : Int)
    (hv : w.ownsRow B 3 1 v k (xs.map (Value.int .i64))) (hB : B ≤ w.heap.size) (hl : k ≤ 1000) (hs : a.eval s = v) (hx : a.eval x = .slice (some ⟨w.heap.size, 0, none⟩) 1 1)
    (h : ∀ ad c w', w'.ownsRow B 3 1 (.slice ad (k + 1) c) (k + 1) ((xs ++ [u]).map (Value.int .i64)) → (w.alloc (.cells #[.int .i64 u] 3)).ownsRow B 3 1 v k (xs.map (Value.int .i64)) → (w.alloc (.cells #[.int .i64 u] 3)).grownBy w' v.ownBlock → wpList Try.prog ops Q rest (a.put o.dst (.slice ad (k + 1) c)) w') :
    wpList Try.prog ops Q (o :: rest) a (w.alloc (.cells #[.int .i64 u] 3)) := by
  obtain ⟨i0, hi, hz0, hz1, hz2⟩ := info_parts info64r
  have hv1 := hv.alloc (.cells #[.int .i64 u] 3)
  refine wpList_append_own _ hgd s x _ ho B 3 i0 (.int .i64 0) 1 8 Try.underlying53 hi hz0 hz1 hz2 rfl (by decide) v k (xs.map (Value.int .i64)) hs hv1 ⟨w.heap.size, 0, none⟩ 1 1 [.int .i64 u] hx rfl ?_ ?_ (by unfold maxLen; omega) (by omega) (by simp; omega) ?_
  · intro j u' hj
    match j, hj with
    | 0, hj => simp at hj; subst hj; simp [Addr.add]
  · intro u' hu; simp at hu; subst hu; rfl
  · intro v' w' hown hgrow _
    obtain ⟨ad, c, rfl⟩ := own_slice hown
    exact h ad c w' (by rw [List.map_append]; exact hown) hv1 hgrow
theorem ReadsA.take {w : World} {a : Option Addr} {l : List AD} (h : ReadsA w a l) (n : Nat) : ReadsA w a (l.take n) := by
  rcases h with h | ⟨b, off, ha, hc⟩
  · exact .inl (by simp [h])
  · refine .inr ⟨b, off, ha, fun i hi j v hv => ?_⟩
    rw [List.length_take] at hi
    rw [List.getElem?_take_of_lt (by omega)] at hv
    exact hc i (by omega) j v hv
theorem asP_small (q : AS) : (asP q).body.size ≤ 1000 ∧ (asP q = zeroPC ↔ ¬ adsMay q.all) := by
  by_cases hm : adsMay q.all
  · have e : asP q = ⟨2, 211, ofL (asL q)⟩ := by unfold asP; rw [if_pos hm]
    have hl := adsMay_len _ hm
    refine ⟨?_, ?_⟩
    · rw [e]; simp only [ofL_size, asL, List.length_append, be_len, adsL_len]; omega
    · rw [e]
      refine ⟨fun h => ?_, fun h => absurd hm h⟩
      have : (211 : Int) = 0 := congrArg PC.kind h
      cases this
  · have e : asP q = zeroPC := by unfold asP; rw [if_neg hm]
    refine ⟨?_, ?_⟩
    · rw [e]; decide
    · rw [e]; exact ⟨fun _ => hm, fun _ => rfl⟩
theorem adsV_take (l : List AD) (k : Nat) (h : k < l.length) : adsV (l.take (k + 1)) = adsV (l.take k) ++ (l[k]?.getD zeroAD).vals := by
  rw [List.take_succ_eq_append_getElem h, adsV_append]
  congr 1
  show (l[k]).vals ++ [] = _
  rw [List.append_nil]
  simp [h]
namespace subflowAdverts
end subflowAdverts
end Go.Proofs.Ytjoikidnnhjogaa

