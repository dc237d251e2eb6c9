/- net: get, room. -/
import Derived.Test.YtbmbomojnljccaaNeB
import Derived.Test.YtbmbomojnljccaaOrdM
namespace Go.Proofs.Ytbmbomojnljccaa
open Go.RowKit Go.Maps
set_option linter.unusedVariables false
set_option linter.unusedSimpArgs false
theorem ne_skip {P : Program} {Q : Exit → Act → World → Prop} {md : Region.Mode} {S : World → Prop} {L : Nat → Bool} {l : List Oper} (i : Nat) {oi : Oper} {fuel : Nat} {listed : Array Bool} {a : Act} {w : World} (hi : l[i]? = some oi)
    (hs : Region.noSelect l.toArray = true) (hf : Region.free md l.toArray listed i = true) (hr : (Region.ready md l.toArray listed).contains i = true) (hw : allWait md l L i = true)
    (hQ : ∀ c a w, Q (.panic c) (a.put oi.dst undef) w → Q (.panic c) a w) (hg : Region.wanted oi (yielded l.toArray a.tmps) = false) (hS : S w)
    (h : wpAnyM P md l.toArray Q S L fuel (listed.setIfInBounds i true) (a.put oi.dst undef) w) : wpAnyM P md l.toArray Q S L (fuel + 1) listed a w :=
  wpAnyM_first (by simpa using hi) (Region.noSelect_spec hs) hQ (allWait_spec hw) fuel listed a w (Region.free_spec (by simpa using hi) hf) (by simpa using hr) (.inr ⟨hg, rfl⟩) hS h
/-- The i-th one. -/
def neAt (l : List ByteArray) (i : Int) : Option ByteArray := if 0 ≤ i then l[i.toNat]? else none
theorem neAt_some {l : List ByteArray} {i : Int} {s : ByteArray} (h : neAt l i = some s) : ∃ k : Nat, i = k ∧ k < l.length ∧ l[k]? = some s := by
  unfold neAt at h
  split at h
  · refine ⟨i.toNat, by omega, (List.getElem?_eq_some_iff.1 h).1, h⟩
  · cases h
theorem neAt_none {l : List ByteArray} {i : Int} (h : neAt l i = none) : i < 0 ∨ (l.length : Int) ≤ i := by
  unfold neAt at h
  split at h
  · have := List.getElem?_eq_none_iff.1 h
    omega
  · omega
section
variable {w : World} {base gn n : Nat} {x : NE}
theorem NIn.rowAt (h : NIn w base gn n x) (a p : Int) {k : Nat} {s : ByteArray} (hs : (x.G a p)[k]? = some s) : ∃ g off cap, x.V a p = .slice (some ⟨g, off, none⟩) (x.G a p).length cap ∧ (x.G a p).length ≤ cap ∧ cap ≤ maxLen ∧ w.cell? ⟨g, off + k, none⟩ = some (.string s) ∧ w.frozen? ⟨g, off + k, none⟩ = false := by
  have hlt := (List.getElem?_eq_some_iff.1 hs).1
  obtain ⟨g, off, cap, hv, h1, h2, _, _, hc⟩ := (h.own a p).row (by omega)
  obtain ⟨q1, q2⟩ := hc k (.string s) (by unfold neV; rw [List.getElem?_map, hs]; rfl)
  exact ⟨g, off, cap, hv, h1, h2, q1, q2⟩
set_option maxHeartbeats 1600000 in
theorem neGet_any (h : NIn w base gn n x) {a p : Int} (hk : wf2 a p) (i : Int) : Calls Try.prog 36 #[.pointer (some ⟨gn, 0, none⟩), .agg #[.int .i64 a, .int .i64 p], .int .i64 i] w fun e w' => e = .returned (.tuple #[.string ((neAt (x.G a p) i).getD (⟨#[]⟩ : ByteArray)), .bool (neAt (x.G a p) i).isSome]) ∧ Below w.heap.size w w' := by
  have hX := atQ_new 73 w w.heap.size #[.int .i64 a, .int .i64 p] rfl
  have hb : Below w.heap.size w (w.alloc (.cells #[.int .i64 a, .int .i64 p] 73)) := (Below.refl _ _).alloc (Nat.le_refl _) _
  have h2 := h.later hb
  go_enter Try.func36, Try.ntmps36
  go_upto_region 1 with fail
  generalize (w.alloc (.cells #[.int .i64 a, .int .i64 p] 73)) = w2 at hX hb h2 ⊢
  generalize hg0 : w.heap.size = g0 at hX hb ⊢
  have HG := Lib.hid hg0
  clear hg0 h
  obtain ⟨_, _⟩ := hX.cells2
  obtain ⟨_, _, _, _, _, _, _, _, _⟩ := h2.cells
  have hlk := h2.look hk
  have hlkd := h2.drew.look hk
  have hln := h2.ln a p
  cases hi : neAt (x.G a p) i with
  | none =>
    have hi2 := neAt_none hi
    obtain ⟨va, vc, hv⟩ := (h2.own a p).formG
    rw [hv] at hlk hlkd
    generalize (x.G a p).length = N at *
    have hS3 := And.intro h2.drew.cells.2.2.1 (And.intro hX.drew.cells2.1 (And.intro hX.drew.cells2.2 hlkd))
    refine wp_region_noPanic ?_
    refine ordM_begin (fun W : World => W.cell? ⟨gn, 2, none⟩ = some (.map x.mp) ∧ W.cell? ⟨g0, 0, none⟩ = some (.int .i64 a) ∧ W.cell? ⟨g0, 1, none⟩ = some (.int .i64 p) ∧ (Instr.lookup 60 (.map x.mp) (.agg #[.int .i64 a, .int .i64 p]) false).run Try.prog W = .ok (.slice va N vc) W) (fun i => false) (by kernel_rfl) hS3 ?_
    refine ordM_take 0 ?vq1 rfl (by kernel_rfl) (by kernel_rfl) (by kernel_rfl) (by kernel_rfl) (fun _ _ _ h => h) (by rfl) ?hq1 (by assumption) ?rq1
    case hq1 => (intro W hSw; (try dsimp only at hSw); go_simp <;> with_reducible rfl)
    (try simp only [Act.put, List.setIfInBounds_toArray, List.set_cons_zero, List.set_cons_succ])
    refine ordM_take 1 ?vq2 rfl (by kernel_rfl) (by kernel_rfl) (by kernel_rfl) (by kernel_rfl) (fun _ _ _ h => h) (by rfl) ?hq2 (by assumption) ?rq2
    case hq2 => (intro W hSw; (try dsimp only at hSw); go_simp <;> with_reducible rfl)
    (try simp only [Act.put, List.setIfInBounds_toArray, List.set_cons_zero, List.set_cons_succ])
    refine ordM_take 2 ?vq3 rfl (by kernel_rfl) (by kernel_rfl) (by kernel_rfl) (by kernel_rfl) (fun _ _ _ h => h) (by rfl) ?hq3 (by assumption) ?rq3
    case hq3 => (intro W hSw; (try dsimp only at hSw); go_simp <;> with_reducible rfl)
    (try simp only [Act.put, List.setIfInBounds_toArray, List.set_cons_zero, List.set_cons_succ])
    refine ordM_take 3 ?vq4 rfl (by kernel_rfl) (by kernel_rfl) (by kernel_rfl) (by kernel_rfl) (fun _ _ _ h => h) (by rfl) ?hq4 (by assumption) ?rq4
    case hq4 => (intro W hSw; (try dsimp only at hSw); go_simp <;> with_reducible rfl)
    (try simp only [Act.put, List.setIfInBounds_toArray, List.set_cons_zero, List.set_cons_succ])
    refine ordM_take 4 ?vq5 rfl (by kernel_rfl) (by kernel_rfl) (by kernel_rfl) (by kernel_rfl) (fun _ _ _ h => h) (by rfl) ?hq5 (by assumption) ?rq5
    case hq5 => (intro W hSw; (try dsimp only at hSw); go_simp <;> with_reducible rfl)
    (try simp only [Act.put, List.setIfInBounds_toArray, List.set_cons_zero, List.set_cons_succ])
    refine ordM_take 5 ?vq6 rfl (by kernel_rfl) (by kernel_rfl) (by kernel_rfl) (by kernel_rfl) (fun _ _ _ h => h) (by rfl) ?hq6 (by assumption) ?rq6
    case hq6 => (intro W hSw; (try dsimp only at hSw); go_simp <;> with_reducible rfl)
    (try simp only [Act.put, List.setIfInBounds_toArray, List.set_cons_zero, List.set_cons_succ])
    refine ordM_take 6 ?vq7 rfl (by kernel_rfl) (by kernel_rfl) (by kernel_rfl) (by kernel_rfl) (fun _ _ _ h => h) (by rfl) ?hq7 (by assumption) ?rq7
    case hq7 => (intro W hSw; (try dsimp only at hSw); go_simp <;> with_reducible rfl)
    (try simp only [Act.put, List.setIfInBounds_toArray, List.set_cons_zero, List.set_cons_succ])
    refine ordM_done (by kernel_rfl) ?_ _
    refine NoPanic.normal ?_
    rcases (show i < 0 ∨ 0 ≤ i by omega) with hneg | hpos
    · go_wp2_with fail
      go_ret2
      exact ⟨by rw [hi]; rfl, by rw [HG.out]; exact hb.drew⟩
    · have hge : (N : Int) ≤ i := by omega
      go_wp2_with fail
      go_ret2
      exact ⟨by rw [hi]; rfl, by rw [HG.out]; exact hb.drew⟩
  | some s =>
    obtain ⟨k, rfl, hkl, hs⟩ := neAt_some hi
    obtain ⟨gr, off, cap, hv, h1, h3, hc, _⟩ := h2.rowAt a p hs
    rw [hv] at hlk hlkd
    generalize (x.G a p).length = N at *
    have k0 : (0 : Int) ≤ (k : Int) := by omega
    have k1 : (k : Int) < (N : Int) := by omega
    have hS3 := And.intro h2.drew.cells.2.2.1 (And.intro hX.drew.cells2.1 (And.intro hX.drew.cells2.2 hlkd))
    refine wp_region_noPanic ?_
    refine ordM_begin (fun W : World => W.cell? ⟨gn, 2, none⟩ = some (.map x.mp) ∧ W.cell? ⟨g0, 0, none⟩ = some (.int .i64 a) ∧ W.cell? ⟨g0, 1, none⟩ = some (.int .i64 p) ∧ (Instr.lookup 60 (.map x.mp) (.agg #[.int .i64 a, .int .i64 p]) false).run Try.prog W = .ok (.slice (some ⟨gr, off, none⟩) N cap) W) (fun i => false) (by kernel_rfl) hS3 ?_
    refine ordM_take 0 ?vq8 rfl (by kernel_rfl) (by kernel_rfl) (by kernel_rfl) (by kernel_rfl) (fun _ _ _ h => h) (by rfl) ?hq8 (by assumption) ?rq8
    case hq8 => (intro W hSw; (try dsimp only at hSw); go_simp <;> with_reducible rfl)
    (try simp only [Act.put, List.setIfInBounds_toArray, List.set_cons_zero, List.set_cons_succ])
    refine ordM_take 1 ?vq9 rfl (by kernel_rfl) (by kernel_rfl) (by kernel_rfl) (by kernel_rfl) (fun _ _ _ h => h) (by rfl) ?hq9 (by assumption) ?rq9
    case hq9 => (intro W hSw; (try dsimp only at hSw); go_simp <;> with_reducible rfl)
    (try simp only [Act.put, List.setIfInBounds_toArray, List.set_cons_zero, List.set_cons_succ])
    refine ordM_take 2 ?vq10 rfl (by kernel_rfl) (by kernel_rfl) (by kernel_rfl) (by kernel_rfl) (fun _ _ _ h => h) (by rfl) ?hq10 (by assumption) ?rq10
    case hq10 => (intro W hSw; (try dsimp only at hSw); go_simp <;> with_reducible rfl)
    (try simp only [Act.put, List.setIfInBounds_toArray, List.set_cons_zero, List.set_cons_succ])
    refine ordM_take 3 ?vq11 rfl (by kernel_rfl) (by kernel_rfl) (by kernel_rfl) (by kernel_rfl) (fun _ _ _ h => h) (by rfl) ?hq11 (by assumption) ?rq11
    case hq11 => (intro W hSw; (try dsimp only at hSw); go_simp <;> with_reducible rfl)
    (try simp only [Act.put, List.setIfInBounds_toArray, List.set_cons_zero, List.set_cons_succ])
    refine ordM_take 4 ?vq12 rfl (by kernel_rfl) (by kernel_rfl) (by kernel_rfl) (by kernel_rfl) (fun _ _ _ h => h) (by rfl) ?hq12 (by assumption) ?rq12
    case hq12 => (intro W hSw; (try dsimp only at hSw); go_simp <;> with_reducible rfl)
    (try simp only [Act.put, List.setIfInBounds_toArray, List.set_cons_zero, List.set_cons_succ])
    refine ordM_take 5 ?vq13 rfl (by kernel_rfl) (by kernel_rfl) (by kernel_rfl) (by kernel_rfl) (fun _ _ _ h => h) (by rfl) ?hq13 (by assumption) ?rq13
    case hq13 => (intro W hSw; (try dsimp only at hSw); go_simp <;> with_reducible rfl)
    (try simp only [Act.put, List.setIfInBounds_toArray, List.set_cons_zero, List.set_cons_succ])
    refine ordM_take 6 ?vq14 rfl (by kernel_rfl) (by kernel_rfl) (by kernel_rfl) (by kernel_rfl) (fun _ _ _ h => h) (by rfl) ?hq14 (by assumption) ?rq14
    case hq14 => (intro W hSw; (try dsimp only at hSw); go_simp <;> with_reducible rfl)
    (try simp only [Act.put, List.setIfInBounds_toArray, List.set_cons_zero, List.set_cons_succ])
    refine ordM_done (by kernel_rfl) ?_ _
    refine NoPanic.normal ?_
    go_wp2_with fail
    go_ret2
    exact ⟨by rw [hi]; rfl, by rw [HG.out]; exact hb.drew⟩
/-- How many bytes. -/
def neSum (l : List ByteArray) : Nat := (l.map ByteArray.size).sum
theorem neSum_snoc (l : List ByteArray) (s : ByteArray) : neSum (l ++ [s]) = neSum l + s.size := by simp [neSum]
theorem neSum_le {l : List ByteArray} (h : ∀ s ∈ l, s.size ≤ 1500) : neSum l ≤ 1500 * l.length := by
  induction l with
  | nil => simp [neSum]
  | cons s l ih =>
    have e : neSum (s :: l) = s.size + neSum l := by simp [neSum]
    have h1 := h s List.mem_cons_self
    have h2 := ih (fun t ht => h t (List.mem_cons_of_mem _ ht))
    rw [e, List.length_cons]
    omega
/-- There is room for one more. -/
def neRoom (x : NE) (a p : Int) (s : ByteArray) : Bool := decide (((x.G a p).length : Int) < am 1 x.m 1024) && decide ((s.size : Int) + neSum (x.G a p) ≤ am 1 x.b 16777216)
set_option maxRecDepth 100000 in
set_option maxHeartbeats 1600000 in
theorem neRoom_any (h : NIn w base gn n x) {a p : Int} (hk : wf2 a p) (s : ByteArray) (hs : s.size ≤ 4611686018427387904) : Calls Try.prog 37 #[.pointer (some ⟨gn, 0, none⟩), .agg #[.int .i64 a, .int .i64 p], .string s] w fun e w' => e = .returned (.bool (neRoom x a p s)) ∧ Below w.heap.size w w' := by
  have HCL := Lib.hid (fun W => neClip_any x.m x.b W)
  have hX := atQ_new 73 w w.heap.size #[.int .i64 a, .int .i64 p] rfl
  have hb : Below w.heap.size w (w.alloc (.cells #[.int .i64 a, .int .i64 p] 73)) := (Below.refl _ _).alloc (Nat.le_refl _) _
  have h2 := h.later hb
  go_enter Try.func37, Try.ntmps37
  go_upto_region 2 with fail
  generalize (w.alloc (.cells #[.int .i64 a, .int .i64 p] 73)) = w2 at hX hb h2 ⊢
  generalize hg0 : w.heap.size = g0 at hX hb ⊢
  have HG := Lib.hid hg0
  clear hg0 h
  obtain ⟨_, _⟩ := hX.cells2
  obtain ⟨_, _, _, _, _, _, _, _, _⟩ := h2.cells
  have hlk := h2.look hk
  have hlkd := h2.drew.look hk
  have hln := h2.ln a p
  have htx := neSum_le (h2.tx a p)
  obtain ⟨va, vc, hv⟩ := (h2.own a p).formG
  rw [hv] at hlk hlkd
  have hS3 := And.intro h2.drew.cells.2.2.1 (And.intro hX.drew.cells2.1 (And.intro hX.drew.cells2.2 hlkd))
  refine wp_region_noPanic ?_
  refine ordM_begin (fun W : World => W.cell? ⟨gn, 2, none⟩ = some (.map x.mp) ∧ W.cell? ⟨g0, 0, none⟩ = some (.int .i64 a) ∧ W.cell? ⟨g0, 1, none⟩ = some (.int .i64 p) ∧ (Instr.lookup 60 (.map x.mp) (.agg #[.int .i64 a, .int .i64 p]) false).run Try.prog W = .ok (.slice va (x.G a p).length vc) W) (fun i => false) (by kernel_rfl) hS3 ?_
  refine ordM_take 0 ?vq15 rfl (by kernel_rfl) (by kernel_rfl) (by kernel_rfl) (by kernel_rfl) (fun _ _ _ h => h) (by rfl) ?hq15 (by assumption) ?rq15
  case hq15 => (intro W hSw; (try dsimp only at hSw); go_simp <;> with_reducible rfl)
  (try simp only [Act.put, List.setIfInBounds_toArray, List.set_cons_zero, List.set_cons_succ])
  refine ordM_take 1 ?vq16 rfl (by kernel_rfl) (by kernel_rfl) (by kernel_rfl) (by kernel_rfl) (fun _ _ _ h => h) (by rfl) ?hq16 (by assumption) ?rq16
  case hq16 => (intro W hSw; (try dsimp only at hSw); go_simp <;> with_reducible rfl)
  (try simp only [Act.put, List.setIfInBounds_toArray, List.set_cons_zero, List.set_cons_succ])
  refine ordM_take 2 ?vq17 rfl (by kernel_rfl) (by kernel_rfl) (by kernel_rfl) (by kernel_rfl) (fun _ _ _ h => h) (by rfl) ?hq17 (by assumption) ?rq17
  case hq17 => (intro W hSw; (try dsimp only at hSw); go_simp <;> with_reducible rfl)
  (try simp only [Act.put, List.setIfInBounds_toArray, List.set_cons_zero, List.set_cons_succ])
  refine ordM_take 3 ?vq18 rfl (by kernel_rfl) (by kernel_rfl) (by kernel_rfl) (by kernel_rfl) (fun _ _ _ h => h) (by rfl) ?hq18 (by assumption) ?rq18
  case hq18 => (intro W hSw; (try dsimp only at hSw); go_simp <;> with_reducible rfl)
  (try simp only [Act.put, List.setIfInBounds_toArray, List.set_cons_zero, List.set_cons_succ])
  refine ordM_take 4 ?vq19 rfl (by kernel_rfl) (by kernel_rfl) (by kernel_rfl) (by kernel_rfl) (fun _ _ _ h => h) (by rfl) ?hq19 (by assumption) ?rq19
  case hq19 => (intro W hSw; (try dsimp only at hSw); go_simp <;> with_reducible rfl)
  (try simp only [Act.put, List.setIfInBounds_toArray, List.set_cons_zero, List.set_cons_succ])
  refine ordM_take 5 ?vq20 rfl (by kernel_rfl) (by kernel_rfl) (by kernel_rfl) (by kernel_rfl) (fun _ _ _ h => h) (by rfl) ?hq20 (by assumption) ?rq20
  case hq20 => (intro W hSw; (try dsimp only at hSw); go_simp <;> with_reducible rfl)
  (try simp only [Act.put, List.setIfInBounds_toArray, List.set_cons_zero, List.set_cons_succ])
  refine ordM_take 6 ?vq21 rfl (by kernel_rfl) (by kernel_rfl) (by kernel_rfl) (by kernel_rfl) (fun _ _ _ h => h) (by rfl) ?hq21 (by assumption) ?rq21
  case hq21 => (intro W hSw; (try dsimp only at hSw); go_simp <;> with_reducible rfl)
  (try simp only [Act.put, List.setIfInBounds_toArray, List.set_cons_zero, List.set_cons_succ])
  refine ordM_take 7 ?vq22 rfl (by kernel_rfl) (by kernel_rfl) (by kernel_rfl) (by kernel_rfl) (fun _ _ _ h => h) (by rfl) ?hq22 (by assumption) ?rq22
  case hq22 => (intro W hSw; (try dsimp only at hSw); go_simp <;> with_reducible rfl)
  (try simp only [Act.put, List.setIfInBounds_toArray, List.set_cons_zero, List.set_cons_succ])
  refine ordM_done (by kernel_rfl) ?_ _
  refine NoPanic.normal ?_
  go_wp2_with fail
  have h3 := h2.drew
  have hX3 := hX.drew
  have hb3 := hb.drew
  generalize w2.drew = w3 at h3 hX3 hb3 hlkd ⊢
  clear h2 hX hb hlk
  have HR := Lib.hid (fun (k : Nat) (t : ByteArray) (ht : (x.G a p)[k]? = some t) => h3.rowAt a p ht)
  generalize hGl : x.G a p = l at *
  go_loopw [7, 20] (fun s7 i wr => ∃ k : Nat, k ≤ l.length ∧ i = .int .i64 k ∧ s7 = .int .i64 ((s.size : Int) + neSum (l.take k)) ∧ wr = w3) (fun _ i _ => l.length - (intOf i).toNat)
  case atStart => exact ⟨0, Nat.zero_le _, rfl, by simp [neSum], rfl⟩
  case round =>
    obtain ⟨k, hkl, rfl, rfl, hwr⟩ := hrel
    subst hwr
    rename World => w3
    by_cases hlt : k < l.length
    · have ht := List.getElem?_eq_getElem hlt
      generalize l[k] = t at ht
      obtain ⟨gr, off, cap, hv2, _, _, hc, _⟩ := HR.out k t ht
      rw [hv] at hv2
      cases hv2
      have e1 : neSum (l.take (k + 1)) = neSum (l.take k) + t.size := by
        rw [List.take_add_one, ht]
        exact neSum_snoc _ _
      have hts : t.size ≤ 1500 := h3.tx a p t (by rw [hGl]; exact List.mem_of_getElem? ht)
      have hsum : neSum (l.take k) ≤ 1500 * l.length := by
        refine Nat.le_trans (neSum_le (fun u hu => h3.tx a p u (by rw [hGl]; exact List.mem_of_mem_take hu))) ?_
        rw [List.length_take]
        exact Nat.mul_le_mul_left _ (Nat.min_le_right _ _)
      have hw : IntKind.i64.wrap ((s.size : Int) + neSum (l.take k) + t.size) = (s.size : Int) + neSum (l.take k) + t.size := IntWalk.i64_in _ ⟨by omega, by omega⟩
      have k0 : (0 : Int) ≤ (k : Int) := by omega
      have k1 : (k : Int) < (l.length : Int) := by omega
      clear ht
      go_wp2_with fail
      go_roundw
      case rel => exact ⟨k + 1, by omega, by go_num, by rw [e1]; congr 1; push_cast; omega, by first | rfl | trivial⟩
      case measure => simp [intOf]; omega
    · obtain rfl : k = l.length := by omega
      rw [List.take_length]
      obtain ⟨_, _, _, _, _, _, _, _, _⟩ := h3.cells
      go_wp2_with fail
      refine (HCL.out _).mono ?_
      rintro e w4 ⟨rfl, hk4⟩
      have h4 := h3.later hk4
      have hX4 := hX3.later hk4
      have hg3 : g0 ≤ w3.heap.size := by rw [← HG.out]; exact hb3.size
      have hb4 := hb3.trans (hk4.mono hg3)
      have hg4 : g0 ≤ w4.heap.size := by rw [← HG.out]; exact hb4.size
      have hY := atQ_new 29 w4 w4.heap.size #[.int .i64 (am 1 x.m 1024), .int .i64 (am 1 x.b 16777216)] rfl
      have hal : Below w4.heap.size w4 (w4.alloc (.cells #[.int .i64 (am 1 x.m 1024), .int .i64 (am 1 x.b 16777216)] 29)) := (Below.refl _ _).alloc (Nat.le_refl _) _
      have h5 := h4.later hal
      have hX5 := hX4.later hal
      have hb5 := hb4.trans (hal.mono hg4)
      obtain ⟨_, _⟩ := hY.cells2
      have h5d := h5.drew
      have hlk5 := h5d.look hk
      rw [hv] at hlk5
      obtain ⟨_, _, _, _, _, _, _, _, _⟩ := h5.cells
      go_upto_region 8 with fail
      generalize (w4.alloc (.cells #[.int .i64 (am 1 x.m 1024), .int .i64 (am 1 x.b 16777216)] 29)) = w5 at *
      generalize w4.heap.size = gy at hY ⊢
      have hS5 := And.intro h5d.cells.2.2.1 (And.intro hX5.drew.cells2.1 (And.intro hX5.drew.cells2.2 (And.intro hY.drew.cells2.1 (And.intro hY.drew.cells2.2 hlk5))))
      have hnr : neRoom x a p s = (decide ((l.length : Int) < am 1 x.m 1024) && decide ((s.size : Int) + neSum l ≤ am 1 x.b 16777216)) := by unfold neRoom; rw [hGl]
      have hb6 := hb5.drew
      generalize hM : am 1 x.m 1024 = M at *
      generalize hB : am 1 x.b 16777216 = Bt at *
      by_cases c1 : (l.length : Int) < M
      · have d1 : decide ((l.length : Int) < M) = true := decide_eq_true c1
        refine wp_region_noPanic ?_
        refine ordM_begin (fun W : World => W.cell? ⟨gn, 2, none⟩ = some (.map x.mp) ∧ W.cell? ⟨g0, 0, none⟩ = some (.int .i64 a) ∧ W.cell? ⟨g0, 1, none⟩ = some (.int .i64 p) ∧ W.cell? ⟨gy, 0, none⟩ = some (.int .i64 M) ∧ W.cell? ⟨gy, 1, none⟩ = some (.int .i64 Bt) ∧ (Instr.lookup 60 (.map x.mp) (.agg #[.int .i64 a, .int .i64 p]) false).run Try.prog W = .ok (.slice va l.length vc) W) (fun i => false) (by kernel_rfl) hS5 ?_
        refine ordM_take 0 ?vq23 rfl (by kernel_rfl) (by kernel_rfl) (by kernel_rfl) (by kernel_rfl) (fun _ _ _ h => h) (by rfl) ?hq23 (by assumption) ?rq23
        case hq23 => (intro W hSw; (try dsimp only at hSw); go_simp <;> with_reducible rfl)
        (try simp only [Act.put, List.setIfInBounds_toArray, List.set_cons_zero, List.set_cons_succ])
        refine ordM_take 1 ?vq24 rfl (by kernel_rfl) (by kernel_rfl) (by kernel_rfl) (by kernel_rfl) (fun _ _ _ h => h) (by rfl) ?hq24 (by assumption) ?rq24
        case hq24 => (intro W hSw; (try dsimp only at hSw); go_simp <;> with_reducible rfl)
        (try simp only [Act.put, List.setIfInBounds_toArray, List.set_cons_zero, List.set_cons_succ])
        refine ordM_take 2 ?vq25 rfl (by kernel_rfl) (by kernel_rfl) (by kernel_rfl) (by kernel_rfl) (fun _ _ _ h => h) (by rfl) ?hq25 (by assumption) ?rq25
        case hq25 => (intro W hSw; (try dsimp only at hSw); go_simp <;> with_reducible rfl)
        (try simp only [Act.put, List.setIfInBounds_toArray, List.set_cons_zero, List.set_cons_succ])
        refine ordM_take 3 ?vq26 rfl (by kernel_rfl) (by kernel_rfl) (by kernel_rfl) (by kernel_rfl) (fun _ _ _ h => h) (by rfl) ?hq26 (by assumption) ?rq26
        case hq26 => (intro W hSw; (try dsimp only at hSw); go_simp <;> with_reducible rfl)
        (try simp only [Act.put, List.setIfInBounds_toArray, List.set_cons_zero, List.set_cons_succ])
        refine ordM_take 4 ?vq27 rfl (by kernel_rfl) (by kernel_rfl) (by kernel_rfl) (by kernel_rfl) (fun _ _ _ h => h) (by rfl) ?hq27 (by assumption) ?rq27
        case hq27 => (intro W hSw; (try dsimp only at hSw); go_simp <;> with_reducible rfl)
        (try simp only [Act.put, List.setIfInBounds_toArray, List.set_cons_zero, List.set_cons_succ])
        refine ordM_take 5 ?vq28 rfl (by kernel_rfl) (by kernel_rfl) (by kernel_rfl) (by kernel_rfl) (fun _ _ _ h => h) (by rfl) ?hq28 (by assumption) ?rq28
        case hq28 => (intro W hSw; (try dsimp only at hSw); go_simp <;> with_reducible rfl)
        (try simp only [Act.put, List.setIfInBounds_toArray, List.set_cons_zero, List.set_cons_succ])
        refine ordM_take 6 ?vq29 rfl (by kernel_rfl) (by kernel_rfl) (by kernel_rfl) (by kernel_rfl) (fun _ _ _ h => h) (by rfl) ?hq29 (by assumption) ?rq29
        case hq29 => (intro W hSw; (try dsimp only at hSw); go_simp <;> with_reducible rfl)
        (try simp only [Act.put, List.setIfInBounds_toArray, List.set_cons_zero, List.set_cons_succ])
        refine ordM_take 7 ?vq30 rfl (by kernel_rfl) (by kernel_rfl) (by kernel_rfl) (by kernel_rfl) (fun _ _ _ h => h) (by rfl) ?hq30 (by assumption) ?rq30
        case hq30 => (intro W hSw; (try dsimp only at hSw); go_simp <;> with_reducible rfl)
        (try simp only [Act.put, List.setIfInBounds_toArray, List.set_cons_zero, List.set_cons_succ])
        refine ordM_take 8 ?vq31 rfl (by kernel_rfl) (by kernel_rfl) (by kernel_rfl) (by kernel_rfl) (fun _ _ _ h => h) (by rfl) ?hq31 (by assumption) ?rq31
        case hq31 => (intro W hSw; (try dsimp only at hSw); go_simp <;> with_reducible rfl)
        (try simp only [Act.put, List.setIfInBounds_toArray, List.set_cons_zero, List.set_cons_succ])
        refine ordM_take 9 ?vq32 rfl (by kernel_rfl) (by kernel_rfl) (by kernel_rfl) (by kernel_rfl) (fun _ _ _ h => h) (by rfl) ?hq32 (by assumption) ?rq32
        case hq32 => (intro W hSw; (try dsimp only at hSw); go_simp <;> with_reducible rfl)
        (try simp only [Act.put, List.setIfInBounds_toArray, List.set_cons_zero, List.set_cons_succ])
        refine ordM_take 10 ?vq33 rfl (by kernel_rfl) (by kernel_rfl) (by kernel_rfl) (by kernel_rfl) (fun _ _ _ h => h) (by rfl) ?hq33 (by assumption) ?rq33
        case hq33 => (intro W hSw; (try dsimp only at hSw); go_simp <;> with_reducible rfl)
        (try simp only [Act.put, List.setIfInBounds_toArray, List.set_cons_zero, List.set_cons_succ])
        refine ordM_take 11 ?vq34 rfl (by kernel_rfl) (by kernel_rfl) (by kernel_rfl) (by kernel_rfl) (fun _ _ _ h => h) (by rfl) ?hq34 (by assumption) ?rq34
        case hq34 => (intro W hSw; (try dsimp only at hSw); go_simp <;> with_reducible rfl)
        (try simp only [Act.put, List.setIfInBounds_toArray, List.set_cons_zero, List.set_cons_succ])
        refine ordM_take 12 ?vq35 rfl (by kernel_rfl) (by kernel_rfl) (by kernel_rfl) (by kernel_rfl) (fun _ _ _ h => h) (by rfl) ?hq35 (by assumption) ?rq35
        case hq35 => (intro W hSw; (try dsimp only at hSw); go_simp <;> with_reducible rfl)
        (try simp only [Act.put, List.setIfInBounds_toArray, List.set_cons_zero, List.set_cons_succ])
        refine ordM_take 13 ?vq36 rfl (by kernel_rfl) (by kernel_rfl) (by kernel_rfl) (by kernel_rfl) (fun _ _ _ h => h) (by rfl) ?hq36 (by assumption) ?rq36
        case hq36 => (intro W hSw; (try dsimp only at hSw); go_simp <;> with_reducible rfl)
        (try simp only [Act.put, List.setIfInBounds_toArray, List.set_cons_zero, List.set_cons_succ])
        refine ordM_take 14 ?vq37 rfl (by kernel_rfl) (by kernel_rfl) (by kernel_rfl) (by kernel_rfl) (fun _ _ _ h => h) (by rfl) ?hq37 (by assumption) ?rq37
        case hq37 => (intro W hSw; (try dsimp only at hSw); go_simp <;> with_reducible rfl)
        (try simp only [Act.put, List.setIfInBounds_toArray, List.set_cons_zero, List.set_cons_succ])
        refine ordM_take 15 ?vq38 rfl (by kernel_rfl) (by kernel_rfl) (by kernel_rfl) (by kernel_rfl) (fun _ _ _ h => h) (by rfl) ?hq38 (by assumption) ?rq38
        case hq38 => (intro W hSw; (try dsimp only at hSw); go_simp <;> with_reducible rfl)
        (try simp only [Act.put, List.setIfInBounds_toArray, List.set_cons_zero, List.set_cons_succ])
        refine ordM_take 16 ?vq39 rfl (by kernel_rfl) (by kernel_rfl) (by kernel_rfl) (by kernel_rfl) (fun _ _ _ h => h) (by rfl) ?hq39 (by assumption) ?rq39
        case hq39 => (intro W hSw; (try dsimp only at hSw); go_simp <;> with_reducible rfl)
        (try simp only [Act.put, List.setIfInBounds_toArray, List.set_cons_zero, List.set_cons_succ])
        refine ordM_done (by kernel_rfl) ?_ _
        refine NoPanic.normal ?_
        go_wp2_with fail
        go_ret
        exact ⟨by (try rw [hnr, d1]) <;> simp, by rw [HG.out]; exact hb6⟩
      · have d1 : decide ((l.length : Int) < M) = false := decide_eq_false c1
        refine wp_region_noPanic ?_
        refine ordM_begin (fun W : World => W.cell? ⟨gn, 2, none⟩ = some (.map x.mp) ∧ W.cell? ⟨g0, 0, none⟩ = some (.int .i64 a) ∧ W.cell? ⟨g0, 1, none⟩ = some (.int .i64 p) ∧ W.cell? ⟨gy, 0, none⟩ = some (.int .i64 M) ∧ W.cell? ⟨gy, 1, none⟩ = some (.int .i64 Bt) ∧ (Instr.lookup 60 (.map x.mp) (.agg #[.int .i64 a, .int .i64 p]) false).run Try.prog W = .ok (.slice va l.length vc) W) (fun i => false) (by kernel_rfl) hS5 ?_
        refine ordM_take 0 ?vq40 rfl (by kernel_rfl) (by kernel_rfl) (by kernel_rfl) (by kernel_rfl) (fun _ _ _ h => h) (by rfl) ?hq40 (by assumption) ?rq40
        case hq40 => (intro W hSw; (try dsimp only at hSw); go_simp <;> with_reducible rfl)
        (try simp only [Act.put, List.setIfInBounds_toArray, List.set_cons_zero, List.set_cons_succ])
        refine ordM_take 1 ?vq41 rfl (by kernel_rfl) (by kernel_rfl) (by kernel_rfl) (by kernel_rfl) (fun _ _ _ h => h) (by rfl) ?hq41 (by assumption) ?rq41
        case hq41 => (intro W hSw; (try dsimp only at hSw); go_simp <;> with_reducible rfl)
        (try simp only [Act.put, List.setIfInBounds_toArray, List.set_cons_zero, List.set_cons_succ])
        refine ordM_take 2 ?vq42 rfl (by kernel_rfl) (by kernel_rfl) (by kernel_rfl) (by kernel_rfl) (fun _ _ _ h => h) (by rfl) ?hq42 (by assumption) ?rq42
        case hq42 => (intro W hSw; (try dsimp only at hSw); go_simp <;> with_reducible rfl)
        (try simp only [Act.put, List.setIfInBounds_toArray, List.set_cons_zero, List.set_cons_succ])
        refine ordM_take 3 ?vq43 rfl (by kernel_rfl) (by kernel_rfl) (by kernel_rfl) (by kernel_rfl) (fun _ _ _ h => h) (by rfl) ?hq43 (by assumption) ?rq43
        case hq43 => (intro W hSw; (try dsimp only at hSw); go_simp <;> with_reducible rfl)
        (try simp only [Act.put, List.setIfInBounds_toArray, List.set_cons_zero, List.set_cons_succ])
        refine ordM_take 4 ?vq44 rfl (by kernel_rfl) (by kernel_rfl) (by kernel_rfl) (by kernel_rfl) (fun _ _ _ h => h) (by rfl) ?hq44 (by assumption) ?rq44
        case hq44 => (intro W hSw; (try dsimp only at hSw); go_simp <;> with_reducible rfl)
        (try simp only [Act.put, List.setIfInBounds_toArray, List.set_cons_zero, List.set_cons_succ])
        refine ordM_take 5 ?vq45 rfl (by kernel_rfl) (by kernel_rfl) (by kernel_rfl) (by kernel_rfl) (fun _ _ _ h => h) (by rfl) ?hq45 (by assumption) ?rq45
        case hq45 => (intro W hSw; (try dsimp only at hSw); go_simp <;> with_reducible rfl)
        (try simp only [Act.put, List.setIfInBounds_toArray, List.set_cons_zero, List.set_cons_succ])
        refine ordM_take 6 ?vq46 rfl (by kernel_rfl) (by kernel_rfl) (by kernel_rfl) (by kernel_rfl) (fun _ _ _ h => h) (by rfl) ?hq46 (by assumption) ?rq46
        case hq46 => (intro W hSw; (try dsimp only at hSw); go_simp <;> with_reducible rfl)
        (try simp only [Act.put, List.setIfInBounds_toArray, List.set_cons_zero, List.set_cons_succ])
        refine ordM_take 7 ?vq47 rfl (by kernel_rfl) (by kernel_rfl) (by kernel_rfl) (by kernel_rfl) (fun _ _ _ h => h) (by rfl) ?hq47 (by assumption) ?rq47
        case hq47 => (intro W hSw; (try dsimp only at hSw); go_simp <;> with_reducible rfl)
        (try simp only [Act.put, List.setIfInBounds_toArray, List.set_cons_zero, List.set_cons_succ])
        refine ordM_take 8 ?vq48 rfl (by kernel_rfl) (by kernel_rfl) (by kernel_rfl) (by kernel_rfl) (fun _ _ _ h => h) (by rfl) ?hq48 (by assumption) ?rq48
        case hq48 => (intro W hSw; (try dsimp only at hSw); go_simp <;> with_reducible rfl)
        (try simp only [Act.put, List.setIfInBounds_toArray, List.set_cons_zero, List.set_cons_succ])
        refine ordM_take 9 ?vq49 rfl (by kernel_rfl) (by kernel_rfl) (by kernel_rfl) (by kernel_rfl) (fun _ _ _ h => h) (by rfl) ?hq49 (by assumption) ?rq49
        case hq49 => (intro W hSw; (try dsimp only at hSw); go_simp <;> with_reducible rfl)
        (try simp only [Act.put, List.setIfInBounds_toArray, List.set_cons_zero, List.set_cons_succ])
        refine ordM_take 10 ?vq50 rfl (by kernel_rfl) (by kernel_rfl) (by kernel_rfl) (by kernel_rfl) (fun _ _ _ h => h) (by rfl) ?hq50 (by assumption) ?rq50
        case hq50 => (intro W hSw; (try dsimp only at hSw); go_simp <;> with_reducible rfl)
        (try simp only [Act.put, List.setIfInBounds_toArray, List.set_cons_zero, List.set_cons_succ])
        refine ne_skip 11 rfl (by kernel_rfl) (by kernel_rfl) (by kernel_rfl) (by kernel_rfl) (fun _ _ _ h => h) (by rfl) (by assumption) ?_
        (try simp only [Act.put, List.setIfInBounds_toArray, List.set_cons_zero, List.set_cons_succ])
        refine ne_skip 12 rfl (by kernel_rfl) (by kernel_rfl) (by kernel_rfl) (by kernel_rfl) (fun _ _ _ h => h) (by rfl) (by assumption) ?_
        (try simp only [Act.put, List.setIfInBounds_toArray, List.set_cons_zero, List.set_cons_succ])
        refine ne_skip 13 rfl (by kernel_rfl) (by kernel_rfl) (by kernel_rfl) (by kernel_rfl) (fun _ _ _ h => h) (by rfl) (by assumption) ?_
        (try simp only [Act.put, List.setIfInBounds_toArray, List.set_cons_zero, List.set_cons_succ])
        refine ne_skip 14 rfl (by kernel_rfl) (by kernel_rfl) (by kernel_rfl) (by kernel_rfl) (fun _ _ _ h => h) (by rfl) (by assumption) ?_
        (try simp only [Act.put, List.setIfInBounds_toArray, List.set_cons_zero, List.set_cons_succ])
        refine ordM_take 15 ?vq51 rfl (by kernel_rfl) (by kernel_rfl) (by kernel_rfl) (by kernel_rfl) (fun _ _ _ h => h) (by rfl) ?hq51 (by assumption) ?rq51
        case hq51 => (intro W hSw; (try dsimp only at hSw); go_simp <;> with_reducible rfl)
        (try simp only [Act.put, List.setIfInBounds_toArray, List.set_cons_zero, List.set_cons_succ])
        refine ordM_take 16 ?vq52 rfl (by kernel_rfl) (by kernel_rfl) (by kernel_rfl) (by kernel_rfl) (fun _ _ _ h => h) (by rfl) ?hq52 (by assumption) ?rq52
        case hq52 => (intro W hSw; (try dsimp only at hSw); go_simp <;> with_reducible rfl)
        (try simp only [Act.put, List.setIfInBounds_toArray, List.set_cons_zero, List.set_cons_succ])
        refine ordM_done (by kernel_rfl) ?_ _
        refine NoPanic.normal ?_
        go_wp2_with fail
        go_ret
        exact ⟨by (try rw [hnr, d1]) <;> simp, by rw [HG.out]; exact hb6⟩
end
end Go.Proofs.Ytbmbomojnljccaa
