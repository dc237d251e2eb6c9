/- net: the law's awake. -/
import Derived.Test.YtbmbomojnljccaaNeH
namespace Go.Proofs.Ytbmbomojnljccaa
open Go.RowKit Go.Maps
set_option linter.unusedVariables false
set_option linter.unusedSimpArgs false
/-- What is known of a Net between calls at one place. -/
structure NeAt (x : NE) (m b a p : Int) (l : List ByteArray) (k : Int) : Prop where
  m : x.m = m
  b : x.b = b
  G : x.G a p = l
  c : ∀ i, 0 ≤ x.c i ∧ x.c i ≤ k
theorem bump_bd {c : Nat → Int} {k : Int} (h : ∀ i, 0 ≤ c i ∧ c i ≤ k) (q : Nat) : ∀ i, 0 ≤ bump c q i ∧ bump c q i ≤ k + 1 := fun i => by
  have := h i
  unfold bump
  split <;> omega
theorem neAt_new (m b a p : Int) : NeAt (neNew m b) m b a p [] 0 := ⟨rfl, rfl, rfl, fun _ => ⟨Int.le_refl _, Int.le_refl _⟩⟩
theorem NeAt.le {x : NE} {m b a p k k' : Int} {l : List ByteArray} (h : NeAt x m b a p l k) (hk : k ≤ k') : NeAt x m b a p l k' := ⟨h.m, h.b, h.G, fun i => by have := h.c i; omega⟩
theorem neOk_of {x : NE} {m b a p k : Int} {l : List ByteArray} (h : NeAt x m b a p l k) (s : ByteArray) : neOk x a p s = (neIs a p && decide (s.size ≠ 0) && decide (s.size ≤ 1500) && (decide ((l.length : Int) < am 1 m 1024) && decide ((s.size : Int) + neSum l ≤ am 1 b 16777216))) := by
  unfold neOk neRoom
  rw [h.m, h.b, h.G]
theorem neRoom_of {x : NE} {m b a p k : Int} {l : List ByteArray} (h : NeAt x m b a p l k) (s : ByteArray) : neRoom x a p s = (decide ((l.length : Int) < am 1 m 1024) && decide ((s.size : Int) + neSum l ≤ am 1 b 16777216)) := by
  unfold neRoom
  rw [h.m, h.b, h.G]
/-- Behind Send or Forge there. -/
theorem NePut.at {x x' : NE} {m b a p k : Int} {l : List ByteArray} {s : ByteArray} {q : Nat} {r : Bool} (h : NePut x a p s q r x') (hx : NeAt x m b a p l k) : r = neOk x a p s ∧ NeAt x' m b a p (if r then l ++ [s] else l) (k + 1) := by
  cases h with
  | yes hok v' mp' =>
    refine ⟨hok.symm, hx.m, hx.b, ?_, bump_bd hx.c q⟩
    show (NE.set { x with mp := mp' } a p v' (x.G a p ++ [s])).G a p = l ++ [s]
    rw [NE.set_G, hx.G]
  | no hok => exact ⟨hok.symm, hx.m, hx.b, hx.G, bump_bd hx.c 1⟩
theorem NeTwin.at {x x' : NE} {m b a p k : Int} {l : List ByteArray} {s : ByteArray} {r : Bool} {j : Nat} (h : NeTwin x a p j r x') (hx : NeAt x m b a p l k) (hs : l[j]? = some s) : r = neRoom x a p s ∧ NeAt x' m b a p (if r then l ++ [s] else l) (k + 1) := by
  cases h with
  | none h =>
    rw [hx.G] at h
    have := neAt_none h
    have := (List.getElem?_eq_some_iff.1 hs).1
    omega
  | full k2 s2 hk hs2 hr =>
    obtain rfl : j = k2 := by omega
    rw [hx.G] at hs2; rw [hs] at hs2
    cases hs2
    exact ⟨hr.symm, hx.le (by omega)⟩
  | yes k2 s2 hk hs2 hr v' mp' =>
    obtain rfl : j = k2 := by omega
    rw [hx.G] at hs2; rw [hs] at hs2
    cases hs2
    refine ⟨hr.symm, hx.m, hx.b, ?_, bump_bd hx.c 3⟩
    show (NE.set { x with mp := mp' } a p v' (x.G a p ++ [s])).G a p = l ++ [s]
    rw [NE.set_G, hx.G]
theorem NeEnd.at {x x' : NE} {m b a p k : Int} {l : List ByteArray} {s : ByteArray} {q : Nat} {r : Option ByteArray} {j : Nat} (h : NeEnd x a p j q r x') (hx : NeAt x m b a p l k) (hs : l[j]? = Option.some s) : r = Option.some s ∧ NeAt x' m b a p (l.eraseIdx j) (k + 1) := by
  cases h with
  | none h =>
    rw [hx.G] at h
    have := neAt_none h
    have := (List.getElem?_eq_some_iff.1 hs).1
    omega
  | some k2 s2 hk hs2 v' =>
    obtain rfl : j = k2 := by omega
    rw [hx.G] at hs2; rw [hs] at hs2
    cases hs2
    refine ⟨rfl, hx.m, hx.b, ?_, bump_bd hx.c q⟩
    show (NE.set x a p v' ((x.G a p).eraseIdx j)).G a p = l.eraseIdx j
    rw [NE.set_G, hx.G]
/-- Elsewhere nothing turns. -/
theorem NePut.else {x x' : NE} {a p a' p' : Int} {s : ByteArray} {q : Nat} {r : Bool} (h : NePut x a p s q r x') (hne : ¬ (a' = a ∧ p' = p)) : x'.G a' p' = x.G a' p' := by
  cases h with
  | yes hok v' mp' => exact NE.set_Go { x with mp := mp' } v' _ hne
  | no hok => rfl
theorem NeTwin.else {x x' : NE} {a p i a' p' : Int} {r : Bool} (h : NeTwin x a p i r x') (hne : ¬ (a' = a ∧ p' = p)) : x'.G a' p' = x.G a' p' := by
  cases h with
  | none h => rfl
  | full k2 s2 hk hs2 hr => rfl
  | yes k2 s2 hk hs2 hr v' mp' => exact NE.set_Go { x with mp := mp' } v' _ hne
theorem NeEnd.else {x x' : NE} {a p i a' p' : Int} {q : Nat} {r : Option ByteArray} (h : NeEnd x a p i q r x') (hne : ¬ (a' = a ∧ p' = p)) : x'.G a' p' = x.G a' p' := by
  cases h with
  | none h => rfl
  | some k2 s2 hk hs2 v' => exact NE.set_Go x v' _ hne
set_option maxRecDepth 100000 in
set_option maxHeartbeats 3200000 in
theorem neAwake_any (w : World) : Calls Try.prog 6 #[] w fun e w' => e = .returned (.bool true) ∧ Below w.heap.size w w' := by
  have hwf : wf2 0 1 := neIs_wf (by decide)
  have hwf1 : wf2 1 1 := neIs_wf (by decide)
  have hA := neAt_new 2 9 0 1
  go_enter Try.func6, Try.ntmps6
  go_wp2_with fail
  refine (neNew_any 2 9 w).mono ?_
  rintro e w1 ⟨gn, rfl, h1, hk1⟩
  have hG1 : (neNew 2 9).G 1 1 = [] := rfl
  generalize neNew 2 9 = x1 at h1 hA hG1
  have HC := Lib.hid (neSend_any h1 hwf ⟨#[97]⟩ (by decide) (by omega) (fun i => by have := hA.c i; omega))
  go_wp2_with fail
  refine HC.out.mono ?_
  rintro e w2 ⟨r2, x2, rfl, hp, h2, K2⟩
  obtain ⟨hr, hB⟩ := hp.at hA
  rw [neOk_of hA] at hr
  obtain rfl : r2 = true := by rw [hr]; decide
  clear hr
  have hG2 := (hp.else (a' := 1) (p' := 1) (by decide)).trans hG1
  simp only [if_true, List.nil_append] at hB
  have HC := Lib.hid (neTwin_any h2 hwf 0 (by omega) (fun i => by have := hB.c i; omega))
  go_wp2_with fail
  refine HC.out.mono ?_
  rintro e w3 ⟨r3, x3, rfl, hp3, h3, K3⟩
  obtain ⟨hr, hD⟩ := NeTwin.at (j := 0) hp3 hB rfl
  rw [neRoom_of hB] at hr
  obtain rfl : r3 = true := by rw [hr]; decide
  clear hr
  have hG3 := (hp3.else (a' := 1) (p' := 1) (by decide)).trans hG2
  simp only [if_true, List.singleton_append] at hD
  have HC := Lib.hid (neSend_any h3 hwf ⟨#[98]⟩ (by decide) (by omega) (fun i => by have := hD.c i; omega))
  go_wp2_with fail
  refine HC.out.mono ?_
  rintro e w4 ⟨r4, x4, rfl, hp4, h4, K4⟩
  obtain ⟨hr, hE⟩ := hp4.at hD
  rw [neOk_of hD] at hr
  obtain rfl : r4 = false := by rw [hr]; decide
  clear hr
  have hG4 := (hp4.else (a' := 1) (p' := 1) (by decide)).trans hG3
  have HC := Lib.hid (neTake_any h4 hwf 0 (by omega) (fun i => by have := hE.c i; omega))
  go_wp2_with fail
  refine HC.out.mono ?_
  rintro e w5 ⟨r5, x5, rfl, hp5, h5, K5⟩
  obtain ⟨rfl, hF⟩ := NeEnd.at (j := 0) hp5 hE rfl
  have hG5 := (hp5.else (a' := 1) (p' := 1) (by decide)).trans hG4
  have HL1 := Lib.hid (neLen_q h5 hwf)
  have HL2 := Lib.hid (neLen_q h5 hwf1)
  rw [hF.G] at HL1
  rw [hG5] at HL2
  simp only [Option.getD, Option.isSome]
  have hbel : Below w.heap.size w w5 := hk1.trans ((K2.below h1).trans ((K3.below h2).trans ((K4.below h3).trans (K5.below h4))))
  clear HC
  go_wp2_with fail
  refine HL1.out.mono ?_
  rintro e w6 ⟨rfl, hq⟩
  subst hq
  go_wp2_with fail
  refine HL2.out.mono ?_
  rintro e w6 ⟨rfl, hq⟩
  subst hq
  go_wp2_with fail
  go_ret
  exact ⟨by simp, hbel⟩
end Go.Proofs.Ytbmbomojnljccaa
