/- split: Put in general, of both sides; what came in. -/
import Derived.Test.YtgomijhckmcfeaaSpV
import Derived.Test.YtgomijhckmcfeaaSpT
import Derived.Test.YtgomijhckmcfeaaRecs
namespace Go.Proofs.Ytgomijhckmcfeaa
open Go.RowKit
set_option linter.unusedVariables false
set_option linter.unusedSimpArgs false
open splitBack
def spActP : List (Value → Prop) := [isNum .i64, isNum .i64, isText]
theorem spAct_at {w wr : World} {a : Option Addr} {n k : Nat} (h : Recs spActP w a n) (hb : Below w.heap.size w wr) (hk : k < n) :
    ∃ b off, a = some ⟨b, off, none⟩ ∧ b < w.heap.size ∧ ∃ (x c : Int) (d : ByteArray), (∀ W, Below wr.heap.size wr W → W.cell? ⟨b, off + k * 3, none⟩ = some (.int .i64 x) ∧ W.cell? ⟨b, off + k * 3 + 1, none⟩ = some (.int .i64 c) ∧ W.cell? ⟨b, off + k * 3 + 2, none⟩ = some (.string d)) ∧ d.size ≤ 9223372036854775807 := by
  rcases h with h | ⟨b, off, rfl, hlt, hc⟩
  · omega
  · obtain ⟨v0, h0, x, rfl, _⟩ := hc k hk 0 _ rfl
    obtain ⟨v1, h1, c, rfl, _⟩ := hc k hk 1 _ rfl
    obtain ⟨v2, h2, d, rfl, w2⟩ := hc k hk 2 _ rfl
    refine ⟨b, off, rfl, hlt, x, c, d, fun W hW => ?_, by unfold maxLen at w2; omega⟩
    have hB := hb.trans (hW.mono hb.size)
    refine ⟨?_, ?_, ?_⟩
    · rw [hB.cell (p := ⟨b, off + k * 3, none⟩) hlt]; exact h0
    · rw [hB.cell (p := ⟨b, off + k * 3 + 1, none⟩) hlt]; exact h1
    · rw [hB.cell (p := ⟨b, off + k * 3 + 2, none⟩) hlt]; exact h2
/-- How a Put ends: kept (1), all there (2), twice (3), not allowed (4); with what is kept then. -/
inductive SpPut (P : List (Option ByteArray)) (i c : Int) (d : ByteArray) : List (Option ByteArray) → Int → Prop
  | bad (h : ¬ (c = (P.length : Int) ∧ 0 ≤ i ∧ i < c)) : SpPut P i c d P 4
  | twice (k : Nat) (s : ByteArray) (hi : i = (k : Int)) (hc : c = (P.length : Int)) (h : P[k]? = some (some s)) : SpPut P i c d P 3
  | kept (k : Nat) (hi : i = (k : Int)) (hc : c = (P.length : Int)) (h : P[k]? = some none) : SpPut P i c d (P.set k (some d)) (if spH P + 1 = P.length then 2 else 1)
theorem spPut_ex (P : List (Option ByteArray)) (i c : Int) (d : ByteArray) : ∃ P' r, SpPut P i c d P' r := by
  by_cases h : c = (P.length : Int) ∧ 0 ≤ i ∧ i < c
  · obtain ⟨hc, h0, h1⟩ := h
    obtain ⟨k, rfl⟩ : ∃ k : Nat, i = (k : Int) := ⟨i.toNat, by omega⟩
    obtain ⟨o, ho⟩ : ∃ o, P[k]? = some o := ⟨_, List.getElem?_eq_getElem (by omega)⟩
    cases o with
    | none => exact ⟨_, _, .kept k rfl hc ho⟩
    | some s => exact ⟨_, _, .twice k s rfl hc ho⟩
  · exact ⟨_, _, .bad h⟩
theorem SpPut.len {P P' : List (Option ByteArray)} {i c r : Int} {d : ByteArray} (h : SpPut P i c d P' r) : P'.length = P.length := by
  cases h
  · rfl
  · rfl
  · rw [List.length_set]
theorem SpPut.bytes {P P' : List (Option ByteArray)} {i c r : Int} {d : ByteArray} (h : SpPut P i c d P' r) : spB P' ≤ spB P + d.size := by
  cases h
  · omega
  · omega
  · rename_i k hi hc h
    rw [spB_set P k d h]
    omega
theorem SpPut.had {P P' : List (Option ByteArray)} {i c r : Int} {d : ByteArray} (h : SpPut P i c d P' r) : ((r < 3) ∧ spH P' = spH P + 1) ∨ (¬ (r < 3) ∧ spH P' = spH P) := by
  cases h
  · exact .inr ⟨by omega, rfl⟩
  · exact .inr ⟨by omega, rfl⟩
  · rename_i k hi hc h
    exact .inl ⟨by split <;> omega, spH_set P k d h⟩
theorem spPut_all {w : World} {base gf : Nat} {t cnt first : Int} {mp : Option Nat} {P P' : List (Option ByteArray)} {i c r : Int} {d : ByteArray} (h : FIn w base gf t cnt first mp P) (hp : SpPut P i c d P' r) (hd : spB P + d.size ≤ 4611686018427387904) :
    Calls Try.prog 31 #[.pointer (some ⟨gf, 0, none⟩), .agg #[.int .i64 i, .int .i64 c], .string d] w fun e w' => e = .returned (.int .i64 r) ∧ (∃ mp', FIn w' base gf t cnt first mp' P') ∧ Below base w w' ∧ KeepF gf mp w w' := by
  have hbw : base ≤ w.heap.size := Nat.le_trans h.bs (Nat.le_of_lt h.at5.lt)
  have hl := h.len
  cases hp with
  | bad hb =>
    refine (spPutBad h i c d (by rw [← hl]; exact hb)).mono ?_
    rintro e w' ⟨rfl, hk⟩
    exact ⟨rfl, ⟨mp, h.later hk⟩, hk.mono hbw, keepF_below _ _ hk⟩
  | twice k s hi hc hk =>
    subst hi hc
    rw [hl]
    refine (spPutTwice h k d s hk).mono ?_
    rintro e w' ⟨rfl, hk⟩
    exact ⟨rfl, ⟨mp, h.later hk⟩, hk.mono hbw, keepF_below _ _ hk⟩
  | kept k hi hc hk =>
    subst hi hc
    rw [hl]
    refine (spPutNew h k d hk hd).mono ?_
    rintro e w' ⟨rfl, ⟨mp', hF, _⟩, hb, hK⟩
    exact ⟨rfl, ⟨mp', hF⟩, hb, hK⟩
theorem refSpPut_all {w : World} {N hc pc : Nat} {ha pa : Option Addr} (t now : Int) {P P' : List (Option ByteArray)} {i c r : Int} {d : ByteArray} (hP : P.length = N) (h2 : N ≤ 255) (h : OwnE w 0 4 1 (.slice ha N hc) N (hadV P)) (hp : OwnE w 0 9 1 (.slice pa N pc) N (txV P)) (hq : SpPut P i c d P' r) :
    Calls Try.prog 55 #[.agg #[.int .i64 t, .int .i64 now, .slice ha N hc, .slice pa N pc], .int .i64 i, .int .i64 c, .string d] w fun e w' => ∃ ha' hc' pa' pc', e = .returned (.tuple #[.agg #[.int .i64 t, .int .i64 now, .slice ha' N hc', .slice pa' N pc'], .int .i64 r]) ∧ OwnE w' 0 4 1 (.slice ha' N hc') N (hadV P') ∧ OwnE w' 0 9 1 (.slice pa' N pc') N (txV P') ∧ Below w.heap.size w w' := by
  subst hP
  cases hq with
  | bad hb =>
    refine (refSpPutBad t now i c d h2 hb).mono ?_
    rintro e w' ⟨rfl, hk⟩
    exact ⟨_, _, _, _, rfl, h.later hk, hp.later hk, hk⟩
  | twice k s hi hc hk =>
    subst hi hc
    refine (refSpPutTwice t now k d s rfl h2 h hk).mono ?_
    rintro e w' ⟨rfl, hk⟩
    exact ⟨_, _, _, _, rfl, h.later hk, hp.later hk, hk⟩
  | kept k hi hc hk =>
    subst hi hc
    refine (refSpPutNew t now k d rfl h2 h hp hk).mono ?_
    rintro e w' ⟨ha', hc', pa', pc', r, rfl, rfl, h1, h3, hk⟩
    exact ⟨_, _, _, _, rfl, h1.base (Nat.zero_le _), h3.base (Nat.zero_le _), hk⟩
end Go.Proofs.Ytgomijhckmcfeaa
