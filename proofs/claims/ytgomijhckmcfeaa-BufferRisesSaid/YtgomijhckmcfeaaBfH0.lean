/- buffer: Put, walked. -/
import Derived.Test.YtgomijhckmcfeaaBfG
namespace Go.Proofs.Ytgomijhckmcfeaa
open Go.RowKit
set_option linter.unusedVariables false
set_option linter.unusedSimpArgs false
theorem spPutM {w : World} {base gf : Nat} {t cnt first : Int} {mp : Option Nat} {P P' : List (Option ByteArray)} {i c r : Int} {d : ByteArray} (h : FIn w base gf t cnt first mp P) (hp : SpPut P i c d P' r) (hd : spB P + d.size ≤ 4611686018427387904) :
    Calls Try.prog 31 #[.pointer (some ⟨gf, 0, none⟩), .agg #[.int .i64 i, .int .i64 c], .string d] w fun e w' => e = .returned (.int .i64 r) ∧ (∃ mp', FIn w' base gf t cnt first mp' P' ∧ ∀ b, mp' = some b → mp = some b ∨ w.heap.size ≤ b) ∧ Below base w w' ∧ KeepF gf mp w w' := by
  have hbw : base ≤ w.heap.size := Nat.le_trans h.bs (Nat.le_of_lt h.at5.lt)
  have hl := h.len
  cases hp with
  | bad hb =>
    refine (spPutBad h i c d (by rw [← hl]; exact hb)).mono ?_
    rintro e w' ⟨rfl, hk⟩
    exact ⟨rfl, ⟨mp, h.later hk, fun b hb => .inl hb⟩, hk.mono hbw, keepF_below _ _ hk⟩
  | twice k s hi hc hk =>
    subst hi hc
    rw [hl]
    refine (spPutTwice h k d s hk).mono ?_
    rintro e w' ⟨rfl, hk⟩
    exact ⟨rfl, ⟨mp, h.later hk, fun b hb => .inl hb⟩, hk.mono hbw, keepF_below _ _ hk⟩
  | kept k hi hc hk =>
    subst hi hc
    rw [hl]
    refine (spPutNew h k d hk hd).mono ?_
    rintro e w' ⟨rfl, ⟨mp', hF, hm⟩, hb, hK⟩
    refine ⟨rfl, ⟨mp', hF, fun b hb => ?_⟩, hb, hK⟩
    rcases hm with rfl | ⟨_, b', h1, rfl⟩
    · exact .inl hb
    · cases hb
      exact .inr h1
/-- How Put ends. -/
inductive PutEnd (F Pk B : Int) (s : BS) (l : List BF) (t i c : Int) (d : ByteArray) (now : Int) : Int → List BF → BS → List BF → Prop
  | late (h : t < s.least) : PutEnd F Pk B s l t i c d now 5 [] s l
  | bad (h : s.least ≤ t) (hb : ¬ (c ≤ 255 ∧ 0 ≤ i ∧ i < c)) : PutEnd F Pk B s l t i c d now 4 [] s l
  | put (h : s.least ≤ t) (hg : c ≤ 255 ∧ 0 ≤ i ∧ i < c) (k : Nat) (x : BF) (l1 l2 : List BF) (m : Option Nat) (P' : List (Option ByteArray)) (r : Int) (j : Nat) (hf : FrEnd l t c now k x l1) (hp : SpPut x.P i c d P' r) (h2 : l2 = l1.set k (x.with m P')) (hj : j ≤ l2.length) (ho : ∀ j', j' < j → bfOv F Pk B (l2.drop j') = true) (hn : bfOv F Pk B (l2.drop j) = false) (hup : l2.Pairwise (fun x y => x.t < y.t)) (kd : Int) (hkd : kd = if t < bfLst s.least (l2.take j) then 6 else r) :
    PutEnd F Pk B s l t i c d now kd (l2.take j) { s with least := bfLst s.least (l2.take j), ev := s.ev + j } (l2.drop j)
theorem sp_le {l : List BF} {x : BF} (h : x ∈ l) : spB x.P ≤ bfBytes l := by
  unfold bfBytes
  induction l with
  | nil => simp at h
  | cons a l ih =>
    simp only [List.map_cons, List.sum_cons]
    rcases List.mem_cons.1 h with rfl | h
    · omega
    · have := ih h
      omega
theorem FrEnd.sums {l l' : List BF} {t cnt now : Int} {k : Nat} {x : BF} (h : FrEnd l t cnt now k x l') : bfParts l' = bfParts l ∧ bfBytes l' = bfBytes l ∧ l'.length ≤ l.length + 1 := by
  cases h with
  | old hx _ => exact ⟨rfl, rfl, by omega⟩
  | new hk _ _ _ _ _ hP =>
    refine ⟨by rw [bfParts_ins, hP, spH_no]; rfl, by rw [bfBytes_ins, hP, spB_no]; rfl, ?_⟩
    simp only [List.length_append, List.length_take, List.length_cons, List.length_drop]
    omega
end Go.Proofs.Ytgomijhckmcfeaa
