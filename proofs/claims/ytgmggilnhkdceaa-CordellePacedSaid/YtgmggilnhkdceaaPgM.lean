/- CordellePaced: plain facts. -/
import Derived.Test.YtgmggilnhkdceaaPaF
import Derived.Test.YtgmggilnhkdceaaQuF
namespace Go.Proofs.Ytgmggilnhkdceaa
open Go.RowKit
set_option linter.unusedVariables false
/-- A pace that was taken from: what is taken, and what there is, is no more than came. -/
structure PcI (r b now all : Int) (p : PP) : Prop where
  ok : p.Ok
  pr : p.r = r
  pb : p.b = b
  pl : p.l = now
  sum : all + p.k ≤ b + r * now
theorem pcI_new (r b : Int) (r0 : 1 ≤ r) (r1 : r ≤ 64) (b0 : 40 ≤ b) (b1 : b ≤ 103) : PcI r b 0 0 ⟨r, b, b, 0⟩ :=
  ⟨⟨by simp only; omega, by simp only; omega, by simp only; omega, by simp only; omega, by simp only; omega, by simp only; omega, by simp only; omega, by simp only; omega⟩, rfl, rfl, rfl, by simp only; omega⟩
theorem PcI.step {r b now all : Int} {p : PP} (I : PcI r b now all p) (n : Int) (n0 : 0 ≤ n) (n1 : n ≤ 40) (hb : 40 ≤ b) (h0 : 0 ≤ now) (h1 : now ≤ 1000000) :
    now ≤ p.when n ∧ p.when n ≤ now + 40 ∧ p.can (p.when n) n ∧ (p.when n = now ∨ ¬p.can (p.when n - 1) n) ∧ PcI r b (p.when n) (all + n) (p.take (p.when n) n) ∧ all + n ≤ b + r * p.when n := by
  obtain ⟨ok, rfl, rfl, rfl, sum⟩ := I
  have e := p.fit_id ok
  have k0 := ok.k0
  have hw : p.l ≤ p.when n ∧ p.when n ≤ p.l + 40 := by
    unfold PP.when
    rw [e]
    split
    case isTrue => omega
    case isFalse g =>
      have t0 := ticksFor_pos p.r (n - p.k) ok.r0 (by omega)
      have t1 := ticksFor_le p.r (n - p.k) ok.r0 (by omega)
      rw [if_neg (by omega), if_neg (by omega)]
      omega
  obtain ⟨w1, w2⟩ := hw
  obtain ⟨s1, s2, s3, s4⟩ := p.when_some n (by omega)
  rw [e] at s4
  have hk := p.take_ok (p.when n) n
  have hy := p.take_yes (p.when n) n s1
  generalize p.when n = t at *
  have ek : (p.at t).k = p.upA (t - p.l) := by
    simp only [PP.at, e, clkT]
    rw [Int.min_eq_left s3]
  have el : (p.at t).l = t := by
    simp only [PP.at, e, clkT]
    omega
  have er : (p.at t).r = p.r := by simp only [PP.at, e]
  have eb : (p.at t).b = p.b := by simp only [PP.at, e]
  have hu : p.upA (t - p.l) ≤ p.k + p.r * (t - p.l) := by
    have hm := p.mul_nn ok (t - p.l) (by omega)
    unfold PP.upA
    split <;> omega
  have hr : p.r * t = p.r * p.l + p.r * (t - p.l) := by
    rw [← Int.mul_add]
    congr 1
    omega
  have hs : all + n + (p.take t n).k ≤ p.b + p.r * t := by
    rw [hy, hr]
    simp only [ek]
    omega
  have h2 := hk.k0
  exact ⟨w1, w2, s1, s4, ⟨hk, by rw [hy]; exact er, by rw [hy]; exact eb, by rw [hy]; exact el, hs⟩, by omega⟩
theorem PcI.mul_bd {r b now all : Int} {p : PP} (I : PcI r b now all p) (r1 : r ≤ 64) (h0 : 0 ≤ now) (h1 : now ≤ 1000000) : 0 ≤ r * now ∧ r * now ≤ 64000000 := by
  have h := I.ok.r0
  rw [I.pr] at h
  have e0 := Int.mul_nonneg (show 0 ≤ r by omega) h0
  have e1 := Int.mul_le_mul r1 h1 h0 (by omega)
  omega
theorem At4.keptQ {T : TypeId} {W W' : World} {g : Nat} {c0 c1 c2 c3 : Value} (h : At4 T W g c0 c1 c2 c3) (hk : KeptQ W W') (h1 : T ≠ 119) (h2 : T ≠ 71) : At4 T W' g c0 c1 c2 c3 := by
  unfold At4 at h ⊢
  rw [hk.block g _ T _ h h1 h2]
  exact h
/-- A store into a block of another type. -/
theorem OwnE.onlyT {W W' : World} {b : Nat} {e T : TypeId} {size g : Nat} {v : Value} {n : Nat} {xs : List Value} {c0 c1 c2 c3 : Value} (h : OwnE W b e size v n xs) (h4 : At4 T W g c0 c1 c2 c3) (ho : Only g W W') (hT : e ≠ T) : OwnE W' b e size v n xs :=
  h.keep (by rw [ho.size]; exact Nat.le_refl _) fun k cs _ hc => ho.block k (fun e' => by
    subst e'
    unfold At4 at h4
    rw [h4] at hc
    simp only [Option.some.injEq, Obj.cells.injEq] at hc
    exact hT hc.2.1.symm)
theorem QIn.onlyT {W W' : World} {base gq g : Nat} {T : TypeId} {m b : Int} {v : Value} {l : List ByteArray} {c0 c1 c2 c3 : Value} (h : QIn W base gq m b v l) (h4 : At4 T W g c0 c1 c2 c3) (ho : Only g W W') (h1 : T ≠ 119) (h2 : T ≠ 71) : QIn W' base gq m b v l :=
  ⟨h.bs, h.at4.only (fun e => by
    subst e
    have h5 := h.at4
    unfold At4 at h4 h5
    rw [h4] at h5
    simp only [Option.some.injEq, Obj.cells.injEq] at h5
    exact h1 h5.2.1) ho, h.own.onlyT h4 ho (fun e => h2 e.symm), h.len, h.tot⟩
end Go.Proofs.Ytgmggilnhkdceaa
