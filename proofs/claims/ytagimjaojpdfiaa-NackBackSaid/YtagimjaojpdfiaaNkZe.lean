/- nack: what is asked for is what Of finds of its piece (plain facts). -/
import Derived.Test.YtagimjaojpdfiaaNkZd
namespace Go.Proofs.Ytagimjaojpdfiaa
open Go.RowKit
set_option linter.unusedVariables false
theorem be4_inj {x y : Int} (hx : 0 ≤ x ∧ x ≤ 4294967295) (hy : 0 ≤ y ∧ y ≤ 4294967295) (h : be x 4 = be y 4) : x = y := by
  have e1 := getN_be4 x
  have e2 := getN_be4 y
  rw [h] at e1
  omega
theorem be2_inj {x y : Int} (hx : 0 ≤ x ∧ x < 65536) (hy : 0 ≤ y ∧ y < 65536) (h : be x 2 = be y 2) : x = y := by
  have e1 := getN_be2 x
  have e2 := getN_be2 y
  rw [h] at e1
  omega
theorem nkB_inj : ∀ (l m : List (Int × Nat)), (∀ p ∈ l, 0 ≤ p.1 ∧ p.1 < 65536 ∧ p.2 < 65536) → (∀ p ∈ m, 0 ≤ p.1 ∧ p.1 < 65536 ∧ p.2 < 65536) → nkB l = nkB m → l = m
  | [], [], _, _, _ => rfl
  | [], q :: m, _, _, h => by have := congrArg List.length h; rw [nkB_len, nkB_len] at this; simp at this
  | p :: l, [], _, _, h => by have := congrArg List.length h; rw [nkB_len, nkB_len] at this; simp at this
  | p :: l, q :: m, h1, h2, h => by
    have e : ∀ (r : Int × Nat) (k : List (Int × Nat)), nkB (r :: k) = be r.1 2 ++ (be (r.2 : Int) 2 ++ nkB k) := fun r k => by simp [nkB]
    rw [e, e] at h
    obtain ⟨ha, h⟩ := List.append_inj h (by rw [be_len, be_len])
    obtain ⟨hb, h⟩ := List.append_inj h (by rw [be_len, be_len])
    have p1 := h1 p (by simp)
    have q1 := h2 q (by simp)
    have r1 := be2_inj ⟨p1.1, p1.2.1⟩ ⟨q1.1, q1.2.1⟩ ha
    have r2 := be2_inj (x := (p.2 : Int)) (y := (q.2 : Int)) (by omega) (by omega) hb
    have r3 := nkB_inj l m (fun x hx => h1 x (by simp [hx])) (fun x hx => h2 x (by simp [hx])) h
    obtain ⟨pa, pb⟩ := p
    obtain ⟨qa, qb⟩ := q
    simp only at r1 r2
    rw [r1, r3, show pb = qb from by omega]
/-- Of finds what the piece was made of. -/
theorem nk_forth (f b : Int) (l : List (Int × Nat)) (hf : 0 ≤ f ∧ f ≤ 4294967295) (hb : 0 ≤ b ∧ b ≤ 4294967295) (hw : ∀ p ∈ l, 0 ≤ p.1 ∧ p.1 < 65536 ∧ p.2 < 65536) (h1 : 1 ≤ l.length) (h2 : l.length ≤ 300) :
    nkE (nkPc f b l) = 0 ∧ nkF (nkPc f b l) = f ∧ nkA (nkPc f b l) = b ∧ nkPs (nkPc f b l) = l ∧ (nkPc f b l).body.size ≤ 1208 := by
  have hp : nkPc f b l = ⟨1, 205, ofL (be f 4 ++ be b 4 ++ nkB l)⟩ := by unfold nkPc; rw [if_pos ⟨h1, h2⟩]
  have hsz : (ofL (be f 4 ++ be b 4 ++ nkB l)).size = 8 + 4 * l.length := by rw [ofL_size]; simp only [List.length_append, be_len, nkB_len]
  have h0 : nkE (nkPc f b l) = 0 := by
    rw [hp]
    exact nkE_0 rfl rfl (by show ¬ (ofL (be f 4 ++ be b 4 ++ nkB l)).size < 12; omega) (by show ¬ ((ofL (be f 4 ++ be b 4 ++ nkB l)).size % 4 ≠ 0 ∨ 1208 < (ofL (be f 4 ++ be b 4 ++ nkB l)).size); omega)
  have hk := nkPc_back h0
  have hps := nkPs_len (nkPc f b l)
  have hpn : 1 ≤ (nkPs (nkPc f b l)).length := by
    have := (nkE_zero h0).2.2.2.2.1
    unfold nkPs
    rw [if_pos h0, nqsAt_len]
    exact this
  have hw2 := nkWf (nkPc f b l)
  have hF := nkF_rng (nkPc f b l)
  have hA := nkA_rng (nkPc f b l)
  have hbz : (nkPc f b l).body.size ≤ 1208 := by rw [hp]; show (ofL (be f 4 ++ be b 4 ++ nkB l)).size ≤ 1208; omega
  generalize nkF (nkPc f b l) = f' at hk hF ⊢
  generalize nkA (nkPc f b l) = b' at hk hA ⊢
  generalize nkPs (nkPc f b l) = l' at hk hps hpn hw2 ⊢
  refine ⟨h0, ?_⟩
  rw [hp] at hk
  unfold nkPc at hk
  rw [if_pos ⟨hpn, hps⟩] at hk
  simp only [PC.mk.injEq, true_and] at hk
  have hk2 := congrArg by_ hk
  rw [by_ofL, by_ofL] at hk2
  obtain ⟨e1, e2⟩ := List.append_inj hk2 (by simp only [List.length_append, be_len])
  obtain ⟨e3, e4⟩ := List.append_inj e1 (by rw [be_len, be_len])
  exact ⟨be4_inj hF hf e3, be4_inj hA hb e4, nkB_inj _ _ hw2 hw e2, hbz⟩
theorem RdP.toO {W : World} {a : Option Addr} {l : List (Int × Nat)} (h : RdP W a l) : RdO W a l := by
  rcases h with h | ⟨g, ha, _, hc⟩
  · exact .inl h
  · exact .inr ⟨g, 0, ha, fun i u hu => by rw [Nat.zero_add]; exact hc i u hu⟩
end Go.Proofs.Ytagimjaojpdfiaa
