/- What was packed is parsed again: plain facts. -/
import Derived.Test.YtilobmebfeenfaaRtpP
import Derived.Test.YtilobmebfeenfaaRtpQ
namespace Go.Proofs.Ytilobmebfeenfaa
open Go.RowKit
set_option linter.unusedVariables false
theorem rd_ahead (l r : List UInt8) (n : Int) (hn : n = l.length) : rd (ofL (l ++ r), 0) n = (ofL r, 0) := by
  obtain ⟨_, h2, h3⟩ := raw_ahead l r 0 n hn
  unfold rd
  rw [h2, h3]
theorem rawT_ahead (l r : List UInt8) (n : Int) (hn : n = l.length) : rawT (ofL (l ++ r)) n = ofL l := (raw_ahead l r 0 n hn).1
theorem bes_cons (x : Int) (l : List Int) (k : Nat) : bes (x :: l) k = be x k ++ bes l k := by simp [bes]
theorem rds_ahead (os : List Int) (r : List UInt8) : ∀ k, k ≤ os.length → rds (ofL (bes os 4 ++ r), 0) k = (ofL (bes (os.drop k) 4 ++ r), 0)
  | 0, _ => by simp [rds]
  | k + 1, h => by
    have e : os.drop k = os[k] :: os.drop (k + 1) := List.drop_eq_getElem_cons (by omega)
    show rd (rds _ k) 4 = _
    rw [rds_ahead os r k (by omega), e, bes_cons, List.append_assoc, rd_ahead _ _ 4 (by rw [be_len]; rfl)]
theorem osF_ahead (os : List Int) (r : List UInt8) (ho : ∀ x ∈ os, 0 ≤ x ∧ x ≤ 4294967295) : osF (ofL (bes os 4 ++ r), 0) os.length = os := by
  apply List.ext_getElem
  · rw [osF_len]
  · intro i h1 h2
    have e : os.drop i = os[i] :: os.drop (i + 1) := List.drop_eq_getElem_cons h2
    obtain ⟨x1, x2⟩ := ho os[i] (List.getElem_mem h2)
    simp only [osF, List.getElem_map, List.getElem_range]
    rw [rds_ahead os r i (by omega), e, bes_cons, List.append_assoc, rawT_ahead _ _ 4 (by rw [be_len]; rfl), by_ofL, getN_be4]
    omega
theorem lastN_pad (l : List UInt8) (n : Nat) (h1 : 1 ≤ n) (h2 : n ≤ 255) : lastN (ofL (l ++ padL n)) = n := by
  unfold lastN
  rw [by_ofL, ofL_size]
  have hp := padL_len n h1
  rw [List.length_append, hp, List.getElem?_append_right (by omega)]
  unfold padL
  rw [List.getElem?_append_right (by simp; omega)]
  simp only [List.length_replicate]
  rw [show l.length + n - 1 - l.length - (n - 1) = 0 from by omega]
  simp
  omega
theorem padOk_pad (l : List UInt8) (n : Nat) (h1 : 1 ≤ n) (h2 : n ≤ 255) : padOk (ofL (l ++ padL n)) := by
  have hl := lastN_pad l n h1 h2
  have hp := padL_len n h1
  unfold padOk
  rw [hl, ofL_size, List.length_append, hp]
  refine ⟨by omega, by omega, by omega, ?_⟩
  rw [ofL_extract _ _ _ (by rw [List.length_append, hp]; exact Nat.le_refl _), show l.length + n - n = l.length from by omega, List.take_of_length_le (by rw [List.length_append, hp]; exact Nat.le_refl _), List.drop_left]
/-- ONE WAY: a packet that may be is parsed from its bytes. -/
theorem parse_pack (p : PK) (hm : mayOk p) (hk : p.ok) : parseR (ofL (packL p)) = .inr p := by
  obtain ⟨⟨k1, k2, hl, hf, ht⟩, p1, p2⟩ := hm
  obtain ⟨⟨s1, s2⟩, ⟨t1, t2⟩, ⟨q1, q2⟩, hos⟩ := hk
  obtain ⟨mrk, kind, seq, time, source, others, hx, prof, ext, data, pad⟩ := p
  simp only at *
  have hA : ∃ A : Nat, 128 + (others.length : Int) + (if decide (0 < pad) then 32 else 0) + (if hx then 16 else 0) = (A : Int) ∧ A / 64 = 2 ∧ A % 16 = others.length ∧ (A / 16 % 2 = 1 ↔ hx = true) ∧ (A / 32 % 2 = 1 ↔ 0 < pad) ∧ A ≤ 255 ∧ others.length ≤ 15 := by
    by_cases h0 : 0 < pad <;> cases hx
    · exact ⟨160 + others.length, by simp [h0]; omega, by omega, by omega, by simp; omega, by simp [h0]; omega, by omega, hl⟩
    · exact ⟨176 + others.length, by simp [h0]; omega, by omega, by omega, by simp; omega, by simp [h0]; omega, by omega, hl⟩
    · exact ⟨128 + others.length, by simp [h0], by omega, by omega, by simp; omega, by simp [h0]; omega, by omega, hl⟩
    · exact ⟨144 + others.length, by simp [h0]; omega, by omega, by omega, by simp; omega, by simp [h0]; omega, by omega, hl⟩
  obtain ⟨A, eA, A1, A2, A3, A4, A5, _⟩ := hA
  have hB : ∃ S : Nat, kind + (if mrk then 128 else 0) = (S : Int) ∧ (decide (S / 128 = 1)) = mrk ∧ ((S % 128 : Nat) : Int) = kind ∧ S ≤ 255 := by
    cases mrk
    · exact ⟨kind.toNat, by simp; omega, by simp; omega, by omega, by omega⟩
    · exact ⟨(kind + 128).toNat, by simp; omega, by simp; omega, by omega, by omega⟩
  obtain ⟨S, eS, S1, S2, S3⟩ := hB
  have hpk : packL ⟨mrk, kind, seq, time, source, others, hx, prof, ext, data, pad⟩ = be (A : Int) 1 ++ (be (S : Int) 1 ++ (be seq 2 ++ (be time 4 ++ (be source 4 ++ (bes others 4 ++ ((if hx then be prof 2 ++ be ((ext.size / 4 : Nat) : Int) 2 ++ by_ ext else []) ++ (by_ data ++ (if 0 < pad then padL pad.toNat else [])))))))) := by
    unfold packL hdrL
    simp only
    rw [eA, eS]
    simp only [List.append_assoc]
  rw [hpk]
  generalize hE : (if hx then be prof 2 ++ be ((ext.size / 4 : Nat) : Int) 2 ++ by_ ext else []) = E
  generalize hD : by_ data ++ (if 0 < pad then padL pad.toNat else []) = D
  have g1 : getN (by_ (rawT (ofL (be (A : Int) 1 ++ (be (S : Int) 1 ++ (be seq 2 ++ (be time 4 ++ (be source 4 ++ (bes others 4 ++ (E ++ D)))))))) 1)) = A := by
    rw [rawT_ahead _ _ 1 (by rw [be_len]; rfl), by_ofL]
    have := getN_be1 (A : Int)
    omega
  have g2 : rd (ofL (be (A : Int) 1 ++ (be (S : Int) 1 ++ (be seq 2 ++ (be time 4 ++ (be source 4 ++ (bes others 4 ++ (E ++ D))))))), 0) 1 = (ofL (be (S : Int) 1 ++ (be seq 2 ++ (be time 4 ++ (be source 4 ++ (bes others 4 ++ (E ++ D)))))), 0) := rd_ahead _ _ 1 (by rw [be_len]; rfl)
  have hsz : ¬ (ofL (be (A : Int) 1 ++ (be (S : Int) 1 ++ (be seq 2 ++ (be time 4 ++ (be source 4 ++ (bes others 4 ++ (E ++ D)))))))).size < 12 := by
    rw [ofL_size]; simp only [List.length_append, be_len]; omega
  have hH : hdrR (ofL (be (S : Int) 1 ++ (be seq 2 ++ (be time 4 ++ (be source 4 ++ (bes others 4 ++ (E ++ D))))))) A = (⟨mrk, kind, seq, time, source, others, hx, prof, ext, { data := #[] }, 0⟩, (ofL D, 0)) := by
    have b1 : rd (ofL (be (S : Int) 1 ++ (be seq 2 ++ (be time 4 ++ (be source 4 ++ (bes others 4 ++ (E ++ D)))))), 0) 1 = (ofL (be seq 2 ++ (be time 4 ++ (be source 4 ++ (bes others 4 ++ (E ++ D))))), 0) := rd_ahead _ _ 1 (by rw [be_len]; rfl)
    have b2 : rd (ofL (be seq 2 ++ (be time 4 ++ (be source 4 ++ (bes others 4 ++ (E ++ D))))), 0) 2 = (ofL (be time 4 ++ (be source 4 ++ (bes others 4 ++ (E ++ D)))), 0) := rd_ahead _ _ 2 (by rw [be_len]; rfl)
    have b3 : rd (ofL (be time 4 ++ (be source 4 ++ (bes others 4 ++ (E ++ D)))), 0) 4 = (ofL (be source 4 ++ (bes others 4 ++ (E ++ D))), 0) := rd_ahead _ _ 4 (by rw [be_len]; rfl)
    have b4 : rd (ofL (be source 4 ++ (bes others 4 ++ (E ++ D))), 0) 4 = (ofL (bes others 4 ++ (E ++ D)), 0) := rd_ahead _ _ 4 (by rw [be_len]; rfl)
    have b5 : rds (ofL (bes others 4 ++ (E ++ D)), 0) others.length = (ofL (E ++ D), 0) := by
      rw [rds_ahead others (E ++ D) others.length (Nat.le_refl _), List.drop_length]; rfl
    have v1 : getN (by_ (rawT (ofL (be (S : Int) 1 ++ (be seq 2 ++ (be time 4 ++ (be source 4 ++ (bes others 4 ++ (E ++ D))))))) 1)) = S := by
      rw [rawT_ahead _ _ 1 (by rw [be_len]; rfl), by_ofL]
      have := getN_be1 (S : Int)
      omega
    have v2 : (getN (by_ (rawT (ofL (be seq 2 ++ (be time 4 ++ (be source 4 ++ (bes others 4 ++ (E ++ D)))))) 2)) : Int) = seq := by
      rw [rawT_ahead _ _ 2 (by rw [be_len]; rfl), by_ofL, getN_be2]; omega
    have v3 : (getN (by_ (rawT (ofL (be time 4 ++ (be source 4 ++ (bes others 4 ++ (E ++ D))))) 4)) : Int) = time := by
      rw [rawT_ahead _ _ 4 (by rw [be_len]; rfl), by_ofL, getN_be4]; omega
    have v4 : (getN (by_ (rawT (ofL (be source 4 ++ (bes others 4 ++ (E ++ D)))) 4)) : Int) = source := by
      rw [rawT_ahead _ _ 4 (by rw [be_len]; rfl), by_ofL, getN_be4]; omega
    have v5 := osF_ahead others (E ++ D) hos
    unfold hdrR
    simp only [b1, b2, b3, b4, A2, b5, v1, v2, v3, v4, v5]
    cases hx
    · have hA3 : ¬ A / 16 % 2 = 1 := fun h => by have := A3.1 h; cases this
      obtain ⟨f1, f2⟩ := hf rfl
      have hE' : E = [] := by rw [← hE]; rfl
      simp only [if_neg hA3, hE', List.nil_append]
      rw [S1, S2, f1, empty_of_size f2, decide_eq_false hA3]
    · have hA3 : A / 16 % 2 = 1 := A3.2 rfl
      obtain ⟨f1, f2, f3, f4⟩ := ht rfl
      have hE' : E ++ D = be prof 2 ++ (be ((ext.size / 4 : Nat) : Int) 2 ++ (by_ ext ++ D)) := by rw [← hE]; simp
      have w1 : rd (ofL (be prof 2 ++ (be ((ext.size / 4 : Nat) : Int) 2 ++ (by_ ext ++ D))), 0) 2 = (ofL (be ((ext.size / 4 : Nat) : Int) 2 ++ (by_ ext ++ D)), 0) := rd_ahead _ _ 2 (by rw [be_len]; rfl)
      have w2 : rd (ofL (be ((ext.size / 4 : Nat) : Int) 2 ++ (by_ ext ++ D)), 0) 2 = (ofL (by_ ext ++ D), 0) := rd_ahead _ _ 2 (by rw [be_len]; rfl)
      have x1 : (getN (by_ (rawT (ofL (be prof 2 ++ (be ((ext.size / 4 : Nat) : Int) 2 ++ (by_ ext ++ D)))) 2)) : Int) = prof := by
        rw [rawT_ahead _ _ 2 (by rw [be_len]; rfl), by_ofL, getN_be2]; omega
      have x2 : 4 * (getN (by_ (rawT (ofL (be ((ext.size / 4 : Nat) : Int) 2 ++ (by_ ext ++ D))) 2)) : Int) = ((by_ ext).length : Int) := by
        rw [rawT_ahead _ _ 2 (by rw [be_len]; rfl), by_ofL, getN_be2, by_len]; omega
      have w3 : rd (ofL (by_ ext ++ D), 0) ((by_ ext).length : Int) = (ofL D, 0) := rd_ahead _ _ _ rfl
      have x3 : rawT (ofL (by_ ext ++ D)) ((by_ ext).length : Int) = ext := by rw [rawT_ahead _ _ _ rfl, ofL_by]
      simp only [if_pos hA3, hE', w1, w2, x1, x2, w3, x3]
      rw [S1, S2, decide_eq_true hA3]
  have hn1 : ¬ getN (by_ (rawT (ofL (be (A : Int) 1 ++ (be (S : Int) 1 ++ (be seq 2 ++ (be time 4 ++ (be source 4 ++ (bes others 4 ++ (E ++ D)))))))) 1)) / 64 ≠ 2 := by rw [g1]; omega
  have hh := hH
  rw [← g1] at hh
  have e1 : (rd (ofL (be (A : Int) 1 ++ (be (S : Int) 1 ++ (be seq 2 ++ (be time 4 ++ (be source 4 ++ (bes others 4 ++ (E ++ D))))))), 0) 1).1 = ofL (be (S : Int) 1 ++ (be seq 2 ++ (be time 4 ++ (be source 4 ++ (bes others 4 ++ (E ++ D)))))) := by rw [g2]
  rw [← e1] at hh
  by_cases h0 : 0 < pad
  · have hpo : padOk (ofL D) := by rw [← hD, if_pos h0]; exact padOk_pad _ _ (by omega) (by omega)
    have hla : lastN (ofL D) = pad.toNat := by rw [← hD, if_pos h0]; exact lastN_pad _ _ (by omega) (by omega)
    rw [parseR3 _ hsz hn1 (by rw [hh]; simp) (by rw [g1]; exact A4.2 h0) (by rw [hh]; exact hpo), hh]
    simp only [hla]
    have hd2 : (ofL D).extract 0 ((ofL D).size - pad.toNat) = data := by
      have hp := padL_len pad.toNat (by omega)
      rw [ofL_size, ← hD, if_pos h0, List.length_append, hp, ofL_extract _ _ _ (by rw [List.length_append, hp]; omega), show (by_ data).length + pad.toNat - pad.toNat = (by_ data).length from by omega, List.take_left, List.drop_zero, ofL_by]
    rw [hd2]
    congr 2
    omega
  · rw [parseR5 _ hsz hn1 (by rw [hh]; simp) (by rw [g1]; exact fun h => h0 (A4.1 h)), hh]
    simp only
    rw [← hD, if_neg h0, List.append_nil, ofL_by]
    congr 2
    omega
end Go.Proofs.Ytilobmebfeenfaa
