/- rtp: what the document's Parse finds; whose bytes a parsed packet's are: plain facts. -/
import Derived.Test.YtilobmebfeenfaaRtpM
import Derived.Test.YtilobmebfeenfaaByM
import Derived.Test.YtilobmebfeenfaaApartW
namespace Go.Proofs.Ytilobmebfeenfaa
open Go.RowKit rtpApart
set_option linter.unusedVariables false
def osA (s : ByteArray) (k : Nat) : List Int := (List.range k).map fun i => (gN s (12 + 4 * i) (12 + 4 * i + 4) : Int)
theorem osA_succ (s : ByteArray) (k : Nat) : osA s (k + 1) = osA s k ++ [(gN s (12 + 4 * k) (12 + 4 * k + 4) : Int)] := by simp [osA, List.range_succ]
theorem osA_len (s : ByteArray) (k : Nat) : (osA s k).length = k := by simp [osA]
def hpA (s : ByteArray) (n : Nat) (hx : Bool) (prof : Int) (ext data : ByteArray) (pad : Int) : PK := ⟨decide (128 ≤ fB s 1), ((fB s 1 % 128 : Nat) : Int), gN s 2 4, gN s 4 8, gN s 8 12, osA s n, hx, prof, ext, data, pad⟩
instance padOk_dec (s : ByteArray) : Decidable (padOk s) := decidable_of_iff _ (padOk_iff s).symm
/-- The last step: the padding. -/
def finP (s : ByteArray) (hx : Bool) (at_ : Nat) (prof : Int) (ext : ByteArray) : Sum Int PK :=
  if fB s 0 / 32 % 2 = 1 then
    if padOk (s.extract at_ s.size) then .inr (hpA s (fB s 0 % 16) hx prof ext ((s.extract at_ s.size).extract 0 ((s.extract at_ s.size).size - lastN (s.extract at_ s.size))) (lastN (s.extract at_ s.size) : Nat)) else .inl 1
  else .inr (hpA s (fB s 0 % 16) hx prof ext (s.extract at_ s.size) 0)
/-- What the document's Parse finds. -/
def refP (s : ByteArray) : Sum Int PK :=
  if s.size < 12 then .inl 2 else
  if fB s 0 / 64 ≠ 2 then .inl 1 else
  if s.size < 12 + 4 * (fB s 0 % 16) then .inl 2 else
  if fB s 0 / 16 % 2 = 1 then
    if s.size < 16 + 4 * (fB s 0 % 16) then .inl 2 else
    if s.size < 16 + 4 * (fB s 0 % 16) + 4 * gN s (14 + 4 * (fB s 0 % 16)) (16 + 4 * (fB s 0 % 16)) then .inl 2 else
    finP s true (16 + 4 * (fB s 0 % 16) + 4 * gN s (14 + 4 * (fB s 0 % 16)) (16 + 4 * (fB s 0 % 16))) (gN s (12 + 4 * (fB s 0 % 16)) (14 + 4 * (fB s 0 % 16)) : Nat) (s.extract (16 + 4 * (fB s 0 % 16)) (16 + 4 * (fB s 0 % 16) + 4 * gN s (14 + 4 * (fB s 0 % 16)) (16 + 4 * (fB s 0 % 16))))
  else finP s false (12 + 4 * (fB s 0 % 16)) 0 { data := #[] }

theorem bes_osA (s : ByteArray) : ∀ k, 12 + 4 * k ≤ s.size → bes (osA s k) 4 = sl s 12 (12 + 4 * k)
  | 0, _ => by
    have h : (sl s 12 (12 + 4 * 0)).length = 0 := by unfold sl; rw [by_len, ByteArray.size_extract]; omega
    rw [List.length_eq_zero_iff.1 h]; rfl
  | k + 1, h => by
    rw [osA_succ, bes_snoc, bes_osA s k (by omega), be_sl s _ _ 4 (by omega) rfl, sl_cat s _ _ _ (by omega) (by omega) (by omega)]
    rfl
theorem packL_zero (p : PK) (h : p.pad = 0) : packL p = hdrL p false ++ by_ p.data := by
  unfold packL
  rw [h]
  simp
/-- Behind the header. -/
theorem hdrL_sl (s : ByteArray) (n : Nat) (hx : Bool) (at_ : Nat) (prof : Int) (ext data : ByteArray) (pad : Int) (pd : Bool) (h12 : 12 + 4 * n ≤ at_) (hat : at_ ≤ s.size)
    (hF : (fB s 0 : Int) = 128 + (n : Int) + (if pd then 32 else 0) + (if hx then 16 else 0))
    (hE : (if hx then be prof 2 ++ be ((ext.size / 4 : Nat) : Int) 2 ++ by_ ext else []) = sl s (12 + 4 * n) at_) : hdrL (hpA s n hx prof ext data pad) pd = sl s 0 at_ := by
  have hb := fB_lt s 1
  unfold hdrL hpA
  simp only [osA_len]
  rw [hE, ← hF, be_1 _ (fB_lt s 0), ← fB_sl s 0 (by omega)]
  have hG : (((fB s 1 % 128 : Nat) : Int) + (if decide (128 ≤ fB s 1) = true then 128 else 0)) = ((fB s 1 : Nat) : Int) := by
    by_cases h : 128 ≤ fB s 1
    · rw [if_pos (by simpa using h)]; omega
    · rw [if_neg (by simpa using h)]; omega
  rw [hG, be_1 _ hb, ← fB_sl s 1 (by omega), be_sl s 2 4 2 (by omega) rfl, be_sl s 4 8 4 (by omega) rfl, be_sl s 8 12 4 (by omega) rfl, bes_osA s n (by omega)]
  rw [sl_cat s 0 (0 + 1) (1 + 1) (by omega) (by omega) (by omega), sl_cat s 0 (1 + 1) 4 (by omega) (by omega) (by omega), sl_cat s 0 4 8 (by omega) (by omega) (by omega), sl_cat s 0 8 12 (by omega) (by omega) (by omega), sl_cat s 0 12 _ (by omega) (by omega) (by omega), sl_cat s 0 _ _ (by omega) (by omega) (by omega)]
theorem hpA_ok (s : ByteArray) (n : Nat) (hx : Bool) (prof : Int) (ext data : ByteArray) (pad : Int) : (hpA s n hx prof ext data pad).ok := by
  have h2 := gN_lt s 2 4 2 (by omega)
  have h4 := gN_lt s 4 8 4 (by omega)
  have h8 := gN_lt s 8 12 4 (by omega)
  refine ⟨⟨by show (0 : Int) ≤ (gN s 2 4 : Nat); omega, by show ((gN s 2 4 : Nat) : Int) ≤ _; omega⟩, ⟨by show (0 : Int) ≤ (gN s 4 8 : Nat); omega, by show ((gN s 4 8 : Nat) : Int) ≤ _; omega⟩, ⟨by show (0 : Int) ≤ (gN s 8 12 : Nat); omega, by show ((gN s 8 12 : Nat) : Int) ≤ _; omega⟩, ?_⟩
  intro x hx'
  obtain ⟨i, _, rfl⟩ := List.mem_map.1 (show x ∈ osA s n from hx')
  have := gN_lt s (12 + 4 * i) (12 + 4 * i + 4) 4 (by omega)
  omega
theorem lastN_lt (s : ByteArray) : lastN s < 256 := UInt8.toNat_lt _
theorem fin_pack (s : ByteArray) (hx : Bool) (at_ : Nat) (prof : Int) (ext : ByteArray) (p : PK) (h64 : fB s 0 / 64 = 2) (hhx : hx = true ↔ fB s 0 / 16 % 2 = 1) (h12 : 12 + 4 * (fB s 0 % 16) ≤ at_) (hat : at_ ≤ s.size)
    (hE : (if hx then be prof 2 ++ be ((ext.size / 4 : Nat) : Int) 2 ++ by_ ext else []) = sl s (12 + 4 * (fB s 0 % 16)) at_)
    (hm0 : hx = false → prof = 0 ∧ ext.size = 0) (hm1 : hx = true → 0 ≤ prof ∧ prof ≤ 65535 ∧ ext.size % 4 = 0 ∧ ext.size ≤ 262140) (h : finP s hx at_ prof ext = .inr p) : mayOk p ∧ p.ok ∧ ofL (packL p) = s := by
  have hb := fB_lt s 0
  have hG := fB_lt s 1
  have hx16 : (if hx then (16 : Int) else 0) = 16 * ((fB s 0 / 16 % 2 : Nat) : Int) := by
    cases hx
    · have : ¬ fB s 0 / 16 % 2 = 1 := fun e => by cases hhx.2 e
      rw [if_neg (by simp)]; omega
    · have := hhx.1 rfl
      rw [if_pos rfl]; omega
  unfold finP at h
  by_cases hp : fB s 0 / 32 % 2 = 1
  · rw [if_pos hp] at h
    by_cases hpo : padOk (s.extract at_ s.size)
    · rw [if_pos hpo] at h
      obtain rfl := Sum.inr.inj h
      obtain ⟨q0, q1, q2, q3⟩ := hpo
      have hl := lastN_lt (s.extract at_ s.size)
      have hds : (s.extract at_ s.size).size = s.size - at_ := by rw [ByteArray.size_extract]; omega
      refine ⟨⟨⟨by show (0 : Int) ≤ ((fB s 1 % 128 : Nat) : Int); omega, by show ((fB s 1 % 128 : Nat) : Int) ≤ 127; omega, by show (osA s _).length ≤ 15; rw [osA_len]; omega, hm0, hm1⟩, by show (0 : Int) ≤ ((lastN _ : Nat) : Int); omega, by show ((lastN _ : Nat) : Int) ≤ 255; omega⟩, hpA_ok _ _ _ _ _ _ _, ?_⟩
      have h0 : (0 : Int) < ((lastN (s.extract at_ s.size) : Nat) : Int) := by omega
      unfold packL
      have hpp : (hpA s (fB s 0 % 16) hx prof ext ((s.extract at_ s.size).extract 0 ((s.extract at_ s.size).size - lastN (s.extract at_ s.size))) (lastN (s.extract at_ s.size) : Nat)).pad = ((lastN (s.extract at_ s.size) : Nat) : Int) := rfl
      have hpd : (hpA s (fB s 0 % 16) hx prof ext ((s.extract at_ s.size).extract 0 ((s.extract at_ s.size).size - lastN (s.extract at_ s.size))) (lastN (s.extract at_ s.size) : Nat)).data = (s.extract at_ s.size).extract 0 ((s.extract at_ s.size).size - lastN (s.extract at_ s.size)) := rfl
      rw [hpp, hpd, if_pos h0, decide_eq_true h0, hdrL_sl s _ hx at_ prof ext _ _ true h12 hat (by rw [if_pos rfl, hx16]; omega) hE, Int.toNat_natCast]
      have e1 : by_ ((s.extract at_ s.size).extract 0 ((s.extract at_ s.size).size - lastN (s.extract at_ s.size))) ++ padL (lastN (s.extract at_ s.size)) = sl s at_ s.size := by
        rw [← by_ofL (padL (lastN (s.extract at_ s.size))), ← q3]
        show sl (s.extract at_ s.size) 0 _ ++ sl (s.extract at_ s.size) _ _ = _
        rw [sl_cat _ _ _ _ (by omega) (by omega) (Nat.le_refl _), sl_all]
        rfl
      rw [List.append_assoc, e1, sl_cat s _ _ _ (by omega) hat (Nat.le_refl _), sl_all, ofL_by]
    · rw [if_neg hpo] at h; cases h
  · rw [if_neg hp] at h
    obtain rfl := Sum.inr.inj h
    refine ⟨⟨⟨by show (0 : Int) ≤ ((fB s 1 % 128 : Nat) : Int); omega, by show ((fB s 1 % 128 : Nat) : Int) ≤ 127; omega, by show (osA s _).length ≤ 15; rw [osA_len]; omega, hm0, hm1⟩, by show (0 : Int) ≤ 0; decide, by show (0 : Int) ≤ 255; decide⟩, hpA_ok _ _ _ _ _ _ _, ?_⟩
    rw [packL_zero _ rfl, hdrL_sl s _ hx at_ prof ext _ _ false h12 hat (by rw [if_neg (by decide), hx16]; omega) hE]
    show ofL (sl s 0 at_ ++ sl s at_ s.size) = s
    rw [sl_cat s _ _ _ (by omega) hat (Nat.le_refl _), sl_all, ofL_by]
/-- Whose bytes they are. -/
theorem ref_pack (s : ByteArray) (p : PK) (h : refP s = .inr p) : mayOk p ∧ p.ok ∧ ofL (packL p) = s := by
  unfold refP at h
  by_cases h1 : s.size < 12
  · rw [if_pos h1] at h; cases h
  rw [if_neg h1] at h
  by_cases h2 : fB s 0 / 64 ≠ 2
  · rw [if_pos h2] at h; cases h
  rw [if_neg h2] at h
  have h64 : fB s 0 / 64 = 2 := by omega
  by_cases h3 : s.size < 12 + 4 * (fB s 0 % 16)
  · rw [if_pos h3] at h; cases h
  rw [if_neg h3] at h
  by_cases h4 : fB s 0 / 16 % 2 = 1
  · rw [if_pos h4] at h
    by_cases h5 : s.size < 16 + 4 * (fB s 0 % 16)
    · rw [if_pos h5] at h; cases h
    rw [if_neg h5] at h
    by_cases h6 : s.size < 16 + 4 * (fB s 0 % 16) + 4 * gN s (14 + 4 * (fB s 0 % 16)) (16 + 4 * (fB s 0 % 16))
    · rw [if_pos h6] at h; cases h
    rw [if_neg h6] at h
    have g1 := gN_lt s (12 + 4 * (fB s 0 % 16)) (14 + 4 * (fB s 0 % 16)) 2 (by omega)
    have g2 := gN_lt s (14 + 4 * (fB s 0 % 16)) (16 + 4 * (fB s 0 % 16)) 2 (by omega)
    have e1 := be_sl s (12 + 4 * (fB s 0 % 16)) (14 + 4 * (fB s 0 % 16)) 2 (by omega) (by omega)
    have e2 := be_sl s (14 + 4 * (fB s 0 % 16)) (16 + 4 * (fB s 0 % 16)) 2 (by omega) (by omega)
    generalize gN s (12 + 4 * (fB s 0 % 16)) (14 + 4 * (fB s 0 % 16)) = pr at *
    generalize gN s (14 + 4 * (fB s 0 % 16)) (16 + 4 * (fB s 0 % 16)) = m at *
    have es : (s.extract (16 + 4 * (fB s 0 % 16)) (16 + 4 * (fB s 0 % 16) + 4 * m)).size = 4 * m := by rw [ByteArray.size_extract]; omega
    refine fin_pack s true _ _ _ p h64 ⟨fun _ => h4, fun _ => rfl⟩ (by omega) (by omega) ?_ (fun h => by cases h) (fun _ => ⟨by omega, by omega, by rw [es]; omega, by rw [es]; omega⟩) h
    rw [if_pos rfl, e1, es, show 4 * m / 4 = m from by omega, e2, sl_cat s _ _ _ (by omega) (by omega) (by omega)]
    show sl s _ _ ++ sl s _ _ = _
    rw [sl_cat s _ _ _ (by omega) (by omega) (by omega)]
  · rw [if_neg h4] at h
    refine fin_pack s false _ _ _ p h64 ⟨fun h => (by cases h), fun h => absurd h h4⟩ (Nat.le_refl _) (by omega) ?_ (fun _ => ⟨rfl, rfl⟩) (fun h => by cases h) h
    have hz : (sl s (12 + 4 * (fB s 0 % 16)) (12 + 4 * (fB s 0 % 16))).length = 0 := by rw [sl_len s _ _ (by omega)]; omega
    rw [List.length_eq_zero_iff.1 hz]
    rfl
theorem rds_st (s : ByteArray) (h : 12 ≤ s.size) : ∀ k, rds (stA s 12) k = if s.size < 12 + 4 * k then dead else stA s (12 + 4 * k)
  | 0 => by rw [if_neg (by omega)]; rfl
  | k + 1 => by
    show rd (rds (stA s 12) k) 4 = _
    rw [rds_st s h k]
    by_cases h1 : s.size < 12 + 4 * k
    · rw [if_pos h1, if_pos (by omega), rd_dead]
    · rw [if_neg h1]
      have := rd_st s (12 + 4 * k) 4 (by omega)
      exact this
theorem osF_st (s : ByteArray) (k : Nat) (h : 12 + 4 * k ≤ s.size) : osF (stA s 12) k = osA s k := by
  unfold osF osA
  apply List.map_congr_left
  intro i hi
  rw [List.mem_range] at hi
  rw [rds_st s (by omega) i, if_neg (by omega)]
  have := rawT_st s (12 + 4 * i) 4 (by omega)
  show ((getN (by_ (rawT (s.extract (12 + 4 * i) s.size) ((4 : Nat) : Int))) : Nat) : Int) = _
  rw [this]
  rfl
theorem getN_one (s : ByteArray) (i : Nat) (h : i < s.size) : getN (by_ (s.extract i (i + 1))) = fB s i := by
  have := fB_sl s i h
  unfold sl at this
  rw [this]
  have hb := fB_lt s i
  show 256 * 0 + (UInt8.ofNat (fB s i)).toNat = _
  rw [UInt8.toNat_ofNat_of_lt' (by omega)]
  omega
theorem hdr_all (s : ByteArray) (F : Nat) (h : 12 ≤ s.size) : hdrR (s.extract 1 s.size) F =
    (⟨decide (fB s 1 / 128 = 1), ((fB s 1 % 128 : Nat) : Int), gN s 2 4, gN s 4 8, gN s 8 12, osF (stA s 12) (F % 16), decide (F / 16 % 2 = 1),
      if F / 16 % 2 = 1 then (getN (by_ (rawT (rds (stA s 12) (F % 16)).1 2)) : Int) else 0, if F / 16 % 2 = 1 then rawT (rd (rd (rds (stA s 12) (F % 16)) 2) 2).1 (4 * (getN (by_ (rawT (rd (rds (stA s 12) (F % 16)) 2).1 2)) : Int)) else { data := #[] }, { data := #[] }, 0⟩,
     if F / 16 % 2 = 1 then rd (rd (rd (rds (stA s 12) (F % 16)) 2) 2) (4 * (getN (by_ (rawT (rd (rds (stA s 12) (F % 16)) 2).1 2)) : Int)) else rds (stA s 12) (F % 16)) := by
  have r1 : rd (s.extract 1 s.size, 0) 1 = stA s 2 := by have := rd_st s 1 1 (by omega); rw [if_neg (by omega)] at this; exact this
  have r2 : rd (stA s 2) 2 = stA s 4 := by have := rd_st s 2 2 (by omega); rw [if_neg (by omega)] at this; exact this
  have r3 : rd (stA s 4) 4 = stA s 8 := by have := rd_st s 4 4 (by omega); rw [if_neg (by omega)] at this; exact this
  have r4 : rd (stA s 8) 4 = stA s 12 := by have := rd_st s 8 4 (by omega); rw [if_neg (by omega)] at this; exact this
  have t0 : rawT (s.extract 1 s.size) 1 = s.extract 1 2 := rawT_st s 1 1 (by omega)
  have t1 : rawT (stA s 2).1 2 = s.extract 2 4 := rawT_st s 2 2 (by omega)
  have t2 : rawT (stA s 4).1 4 = s.extract 4 8 := rawT_st s 4 4 (by omega)
  have t3 : rawT (stA s 8).1 4 = s.extract 8 12 := rawT_st s 8 4 (by omega)
  unfold hdrR
  simp only [r1, r2, r3, r4, t0, t1, t2, t3]
  rw [getN_one s 1 (by omega)]
  rfl
theorem mrk_eq (s : ByteArray) : decide (fB s 1 / 128 = 1) = decide (128 ≤ fB s 1) := by
  have := fB_lt s 1
  rw [Bool.eq_iff_iff, decide_eq_true_eq, decide_eq_true_eq]
  omega
/-- The program's Parse and the document's find the same. -/
theorem parse_ref (s : ByteArray) : parseR s = refP s := by
  unfold refP
  by_cases h1 : s.size < 12
  · rw [if_pos h1]; unfold parseR; rw [if_pos h1]
  rw [if_neg h1]
  have g1 : getN (by_ (rawT s 1)) = fB s 0 := by
    have h0 : s.extract 0 s.size = s := by apply by_inj; rw [by_extract _ _ _ (Nat.le_refl _), take_all, List.drop_zero]
    have := rawT_st s 0 1 (by omega)
    rw [h0] at this
    show getN (by_ (rawT s ((1 : Nat) : Int))) = _
    rw [this]
    exact getN_one s 0 (by omega)
  have r0 : (rd (s, 0) 1).1 = s.extract 1 s.size := by
    have h0 : s.extract 0 s.size = s := by apply by_inj; rw [by_extract _ _ _ (Nat.le_refl _), take_all, List.drop_zero]
    have := rd_st s 0 1 (by omega)
    rw [if_neg (by omega)] at this
    have e : stA s 0 = (s, 0) := by unfold stA; rw [h0]
    rw [e] at this
    exact congrArg Prod.fst this
  have R1 := parseR1 s h1
  have R2 := parseR2 s h1
  have R3 := parseR3 s h1
  have R4 := parseR4 s h1
  have R5 := parseR5 s h1
  rw [g1] at R1
  rw [g1, r0] at R2 R3 R4 R5
  by_cases h2 : fB s 0 / 64 ≠ 2
  · rw [if_pos h2, R1 h2]
  rw [if_neg h2]
  replace R2 := R2 h2
  replace R3 := R3 h2
  replace R4 := R4 h2
  replace R5 := R5 h2
  have hh := hdr_all s (fB s 0) (by omega)
  have hrs := rds_st s (by omega) (fB s 0 % 16)
  by_cases h3 : s.size < 12 + 4 * (fB s 0 % 16)
  · rw [if_pos h3]
    rw [if_pos h3] at hrs
    have e2 : (hdrR (s.extract 1 s.size) (fB s 0)).2 = dead := by
      rw [hh, hrs]
      show (if fB s 0 / 16 % 2 = 1 then rd (rd (rd dead 2) 2) _ else dead) = dead
      split
      · rw [rd_dead, rd_dead, rd_dead]
      · rfl
    rw [R2 (by rw [e2]; decide), e2]
    rfl
  rw [if_neg h3]
  rw [if_neg h3] at hrs
  have ho := osF_st s (fB s 0 % 16) (by omega)
  have hfin : ∀ (hx : Bool) (c : Nat) (prof : Int) (ext : ByteArray), hdrR (s.extract 1 s.size) (fB s 0) = (hpA s (fB s 0 % 16) hx prof ext { data := #[] } 0, stA s c) → parseR s = finP s hx c prof ext := by
    intro hx c prof ext he
    have z : ¬ (hdrR (s.extract 1 s.size) (fB s 0)).2.2 ≠ 0 := by rw [he]; exact fun h => h rfl
    have R3' := R3 z
    have R4' := R4 z
    have R5' := R5 z
    rw [he] at R3' R4' R5'
    unfold finP
    by_cases h5 : fB s 0 / 32 % 2 = 1
    · rw [if_pos h5]
      by_cases h6 : padOk (s.extract c s.size)
      · rw [if_pos h6, R3' h5 h6]; rfl
      · rw [if_neg h6, R4' h5 h6]
    · rw [if_neg h5, R5' h5]; rfl
  by_cases h4 : fB s 0 / 16 % 2 = 1
  · rw [if_pos h4]
    have d6 := rd_st s (12 + 4 * (fB s 0 % 16)) 2 (by omega)
    by_cases h5 : s.size < 16 + 4 * (fB s 0 % 16)
    · rw [if_pos h5]
      have d7 : rd (rd (stA s (12 + 4 * (fB s 0 % 16))) 2) 2 = dead := by
        by_cases h6 : s.size < 12 + 4 * (fB s 0 % 16) + 2
        · rw [if_pos h6] at d6
          rw [show rd (stA s (12 + 4 * (fB s 0 % 16))) 2 = dead from d6, rd_dead]
        · rw [if_neg h6] at d6
          have d8 := rd_st s (12 + 4 * (fB s 0 % 16) + 2) 2 (by omega)
          rw [if_pos (by omega)] at d8
          rw [show rd (stA s (12 + 4 * (fB s 0 % 16))) 2 = stA s (12 + 4 * (fB s 0 % 16) + 2) from d6]
          exact d8
      have e2 : (hdrR (s.extract 1 s.size) (fB s 0)).2 = dead := by
        rw [hh, hrs]
        show (if fB s 0 / 16 % 2 = 1 then rd (rd (rd (stA s (12 + 4 * (fB s 0 % 16))) 2) 2) _ else _) = dead
        rw [if_pos h4, d7, rd_dead]
      rw [R2 (by rw [e2]; decide), e2]
      rfl
    rw [if_neg h5]
    rw [if_neg (by omega)] at d6
    have e6 : rd (stA s (12 + 4 * (fB s 0 % 16))) 2 = stA s (14 + 4 * (fB s 0 % 16)) := by rw [show 14 + 4 * (fB s 0 % 16) = 12 + 4 * (fB s 0 % 16) + 2 from by omega]; exact d6
    have e7 : rd (stA s (14 + 4 * (fB s 0 % 16))) 2 = stA s (16 + 4 * (fB s 0 % 16)) := by
      have d8 := rd_st s (14 + 4 * (fB s 0 % 16)) 2 (by omega)
      rw [if_neg (by omega)] at d8
      rw [show 16 + 4 * (fB s 0 % 16) = 14 + 4 * (fB s 0 % 16) + 2 from by omega]
      exact d8
    have t6 : rawT (stA s (12 + 4 * (fB s 0 % 16))).1 2 = s.extract (12 + 4 * (fB s 0 % 16)) (14 + 4 * (fB s 0 % 16)) := by
      rw [show 14 + 4 * (fB s 0 % 16) = 12 + 4 * (fB s 0 % 16) + 2 from by omega]
      exact rawT_st s _ 2 (by omega)
    have t7 : rawT (stA s (14 + 4 * (fB s 0 % 16))).1 2 = s.extract (14 + 4 * (fB s 0 % 16)) (16 + 4 * (fB s 0 % 16)) := by
      rw [show 16 + 4 * (fB s 0 % 16) = 14 + 4 * (fB s 0 % 16) + 2 from by omega]
      exact rawT_st s _ 2 (by omega)
    rw [hrs, ho, if_pos h4, if_pos h4, if_pos h4, e6, e7, t6, t7] at hh
    have d9 := rd_st s (16 + 4 * (fB s 0 % 16)) (4 * gN s (14 + 4 * (fB s 0 % 16)) (16 + 4 * (fB s 0 % 16))) (by omega)
    have hc : ((4 * gN s (14 + 4 * (fB s 0 % 16)) (16 + 4 * (fB s 0 % 16)) : Nat) : Int) = 4 * ((getN (by_ (s.extract (14 + 4 * (fB s 0 % 16)) (16 + 4 * (fB s 0 % 16)))) : Nat) : Int) := by unfold gN; omega
    rw [hc] at d9
    by_cases h6 : s.size < 16 + 4 * (fB s 0 % 16) + 4 * gN s (14 + 4 * (fB s 0 % 16)) (16 + 4 * (fB s 0 % 16))
    · rw [if_pos h6]
      rw [if_pos h6] at d9
      have e2 : (hdrR (s.extract 1 s.size) (fB s 0)).2 = dead := by rw [hh]; exact d9
      rw [R2 (by rw [e2]; decide), e2]
      rfl
    rw [if_neg h6]
    rw [if_neg h6] at d9
    refine hfin true _ _ _ ?_
    rw [hh, d9, mrk_eq, decide_eq_true h4]
    have t8 := rawT_st s (16 + 4 * (fB s 0 % 16)) (4 * gN s (14 + 4 * (fB s 0 % 16)) (16 + 4 * (fB s 0 % 16))) (by omega)
    rw [hc] at t8
    rw [show (stA s (16 + 4 * (fB s 0 % 16))).1 = s.extract (16 + 4 * (fB s 0 % 16)) s.size from rfl, t8]
    rfl
  · rw [if_neg h4]
    refine hfin false _ _ _ ?_
    rw [hh, hrs, ho, if_neg h4, if_neg h4, if_neg h4, mrk_eq, decide_eq_false h4]
    rfl
/-- The padding, byte by byte. -/
theorem pad_bytes (q : Nat) (h0 : q ≠ 0) (i : Nat) (hi : i < q) : (padL q)[i]?.getD 0 = if i + 1 < q then 0 else UInt8.ofNat q := by
  unfold padL
  by_cases h : i + 1 < q
  · rw [if_pos h, List.getElem?_append_left (by simp; omega)]
    simp [show i < q - 1 from by omega]
  · rw [if_neg h, List.getElem?_append_right (by simp; omega)]
    simp [show i - (q - 1) = 0 from by omega]
theorem padOk_zero (D : ByteArray) (q z : Nat) (h : padOk D) (hq : lastN D = q) (hz : z + q = D.size) (t : Nat) (ht : t + 1 < q) : (by_ D)[z + t]?.getD 0 = 0 := by
  obtain ⟨_, h1, _, h3⟩ := h
  rw [hq] at h1 h3
  have e := congrArg by_ h3
  rw [by_ofL, by_extract _ _ _ (Nat.le_refl _), take_all, show D.size - q = z from by omega] at e
  have e2 := pad_bytes q h1 t (by omega)
  rw [← e, if_pos ht, List.getElem?_drop] at e2
  exact e2
theorem padOk_of (D : ByteArray) (q z : Nat) (hq : lastN D = q) (h0 : q ≠ 0) (hz : z + q = D.size) (h : ∀ t, t + 1 < q → (by_ D)[z + t]?.getD 0 = 0) : padOk D := by
  refine ⟨by omega, by rw [hq]; exact h0, by rw [hq]; omega, ?_⟩
  rw [hq]
  apply by_inj
  rw [by_ofL, by_extract _ _ _ (Nat.le_refl _), take_all, show D.size - q = z from by omega]
  have hl : ((by_ D).drop z).length = q := by rw [List.length_drop, by_len]; omega
  have hp := padL_len q (by omega)
  apply List.ext_getElem (by rw [hl, hp])
  intro i h1 h2
  have hi : i < q := by omega
  have e1 := pad_bytes q h0 i hi
  rw [List.getElem?_eq_getElem h2] at e1
  have e2 : ((by_ D).drop z)[i]?.getD 0 = if i + 1 < q then 0 else UInt8.ofNat q := by
    rw [List.getElem?_drop]
    by_cases hlt : i + 1 < q
    · rw [if_pos hlt]; exact h i hlt
    · rw [if_neg hlt]
      have : lastN D = q := hq
      unfold lastN at this
      rw [show D.size - 1 = z + i from by omega] at this
      rw [← this]
      simp
  rw [List.getElem?_eq_getElem h1] at e2
  simp only [Option.getD_some] at e1 e2
  rw [e1, e2]
theorem fin_err (s : ByteArray) (hx : Bool) (c : Nat) (prof : Int) (ext : ByteArray) (e : Int) (h : finP s hx c prof ext = .inl e) : e ≠ 0 := by
  unfold finP at h
  by_cases h1 : fB s 0 / 32 % 2 = 1
  · rw [if_pos h1] at h
    by_cases h2 : padOk (s.extract c s.size)
    · rw [if_pos h2] at h; cases h
    · rw [if_neg h2] at h; cases h; decide
  · rw [if_neg h1] at h; cases h
/-- An error is none of number 0. -/
theorem ref_err (s : ByteArray) (e : Int) (h : refP s = .inl e) : e ≠ 0 := by
  unfold refP at h
  split at h
  · cases h; decide
  split at h
  · cases h; decide
  split at h
  · cases h; decide
  split at h
  · split at h
    · cases h; decide
    split at h
    · cases h; decide
    exact fin_err s _ _ _ _ e h
  · exact fin_err s _ _ _ _ e h
end Go.Proofs.Ytilobmebfeenfaa
