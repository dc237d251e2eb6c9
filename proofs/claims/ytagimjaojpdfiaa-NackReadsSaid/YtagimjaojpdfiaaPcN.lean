/- piece.next. -/
import Derived.Test.YtagimjaojpdfiaaPcC
import Derived.Test.YtagimjaojpdfiaaRtpControlsW
namespace Go.Proofs.Ytagimjaojpdfiaa
open Go.RowKit
set_option linter.unusedVariables false
theorem getN_at (s : ByteArray) (i : Nat) (h : i < s.size) : getN (by_ (s.extract i (i + 1))) = fB s i := by
  have := fB_sl s i h
  unfold sl at this
  rw [this]
  have hb := fB_lt s i
  show 256 * 0 + (UInt8.ofNat (fB s i)).toNat = _
  rw [UInt8.toNat_ofNat_of_lt' (by omega)]
  omega
theorem pc_not31 (n : Nat) (h : n ≤ 255) : bits .andNot .i64 (n : Int) 31 = ((n / 32 * 32 : Nat) : Int) := by
  have key : ∀ m : Fin 256, bits .andNot .i64 ((m.val : Nat) : Int) 31 = ((m.val / 32 * 32 : Nat) : Int) := by decide +kernel
  exact key ⟨n, by omega⟩
theorem pc_and31 (n : Nat) (h : n ≤ 255) : bits .and .i64 (n : Int) 31 = ((n % 32 : Nat) : Int) := by
  have h2 := i64_mask (n : Int) 5 (by decide)
  simp only [show (2 ^ 5 - 1 : Nat) = 31 from rfl, show (2 ^ 5 : Nat) = 32 from rfl] at h2
  have h3 : bits .and .i64 (n : Int) 31 = (n : Int) % 32 := h2
  rw [h3]; omega
/-- What Fail leaves. -/
def flt (st : ByteArray × Int) (k : Int) : ByteArray × Int := (failS st.1 st.2 k, failE st.2 k)
def nxH (s : ByteArray) : ByteArray := rawT s 4
def nxF (s : ByteArray) : Nat := getN (by_ (rawT (nxH s) 1))
def nxK (s : ByteArray) : Nat := getN (by_ (rawT (rd (nxH s, 0) 1).1 1))
def nxN (s : ByteArray) : Nat := getN (by_ (rawT (rd (rd (nxH s, 0) 1) 1).1 2))
def nxA (s : ByteArray) : ByteArray × Int := if nxF s / 32 ≠ 4 then flt (rd (s, 0) 4) 1 else rd (s, 0) 4
def nxC (s : ByteArray) : Bool := decide (1 < (nxH s).size ∧ fB (nxH s) 1 / 32 = 6)
def nxB (s : ByteArray) : ByteArray × Int := if nxC s then nxA s else flt (nxA s) 5
def nxP (s : ByteArray) : PC := ⟨(nxF s % 32 : Nat), (nxK s : Nat), rawT (nxB s).1 (4 * (nxN s : Nat))⟩
def nxZ (s : ByteArray) : ByteArray × Int := rd (nxB s) (4 * (nxN s : Nat))
theorem ext_all (s : ByteArray) : s.extract 0 s.size = s := by apply by_inj; rw [by_extract _ _ _ (Nat.le_refl _), take_all, List.drop_zero]
theorem stA_zero (s : ByteArray) : (s, (0 : Int)) = stA s 0 := by unfold stA; rw [ext_all]
theorem flt_dead (k : Int) : flt dead k = dead := by
  unfold flt dead failS failE
  rw [if_neg (by simp), if_neg (by simp)]
theorem flt_st (s : ByteArray) (a : Nat) (k : Int) (h : k ≠ 0) : flt (stA s a) k = ({ data := #[] }, k) := by
  unfold flt stA failS failE
  rw [if_pos ⟨rfl, h⟩, if_pos ⟨rfl, h⟩]
theorem flt_err (e k : Int) (h : e ≠ 0) : flt (({ data := #[] } : ByteArray), e) k = ({ data := #[] }, e) := by
  unfold flt failS failE
  rw [if_neg (fun x => h x.1), if_neg (fun x => h x.1)]
theorem rd_err (e m : Int) (h : e ≠ 0) : rd (({ data := #[] } : ByteArray), e) m = ({ data := #[] }, e) := by
  obtain ⟨_, h2, h3⟩ := raw_none e m h
  unfold rd
  rw [h2, h3]
theorem nx_short (s : ByteArray) (h : s.size < 4) : nxF s = 0 ∧ nxC s = false ∧ rd (s, 0) 4 = dead ∧ nxN s = 0 := by
  have h1 : nxH s = { data := #[] } := by unfold nxH rawT; rw [if_pos (by rw [show rawN 4 = 4 from rfl]; exact h)]
  have h2 : ∀ e, rd (({ data := #[] } : ByteArray), 0) 1 = e → e = dead := fun e he => by rw [← he]; rfl
  refine ⟨?_, ?_, ?_, ?_⟩
  · unfold nxF; rw [h1]; rfl
  · unfold nxC; rw [h1]; exact decide_eq_false (fun x => by have := x.1; exact absurd this (by decide))
  · have := rd_st s 0 4 (Nat.zero_le _)
    rw [if_pos (by omega), ← stA_zero] at this
    exact this
  · unfold nxN; rw [h1, h2 _ rfl, rd_dead]; rfl
theorem nx_long (s : ByteArray) (h : 4 ≤ s.size) : nxF s = fB s 0 ∧ nxK s = fB s 1 ∧ nxN s = gN s 2 4 ∧ (nxC s = true ↔ fB s 1 / 32 = 6) ∧ rd (s, 0) 4 = stA s 4 := by
  have h1 : nxH s = s.extract 0 4 := by
    have := rawT_st s 0 4 (by omega)
    rw [ext_all] at this
    exact this
  have hz : (s.extract 0 4).size = 4 := by rw [ByteArray.size_extract]; omega
  have hsub : ∀ a b, b ≤ 4 → (s.extract 0 4).extract a b = s.extract a b := fun a b hb => by
    apply by_inj
    rw [by_extract _ _ _ (by omega), by_extract _ _ _ (by omega), by_extract _ _ _ (by omega), List.drop_zero, List.take_take, Nat.min_eq_left hb]
  have hq : ∀ i, i < 4 → fB (s.extract 0 4) i = fB s i := fun i hi => by rw [← getN_at _ i (by omega), ← getN_at s i (by omega), hsub _ _ (by omega)]
  have t0 : ∀ a m : Nat, a + m ≤ 4 → rawT (stA (s.extract 0 4) a).1 (m : Nat) = s.extract a (a + m) := fun a m ham => by
    have := rawT_st (s.extract 0 4) a m (by omega)
    rw [hsub _ _ ham] at this
    exact this
  have r0 : ∀ a m : Nat, a + m ≤ 4 → rd (stA (s.extract 0 4) a) (m : Nat) = stA (s.extract 0 4) (a + m) := fun a m ham => by
    rw [rd_st _ _ _ (by omega), if_neg (by omega)]
  refine ⟨?_, ?_, ?_, ?_, ?_⟩
  · unfold nxF
    have := t0 0 1 (by omega)
    rw [← stA_zero] at this
    rw [h1]
    rw [show rawT (s.extract 0 4) 1 = s.extract 0 (0 + 1) from this, getN_at s 0 (by omega)]
  · unfold nxK
    rw [h1, stA_zero, show rd (stA (s.extract 0 4) 0) 1 = stA (s.extract 0 4) (0 + 1) from r0 0 1 (by omega), show rawT (stA (s.extract 0 4) (0 + 1)).1 1 = s.extract 1 (1 + 1) from t0 1 1 (by omega), getN_at s 1 (by omega)]
  · unfold nxN
    rw [h1, stA_zero, show rd (stA (s.extract 0 4) 0) 1 = stA (s.extract 0 4) (0 + 1) from r0 0 1 (by omega), show rd (stA (s.extract 0 4) (0 + 1)) 1 = stA (s.extract 0 4) (1 + 1) from r0 1 1 (by omega), show rawT (stA (s.extract 0 4) (1 + 1)).1 2 = s.extract 2 (2 + 2) from t0 2 2 (by omega)]
    rfl
  · unfold nxC
    rw [h1, decide_eq_true_iff, hz, hq 1 (by omega)]
    exact ⟨fun x => x.2, fun x => ⟨by decide, x⟩⟩
  · have := rd_st s 0 4 (Nat.zero_le _)
    rw [if_neg (by omega), ← stA_zero] at this
    exact this
/-- What next leaves and finds. -/
theorem nx_ok (s : ByteArray) : (pcE s = 0 ∧ nxP s = pcF s ∧ (nxZ s).1 = pcR s ∧ (nxZ s).2 = 0) ∨ (pcE s ≠ 0 ∧ (nxZ s).1.size = 0 ∧ (nxZ s).2 = pcE s) := by
  by_cases h : s.size < 4
  · obtain ⟨h1, h2, h3, h4⟩ := nx_short s h
    have e0 : pcE s = 2 := by unfold pcE; rw [if_pos h]
    have e1 : nxZ s = dead := by
      unfold nxZ nxB nxA
      rw [h1, h2, h3, if_neg (by decide), if_pos (by decide), flt_dead, flt_dead, rd_dead]
    right
    rw [e0, e1]
    exact ⟨by decide, rfl, rfl⟩
  · obtain ⟨h1, h2, h3, h4, h5⟩ := nx_long s (by omega)
    by_cases k1 : fB s 0 / 32 ≠ 4
    · have e0 : pcE s = 1 := by unfold pcE; rw [if_neg h, if_pos k1]
      have e1 : nxA s = ({ data := #[] }, 1) := by unfold nxA; rw [h1, if_pos k1, h5, flt_st _ _ _ (by decide)]
      have e2 : nxB s = ({ data := #[] }, 1) := by
        unfold nxB
        rw [e1, flt_err _ _ (by decide)]
        split <;> rfl
      right
      unfold nxZ
      rw [e0, e2, rd_err _ _ (by decide)]
      exact ⟨by decide, rfl, rfl⟩
    · have e1 : nxA s = stA s 4 := by unfold nxA; rw [h1, if_neg k1, h5]
      have hb := fB_lt s 1
      by_cases k2 : fB s 1 < 192 ∨ 223 < fB s 1
      · have e0 : pcE s = 5 := by unfold pcE; rw [if_neg h, if_neg k1, if_pos k2]
        have e2 : nxB s = ({ data := #[] }, 5) := by
          unfold nxB
          rw [e1, if_neg (fun x => by have := h4.1 x; omega), flt_st _ _ _ (by decide)]
        right
        unfold nxZ
        rw [e0, e2, rd_err _ _ (by decide)]
        exact ⟨by decide, rfl, rfl⟩
      · have e2 : nxB s = stA s 4 := by
          unfold nxB
          rw [e1, if_pos (h4.2 (by omega))]
        have hr := rd_st s 4 (4 * gN s 2 4) (by omega)
        have hc : (4 * ((gN s 2 4 : Nat) : Int)) = ((4 * gN s 2 4 : Nat) : Int) := by omega
        by_cases k3 : s.size < 4 + 4 * gN s 2 4
        · have e0 : pcE s = 2 := by unfold pcE; rw [if_neg h, if_neg k1, if_neg k2, if_pos k3]
          right
          unfold nxZ
          rw [if_pos k3] at hr
          rw [e0, e2, h3, hc, hr]
          exact ⟨by decide, rfl, rfl⟩
        · have e0 : pcE s = 0 := by unfold pcE; rw [if_neg h, if_neg k1, if_neg k2, if_neg k3]
          left
          rw [if_neg k3] at hr
          refine ⟨e0, ?_, ?_, ?_⟩
          · unfold nxP pcF
            have ht := rawT_st s 4 (4 * gN s 2 4) (by omega)
            rw [h1, h2, h3, e2, hc]
            rw [show rawT (stA s 4).1 ((4 * gN s 2 4 : Nat) : Int) = s.extract 4 (4 + 4 * gN s 2 4) from ht]
          · unfold nxZ; rw [e2, h3, hc, hr]; rfl
          · unfold nxZ; rw [e2, h3, hc, hr]; rfl
end Go.Proofs.Ytagimjaojpdfiaa
