/- PenTakes: the walk. -/
import Derived.Test.YtpmcbnnbhjolmaaPenL
import Derived.Test.YtpmcbnnbhjolmaaCut
namespace Go.Proofs.Ytpmcbnnbhjolmaa
open Go.RowKit
set_option linter.unusedVariables false
namespace penTakes
set_option maxRecDepth 100000 in
set_option maxHeartbeats 1600000 in
theorem walk (s0 : ByteArray) (a1 : Int) (w0 : s0.size ≤ maxLen) (w1 : (Lit.int .i64 a1).wf = true) (w : World) :
    Calls Try.prog 6 #[.string s0, .int .i64 a1] w fun e w' => e = .returned (.bool true) ∧ Below w.heap.size w w' := by
  unfold maxLen at w0
  clear w1
  have hA := (cut_size s0 40).1
  go_enter Try.func6, Try.ntmps6
  go_wp2_with fail
  refine (penAwake_any _).mono ?_
  rintro e w1 ⟨rfl, hb⟩
  go_wp2_with fail
  refine (cut_any s0 40 w1 (by omega) (by omega)).mono ?_
  rintro e w2 ⟨rfl, rfl⟩
  generalize cutB s0 40 = s at hA ⊢
  go_wp2_with fail
  refine (of_any _ _).mono ?_
  rintro e w2 ⟨rfl, rfl⟩
  have hI := inAt_new s w1
  have hb1 := hb.alloc hb.size (.cells #[.string s, .int .i64 0] 89)
  have hgb : w.heap.size ≤ w1.heap.size := hb.size
  clear hb
  generalize w1.alloc (.cells #[.string s, .int .i64 0] 89) = w2 at hI hb1 ⊢
  generalize w1.heap.size = b at hI hgb ⊢
  have H1 := inRaw_any _ _ _ a1 _ hI (by omega)
  by_cases hbig : s.size < rawN a1
  · have e1 : rawT s a1 = { data := #[] } := by unfold rawT; rw [if_pos hbig]
    have e2 : rawS s 0 a1 = { data := #[] } := by unfold rawS failS; rw [if_pos hbig, if_pos (by decide)]
    have e3 : rawE s 0 a1 = 2 := by unfold rawE failE; rw [if_pos hbig, if_pos (by decide)]
    rw [e1, e2, e3] at H1
    have hn0 : (s.size : Int) < a1 := by unfold rawN at hbig; omega
    clear e1 e2 e3 hbig
    go_wp2_with fail
    refine H1.mono ?_
    rintro e w3 ⟨rfl, hI1, ho⟩
    have hb2 := hb1.trans (ho.below hgb)
    clear hI H1 hb1 ho
    have HL := left_any _ _ _ _ hI1
    have HR := err_any _ _ _ _ hI1
    have HE := end_any _ _ _ _ hI1
    have HU := inU8_any _ _ _ _ hI1 (by decide)
    obtain ⟨r1, r2, r3⟩ := raw_none 2 1 (by decide)
    have e6 : endE { data := #[] } 2 = 2 := by decide
    have e7 : getN (by_ { data := #[] }) = 0 := by decide
    rw [e6] at HE
    rw [r1, r2, r3, e7] at HU
    go_wp2_with (first | (go_at_call 31; refine (HL).mono ?_; rintro e w' ⟨rfl, rfl⟩) | (go_at_call 32; refine (HR).mono ?_; rintro e w' ⟨rfl, rfl⟩) | (go_at_call 33; refine (HE).mono ?_; rintro e w' ⟨rfl, rfl⟩) | (go_at_call 23; refine (HU).mono ?_; rintro e w' ⟨rfl, hI2, ho2⟩))
    go_ret
    exact ⟨rfl, hb2.trans (ho2.below hgb)⟩
  · have e1 : rawT s a1 = s.extract 0 (rawN a1) := by unfold rawT; rw [if_neg hbig]
    have e2 : rawS s 0 a1 = s.extract (rawN a1) s.size := by unfold rawS; rw [if_neg hbig]
    have e3 : rawE s 0 a1 = 0 := by unfold rawE; rw [if_neg hbig]
    rw [e1, e2, e3] at H1
    have hn0 : a1 ≤ (s.size : Int) := by unfold rawN at hbig; omega
    obtain ⟨m, hm⟩ : ∃ m : Nat, max 0 a1 = (m : Int) := ⟨(max 0 a1).toNat, by omega⟩
    have hN : rawN a1 = m := by unfold rawN; omega
    rw [hN] at hbig H1
    have hle : (m : Int) ≤ (s.size : Int) := by omega
    have hm0 : (0 : Int) ≤ (m : Int) := by omega
    clear e1 e2 e3 hN
    go_wp2_with fail
    refine H1.mono ?_
    rintro e w3 ⟨rfl, hI1, ho⟩
    have hb2 := hb1.trans (ho.below hgb)
    clear hI H1 hb1 ho
    have HL := left_any _ _ _ _ hI1
    have HR := err_any _ _ _ _ hI1
    have HE := end_any _ _ _ _ hI1
    have hsz : (s.extract m s.size).size = s.size - m := by simp
    have heE : endE (s.extract m s.size) 0 = if m = s.size then 0 else 1 := by
      unfold endE; rw [hsz]
      by_cases h : m = s.size
      · rw [if_pos (by omega), if_pos h]
      · rw [if_neg (by omega), if_neg h]
    rw [heE] at HE
    rw [hsz] at HL
    clear heE hsz hI1
    by_cases hq : m = s.size
    · rw [if_pos hq] at HE
      subst hq
      go_wp2_with (first | (go_at_call 31; refine (HL).mono ?_; rintro e w' ⟨rfl, rfl⟩) | (go_at_call 32; refine (HR).mono ?_; rintro e w' ⟨rfl, rfl⟩) | (go_at_call 33; refine (HE).mono ?_; rintro e w' ⟨rfl, rfl⟩))
      go_ret
      exact ⟨rfl, hb2⟩
    · rw [if_neg hq] at HE
      have hq' : ((m : Int) == (s.size : Int)) = false := by simp; omega
      go_wp2_with (first | (go_at_call 31; refine (HL).mono ?_; rintro e w' ⟨rfl, rfl⟩) | (go_at_call 32; refine (HR).mono ?_; rintro e w' ⟨rfl, rfl⟩) | (go_at_call 33; refine (HE).mono ?_; rintro e w' ⟨rfl, rfl⟩))
      go_ret
      exact ⟨rfl, hb2⟩
end penTakes
end Go.Proofs.Ytpmcbnnbhjolmaa
