/- SerialDiffs and SerialAdds: the walks. -/
import Derived.Test.YtliegljkmgchbaaSerC
namespace Go.Proofs.Ytliegljkmgchbaa
open Go.RowKit
set_option linter.unusedVariables false
theorem back_wrap (a b : Int) (h3 : 0 ≤ b) (h4 : b ≤ 65535) : IntKind.u16.wrap (a + IntKind.u16.wrap (d16 a b)) = b := by
  simp only [low_wrap]; unfold d16; omega
theorem d16_anti (a b : Int) (h : d16 a b ≠ -32768) : d16 b a = - d16 a b := by unfold d16 at *; omega
theorem neg_in (a b : Int) : wrap64 (- d16 a b) = - d16 a b := by
  have := d16_bd a b
  exact IntWalk.wrap64_in _ ⟨by omega, by omega⟩
theorem u16_bd {a : Int} (h : (Lit.int .u16 a).wf = true) : 0 ≤ a ∧ a ≤ 65535 := by
  simp [Lit.wf, IntKind.min, IntKind.max, IntKind.bits, IntKind.signed] at h; omega
namespace serialDiffs
theorem walk (a0 a1 : Int) (w0 : (Lit.int .u16 a0).wf = true) (w1 : (Lit.int .u16 a1).wf = true) (w : World) :
    Calls Try.prog 3 #[.int .u16 a0, .int .u16 a1] w fun e w' => e = .returned (.bool true) ∧ Below w.heap.size w w' := by
  obtain ⟨b1, b2⟩ := u16_bd w0
  obtain ⟨b3, b4⟩ := u16_bd w1
  have hbk := back_wrap a0 a1 b3 b4
  clear w0 w1
  by_cases hd : d16 a0 a1 = -32768
  · have hd' : (d16 a0 a1 == -32768) = true := by simp [hd]
    clear hd
    go_enter Try.func3, Try.ntmps3
    go_wp2_with (first | (go_at_call 14; refine (awake_any _).mono ?_; rintro e w' ⟨rfl, hb⟩) | (go_at_call 15; refine (diff_any _ _ _).mono ?_; rintro e w' ⟨rfl, rfl⟩) | (go_at_call 16; refine (refDiff_any _ _ _ (by omega) (by omega) (by omega) (by omega)).mono ?_; rintro e w' ⟨rfl, rfl⟩) | (go_at_call 17; refine (less_any _ _ _).mono ?_; rintro e w' ⟨rfl, rfl⟩))
    go_ret
    exact ⟨rfl, hb⟩
  · have hd' : (d16 a0 a1 == -32768) = false := by simp [hd]
    have hn := d16_anti a0 a1 hd
    have hg := neg_in a0 a1
    clear hd
    go_enter Try.func3, Try.ntmps3
    go_wp2_with (first | (go_at_call 14; refine (awake_any _).mono ?_; rintro e w' ⟨rfl, hb⟩) | (go_at_call 15; refine (diff_any _ _ _).mono ?_; rintro e w' ⟨rfl, rfl⟩) | (go_at_call 16; refine (refDiff_any _ _ _ (by omega) (by omega) (by omega) (by omega)).mono ?_; rintro e w' ⟨rfl, rfl⟩) | (go_at_call 17; refine (less_any _ _ _).mono ?_; rintro e w' ⟨rfl, rfl⟩))
    go_ret
    exact ⟨rfl, hb⟩
end serialDiffs
namespace serialAdds
theorem walk (a0 a1 a2 : Int) (w0 : (Lit.int .u16 a0).wf = true) (w1 : (Lit.int .u16 a1).wf = true) (w2 : (Lit.int .u16 a2).wf = true) (w : World) :
    Calls Try.prog 7 #[.int .u16 a0, .int .u16 a1, .int .u16 a2] w fun e w' => e = .returned (.bool true) ∧ Below w.heap.size w w' := by
  clear w0 w1 w2
  have q1 := d16_bd a0 a1
  have q2 := d16_bd a1 a2
  by_cases h1 : d16 a0 a1 + d16 a1 a2 < -32768
  · go_enter Try.func7, Try.ntmps7
    go_wp2_with (first | (go_at_call 14; refine (awake_any _).mono ?_; rintro e w' ⟨rfl, hb⟩) | (go_at_call 15; refine (diff_any _ _ _).mono ?_; rintro e w' ⟨rfl, rfl⟩))
    go_ret
    exact ⟨rfl, hb⟩
  · by_cases h2 : 32767 < d16 a0 a1 + d16 a1 a2
    · go_enter Try.func7, Try.ntmps7
      go_wp2_with (first | (go_at_call 14; refine (awake_any _).mono ?_; rintro e w' ⟨rfl, hb⟩) | (go_at_call 15; refine (diff_any _ _ _).mono ?_; rintro e w' ⟨rfl, rfl⟩))
      go_ret
      exact ⟨rfl, hb⟩
    · have he : (d16 a0 a2 == d16 a0 a1 + d16 a1 a2) = true := by
        simp only [beq_iff_eq]
        unfold d16 at *
        omega
      go_enter Try.func7, Try.ntmps7
      go_wp2_with (first | (go_at_call 14; refine (awake_any _).mono ?_; rintro e w' ⟨rfl, hb⟩) | (go_at_call 15; refine (diff_any _ _ _).mono ?_; rintro e w' ⟨rfl, rfl⟩))
      go_ret
      exact ⟨rfl, hb⟩
end serialAdds
end Go.Proofs.Ytliegljkmgchbaa
