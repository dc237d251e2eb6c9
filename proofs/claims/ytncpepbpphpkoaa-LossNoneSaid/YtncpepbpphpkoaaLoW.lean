/- LossFractions, LossNone: the walks. -/
import Derived.Test.YtncpepbpphpkoaaLoC
namespace Go.Proofs.Ytncpepbpphpkoaa
open Go.RowKit
set_option linter.unusedVariables false
theorem perc_bd (f : Int) : 0 ≤ perc f ∧ (f ≤ 255 → perc f < 100) ∧ perc 0 = 0 := by
  unfold perc
  refine ⟨by omega, fun h => by omega, by omega⟩
namespace lossFractions
set_option maxHeartbeats 1600000 in
theorem walk (a0 a1 a2 : Int) (w0 : (Lit.int .i64 a0).wf = true) (w1 : (Lit.int .i64 a1).wf = true) (w2 : (Lit.int .i64 a2).wf = true) (w : World) :
    Calls Try.prog 6 #[.int .i64 a0, .int .i64 a1, .int .i64 a2] w fun e w' => e = .returned (.bool true) ∧ Below w.heap.size w w' := by
  clear w0 w1 w2
  have hm := i64_and65535 a2
  have hm0 : 0 ≤ a2 % 65536 := by omega
  have hm1 : a2 % 65536 < 65536 := by omega
  generalize a2 % 65536 = m at hm hm0 hm1
  have hle := frac_mono (n40 a0) (n40 a1) (n40 (n40 a1 - m)) (n40_sub a1 m hm0)
  obtain ⟨f0, f1⟩ := frac_bd (n40 a0) (n40 a1)
  obtain ⟨p0, p1, p2⟩ := perc_bd (frac (n40 a0) (n40 a1))
  have p1 := p1 f1
  obtain ⟨c0, c1⟩ := n40_bd a1
  have h1 := fun W => fraction_any a0 a1 W
  have h2 := fun W => clip_any a1 W
  have h3 := fun W => fraction_any a0 (n40 a1 - m) W
  have h4 := fun W => perc_any (frac (n40 a0) (n40 a1)) W
  have h5 := fun W => refFraction_any a0 a1 W
  have h6 := fun W => perc_any a0 W
  have q0 : 0 ≤ max 0 (min a0 256) := by omega
  have q1 : max 0 (min a0 256) ≤ 256 := by omega
  rw [show perc a0 = max 0 (min a0 256) * 100 / 256 from by unfold perc; rw [show min (max a0 0) 256 = max 0 (min a0 256) from by omega]] at h6
  have hz : frac (n40 a0) (n40 a1) = 0 → perc (frac (n40 a0) (n40 a1)) = 0 := fun h => by rw [h]; exact p2
  have hor : ∃ b, (frac (n40 a0) (n40 a1) != 0) = b ∧ (b = false → (perc (frac (n40 a0) (n40 a1)) == 0) = true) := ⟨_, rfl, fun h => by simp at h; simp [hz h]⟩
  clear hz p2
  generalize perc (frac (n40 a0) (n40 a1)) = p at p0 p1 h4 hor
  obtain ⟨nm, hnm⟩ : ∃ nm, n40 a1 - m = nm := ⟨_, rfl⟩
  have hw : IntKind.i64.wrap (n40 a1 - m) = nm := by rw [← hnm]; exact IntWalk.i64_in _ ⟨by omega, by omega⟩
  rw [hnm] at h3 hle
  clear hnm
  generalize frac (n40 a0) (n40 nm) = g at h3 hle
  generalize frac (n40 a0) (n40 a1) = f at f0 f1 h1 h4 h5 hle hor
  generalize n40 a1 = nr at h2 c0 c1 hw
  obtain ⟨b, hb1, hb2⟩ := hor
  go_enter Try.func6, Try.ntmps6
  go_wp2_with fail
  refine (loAwake_any _).mono ?_
  rintro e wa ⟨rfl, hba⟩
  go_wp2_with fail
  refine (h1 _).mono ?_
  rintro e w3 ⟨rfl, hb3⟩
  have hq3 := hba.trans (hb3.mono hba.size)
  go_wp2_with fail
  refine (h2 _).mono ?_
  rintro e w' ⟨rfl, rfl⟩
  go_wp2_with fail
  refine (h3 _).mono ?_
  rintro e w4 ⟨rfl, hb4⟩
  have hq4 := hq3.trans (hb4.mono hq3.size)
  go_wp2_with fail
  refine (h4 _).mono ?_
  rintro e w' ⟨rfl, rfl⟩
  go_wp2_with fail
  refine (h5 _).mono ?_
  rintro e w' ⟨rfl, rfl⟩
  cases b
  · have hb3 := hb2 rfl
    clear hb2
    go_wp2_with fail
    refine (h6 _).mono ?_
    rintro e w' ⟨rfl, rfl⟩
    go_wp2_with fail
    go_ret
    exact ⟨rfl, hq4⟩
  · clear hb2
    go_wp2_with fail
    refine (h6 _).mono ?_
    rintro e w' ⟨rfl, rfl⟩
    go_wp2_with fail
    go_ret
    exact ⟨rfl, hq4⟩
end lossFractions
namespace lossNone
set_option maxHeartbeats 1600000 in
theorem walk (a0 a1 : Int) (w0 : (Lit.int .i64 a0).wf = true) (w1 : (Lit.int .i64 a1).wf = true) (w : World) :
    Calls Try.prog 8 #[.int .i64 a0, .int .i64 a1] w fun e w' => e = .returned (.bool true) ∧ Below w.heap.size w w' := by
  clear w0 w1
  have hm := i64_and65535 a0
  have hk := i64_and65535 a1
  have hm0 : 0 ≤ a0 % 65536 := by omega
  have hm1 : a0 % 65536 < 65536 := by omega
  have hk0 : 0 ≤ a1 % 65536 := by omega
  have hk1 : a1 % 65536 < 65536 := by omega
  generalize a0 % 65536 = m at hm hm0 hm1
  generalize a1 % 65536 = l at hk hk0 hk1
  obtain ⟨E, hE⟩ : ∃ E, 1 + m = E := ⟨_, rfl⟩
  have hE0 : 1 ≤ E := by omega
  have hE1 : E ≤ 65536 := by omega
  have hF := frac_none E l hE0 hk0
  have h1 := fun W => fraction_any E (E - l) W
  rw [show n40 E = E from by unfold n40; omega, show n40 (E - l) = E - l from by unfold n40; omega] at h1
  generalize frac E (E - l) = f at hF h1
  have b1 : (f == 0) = decide (256 * l < E) := by rw [Bool.eq_iff_iff]; simp [hF.1]
  have b2 : (f == 255) = decide (255 * E ≤ 256 * l) := by rw [Bool.eq_iff_iff]; simp [hF.2]
  have hw : IntKind.i64.wrap (1 + m) = E := by rw [hE]; exact IntWalk.i64_in _ ⟨by omega, by omega⟩
  clear hF hE hm0 hm1
  go_enter Try.func8, Try.ntmps8
  go_wp2_with fail
  refine (loAwake_any _).mono ?_
  rintro e wa ⟨rfl, hba⟩
  go_wp2_with fail
  refine (h1 _).mono ?_
  rintro e w3 ⟨rfl, hb3⟩
  go_wp2_with fail
  go_ret
  exact ⟨rfl, hba.trans (hb3.mono hba.size)⟩
end lossNone
end Go.Proofs.Ytncpepbpphpkoaa
