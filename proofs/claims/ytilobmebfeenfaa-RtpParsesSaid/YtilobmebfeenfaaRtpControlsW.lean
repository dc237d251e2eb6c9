/- rtp: the statements' awake; IsControl. -/
import Derived.Test.YtilobmebfeenfaaRtpP
import Derived.Test.YtilobmebfeenfaaRtpQ
namespace Go.Proofs.Ytilobmebfeenfaa
open Go.RowKit
set_option linter.unusedVariables false
def constB : ByteArray := { data := #[128, 96, 0, 1, 0, 0, 0, 0, 0, 0, 0, 0] }
def constP : PK := ⟨false, 96, 1, 0, 0, [], false, 0, { data := #[] }, { data := #[] }, 0⟩
theorem const_parse : parseR constB = .inr constP := by kernel_rfl
theorem const_pack : ofL (packL constP) = constB := by kernel_rfl
theorem const_may : mayOk constP := by decide
theorem const_ok : constP.ok := ⟨by decide, by decide, by decide, by intro x hx; cases hx⟩
set_option maxRecDepth 100000 in
set_option maxHeartbeats 1600000 in
theorem rtpAwake_any (w : World) : Calls Try.prog 6 #[] w fun e w' => e = .returned (.bool true) ∧ Below w.heap.size w w' := by
  have HP := parseLong_any constB w (by decide) (by decide)
  have HQ := Lib.hid const_parse
  go_enter Try.func6, Try.ntmps6
  go_wp2_with fail
  refine HP.mono ?_
  clear HP
  rintro e w1 ⟨hb, h | ⟨p, a, c, rfl, hp, hv⟩⟩
  · obtain ⟨er, _, h2⟩ := h
    rw [HQ.out] at h2
    cases h2
  · rw [HQ.out] at hp
    cases hp
    have HK : ∀ W : World, _ := fun W => packGood_any constP a c W (by decide) const_ok (.inl rfl) const_may
    rw [const_pack] at HK
    have HK' := Lib.hid HK
    clear HK hv
    unfold constP PK.cells constB at *
    go_wp2_with ((go_at_call 12; refine (HK'.out _).mono ?_; rintro e w' ⟨rfl, hb2⟩))
    go_ret
    exact ⟨rfl, (hb.alloc hb.size _).trans (hb2.mono (by have := hb.size; simp; omega))⟩
namespace rtpControls
end rtpControls
end Go.Proofs.Ytilobmebfeenfaa
