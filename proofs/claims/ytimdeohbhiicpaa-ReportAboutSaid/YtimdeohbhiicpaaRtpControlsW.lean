/- rtp: the statements' awake; IsControl. -/
import Derived.Test.YtimdeohbhiicpaaRtpP
import Derived.Test.YtimdeohbhiicpaaRtpQ
namespace Go.Proofs.Ytimdeohbhiicpaa
open Go.RowKit
set_option linter.unusedVariables false
def constB : ByteArray := { data := #[128, 96, 0, 1, 0, 0, 0, 0, 0, 0, 0, 0] }
def constP : PK := ⟨false, 96, 1, 0, 0, [], false, 0, { data := #[] }, { data := #[] }, 0⟩
theorem const_parse : parseR constB = .inr constP := by kernel_rfl
theorem const_pack : ofL (packL constP) = constB := by kernel_rfl
theorem const_may : mayOk constP := by decide
theorem const_ok : constP.ok := ⟨by decide, by decide, by decide, by intro x hx; cases hx⟩
set_option maxRecDepth 100000 in
set_option maxHeartbeats 1600000 in
theorem rtpAwake_any (w : World) : Calls Try.prog 13 #[] w fun e w' => e = .returned (.bool true) ∧ Below w.heap.size w w' := by
  have HP := parseLong_any constB w (by decide) (by decide)
  have HQ := Lib.hid const_parse
  go_enter Try.func13, Try.ntmps13
  go_wp2_with fail
  refine HP.mono ?_
  clear HP
  rintro e w1 ⟨hb, h | ⟨p, a, c, rfl, hp, hv⟩⟩
  · obtain ⟨er, _, h2⟩ := h
    rw [HQ.out] at h2
    cases h2
  · rw [HQ.out] at hp
    cases hp
    have HK : ∀ W : World, _ := fun W => packGood_any constP a c W (by decide) const_ok (.inl rfl) const_may
    rw [const_pack] at HK
    have HK' := Lib.hid HK
    clear HK hv
    unfold constP PK.cells constB at *
    go_wp2_with ((go_at_call 19; refine (HK'.out _).mono ?_; rintro e w' ⟨rfl, hb2⟩))
    go_ret
    exact ⟨rfl, (hb.alloc hb.size _).trans (hb2.mono (by have := hb.size; simp; omega))⟩
theorem ctrl_any (s : ByteArray) (w : World) (hs : s.size ≤ 9223372036854775807) (b : Bool) (hb : b = true ↔ (1 < s.size ∧ ((by_ s)[1]?.getD 0).toNat / 32 = 6)) :
    Calls Try.prog 90 #[.string s] w fun e w' => e = .returned (.bool b) ∧ w = w' := by
  by_cases h : s.size < 2
  · obtain rfl : b = false := by cases b with | false => rfl | true => exact absurd (hb.1 rfl).1 (by omega)
    clear hb
    go_enter Try.func90, Try.ntmps90
    go_wp2
    go_ret
    exact ⟨rfl, rfl⟩
  · have h1 : 1 < s.size := by omega
    rw [by_at s 1 h1] at hb
    have hi0 : (0 : Int) ≤ 1 := by decide
    have hi1 : (1 : Int) < (s.size : Int) := by omega
    have hlt := UInt8.toNat_lt s[1]
    by_cases k1 : s[1].toNat < 192
    · obtain rfl : b = false := by cases b with | false => rfl | true => exact absurd (hb.1 rfl).2 (by omega)
      clear hb
      go_enter Try.func90, Try.ntmps90
      go_wp2
      go_ret
      exact ⟨rfl, rfl⟩
    · by_cases k2 : 223 < s[1].toNat
      · obtain rfl : b = false := by cases b with | false => rfl | true => exact absurd (hb.1 rfl).2 (by omega)
        have k3 : decide ((s[1].toNat : Int) ≤ 223) = false := by simp; omega
        clear hb
        go_enter Try.func90, Try.ntmps90
        go_wp2
        go_ret
        exact ⟨rfl, rfl⟩
      · obtain rfl : b = true := hb.2 ⟨h1, by omega⟩
        have k3 : decide ((s[1].toNat : Int) ≤ 223) = true := by simp; omega
        clear hb
        go_enter Try.func90, Try.ntmps90
        go_wp2
        go_ret
        exact ⟨rfl, rfl⟩
namespace rtpControls
end rtpControls
end Go.Proofs.Ytimdeohbhiicpaa
