/- rtp: the statements' awake; IsControl. -/
import Derived.Test.YtagimjaojpdfiaaRtpP
import Derived.Test.YtagimjaojpdfiaaRtpQ
namespace Go.Proofs.Ytagimjaojpdfiaa
open Go.RowKit
set_option linter.unusedVariables false
def constB : ByteArray := { data := #[128, 96, 0, 1, 0, 0, 0, 0, 0, 0, 0, 0] }
def constP : PK := ⟨false, 96, 1, 0, 0, [], false, 0, { data := #[] }, { data := #[] }, 0⟩
theorem const_parse : parseR constB = .inr constP := by kernel_rfl
theorem const_pack : ofL (packL constP) = constB := by kernel_rfl
theorem const_may : mayOk constP := by decide
theorem const_ok : constP.ok := ⟨by decide, by decide, by decide, by intro x hx; cases hx⟩
theorem ctrl_any (s : ByteArray) (w : World) (hs : s.size ≤ 9223372036854775807) (b : Bool) (hb : b = true ↔ (1 < s.size ∧ ((by_ s)[1]?.getD 0).toNat / 32 = 6)) :
    Calls Try.prog 119 #[.string s] w fun e w' => e = .returned (.bool b) ∧ w = w' := by
  by_cases h : s.size < 2
  · obtain rfl : b = false := by cases b with | false => rfl | true => exact absurd (hb.1 rfl).1 (by omega)
    clear hb
    go_enter Try.func119, Try.ntmps119
    go_wp2
    go_ret
    exact ⟨rfl, rfl⟩
  · have h1 : 1 < s.size := by omega
    rw [by_at s 1 h1] at hb
    have hi0 : (0 : Int) ≤ 1 := by decide
    have hi1 : (1 : Int) < (s.size : Int) := by omega
    have hlt := UInt8.toNat_lt s[1]
    by_cases k1 : s[1].toNat < 192
    · obtain rfl : b = false := by cases b with | false => rfl | true => exact absurd (hb.1 rfl).2 (by omega)
      clear hb
      go_enter Try.func119, Try.ntmps119
      go_wp2
      go_ret
      exact ⟨rfl, rfl⟩
    · by_cases k2 : 223 < s[1].toNat
      · obtain rfl : b = false := by cases b with | false => rfl | true => exact absurd (hb.1 rfl).2 (by omega)
        have k3 : decide ((s[1].toNat : Int) ≤ 223) = false := by simp; omega
        clear hb
        go_enter Try.func119, Try.ntmps119
        go_wp2
        go_ret
        exact ⟨rfl, rfl⟩
      · obtain rfl : b = true := hb.2 ⟨h1, by omega⟩
        have k3 : decide ((s[1].toNat : Int) ≤ 223) = true := by simp; omega
        clear hb
        go_enter Try.func119, Try.ntmps119
        go_wp2
        go_ret
        exact ⟨rfl, rfl⟩
namespace rtpControls
end rtpControls
end Go.Proofs.Ytagimjaojpdfiaa
