/- rtp: the document's May. -/
import Derived.Test.YtiffocdohknopaaRtpK
namespace Go.Proofs.Ytiffocdohknopaa
open Go.RowKit
set_option linter.unusedVariables false
theorem may_f (mrk : Bool) (kind seq time source : Int) (others : List Int) (prof : Int) (ext data : ByteArray) (pad : Int) : mayOk ⟨mrk, kind, seq, time, source, others, false, prof, ext, data, pad⟩ ↔ ((0 ≤ kind ∧ kind ≤ 127 ∧ others.length ≤ 15 ∧ prof = 0 ∧ ext.size = 0) ∧ 0 ≤ pad ∧ pad ≤ 255) := by unfold mayOk; rw [hdr_f]
theorem may_t (mrk : Bool) (kind seq time source : Int) (others : List Int) (prof : Int) (ext data : ByteArray) (pad : Int) : mayOk ⟨mrk, kind, seq, time, source, others, true, prof, ext, data, pad⟩ ↔ ((0 ≤ kind ∧ kind ≤ 127 ∧ others.length ≤ 15 ∧ 0 ≤ prof ∧ prof ≤ 65535 ∧ ext.size % 4 = 0 ∧ ext.size ≤ 262140) ∧ 0 ≤ pad ∧ pad ≤ 255) := by unfold mayOk; rw [hdr_t]
set_option maxHeartbeats 1600000 in
theorem refMay_b (p : PK) (a : Option Addr) (c : Nat) (w : World) (hs : p.ext.size ≤ 9223372036854775807) (hl : p.others.length ≤ 9223372036854775807) (b : Bool) (hb : b = true ↔ mayOk p) :
    Calls Try.prog 18 #[.agg (p.rcells a c)] w fun e w' => e = .returned (.bool b) ∧ Below w.heap.size w w' := by
  obtain ⟨mrk, kind, seq, time, source, others, hx, prof, ext, data, pad⟩ := p
  simp only [PK.rcells] at *
  have he := isEmpty_size ext
  by_cases k0 : kind < 0 ∨ 127 < kind ∨ 15 < others.length ∨ prof < 0 ∨ 65535 < prof ∨ pad < 0 ∨ 255 < pad
  · obtain rfl : b = false := by cases b with | false => rfl | true => (cases hx <;> first | (rw [may_f] at hb; exact absurd (hb.1 rfl) (by omega)) | (rw [may_t] at hb; exact absurd (hb.1 rfl) (by omega)))
    clear hb he
    by_cases k1 : kind < 0
    · clear k0
      go_enter Try.func18, Try.ntmps18
      go_wp2
      go_ret
      exact ⟨rfl, (Below.refl _ _).alloc (Nat.le_refl _) _⟩
    · have k0' : True := trivial
      by_cases k2 : 127 < kind
      · clear k0
        go_enter Try.func18, Try.ntmps18
        go_wp2
        go_ret
        exact ⟨rfl, (Below.refl _ _).alloc (Nat.le_refl _) _⟩
      · have k0' : True := trivial
        by_cases k3 : 15 < others.length
        · clear k0
          go_enter Try.func18, Try.ntmps18
          go_wp2
          go_ret
          exact ⟨rfl, (Below.refl _ _).alloc (Nat.le_refl _) _⟩
        · have k0' : True := trivial
          by_cases k4 : prof < 0
          · clear k0
            go_enter Try.func18, Try.ntmps18
            go_wp2
            go_ret
            exact ⟨rfl, (Below.refl _ _).alloc (Nat.le_refl _) _⟩
          · have k0' : True := trivial
            by_cases k5 : 65535 < prof
            · clear k0
              go_enter Try.func18, Try.ntmps18
              go_wp2
              go_ret
              exact ⟨rfl, (Below.refl _ _).alloc (Nat.le_refl _) _⟩
            · have k0' : True := trivial
              by_cases k6 : pad < 0
              · clear k0
                go_enter Try.func18, Try.ntmps18
                go_wp2
                go_ret
                exact ⟨rfl, (Below.refl _ _).alloc (Nat.le_refl _) _⟩
              · have k0' : True := trivial
                have k7 : 255 < pad := by omega
                clear k0
                go_enter Try.func18, Try.ntmps18
                go_wp2
                go_ret
                exact ⟨rfl, (Below.refl _ _).alloc (Nat.le_refl _) _⟩
  · obtain ⟨k1, k2, k3, k4, k5, k6, k7⟩ : ¬ kind < 0 ∧ ¬ 127 < kind ∧ ¬ 15 < others.length ∧ ¬ prof < 0 ∧ ¬ 65535 < prof ∧ ¬ pad < 0 ∧ ¬ 255 < pad := by omega
    clear k0
    cases hx
    · rw [may_f] at hb
      by_cases k8 : prof = 0
      · by_cases k9 : ext.size = 0
        · rw [decide_eq_true k9] at he
          obtain rfl : b = true := hb.2 (by omega)
          clear k4 k5 k9; subst k8
          clear hb
          go_enter Try.func18, Try.ntmps18
          go_wp2
          go_ret
          exact ⟨rfl, (Below.refl _ _).alloc (Nat.le_refl _) _⟩
        · rw [decide_eq_false k9] at he
          obtain rfl : b = false := by cases b with | false => rfl | true => exact absurd (hb.1 rfl) (by omega)
          clear k4 k5 k9; subst k8
          clear hb
          go_enter Try.func18, Try.ntmps18
          go_wp2
          go_ret
          exact ⟨rfl, (Below.refl _ _).alloc (Nat.le_refl _) _⟩
      · have hb' : (prof == 0) = false := by simpa using k8
        clear he
        obtain rfl : b = false := by cases b with | false => rfl | true => exact absurd (hb.1 rfl) (by omega)
        clear k8
        clear hb
        go_enter Try.func18, Try.ntmps18
        go_wp2
        go_ret
        exact ⟨rfl, (Below.refl _ _).alloc (Nat.le_refl _) _⟩
    · rw [may_t] at hb
      clear he
      by_cases k8 : ext.size % 4 = 0
      · have hb' : (((ext.size : Int) % 4) == 0) = true := by simp; omega
        by_cases k9 : 262140 < ext.size
        · have h9 : decide ((ext.size : Int) ≤ 262140) = false := by simp; omega
          obtain rfl : b = false := by cases b with | false => rfl | true => exact absurd (hb.1 rfl) (by omega)
          clear k8 k9
          clear hb
          go_enter Try.func18, Try.ntmps18
          go_wp2
          go_ret
          exact ⟨rfl, (Below.refl _ _).alloc (Nat.le_refl _) _⟩
        · have h9 : decide ((ext.size : Int) ≤ 262140) = true := by simp; omega
          obtain rfl : b = true := hb.2 (by omega)
          clear k8 k9
          clear hb
          go_enter Try.func18, Try.ntmps18
          go_wp2
          go_ret
          exact ⟨rfl, (Below.refl _ _).alloc (Nat.le_refl _) _⟩
      · have hb' : (((ext.size : Int) % 4) == 0) = false := by simp; omega
        obtain rfl : b = false := by cases b with | false => rfl | true => exact absurd (hb.1 rfl) (by omega)
        clear k8
        clear hb
        go_enter Try.func18, Try.ntmps18
        go_wp2
        go_ret
        exact ⟨rfl, (Below.refl _ _).alloc (Nat.le_refl _) _⟩
end Go.Proofs.Ytiffocdohknopaa
