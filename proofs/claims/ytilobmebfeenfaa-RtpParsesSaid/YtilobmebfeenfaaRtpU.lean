/- rtp: taking padding off. -/
import Derived.Test.YtilobmebfeenfaaRtpW
import Derived.BigQuiet
import Derived.Deep.QuietTactic
namespace Go.Proofs.Ytilobmebfeenfaa
open Go.RowKit
set_option linter.unusedVariables false
/-- The last byte. -/
def lastN (s : ByteArray) : Nat := ((by_ s)[s.size - 1]?.getD 0).toNat
/-- May so much padding be taken off? -/
def padOk (s : ByteArray) : Prop := s.size ≠ 0 ∧ lastN s ≠ 0 ∧ lastN s ≤ s.size ∧ s.extract (s.size - lastN s) s.size = ofL (padL (lastN s))
theorem ret_un {d : ByteArray} {p q : Int} (h : p = q) : Ending.returned (.tuple #[.string d, .int .i64 p, .int .i64 0]) = .returned (.tuple #[.string d, .int .i64 q, .int .i64 0]) := by rw [h]
set_option maxHeartbeats 1600000 in
theorem unpadBad_any (s : ByteArray) (w : World) (hs : s.size ≤ 9223372036854775807) (hp : ¬ padOk s) :
    Calls Try.prog 31 #[.string s] w fun e w' => e = .returned (.tuple #[.string { data := #[] }, .int .i64 0, .int .i64 1]) ∧ Below w.heap.size w w' := by
  have he := isEmpty_size s
  by_cases h0 : s.size = 0
  · rw [decide_eq_true h0] at he
    clear hp h0
    go_enter Try.func31, Try.ntmps31
    go_wp2
    go_ret3
    exact ⟨rfl, Below.refl _ _⟩
  · rw [decide_eq_false h0] at he
    have hlt : s.size - 1 < s.size := by omega
    have hla : lastN s = (s[s.size - 1]'hlt).toNat := by unfold lastN; rw [by_at s _ hlt]
    have hb := UInt8.toNat_lt (s[s.size - 1]'hlt)
    have i1 : (0 : Int) ≤ (s.size : Int) - 1 := by omega
    have i2 : (s.size : Int) - 1 < (s.size : Int) := by omega
    have i3 : ((s.size : Int) - 1).toNat = s.size - 1 := by omega
    have hq : padOk s → lastN s ≠ 0 ∧ lastN s ≤ s.size ∧ s.extract (s.size - lastN s) s.size = ofL (padL (lastN s)) := fun h => h.2
    have hp' : ¬ (lastN s ≠ 0 ∧ lastN s ≤ s.size ∧ s.extract (s.size - lastN s) s.size = ofL (padL (lastN s))) := fun h => hp ⟨h0, h⟩
    have HP := Lib.hid hp'
    have HLA := Lib.hid hla
    clear hp hp' hq hla
    go_enter Try.func31, Try.ntmps31
    go_wp2_with fail
    generalize (s[s.size - 1]'hlt).toNat = q at HLA hb ⊢
    by_cases k1 : q = 0
    · have hqb : ((q : Int) == 0) = true := by simp; omega
      clear k1
      go_quiet (fail)
      go_wp2
      go_ret3
      exact ⟨rfl, below_drewN (Below.refl _ _) _⟩
    · have hqb : ((q : Int) == 0) = false := by simp; omega
      by_cases k2 : s.size < q
      · have k2' : (s.size : Int) - (q : Int) < 0 := by omega
        go_quiet (fail)
        go_wp2
        go_ret3
        exact ⟨rfl, below_drewN (Below.refl _ _) _⟩
      · have hR : ∀ W : World, _ := fun W => padding_any q W (by omega) (by omega)
        have hne : ¬ s.extract (s.size - q) s.size = ofL (padL q) := fun h => HP.out ⟨by rw [HLA.out]; exact k1, by rw [HLA.out]; omega, by rw [HLA.out]; exact h⟩
        have hte := texts_ne hne
        have HR := Lib.hid hR
        have j1 : (0 : Int) ≤ (s.size : Int) - (q : Int) := by omega
        have j2 : (s.size : Int) - (q : Int) ≤ (s.size : Int) := by omega
        have j3 : ((s.size : Int) - (q : Int)).toNat = s.size - q := by omega
        have j4 : decide ((s.size : Int) - (q : Int) < 0) = false := by simp; omega
        have h2 : q ≤ s.size := by omega
        clear hR hne HP HLA k2
        go_region_held3 (fun _ => True) (trivial) ((go_at_call 35; refine (HR.out _).mono ?_; rintro e w' ⟨rfl, hbp⟩))
        all_goals
          go_wp2
          go_ret3
          exact ⟨rfl, (Below.refl _ _).drew.trans hbp⟩
set_option maxHeartbeats 1600000 in
theorem unpadGood_any (s : ByteArray) (w : World) (hs : s.size ≤ 9223372036854775807) (hp : padOk s) :
    Calls Try.prog 31 #[.string s] w fun e w' => e = .returned (.tuple #[.string (s.extract 0 (s.size - lastN s)), .int .i64 (lastN s : Int), .int .i64 0]) ∧ Below w.heap.size w w' := by
  have he := isEmpty_size s
  obtain ⟨h0, h1, h2, h3⟩ := hp
  rw [decide_eq_false h0] at he
  have hlt : s.size - 1 < s.size := by omega
  have hla : lastN s = (s[s.size - 1]'hlt).toNat := by unfold lastN; rw [by_at s _ hlt]
  have hb := UInt8.toNat_lt (s[s.size - 1]'hlt)
  have i1 : (0 : Int) ≤ (s.size : Int) - 1 := by omega
  have i2 : (s.size : Int) - 1 < (s.size : Int) := by omega
  have i3 : ((s.size : Int) - 1).toNat = s.size - 1 := by omega
  have HLA := Lib.hid hla
  have H1 := Lib.hid h1
  have H2 := Lib.hid h2
  have H3 := Lib.hid h3
  clear hla h1 h2 h3
  go_enter Try.func31, Try.ntmps31
  go_wp2_with fail
  generalize (s[s.size - 1]'hlt).toNat = q at HLA hb ⊢
  have h1 : q ≠ 0 := by rw [← HLA.out]; exact H1.out
  have h2 : q ≤ s.size := by rw [← HLA.out]; exact H2.out
  have H3' : Hid (s.extract (s.size - q) s.size = ofL (padL q)) := by show _ = _; rw [← HLA.out]; exact H3.out
  have hqb : ((q : Int) == 0) = false := by simp; omega
  have hR : ∀ W : World, _ := fun W => padding_any q W (by omega) (by omega)
  have hte := texts_eq (s.extract (s.size - q) s.size) (ofL (padL q))
  rw [decide_eq_true H3'.out] at hte
  have HR := Lib.hid hR
  have j1 : (0 : Int) ≤ (s.size : Int) - (q : Int) := by omega
  have j2 : (s.size : Int) - (q : Int) ≤ (s.size : Int) := by omega
  have j3 : ((s.size : Int) - (q : Int)).toNat = s.size - q := by omega
  have j4 : decide ((s.size : Int) - (q : Int) < 0) = false := by simp; omega
  clear hR
  go_region_held3 (fun _ => True) (trivial) ((go_at_call 35; refine (HR.out _).mono ?_; rintro e w' ⟨rfl, hbp⟩))
  all_goals
    go_wp2
    go_ret3
    exact ⟨by rw [HLA.out]; rfl, (Below.refl _ _).drew.trans hbp⟩
end Go.Proofs.Ytilobmebfeenfaa
