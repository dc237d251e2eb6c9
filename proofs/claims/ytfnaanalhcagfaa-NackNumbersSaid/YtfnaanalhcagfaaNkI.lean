/- nack: the document's In. -/
import Derived.Test.YtfnaanalhcagfaaNkW
import Derived.Test.YtfnaanalhcagfaaNkC
import Derived.Test.YtfnaanalhcagfaaSerLatestW
namespace Go.Proofs.Ytfnaanalhcagfaa
open Go.RowKit
set_option linter.unusedVariables false
theorem contains_at (zs : List Int) (n : Int) (k : Nat) (h : k < zs.length) : (zs[k]?.getD 0 = n → zs.contains n = true) ∧ (¬ zs[k]?.getD 0 = n → (zs.take k).contains n = false → (zs.take (k + 1)).contains n = false) := by
  rw [List.getElem?_eq_getElem h, Option.getD_some]
  refine ⟨fun e => ?_, fun e hc => ?_⟩
  · rw [List.contains_iff_mem, ← e]; exact List.getElem_mem h
  · have hc' : ¬ n ∈ zs.take k := by
      intro hm
      rw [← List.contains_iff_mem] at hm
      rw [hm] at hc
      cases hc
    rw [← Bool.not_eq_true, List.contains_iff_mem]
    simp only [List.take_succ_eq_append_getElem h, List.mem_append, List.mem_singleton]
    rintro (h1 | h1)
    · exact hc' h1
    · exact e h1.symm
theorem in_any (zs : List Int) (n : Int) (a : Option Addr) (c : Nat) (w : World) (hr : Reads .i64 w a zs) (hl : zs.length ≤ 1000000) (r : Bool) (hcr : zs.contains n = r) :
    Calls Try.prog 33 #[.slice a zs.length c, .int .i64 n] w fun e w' => e = .returned (.bool r) ∧ w = w' := by
  have HR := Lib.hid hcr
  clear hcr
  go_enter Try.func33, Try.ntmps33
  go_wp2
  go_loop [9] (fun i => ∃ k : Nat, k ≤ zs.length ∧ i = .int .i64 k ∧ (zs.take k).contains n = false) (fun i => zs.length - (intOf i).toNat)
  case atStart => exact ⟨0, Nat.zero_le _, rfl, by simp⟩
  case round =>
    obtain ⟨k, hk, rfl, hc⟩ := hrel
    by_cases hlt : k < zs.length
    · obtain ⟨b, off, rfl, hcell⟩ := hr.at hlt
      have hs := contains_at zs n k hlt
      generalize zs[k]?.getD 0 = x at hcell hs
      by_cases hx : x = n
      · have HC : Hid (r = true) := Lib.hid (HR.out.symm.trans (hs.1 hx))
        have hxe : (x == n) = true := by simpa using hx
        clear hr hs hx
        go_wp2
        go_ret
        have hre := HC.out; subst hre
        exact ⟨rfl, rfl⟩
      · have HC := Lib.hid (hs.2 hx hc)
        have hxe : (x == n) = false := by simpa using hx
        clear hr hs hx
        go_wp2
        go_round
        case rel => exact ⟨k + 1, by omega, by go_num, HC.out⟩
        case measure => simp [intOf]; omega
    · obtain rfl : k = zs.length := by omega
      rw [List.take_length] at hc
      have HC : Hid (r = false) := Lib.hid (HR.out.symm.trans hc)
      clear hc
      go_wp2
      go_ret
      have hre := HC.out; subst hre
      exact ⟨rfl, rfl⟩
end Go.Proofs.Ytfnaanalhcagfaa
