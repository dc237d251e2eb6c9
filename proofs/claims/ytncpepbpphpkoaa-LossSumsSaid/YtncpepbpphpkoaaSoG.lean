/- source: Update, and the document's, in one. -/
import Derived.Test.YtncpepbpphpkoaaSoD
import Derived.Test.YtncpepbpphpkoaaSoE
namespace Go.Proofs.Ytncpepbpphpkoaa
open Go.RowKit
set_option linter.unusedVariables false
theorem soUpd_any (s : SR) (k : Nat) (hs : s.Ok k) (hk : k ≤ 1000000000) (n : Int) (h0 : 0 ≤ n) (h1 : n < 65536) (w : World) :
    Calls Try.prog 12 #[s.val, .int .u16 n] w fun e w' => e = .returned (.tuple #[(s.upd n).1.val, .bool (s.upd n).2]) ∧ Below w.heap.size w w' := by
  obtain ⟨mx, cy, ba, bd, pr, rc⟩ := s
  obtain ⟨m0, m1, c0, c1, a0, a1, d0, d1, p0, p1, r0, r1⟩ := hs
  simp only at m0 m1 c0 c1 a0 a1 d0 d1 p0 p1 r0 r1
  have hu := u16_add1 mx
  have hv := u16_sub n mx
  have hb0 : 0 ≤ (n - mx) % 65536 := by omega
  have hb1 : (n - mx) % 65536 < 65536 := by omega
  unfold SR.upd
  simp only []
  by_cases hp : 0 < pr
  · rw [if_pos hp]
    by_cases hq : n = (mx + 1) % 65536
    · rw [if_pos hq]
      by_cases h2 : pr = 1
      · rw [if_pos h2]; exact soUpd2_any mx cy ba bd pr rc n (hu.trans hq.symm) h2 h0 h1 w
      · rw [if_neg h2]; exact soUpd3_any mx cy ba bd pr rc n (hu.trans hq.symm) (by omega) (by omega) w
    · rw [if_neg hq]; exact soUpd1_any mx cy ba bd pr rc n _ hu (by simpa using hq) hp w
  · rw [if_neg hp]
    by_cases hf : (n - mx) % 65536 < 3000
    · rw [if_pos hf]
      by_cases hl : n < mx
      · rw [if_pos hl]; exact soUpd4_any mx cy ba bd pr rc n _ hv hb0 hb1 (by omega) r0 (by omega) c0 (by omega) hf hl w
      · rw [if_neg hl]; exact soUpd5_any mx cy ba bd pr rc n _ hv hb0 hb1 (by omega) r0 (by omega) c0 (by omega) hf (by omega) w
    · rw [if_neg hf]
      by_cases hl : 65436 < (n - mx) % 65536
      · rw [if_pos hl]; exact soUpd6_any mx cy ba bd pr rc n _ hv hb0 hb1 (by omega) r0 (by omega) (by omega) hl w
      · rw [if_neg hl]
        by_cases hb : n = bd
        · rw [if_pos hb]; exact soUpd7_any mx cy ba bd pr rc n _ hv hb0 hb1 (by omega) r0 (by omega) (by omega) (by omega) hb h0 h1 w
        · rw [if_neg hb]; exact soUpd8_any mx cy ba bd pr rc n _ hv hb0 hb1 (by omega) r0 (by omega) (by omega) (by omega) _ (u16_add1 n) (by omega) (by omega) (by simpa using hb) h0 h1 w
theorem refUpd_any (s : SR) (k : Nat) (hs : s.Ok k) (hk : k ≤ 1000000000) (n : Int) (h0 : 0 ≤ n) (h1 : n < 65536) (w : World) :
    Calls Try.prog 13 #[s.ref, .int .i64 n] w fun e w' => e = .returned (.tuple #[(s.upd n).1.ref, .bool (s.upd n).2]) ∧ Below w.heap.size w w' := by
  obtain ⟨mx, cy, ba, bd, pr, rc⟩ := s
  obtain ⟨m0, m1, c0, c1, a0, a1, d0, d1, p0, p1, r0, r1⟩ := hs
  simp only at m0 m1 c0 c1 a0 a1 d0 d1 p0 p1 r0 r1
  have hv : (n - mx + 65536) % 65536 = (n - mx) % 65536 := by omega
  have hb0 : 0 ≤ (n - mx) % 65536 := by omega
  have hb1 : (n - mx) % 65536 < 65536 := by omega
  unfold SR.upd
  simp only []
  by_cases hp : 0 < pr
  · rw [if_pos hp]
    by_cases hq : n = (mx + 1) % 65536
    · rw [if_pos hq]
      by_cases h2 : pr = 1
      · rw [if_pos h2]; exact refUpd2_any mx cy ba bd pr rc n hq.symm h2 m0 m1 h0 h1 w
      · rw [if_neg h2]; exact refUpd3_any mx cy ba bd pr rc n hq.symm (by omega) (by omega) m0 m1 h0 h1 w
    · rw [if_neg hq]; exact refUpd1_any mx cy ba bd pr rc n _ rfl (by simpa using hq) hp m0 m1 h0 h1 w
  · rw [if_neg hp]
    by_cases hf : (n - mx) % 65536 < 3000
    · rw [if_pos hf]
      by_cases hl : n < mx
      · rw [if_pos hl]; exact refUpd4_any mx cy ba bd pr rc n m0 m1 h0 h1 _ hv hb0 hb1 (by omega) r0 (by omega) c0 (by omega) hf hl w
      · rw [if_neg hl]; exact refUpd5_any mx cy ba bd pr rc n m0 m1 h0 h1 _ hv hb0 hb1 (by omega) r0 (by omega) c0 (by omega) hf (by omega) w
    · rw [if_neg hf]
      by_cases hl : 65436 < (n - mx) % 65536
      · rw [if_pos hl]; exact refUpd6_any mx cy ba bd pr rc n m0 m1 h0 h1 _ hv hb0 hb1 (by omega) r0 (by omega) (by omega) hl w
      · rw [if_neg hl]
        by_cases hb : n = bd
        · rw [if_pos hb]; exact refUpd7_any mx cy ba bd pr rc n m0 m1 h0 h1 _ hv hb0 hb1 (by omega) r0 (by omega) (by omega) (by omega) hb w
        · rw [if_neg hb]; exact refUpd8_any mx cy ba bd pr rc n m0 m1 h0 h1 _ hv hb0 hb1 (by omega) r0 (by omega) (by omega) (by omega) _ rfl (by omega) (by omega) (by simpa using hb) w
end Go.Proofs.Ytncpepbpphpkoaa
