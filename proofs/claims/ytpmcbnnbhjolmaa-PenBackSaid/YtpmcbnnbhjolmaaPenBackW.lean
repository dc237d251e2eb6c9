/- PenBack: the walk. -/
import Derived.Test.YtpmcbnnbhjolmaaPenL
import Derived.Test.YtpmcbnnbhjolmaaCut
namespace Go.Proofs.Ytpmcbnnbhjolmaa
open Go.RowKit
set_option linter.unusedVariables false
theorem bes_one (n : Int) (k : Nat) : bes [n] k = be n k := by simp [bes]
theorem cat_one' (s : ByteArray) : cat [s] = by_ s := cat_one s
theorem i64_and24 (n : Int) : bits .and .i64 n 16777215 = n % 16777216 := i64_mask n 24 (by decide)
namespace penBack
set_option maxRecDepth 100000 in
set_option maxHeartbeats 1600000 in
theorem walk (a0 a1 : Int) (s2 : ByteArray) (w0 : (Lit.int .i64 a0).wf = true) (w1 : (Lit.int .u32 a1).wf = true) (w2 : s2.size ≤ maxLen) (w : World) :
    Calls Try.prog 5 #[.int .i64 a0, .int .u32 a1, .string s2] w fun e w' => e = .returned (.bool true) ∧ Below w.heap.size w w' := by
  unfold maxLen at w2
  have hA := (cut_size s2 20).1
  have hm : a1 % 4294967296 = a1 := by simp [Lit.wf, IntKind.min, IntKind.max, IntKind.bits, IntKind.signed] at w1; omega
  have Hm := Lib.hid hm
  clear w0 w1 hm
  go_enter Try.func5, Try.ntmps5
  go_wp2_with fail
  refine (penAwake_any _).mono ?_
  rintro e w1 ⟨rfl, hb⟩
  go_wp2_with fail
  refine (cut_any s2 20 w1 (by omega) (by omega)).mono ?_
  rintro e w2 ⟨rfl, rfl⟩
  generalize cutB s2 20 = s at hA ⊢
  have hO := out_new w1 w.heap.size hb.size
  have hb1 := hb.alloc hb.size (.cells #[.slice none 0 0] 26)
  clear hb
  go_wp2_with fail
  refine (u8_lit _ _ _ _ [a0] _ 1 _ _ (by simp) hO rfl rfl (by simp) (by simp)).mono ?_
  rw [bes_one, List.nil_append]
  rintro e w2 ⟨rfl, v1, hO1, h1, _⟩
  have hb2 := hb1.trans h1
  clear hO hb1 h1
  go_wp2_with fail
  refine (u16_lit _ _ _ _ [a0] _ 1 _ _ (by simp) hO1 rfl rfl (by simp [be_len]) (by simp)).mono ?_
  rw [bes_one]
  rintro e w3 ⟨rfl, v2, hO2, h1, _⟩
  have hb3 := hb2.trans h1
  clear hO1 hb2 h1
  go_wp2_with fail
  refine (u24_lit _ _ _ _ [a0] _ 1 _ _ (by simp) hO2 rfl rfl (by simp [be_len]) (by simp)).mono ?_
  rw [bes_one]
  rintro e w4 ⟨rfl, v3, hO3, h1, _⟩
  have hb4 := hb3.trans h1
  clear hO2 hb3 h1
  go_wp2_with fail
  refine (u32_lit _ _ _ _ [a1] _ 1 _ _ (by simp) hO3 rfl rfl (by simp [be_len]) (by simp)).mono ?_
  rw [bes_one]
  rintro e w5 ⟨rfl, v4, hO4, h1, _⟩
  have hb5 := hb4.trans h1
  clear hO3 hb4 h1
  go_wp2_with fail
  refine (outRaw_lit _ _ _ _ [s] _ 1 _ _ (by simp) hO4 rfl rfl (by simp [be_len, cat_one, by_len]; omega) (by simp)).mono ?_
  rw [cat_one]
  rintro e w6 ⟨rfl, v5, hO5, h1, _⟩
  have hb6 := hb5.trans h1
  clear hO4 hb5 h1
  go_wp2_with fail
  refine (bytes_any _ _ _ _ _ hO5).mono ?_
  rintro e w7 ⟨rfl, rfl⟩
  rw [List.append_assoc, List.append_assoc, List.append_assoc]
  go_wp2_with fail
  refine (of_any _ _).mono ?_
  rintro e w8 ⟨rfl, rfl⟩
  have hI := inAt_new (ofL (be a0 1 ++ (be a0 2 ++ (be a0 3 ++ (be a1 4 ++ by_ s))))) w6
  have hb7 := hb6.alloc hb6.size (.cells #[.string (ofL (be a0 1 ++ (be a0 2 ++ (be a0 3 ++ (be a1 4 ++ by_ s))))), .int .i64 0] 89)
  have hgb : w.heap.size ≤ w6.heap.size := hb6.size
  clear hO5 hb6
  generalize w6.alloc (.cells #[.string (ofL (be a0 1 ++ (be a0 2 ++ (be a0 3 ++ (be a1 4 ++ by_ s))))), .int .i64 0] 89) = w7 at hI hb7 ⊢
  generalize w6.heap.size = b at hI hgb ⊢
  have n1 := getN_be1 a0
  have n2 := getN_be2 a0
  have n3 := getN_be3 a0
  have n4 := getN_be4 a1
  rw [Hm.out] at n4
  have m1 := i64_and255 a0
  have m2 := i64_and65535 a0
  have m3 := i64_and24 a0
  have H1 := inU8_any _ _ _ _ hI (by rw [ofL_size]; simp [be_len, by_len]; omega)
  obtain ⟨r1, r2, r3⟩ := raw_ahead (be a0 1) (be a0 2 ++ (be a0 3 ++ (be a1 4 ++ by_ s))) 0 1 (by rw [be_len]; rfl)
  rw [r1, r2, r3, by_ofL, n1] at H1
  clear r1 r2 r3 n1
  go_wp2_with fail
  refine H1.mono ?_
  rintro e w8 ⟨rfl, hI1, ho⟩
  have hb8 := hb7.trans (ho.below hgb)
  clear hI H1 hb7 ho
  have H1 := inU16_any _ _ _ _ hI1 (by rw [ofL_size]; simp [be_len, by_len]; omega)
  obtain ⟨r1, r2, r3⟩ := raw_ahead (be a0 2) (be a0 3 ++ (be a1 4 ++ by_ s)) 0 2 (by rw [be_len]; rfl)
  rw [r1, r2, r3, by_ofL, n2] at H1
  clear r1 r2 r3 n2
  go_wp2_with fail
  refine H1.mono ?_
  rintro e w9 ⟨rfl, hI2, ho⟩
  have hb9 := hb8.trans (ho.below hgb)
  clear hI1 H1 hb8 ho
  have H1 := inU24_any _ _ _ _ hI2 (by rw [ofL_size]; simp [be_len, by_len]; omega)
  obtain ⟨r1, r2, r3⟩ := raw_ahead (be a0 3) (be a1 4 ++ by_ s) 0 3 (by rw [be_len]; rfl)
  rw [r1, r2, r3, by_ofL, n3] at H1
  clear r1 r2 r3 n3
  go_wp2_with fail
  refine H1.mono ?_
  rintro e w10 ⟨rfl, hI3, ho⟩
  have hb10 := hb9.trans (ho.below hgb)
  clear hI2 H1 hb9 ho
  have H1 := inU32_any _ _ _ _ hI3 (by rw [ofL_size]; simp [be_len, by_len]; omega)
  obtain ⟨r1, r2, r3⟩ := raw_ahead (be a1 4) (by_ s) 0 4 (by rw [be_len]; rfl)
  rw [r1, r2, r3, by_ofL, n4] at H1
  clear r1 r2 r3 n4
  go_wp2_with fail
  refine H1.mono ?_
  rintro e w11 ⟨rfl, hI4, ho⟩
  have hb11 := hb10.trans (ho.below hgb)
  clear hI3 H1 hb10 ho
  have H1 := inRaw_any _ _ _ (s.size : Int) _ hI4 (by rw [ofL_size]; simp [by_len]; omega)
  obtain ⟨r1, r2, r3⟩ := raw_ahead (by_ s) [] 0 (s.size : Int) (by rw [by_len])
  rw [List.append_nil] at r1 r2 r3
  rw [r1, r2, r3, ofL_by] at H1
  clear r1 r2 r3
  go_wp2_with fail
  refine H1.mono ?_
  rintro e w12 ⟨rfl, hI5, ho⟩
  have hb12 := hb11.trans (ho.below hgb)
  clear hI4 H1 hb11 ho
  have H1 := end_any _ _ _ _ hI5
  have e6 : endE (ofL []) 0 = 0 := by decide
  rw [e6] at H1
  go_wp2_with fail
  refine H1.mono ?_
  rintro e w13 ⟨rfl, rfl⟩
  go_wp2
  go_ret
  exact ⟨rfl, hb12⟩
end penBack
end Go.Proofs.Ytpmcbnnbhjolmaa
