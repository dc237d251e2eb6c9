/- The statements' fixed facts; CrcRems, CrcLinear, CrcSpans: the walks. -/
import Derived.Test.YtliegljkmgchbaaCrcE
namespace Go.Proofs.Ytliegljkmgchbaa
open Go.RowKit
set_option linter.unusedVariables false
theorem reads_two (w : World) (s t : ByteArray) (e : TypeId) : ReadsT (w.alloc (.cells #[.string s, .string t] e)) (some ⟨w.heap.size, 0, none⟩) [s, t] := by
  refine Or.inr ⟨_, _, rfl, fun i hi => ?_⟩
  match i, hi with
  | 0, _ => simp
  | 1, _ => simp
theorem rem_two (s t : ByteArray) (w : World) (hs : s.size ≤ 1099511627776) (ht : t.size ≤ 1099511627776) :
    Calls Try.prog 28 #[.slice (some ⟨w.heap.size, 0, none⟩) 2 2] (w.alloc (.cells #[.string s, .string t] 9)) fun e w' => e = .returned (.int .u32 ((remOf (cat [s, t])).toNat : Int)) ∧ w.alloc (.cells #[.string s, .string t] 9) = w' :=
  rem_any [s, t] _ _ 2 _ rfl (reads_two w s t _) (by simp) (by simpa using ⟨hs, ht⟩)
theorem rem_c1 (w : World) :
    Calls Try.prog 28 #[.slice (some ⟨w.heap.size, 0, none⟩) 1 1] (w.alloc (.cells #[.string { data := #[1] }] 9)) fun e w' => e = .returned (.int .u32 1) ∧ w.alloc (.cells #[.string { data := #[1] }] 9) = w' := by
  have e : ((remOf (by_ { data := #[1] })).toNat : Int) = 1 := by decide +kernel
  rw [← e]
  exact rem_one _ w (by decide)
theorem rem_c2 (b : Nat) (w : World) (hb : b = w.heap.size) :
    Calls Try.prog 28 #[.slice (some ⟨b, 0, none⟩) 2 2] (w.alloc (.cells #[.string { data := #[1, 0] }, .string { data := #[0, 0, 0] }] 9)) fun e w' => e = .returned (.int .u32 79764919) ∧ w.alloc (.cells #[.string { data := #[1, 0] }, .string { data := #[0, 0, 0] }] 9) = w' := by
  subst hb
  have e : ((remOf (cat [{ data := #[1, 0] }, { data := #[0, 0, 0] }])).toNat : Int) = 79764919 := by decide +kernel
  rw [← e]
  exact rem_two _ _ w (by decide) (by decide)
theorem right_empty (w : World) : Calls Try.prog 30 #[.string { data := #[] }] w fun e w' => e = .returned (.bool true) ∧ Below w.heap.size w w' := by
  have e : (((remOf (by_ { data := #[] })).toNat : Int) == 0) = true := by decide +kernel
  rw [← e]
  exact right_any _ w (by decide)
theorem right_a (w : World) : Calls Try.prog 30 #[.string { data := #[97] }] w fun e w' => e = .returned (.bool false) ∧ Below w.heap.size w w' := by
  have e : (((remOf (by_ { data := #[97] })).toNat : Int) == 0) = false := by decide +kernel
  rw [← e]
  exact right_any _ w (by decide)
theorem burst_ac (w : World) : Calls Try.prog 37 #[.string { data := #[97] }, .string { data := #[99] }] w fun e w' => e = .returned (.int .i64 1) ∧ w = w' := by
  have e : span (dif (by_ { data := #[97] }) (by_ { data := #[99] })) (8 * (ByteArray.mk #[97]).size) = 1 := by decide +kernel
  rw [← e]
  exact burst_any _ _ w (by decide) rfl
theorem crcAwake_any (w : World) : Calls Try.prog 26 #[] w fun e w' => e = .returned (.bool true) ∧ Below w.heap.size w w' := by
  go_enter Try.func26, Try.ntmps26
  go_wp2_with fail
  refine (rem_c1 _).mono ?_
  rintro e w' ⟨rfl, rfl⟩
  go_wp2_with fail
  refine (rem_c2 _ _ (by simp)).mono ?_
  rintro e w' ⟨rfl, rfl⟩
  go_wp2_with fail
  refine (right_empty _).mono ?_
  rintro e w' ⟨rfl, hb1⟩
  go_wp2_with fail
  refine (right_a _).mono ?_
  rintro e w2 ⟨rfl, hb2⟩
  go_wp2_with fail
  refine (burst_ac _).mono ?_
  rintro e w3 ⟨rfl, rfl⟩
  go_wp2
  go_ret
  refine ⟨rfl, ?_⟩
  have h0 : Below w.heap.size w _ := ((Below.refl w.heap.size w).alloc (Nat.le_refl _) (.cells #[.string { data := #[1] }] 9)).alloc (by simp) (.cells #[.string { data := #[1, 0] }, .string { data := #[0, 0, 0] }] 9)
  have h1 := h0.trans (hb1.mono (by simp; omega))
  exact h1.trans (hb2.mono h1.size)
/-- The same, where the remainder has a name. -/
theorem refRem_is (s : ByteArray) (R : Nat) (w : World) (hs : s.size ≤ 1099511627776) (hR : Hid ((remOf (by_ s)).toNat = R)) :
    Calls Try.prog 29 #[.string s] w fun e w' => e = .returned (.int .i64 (R : Int)) ∧ Below w.heap.size w w' := by
  rw [← hR.out]; exact refRem_any s w hs
theorem right_is (s : ByteArray) (R : Nat) (w : World) (hs : s.size ≤ 1099511627776) (hR : Hid ((remOf (by_ s)).toNat = R)) :
    Calls Try.prog 30 #[.string s] w fun e w' => e = .returned (.bool ((R : Int) == 0)) ∧ Below w.heap.size w w' := by
  rw [← hR.out]; exact right_any s w hs
namespace crcRems
theorem walk (p0 : Option Addr) (len0 cap0 : Nat) (z0 : List ByteArray) (w : World) (w0 : IsTexts w p0 len0 cap0 z0) :
    Calls Try.prog 8 #[.slice p0 len0 cap0] w fun e w' => e = .returned (.bool true) ∧ Below w.heap.size w w' := by
  obtain ⟨es, rfl, l1, l2, hr0, hwf⟩ := w0.reads
  unfold maxLen at hwf
  go_enter Try.func8, Try.ntmps8
  go_wp2_with fail
  refine (crcAwake_any _).mono ?_
  rintro e w1 ⟨rfl, hb⟩
  have hr1 := hr0.later hb
  clear hr0 w0
  go_wp2_with fail
  refine (few_any es p0 cap0 _ 6 40 w1 rfl hr1 (by omega) hwf (by omega) (by omega)).mono ?_
  rintro e w2 ⟨v, rfl, hown, hb2⟩
  have hbb := hb.trans (hb2.mono hb.size)
  have hts : ∃ ts : List ByteArray, ts = (es.take 6).map (cutB · 40) ∧ ts.length ≤ 6 ∧ (es.take 6).length = ts.length ∧ ∀ s ∈ ts, s.size ≤ 40 := by
    refine ⟨_, rfl, by simp; omega, by simp, fun s hs => ?_⟩
    obtain ⟨t, _, rfl⟩ := List.mem_map.1 hs
    exact (cut_size t 40).1
  obtain ⟨ts, hte, ht6, htl, ht40⟩ := hts
  rw [← hte, htl] at hown
  obtain ⟨a, c, rfl, hlen, hc1, hc2, hr⟩ := own_readsT hown
  clear hown hb hb2 hr1 hte htl hlen
  go_wp2
  go_loop [3, 12] (fun m i => ∃ (k : Nat) (A : ByteArray), k ≤ ts.length ∧ i = .int .i64 k ∧ m = .string A ∧ by_ A = cat (ts.take k) ∧ A.size ≤ 40 * k) (fun _ i => ts.length - (intOf i).toNat)
  case atStart => exact ⟨0, _, Nat.zero_le _, rfl, rfl, rfl, Nat.le_refl _⟩
  case round =>
    obtain ⟨k, A, hk, rfl, rfl, hA, hsz⟩ := hrel
    have HA := Lib.hid hA
    clear hA
    by_cases hlt : k < ts.length
    · obtain ⟨b, off, rfl, hcell⟩ := hr.at hlt
      have hct := Lib.hid (cat_take_succ ts k hlt)
      have hs40 : (ts[k]?.getD ByteArray.empty).size ≤ 40 := by rw [List.getElem?_eq_getElem hlt]; exact ht40 _ (List.getElem_mem hlt)
      generalize ts[k]?.getD ByteArray.empty = s at hcell hct hs40
      clear hr
      go_wp2
      go_round
      case rel => exact ⟨k + 1, A ++ s, by omega, by go_num, rfl, by rw [hct.out, ← HA.out]; simp [by_], by simp; omega⟩
      case measure => simp [intOf]; omega
    · obtain rfl : k = ts.length := by omega
      have hcat : Hid (by_ A = cat ts) := by show by_ A = cat ts; rw [HA.out, List.take_length]
      clear HA
      go_wp2_with fail
      refine (rem_any ts a c _ w2 rfl hr (by omega) (fun s hs => by have := ht40 s hs; omega)).mono ?_
      rintro e w3 ⟨rfl, rfl⟩
      have hlt2 := (remOf (cat ts)).isLt
      have hR : Hid ((remOf (by_ A)).toNat = (remOf (cat ts)).toNat) := by show (remOf (by_ A)).toNat = _; rw [hcat.out]
      generalize (remOf (cat ts)).toNat = R at hlt2 hR
      have hlt3 : (R : Int) ≤ 4294967295 := by omega
      clear hlt2
      go_wp2_with fail
      refine (refRem_is A _ w2 (by omega) hR).mono ?_
      rintro e w3 ⟨rfl, hb3⟩
      have hb4 := hbb.trans (hb3.mono hbb.size)
      clear hbb hb3
      go_wp2_with fail
      refine (right_is A _ w3 (by omega) hR).mono ?_
      rintro e w4 ⟨rfl, hb5⟩
      have hb6 := hb4.trans (hb5.mono hb4.size)
      clear hb4 hb5
      go_wp2_with fail
      refine (refRem_is A _ w4 (by omega) hR).mono ?_
      rintro e w5 ⟨rfl, hb7⟩
      have hb8 := hb6.trans (hb7.mono hb6.size)
      clear hb6 hb7
      go_wp2
      go_ret
      exact ⟨rfl, hb8⟩
end crcRems
/-- How many bits lie between: the document's. -/
def bst (a b : ByteArray) : Int := if b.size = a.size then span (dif (by_ a) (by_ b)) (8 * a.size) else -1
theorem dif_sym (a b : List UInt8) : dif a b = dif b a := by
  funext i
  unfold dif
  cases Crc.bitOf a i <;> cases Crc.bitOf b i <;> rfl
theorem bst_sym (a b : ByteArray) : bst b a = bst a b := by
  unfold bst
  by_cases h : b.size = a.size
  · rw [if_pos h, if_pos h.symm, dif_sym, h]
  · rw [if_neg h, if_neg (fun e => h e.symm)]
theorem span_none (d : Nat → Bool) (n : Nat) (h : ∀ i, i < n → d i = false) : span d n = 0 := by
  unfold span
  rcases fl_spec d n with ⟨h1, _, _⟩ | ⟨F, L, h1, h2, h3, h4, h5, _⟩
  · rw [if_pos (by omega)]
  · rw [h F (by omega)] at h5; cases h5
theorem bst_self (a : ByteArray) : bst a a = 0 := by
  unfold bst
  rw [if_pos rfl]
  exact span_none _ _ (fun i _ => by unfold dif; cases Crc.bitOf (by_ a) i <;> rfl)
theorem burst_all (a b : ByteArray) (w : World) (ha : a.size ≤ 1099511627776) (hb : b.size ≤ 1099511627776) :
    Calls Try.prog 37 #[.string a, .string b] w fun e w' => e = .returned (.int .i64 (bst a b)) ∧ w = w' := by
  unfold bst
  by_cases h : b.size = a.size
  · rw [if_pos h]; exact burst_any a b w ha h
  · rw [if_neg h]; exact burst_len a b w ha hb (fun e => h e.symm)
theorem refBurst_all (a b : ByteArray) (w : World) (ha : a.size ≤ 1099511627776) (hb : b.size ≤ 1099511627776) :
    Calls Try.prog 35 #[.string a, .string b] w fun e w' => e = .returned (.int .i64 (bst a b)) ∧ Below w.heap.size w w' := by
  unfold bst
  by_cases h : b.size = a.size
  · rw [if_pos h]; exact refBurst_any a b w ha h
  · rw [if_neg h]; exact (refBurst_len a b w ha hb (fun e => h e.symm)).mono fun e w' ⟨h1, h2⟩ => ⟨h1, by subst h2; exact Below.refl _ _⟩
namespace crcSpans
theorem walk (s0 s1 : ByteArray) (w0 : s0.size ≤ maxLen) (w1 : s1.size ≤ maxLen) (w : World) :
    Calls Try.prog 11 #[.string s0, .string s1] w fun e w' => e = .returned (.bool true) ∧ Below w.heap.size w w' := by
  unfold maxLen at w0 w1
  have hA := (cut_size s0 40).1
  have hB := (cut_size s1 40).1
  go_enter Try.func11, Try.ntmps11
  go_wp2_with fail
  refine (crcAwake_any _).mono ?_
  rintro e w1 ⟨rfl, hb⟩
  go_wp2_with fail
  refine (cut_any s0 40 w1 (by omega) (by omega)).mono ?_
  rintro e w2 ⟨rfl, rfl⟩
  go_wp2_with fail
  refine (cut_any s1 40 w1 (by omega) (by omega)).mono ?_
  rintro e w2 ⟨rfl, rfl⟩
  generalize cutB s0 40 = A at hA
  generalize cutB s1 40 = B at hB
  go_wp2_with fail
  refine (burst_all A B w1 (by omega) (by omega)).mono ?_
  rintro e w2 ⟨rfl, rfl⟩
  go_wp2_with fail
  refine (refBurst_all A B w1 (by omega) (by omega)).mono ?_
  rintro e w2 ⟨rfl, hb2⟩
  have hb3 := hb.trans (hb2.mono hb.size)
  clear hb hb2
  have h1 := burst_all B A w2 (by omega) (by omega)
  rw [bst_sym] at h1
  have H1 := Lib.hid h1
  clear h1
  have h2 := burst_all A A w2 (by omega) (by omega)
  rw [bst_self] at h2
  have H2 := Lib.hid h2
  clear h2
  go_wp2_with fail
  refine H1.out.mono ?_
  rintro e w3 ⟨rfl, rfl⟩
  go_wp2_with fail
  refine (burst_all A B w2 (by omega) (by omega)).mono ?_
  rintro e w3 ⟨rfl, rfl⟩
  go_wp2_with fail
  refine H2.out.mono ?_
  rintro e w3 ⟨rfl, rfl⟩
  go_wp2
  go_ret
  exact ⟨rfl, hb3⟩
end crcSpans
end Go.Proofs.Ytliegljkmgchbaa
