/- How far two texts part. -/
import Derived.Test.YtliegljkmgchbaaCrcD
import Derived.BigQuiet
import Derived.Deep.QuietTactic
import Derived.WalkSmall
namespace Go.Proofs.Ytliegljkmgchbaa
open Go.RowKit
set_option linter.unusedVariables false
/-- The first and the last place that parts, of the first k: -1 if there is none. -/
def fl (d : Nat → Bool) : Nat → Int × Int
  | 0 => (-1, -1)
  | k + 1 => if d k then (if (fl d k).1 < 0 then (k : Int) else (fl d k).1, (k : Int)) else fl d k
def span (d : Nat → Bool) (n : Nat) : Int := if (fl d n).1 < 0 then 0 else (fl d n).2 - (fl d n).1 + 1
theorem fl_yes_first (d : Nat → Bool) (k : Nat) (h : d k = true) (h1 : (fl d k).1 < 0) : (fl d (k + 1)).1 = k ∧ (fl d (k + 1)).2 = k := by
  simp [fl, h, h1]
theorem fl_yes (d : Nat → Bool) (k : Nat) (h : d k = true) (h1 : ¬ (fl d k).1 < 0) : (fl d (k + 1)).1 = (fl d k).1 ∧ (fl d (k + 1)).2 = k := by
  simp [fl, h, h1]
theorem fl_no (d : Nat → Bool) (k : Nat) (h : d k = false) : fl d (k + 1) = fl d k := by
  simp [fl, h]
theorem fl_spec (d : Nat → Bool) : ∀ k : Nat, ((fl d k).1 = -1 ∧ (fl d k).2 = -1 ∧ ∀ i, i < k → d i = false) ∨
    ∃ F L : Nat, (fl d k).1 = F ∧ (fl d k).2 = L ∧ F ≤ L ∧ L < k ∧ d F = true ∧ d L = true ∧ (∀ i, i < F → d i = false) ∧ ∀ i, L < i → i < k → d i = false
  | 0 => .inl ⟨rfl, rfl, fun _ h => by omega⟩
  | k + 1 => by
    cases h : d k
    · rw [fl_no d k h]
      rcases fl_spec d k with ⟨h1, h2, h3⟩ | ⟨F, L, h1, h2, h3, h4, h5, h6, h7, h8⟩
      · refine .inl ⟨h1, h2, fun i hi => ?_⟩
        by_cases e : i = k
        · rw [e, h]
        · exact h3 i (by omega)
      · refine .inr ⟨F, L, h1, h2, h3, by omega, h5, h6, h7, fun i a b => ?_⟩
        by_cases e : i = k
        · rw [e, h]
        · exact h8 i a (by omega)
    · rcases fl_spec d k with ⟨h1, h2, h3⟩ | ⟨F, L, h1, h2, h3, h4, h5, h6, h7, h8⟩
      · obtain ⟨e1, e2⟩ := fl_yes_first d k h (by omega)
        exact .inr ⟨k, k, e1, e2, by omega, by omega, h, h, h3, fun i a b => by omega⟩
      · obtain ⟨e1, e2⟩ := fl_yes d k h (by omega)
        exact .inr ⟨F, k, by omega, e2, by omega, by omega, h5, h, h7, fun i a b => by omega⟩
theorem fl_bd (d : Nat → Bool) (k : Nat) : -1 ≤ (fl d k).1 ∧ (fl d k).1 ≤ k ∧ -1 ≤ (fl d k).2 ∧ (fl d k).2 ≤ k := by
  rcases fl_spec d k with ⟨h1, h2, h3⟩ | ⟨F, L, h1, h2, h3, h4, h5, h6, h7, h8⟩ <;> omega
/-- Where two texts part. -/
def dif (a b : List UInt8) (i : Nat) : Bool := Crc.bitOf a i != Crc.bitOf b i
theorem bn_eq (a b : Bool) : ((bn a : Int) == (bn b : Int)) = !(a != b) := by cases a <;> cases b <;> decide
theorem bn_ne (a b : Bool) : ((bn a : Int) != (bn b : Int)) = (a != b) := by cases a <;> cases b <;> decide
theorem span_ret (d : Nat → Bool) (n : Nat) (f l : Int) (hf : f = (fl d n).1) (hl : l = (fl d n).2) (h : ¬ f < 0) : l - f + 1 = span d n := by
  unfold span; rw [if_neg (by omega), hf, hl]
theorem span_zero (d : Nat → Bool) (n : Nat) (f : Int) (hf : f = (fl d n).1) (h : f < 0) : 0 = span d n := by
  unfold span; rw [if_pos (by omega)]
theorem burst_len (a b : ByteArray) (w : World) (ha : a.size ≤ 1099511627776) (hb : b.size ≤ 1099511627776) (hne : a.size ≠ b.size) :
    Calls Try.prog 37 #[.string a, .string b] w fun e w' => e = .returned (.int .i64 (-1)) ∧ w = w' := by
  have hn : ((a.size : Int) != (b.size : Int)) = true := by simp; omega
  clear hne
  go_enter Try.func37, Try.ntmps37
  go_wp2
  go_ret
  exact ⟨rfl, rfl⟩
theorem refBurst_len (a b : ByteArray) (w : World) (ha : a.size ≤ 1099511627776) (hb : b.size ≤ 1099511627776) (hne : a.size ≠ b.size) :
    Calls Try.prog 35 #[.string a, .string b] w fun e w' => e = .returned (.int .i64 (-1)) ∧ w = w' := by
  have hn : ((a.size : Int) != (b.size : Int)) = true := by simp; omega
  clear hne
  go_enter Try.func35, Try.ntmps35
  go_wp2
  go_ret
  exact ⟨rfl, rfl⟩
set_option maxHeartbeats 800000 in
theorem burst_any (a b : ByteArray) (w : World) (ha : a.size ≤ 1099511627776) (heq : b.size = a.size) :
    Calls Try.prog 37 #[.string a, .string b] w fun e w' => e = .returned (.int .i64 (span (dif (by_ a) (by_ b)) (8 * a.size))) ∧ w = w' := by
  have hn : ((a.size : Int) != (b.size : Int)) = false := by simp; omega
  have hs1 : b.size ≤ a.size := by omega
  have hs2 : a.size ≤ b.size := by omega
  clear heq
  go_enter Try.func37, Try.ntmps37
  go_wp2_with ((go_at_call 38; refine (length_any _ _ (by omega)).mono ?_; rintro e w' ⟨rfl, rfl⟩))
  go_loop [5, 6, 15] (fun f l i => ∃ k : Nat, k ≤ 8 * a.size ∧ i = .int .i64 k ∧ f = .int .i64 (fl (dif (by_ a) (by_ b)) k).1 ∧ l = .int .i64 (fl (dif (by_ a) (by_ b)) k).2) (fun _ _ i => 8 * a.size - (intOf i).toNat)
  case atStart => exact ⟨0, Nat.zero_le _, rfl, rfl, rfl⟩
  case round =>
    obtain ⟨k, hk, rfl, rfl, rfl⟩ := hrel
    have hbd := fl_bd (dif (by_ a) (by_ b)) k
    by_cases hlt : k < 8 * a.size
    · have he := bn_eq (Crc.bitOf (by_ a) k) (Crc.bitOf (by_ b) k)
      have hd : dif (by_ a) (by_ b) k = (Crc.bitOf (by_ a) k != Crc.bitOf (by_ b) k) := rfl
      rw [← hd] at he
      clear hd
      cases hx : dif (by_ a) (by_ b) k
      · have Hf := Lib.hid (fl_no _ _ hx)
        rw [hx] at he
        clear hx
        generalize fl (dif (by_ a) (by_ b)) k = fk at Hf hbd
        have he' : ((bn (Crc.bitOf (by_ a) k) : Int) == (bn (Crc.bitOf (by_ b) k) : Int)) = true := he
        clear he
        go_wp2_with ((go_at_call 40; refine (bit_any _ _ _ (by omega) (by omega)).mono ?_; rintro e w' ⟨rfl, rfl⟩))
        go_round
        case rel => exact ⟨k + 1, by omega, by go_num, by rw [Hf.out], by rw [Hf.out]⟩
        case measure => simp [intOf]; omega
      · rw [hx] at he
        have he' : ((bn (Crc.bitOf (by_ a) k) : Int) == (bn (Crc.bitOf (by_ b) k) : Int)) = false := he
        clear he
        by_cases h0 : (fl (dif (by_ a) (by_ b)) k).1 < 0
        · have Hf := Lib.hid (fl_yes_first _ _ hx h0)
          clear hx
          generalize fl (dif (by_ a) (by_ b)) k = fk at hbd h0
          go_wp2_with ((go_at_call 40; refine (bit_any _ _ _ (by omega) (by omega)).mono ?_; rintro e w' ⟨rfl, rfl⟩))
          go_round
          case rel => exact ⟨k + 1, by omega, by go_num, by rw [Hf.out.1], by rw [Hf.out.2]⟩
          case measure => simp [intOf]; omega
        · have Hf := Lib.hid (fl_yes _ _ hx h0)
          clear hx
          generalize fl (dif (by_ a) (by_ b)) k = fk at hbd h0 Hf
          go_wp2_with ((go_at_call 40; refine (bit_any _ _ _ (by omega) (by omega)).mono ?_; rintro e w' ⟨rfl, rfl⟩))
          go_round
          case rel => exact ⟨k + 1, by omega, by go_num, by rw [Hf.out.1], by rw [Hf.out.2]⟩
          case measure => simp [intOf]; omega
    · obtain rfl : k = 8 * a.size := by omega
      by_cases h0 : (fl (dif (by_ a) (by_ b)) (8 * a.size)).1 < 0
      · have hz := Lib.hid (span_zero _ _ _ rfl h0)
        generalize fl (dif (by_ a) (by_ b)) (8 * a.size) = fk at hbd h0
        go_wp2
        go_ret
        exact ⟨ret_eq hz.out, rfl⟩
      · have hz := Lib.hid (span_ret _ _ _ _ rfl rfl h0)
        generalize fl (dif (by_ a) (by_ b)) (8 * a.size) = fk at hbd h0 hz
        go_wp2
        go_ret
        exact ⟨ret_eq hz.out, rfl⟩
set_option maxHeartbeats 800000 in
theorem refBurst_any (a b : ByteArray) (w : World) (ha : a.size ≤ 1099511627776) (heq : b.size = a.size) :
    Calls Try.prog 35 #[.string a, .string b] w fun e w' => e = .returned (.int .i64 (span (dif (by_ a) (by_ b)) (8 * a.size))) ∧ Below w.heap.size w w' := by
  have hn : ((a.size : Int) != (b.size : Int)) = false := by simp; omega
  have hs1 : b.size ≤ a.size := by omega
  have hs2 : a.size ≤ b.size := by omega
  have Heq := Lib.hid heq
  clear heq
  go_enter Try.func35, Try.ntmps35
  go_wp2_with fail
  refine (bits_any a w (by omega)).mono ?_
  rintro e w1 ⟨v, rfl, hown, hb⟩
  obtain ⟨xa, xc, rfl, hl1, hc1, hc2, hrx⟩ := own_reads hown
  clear hown hl1 hc1 hc2
  go_wp2_with fail
  refine (bits_any b w1 (by omega)).mono ?_
  rintro e w2 ⟨v, rfl, hown, hb2⟩
  obtain ⟨ya, yc, rfl, hl1, hc1, hc2, hry⟩ := own_reads hown
  have hrx2 := hrx.later hb2
  have hbb := hb.trans (hb2.mono hb.size)
  clear hown hl1 hc1 hc2 hb hb2 hrx
  go_wp2
  go_loopw [7, 8, 21] (fun f l i wr => ∃ k : Nat, k ≤ 8 * a.size ∧ i = .int .i64 k ∧ f = .int .i64 (fl (dif (by_ a) (by_ b)) k).1 ∧ l = .int .i64 (fl (dif (by_ a) (by_ b)) k).2 ∧ Below w.heap.size w wr ∧ Below w2.heap.size w2 wr) (fun _ _ i _ => 8 * a.size - (intOf i).toNat)
  case atStart => exact ⟨0, Nat.zero_le _, rfl, rfl, rfl, hbb, Below.refl _ _⟩
  case round =>
    obtain ⟨k, hk, rfl, rfl, rfl, hbw, hbw2⟩ := hrel
    have hbd := fl_bd (dif (by_ a) (by_ b)) k
    clear hbb
    by_cases hlt : k < 8 * a.size
    · have he := bn_ne (Crc.bitOf (by_ a) k) (Crc.bitOf (by_ b) k)
      have hd : dif (by_ a) (by_ b) k = (Crc.bitOf (by_ a) k != Crc.bitOf (by_ b) k) := rfl
      rw [← hd] at he
      clear hd
      obtain ⟨xb, xo, rfl, hcx⟩ := (hrx2.later hbw2).at (i := k) (by rw [bitsN_len]; exact hlt)
      obtain ⟨yb, yo, rfl, hcy⟩ := (hry.later hbw2).at (i := k) (by rw [bitsN_len]; omega)
      rw [bitsN_at _ _ _ hlt] at hcx
      rw [bitsN_at _ _ _ (by omega)] at hcy
      generalize bn (Crc.bitOf (by_ a) k) = p at he hcx
      generalize bn (Crc.bitOf (by_ b) k) = q at he hcy
      clear hrx2 hry
      cases hx : dif (by_ a) (by_ b) k
      · have Hf := Lib.hid (fl_no _ _ hx)
        rw [hx] at he
        clear hx
        generalize fl (dif (by_ a) (by_ b)) k = fk at Hf hbd
        have he' : ((p : Int) != (q : Int)) = false := he
        clear he
        go_wp2
        go_quiet (fail)
        go_wp2
        go_roundw
        case rel => exact ⟨k + 1, by omega, by go_num, by rw [Hf.out], by rw [Hf.out], below_drewN hbw _, below_drewN hbw2 _⟩
        case measure => simp [intOf]; omega
      · rw [hx] at he
        have he' : ((p : Int) != (q : Int)) = true := he
        clear he
        by_cases h0 : (fl (dif (by_ a) (by_ b)) k).1 < 0
        · have Hf := Lib.hid (fl_yes_first _ _ hx h0)
          clear hx
          generalize fl (dif (by_ a) (by_ b)) k = fk at hbd h0
          go_wp2
          go_quiet (fail)
          go_wp2
          go_roundw
          case rel => exact ⟨k + 1, by omega, by go_num, by rw [Hf.out.1], by rw [Hf.out.2], below_drewN hbw _, below_drewN hbw2 _⟩
          case measure => simp [intOf]; omega
        · have Hf := Lib.hid (fl_yes _ _ hx h0)
          clear hx
          generalize fl (dif (by_ a) (by_ b)) k = fk at hbd h0 Hf
          go_wp2
          go_quiet (fail)
          go_wp2
          go_roundw
          case rel => exact ⟨k + 1, by omega, by go_num, by rw [Hf.out.1], by rw [Hf.out.2], below_drewN hbw _, below_drewN hbw2 _⟩
          case measure => simp [intOf]; omega
    · obtain rfl : k = 8 * a.size := by omega
      by_cases h0 : (fl (dif (by_ a) (by_ b)) (8 * a.size)).1 < 0
      · have hz := Lib.hid (span_zero _ _ _ rfl h0)
        generalize fl (dif (by_ a) (by_ b)) (8 * a.size) = fk at hbd h0
        go_wp2
        go_ret
        exact ⟨ret_eq hz.out, hbw⟩
      · have hz := Lib.hid (span_ret _ _ _ _ rfl rfl h0)
        generalize fl (dif (by_ a) (by_ b)) (8 * a.size) = fk at hbd h0 hz
        go_wp2
        go_ret
        exact ⟨ret_eq hz.out, hbw⟩
end Go.Proofs.Ytliegljkmgchbaa
