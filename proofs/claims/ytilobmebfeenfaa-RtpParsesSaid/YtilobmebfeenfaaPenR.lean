/- The document's Put, Get, Raw, Num, End. -/
import Derived.Test.YtilobmebfeenfaaPenO
import Derived.Test.YtilobmebfeenfaaPenI
import Derived.RegionTactic
import Derived.BigRegion
import Derived.BigQuiet
import Derived.Deep.QuietTactic
import Derived.Deep.RegionWith
namespace Go.Proofs.Ytilobmebfeenfaa
open Go.RowKit
set_option linter.unusedVariables false
theorem be_succ (n : Int) (k : Nat) : be n (k + 1) = UInt8.ofNat ((n / 2 ^ (8 * k)) % 256).toNat :: be n k := by
  unfold be beP
  rw [List.range_succ_eq_map, List.map_cons, List.map_map]
  congr 1
  apply List.map_congr_left
  intro j hj
  rw [List.mem_range] at hj
  show UInt8.ofNat ((n / 2 ^ (8 * (k + 1 - 1 - (j + 1)))) % 256).toNat = _
  rw [show k + 1 - 1 - (j + 1) = k - 1 - j from by omega]
theorem be_zero (n : Int) : be n 0 = [] := rfl
theorem own_stored_lit (w : World) (B : Nat) (hB : B ≤ w.heap.size) (u : UInt8) (X : Int) (hX : Hid (X = (u.toNat : Int))) : (w.alloc (.cells #[.int .u8 X] 5)).ownsRow B 5 1 (.slice (some ⟨w.heap.size, 0, none⟩) 1 1) 1 [u8v u] := by
  obtain rfl := hX.out
  exact World.ownsRow_lit w #[.int .u8 (u.toNat : Int)] 1 hB (by unfold maxLen; omega) rfl
theorem quo_parts (m R Q : Int) (hR : m.tmod 256 = R) (hQ : (m - R).tdiv 256 = Q) : (R < 0 → R + 256 = m % 256 ∧ Q - 1 = m / 256) ∧ (0 ≤ R → R = m % 256 ∧ Q = m / 256) ∧ -256 < R ∧ R < 256 := by
  have h1 := Int.tmod_eq_emod (a := m) (b := 256)
  have h2 := Int.emod_nonneg m (show (256 : Int) ≠ 0 by decide)
  have h3 := Int.emod_lt_of_pos m (show (0 : Int) < 256 by decide)
  have h4 := Int.mul_ediv_add_emod m 256
  have hd : (256 : Int) ∣ (m - R) := by
    rw [← hR]
    exact Int.dvd_self_sub_tmod
  have hq : Q = (m - R) / 256 := by rw [← hQ, Int.tdiv_eq_ediv_of_dvd hd]
  split at h1 <;> (simp at h1) <;> omega
theorem low_div (n : Int) (k : Nat) : n / 2 ^ (8 * k) / 256 = n / 2 ^ (8 * (k + 1)) := by
  rw [Int.ediv_ediv_of_nonneg (by exact Int.pow_nonneg (by decide)), show 8 * (k + 1) = 8 * k + 8 from by omega, Int.pow_add]; rfl
theorem div_bd (n : Int) (k : Nat) (h1 : -9223372036854775808 ≤ n) (h2 : n ≤ 9223372036854775807) : -9223372036854775808 ≤ n / 2 ^ (8 * k) ∧ n / 2 ^ (8 * k) ≤ 9223372036854775807 := by
  have hp : (0 : Int) < 2 ^ (8 * k) := Int.pow_pos (by decide)
  have hp1 : (1 : Int) ≤ 2 ^ (8 * k) := hp
  constructor
  · refine (Int.le_ediv_iff_mul_le hp).2 ?_
    generalize (2 : Int) ^ (8 * k) = p at hp1
    omega
  · exact Int.le_trans (Int.ediv_le_ediv hp h2) (Int.ediv_le_self _ (by decide))
theorem addr_add (g j : Nat) : (⟨g, 0, none⟩ : Addr).add j = ⟨g, j, none⟩ := by unfold Addr.add; split <;> simp_all
theorem put_row {w : World} {B k : Nat} {m : Int} {v : Value} {u : UInt8} (h : w.ownsRow B 5 1 v (1 + k) ([u8v u] ++ (be m k).map u8v)) (hbe : be m (k + 1) = u :: be m k) :
    w.ownsRow B 5 1 v (k + 1) ((be m (k + 1)).map u8v) ∧ ∃ g c, v = .slice (some ⟨g, 0, none⟩) (k + 1) c := by
  rw [Nat.add_comm 1 k] at h
  refine ⟨by rw [hbe]; exact h, ?_⟩
  rcases h.2 with ⟨_, h0⟩ | ⟨g, cap, cur, rfl, _⟩
  · omega
  · exact ⟨g, cap, rfl⟩
theorem getN_6 (l : List UInt8) (h : l.length ≤ 6) : getN l < 281474976710656 := Nat.lt_of_lt_of_le (getN_lt l) (Nat.le_trans (Nat.pow_le_pow_right (by decide) h) (by decide))
theorem get_any (s : ByteArray) (w : World) (hs : s.size ≤ 7) : Calls Try.prog 32 #[.string s] w fun e w' => e = .returned (.int .i64 (getN (by_ s))) ∧ w = w' := by
  go_enter Try.func32, Try.ntmps32
  go_wp2
  go_loop [3, 4] (fun r i => ∃ k : Nat, k ≤ s.size ∧ i = .int .i64 k ∧ r = .int .i64 (getN ((by_ s).take k) : Int)) (fun _ i => s.size - (intOf i).toNat)
  case atStart => exact ⟨0, Nat.zero_le _, rfl, rfl⟩
  case round =>
    obtain ⟨k, hk, rfl, rfl⟩ := hrel
    by_cases hlt : k < s.size
    · have hts := take_succ_by s k hlt
      have hst : Hid (getN ((by_ s).take (k + 1)) = 256 * getN ((by_ s).take k) + s[k].toNat) := by show _ = _; rw [hts, getN_snoc]
      have hb3 := getN_6 ((by_ s).take k) (by rw [List.length_take, by_len]; omega)
      have hc := UInt8.toNat_lt s[k]
      clear hts
      generalize getN ((by_ s).take k) = r at hst hb3
      go_wp2
      go_round
      case rel => exact ⟨k + 1, by omega, by go_num, by rw [hst.out]; congr 1⟩
      case measure => simp [intOf]; omega
    · obtain rfl : k = s.size := by omega
      have hta := take_all s
      go_wp2
      go_ret
      exact ⟨rfl, rfl⟩
/-- The document's In. -/
def refIn (s : ByteArray) (er : Int) : Value := .agg #[.string s, .int .i64 er]
theorem empty_of_size {s : ByteArray} (h : s.size = 0) : s = { data := #[] } := by
  apply by_inj
  have h0 : by_ s = [] := List.length_eq_zero_iff.1 (by rw [by_len, h])
  rw [h0]; rfl
theorem raw_none (er n : Int) (he : er ≠ 0) : rawT { data := #[] } n = { data := #[] } ∧ rawS { data := #[] } er n = { data := #[] } ∧ rawE { data := #[] } er n = er := by
  have hx : ∀ a b, (ByteArray.mk #[]).extract a b = { data := #[] } := fun a b => empty_of_size (by rw [ByteArray.size_extract]; show min b 0 - a = 0; omega)
  refine ⟨?_, ?_, ?_⟩
  · unfold rawT; split; rfl; exact hx _ _
  · unfold rawS failS
    split
    · rw [if_neg (fun h => he h.1)]
    · exact hx _ _
  · unfold rawE failE
    split
    · rw [if_neg (fun h => he h.1)]
    · rfl
theorem inv_raw (s : ByteArray) (er n : Int) (hinv : er ≠ 0 → s.size = 0) : rawE s er n ≠ 0 → (rawS s er n).size = 0 := by
  by_cases he : er = 0
  · subst he
    unfold rawE rawS failE failS
    split
    · simp; rfl
    · intro h; exact absurd rfl h
  · obtain rfl := empty_of_size (hinv he)
    obtain ⟨e1, e2, e3⟩ := raw_none er n he
    rw [e2]; intro _; rfl
end Go.Proofs.Ytilobmebfeenfaa
