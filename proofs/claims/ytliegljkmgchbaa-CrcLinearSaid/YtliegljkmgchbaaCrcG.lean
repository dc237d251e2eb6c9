/- CrcLinear: the walk. -/
import Derived.Test.YtliegljkmgchbaaCrcF
import Derived.RegionTactic
import Derived.BigRegion
import Derived.Laws.BytesArg
import Derived.Deep.RegionHeld3
import Derived.Deep.DeepCutAuto
namespace Go.Proofs.Ytliegljkmgchbaa
open Go.RowKit
set_option linter.unusedVariables false
theorem info8 : (Try.prog.info? 5).map (fun i => (i.zero, i.size, i.bytes)) = some (some (.int .u8 0), 1, 1) := by kernel_rfl
/-- The first k bytes xored, the others 0. -/
def xorTo (a b : List UInt8) (n k : Nat) : List Int := (List.range n).map fun i => if i < k then (((a[i]?.getD 0) ^^^ (b[i]?.getD 0)).toNat : Int) else 0
theorem xorTo_set (a b : List UInt8) (n k : Nat) (h : k < n) : (xorTo a b n k).set k (((a[k]?.getD 0) ^^^ (b[k]?.getD 0)).toNat : Int) = xorTo a b n (k + 1) := by
  apply List.ext_getElem?
  intro i
  rw [List.getElem?_set]
  by_cases hi : i < n
  · by_cases e : k = i
    · subst e
      simp [xorTo, h]
    · have e2 : (i < k + 1) = (i < k) := by rw [eq_iff_iff]; omega
      simp [xorTo, hi, e, e2]
  · have e1 : (xorTo a b n (k + 1))[i]? = none := List.getElem?_eq_none (by simp [xorTo]; omega)
    have e2 : (xorTo a b n k)[i]? = none := List.getElem?_eq_none (by simp [xorTo]; omega)
    rw [e1, e2]
    split
    · simp [xorTo]; omega
    · rfl
theorem madeB (n : Nat) (a b : List UInt8) : (madeCells #[Value.int .u8 0] n).toList = (xorTo a b n 0).map (Value.int .u8) := by
  unfold madeCells xorTo
  apply List.ext_getElem?
  intro i
  by_cases h : i < n
  · simp [h, Nat.mod_one]
  · rw [List.getElem?_eq_none (by simp; omega), List.getElem?_eq_none (by simp; omega)]
/-- What a text is, whose bytes are xored. -/
def xorB (a b : ByteArray) (n : Nat) : ByteArray := strOfNums (xorTo (by_ a) (by_ b) n n)
theorem xorB_size (a b : ByteArray) (n : Nat) : (xorB a b n).size = n := by unfold xorB; rw [strOfNums_size]; simp [xorTo]
theorem xorB_by (a b : ByteArray) (n : Nat) : by_ (xorB a b n) = (List.range n).map fun i => ((by_ a)[i]?.getD 0) ^^^ ((by_ b)[i]?.getD 0) := by
  unfold xorB by_
  rw [strOfNums_data]
  apply List.ext_getElem?
  intro i
  by_cases h : i < n
  · simp [xorTo, h]
  · rw [List.getElem?_eq_none (by simp [xorTo]; omega), List.getElem?_eq_none (by simp; omega)]
theorem xorB_bit (a b : ByteArray) (n i : Nat) (h : i < 8 * n) : Crc.bitOf (by_ (xorB a b n)) i = (Crc.bitOf (by_ a) i ^^ Crc.bitOf (by_ b) i) := by
  unfold Crc.bitOf
  rw [xorB_by]
  have h8 : i / 8 < n := by omega
  simp [h8]
theorem bitOf_take (l : List UInt8) (n i : Nat) (h : i < 8 * n) : Crc.bitOf (l.take n) i = Crc.bitOf l i := by
  unfold Crc.bitOf
  rw [List.getElem?_take_of_lt (by omega)]
/-- LINEAR: in the code's own numbers. -/
theorem rem_linear (a b : ByteArray) (n : Nat) (ha : n ≤ a.size) (hb : n ≤ b.size) :
    bits .xor .u32 ((remOf (by_ (a.extract 0 n))).toNat : Int) ((remOf (by_ (b.extract 0 n))).toNat : Int) = ((remOf (by_ (xorB a b n))).toNat : Int) := by
  have h1 := (remOf (by_ (a.extract 0 n))).isLt
  have h2 := (remOf (by_ (b.extract 0 n))).isLt
  rw [u32_xor_nat _ _ (by omega) (by omega), ← BitVec.toNat_xor]
  congr 2
  unfold remOf
  rw [by_extract a 0 n ha, by_extract b 0 n hb, List.drop_zero, List.drop_zero, List.length_take, List.length_take, by_len, by_len, by_len, xorB_size, Nat.min_eq_left ha, Nat.min_eq_left hb]
  rw [Crc.R_congr (8 * n) (fun i hi => bitOf_take (by_ a) n i hi), Crc.R_congr (8 * n) (fun i hi => bitOf_take (by_ b) n i hi), Crc.R_congr (8 * n) (fun i hi => xorB_bit a b n i hi), Crc.R_xor]
theorem rem_at (s : ByteArray) (b : Nat) (w : World) (h : w.cell? ⟨b, 0, none⟩ = some (.string s)) (hs : s.size ≤ 1099511627776) :
    Calls Try.prog 28 #[.slice (some ⟨b, 0, none⟩) 1 1] w fun e w' => e = .returned (.int .u32 ((remOf (by_ s)).toNat : Int)) ∧ w = w' := by
  rw [← cat_one]
  refine rem_any [s] _ _ 1 _ rfl (Or.inr ⟨_, _, rfl, fun i hi => ?_⟩) (by simp) (by simpa using hs)
  match i, hi with
  | 0, _ => simpa using h
/-! New cells, behind what was laid since. -/
theorem past {w : World} {a : Addr} {v : Value} (o : Obj) (h : w.cell? a = some v) : (w.alloc o).cell? a = some v := (World.cell?_alloc_lt _ _ _ (World.block_lt_of_cell? w a h)).trans h
theorem drewc {w : World} {a : Addr} {v : Value} (h : w.cell? a = some v) : w.drew.cell? a = some v := h
theorem nc1 (w : World) (s : ByteArray) (e : TypeId) : (w.alloc (.cells #[.string s] e)).cell? ⟨w.heap.size, 0, none⟩ = some (.string s) := by simp
theorem nc2 (w : World) (o : Obj) (s : ByteArray) (e : TypeId) : ((w.alloc o).alloc (.cells #[.string s] e)).cell? ⟨w.heap.size + 1, 0, none⟩ = some (.string s) := by
  have h := nc1 (w.alloc o) s e
  rw [World.size_alloc] at h
  exact h
theorem nc3 (w : World) (o p : Obj) (s : ByteArray) (e : TypeId) : (((w.alloc o).alloc p).alloc (.cells #[.string s] e)).cell? ⟨w.heap.size + 1 + 1, 0, none⟩ = some (.string s) := by
  have h := nc2 (w.alloc o) p s e
  rw [World.size_alloc] at h
  exact h
namespace crcLinear
set_option maxHeartbeats 12000000 in
theorem walk (s0 s1 : ByteArray) (hs0 : s0.size ≤ maxLen) (hs1 : s1.size ≤ maxLen) (w : World) :
    Calls Try.prog 12 #[.string s0, .string s1] w fun e w' => e = .returned (.bool true) ∧ Below w.heap.size w w' := by
  unfold maxLen at hs0 hs1
  have hA := (cut_size s0 60).1
  have hB := (cut_size s1 60).1
  obtain ⟨i0, hi, hz0, hz1, hz2⟩ := info_parts info8
  go_enter Try.func12, Try.ntmps12
  go_wp2_with fail
  refine (crcAwake_any _).mono ?_
  rintro e w1 ⟨rfl, hb⟩
  go_wp2_with fail
  refine (cut_any s0 60 w1 (by omega) (by omega)).mono ?_
  rintro e w2 ⟨rfl, rfl⟩
  go_wp2_with fail
  refine (cut_any s1 60 w1 (by omega) (by omega)).mono ?_
  rintro e w2 ⟨rfl, rfl⟩
  generalize cutB s0 60 = A at hA
  generalize cutB s1 60 = B at hB
  clear hs0 hs1
  go_upto_region 4 with fail
  go_cut [5] (fun v wx => ∃ n : Nat, v = .int .i64 n ∧ n ≤ A.size ∧ n ≤ B.size ∧ wx = w1)
  case first =>
    rcases Nat.lt_or_ge B.size A.size with h | h
    · go_wp2_with fail
      go_meet
      exact ⟨_, rfl, Nat.le_of_lt h, Nat.le_refl _, rfl⟩
    · go_wp2_with fail
      go_meet
      exact ⟨_, rfl, Nat.le_refl _, h, rfl⟩
  case rest =>
  obtain ⟨n, rfl, hnA, hnB, rfl⟩ := hcut
  go_wp2_with (at_make; refine wpList_make_full wc rfl _ _ 52 rfl wc.heap.size 5 i0 (.int .u8 0) 1 Try.underlying52 hi hz0 hz1 .i64 .i64 _ _ n rfl rfl rfl rfl ?_ ?_ (Nat.le_refl _) ?_)
  · rw [hz2]; omega
  · unfold maxLen; omega
  intro w2 hown hgrow
  have hb2 : Below wc.heap.size wc w2 := (Below.refl _ _).grown hgrow (Nat.le_refl _) (by intro k hk; cases hk)
  rw [madeB n (by_ A) (by_ B)] at hown
  clear hgrow
  go_wp2
  go_loopw [22] (fun i wr => ∃ k : Nat, k ≤ n ∧ i = .int .i64 k ∧ wr.ownsRow wc.heap.size 5 1 (.slice (some ⟨wc.heap.size, 0, none⟩) n n) n ((xorTo (by_ A) (by_ B) n k).map (Value.int .u8)) ∧ Below wc.heap.size wc wr) (fun i _ => n - (intOf i).toNat)
  case atStart => exact ⟨0, Nat.zero_le _, rfl, hown, hb2⟩
  case round =>
    obtain ⟨k, hk, rfl, hown2, hb3⟩ := hrel
    clear hown hb2
    by_cases hlt : k < n
    · have hcell := hown2.cellAt k (by omega)
      have hfz := hown2.frozenAt k
      rw [show ((xorTo (by_ A) (by_ B) n k).map (Value.int .u8))[k]? = some (.int .u8 0) from by simp [xorTo, hlt]] at hcell
      have hkA : k < A.size := by omega
      have hkB : k < B.size := by omega
      have hx := u8_xor_nat A[k].toNat B[k].toNat (UInt8.toNat_lt _) (UInt8.toNat_lt _)
      go_wp2
      go_region
      go_wp2
      go_roundw
      case rel =>
        refine ⟨k + 1, by omega, by go_num, ?_, (hb3.setCell (Nat.le_refl _) _).drew⟩
        have hst := (hown2.stored k (.int .u8 ((A[k].toNat ^^^ B[k].toNat : Nat) : Int))).1.drew
        have hset := xorTo_set (by_ A) (by_ B) n k hlt
        rw [by_at A k hkA, by_at B k hkB, UInt8.toNat_xor] at hset
        rw [← hset, List.map_set]
        exact hst
      case measure => simp [intOf]; omega
    · obtain rfl : k = n := by omega
      have hlin := rem_linear A B k hnA hnB
      have hX := xorB_size A B k
      have hcells : ∀ i, i < k → wr.cell? ⟨wc.heap.size, 0 + i, none⟩ = some (.int .u8 ((xorTo (by_ A) (by_ B) k k).getD i 0)) := by
        intro i hik
        rw [Nat.zero_add, hown2.cellAt i (by omega)]
        simp [xorTo, hik]
      have hconv : ∀ W : World, (∀ i, i < k → W.cell? ⟨wc.heap.size, 0 + i, none⟩ = some (.int .u8 ((xorTo (by_ A) (by_ B) k k).getD i 0))) → Sem.run Try.prog (convert 52 9 (.slice (some ⟨wc.heap.size, 0, none⟩) k k)) W = Result.ok (.string (xorB A B k)) W :=
        fun W hW => run_convert_bytes_arg W 52 5 Try.underlying52 Try.underlying5 wc.heap.size 0 k k _ (by simp [xorTo]) hW 9 Try.underlying9
      have hbb := hb.trans (hb3.mono hb.size)
      have h0 := hconv wr hcells
      have hk : ∀ W : World, Below wr.heap.size wr W → Below wr.heap.size wr W ∧ Sem.run Try.prog (convert 52 9 (.slice (some ⟨wc.heap.size, 0, none⟩) k k)) W = Result.ok (.string (xorB A B k)) W := fun W hW => ⟨hW, hconv W (fun i hi => cell_later hW (hcells i hi))⟩
      have Hk := Lib.hid hk
      have hsX : (xorB A B k).size ≤ 1099511627776 := by omega
      have hsA : (A.extract 0 k).size ≤ 1099511627776 := by simp; omega
      have hsB : (B.extract 0 k).size ≤ 1099511627776 := by simp; omega
      clear hconv hcells hX hk hown2 h0
      go_wp2_with fail
      go_region_held3 (fun w' => Below wr.heap.size wr w' ∧ Sem.run Try.prog (convert 52 9 (.slice (some ⟨wc.heap.size, 0, none⟩) k k)) w' = Result.ok (.string (xorB A B k)) w') ((refine Hk.out _ ?_; go_grown)) (first | (go_at_call 28; refine (rem_at (xorB A B k) _ _ ?_ hsX).mono ?_; (apply drewc; first | exact nc1 _ _ _ | exact nc2 _ _ _ _ | exact nc3 _ _ _ _ _ | exact past _ (nc1 _ _ _) | exact past _ (nc2 _ _ _ _) | exact past _ (past _ (nc1 _ _ _))); rintro e w' ⟨rfl, rfl⟩) | (go_at_call 28; refine (rem_at (A.extract 0 k) _ _ ?_ hsA).mono ?_; (apply drewc; first | exact nc1 _ _ _ | exact nc2 _ _ _ _ | exact nc3 _ _ _ _ _ | exact past _ (nc1 _ _ _) | exact past _ (nc2 _ _ _ _) | exact past _ (past _ (nc1 _ _ _))); rintro e w' ⟨rfl, rfl⟩) | (go_at_call 28; refine (rem_at (B.extract 0 k) _ _ ?_ hsB).mono ?_; (apply drewc; first | exact nc1 _ _ _ | exact nc2 _ _ _ _ | exact nc3 _ _ _ _ _ | exact past _ (nc1 _ _ _) | exact past _ (nc2 _ _ _ _) | exact past _ (past _ (nc1 _ _ _))); rintro e w' ⟨rfl, rfl⟩))
      all_goals (go_wp2; go_ret; exact ⟨rfl, hbb.trans ((by go_grown : Below wr.heap.size wr _).mono hbb.size)⟩)
end crcLinear
end Go.Proofs.Ytliegljkmgchbaa
