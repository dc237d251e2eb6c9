/- Texts as lists of bytes, rows of bytes, what a call answers: common words of all walks. -/
import Derived.Test.YtilobmebfeenfaaRows
import Derived.Test.YtilobmebfeenfaaSerMath
import Derived.Test.YtilobmebfeenfaaRow
import Derived.WalkKit
import Derived.ProofKit
import Derived.OpenShut
import Derived.ShutString
import Derived.WalkLawsBesides
import Derived.WalkSpells
import Derived.Lib.Hide
import Derived.Outline
import Derived.Handy
import Derived.Laws.BitsAllLaws
import Derived.Laws.BytesArg
import Derived.Lib.SlBuf
import Derived.Lib.BufferWrite
import Derived.Laws.CopyOwn
import Derived.OneCell
namespace Go.Proofs.Ytilobmebfeenfaa
open Go.RowKit
set_option linter.unusedVariables false
set_option linter.unusedVariables false
theorem ret_eq {k : IntKind} {a b : Int} (h : a = b) : Ending.returned (.int k a) = .returned (.int k b) := by rw [h]
theorem ret_bool {a b : Bool} (h : a = b) : Ending.returned (.bool a) = .returned (.bool b) := by rw [h]
/-- A text's bytes. -/
def by_ (s : ByteArray) : List UInt8 := s.data.toList
theorem by_len (s : ByteArray) : (by_ s).length = s.size := by simp [by_]
theorem by_at (s : ByteArray) (i : Nat) (h : i < s.size) : (by_ s)[i]?.getD 0 = s[i] := by
  have h' : i < s.data.size := h
  have e : s.data.toList[i]? = some (s.data[i]) := by rw [Array.getElem?_toList, Array.getElem?_eq_getElem h']
  unfold by_
  rw [e]; rfl
set_option linter.unusedVariables false
theorem info8 : (Try.prog.info? 5).map (fun i => (i.zero, i.size, i.bytes)) = some (some (.int .u8 0), 1, 1) := by kernel_rfl
theorem ret_str {a b : ByteArray} (h : a = b) : Ending.returned (.string a) = .returned (.string b) := by rw [h]
/-- A byte in memory. -/
def u8v (b : UInt8) : Value := .int .u8 (b.toNat : Int)
/-- A row of the call's own, over which a whole text is copied. -/
theorem copy_string_own {P : Program} {w W : World} {ops : Array Oper} {rest : List Oper} {o : Oper} {a : Act} {Q : Exit → Act → World → Prop} (hgd : o.guard = none) (d s : Operand) (dT sT : TypeId)
    (ho : o.op = .call { callee := .builtin .copy, args := #[d, s], argTypes := #[dT, sT] }) (elem : TypeId) (hu : P.underlying dT = some (.slice elem)) (hsz : (P.info? elem).map (·.size) = some 1)
    (B g n : Nat) (xs : List Value) (S : ByteArray) (hown : w.ownsRow B elem 1 (.slice (some ⟨g, 0, none⟩) n n) n xs) (hS : S.size = n) (hd : a.eval d = .slice (some ⟨g, 0, none⟩) n n) (hs : a.eval s = .string S)
    (B0 : Nat) (hb : Below B0 W w) (hB0 : B0 ≤ B)
    (h : ∀ w', w'.ownsRow B elem 1 (.slice (some ⟨g, 0, none⟩) n n) n ((by_ S).map u8v) → Below B0 W w' → wpList P ops Q rest (a.put o.dst (goInt n)) w') : wpList P ops Q (o :: rest) a w := by
  rcases hown.2 with ⟨hv, _⟩ | ⟨g', cap, cur, hv, hBg, hg, hnc, hcm, hcs, htake⟩
  · cases hv
  · simp only [Value.slice.injEq, Option.some.injEq, Addr.mk.injEq, and_true, true_and] at hv
    obtain ⟨rfl, rfl⟩ := hv
    have hr := Lib.run_copy_row_string (P := P) w dT sT o.type elem g 0 n n S cur elem hu hsz hg (by omega) (by omega)
    refine Lib.wpList_copy_run w hgd d s dT sT ho _ _ hd hs hr ?_
    rw [hS]
    have hlen : (Lib.byteCells S.data.toList).length = n := by rw [Lib.byteCells_length]; simpa using hS
    have harr : cur.toList.take 0 ++ Lib.byteCells S.data.toList ++ cur.toList.drop (0 + n) = (by_ S).map u8v := by
      rw [List.take_zero, List.nil_append, List.drop_of_length_le (by simp; omega), List.append_nil]; rfl
    refine h _ ?_ (below_setRow hb (by omega) _)
    rw [harr]
    refine ⟨by simp [by_len, hS], Or.inr ⟨g, n, ((by_ S).map u8v).toArray, rfl, hBg, setRow_heap w g cur _ elem _ hg, Nat.le_refl _, hcm, by simp [by_len, hS], ?_⟩⟩
    rw [List.toList_toArray]
    exact List.take_of_length_le (by simp [by_len, hS])
def ofL (l : List UInt8) : ByteArray := ⟨l.toArray⟩
theorem by_ofL (l : List UInt8) : by_ (ofL l) = l := by simp [by_, ofL]
theorem ofL_size (l : List UInt8) : (ofL l).size = l.length := by simp [ofL, ByteArray.size]
theorem madeAny (n : Nat) : (madeCells #[Value.int .u8 0] n).toList = (List.replicate n (0 : UInt8)).map u8v := by
  unfold madeCells
  apply List.ext_getElem?
  intro i
  by_cases h : i < n
  · simp [h, Nat.mod_one, u8v]
  · rw [List.getElem?_eq_none (by simp; omega), List.getElem?_eq_none (by simp; omega)]
/-- 'string(b)' of a row of the call's own. -/
theorem conv_own {w : World} {B g n c : Nat} {l : List UInt8} (h : w.ownsRow B 5 1 (.slice (some ⟨g, 0, none⟩) n c) n (l.map u8v)) (hl : l.length = n) :
    Sem.run Try.prog (convert 84 9 (.slice (some ⟨g, 0, none⟩) n c)) w = Result.ok (.string (ofL l)) w := by
  have e := run_convert_bytes_arg (P := Try.prog) w 84 5 Try.underlying84 Try.underlying5 g 0 n c (l.map fun b => (b.toNat : Int)) (by simp [hl]) (fun i hi => by
    rw [Nat.zero_add, h.cellAt i (by omega)]
    simp [u8v, List.getD, hl, hi]) 9 Try.underlying9
  rw [e]
  have hl2 : (l.map fun b => (b.toNat : Int)).map (fun n => UInt8.ofNat n.toNat) = l := by
    rw [List.map_map]
    conv => rhs; rw [← List.map_id l]
    apply List.map_congr_left
    intro b _
    simp
  unfold strOfNums ofL
  rw [hl2]
theorem by_extract (s : ByteArray) (a b : Nat) (h : b ≤ s.size) : by_ (s.extract a b) = ((by_ s).take b).drop a := by
  unfold by_
  rw [ByteArray.data_extract, List.drop_take]
  simp
/-- The first n bytes of a text. -/
def cutB (s : ByteArray) (n : Nat) : ByteArray := if n < s.size then s.extract 0 n else s
theorem by_cut (s : ByteArray) (n : Nat) : by_ (cutB s n) = (by_ s).take n := by
  unfold cutB
  split
  · rw [by_extract _ _ _ (by omega)]; simp
  · rw [List.take_of_length_le (by rw [by_len]; omega)]
theorem cut_size (s : ByteArray) (n : Nat) : (cutB s n).size ≤ n ∧ (cutB s n).size ≤ s.size := by
  have h := congrArg List.length (by_cut s n)
  rw [by_len, List.length_take, by_len] at h
  omega
theorem by_append (a b : ByteArray) : by_ (a ++ b) = by_ a ++ by_ b := by simp [by_]
theorem ofL_by (s : ByteArray) : ofL (by_ s) = s := by simp [ofL, by_]
theorem take_all (s : ByteArray) : (by_ s).take s.size = by_ s := List.take_of_length_le (by rw [by_len]; exact Nat.le_refl _)
theorem by_nums (l : List Int) : by_ (strOfNums l) = l.map fun n => UInt8.ofNat n.toNat := by unfold by_; rw [strOfNums_data]
theorem by_inj {s t : ByteArray} (h : by_ s = by_ t) : s = t := by rw [← ofL_by s, h, ofL_by]
/-- All texts, one behind the other. -/
def cat (zs : List ByteArray) : List UInt8 := (zs.map by_).flatten
theorem cat_take_succ (zs : List ByteArray) (k : Nat) (h : k < zs.length) : cat (zs.take (k + 1)) = cat (zs.take k) ++ by_ (zs[k]?.getD ByteArray.empty) := by
  unfold cat
  rw [List.take_succ_eq_append_getElem h, List.map_append, List.flatten_append]
  congr 1
  simp [h]
theorem cat_one (s : ByteArray) : cat [s] = by_ s := by simp [cat]
theorem reads_one (w : World) (s : ByteArray) (e : TypeId) : ReadsT (w.alloc (.cells #[.string s] e)) (some ⟨w.heap.size, 0, none⟩) [s] := by
  refine Or.inr ⟨_, _, rfl, fun i hi => ?_⟩
  match i, hi with
  | 0, _ => simp
set_option linter.unusedVariables false
theorem reads_two (w : World) (s t : ByteArray) (e : TypeId) : ReadsT (w.alloc (.cells #[.string s, .string t] e)) (some ⟨w.heap.size, 0, none⟩) [s, t] := by
  refine Or.inr ⟨_, _, rfl, fun i hi => ?_⟩
  match i, hi with
  | 0, _ => simp
  | 1, _ => simp
theorem reads_three (w : World) (s t u : ByteArray) (e : TypeId) : ReadsT (w.alloc (.cells #[.string s, .string t, .string u] e)) (some ⟨w.heap.size, 0, none⟩) [s, t, u] := by
  refine Or.inr ⟨_, _, rfl, fun i hi => ?_⟩
  match i, hi with
  | 0, _ => simp
  | 1, _ => simp
  | 2, _ => simp
theorem texts_ne {s t : ByteArray} (h : s ≠ t) : (s.toList == t.toList) = false := by
  rw [ByteArray.toList_eq, ByteArray.toList_eq, beq_eq_false_iff_ne]
  intro e
  apply h
  cases s; cases t
  congr 1
  exact Array.toList_inj.1 e
theorem texts_eq (s t : ByteArray) : (s.toList == t.toList) = decide (s = t) := by
  by_cases h : s = t
  · subst h; simp
  · rw [texts_ne h, decide_eq_false h]
theorem isEmpty_size (s : ByteArray) : s.toList.isEmpty = decide (s.size = 0) := by
  rw [ByteArray.toList_eq, Bool.eq_iff_iff, List.isEmpty_iff, decide_eq_true_eq, ← List.length_eq_zero_iff, Array.length_toList]; rfl
/-- Behind a call that only makes memory: what was there reads as before. -/
theorem bcell {W w1 : World} (hb : Below W.heap.size W w1) : (∀ b o, b < W.heap.size → w1.cell? ⟨b, o, none⟩ = W.cell? ⟨b, o, none⟩) ∧ (∀ b o, b < W.heap.size → w1.frozen? ⟨b, o, none⟩ = W.frozen? ⟨b, o, none⟩) :=
  ⟨fun b o h => hb.cell (p := ⟨b, o, none⟩) h, fun b o h => hb.frozen (p := ⟨b, o, none⟩) h⟩
theorem u16_bd {a : Int} (h : (Lit.int .u16 a).wf = true) : 0 ≤ a ∧ a ≤ 65535 := by
  simp [Lit.wf, IntKind.min, IntKind.max, IntKind.bits, IntKind.signed] at h; omega
end Go.Proofs.Ytilobmebfeenfaa
