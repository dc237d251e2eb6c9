/- Plain facts on numbers of 16 bits that go round. -/
import Derived.WalkKit
import Derived.Handy
import Derived.Laws.BitsLemmas
import Derived.ProofKit
import Derived.OpenShut
import Derived.WalkLawsBesides
import Derived.WalkSpells
import Derived.SliceStrings
import Derived.Below
import Derived.Test.YtjoikidnnhjogaaRows
import Derived.ShutString
import Derived.Lib.Hide
import Derived.Outline
import Derived.Laws.BitsAllLaws
import Derived.Laws.BytesArg
import Derived.Lib.SlBuf
import Derived.Lib.BufferWrite
import Derived.Laws.CopyOwn
import Derived.OneCell
import Derived.Deep.RegionLaw
import Derived.Lib.AppendStr
import Derived.RegionTactic
import Derived.BigRegion
import Derived.BigQuiet
import Derived.Deep.QuietTactic
import Derived.Deep.RegionWith
import Derived.Deep.Slices
import Derived.Deep.Fields
import Derived.ChangeSame
import Derived.ChangeOld
namespace Go.Proofs.Ytjoikidnnhjogaa
open Go.RowKit
/-- How far b is behind a. -/
def d16 (a b : Int) : Int := (b - a + 32768) % 65536 - 32768
theorem d16_wrap (a b : Int) : wrap64 (IntKind.i16.wrap (IntKind.u16.wrap (b - a))) = d16 a b := by
  simp only [wrap64, IntKind.wrap, IntKind.bits, IntKind.signed, d16]
  simp
  omega
theorem d16_bd (a b : Int) : -32768 ≤ d16 a b ∧ d16 a b ≤ 32767 := by unfold d16; omega
theorem tmod_low (a : Int) : (if a.tmod 65536 < 0 then wrap64 (a.tmod 65536 + 65536) else a.tmod 65536) = a % 65536 := by
  have h := Int.tmod_eq_emod (a := a) (b := 65536)
  unfold wrap64
  split <;> split at h <;> simp at h <;> omega
/-- What a number of an int counts as, where one of at most 2^62 is asked. -/
def near62 (n : Int) : Int := max (-4611686018427387904) (min n 4611686018427387904)
/-- The lowest bits of a whole number. -/
theorem i64_mask (n : Int) (m : Nat) (hm : m ≤ 62) : bits .and .i64 n ((2 ^ m - 1 : Nat) : Int) = n % ((2 ^ m : Nat) : Int) := by
  have hlt : 2 ^ m ≤ 2 ^ 62 := Nat.pow_le_pow_right (by decide) hm
  have hpos : 0 < 2 ^ m := Nat.pow_pos (by decide)
  have hmask : (BitVec.ofInt 64 ((2 ^ m - 1 : Nat) : Int)).toNat = 2 ^ m - 1 := by
    rw [BitVec.ofInt_natCast, BitVec.toNat_ofNat]; exact Nat.mod_eq_of_lt (by omega)
  have key : (BitVec.ofInt 64 n &&& BitVec.ofInt 64 ((2 ^ m - 1 : Nat) : Int)).toNat = (n % ((2 ^ 64 : Nat) : Int)).toNat % 2 ^ m := by
    rw [BitVec.toNat_and, BitVec.toNat_ofInt, hmask, Nat.and_two_pow_sub_one_eq_mod]
  show IntKind.i64.wrap ((BitVec.ofInt 64 n &&& BitVec.ofInt 64 ((2 ^ m - 1 : Nat) : Int)).toNat : Nat) = n % ((2 ^ m : Nat) : Int)
  have hd : ((2 ^ m : Nat) : Int) ∣ ((2 ^ 64 : Nat) : Int) := Int.natCast_dvd_natCast.2 (Nat.pow_dvd_pow 2 (by omega))
  have h64 : 0 ≤ n % ((2 ^ 64 : Nat) : Int) := Int.emod_nonneg _ (by decide)
  rw [key, Int.natCast_emod, Int.toNat_of_nonneg h64, Int.emod_emod_of_dvd _ hd]
  have h0 : 0 ≤ n % ((2 ^ m : Nat) : Int) := Int.emod_nonneg _ (by omega)
  have h1 : n % ((2 ^ m : Nat) : Int) < ((2 ^ m : Nat) : Int) := Int.emod_lt_of_pos _ (by omega)
  exact IntWalk.i64_in _ ⟨by omega, by omega⟩
theorem i64_and65535 (n : Int) : bits .and .i64 n 65535 = n % 65536 := i64_mask n 16 (by decide)
theorem i64_and4095 (n : Int) : bits .and .i64 n 4095 = n % 4096 := i64_mask n 12 (by decide)
theorem i64_and255 (n : Int) : bits .and .i64 n 255 = n % 256 := i64_mask n 8 (by decide)
end Go.Proofs.Ytjoikidnnhjogaa

/- Slices of integers, and of texts, that came in: what a walk is told of them. -/
namespace Go.Proofs.Ytjoikidnnhjogaa
open Go.RowKit Go.WideShapes
/-- A slice of integers that came in: nil; or a row of 'cap' cells, of which the first 'len' are its elements. -/
def IsRow (k : IntKind) (w : World) (a : Option Addr) (len cap : Nat) (zs : List Int) : Prop :=
  (a = none ∧ len = 0 ∧ cap = 0 ∧ zs = []) ∨
  ∃ x, a = some x ∧ len ≤ cap ∧ cap ≤ maxLen ∧ zs.length = cap ∧ (∀ i, i < zs.length → w.cell? (x.add i) = some (.int k (zs.getD i 0))) ∧ ∀ n ∈ zs, (Lit.int k n).wf = true
/-- A slice of texts that came in. -/
def IsTexts (w : World) (a : Option Addr) (len cap : Nat) (zs : List ByteArray) : Prop :=
  (a = none ∧ len = 0 ∧ cap = 0 ∧ zs = []) ∨
  ∃ x, a = some x ∧ len ≤ cap ∧ cap ≤ maxLen ∧ zs.length = cap ∧ (∀ i, i < zs.length → w.cell? (x.add i) = some (.string (zs.getD i ByteArray.empty))) ∧ ∀ s ∈ zs, s.size ≤ maxLen
/-- The value is a slice whose elements, in w, are these values. -/
def Holds (w : World) (a : Option Addr) (vs : List Value) : Prop :=
  vs = [] ∨ ∃ b off, a = some ⟨b, off, none⟩ ∧ ∀ i, i < vs.length → w.cell? ⟨b, off + i, none⟩ = some (vs[i]?.getD undef)
/-- The value is a slice whose elements, in w, are these numbers. -/
def Reads (k : IntKind) (w : World) (a : Option Addr) (zs : List Int) : Prop :=
  zs = [] ∨ ∃ b off, a = some ⟨b, off, none⟩ ∧ ∀ i, i < zs.length → w.cell? ⟨b, off + i, none⟩ = some (.int k (zs[i]?.getD 0))
def ReadsT (w : World) (a : Option Addr) (zs : List ByteArray) : Prop :=
  zs = [] ∨ ∃ b off, a = some ⟨b, off, none⟩ ∧ ∀ i, i < zs.length → w.cell? ⟨b, off + i, none⟩ = some (.string (zs[i]?.getD ByteArray.empty))
theorem Reads.later {k : IntKind} {w w' : World} {a : Option Addr} {zs : List Int} (h : Reads k w a zs) (hb : Below w.heap.size w w') : Reads k w' a zs := by
  rcases h with h | ⟨b, off, ha, hc⟩
  · exact Or.inl h
  · exact Or.inr ⟨b, off, ha, fun i hi => cell_later hb (hc i hi)⟩
theorem ReadsT.later {w w' : World} {a : Option Addr} {zs : List ByteArray} (h : ReadsT w a zs) (hb : Below w.heap.size w w') : ReadsT w' a zs := by
  rcases h with h | ⟨b, off, ha, hc⟩
  · exact Or.inl h
  · exact Or.inr ⟨b, off, ha, fun i hi => cell_later hb (hc i hi)⟩
theorem Reads.take {k : IntKind} {w : World} {a : Option Addr} {zs : List Int} (h : Reads k w a zs) (n : Nat) : Reads k w a (zs.take n) := by
  rcases h with h | ⟨b, off, ha, hc⟩
  · exact Or.inl (by simp [h])
  · refine Or.inr ⟨b, off, ha, fun i hi => ?_⟩
    rw [List.length_take] at hi
    rw [hc i (by omega), List.getElem?_take_of_lt (by omega)]
theorem ReadsT.take {w : World} {a : Option Addr} {zs : List ByteArray} (h : ReadsT w a zs) (n : Nat) : ReadsT w a (zs.take n) := by
  rcases h with h | ⟨b, off, ha, hc⟩
  · exact Or.inl (by simp [h])
  · refine Or.inr ⟨b, off, ha, fun i hi => ?_⟩
    rw [List.length_take] at hi
    rw [hc i (by omega), List.getElem?_take_of_lt (by omega)]
theorem Reads.at {k : IntKind} {w : World} {a : Option Addr} {zs : List Int} (h : Reads k w a zs) {i : Nat} (hi : i < zs.length) :
    ∃ b off, a = some ⟨b, off, none⟩ ∧ w.cell? ⟨b, off + i, none⟩ = some (.int k (zs[i]?.getD 0)) := by
  rcases h with h | ⟨b, off, ha, hc⟩
  · simp [h] at hi
  · exact ⟨b, off, ha, hc i hi⟩
theorem ReadsT.at {w : World} {a : Option Addr} {zs : List ByteArray} (h : ReadsT w a zs) {i : Nat} (hi : i < zs.length) :
    ∃ b off, a = some ⟨b, off, none⟩ ∧ w.cell? ⟨b, off + i, none⟩ = some (.string (zs[i]?.getD ByteArray.empty)) := by
  rcases h with h | ⟨b, off, ha, hc⟩
  · simp [h] at hi
  · exact ⟨b, off, ha, hc i hi⟩
/-- What came in, as its elements alone. -/
theorem IsRow.reads {k : IntKind} {w : World} {a : Option Addr} {len cap : Nat} {zs : List Int} (h : IsRow k w a len cap zs) :
    ∃ es, es.length = len ∧ len ≤ cap ∧ cap ≤ 9223372036854775807 ∧ Reads k w a es ∧ ∀ n ∈ es, (Lit.int k n).wf = true := by
  rcases h with ⟨_, h, h', _⟩ | ⟨x, rfl, hl, hm, hz, hcell, hwz⟩
  · exact ⟨[], by simp [h], by omega, by omega, Or.inl rfl, by simp⟩
  · refine ⟨zs.take len, by simp; omega, hl, by unfold maxLen at hm; omega, ?_, fun n hn => hwz n (List.mem_of_mem_take hn)⟩
    by_cases h0 : zs.length = 0
    · exact Or.inl (by rw [List.length_eq_zero_iff] at h0; simp [h0])
    · obtain ⟨b, off, rfl, hc⟩ := ints_at hcell (by omega)
      exact Reads.take (Or.inr ⟨b, off, rfl, fun i hi => by rw [hc i hi, List.getD_eq_getElem?_getD]⟩) len
theorem texts_at {w : World} {a : Addr} {zs : List ByteArray} (h : ∀ i, i < zs.length → w.cell? (a.add i) = some (.string (zs.getD i ByteArray.empty))) (hp : 0 < zs.length) :
    ∃ b off, a = ⟨b, off, none⟩ ∧ ∀ j, j < zs.length → w.cell? ⟨b, off + j, none⟩ = some (.string (zs.getD j ByteArray.empty)) := by
  obtain ⟨b, off, spot⟩ := a
  have hspot : spot = none := by simpa [Addr.add] using World.cell?_spot (h 0 hp)
  subst hspot
  exact ⟨b, off, rfl, fun j hj => by rw [← Go.WideShapes.add_plain]; exact h j hj⟩
theorem IsTexts.reads {w : World} {a : Option Addr} {len cap : Nat} {zs : List ByteArray} (h : IsTexts w a len cap zs) :
    ∃ es, es.length = len ∧ len ≤ cap ∧ cap ≤ 9223372036854775807 ∧ ReadsT w a es ∧ ∀ s ∈ es, s.size ≤ maxLen := by
  rcases h with ⟨_, h, h', _⟩ | ⟨x, rfl, hl, hm, hz, hcell, hwz⟩
  · exact ⟨[], by simp [h], by omega, by omega, Or.inl rfl, by simp⟩
  · refine ⟨zs.take len, by simp; omega, hl, by unfold maxLen at hm; omega, ?_, fun n hn => hwz n (List.mem_of_mem_take hn)⟩
    by_cases h0 : zs.length = 0
    · exact Or.inl (by rw [List.length_eq_zero_iff] at h0; simp [h0])
    · obtain ⟨b, off, rfl, hc⟩ := texts_at hcell (by omega)
      exact ReadsT.take (Or.inr ⟨b, off, rfl, fun i hi => by rw [hc i hi, List.getD_eq_getElem?_getD]⟩) len
/-- An owned row of numbers, as a slice whose elements are these. -/
theorem own_reads {k : IntKind} {w : World} {B : Nat} {e : TypeId} {v : Value} {n : Nat} {zs : List Int} (h : w.ownsRow B e 1 v n (zs.map (Value.int k))) :
    ∃ a c, v = .slice a n c ∧ n = zs.length ∧ n ≤ c ∧ c ≤ 9223372036854775807 ∧ Reads k w a zs := by
  have hn : n = zs.length := by have := h.1; simp at this; omega
  rcases h.2 with ⟨hv, hn0⟩ | ⟨g, cap, cur, hv, _, _, hl, hm, _, _⟩
  · refine ⟨none, 0, by rw [hv, hn0], hn, by omega, by omega, Or.inl ?_⟩
    exact List.length_eq_zero_iff.1 (by omega)
  · refine ⟨some ⟨g, 0, none⟩, cap, hv, hn, hl, by unfold maxLen at hm; omega, Or.inr ⟨g, 0, rfl, fun i hi => ?_⟩⟩
    subst hv
    rw [Nat.zero_add, h.cellAt i (by omega)]
    simp [hi]
theorem own_readsT {w : World} {B : Nat} {e : TypeId} {v : Value} {n : Nat} {zs : List ByteArray} (h : w.ownsRow B e 1 v n (zs.map Value.string)) :
    ∃ a c, v = .slice a n c ∧ n = zs.length ∧ n ≤ c ∧ c ≤ 9223372036854775807 ∧ ReadsT w a zs := by
  have hn : n = zs.length := by have := h.1; simp at this; omega
  rcases h.2 with ⟨hv, hn0⟩ | ⟨g, cap, cur, hv, _, _, hl, hm, _, _⟩
  · refine ⟨none, 0, by rw [hv, hn0], hn, by omega, by omega, Or.inl ?_⟩
    exact List.length_eq_zero_iff.1 (by omega)
  · refine ⟨some ⟨g, 0, none⟩, cap, hv, hn, hl, by unfold maxLen at hm; omega, Or.inr ⟨g, 0, rfl, fun i hi => ?_⟩⟩
    subst hv
    rw [Nat.zero_add, h.cellAt i (by omega)]
    simp [hi]
/-- 'append' of one element to a row of the call's own. -/
theorem append_one {P : Program} {w W : World} {ops : Array Oper} {rest : List Oper} {o : Oper} {a : Act} {Q : Exit → Act → World → Prop} (hgd : o.guard = none) (s x : Operand) (t : TypeId)
    (ho : o.op = .call { callee := .builtin .append, args := #[s, x], argTypes := #[t, t] })
    (base : Nat) (e : TypeId) (i : TypeInfo) (z : Value) (bytes : Nat) (ht : P.underlying t = some (.slice e)) (hi : P.info? e = some i) (hz : i.zero = some z)
    (hsize : i.size = 1) (hby : i.bytes = bytes) (hzs : z.cells.size = 1)
    (v : Value) (n : Nat) (xs : List Value) (hs : a.eval s = v) (hown : w.ownsRow base e 1 v n xs)
    (u : Value) (hx : a.eval x = .slice (some ⟨w.heap.size, 0, none⟩) 1 1) (h1 : u.oneCell' = true)
    (h63 : n + 1 ≤ maxLen) (hbytes : (n + 1) * bytes ≤ 140737488355328) (B : Nat) (hB : B ≤ base) (hbase : base ≤ w.heap.size) (hbel : Below B W w)
    (h : ∀ v' w', w'.ownsRow base e 1 v' (n + 1) (xs ++ [u]) → Below B W w' → wpList P ops Q rest (a.put o.dst v') w') :
    wpList P ops Q (o :: rest) a (w.alloc (.cells #[u] e)) := by
  refine wpList_append_own _ hgd s x t ho base e i z 1 bytes ht hi hz hsize hby hzs (by decide) v n xs hs (hown.alloc _) ⟨w.heap.size, 0, none⟩ 1 1 [u] hx rfl ?_ ?_ h63 hbytes ?_ ?_
  · intro j u' hj
    match j, hj with
    | 0, hj => simp at hj; subst hj; simp [Addr.add]
  · intro u' hu; simp at hu; subst hu; exact h1
  · simp; omega
  · intro v' w' hown' hgrow _
    refine h v' w' hown' ?_
    refine (hbel.alloc (by omega) _).grown hgrow (by simp; omega) ?_
    intro k hk
    exact Nat.le_trans hB (hown.lt k hk).1
end Go.Proofs.Ytjoikidnnhjogaa

/- Texts as lists of bytes, rows of bytes, what a call answers: common words of all walks. -/
namespace Go.Proofs.Ytjoikidnnhjogaa
open Go.RowKit
set_option linter.unusedVariables false
set_option linter.unusedVariables false
theorem ret_eq {k : IntKind} {a b : Int} (h : a = b) : Ending.returned (.int k a) = .returned (.int k b) := by rw [h]
theorem ret_bool {a b : Bool} (h : a = b) : Ending.returned (.bool a) = .returned (.bool b) := by rw [h]
/-- A text's bytes. -/
def by_ (s : ByteArray) : List UInt8 := s.data.toList
theorem by_len (s : ByteArray) : (by_ s).length = s.size := by simp [by_]
theorem by_at (s : ByteArray) (i : Nat) (h : i < s.size) : (by_ s)[i]?.getD 0 = s[i] := by
  have h' : i < s.data.size := h
  have e : s.data.toList[i]? = some (s.data[i]) := by rw [Array.getElem?_toList, Array.getElem?_eq_getElem h']
  unfold by_
  rw [e]; rfl
set_option linter.unusedVariables false
theorem info8 : (Try.prog.info? 5).map (fun i => (i.zero, i.size, i.bytes)) = some (some (.int .u8 0), 1, 1) := by kernel_rfl
theorem ret_str {a b : ByteArray} (h : a = b) : Ending.returned (.string a) = .returned (.string b) := by rw [h]
/-- A byte in memory. -/
def u8v (b : UInt8) : Value := .int .u8 (b.toNat : Int)
/-- A row of the call's own, over which a whole text is copied. -/
theorem copy_string_own {P : Program} {w W : World} {ops : Array Oper} {rest : List Oper} {o : Oper} {a : Act} {Q : Exit → Act → World → Prop} (hgd : o.guard = none) (d s : Operand) (dT sT : TypeId)
    (ho : o.op = .call { callee := .builtin .copy, args := #[d, s], argTypes := #[dT, sT] }) (elem : TypeId) (hu : P.underlying dT = some (.slice elem)) (hsz : (P.info? elem).map (·.size) = some 1)
    (B g n : Nat) (xs : List Value) (S : ByteArray) (hown : w.ownsRow B elem 1 (.slice (some ⟨g, 0, none⟩) n n) n xs) (hS : S.size = n) (hd : a.eval d = .slice (some ⟨g, 0, none⟩) n n) (hs : a.eval s = .string S)
    (B0 : Nat) (hb : Below B0 W w) (hB0 : B0 ≤ B)
    (h : ∀ w', w'.ownsRow B elem 1 (.slice (some ⟨g, 0, none⟩) n n) n ((by_ S).map u8v) → Below B0 W w' → wpList P ops Q rest (a.put o.dst (goInt n)) w') : wpList P ops Q (o :: rest) a w := by
  rcases hown.2 with ⟨hv, _⟩ | ⟨g', cap, cur, hv, hBg, hg, hnc, hcm, hcs, htake⟩
  · cases hv
  · simp only [Value.slice.injEq, Option.some.injEq, Addr.mk.injEq, and_true, true_and] at hv
    obtain ⟨rfl, rfl⟩ := hv
    have hr := Lib.run_copy_row_string (P := P) w dT sT o.type elem g 0 n n S cur elem hu hsz hg (by omega) (by omega)
    refine Lib.wpList_copy_run w hgd d s dT sT ho _ _ hd hs hr ?_
    rw [hS]
    have hlen : (Lib.byteCells S.data.toList).length = n := by rw [Lib.byteCells_length]; simpa using hS
    have harr : cur.toList.take 0 ++ Lib.byteCells S.data.toList ++ cur.toList.drop (0 + n) = (by_ S).map u8v := by
      rw [List.take_zero, List.nil_append, List.drop_of_length_le (by simp; omega), List.append_nil]; rfl
    refine h _ ?_ (below_setRow hb (by omega) _)
    rw [harr]
    refine ⟨by simp [by_len, hS], Or.inr ⟨g, n, ((by_ S).map u8v).toArray, rfl, hBg, setRow_heap w g cur _ elem _ hg, Nat.le_refl _, hcm, by simp [by_len, hS], ?_⟩⟩
    rw [List.toList_toArray]
    exact List.take_of_length_le (by simp [by_len, hS])
def ofL (l : List UInt8) : ByteArray := ⟨l.toArray⟩
theorem by_ofL (l : List UInt8) : by_ (ofL l) = l := by simp [by_, ofL]
theorem ofL_size (l : List UInt8) : (ofL l).size = l.length := by simp [ofL, ByteArray.size]
theorem madeAny (n : Nat) : (madeCells #[Value.int .u8 0] n).toList = (List.replicate n (0 : UInt8)).map u8v := by
  unfold madeCells
  apply List.ext_getElem?
  intro i
  by_cases h : i < n
  · simp [h, Nat.mod_one, u8v]
  · rw [List.getElem?_eq_none (by simp; omega), List.getElem?_eq_none (by simp; omega)]
/-- 'string(b)' of a row of the call's own. -/
theorem conv_own {w : World} {B g n c : Nat} {l : List UInt8} (h : w.ownsRow B 5 1 (.slice (some ⟨g, 0, none⟩) n c) n (l.map u8v)) (hl : l.length = n) :
    Sem.run Try.prog (convert 135 9 (.slice (some ⟨g, 0, none⟩) n c)) w = Result.ok (.string (ofL l)) w := by
  have e := run_convert_bytes_arg (P := Try.prog) w 135 5 Try.underlying135 Try.underlying5 g 0 n c (l.map fun b => (b.toNat : Int)) (by simp [hl]) (fun i hi => by
    rw [Nat.zero_add, h.cellAt i (by omega)]
    simp [u8v, List.getD, hl, hi]) 9 Try.underlying9
  rw [e]
  have hl2 : (l.map fun b => (b.toNat : Int)).map (fun n => UInt8.ofNat n.toNat) = l := by
    rw [List.map_map]
    conv => rhs; rw [← List.map_id l]
    apply List.map_congr_left
    intro b _
    simp
  unfold strOfNums ofL
  rw [hl2]
theorem by_extract (s : ByteArray) (a b : Nat) (h : b ≤ s.size) : by_ (s.extract a b) = ((by_ s).take b).drop a := by
  unfold by_
  rw [ByteArray.data_extract, List.drop_take]
  simp
/-- The first n bytes of a text. -/
def cutB (s : ByteArray) (n : Nat) : ByteArray := if n < s.size then s.extract 0 n else s
theorem by_cut (s : ByteArray) (n : Nat) : by_ (cutB s n) = (by_ s).take n := by
  unfold cutB
  split
  · rw [by_extract _ _ _ (by omega)]; simp
  · rw [List.take_of_length_le (by rw [by_len]; omega)]
theorem cut_size (s : ByteArray) (n : Nat) : (cutB s n).size ≤ n ∧ (cutB s n).size ≤ s.size := by
  have h := congrArg List.length (by_cut s n)
  rw [by_len, List.length_take, by_len] at h
  omega
theorem by_append (a b : ByteArray) : by_ (a ++ b) = by_ a ++ by_ b := by simp [by_]
theorem ofL_by (s : ByteArray) : ofL (by_ s) = s := by simp [ofL, by_]
theorem take_all (s : ByteArray) : (by_ s).take s.size = by_ s := List.take_of_length_le (by rw [by_len]; exact Nat.le_refl _)
theorem by_nums (l : List Int) : by_ (strOfNums l) = l.map fun n => UInt8.ofNat n.toNat := by unfold by_; rw [strOfNums_data]
theorem by_inj {s t : ByteArray} (h : by_ s = by_ t) : s = t := by rw [← ofL_by s, h, ofL_by]
/-- All texts, one behind the other. -/
def cat (zs : List ByteArray) : List UInt8 := (zs.map by_).flatten
theorem cat_take_succ (zs : List ByteArray) (k : Nat) (h : k < zs.length) : cat (zs.take (k + 1)) = cat (zs.take k) ++ by_ (zs[k]?.getD ByteArray.empty) := by
  unfold cat
  rw [List.take_succ_eq_append_getElem h, List.map_append, List.flatten_append]
  congr 1
  simp [h]
theorem cat_one (s : ByteArray) : cat [s] = by_ s := by simp [cat]
theorem reads_one (w : World) (s : ByteArray) (e : TypeId) : ReadsT (w.alloc (.cells #[.string s] e)) (some ⟨w.heap.size, 0, none⟩) [s] := by
  refine Or.inr ⟨_, _, rfl, fun i hi => ?_⟩
  match i, hi with
  | 0, _ => simp
set_option linter.unusedVariables false
theorem reads_two (w : World) (s t : ByteArray) (e : TypeId) : ReadsT (w.alloc (.cells #[.string s, .string t] e)) (some ⟨w.heap.size, 0, none⟩) [s, t] := by
  refine Or.inr ⟨_, _, rfl, fun i hi => ?_⟩
  match i, hi with
  | 0, _ => simp
  | 1, _ => simp
theorem reads_three (w : World) (s t u : ByteArray) (e : TypeId) : ReadsT (w.alloc (.cells #[.string s, .string t, .string u] e)) (some ⟨w.heap.size, 0, none⟩) [s, t, u] := by
  refine Or.inr ⟨_, _, rfl, fun i hi => ?_⟩
  match i, hi with
  | 0, _ => simp
  | 1, _ => simp
  | 2, _ => simp
theorem texts_ne {s t : ByteArray} (h : s ≠ t) : (s.toList == t.toList) = false := by
  rw [ByteArray.toList_eq, ByteArray.toList_eq, beq_eq_false_iff_ne]
  intro e
  apply h
  cases s; cases t
  congr 1
  exact Array.toList_inj.1 e
theorem texts_eq (s t : ByteArray) : (s.toList == t.toList) = decide (s = t) := by
  by_cases h : s = t
  · subst h; simp
  · rw [texts_ne h, decide_eq_false h]
theorem isEmpty_size (s : ByteArray) : s.toList.isEmpty = decide (s.size = 0) := by
  rw [ByteArray.toList_eq, Bool.eq_iff_iff, List.isEmpty_iff, decide_eq_true_eq, ← List.length_eq_zero_iff, Array.length_toList]; rfl
/-- Behind a call that only makes memory: what was there reads as before. -/
theorem bcell {W w1 : World} (hb : Below W.heap.size W w1) : (∀ b o, b < W.heap.size → w1.cell? ⟨b, o, none⟩ = W.cell? ⟨b, o, none⟩) ∧ (∀ b o, b < W.heap.size → w1.frozen? ⟨b, o, none⟩ = W.frozen? ⟨b, o, none⟩) :=
  ⟨fun b o h => hb.cell (p := ⟨b, o, none⟩) h, fun b o h => hb.frozen (p := ⟨b, o, none⟩) h⟩
theorem u16_bd {a : Int} (h : (Lit.int .u16 a).wf = true) : 0 ≤ a ∧ a ≤ 65535 := by
  simp [Lit.wf, IntKind.min, IntKind.max, IntKind.bits, IntKind.signed] at h; omega
end Go.Proofs.Ytjoikidnnhjogaa

/- pen.Out: what has been written. -/
namespace Go.Proofs.Ytjoikidnnhjogaa
open Go.RowKit
set_option linter.unusedVariables false
/-- The number of bytes i of the highest ones that a number of so many bytes is written as. -/
def beP (n : Int) (size i : Nat) : List UInt8 := (List.range i).map fun j => UInt8.ofNat ((n / 2 ^ (8 * (size - 1 - j))) % 256).toNat
theorem beP_succ (n : Int) (size i : Nat) : beP n size (i + 1) = beP n size i ++ [UInt8.ofNat ((n / 2 ^ (8 * (size - 1 - i))) % 256).toNat] := by simp [beP, List.range_succ]
/-- A number in so many bytes, the highest first. -/
def be (n : Int) (size : Nat) : List UInt8 := beP n size size
theorem beP_len (n : Int) (size i : Nat) : (beP n size i).length = i := by simp [beP]
theorem be_len (n : Int) (size : Nat) : (be n size).length = size := beP_len n size size
/-- Numbers, one behind the other. -/
def bes (zs : List Int) (size : Nat) : List UInt8 := (zs.map fun n => be n size).flatten
theorem bes_len (zs : List Int) (size : Nat) : (bes zs size).length = zs.length * size := by
  unfold bes
  induction zs with
  | nil => simp
  | cons a l ih => simp only [List.map_cons, List.flatten_cons, List.length_append, be_len, List.length_cons, ih]; rw [Nat.add_mul, Nat.one_mul, Nat.add_comm]
theorem bes_take_succ (zs : List Int) (size k : Nat) (h : k < zs.length) : bes (zs.take (k + 1)) size = bes (zs.take k) size ++ be (zs[k]?.getD 0) size := by
  unfold bes
  rw [List.take_succ_eq_append_getElem h, List.map_append, List.flatten_append]
  simp [h]
/-- At block b there is an Out; v is its slice, which holds the bytes L; all that it owns lies from B on. -/
def OutAt (w : World) (B b : Nat) (v : Value) (L : List UInt8) : Prop :=
  w.heap[b]? = some (.cells #[v] 137 (0, 0)) ∧ B ≤ b ∧ w.ownsRow B 5 1 v L.length (L.map u8v)
/-- What is neither the Out's, nor bytes, is as it was. -/
def Others (b : Nat) (w w' : World) : Prop := ∀ k o, w.heap[k]? = some o → k ≠ b → (∀ cur p, o ≠ .cells cur 5 p) → w'.heap[k]? = some o
theorem Others.refl (b : Nat) (w : World) : Others b w w := fun _ _ h _ _ => h
theorem Others.trans {b : Nat} {w w' w'' : World} (h : Others b w w') (h' : Others b w' w'') : Others b w w'' := fun k o hk hb hn => h' k o (h k o hk hb hn) hb hn
theorem Others.drew {b : Nat} {w w' : World} (h : Others b w w') : Others b w w'.drew := h
theorem Others.alloc {b : Nat} {w w' : World} (h : Others b w w') (o : Obj) : Others b w (w'.alloc o) := fun k p hk hb hn => by
  have := h k p hk hb hn
  rw [Below.heap_alloc _ _ _ (lt_of_block this)]; exact this
theorem Others.setCell {b : Nat} {w w' : World} (h : Others b w w') (i : Nat) (u : Value) : Others b w (w'.setCell ⟨b, i, none⟩ u) := fun k p hk hb hn => by
  rw [Below.heap_setCell _ _ _ _ hb]; exact h k p hk hb hn
/-- A row of the call's own of which the elements are bytes: what it was written over held bytes. -/
theorem row_bytes {w : World} {B : Nat} {v : Value} {n : Nat} {xs : List Value} (h : w.ownsRow B 5 1 v n xs) {k : Nat} {o : Obj} (hk : w.heap[k]? = some o) (hn : ∀ cur p, o ≠ .cells cur 5 p) : some k ≠ v.ownBlock := by
  intro e
  rcases h.2 with ⟨rfl, _⟩ | ⟨g, cap, cur, rfl, _, hg, _⟩
  · cases e
  · simp only [Value.ownBlock, Option.some.injEq] at e
    subst e
    rw [hg] at hk
    exact hn _ _ (Option.some.inj hk).symm
theorem Others.grown {b : Nat} {w w' w'' : World} (h : Others b w w') {B : Nat} {v : Value} {n : Nat} {xs : List Value} (hv : w'.ownsRow B 5 1 v n xs) (hg : w'.grownBy w'' v.ownBlock) : Others b w w'' := fun k o hk hb hn => by
  have h1 := h k o hk hb hn
  rw [hg.block k (lt_of_block h1) (row_bytes hv h1 hn)]; exact h1
theorem pen_ne (v : Value) (q : Nat × Nat) : ∀ cur p, Obj.cells #[v] 137 q ≠ .cells cur 5 p := by
  intro cur p e; cases e
theorem OutAt.lt {w : World} {B b : Nat} {v : Value} {L : List UInt8} (h : OutAt w B b v L) : b < w.heap.size := lt_of_block h.1
theorem OutAt.later {w w' : World} {B b : Nat} {v : Value} {L : List UInt8} (h : OutAt w B b v L) (hb : Below w.heap.size w w') : OutAt w' B b v L := by
  refine ⟨by rw [hb.block b h.lt]; exact h.1, h.2.1, ?_⟩
  exact h.2.2.kept (row := none) ⟨hb.os, hb.tape, hb.output, hb.size, fun k hk _ => hb.block k hk⟩ (by cases hv : v.ownBlock <;> simp)
theorem OutAt.alloc {w : World} {B b : Nat} {v : Value} {L : List UInt8} (h : OutAt w B b v L) (o : Obj) : OutAt (w.alloc o) B b v L := h.later ((Below.refl _ _).alloc (Nat.le_refl _) o)
theorem OutAt.drew {w : World} {B b : Nat} {v : Value} {L : List UInt8} (h : OutAt w B b v L) : OutAt w.drew B b v L := h.later (Below.refl _ _).drew
theorem OutAt.drewN {w : World} {B b : Nat} {v : Value} {L : List UInt8} (h : OutAt w B b v L) (n : Nat) : OutAt (w.drewN n) B b v L := h.later (below_drewN (Below.refl _ _) n)
/-- Behind 'append' of bytes to an Out's own, ahead of the store. -/
def OutGrown (w0 w : World) (B b : Nat) (v v' : Value) (L' : List UInt8) : Prop :=
  w.heap[b]? = some (.cells #[v] 137 (0, 0)) ∧ B ≤ b ∧ w.ownsRow B 5 1 v' L'.length (L'.map u8v) ∧ Below B w0 w ∧ Others b w0 w
theorem OutGrown.stored {w0 w : World} {B b : Nat} {v v' : Value} {L' : List UInt8} (h : OutGrown w0 w B b v v' L') : OutAt (w.setCell ⟨b, 0, none⟩ v') B b v' L' ∧ Below B w0 (w.setCell ⟨b, 0, none⟩ v') ∧ Others b w0 (w.setCell ⟨b, 0, none⟩ v') := by
  obtain ⟨h1, h2, h3, h4, h5⟩ := h
  refine ⟨⟨one_setCell h1, h2, ownsRow_setCell_other h3 (fun e => row_bytes h3 h1 (pen_ne _ _) e.symm) _⟩, h4.setCell h2 _, h5.setCell 0 _⟩
theorem step_append_own {P : Program} {ops : Array Oper} {o : Oper} {a : Act} {w : World} {K : Act → World → Prop} {Q : Exit → Act → World → Prop} {E : Prop} (hgd : o.guard = none) (s x : Operand) (t : TypeId)
    (ho : o.op = .call { callee := .builtin .append, args := #[s, x], argTypes := #[t, t] })
    (base : Nat) (e : TypeId) (i : TypeInfo) (z : Value) (size bytes : Nat) (ht : P.underlying t = some (.slice e)) (hi : P.info? e = some i) (hz : i.zero = some z)
    (hsize : i.size = size) (hby : i.bytes = bytes) (hzs : z.cells.size = size) (hsz : 0 < size)
    (v : Value) (n : Nat) (xs : List Value) (hs : a.eval s = v) (hown : w.ownsRow base e size v n xs)
    (ad : Addr) (m c : Nat) (news : List Value) (hx : a.eval x = .slice (some ad) m c) (hl : news.length = m * size) (hnews : ∀ j u, news[j]? = some u → w.cell? (ad.add j) = some u) (h1 : ∀ u ∈ news, u.oneCell' = true)
    (h63 : n + m ≤ maxLen) (hbytes : (n + m) * bytes ≤ 140737488355328) (hbase : base ≤ w.heap.size)
    (h : ∀ v' w', w'.ownsRow base e size v' (n + m) (xs ++ news) → w.grownBy w' v.ownBlock → (v' = .slice none 0 0 ↔ v = .slice none 0 0 ∧ m = 0) → K (a.put o.dst v') w') :
    if Region.wanted o (yielded ops a.tmps) = true then Oper.wp P o a w K Q else E := by
  rw [if_pos (by simp [Region.wanted, hgd])]
  exact wp_append_own w s x t ho base e i z size bytes ht hi hz hsize hby hzs hsz v n xs hs hown ad m c news hx hl hnews h1 h63 hbytes hbase h
theorem own_slice {w : World} {B : Nat} {e : TypeId} {v : Value} {n : Nat} {xs : List Value} (h : w.ownsRow B e 1 v n xs) : ∃ a c, v = .slice a n c := by
  rcases h.2 with ⟨rfl, rfl⟩ | ⟨g, cap, cur, rfl, _⟩
  · exact ⟨_, _, rfl⟩
  · exact ⟨_, _, rfl⟩
/-- 'o.bytes = append(o.bytes, x)', the append, in a region that draws its order. -/
theorem step_out {ops : Array Oper} {o : Oper} {a : Act} {w : World} {K : Act → World → Prop} {Q : Exit → Act → World → Prop} {E : Prop} (hgd : o.guard = none) (s x : Operand)
    (ho : o.op = .call { callee := .builtin .append, args := #[s, x], argTypes := #[135, 135] })
    (B b : Nat) (v : Value) (L : List UInt8) (u : UInt8) (X : Int) (hX : Hid (X = (u.toNat : Int))) (hO : OutAt w B b v L) (hL : L.length + 1 ≤ 1099511627776) (hs : a.eval s = v) (hx : a.eval x = .slice (some ⟨w.heap.size, 0, none⟩) 1 1)
    (h : ∀ ad c w', Hid (OutGrown w w' B b v (.slice ad (L.length + 1) c) (L ++ [u])) → w'.cell? ⟨b, 0, none⟩ = some v → w'.frozen? ⟨b, 0, none⟩ = false → K (a.put o.dst (.slice ad (L.length + 1) c)) w') :
    if Region.wanted o (yielded ops a.tmps) = true then Oper.wp Try.prog o a (w.alloc (.cells #[.int .u8 X] 5)).drew K Q else E := by
  obtain rfl := hX.out
  obtain ⟨i0, hi, hz0, hz1, hz2⟩ := info_parts info8
  have hO1 := (hO.alloc (.cells #[.int .u8 (u.toNat : Int)] 5)).drew
  refine step_append_own hgd s x _ ho B 5 i0 (.int .u8 0) 1 1 Try.underlying135 hi hz0 hz1 hz2 rfl (by decide) v L.length (L.map u8v) hs hO1.2.2 ⟨w.heap.size, 0, none⟩ 1 1 [.int .u8 (u.toNat : Int)] hx rfl ?_ ?_ (by unfold maxLen; omega) (by omega) (by have := hO1.lt; have := hO.2.1; omega) ?_
  · intro j u' hj
    match j, hj with
    | 0, hj => simp at hj; subst hj; simp [Addr.add]
  · intro u' hu; simp at hu; subst hu; rfl
  · intro v' w' hown hgrow _
    obtain ⟨ad, c, rfl⟩ := own_slice hown
    have hblk : w'.heap[b]? = some (.cells #[v] 137 (0, 0)) := by rw [hgrow.block b hO1.lt (row_bytes hO1.2.2 hO1.1 (pen_ne _ _))]; exact hO1.1
    refine h ad c w' ⟨hblk, hO.2.1, ?_, ?_, ?_⟩ (cell_of_one hblk) (free_of_one hblk)
    · simpa [u8v] using hown
    · refine ((Below.refl _ _).alloc (by have := hO.lt; have := hO.2.1; omega) _).drew.grown hgrow (by have := hO1.lt; have := hO.2.1; omega) ?_
      intro k hk
      exact (hO1.2.2.lt k hk).1
    · exact ((Others.refl b w).alloc _).drew.grown hO1.2.2 hgrow
theorem orNew_any (b : Nat) (w : World) : Calls Try.prog 104 #[.pointer (some ⟨b, 0, none⟩)] w fun e w' => e = .returned (.pointer (some ⟨b, 0, none⟩)) ∧ w = w' := by
  go_enter Try.func104, Try.ntmps104
  go_wp2
  go_ret
  exact ⟨rfl, rfl⟩
theorem byte_num (n : Int) (size i : Nat) (hi : i < size) (h4 : size ≤ 4) : IntKind.u8.wrap (n / 2 ^ (8 * ((size : Int) - 1 - (i : Int))).toNat) = ((UInt8.ofNat ((n / 2 ^ (8 * (size - 1 - i))) % 256).toNat).toNat : Int) := by
  rw [show (8 * ((size : Int) - 1 - (i : Int))).toNat = 8 * (size - 1 - i) from by omega]
  generalize n / 2 ^ (8 * (size - 1 - i)) = x
  have h0 : 0 ≤ x % 256 := Int.emod_nonneg _ (by decide)
  have h1 : x % 256 < 256 := Int.emod_lt_of_pos _ (by decide)
  rw [UInt8.toNat_ofNat', Nat.mod_eq_of_lt (by omega), Int.toNat_of_nonneg h0]
  simp [IntKind.wrap, IntKind.bits, IntKind.signed]
set_option maxHeartbeats 800000 in
theorem writeI_any (B b : Nat) (v : Value) (L : List UInt8) (size : Nat) (zs : List Int) (a : Option Addr) (c n : Nat) (w : World) (hO : OutAt w B b v L) (h1 : 1 ≤ size) (h4 : size ≤ 4) (hn : n = zs.length)
    (hr : ∀ w', Below B w w' → Others b w w' → Reads .i64 w' a zs) (hl : zs.length ≤ 1099511627776) (hL : L.length + zs.length * size ≤ 1099511627776) :
    Calls Try.prog 103 #[.pointer (some ⟨b, 0, none⟩), .int .i64 (size : Int), .slice a n c] w fun e w' =>
      e = .returned (.pointer (some ⟨b, 0, none⟩)) ∧ ∃ v', OutAt w' B b v' (L ++ bes zs size) ∧ Below B w w' ∧ Others b w w' := by
  subst hn
  go_enter Try.func103, Try.ntmps103
  go_wp2_with ((go_at_call 104; refine (orNew_any _ _).mono ?_; rintro e w' ⟨rfl, rfl⟩))
  go_loopw [14] (fun i wr => ∃ k : Nat, k ≤ zs.length ∧ i = .int .i64 k ∧ ∃ v', OutAt wr B b v' (L ++ bes (zs.take k) size) ∧ Below B w wr ∧ Others b w wr) (fun i _ => zs.length - (intOf i).toNat)
  case atStart => exact ⟨0, Nat.zero_le _, rfl, v, by simpa [bes] using hO, Below.refl _ _, Others.refl _ _⟩
  case round =>
    obtain ⟨k, hk, rfl, v1, hO1, hb1, ho1⟩ := hrel
    by_cases hlt : k < zs.length
    · obtain ⟨ab, off, rfl, hcell⟩ := (hr _ hb1 ho1).at hlt
      have hts := Lib.hid (bes_take_succ zs size k hlt)
      generalize zs[k]?.getD 0 = x at hcell hts
      have hlen : (L ++ bes (zs.take k) size).length + size ≤ 1099511627776 := by
        have e : (k + 1) * size ≤ zs.length * size := Nat.mul_le_mul_right _ hlt
        rw [List.length_append, bes_len, List.length_take, Nat.min_eq_left hk]
        rw [Nat.add_mul, Nat.one_mul] at e
        omega
      generalize bes (zs.take k) size = M at hts hO1 hlen
      clear hO hr
      go_wp2
      obtain ⟨wo, rfl⟩ : ∃ wo : World, wo = wr := ⟨_, rfl⟩
      go_loopw [19] (fun i wi => ∃ j : Nat, j ≤ size ∧ i = .int .i64 j ∧ ∃ v', OutAt wi B b v' (L ++ M ++ beP x size j) ∧ Below B w wi ∧ Others b w wi) (fun i _ => size - (intOf i).toNat)
      case atStart => exact ⟨0, by omega, rfl, v1, by simpa [beP, List.append_assoc] using hO1, hb1, ho1⟩
      case round =>
        obtain ⟨j, hj, rfl, v2, hO2, hb2, ho2⟩ := hrel
        clear hO1 hb1 ho1 hcell
        by_cases hlt2 : j < size
        · have hbn := Lib.hid (byte_num x size j hlt2 h4)
          have hbs : Hid (L ++ M ++ beP x size (j + 1) = (L ++ M ++ beP x size j) ++ [UInt8.ofNat ((x / 2 ^ (8 * (size - 1 - j))) % 256).toNat]) := by show _ = _; rw [beP_succ, List.append_assoc (L ++ M)]
          generalize UInt8.ofNat ((x / 2 ^ (8 * (size - 1 - j))) % 256).toNat = u at hbn hbs
          have hc0 := cell_of_one hO2.1
          have hf0 := free_of_one hO2.1
          have hbl := hO2.lt
          have hlen2 : (L ++ M ++ beP x size j).length + 1 ≤ 1099511627776 := by rw [List.length_append, beP_len]; omega
          generalize L ++ M ++ beP x size j = A at hbs hO2 hlen2
          obtain ⟨ad2, c2, rfl⟩ := own_slice hO2.2.2
          have e1 : IntKind.i64.wrap ((size : Int) - 1) = (size : Int) - 1 := IntWalk.i64_in _ ⟨by omega, by omega⟩
          have e2 : IntKind.i64.wrap ((size : Int) - 1 - (j : Int)) = (size : Int) - 1 - (j : Int) := IntWalk.i64_in _ ⟨by omega, by omega⟩
          have e3 : IntKind.i64.wrap (8 * ((size : Int) - 1 - (j : Int))) = 8 * ((size : Int) - 1 - (j : Int)) := IntWalk.i64_in _ ⟨by omega, by omega⟩
          have e4 : (0 : Int) ≤ 8 * ((size : Int) - 1 - (j : Int)) := by omega
          go_wp2
          go_region_law (refine step_out rfl (.tmp 26) (.tmp 35) rfl B b _ A u _ hbn hO2 hlen2 rfl rfl ?_; intro ad3 c3 w3 hg3 hc3 hf3)
          all_goals
            obtain ⟨hO4, hb4, ho4⟩ := hg3.out.stored
            rw [← hbs.out] at hO4
            clear hg3 hc3 hf3 hc0 hf0 e1 e2 e3 e4 hbn hbs hO2
            go_wp2
            go_roundw
            case rel => exact ⟨j + 1, by omega, by go_num, _, hO4, hb2.trans hb4, ho2.trans ho4⟩
            case measure => simp [intOf]; omega
        · obtain rfl : j = size := by omega
          go_wp2
          go_roundw
          case rel => exact ⟨k + 1, by omega, by go_num, _, by rw [hts.out, ← List.append_assoc]; exact hO2, hb2, ho2⟩
          case measure => simp [intOf]; omega
    · obtain rfl : k = zs.length := by omega
      go_wp2
      go_ret
      exact ⟨rfl, v1, by rw [List.take_length] at hO1; exact hO1, hb1, ho1⟩
end Go.Proofs.Ytjoikidnnhjogaa

/- pen.Out: what its calls answer. -/
namespace Go.Proofs.Ytjoikidnnhjogaa
open Go.RowKit
set_option linter.unusedVariables false
set_option maxHeartbeats 800000 in
theorem writeU_any (B b : Nat) (v : Value) (L : List UInt8) (size : Nat) (zs : List Int) (a : Option Addr) (c n : Nat) (w : World) (hO : OutAt w B b v L) (h1 : 1 ≤ size) (h4 : size ≤ 4) (hn : n = zs.length)
    (hr : ∀ w', Below B w w' → Others b w w' → Reads .u32 w' a zs) (hl : zs.length ≤ 1099511627776) (hL : L.length + zs.length * size ≤ 1099511627776) :
    Calls Try.prog 102 #[.pointer (some ⟨b, 0, none⟩), .int .i64 (size : Int), .slice a n c] w fun e w' =>
      e = .returned (.pointer (some ⟨b, 0, none⟩)) ∧ ∃ v', OutAt w' B b v' (L ++ bes zs size) ∧ Below B w w' ∧ Others b w w' := by
  subst hn
  go_enter Try.func102, Try.ntmps102
  go_wp2_with ((go_at_call 104; refine (orNew_any _ _).mono ?_; rintro e w' ⟨rfl, rfl⟩))
  go_loopw [14] (fun i wr => ∃ k : Nat, k ≤ zs.length ∧ i = .int .i64 k ∧ ∃ v', OutAt wr B b v' (L ++ bes (zs.take k) size) ∧ Below B w wr ∧ Others b w wr) (fun i _ => zs.length - (intOf i).toNat)
  case atStart => exact ⟨0, Nat.zero_le _, rfl, v, by simpa [bes] using hO, Below.refl _ _, Others.refl _ _⟩
  case round =>
    obtain ⟨k, hk, rfl, v1, hO1, hb1, ho1⟩ := hrel
    by_cases hlt : k < zs.length
    · obtain ⟨ab, off, rfl, hcell⟩ := (hr _ hb1 ho1).at hlt
      have hts := Lib.hid (bes_take_succ zs size k hlt)
      generalize zs[k]?.getD 0 = x at hcell hts
      have hlen : (L ++ bes (zs.take k) size).length + size ≤ 1099511627776 := by
        have e : (k + 1) * size ≤ zs.length * size := Nat.mul_le_mul_right _ hlt
        rw [List.length_append, bes_len, List.length_take, Nat.min_eq_left hk]
        rw [Nat.add_mul, Nat.one_mul] at e
        omega
      generalize bes (zs.take k) size = M at hts hO1 hlen
      clear hO hr
      go_wp2
      obtain ⟨wo, rfl⟩ : ∃ wo : World, wo = wr := ⟨_, rfl⟩
      go_loopw [19] (fun i wi => ∃ j : Nat, j ≤ size ∧ i = .int .i64 j ∧ ∃ v', OutAt wi B b v' (L ++ M ++ beP x size j) ∧ Below B w wi ∧ Others b w wi) (fun i _ => size - (intOf i).toNat)
      case atStart => exact ⟨0, by omega, rfl, v1, by simpa [beP, List.append_assoc] using hO1, hb1, ho1⟩
      case round =>
        obtain ⟨j, hj, rfl, v2, hO2, hb2, ho2⟩ := hrel
        clear hO1 hb1 ho1 hcell
        by_cases hlt2 : j < size
        · have hbn := Lib.hid (byte_num x size j hlt2 h4)
          have hbs : Hid (L ++ M ++ beP x size (j + 1) = (L ++ M ++ beP x size j) ++ [UInt8.ofNat ((x / 2 ^ (8 * (size - 1 - j))) % 256).toNat]) := by show _ = _; rw [beP_succ, List.append_assoc (L ++ M)]
          generalize UInt8.ofNat ((x / 2 ^ (8 * (size - 1 - j))) % 256).toNat = u at hbn hbs
          have hc0 := cell_of_one hO2.1
          have hf0 := free_of_one hO2.1
          have hbl := hO2.lt
          have hlen2 : (L ++ M ++ beP x size j).length + 1 ≤ 1099511627776 := by rw [List.length_append, beP_len]; omega
          generalize L ++ M ++ beP x size j = A at hbs hO2 hlen2
          obtain ⟨ad2, c2, rfl⟩ := own_slice hO2.2.2
          have e1 : IntKind.i64.wrap ((size : Int) - 1) = (size : Int) - 1 := IntWalk.i64_in _ ⟨by omega, by omega⟩
          have e2 : IntKind.i64.wrap ((size : Int) - 1 - (j : Int)) = (size : Int) - 1 - (j : Int) := IntWalk.i64_in _ ⟨by omega, by omega⟩
          have e3 : IntKind.i64.wrap (8 * ((size : Int) - 1 - (j : Int))) = 8 * ((size : Int) - 1 - (j : Int)) := IntWalk.i64_in _ ⟨by omega, by omega⟩
          have e4 : (0 : Int) ≤ 8 * ((size : Int) - 1 - (j : Int)) := by omega
          go_wp2
          go_region_law (refine step_out rfl (.tmp 26) (.tmp 35) rfl B b _ A u _ hbn hO2 hlen2 rfl rfl ?_; intro ad3 c3 w3 hg3 hc3 hf3)
          all_goals
            obtain ⟨hO4, hb4, ho4⟩ := hg3.out.stored
            rw [← hbs.out] at hO4
            clear hg3 hc3 hf3 hc0 hf0 e1 e2 e3 e4 hbn hbs hO2
            go_wp2
            go_roundw
            case rel => exact ⟨j + 1, by omega, by go_num, _, hO4, hb2.trans hb4, ho2.trans ho4⟩
            case measure => simp [intOf]; omega
        · obtain rfl : j = size := by omega
          go_wp2
          go_roundw
          case rel => exact ⟨k + 1, by omega, by go_num, _, by rw [hts.out, ← List.append_assoc]; exact hO2, hb2, ho2⟩
          case measure => simp [intOf]; omega
    · obtain rfl : k = zs.length := by omega
      go_wp2
      go_ret
      exact ⟨rfl, v1, by rw [List.take_length] at hO1; exact hO1, hb1, ho1⟩
/-- A slice just laid, of numbers, stays as it is while an Out is written. -/
theorem lit_reads {k : IntKind} {w : World} {g b : Nat} {cs : Array Value} {T : TypeId} {zs : List Int} (h : w.heap[g]? = some (.cells cs T (0, 0))) (hc : cs.toList = zs.map (Value.int k)) (hg : g ≠ b) (hT : T ≠ 5) :
    ∀ w', Others b w w' → Reads k w' (some ⟨g, 0, none⟩) zs := by
  intro w' ho
  have h' := ho g _ h hg (fun cur p e => by simp at e; exact hT e.2.1)
  refine Or.inr ⟨g, 0, rfl, fun i hi => ?_⟩
  rw [Nat.zero_add, cell_of_row w' g i cs T (0, 0) h', ← Array.getElem?_toList, hc]
  simp [hi]
theorem lit_readsT {w : World} {g b : Nat} {cs : Array Value} {T : TypeId} {zs : List ByteArray} (h : w.heap[g]? = some (.cells cs T (0, 0))) (hc : cs.toList = zs.map Value.string) (hg : g ≠ b) (hT : T ≠ 5) :
    ∀ w', Others b w w' → ReadsT w' (some ⟨g, 0, none⟩) zs := by
  intro w' ho
  have h' := ho g _ h hg (fun cur p e => by simp at e; exact hT e.2.1)
  refine Or.inr ⟨g, 0, rfl, fun i hi => ?_⟩
  rw [Nat.zero_add, cell_of_row w' g i cs T (0, 0) h', ← Array.getElem?_toList, hc]
  simp [hi]
/-- What a call that writes leaves. -/
def Wrote (B b : Nat) (L : List UInt8) (w : World) (e : Ending) (w' : World) : Prop :=
  e = .returned (.pointer (some ⟨b, 0, none⟩)) ∧ ∃ v', OutAt w' B b v' L ∧ Below B w w' ∧ Others b w w'
theorem writeI_at (S : Int) (B b : Nat) (v : Value) (L : List UInt8) (size : Nat) (zs : List Int) (a : Option Addr) (c n : Nat) (w : World) (hS : S = (size : Int)) (hO : OutAt w B b v L) (h1 : 1 ≤ size) (h4 : size ≤ 4) (hn : n = zs.length)
    (hr : ∀ w', Below B w w' → Others b w w' → Reads .i64 w' a zs) (hl : zs.length ≤ 1099511627776) (hL : L.length + zs.length * size ≤ 1099511627776) :
    Calls Try.prog 103 #[.pointer (some ⟨b, 0, none⟩), .int .i64 S, .slice a n c] w (Wrote B b (L ++ bes zs size) w) := by
  rw [hS]
  exact writeI_any B b v L size zs a c n w hO h1 h4 hn hr hl hL
theorem writeU_at (S : Int) (B b : Nat) (v : Value) (L : List UInt8) (size : Nat) (zs : List Int) (a : Option Addr) (c n : Nat) (w : World) (hS : S = (size : Int)) (hO : OutAt w B b v L) (h1 : 1 ≤ size) (h4 : size ≤ 4) (hn : n = zs.length)
    (hr : ∀ w', Below B w w' → Others b w w' → Reads .u32 w' a zs) (hl : zs.length ≤ 1099511627776) (hL : L.length + zs.length * size ≤ 1099511627776) :
    Calls Try.prog 102 #[.pointer (some ⟨b, 0, none⟩), .int .i64 S, .slice a n c] w (Wrote B b (L ++ bes zs size) w) := by
  rw [hS]
  exact writeU_any B b v L size zs a c n w hO h1 h4 hn hr hl hL
theorem u8_any (B b : Nat) (v : Value) (L : List UInt8) (zs : List Int) (a : Option Addr) (c n : Nat) (w : World) (hO : OutAt w B b v L) (hn : n = zs.length)
    (hr : ∀ w', Below B w w' → Others b w w' → Reads .i64 w' a zs) (hl : zs.length ≤ 1099511627776) (hL : L.length + zs.length * 1 ≤ 1099511627776) :
    Calls Try.prog 66 #[.pointer (some ⟨b, 0, none⟩), .slice a n c] w (Wrote B b (L ++ bes zs 1) w) := by
  subst hn
  go_enter Try.func66, Try.ntmps66
  go_wp2_with ((go_at_call 103; refine (writeI_at 1 B b v L 1 zs a c _ _ rfl hO (by decide) (by decide) rfl hr hl hL).mono ?_; rintro e w' ⟨rfl, hx⟩))
  go_ret
  exact ⟨rfl, hx⟩
theorem u16_any (B b : Nat) (v : Value) (L : List UInt8) (zs : List Int) (a : Option Addr) (c n : Nat) (w : World) (hO : OutAt w B b v L) (hn : n = zs.length)
    (hr : ∀ w', Below B w w' → Others b w w' → Reads .i64 w' a zs) (hl : zs.length ≤ 1099511627776) (hL : L.length + zs.length * 2 ≤ 1099511627776) :
    Calls Try.prog 92 #[.pointer (some ⟨b, 0, none⟩), .slice a n c] w (Wrote B b (L ++ bes zs 2) w) := by
  subst hn
  go_enter Try.func92, Try.ntmps92
  go_wp2_with ((go_at_call 103; refine (writeI_at 2 B b v L 2 zs a c _ _ rfl hO (by decide) (by decide) rfl hr hl hL).mono ?_; rintro e w' ⟨rfl, hx⟩))
  go_ret
  exact ⟨rfl, hx⟩
theorem u24_any (B b : Nat) (v : Value) (L : List UInt8) (zs : List Int) (a : Option Addr) (c n : Nat) (w : World) (hO : OutAt w B b v L) (hn : n = zs.length)
    (hr : ∀ w', Below B w w' → Others b w w' → Reads .i64 w' a zs) (hl : zs.length ≤ 1099511627776) (hL : L.length + zs.length * 3 ≤ 1099511627776) :
    Calls Try.prog 101 #[.pointer (some ⟨b, 0, none⟩), .slice a n c] w (Wrote B b (L ++ bes zs 3) w) := by
  subst hn
  go_enter Try.func101, Try.ntmps101
  go_wp2_with ((go_at_call 103; refine (writeI_at 3 B b v L 3 zs a c _ _ rfl hO (by decide) (by decide) rfl hr hl hL).mono ?_; rintro e w' ⟨rfl, hx⟩))
  go_ret
  exact ⟨rfl, hx⟩
theorem u32_any (B b : Nat) (v : Value) (L : List UInt8) (zs : List Int) (a : Option Addr) (c n : Nat) (w : World) (hO : OutAt w B b v L) (hn : n = zs.length)
    (hr : ∀ w', Below B w w' → Others b w w' → Reads .u32 w' a zs) (hl : zs.length ≤ 1099511627776) (hL : L.length + zs.length * 4 ≤ 1099511627776) :
    Calls Try.prog 65 #[.pointer (some ⟨b, 0, none⟩), .slice a n c] w (Wrote B b (L ++ bes zs 4) w) := by
  subst hn
  go_enter Try.func65, Try.ntmps65
  go_wp2_with ((go_at_call 102; refine (writeU_at 4 B b v L 4 zs a c _ _ rfl hO (by decide) (by decide) rfl hr hl hL).mono ?_; rintro e w' ⟨rfl, hx⟩))
  go_ret
  exact ⟨rfl, hx⟩
theorem strCells_by (s : ByteArray) : Lib.strCells s = (by_ s).map u8v := rfl
theorem cat_len (zs : List ByteArray) (k : Nat) : (cat (zs.take k)).length ≤ (cat zs).length := by
  have h : cat zs = cat (zs.take k) ++ cat (zs.drop k) := by
    unfold cat
    rw [← List.flatten_append, ← List.map_append, List.take_append_drop]
  rw [h, List.length_append]; omega
set_option maxHeartbeats 800000 in
theorem outRaw_any (B b : Nat) (v : Value) (L : List UInt8) (zs : List ByteArray) (a : Option Addr) (c n : Nat) (w : World) (hO : OutAt w B b v L) (hn : n = zs.length)
    (hr : ∀ w', Below B w w' → Others b w w' → ReadsT w' a zs) (hl : zs.length ≤ 1099511627776) (hL : L.length + (cat zs).length ≤ 1099511627776) :
    Calls Try.prog 67 #[.pointer (some ⟨b, 0, none⟩), .slice a n c] w (Wrote B b (L ++ cat zs) w) := by
  subst hn
  obtain ⟨i0, hi, hz0, hz1, hz2⟩ := info_parts info8
  go_enter Try.func67, Try.ntmps67
  go_wp2_with ((go_at_call 104; refine (orNew_any _ _).mono ?_; rintro e w' ⟨rfl, rfl⟩))
  go_loopw [11] (fun i wr => ∃ k : Nat, k ≤ zs.length ∧ i = .int .i64 k ∧ ∃ v', OutAt wr B b v' (L ++ cat (zs.take k)) ∧ Below B w wr ∧ Others b w wr) (fun i _ => zs.length - (intOf i).toNat)
  case atStart => exact ⟨0, Nat.zero_le _, rfl, v, by simpa [cat] using hO, Below.refl _ _, Others.refl _ _⟩
  case round =>
    obtain ⟨k, hk, rfl, v1, hO1, hb1, ho1⟩ := hrel
    by_cases hlt : k < zs.length
    · obtain ⟨ab, off, rfl, hcell⟩ := (hr _ hb1 ho1).at hlt
      have hts := Lib.hid (cat_take_succ zs k hlt)
      have hle := cat_len zs (k + 1)
      rw [hts.out, List.length_append, by_len] at hle
      generalize zs[k]?.getD ByteArray.empty = x at hcell hts hle
      have hlen : (L ++ cat (zs.take k)).length + x.size ≤ 1099511627776 := by rw [List.length_append]; omega
      have hres : Hid (L ++ cat (zs.take (k + 1)) = (L ++ cat (zs.take k)) ++ by_ x) := by show _ = _; rw [hts.out, List.append_assoc]
      generalize L ++ cat (zs.take k) = A at hO1 hlen hres
      clear hO hr hts hle
      obtain ⟨ad1, c1, rfl⟩ := own_slice hO1.2.2
      have hc0 := cell_of_one hO1.1
      have hf0 := free_of_one hO1.1
      have hbl := hO1.lt
      have hBb := hO1.2.1
      go_wp2_with (refine Lib.wpList_append_own_string (P := Try.prog) _ rfl (.tmp 19) (.tmp 20) 135 9 rfl B 5 i0 Try.underlying135 Try.underlying9 hi hz0 hz1 hz2 _ A.length (A.map u8v) rfl hO1.2.2 x rfl ?d1 ?d2 ?d3 ?_)
      case d1 => unfold maxLen; omega
      case d2 => omega
      case d3 => omega
      intro v' w1 hown hgrow _
      obtain ⟨ad2, c2, rfl⟩ := own_slice hown
      have hblk : w1.heap[b]? = some (.cells #[.slice ad1 A.length c1] 137 (0, 0)) := by rw [hgrow.block b hbl (row_bytes hO1.2.2 hO1.1 (pen_ne _ _))]; exact hO1.1
      have hG : OutGrown w w1 B b (.slice ad1 A.length c1) (.slice ad2 (A.length + x.size) c2) (A ++ by_ x) := by
        refine ⟨hblk, hBb, ?_, hb1.grown hgrow (by omega) (fun k hk => (hO1.2.2.lt k hk).1), ho1.grown hO1.2.2 hgrow⟩
        rw [strCells_by, ← List.map_append] at hown
        rw [List.length_append, by_len]
        exact hown
      have HG := Lib.hid hG
      have hc1 := cell_of_one hblk
      have hf1 := free_of_one hblk
      clear hG hblk hown hgrow hc0 hf0 hO1
      go_wp2
      obtain ⟨hO4, hb4, ho4⟩ := HG.out.stored
      rw [← hres.out] at hO4
      go_roundw
      case rel => exact ⟨k + 1, by omega, by go_num, _, hO4, hb4, ho4⟩
      case measure => simp [intOf]; omega
    · obtain rfl : k = zs.length := by omega
      go_wp2
      go_ret
      exact ⟨rfl, v1, by rw [List.take_length] at hO1; exact hO1, hb1, ho1⟩
theorem conv_nil (w : World) : Sem.run Try.prog (convert 135 9 (.slice none 0 0)) w = Result.ok (.string (ofL [])) w := by kernel_rfl
theorem conv_out {w : World} {B b : Nat} {v : Value} {L : List UInt8} (h : OutAt w B b v L) : Sem.run Try.prog (convert 135 9 v) w = Result.ok (.string (ofL L)) w := by
  rcases h.2.2.2 with ⟨rfl, hn⟩ | ⟨g, cap, cur, rfl, _⟩
  · obtain rfl : L = [] := List.length_eq_zero_iff.1 hn
    exact conv_nil w
  · exact conv_own h.2.2 rfl
theorem bytes_any (B b : Nat) (v : Value) (L : List UInt8) (w : World) (hO : OutAt w B b v L) :
    Calls Try.prog 70 #[.pointer (some ⟨b, 0, none⟩)] w fun e w' => e = .returned (.string (ofL L)) ∧ w = w' := by
  have hconv := conv_out hO
  have hc0 := cell_of_one hO.1
  obtain ⟨ad1, c1, rfl⟩ := own_slice hO.2.2
  go_enter Try.func70, Try.ntmps70
  go_wp2_with ((go_at_call 104; refine (orNew_any _ _).mono ?_; rintro e w' ⟨rfl, rfl⟩))
  go_ret
  exact ⟨rfl, rfl⟩
end Go.Proofs.Ytjoikidnnhjogaa

/- pen.In: what its calls answer. -/
namespace Go.Proofs.Ytjoikidnnhjogaa
open Go.RowKit
set_option linter.unusedVariables false
/-- At block b there is an In: what is left, and the first error. -/
def InAt (w : World) (b : Nat) (s : ByteArray) (er : Int) : Prop := w.heap[b]? = some (.cells #[.string s, .int .i64 er] 189 (0, 0))
/-- Nothing but block b has turned. -/
structure Only (b : Nat) (w w' : World) : Prop where
  os : w'.os = w.os
  tape : w'.tape = w.tape
  output : w'.output = w.output
  size : w'.heap.size = w.heap.size
  block : ∀ k, k ≠ b → w'.heap[k]? = w.heap[k]?
theorem Only.refl (b : Nat) (w : World) : Only b w w := ⟨rfl, rfl, rfl, rfl, fun _ _ => rfl⟩
theorem Only.trans {b : Nat} {w w' w'' : World} (h : Only b w w') (k : Only b w' w'') : Only b w w'' :=
  ⟨k.os.trans h.os, k.tape.trans h.tape, k.output.trans h.output, k.size.trans h.size, fun i hi => (k.block i hi).trans (h.block i hi)⟩
theorem Only.setCell {b : Nat} {w w' : World} (h : Only b w w') (i : Nat) (u : Value) : Only b w (w'.setCell ⟨b, i, none⟩ u) :=
  ⟨h.os, h.tape, h.output, by simp [World.setCell, h.size], fun k hk => by rw [Below.heap_setCell _ _ _ _ hk]; exact h.block k hk⟩
theorem Only.drew {b : Nat} {w w' : World} (h : Only b w w') : Only b w w'.drew := ⟨h.os, h.tape, h.output, h.size, h.block⟩
theorem Only.below {b B : Nat} {w w' : World} (h : Only b w w') (hB : B ≤ b) : Below B w w' := ⟨h.os, h.tape, h.output, by rw [h.size]; exact Nat.le_refl _, fun k hk => h.block k (by omega)⟩
theorem InAt.lt {w : World} {b : Nat} {s : ByteArray} {er : Int} (h : InAt w b s er) : b < w.heap.size := lt_of_block h
theorem InAt.later {w w' : World} {b : Nat} {s : ByteArray} {er : Int} (h : InAt w b s er) (hb : Below w.heap.size w w') : InAt w' b s er := by
  unfold InAt; rw [hb.block b h.lt]; exact h
theorem InAt.cell0 {w : World} {b : Nat} {s : ByteArray} {er : Int} (h : InAt w b s er) : w.cell? ⟨b, 0, none⟩ = some (.string s) := by
  have := cell_of_row w b 0 _ _ (0, 0) h; simpa using this
theorem InAt.cell1 {w : World} {b : Nat} {s : ByteArray} {er : Int} (h : InAt w b s er) : w.cell? ⟨b, 1, none⟩ = some (.int .i64 er) := by
  have := cell_of_row w b 1 _ _ (0, 0) h; simpa using this
theorem InAt.free {w : World} {b : Nat} {s : ByteArray} {er : Int} (h : InAt w b s er) (i : Nat) : w.frozen? ⟨b, i, none⟩ = false := by
  unfold InAt at h; simp [World.frozen?, h]
theorem block_setCell {w : World} {b i : Nat} {cs : Array Value} {t : TypeId} {u : Value} (h : w.heap[b]? = some (.cells cs t (0, 0))) : (w.setCell ⟨b, i, none⟩ u).heap[b]? = some (.cells (cs.setIfInBounds i u) t (0, 0)) := by
  have hlt := lt_of_block h
  have h' : w.heap[b] = .cells cs t (0, 0) := by simpa [Array.getElem?_eq_getElem hlt] using h
  show (w.heap.modify b _)[b]? = _
  rw [Array.getElem?_eq_getElem (by simpa using hlt), Array.getElem_modify_self, h']
  rfl
theorem InAt.set0 {w : World} {b : Nat} {s s' : ByteArray} {er : Int} (h : InAt w b s er) : InAt (w.setCell ⟨b, 0, none⟩ (.string s')) b s' er := by
  unfold InAt; rw [block_setCell h]; rfl
theorem InAt.set1 {w : World} {b : Nat} {s : ByteArray} {er er' : Int} (h : InAt w b s er) : InAt (w.setCell ⟨b, 1, none⟩ (.int .i64 er')) b s er' := by
  unfold InAt; rw [block_setCell h]; rfl
theorem of_any (s : ByteArray) (w : World) : Calls Try.prog 93 #[.string s] w fun e w' => e = .returned (.pointer (some ⟨w.heap.size, 0, none⟩)) ∧ w' = w.alloc (.cells #[.string s, .int .i64 0] 189) := by
  go_enter Try.func93, Try.ntmps93
  go_wp2
  go_ret
  exact ⟨rfl, rfl⟩
theorem inAt_new (s : ByteArray) (w : World) : InAt (w.alloc (.cells #[.string s, .int .i64 0] 189)) w.heap.size s 0 := heap_alloc_new w _
theorem left_any (b : Nat) (s : ByteArray) (er : Int) (w : World) (h : InAt w b s er) : Calls Try.prog 95 #[.pointer (some ⟨b, 0, none⟩)] w fun e w' => e = .returned (.int .i64 s.size) ∧ w = w' := by
  have h0 := h.cell0
  go_enter Try.func95, Try.ntmps95
  go_wp2
  go_ret
  exact ⟨rfl, rfl⟩
theorem err_any (b : Nat) (s : ByteArray) (er : Int) (w : World) (h : InAt w b s er) : Calls Try.prog 110 #[.pointer (some ⟨b, 0, none⟩)] w fun e w' => e = .returned (.int .i64 er) ∧ w = w' := by
  have h0 := h.cell1
  go_enter Try.func110, Try.ntmps110
  go_wp2
  go_ret
  exact ⟨rfl, rfl⟩
/-- What End answers. -/
def endE (s : ByteArray) (er : Int) : Int := if s.size = 0 then er else 1
theorem end_any (b : Nat) (s : ByteArray) (er : Int) (w : World) (h : InAt w b s er) : Calls Try.prog 112 #[.pointer (some ⟨b, 0, none⟩)] w fun e w' => e = .returned (.int .i64 (endE s er)) ∧ w = w' := by
  have h0 := h.cell0
  have h1 := h.cell1
  have he := isEmpty_size s
  by_cases hz : s.size = 0
  · have hE : endE s er = er := by unfold endE; rw [if_pos hz]
    rw [hE, decide_eq_true hz] at *
    clear hE hz
    go_enter Try.func112, Try.ntmps112
    go_wp2
    go_ret
    exact ⟨rfl, rfl⟩
  · have hE : endE s er = 1 := by unfold endE; rw [if_neg hz]
    rw [hE, decide_eq_false hz] at *
    clear hE hz
    go_enter Try.func112, Try.ntmps112
    go_wp2
    go_ret
    exact ⟨rfl, rfl⟩
/-- What a call that takes leaves. -/
def Took (b : Nat) (r : Value) (s : ByteArray) (er : Int) (w : World) (e : Ending) (w' : World) : Prop := e = .returned r ∧ InAt w' b s er ∧ Only b w w'
def failS (s : ByteArray) (er k : Int) : ByteArray := if er = 0 ∧ k ≠ 0 then { data := #[] } else s
def failE (er k : Int) : Int := if er = 0 ∧ k ≠ 0 then k else er
theorem fail_any (b : Nat) (s : ByteArray) (er k : Int) (w : World) (h : InAt w b s er) : Calls Try.prog 125 #[.pointer (some ⟨b, 0, none⟩), .int .i64 k] w (Took b (.tuple #[]) (failS s er k) (failE er k) w) := by
  have h0 := h.cell0
  have h1 := h.cell1
  have f0 := h.free 0
  have f1 := h.free 1
  by_cases he : er = 0
  · by_cases hk : k = 0
    · subst hk he
      go_enter Try.func125, Try.ntmps125
      go_wp2
      go_end0
      exact ⟨rfl, h, Only.refl _ _⟩
    · have hE : failE er k = k := by unfold failE; rw [if_pos ⟨he, hk⟩]
      have hS : failS s er k = { data := #[] } := by unfold failS; rw [if_pos ⟨he, hk⟩]
      have hkb : (k == 0) = false := by simpa using hk
      rw [hE, hS]
      clear hE hS hk
      subst he
      go_enter Try.func125, Try.ntmps125
      go_wp2
      go_end0
      exact ⟨rfl, h.set1.set0, ((Only.refl _ _).setCell 1 _).setCell 0 _⟩
  · have hE : failE er k = er := by unfold failE; rw [if_neg (fun h => he h.1)]
    have hS : failS s er k = s := by unfold failS; rw [if_neg (fun h => he h.1)]
    have heb : (er == 0) = false := by simpa using he
    rw [hE, hS]
    clear hE hS he
    go_enter Try.func125, Try.ntmps125
    go_wp2
    go_end0
    exact ⟨rfl, h, Only.refl _ _⟩
/-- What Raw takes, leaves, tells. -/
def rawN (n : Int) : Nat := (max n 0).toNat
def rawT (s : ByteArray) (n : Int) : ByteArray := if s.size < rawN n then { data := #[] } else s.extract 0 (rawN n)
def rawS (s : ByteArray) (er n : Int) : ByteArray := if s.size < rawN n then failS s er 2 else s.extract (rawN n) s.size
def rawE (s : ByteArray) (er n : Int) : Int := if s.size < rawN n then failE er 2 else er
theorem inRaw_any (b : Nat) (s : ByteArray) (er n : Int) (w : World) (h : InAt w b s er) (hs : s.size ≤ 9223372036854775807) : Calls Try.prog 107 #[.pointer (some ⟨b, 0, none⟩), .int .i64 n] w (Took b (.string (rawT s n)) (rawS s er n) (rawE s er n) w) := by
  have h0 := h.cell0
  have f0 := h.free 0
  by_cases hbig : s.size < rawN n
  · have e1 : rawT s n = { data := #[] } := by unfold rawT; rw [if_pos hbig]
    have e2 : rawS s er n = failS s er 2 := by unfold rawS; rw [if_pos hbig]
    have e3 : rawE s er n = failE er 2 := by unfold rawE; rw [if_pos hbig]
    rw [e1, e2, e3]
    have hn0 : (s.size : Int) < n := by unfold rawN at hbig; omega
    have hn1 : 0 < n := by omega
    clear e1 e2 e3 hbig
    have HC := fail_any b s er 2 w h
    go_enter Try.func107, Try.ntmps107
    go_wp2_with ((go_at_call 125; refine (HC).mono ?_; rintro e w' ⟨rfl, hx, ho⟩))
    go_ret
    exact ⟨rfl, hx, ho⟩
  · have e1 : rawT s n = s.extract 0 (rawN n) := by unfold rawT; rw [if_neg hbig]
    have e2 : rawS s er n = s.extract (rawN n) s.size := by unfold rawS; rw [if_neg hbig]
    have e3 : rawE s er n = er := by unfold rawE; rw [if_neg hbig]
    rw [e1, e2, e3]
    clear e1 e2 e3
    by_cases hneg : n < 0
    · unfold rawN
      clear hbig
      go_enter Try.func107, Try.ntmps107
      go_wp2
      go_ret
      exact ⟨rfl, h.set0, (Only.refl _ _).setCell 0 _⟩
    · obtain ⟨m, rfl⟩ : ∃ m : Nat, n = (m : Int) := ⟨n.toNat, by omega⟩
      have hN : rawN (m : Int) = m := by unfold rawN; omega
      rw [hN] at hbig ⊢
      have hle : (m : Int) ≤ (s.size : Int) := by omega
      clear hN hbig hneg
      go_enter Try.func107, Try.ntmps107
      go_wp2
      all_goals
        go_ret
        exact ⟨rfl, h.set0, (Only.refl _ _).setCell 0 _⟩
/-- The number of bytes, the highest first. -/
def getN (l : List UInt8) : Nat := l.foldl (fun n b => 256 * n + b.toNat) 0
theorem getN_snoc (l : List UInt8) (c : UInt8) : getN (l ++ [c]) = 256 * getN l + c.toNat := by simp [getN]
theorem foldN_lt (l : List UInt8) : ∀ a : Nat, l.foldl (fun n b => 256 * n + b.toNat) a < (a + 1) * 256 ^ l.length := by
  induction l with
  | nil => intro a; simp
  | cons c l ih =>
    intro a
    have h := ih (256 * a + c.toNat)
    have hc := UInt8.toNat_lt c
    have hm : (256 * a + c.toNat + 1) * 256 ^ l.length ≤ (256 * (a + 1)) * 256 ^ l.length := Nat.mul_le_mul_right _ (by omega)
    rw [List.foldl_cons, List.length_cons, Nat.pow_succ]
    have e : (a + 1) * (256 ^ l.length * 256) = (256 * (a + 1)) * 256 ^ l.length := by rw [Nat.mul_comm (256 ^ l.length) 256, ← Nat.mul_assoc, Nat.mul_comm 256 (a + 1)]
    rw [e]
    exact Nat.lt_of_lt_of_le h hm
theorem getN_lt (l : List UInt8) : getN l < 256 ^ l.length := by
  have h := foldN_lt l 0
  unfold getN
  omega
theorem getN_4 (l : List UInt8) (h : l.length ≤ 4) : getN l < 4294967296 := Nat.lt_of_lt_of_le (getN_lt l) (Nat.le_trans (Nat.pow_le_pow_right (by decide) h) (by decide))
theorem getN_3 (l : List UInt8) (h : l.length ≤ 3) : getN l < 16777216 := Nat.lt_of_lt_of_le (getN_lt l) (Nat.le_trans (Nat.pow_le_pow_right (by decide) h) (by decide))
theorem take_succ_by (s : ByteArray) (k : Nat) (h : k < s.size) : (by_ s).take (k + 1) = (by_ s).take k ++ [s[k]] := by
  rw [List.take_succ_eq_append_getElem (by rw [by_len]; exact h)]; rfl
theorem or_num (r c : Nat) (hr : r < 16777216) (hc : c < 256) : bits .or .u32 ((r : Int) * 256) (c : Int) = ((256 * r + c : Nat) : Int) := by
  rw [show ((r : Int) * 256) = ((256 * r : Nat) : Int) from by omega, u32_or_nat _ _ (by omega) (by omega)]
  have := Nat.two_pow_add_eq_or_of_lt (i := 8) (b := c) (by omega) r
  simp at this
  rw [← this]
theorem rawT_size (s : ByteArray) (n : Int) : (rawT s n).size ≤ rawN n ∧ (rawT s n).size ≤ s.size := by
  unfold rawT
  split
  · exact ⟨Nat.zero_le _, Nat.zero_le _⟩
  · simp; omega
theorem number_any (b : Nat) (s : ByteArray) (er n : Int) (w : World) (h : InAt w b s er) (hs : s.size ≤ 9223372036854775807) (h4 : n ≤ 4) : Calls Try.prog 116 #[.pointer (some ⟨b, 0, none⟩), .int .i64 n] w (Took b (.int .u32 (getN (by_ (rawT s n)) : Int)) (rawS s er n) (rawE s er n) w) := by
  have HC := inRaw_any b s er n w h hs
  have hz : (rawT s n).size ≤ 4 := by have := (rawT_size s n).1; unfold rawN at this; omega
  generalize rawT s n = t at HC hz
  generalize rawS s er n = s' at HC
  generalize rawE s er n = er' at HC
  go_enter Try.func116, Try.ntmps116
  go_wp2_with ((go_at_call 107; refine (HC).mono ?_; rintro e w' ⟨rfl, hx, ho⟩))
  go_loop [6, 13] (fun r i => ∃ k : Nat, k ≤ t.size ∧ i = .int .i64 k ∧ r = .int .u32 (getN ((by_ t).take k) : Int)) (fun _ i => t.size - (intOf i).toNat)
  case atStart => exact ⟨0, Nat.zero_le _, rfl, rfl⟩
  case round =>
    obtain ⟨k, hk, rfl, rfl⟩ := hrel
    by_cases hlt : k < t.size
    · have hts := take_succ_by t k hlt
      have hst : Hid (getN ((by_ t).take (k + 1)) = 256 * getN ((by_ t).take k) + t[k].toNat) := by show _ = _; rw [hts, getN_snoc]
      have hb3 := getN_3 ((by_ t).take k) (by rw [List.length_take, by_len]; omega)
      have hc := UInt8.toNat_lt t[k]
      clear hts
      generalize getN ((by_ t).take k) = r at hst hb3
      have hor := or_num r t[k].toNat hb3 hc
      go_wp2
      go_round
      case rel => exact ⟨k + 1, by omega, by go_num, by rw [hst.out]; congr 1⟩
      case measure => simp [intOf]; omega
    · obtain rfl : k = t.size := by omega
      have hta := take_all t
      go_wp2
      go_ret
      exact ⟨rfl, hx, ho⟩
theorem inU8_any (b : Nat) (s : ByteArray) (er : Int) (w : World) (h : InAt w b s er) (hs : s.size ≤ 9223372036854775807) : Calls Try.prog 108 #[.pointer (some ⟨b, 0, none⟩)] w (Took b (.int .i64 (getN (by_ (rawT s 1)) : Int)) (rawS s er 1) (rawE s er 1) w) := by
  have HC := number_any b s er 1 w h hs (by decide)
  have hlt := getN_4 (by_ (rawT s 1)) (by rw [by_len]; have := (rawT_size s 1).1; unfold rawN at this; omega)
  generalize getN (by_ (rawT s 1)) = r at HC hlt
  go_enter Try.func108, Try.ntmps108
  go_wp2_with ((go_at_call 116; refine (HC).mono ?_; rintro e w' ⟨rfl, hx, ho⟩))
  go_ret
  exact ⟨rfl, hx, ho⟩
theorem inU16_any (b : Nat) (s : ByteArray) (er : Int) (w : World) (h : InAt w b s er) (hs : s.size ≤ 9223372036854775807) : Calls Try.prog 96 #[.pointer (some ⟨b, 0, none⟩)] w (Took b (.int .i64 (getN (by_ (rawT s 2)) : Int)) (rawS s er 2) (rawE s er 2) w) := by
  have HC := number_any b s er 2 w h hs (by decide)
  have hlt := getN_4 (by_ (rawT s 2)) (by rw [by_len]; have := (rawT_size s 2).1; unfold rawN at this; omega)
  generalize getN (by_ (rawT s 2)) = r at HC hlt
  go_enter Try.func96, Try.ntmps96
  go_wp2_with ((go_at_call 116; refine (HC).mono ?_; rintro e w' ⟨rfl, hx, ho⟩))
  go_ret
  exact ⟨rfl, hx, ho⟩
theorem inU24_any (b : Nat) (s : ByteArray) (er : Int) (w : World) (h : InAt w b s er) (hs : s.size ≤ 9223372036854775807) : Calls Try.prog 118 #[.pointer (some ⟨b, 0, none⟩)] w (Took b (.int .i64 (getN (by_ (rawT s 3)) : Int)) (rawS s er 3) (rawE s er 3) w) := by
  have HC := number_any b s er 3 w h hs (by decide)
  have hlt := getN_4 (by_ (rawT s 3)) (by rw [by_len]; have := (rawT_size s 3).1; unfold rawN at this; omega)
  generalize getN (by_ (rawT s 3)) = r at HC hlt
  go_enter Try.func118, Try.ntmps118
  go_wp2_with ((go_at_call 116; refine (HC).mono ?_; rintro e w' ⟨rfl, hx, ho⟩))
  go_ret
  exact ⟨rfl, hx, ho⟩
theorem inU32_any (b : Nat) (s : ByteArray) (er : Int) (w : World) (h : InAt w b s er) (hs : s.size ≤ 9223372036854775807) : Calls Try.prog 94 #[.pointer (some ⟨b, 0, none⟩)] w (Took b (.int .u32 (getN (by_ (rawT s 4)) : Int)) (rawS s er 4) (rawE s er 4) w) := by
  have HC := number_any b s er 4 w h hs (by decide)
  have hlt := getN_4 (by_ (rawT s 4)) (by rw [by_len]; have := (rawT_size s 4).1; unfold rawN at this; omega)
  generalize getN (by_ (rawT s 4)) = r at HC hlt
  go_enter Try.func94, Try.ntmps94
  go_wp2_with ((go_at_call 116; refine (HC).mono ?_; rintro e w' ⟨rfl, hx, ho⟩))
  go_ret
  exact ⟨rfl, hx, ho⟩
end Go.Proofs.Ytjoikidnnhjogaa

/- The document's Put, Get, Raw, Num, End. -/
namespace Go.Proofs.Ytjoikidnnhjogaa
open Go.RowKit
set_option linter.unusedVariables false
theorem be_succ (n : Int) (k : Nat) : be n (k + 1) = UInt8.ofNat ((n / 2 ^ (8 * k)) % 256).toNat :: be n k := by
  unfold be beP
  rw [List.range_succ_eq_map, List.map_cons, List.map_map]
  congr 1
  apply List.map_congr_left
  intro j hj
  rw [List.mem_range] at hj
  show UInt8.ofNat ((n / 2 ^ (8 * (k + 1 - 1 - (j + 1)))) % 256).toNat = _
  rw [show k + 1 - 1 - (j + 1) = k - 1 - j from by omega]
theorem be_zero (n : Int) : be n 0 = [] := rfl
theorem own_stored_lit (w : World) (B : Nat) (hB : B ≤ w.heap.size) (u : UInt8) (X : Int) (hX : Hid (X = (u.toNat : Int))) : (w.alloc (.cells #[.int .u8 X] 5)).ownsRow B 5 1 (.slice (some ⟨w.heap.size, 0, none⟩) 1 1) 1 [u8v u] := by
  obtain rfl := hX.out
  exact World.ownsRow_lit w #[.int .u8 (u.toNat : Int)] 1 hB (by unfold maxLen; omega) rfl
theorem quo_parts (m R Q : Int) (hR : m.tmod 256 = R) (hQ : (m - R).tdiv 256 = Q) : (R < 0 → R + 256 = m % 256 ∧ Q - 1 = m / 256) ∧ (0 ≤ R → R = m % 256 ∧ Q = m / 256) ∧ -256 < R ∧ R < 256 := by
  have h1 := Int.tmod_eq_emod (a := m) (b := 256)
  have h2 := Int.emod_nonneg m (show (256 : Int) ≠ 0 by decide)
  have h3 := Int.emod_lt_of_pos m (show (0 : Int) < 256 by decide)
  have h4 := Int.mul_ediv_add_emod m 256
  have hd : (256 : Int) ∣ (m - R) := by
    rw [← hR]
    exact Int.dvd_self_sub_tmod
  have hq : Q = (m - R) / 256 := by rw [← hQ, Int.tdiv_eq_ediv_of_dvd hd]
  split at h1 <;> (simp at h1) <;> omega
theorem low_div (n : Int) (k : Nat) : n / 2 ^ (8 * k) / 256 = n / 2 ^ (8 * (k + 1)) := by
  rw [Int.ediv_ediv_of_nonneg (by exact Int.pow_nonneg (by decide)), show 8 * (k + 1) = 8 * k + 8 from by omega, Int.pow_add]; rfl
theorem div_bd (n : Int) (k : Nat) (h1 : -9223372036854775808 ≤ n) (h2 : n ≤ 9223372036854775807) : -9223372036854775808 ≤ n / 2 ^ (8 * k) ∧ n / 2 ^ (8 * k) ≤ 9223372036854775807 := by
  have hp : (0 : Int) < 2 ^ (8 * k) := Int.pow_pos (by decide)
  have hp1 : (1 : Int) ≤ 2 ^ (8 * k) := hp
  constructor
  · refine (Int.le_ediv_iff_mul_le hp).2 ?_
    generalize (2 : Int) ^ (8 * k) = p at hp1
    omega
  · exact Int.le_trans (Int.ediv_le_ediv hp h2) (Int.ediv_le_self _ (by decide))
theorem addr_add (g j : Nat) : (⟨g, 0, none⟩ : Addr).add j = ⟨g, j, none⟩ := by unfold Addr.add; split <;> simp_all
theorem put_row {w : World} {B k : Nat} {m : Int} {v : Value} {u : UInt8} (h : w.ownsRow B 5 1 v (1 + k) ([u8v u] ++ (be m k).map u8v)) (hbe : be m (k + 1) = u :: be m k) :
    w.ownsRow B 5 1 v (k + 1) ((be m (k + 1)).map u8v) ∧ ∃ g c, v = .slice (some ⟨g, 0, none⟩) (k + 1) c := by
  rw [Nat.add_comm 1 k] at h
  refine ⟨by rw [hbe]; exact h, ?_⟩
  rcases h.2 with ⟨_, h0⟩ | ⟨g, cap, cur, rfl, _⟩
  · omega
  · exact ⟨g, cap, rfl⟩
set_option maxHeartbeats 800000 in
theorem put_any (n : Int) (size : Nat) (w : World) (h1 : -9223372036854775808 ≤ n) (h2 : n ≤ 9223372036854775807) (h4 : size ≤ 8) :
    Calls Try.prog 71 #[.int .i64 n, .int .i64 (size : Int)] w fun e w' => e = .returned (.string (ofL (be n size))) ∧ Below w.heap.size w w' := by
  obtain ⟨i0, hi, hz0, hz1, hz2⟩ := info_parts info8
  go_enter Try.func71, Try.ntmps71
  go_wp2
  go_loopw [0, 5, 6] (fun x v i wr => ∃ k : Nat, k ≤ size ∧ i = .int .i64 k ∧ x = .int .i64 (n / 2 ^ (8 * k)) ∧ (∃ g c, v = .slice (some ⟨g, 0, none⟩) k c) ∧ wr.ownsRow w.heap.size 5 1 v k ((be n k).map u8v) ∧ Below w.heap.size w wr) (fun _ _ i _ => size - (intOf i).toNat)
  case atStart => exact ⟨0, Nat.zero_le _, rfl, by simp, ⟨_, _, rfl⟩, World.ownsRow_made _ _ _ (Nat.le_refl _) (by decide) rfl, (Below.refl _ _).alloc (Nat.le_refl _) _⟩
  case round =>
    obtain ⟨k, hk, rfl, rfl, ⟨g, c, rfl⟩, hown, hb⟩ := hrel
    by_cases hlt : k < size
    · obtain ⟨d1, d2⟩ := div_bd n k h1 h2
      have hld := Lib.hid (low_div n k)
      have hbe := Lib.hid (be_succ n k)
      generalize n / 2 ^ (8 * k) = m at d1 d2 hld hbe
      obtain ⟨R, hR⟩ : ∃ R, m.tmod 256 = R := ⟨_, rfl⟩
      obtain ⟨Q, hQ⟩ : ∃ Q, (m - R).tdiv 256 = Q := ⟨_, rfl⟩
      obtain ⟨q1, q2, q3, q4⟩ := quo_parts m R Q hR hQ
      have hQ1 : -9223372036854775807 ≤ Q := by rcases Int.lt_or_le R 0 with h | h; (have := q1 h; omega); (have := q2 h; omega)
      have hQ2 : Q ≤ 9223372036854775807 := by rcases Int.lt_or_le R 0 with h | h; (have := q1 h; omega); (have := q2 h; omega)
      have hm0 := Int.tmod_eq_emod (a := m) (b := 256)
      have q5 : -9223372036854775808 ≤ m - R := by rw [← hR]; split at hm0 <;> (simp at hm0) <;> omega
      have q6 : m - R ≤ 9223372036854775807 := by rw [← hR]; split at hm0 <;> (simp at hm0) <;> omega
      clear hm0
      by_cases hneg : R < 0
      · obtain ⟨q7, q8⟩ := q1 hneg
        have hu : Hid (R + 256 = ((UInt8.ofNat (m % 256).toNat).toNat : Int)) := by show _ = _; rw [UInt8.toNat_ofNat', Nat.mod_eq_of_lt (by omega)]; omega
        have h8 : Hid (Q - 1 = n / 2 ^ (8 * (k + 1))) := by show _ = _; rw [q8]; exact hld.out
        generalize UInt8.ofNat (m % 256).toNat = u at hu hbe
        clear q1 q2 q7 q8 hld
        go_wp2_with (at_builtin; refine wpList_append_own _ rfl (.tmp 28) (.tmp 29) 135 rfl w.heap.size 5 i0 (.int .u8 0) 1 1 Try.underlying135 hi hz0 hz1 hz2 rfl (by decide) _ 1 [u8v u] rfl (own_stored_lit wr w.heap.size hb.size u _ hu) ⟨g, 0, none⟩ k c ((be n k).map u8v) rfl ?d1 ?d2 ?d3 ?d4 ?d5 ?d6 ?_)
        case d1 => simp [be_len]
        case d2 => first | exact (hown.alloc _).cells rfl | (intro j a' ha; have h' := (hown.alloc (.cells #[.int .u8 R] 5)).cells rfl j (u8v a') (by simp [ha]); rw [addr_add] at h'; exact h')
        case d3 => first | (intro u' hu'; simp [u8v] at hu'; obtain ⟨x, _, rfl⟩ := hu'; rfl) | (intros; rfl)
        case d4 => unfold maxLen; omega
        case d5 => omega
        case d6 => have := hb.size; simp; omega
        intro v' w1 hown1 hgrow _
        obtain ⟨hown2, g2, c2, rfl⟩ := put_row hown1 hbe.out
        have hb2 : Below w.heap.size w w1 := (hb.alloc hb.size _).grown hgrow (by have := hb.size; simp; omega) (fun k' hk' => by have := hb.size; simp [Value.ownBlock] at hk'; omega)
        clear hown hown1 hgrow hbe hb hu hR hQ d1 d2 q3 q4 q5 q6
        go_wp2
        go_roundw
        case rel => exact ⟨k + 1, by omega, by go_num, by rw [h8.out], ⟨g2, c2, rfl⟩, hown2, hb2⟩
        case measure => simp [intOf]; omega
      · obtain ⟨q7, q8⟩ := q2 (by omega)
        have hu : Hid (R = ((UInt8.ofNat (m % 256).toNat).toNat : Int)) := by show _ = _; rw [UInt8.toNat_ofNat', Nat.mod_eq_of_lt (by omega)]; omega
        have h8 : Hid (Q = n / 2 ^ (8 * (k + 1))) := by show _ = _; rw [q8]; exact hld.out
        generalize UInt8.ofNat (m % 256).toNat = u at hu hbe
        clear q1 q2 q7 q8 hld
        go_wp2_with (at_builtin; refine wpList_append_own _ rfl (.tmp 28) (.tmp 29) 135 rfl w.heap.size 5 i0 (.int .u8 0) 1 1 Try.underlying135 hi hz0 hz1 hz2 rfl (by decide) _ 1 [u8v u] rfl (own_stored_lit wr w.heap.size hb.size u _ hu) ⟨g, 0, none⟩ k c ((be n k).map u8v) rfl ?d1 ?d2 ?d3 ?d4 ?d5 ?d6 ?_)
        case d1 => simp [be_len]
        case d2 => first | exact (hown.alloc _).cells rfl | (intro j a' ha; have h' := (hown.alloc (.cells #[.int .u8 R] 5)).cells rfl j (u8v a') (by simp [ha]); rw [addr_add] at h'; exact h')
        case d3 => first | (intro u' hu'; simp [u8v] at hu'; obtain ⟨x, _, rfl⟩ := hu'; rfl) | (intros; rfl)
        case d4 => unfold maxLen; omega
        case d5 => omega
        case d6 => have := hb.size; simp; omega
        intro v' w1 hown1 hgrow _
        obtain ⟨hown2, g2, c2, rfl⟩ := put_row hown1 hbe.out
        have hb2 : Below w.heap.size w w1 := (hb.alloc hb.size _).grown hgrow (by have := hb.size; simp; omega) (fun k' hk' => by have := hb.size; simp [Value.ownBlock] at hk'; omega)
        clear hown hown1 hgrow hbe hb hu hR hQ d1 d2 q3 q4 q5 q6
        go_wp2
        go_roundw
        case rel => exact ⟨k + 1, by omega, by go_num, by rw [h8.out], ⟨g2, c2, rfl⟩, hown2, hb2⟩
        case measure => simp [intOf]; omega
    · obtain rfl : k = size := by omega
      have hc := conv_own hown (be_len n k)
      go_wp2
      go_ret
      exact ⟨rfl, hb⟩
theorem getN_6 (l : List UInt8) (h : l.length ≤ 6) : getN l < 281474976710656 := Nat.lt_of_lt_of_le (getN_lt l) (Nat.le_trans (Nat.pow_le_pow_right (by decide) h) (by decide))
theorem get_any (s : ByteArray) (w : World) (hs : s.size ≤ 7) : Calls Try.prog 58 #[.string s] w fun e w' => e = .returned (.int .i64 (getN (by_ s))) ∧ w = w' := by
  go_enter Try.func58, Try.ntmps58
  go_wp2
  go_loop [3, 4] (fun r i => ∃ k : Nat, k ≤ s.size ∧ i = .int .i64 k ∧ r = .int .i64 (getN ((by_ s).take k) : Int)) (fun _ i => s.size - (intOf i).toNat)
  case atStart => exact ⟨0, Nat.zero_le _, rfl, rfl⟩
  case round =>
    obtain ⟨k, hk, rfl, rfl⟩ := hrel
    by_cases hlt : k < s.size
    · have hts := take_succ_by s k hlt
      have hst : Hid (getN ((by_ s).take (k + 1)) = 256 * getN ((by_ s).take k) + s[k].toNat) := by show _ = _; rw [hts, getN_snoc]
      have hb3 := getN_6 ((by_ s).take k) (by rw [List.length_take, by_len]; omega)
      have hc := UInt8.toNat_lt s[k]
      clear hts
      generalize getN ((by_ s).take k) = r at hst hb3
      go_wp2
      go_round
      case rel => exact ⟨k + 1, by omega, by go_num, by rw [hst.out]; congr 1⟩
      case measure => simp [intOf]; omega
    · obtain rfl : k = s.size := by omega
      have hta := take_all s
      go_wp2
      go_ret
      exact ⟨rfl, rfl⟩
/-- The document's In. -/
def refIn (s : ByteArray) (er : Int) : Value := .agg #[.string s, .int .i64 er]
theorem empty_of_size {s : ByteArray} (h : s.size = 0) : s = { data := #[] } := by
  apply by_inj
  have h0 : by_ s = [] := List.length_eq_zero_iff.1 (by rw [by_len, h])
  rw [h0]; rfl
theorem raw_none (er n : Int) (he : er ≠ 0) : rawT { data := #[] } n = { data := #[] } ∧ rawS { data := #[] } er n = { data := #[] } ∧ rawE { data := #[] } er n = er := by
  have hx : ∀ a b, (ByteArray.mk #[]).extract a b = { data := #[] } := fun a b => empty_of_size (by rw [ByteArray.size_extract]; show min b 0 - a = 0; omega)
  refine ⟨?_, ?_, ?_⟩
  · unfold rawT; split; rfl; exact hx _ _
  · unfold rawS failS
    split
    · rw [if_neg (fun h => he h.1)]
    · exact hx _ _
  · unfold rawE failE
    split
    · rw [if_neg (fun h => he h.1)]
    · rfl
theorem inv_raw (s : ByteArray) (er n : Int) (hinv : er ≠ 0 → s.size = 0) : rawE s er n ≠ 0 → (rawS s er n).size = 0 := by
  by_cases he : er = 0
  · subst he
    unfold rawE rawS failE failS
    split
    · simp; rfl
    · intro h; exact absurd rfl h
  · obtain rfl := empty_of_size (hinv he)
    obtain ⟨e1, e2, e3⟩ := raw_none er n he
    rw [e2]; intro _; rfl
end Go.Proofs.Ytjoikidnnhjogaa

/- What was written is read again: plain facts. -/
namespace Go.Proofs.Ytjoikidnnhjogaa
open Go.RowKit
set_option linter.unusedVariables false
set_option linter.unusedSimpArgs false
theorem byte_toNat (x : Int) (h0 : 0 ≤ x) (h1 : x < 256) : ((UInt8.ofNat x.toNat).toNat : Int) = x := by
  rw [UInt8.toNat_ofNat', Nat.mod_eq_of_lt (by omega)]; omega
theorem getN_be1 (n : Int) : ((getN (be n 1) : Nat) : Int) = n % 256 := by
  have h := byte_toNat (n % 256) (by omega) (by omega)
  simp only [be, beP, List.range_succ, List.range_zero, List.nil_append, List.map_cons, List.map_nil, getN, List.foldl_cons, List.foldl_nil, List.cons_append]
  simp at *
  omega
theorem getN_be2 (n : Int) : ((getN (be n 2) : Nat) : Int) = n % 65536 := by
  have h := byte_toNat (n % 256) (by omega) (by omega)
  have h2 := byte_toNat (n / 256 % 256) (by omega) (by omega)
  simp only [be, beP, List.range_succ, List.range_zero, List.nil_append, List.map_cons, List.map_nil, getN, List.foldl_cons, List.foldl_nil, List.cons_append]
  simp at *
  omega
theorem getN_be3 (n : Int) : ((getN (be n 3) : Nat) : Int) = n % 16777216 := by
  have h := byte_toNat (n % 256) (by omega) (by omega)
  have h2 := byte_toNat (n / 256 % 256) (by omega) (by omega)
  have h3 := byte_toNat (n / 65536 % 256) (by omega) (by omega)
  simp only [be, beP, List.range_succ, List.range_zero, List.nil_append, List.map_cons, List.map_nil, getN, List.foldl_cons, List.foldl_nil, List.cons_append]
  simp at *
  omega
theorem getN_be4 (n : Int) : ((getN (be n 4) : Nat) : Int) = n % 4294967296 := by
  have h := byte_toNat (n % 256) (by omega) (by omega)
  have h2 := byte_toNat (n / 256 % 256) (by omega) (by omega)
  have h3 := byte_toNat (n / 65536 % 256) (by omega) (by omega)
  have h4 := byte_toNat (n / 16777216 % 256) (by omega) (by omega)
  simp only [be, beP, List.range_succ, List.range_zero, List.nil_append, List.map_cons, List.map_nil, getN, List.foldl_cons, List.foldl_nil, List.cons_append]
  simp at *
  omega
theorem ofL_append (a b : List UInt8) : ofL (a ++ b) = ofL a ++ ofL b := by apply by_inj; rw [by_append]; simp [by_ofL]
theorem ofL_nil : ofL [] = { data := #[] } := rfl
theorem ofL_extract (l : List UInt8) (a b : Nat) (hb : b ≤ l.length) : (ofL l).extract a b = ofL ((l.take b).drop a) := by
  apply by_inj
  rw [by_extract _ _ _ (by rw [ofL_size]; exact hb), by_ofL, by_ofL]
/-- Just so many bytes are taken as there are ahead. -/
theorem raw_ahead (l r : List UInt8) (er : Int) (n : Int) (hn : n = l.length) : rawT (ofL (l ++ r)) n = ofL l ∧ rawS (ofL (l ++ r)) er n = ofL r ∧ rawE (ofL (l ++ r)) er n = er := by
  have hN : rawN n = l.length := by unfold rawN; omega
  have hz : ¬ (ofL (l ++ r)).size < l.length := by rw [ofL_size, List.length_append]; omega
  unfold rawT rawS rawE
  rw [hN, if_neg hz, if_neg hz, if_neg hz]
  refine ⟨?_, ?_, rfl⟩
  · rw [ofL_extract _ _ _ (by simp)]; simp
  · rw [ofL_size, ofL_extract _ _ _ (Nat.le_refl _), List.take_length, List.drop_left]
theorem bes_one (n : Int) (k : Nat) : bes [n] k = be n k := by simp [bes]
theorem bes_two (n m : Int) (k : Nat) : bes [n, m] k = be n k ++ be m k := by simp [bes]
theorem be_low4 (m : Int) : be (m % 4294967296) 4 = be m 4 := by
  unfold be beP
  apply List.map_congr_left
  intro j hj
  rw [List.mem_range] at hj
  have hj4 : j = 0 ∨ j = 1 ∨ j = 2 ∨ j = 3 := by omega
  have h0 : m % 4294967296 / 1 % 256 = m / 1 % 256 := by omega
  have h1 : m % 4294967296 / 256 % 256 = m / 256 % 256 := by omega
  have h2 : m % 4294967296 / 65536 % 256 = m / 65536 % 256 := by omega
  have h3 : m % 4294967296 / 16777216 % 256 = m / 16777216 % 256 := by omega
  rcases hj4 with rfl | rfl | rfl | rfl
  · exact congrArg (fun x : Int => UInt8.ofNat x.toNat) h3
  · exact congrArg (fun x : Int => UInt8.ofNat x.toNat) h2
  · exact congrArg (fun x : Int => UInt8.ofNat x.toNat) h1
  · exact congrArg (fun x : Int => UInt8.ofNat x.toNat) h0
end Go.Proofs.Ytjoikidnnhjogaa

/- Writing slices just laid; the statements' awake. -/
namespace Go.Proofs.Ytjoikidnnhjogaa
open Go.RowKit
set_option linter.unusedVariables false
theorem InAt.others {w w' : World} {b b' : Nat} {s : ByteArray} {er : Int} (h : InAt w b' s er) (hne : b' ≠ b) (ho : Others b w w') : InAt w' b' s er := ho b' _ h hne (by intro cur p e; cases e)
theorem InAt.alloc {w : World} {b : Nat} {s : ByteArray} {er : Int} (h : InAt w b s er) (o : Obj) : InAt (w.alloc o) b s er := h.later ((Below.refl _ _).alloc (Nat.le_refl _) o)
theorem out_new (W : World) (B : Nat) (hB : B ≤ W.heap.size) : OutAt (W.alloc (.cells #[.slice none 0 0] 137)) B W.heap.size (.slice none 0 0) [] :=
  ⟨heap_alloc_new W _, hB, World.ownsRow_nil _ _ _ _⟩
theorem u8_lit (B b : Nat) (v : Value) (L : List UInt8) (zs : List Int) (cs : Array Value) (n g : Nat) (W : World) (hg : g = W.heap.size) (hO : OutAt W B b v L) (hcs : cs.toList = zs.map (Value.int .i64)) (hn : n = zs.length) (hL : L.length + zs.length * 1 ≤ 1099511627776) (hl : zs.length ≤ 1099511627776) :
    Calls Try.prog 66 #[.pointer (some ⟨b, 0, none⟩), .slice (some ⟨g, 0, none⟩) n n] (W.alloc (.cells cs 3)) (Wrote B b (L ++ bes zs 1) W) := by
  subst hg
  refine (u8_any B b v L zs _ n n _ (hO.alloc _) hn (fun w' _ ho => lit_reads (heap_alloc_new W _) hcs (by have := hO.lt; omega) (by decide) w' ho) hl hL).mono ?_
  rintro e w' ⟨rfl, v', h1, h2, h3⟩
  exact ⟨rfl, v', h1, ((Below.refl _ _).alloc (by have := hO.lt; have := hO.2.1; omega) _).trans h2, ((Others.refl _ _).alloc _).trans h3⟩
theorem u16_lit (B b : Nat) (v : Value) (L : List UInt8) (zs : List Int) (cs : Array Value) (n g : Nat) (W : World) (hg : g = W.heap.size) (hO : OutAt W B b v L) (hcs : cs.toList = zs.map (Value.int .i64)) (hn : n = zs.length) (hL : L.length + zs.length * 2 ≤ 1099511627776) (hl : zs.length ≤ 1099511627776) :
    Calls Try.prog 92 #[.pointer (some ⟨b, 0, none⟩), .slice (some ⟨g, 0, none⟩) n n] (W.alloc (.cells cs 3)) (Wrote B b (L ++ bes zs 2) W) := by
  subst hg
  refine (u16_any B b v L zs _ n n _ (hO.alloc _) hn (fun w' _ ho => lit_reads (heap_alloc_new W _) hcs (by have := hO.lt; omega) (by decide) w' ho) hl hL).mono ?_
  rintro e w' ⟨rfl, v', h1, h2, h3⟩
  exact ⟨rfl, v', h1, ((Below.refl _ _).alloc (by have := hO.lt; have := hO.2.1; omega) _).trans h2, ((Others.refl _ _).alloc _).trans h3⟩
theorem u24_lit (B b : Nat) (v : Value) (L : List UInt8) (zs : List Int) (cs : Array Value) (n g : Nat) (W : World) (hg : g = W.heap.size) (hO : OutAt W B b v L) (hcs : cs.toList = zs.map (Value.int .i64)) (hn : n = zs.length) (hL : L.length + zs.length * 3 ≤ 1099511627776) (hl : zs.length ≤ 1099511627776) :
    Calls Try.prog 101 #[.pointer (some ⟨b, 0, none⟩), .slice (some ⟨g, 0, none⟩) n n] (W.alloc (.cells cs 3)) (Wrote B b (L ++ bes zs 3) W) := by
  subst hg
  refine (u24_any B b v L zs _ n n _ (hO.alloc _) hn (fun w' _ ho => lit_reads (heap_alloc_new W _) hcs (by have := hO.lt; omega) (by decide) w' ho) hl hL).mono ?_
  rintro e w' ⟨rfl, v', h1, h2, h3⟩
  exact ⟨rfl, v', h1, ((Below.refl _ _).alloc (by have := hO.lt; have := hO.2.1; omega) _).trans h2, ((Others.refl _ _).alloc _).trans h3⟩
theorem u32_lit (B b : Nat) (v : Value) (L : List UInt8) (zs : List Int) (cs : Array Value) (n g : Nat) (W : World) (hg : g = W.heap.size) (hO : OutAt W B b v L) (hcs : cs.toList = zs.map (Value.int .u32)) (hn : n = zs.length) (hL : L.length + zs.length * 4 ≤ 1099511627776) (hl : zs.length ≤ 1099511627776) :
    Calls Try.prog 65 #[.pointer (some ⟨b, 0, none⟩), .slice (some ⟨g, 0, none⟩) n n] (W.alloc (.cells cs 26)) (Wrote B b (L ++ bes zs 4) W) := by
  subst hg
  refine (u32_any B b v L zs _ n n _ (hO.alloc _) hn (fun w' _ ho => lit_reads (heap_alloc_new W _) hcs (by have := hO.lt; omega) (by decide) w' ho) hl hL).mono ?_
  rintro e w' ⟨rfl, v', h1, h2, h3⟩
  exact ⟨rfl, v', h1, ((Below.refl _ _).alloc (by have := hO.lt; have := hO.2.1; omega) _).trans h2, ((Others.refl _ _).alloc _).trans h3⟩
theorem outRaw_lit (B b : Nat) (v : Value) (L : List UInt8) (zs : List ByteArray) (cs : Array Value) (n g : Nat) (W : World) (hg : g = W.heap.size) (hO : OutAt W B b v L) (hcs : cs.toList = zs.map Value.string) (hn : n = zs.length) (hL : L.length + (cat zs).length ≤ 1099511627776) (hl : zs.length ≤ 1099511627776) :
    Calls Try.prog 67 #[.pointer (some ⟨b, 0, none⟩), .slice (some ⟨g, 0, none⟩) n n] (W.alloc (.cells cs 9)) (Wrote B b (L ++ cat zs) W) := by
  subst hg
  refine (outRaw_any B b v L zs _ n n _ (hO.alloc _) hn (fun w' _ ho => lit_readsT (heap_alloc_new W _) hcs (by have := hO.lt; omega) (by decide) w' ho) hl hL).mono ?_
  rintro e w' ⟨rfl, v', h1, h2, h3⟩
  exact ⟨rfl, v', h1, ((Below.refl _ _).alloc (by have := hO.lt; have := hO.2.1; omega) _).trans h2, ((Others.refl _ _).alloc _).trans h3⟩
end Go.Proofs.Ytjoikidnnhjogaa

/- The statements' Cut. -/
namespace Go.Proofs.Ytjoikidnnhjogaa
open Go.RowKit
set_option linter.unusedVariables false
theorem cut_any (s : ByteArray) (n : Nat) (w : World) (hs : s.size ≤ 9223372036854775807) (hn : n ≤ 1099511627776) :
    Calls Try.prog 13 #[.string s, .int .i64 (n : Int)] w fun e w' => e = .returned (.string (cutB s n)) ∧ w = w' := by
  by_cases h : n < s.size
  · have hc : cutB s n = s.extract 0 n := by unfold cutB; rw [if_pos h]
    rw [hc]
    clear hc
    go_enter Try.func13, Try.ntmps13
    go_wp2
    go_ret
    exact ⟨rfl, rfl⟩
  · have hc : cutB s n = s := by unfold cutB; rw [if_neg h]
    rw [hc]
    clear hc
    go_enter Try.func13, Try.ntmps13
    go_wp2
    go_ret
    exact ⟨rfl, rfl⟩
end Go.Proofs.Ytjoikidnnhjogaa

/- rtp: packets as values; which may be. -/
namespace Go.Proofs.Ytjoikidnnhjogaa
open Go.RowKit
set_option linter.unusedVariables false
/-- A packet. -/
structure PK where
  mrk : Bool
  kind : Int
  seq : Int
  time : Int
  source : Int
  others : List Int
  hx : Bool
  prof : Int
  ext : ByteArray
  data : ByteArray
  pad : Int
def PK.cells (p : PK) (a : Option Addr) (c : Nat) : Array Value := #[.bool p.mrk, .int .i64 p.kind, .int .u16 p.seq, .int .u32 p.time, .int .u32 p.source, .slice a p.others.length c, .bool p.hx, .int .i64 p.prof, .string p.ext, .string p.data, .int .i64 p.pad]
def PK.hcells (p : PK) (a : Option Addr) (c : Nat) : Array Value := #[.bool p.mrk, .int .i64 p.kind, .int .u16 p.seq, .int .u32 p.time, .int .u32 p.source, .slice a p.others.length c, .bool p.hx, .int .i64 p.prof, .string p.ext]
def PK.rcells (p : PK) (a : Option Addr) (c : Nat) : Array Value := #[.bool p.mrk, .int .i64 p.kind, .int .i64 p.seq, .int .i64 p.time, .int .i64 p.source, .slice a p.others.length c, .bool p.hx, .int .i64 p.prof, .string p.ext, .string p.data, .int .i64 p.pad]
def hdrOk (p : PK) : Prop := 0 ≤ p.kind ∧ p.kind ≤ 127 ∧ p.others.length ≤ 15 ∧ (p.hx = false → p.prof = 0 ∧ p.ext.size = 0) ∧ (p.hx = true → 0 ≤ p.prof ∧ p.prof ≤ 65535 ∧ p.ext.size % 4 = 0 ∧ p.ext.size ≤ 262140)
def mayOk (p : PK) : Prop := hdrOk p ∧ 0 ≤ p.pad ∧ p.pad ≤ 255
instance (p : PK) : Decidable (hdrOk p) := by unfold hdrOk; infer_instance
instance (p : PK) : Decidable (mayOk p) := by unfold mayOk; infer_instance
theorem hdr_f (mrk : Bool) (kind seq time source : Int) (others : List Int) (prof : Int) (ext data : ByteArray) (pad : Int) : hdrOk ⟨mrk, kind, seq, time, source, others, false, prof, ext, data, pad⟩ ↔ (0 ≤ kind ∧ kind ≤ 127 ∧ others.length ≤ 15 ∧ prof = 0 ∧ ext.size = 0) :=
  ⟨fun ⟨h1, h2, h3, h4, h5⟩ => ⟨h1, h2, h3, (h4 rfl).1, (h4 rfl).2⟩, fun ⟨h1, h2, h3, h4, h5⟩ => ⟨h1, h2, h3, fun _ => ⟨h4, h5⟩, fun h => by cases h⟩⟩
theorem hdr_t (mrk : Bool) (kind seq time source : Int) (others : List Int) (prof : Int) (ext data : ByteArray) (pad : Int) : hdrOk ⟨mrk, kind, seq, time, source, others, true, prof, ext, data, pad⟩ ↔ (0 ≤ kind ∧ kind ≤ 127 ∧ others.length ≤ 15 ∧ 0 ≤ prof ∧ prof ≤ 65535 ∧ ext.size % 4 = 0 ∧ ext.size ≤ 262140) :=
  ⟨fun ⟨h1, h2, h3, h4, h5⟩ => ⟨h1, h2, h3, h5 rfl⟩, fun ⟨h1, h2, h3, h4⟩ => ⟨h1, h2, h3, fun h => (by cases h), fun _ => h4⟩⟩
end Go.Proofs.Ytjoikidnnhjogaa

/- Bytes: pieces of a text, the numbers that they are, reading at a place: plain facts. -/
namespace Go.Proofs.Ytjoikidnnhjogaa
open Go.RowKit
set_option linter.unusedVariables false
/-- What is left behind one more number; so many. -/
def rd (st : ByteArray × Int) (n : Int) : ByteArray × Int := (rawS st.1 st.2 n, rawE st.1 st.2 n)
theorem rawS_le (s : ByteArray) (er n : Int) : (rawS s er n).size ≤ s.size := by
  unfold rawS failS
  split
  · split
    · exact Nat.zero_le _
    · exact Nat.le_refl _
  · simp
/-- A byte; a number of some bytes. -/
def fB (s : ByteArray) (i : Nat) : Nat := ((by_ s)[i]?.getD 0).toNat
def gN (s : ByteArray) (a b : Nat) : Nat := getN (by_ (s.extract a b))
theorem getN_snoc' (l : List UInt8) (c : UInt8) : getN (l ++ [c]) = 256 * getN l + c.toNat := getN_snoc l c
theorem be_snoc (n : Int) (k : Nat) : be n (k + 1) = be (n / 256) k ++ [UInt8.ofNat (n % 256).toNat] := by
  unfold be
  rw [beP_succ]
  congr 1
  · unfold beP
    apply List.map_congr_left
    intro j hj
    rw [List.mem_range] at hj
    congr 2
    rw [show k + 1 - 1 - j = (k - 1 - j) + 1 from by omega, show 8 * (k - 1 - j + 1) = 8 + 8 * (k - 1 - j) from by omega, Int.pow_add, ← Int.ediv_ediv_of_nonneg (by decide)]
    rfl
  · rw [show k + 1 - 1 - k = 0 from by omega]
    simp
/-- A number's bytes. -/
theorem be_getN : ∀ (k : Nat) (l : List UInt8), l.length = k → be ((getN l : Nat) : Int) k = l
  | 0, l, h => by rw [List.length_eq_zero_iff.1 h]; rfl
  | k + 1, l, h => by
    have hne : l ≠ [] := by intro e; rw [e] at h; cases h
    obtain ⟨m, c, rfl⟩ : ∃ m c, l = m ++ [c] := ⟨l.dropLast, l.getLast hne, (List.dropLast_concat_getLast hne).symm⟩
    have hm : m.length = k := by rw [List.length_append] at h; simpa using h
    have hc := UInt8.toNat_lt c
    rw [be_snoc, getN_snoc, show (((256 * getN m + c.toNat : Nat) : Int)) / 256 = ((getN m : Nat) : Int) from by omega, be_getN k m hm, show ((((256 * getN m + c.toNat : Nat) : Int)) % 256).toNat = c.toNat from by omega]
    simp
/-- A piece of the bytes. -/
def sl (s : ByteArray) (a b : Nat) : List UInt8 := by_ (s.extract a b)
theorem sl_len (s : ByteArray) (a b : Nat) (h : b ≤ s.size) : (sl s a b).length = b - a := by unfold sl; rw [by_len, ByteArray.size_extract]; omega
theorem sl_cat (s : ByteArray) (a b c : Nat) (h1 : a ≤ b) (h2 : b ≤ c) (h3 : c ≤ s.size) : sl s a b ++ sl s b c = sl s a c := by
  unfold sl
  rw [by_extract _ _ _ (by omega), by_extract _ _ _ (by omega), by_extract _ _ _ (by omega)]
  have e : (by_ s).take b = ((by_ s).take c).take b := by rw [List.take_take, Nat.min_eq_left h2]
  rw [e]
  generalize (by_ s).take c = M
  rw [List.drop_take]
  have e2 : M.drop b = (M.drop a).drop (b - a) := by rw [List.drop_drop]; congr 1; omega
  rw [e2, List.take_append_drop]
theorem sl_all (s : ByteArray) : sl s 0 s.size = by_ s := by unfold sl; rw [by_extract _ _ _ (Nat.le_refl _), take_all, List.drop_zero]
theorem be_sl (s : ByteArray) (a b k : Nat) (h : b ≤ s.size) (hk : b = a + k) : be ((gN s a b : Nat) : Int) k = sl s a b := be_getN k _ (by rw [show by_ (s.extract a b) = sl s a b from rfl, sl_len s a b h]; omega)
theorem bes_snoc (l : List Int) (x : Int) (k : Nat) : bes (l ++ [x]) k = bes l k ++ be x k := by simp [bes]
theorem fB_sl (s : ByteArray) (i : Nat) (h : i < s.size) : sl s i (i + 1) = [UInt8.ofNat (fB s i)] := by
  have h1 : i < (by_ s).length := by rw [by_len]; exact h
  unfold sl fB
  rw [by_extract _ _ _ (by omega), List.drop_take, show i + 1 - i = 1 from by omega, List.getElem?_eq_getElem h1]
  simp
  rw [List.drop_eq_getElem_cons h1]
  rfl
theorem fB_lt (s : ByteArray) (i : Nat) : fB s i < 256 := UInt8.toNat_lt _
theorem be_1 (n : Nat) (h : n < 256) : be ((n : Nat) : Int) 1 = [UInt8.ofNat n] := by
  rw [be_succ, be_zero]
  congr 2
  simp
  omega
theorem gN_lt (s : ByteArray) (a b k : Nat) (h : b ≤ a + k) : gN s a b < 256 ^ k := by
  unfold gN
  have h0 := getN_lt (by_ (s.extract a b))
  have h1 : (by_ (s.extract a b)).length ≤ k := by rw [by_len, ByteArray.size_extract]; omega
  exact Nat.lt_of_lt_of_le h0 (Nat.pow_le_pow_right (by decide) h1)
/-- What is left behind a bytes; nothing, and an error. -/
def stA (s : ByteArray) (a : Nat) : ByteArray × Int := (s.extract a s.size, 0)
def dead : ByteArray × Int := ({ data := #[] }, 2)
theorem ext_size (s : ByteArray) (a : Nat) : (s.extract a s.size).size = s.size - a := by rw [ByteArray.size_extract]; omega
theorem ext_ext (s : ByteArray) (a m k : Nat) (hk : a + k ≤ s.size) : (s.extract a s.size).extract m k = s.extract (a + m) (a + k) := by
  apply by_inj
  rw [by_extract _ _ _ (by rw [ext_size]; omega), by_extract _ _ _ (Nat.le_refl _), by_extract _ _ _ hk, take_all, List.drop_take, List.drop_take, List.drop_drop]
  congr 1
  omega
theorem rawN_nat (m : Nat) : rawN (m : Int) = m := by unfold rawN; omega
theorem rd_st (s : ByteArray) (a m : Nat) (h : a ≤ s.size) : rd (stA s a) (m : Nat) = if s.size < a + m then dead else stA s (a + m) := by
  unfold rd stA rawS rawE failS failE dead
  simp only [rawN_nat, ext_size]
  by_cases h1 : s.size < a + m
  · have q : s.size - a < m := by omega
    rw [if_pos q, if_pos q, if_pos h1]
    simp
  · have q : ¬ s.size - a < m := by omega
    rw [if_neg q, if_neg q, if_neg h1, ext_ext _ _ _ _ (by omega), show a + (s.size - a) = s.size from by omega]
theorem rawT_st (s : ByteArray) (a m : Nat) (h : a + m ≤ s.size) : rawT (s.extract a s.size) (m : Nat) = s.extract a (a + m) := by
  unfold rawT
  rw [rawN_nat, ext_size, if_neg (by omega), ext_ext _ _ _ _ h, Nat.add_zero]
theorem rd_dead (m : Int) : rd dead m = dead := by
  obtain ⟨_, h2, h3⟩ := raw_none 2 m (by decide)
  unfold rd dead
  rw [h2, h3]
end Go.Proofs.Ytjoikidnnhjogaa

/- Pieces, and how they are split: plain facts. -/
namespace Go.Proofs.Ytjoikidnnhjogaa
open Go.RowKit
set_option linter.unusedVariables false
/-- A piece. -/
structure PC where
  count : Int
  kind : Int
  body : ByteArray
def PC.vals (p : PC) : List Value := [.int .i64 p.count, .int .i64 p.kind, .string p.body]
def zeroPC : PC := ⟨0, 0, { data := #[] }⟩
/-- It may be. -/
def pcMay (p : PC) : Prop := 0 ≤ p.count ∧ p.count ≤ 31 ∧ 192 ≤ p.kind ∧ p.kind ≤ 223 ∧ p.body.size % 4 = 0 ∧ p.body.size ≤ 262140
instance pcMay_dec (p : PC) : Decidable (pcMay p) := by unfold pcMay; infer_instance
/-- Its bytes; those of some. -/
def pcL (p : PC) : List UInt8 := be (128 + p.count) 1 ++ be p.kind 1 ++ be ((p.body.size / 4 : Nat) : Int) 2 ++ by_ p.body
def pcsL : List PC → List UInt8
  | [] => []
  | p :: l => pcL p ++ pcsL l
theorem pcsL_append : ∀ l m, pcsL (l ++ m) = pcsL l ++ pcsL m
  | [], m => rfl
  | p :: l, m => by show pcL p ++ pcsL (l ++ m) = _; rw [pcsL_append l m, ← List.append_assoc]; rfl
theorem pcL_len (p : PC) : (pcL p).length = 4 + p.body.size := by
  unfold pcL
  simp only [List.length_append, be_len, by_len]
theorem pcsL_snoc (l : List PC) (p : PC) : pcsL (l ++ [p]) = pcsL l ++ pcL p := by
  rw [pcsL_append]
  show _ ++ (pcL p ++ []) = _
  rw [List.append_nil]
theorem pcsL_take (l : List PC) (k : Nat) (h : k < l.length) : pcsL (l.take (k + 1)) = pcsL (l.take k) ++ pcL (l[k]?.getD zeroPC) := by
  rw [List.take_succ_eq_append_getElem h, pcsL_snoc]
  simp [h]
theorem pcsL_len_le : ∀ (l : List PC) (n : Nat), (∀ p ∈ l, p.body.size ≤ n) → (pcsL l).length ≤ l.length * (4 + n)
  | [], n, _ => by simp [pcsL]
  | p :: l, n, h => by
    have h1 := pcsL_len_le l n (fun q hq => h q (List.mem_cons_of_mem _ hq))
    have h2 := h p List.mem_cons_self
    show (pcL p ++ pcsL l).length ≤ (l.length + 1) * (4 + n)
    rw [List.length_append, pcL_len, Nat.add_mul, Nat.one_mul]
    omega
/-- What is wrong with the first piece (0: nothing); it; what is behind it. -/
def pcE (s : ByteArray) : Int :=
  if s.size < 4 then 2 else if fB s 0 / 32 ≠ 4 then 1 else if fB s 1 < 192 ∨ 223 < fB s 1 then 5 else if s.size < 4 + 4 * gN s 2 4 then 2 else 0
def pcF (s : ByteArray) : PC := ⟨(fB s 0 % 32 : Nat), (fB s 1 : Nat), s.extract 4 (4 + 4 * gN s 2 4)⟩
def pcR (s : ByteArray) : ByteArray := s.extract (4 + 4 * gN s 2 4) s.size
theorem pcE_zero (s : ByteArray) (h : pcE s = 0) : 4 ≤ s.size ∧ fB s 0 / 32 = 4 ∧ 192 ≤ fB s 1 ∧ fB s 1 ≤ 223 ∧ 4 + 4 * gN s 2 4 ≤ s.size := by
  unfold pcE at h
  by_cases h1 : s.size < 4
  · rw [if_pos h1] at h; cases h
  · rw [if_neg h1] at h
    by_cases h2 : fB s 0 / 32 ≠ 4
    · rw [if_pos h2] at h; cases h
    · rw [if_neg h2] at h
      by_cases h3 : fB s 1 < 192 ∨ 223 < fB s 1
      · rw [if_pos h3] at h; cases h
      · rw [if_neg h3] at h
        by_cases h4 : s.size < 4 + 4 * gN s 2 4
        · rw [if_pos h4] at h; cases h
        · omega
theorem pcR_size (s : ByteArray) : (pcR s).size = s.size - (4 + 4 * gN s 2 4) := ext_size s _
/-- All that are there; or what is wrong first. -/
def splitN : Nat → ByteArray → Int × List PC
  | 0, _ => (0, [])
  | n + 1, s => if s.size = 0 then (0, []) else if pcE s ≠ 0 then (pcE s, []) else ((splitN n (pcR s)).1, pcF s :: (splitN n (pcR s)).2)
theorem splitN_zero (n : Nat) (s : ByteArray) (h : s.size = 0) : splitN n s = (0, []) := by
  cases n with
  | zero => rfl
  | succ n => unfold splitN; rw [if_pos h]
theorem splitN_fuel : ∀ (n m : Nat) (s : ByteArray), s.size ≤ n → s.size ≤ m → splitN n s = splitN m s
  | 0, m, s, h, _ => by rw [splitN_zero 0 s (by omega), splitN_zero m s (by omega)]
  | n + 1, 0, s, _, h => by rw [splitN_zero _ s (by omega), splitN_zero _ s (by omega)]
  | n + 1, m + 1, s, h1, h2 => by
    unfold splitN
    by_cases h3 : s.size = 0
    · rw [if_pos h3, if_pos h3]
    · rw [if_neg h3, if_neg h3]
      have hs := pcR_size s
      rw [splitN_fuel n m (pcR s) (by omega) (by omega)]
def split (s : ByteArray) : Int × List PC := splitN s.size s
theorem split_nil (s : ByteArray) (h : s.size = 0) : split s = (0, []) := splitN_zero _ s h
theorem split_bad (s : ByteArray) (h : s.size ≠ 0) (he : pcE s ≠ 0) : split s = (pcE s, []) := by
  unfold split
  obtain ⟨n, hn⟩ : ∃ n, s.size = n + 1 := ⟨s.size - 1, by omega⟩
  rw [hn]
  unfold splitN
  rw [if_neg h, if_pos he]
theorem split_good (s : ByteArray) (h : s.size ≠ 0) (he : pcE s = 0) : split s = ((split (pcR s)).1, pcF s :: (split (pcR s)).2) := by
  have hs := pcR_size s
  unfold split
  obtain ⟨n, hn⟩ : ∃ n, s.size = n + 1 := ⟨s.size - 1, by omega⟩
  rw [splitN_fuel (pcR s).size n (pcR s) (Nat.le_refl _) (by omega), hn]
  conv => lhs; unfold splitN
  rw [if_neg h, if_neg (by simpa using he)]
theorem split_good1 (s : ByteArray) (h : s.size ≠ 0) (he : pcE s = 0) : (split s).1 = (split (pcR s)).1 := by rw [split_good s h he]
theorem split_good2 (s : ByteArray) (h : s.size ≠ 0) (he : pcE s = 0) : (split s).2 = pcF s :: (split (pcR s)).2 := by rw [split_good s h he]
theorem pcF_may (s : ByteArray) (he : pcE s = 0) : pcMay (pcF s) ∧ pcL (pcF s) = sl s 0 (4 + 4 * gN s 2 4) := by
  obtain ⟨h1, h2, h3, h4, h5⟩ := pcE_zero s he
  have hg := gN_lt s 2 4 2 (by omega)
  have hz : (s.extract 4 (4 + 4 * gN s 2 4)).size = 4 * gN s 2 4 := by rw [ByteArray.size_extract]; omega
  refine ⟨⟨by show (0 : Int) ≤ ((fB s 0 % 32 : Nat) : Int); omega, by show ((fB s 0 % 32 : Nat) : Int) ≤ 31; omega, by show (192 : Int) ≤ ((fB s 1 : Nat) : Int); omega, by show ((fB s 1 : Nat) : Int) ≤ 223; omega, by show (s.extract 4 (4 + 4 * gN s 2 4)).size % 4 = 0; omega, by show (s.extract 4 (4 + 4 * gN s 2 4)).size ≤ 262140; omega⟩, ?_⟩
  unfold pcL pcF
  show be (128 + ((fB s 0 % 32 : Nat) : Int)) 1 ++ be ((fB s 1 : Nat) : Int) 1 ++ be (((s.extract 4 (4 + 4 * gN s 2 4)).size / 4 : Nat) : Int) 2 ++ sl s 4 (4 + 4 * gN s 2 4) = _
  rw [hz, show (4 * gN s 2 4) / 4 = gN s 2 4 from by omega, show (128 + ((fB s 0 % 32 : Nat) : Int)) = ((fB s 0 : Nat) : Int) from by omega, be_1 _ (fB_lt s 0), be_1 _ (fB_lt s 1), ← fB_sl s 0 (by omega), ← fB_sl s 1 (by omega), be_sl s 2 4 2 (by omega) rfl]
  rw [sl_cat s 0 (0 + 1) (1 + 1) (by omega) (by omega) (by omega), sl_cat s 0 (1 + 1) 4 (by omega) (by omega) (by omega), sl_cat s 0 4 _ (by omega) (by omega) (by omega)]
theorem split_back_n : ∀ (n : Nat) (s : ByteArray), s.size ≤ n → (split s).1 = 0 → (∀ p ∈ (split s).2, pcMay p) ∧ pcsL (split s).2 = by_ s
  | 0, s, hn, h => by
    rw [split_nil s (by omega)]
    exact ⟨by simp, (List.length_eq_zero_iff.1 (by rw [by_len]; omega)).symm⟩
  | n + 1, s, hn, h => by
    by_cases h0 : s.size = 0
    · rw [split_nil s h0]
      exact ⟨by simp, (List.length_eq_zero_iff.1 (by rw [by_len]; omega)).symm⟩
    · by_cases he : pcE s = 0
      · have hs := pcR_size s
        have hsz : (pcR s).size ≤ n := by clear h; omega
        rw [split_good1 s h0 he] at h
        rw [split_good2 s h0 he]
        obtain ⟨h1, h2⟩ := split_back_n n (pcR s) hsz h
        obtain ⟨f1, f2⟩ := pcF_may s he
        have h5 := (pcE_zero s he).2.2.2.2
        refine ⟨?_, ?_⟩
        · intro p hp
          rcases List.mem_cons.1 hp with rfl | hp
          · exact f1
          · exact h1 p hp
        · show pcL (pcF s) ++ pcsL (split (pcR s)).2 = _
          clear h h1
          clear hs hsz
          rw [h2, f2, show by_ (pcR s) = sl s (4 + 4 * gN s 2 4) s.size from rfl, sl_cat s 0 _ _ (Nat.zero_le _) h5 (Nat.le_refl _), sl_all]
      · rw [split_bad s h0 he] at h
        exact absurd h he
theorem split_back (s : ByteArray) (h : (split s).1 = 0) : (∀ p ∈ (split s).2, pcMay p) ∧ pcsL (split s).2 = by_ s := split_back_n s.size s (Nat.le_refl _) h
theorem split_len_n : ∀ (n : Nat) (s : ByteArray), s.size ≤ n → (split s).2.length ≤ s.size ∧ ∀ p ∈ (split s).2, p.body.size ≤ s.size
  | 0, s, hn => by rw [split_nil s (by omega)]; exact ⟨Nat.zero_le _, by simp⟩
  | n + 1, s, hn => by
    by_cases h0 : s.size = 0
    · rw [split_nil s h0]; exact ⟨Nat.zero_le _, by simp⟩
    · by_cases he : pcE s = 0
      · rw [split_good2 s h0 he]
        have hs := pcR_size s
        have h := split_len_n n (pcR s) (by omega)
        refine ⟨by rw [List.length_cons]; have := h.1; omega, ?_⟩
        intro p hp
        rcases List.mem_cons.1 hp with rfl | hp
        · show (s.extract 4 (4 + 4 * gN s 2 4)).size ≤ _
          rw [ByteArray.size_extract]; omega
        · have := h.2 p hp; omega
      · rw [split_bad s h0 he]; exact ⟨Nat.zero_le _, by simp⟩
theorem split_len (s : ByteArray) : (split s).2.length ≤ s.size ∧ ∀ p ∈ (split s).2, p.body.size ≤ s.size := split_len_n s.size s (Nat.le_refl _)
theorem fB_ofL (L : List UInt8) (i : Nat) : fB (ofL L) i = (L[i]?.getD 0).toNat := by unfold fB; rw [by_ofL]
theorem gN_ofL (L : List UInt8) (a b : Nat) (h : b ≤ L.length) : gN (ofL L) a b = getN ((L.take b).drop a) := by unfold gN; rw [ofL_extract _ _ _ h, by_ofL]
/-- The bytes of a piece that may be, and more: the first piece is it. -/
theorem pc_ahead (p : PC) (R : List UInt8) (hp : pcMay p) : pcE (ofL (pcL p ++ R)) = 0 ∧ pcF (ofL (pcL p ++ R)) = p ∧ pcR (ofL (pcL p ++ R)) = ofL R := by
  obtain ⟨h1, h2, h3, h4, h5, h6⟩ := hp
  have hlen : (pcL p ++ R).length = 4 + p.body.size + R.length := by rw [List.length_append, pcL_len]
  obtain ⟨c, hc⟩ : ∃ c : Nat, 128 + p.count = (c : Int) := ⟨(128 + p.count).toNat, by omega⟩
  obtain ⟨k, hk⟩ : ∃ k : Nat, p.kind = (k : Int) := ⟨p.kind.toNat, by omega⟩
  have e0 : pcL p = [UInt8.ofNat c] ++ [UInt8.ofNat k] ++ be ((p.body.size / 4 : Nat) : Int) 2 ++ by_ p.body := by unfold pcL; rw [hc, hk, be_1 _ (by omega), be_1 _ (by omega)]
  have b2 := getN_be2 ((p.body.size / 4 : Nat) : Int)
  have l2 := be_len ((p.body.size / 4 : Nat) : Int) 2
  have hf0 : fB (ofL (pcL p ++ R)) 0 = c := by
    rw [fB_ofL, e0]
    show (UInt8.ofNat c).toNat = c
    rw [UInt8.toNat_ofNat', Nat.mod_eq_of_lt (by omega)]
  have hf1 : fB (ofL (pcL p ++ R)) 1 = k := by
    rw [fB_ofL, e0]
    show (UInt8.ofNat k).toNat = k
    rw [UInt8.toNat_ofNat', Nat.mod_eq_of_lt (by omega)]
  have hg : gN (ofL (pcL p ++ R)) 2 4 = p.body.size / 4 := by
    rw [gN_ofL _ _ _ (by omega), e0]
    generalize be ((p.body.size / 4 : Nat) : Int) 2 = X at b2 l2
    match X, l2 with
    | [x, y], _ =>
      show getN [x, y] = _
      omega
  have hsz : (ofL (pcL p ++ R)).size = 4 + p.body.size + R.length := by rw [ofL_size, hlen]
  have e4 : 4 * (p.body.size / 4) = p.body.size := by omega
  refine ⟨?_, ?_, ?_⟩
  · unfold pcE
    rw [hf0, hf1, hg, hsz, if_neg (by omega), if_neg (by omega), if_neg (by omega), if_neg (by omega)]
  · unfold pcF
    rw [hf0, hf1, hg, e4, ofL_extract _ _ _ (by omega)]
    have e5 : List.drop 4 (List.take (4 + p.body.size) (pcL p ++ R)) = by_ p.body := by
      rw [List.take_append_of_le_length (by rw [pcL_len]; exact Nat.le_refl _), List.take_of_length_le (by rw [pcL_len]; exact Nat.le_refl _)]
      unfold pcL
      rw [List.drop_left' (by simp [be_len])]
    rw [e5, ofL_by]
    obtain ⟨x, y, z⟩ := p
    simp only at hc hk
    rw [show ((c % 32 : Nat) : Int) = x from by simp only at h1 h2; omega, ← hk]
  · unfold pcR
    rw [hg, e4, hsz, ofL_extract _ _ _ (by omega), List.take_of_length_le (by omega), List.drop_left' (pcL_len p)]
theorem split_pack : ∀ l : List PC, (∀ p ∈ l, pcMay p) → split (ofL (pcsL l)) = (0, l)
  | [], _ => split_nil _ (by rw [ofL_size]; rfl)
  | p :: l, h => by
    obtain ⟨h1, h2, h3⟩ := pc_ahead p (pcsL l) (h p List.mem_cons_self)
    have hz : (ofL (pcL p ++ pcsL l)).size ≠ 0 := by rw [ofL_size, List.length_append, pcL_len]; omega
    show split (ofL (pcL p ++ pcsL l)) = _
    rw [split_good _ hz h1, h2, h3, split_pack l (fun q hq => h q (List.mem_cons_of_mem _ hq))]
end Go.Proofs.Ytjoikidnnhjogaa

/- Slices of structs of one-cell fields that came in. -/
namespace Go.Proofs.Ytjoikidnnhjogaa
open Go.RowKit Go.ChangeShapes Go.WideShapes Go.Deep
set_option linter.unusedVariables false
section
variable {H : Type} {enc : TypeId × Value → H} {P : Program} {w : World} {base : Nat} {spare : Nat → Bool} {held : Bool}
/-- A slice of structs: each cell of each element. -/
theorem open_rec {t e : TypeId} {fs : Array Field} {fuel : Nat} {cs : List Value} {x : DataW H × List MemPlace} (ht : P.underlying t = some (.slice e)) (he : P.underlying e = some (.struct fs))
    (hone : oneCellFields P fs = true) (hC : P.cellsOf e = fs.size) (h : DataW.trod enc P w base spare held fuel t cs = some x) :
    (cs = [.slice none 0 0]) ∨
    ∃ (a : Addr) (len cap : Nat), cs = [.slice (some a) len cap] ∧ len ≤ cap ∧ cap ≤ maxLen ∧
      ∀ i, i < len → ∀ (j : Nat) (f : Field), fs[j]? = some f → ∃ (n : Nat) (v : Value) (y : DataW H × List MemPlace), w.cell? (a.add (i * fs.size + j)) = some v ∧ DataW.trod enc P w base spare held n f.type [v] = some y := by
  rcases open_slice ht h with ⟨h0, _⟩ | ⟨a, len, cap, m, n, D, Pl, hcs, hb, hl, hm, hmm, hx, hi⟩
  · exact .inl h0
  · refine .inr ⟨a, len, cap, hcs, hl, hm, fun i hil => ?_⟩
    have him : i < m := by rw [hmm]; split <;> omega
    obtain ⟨cs', hc, ht'⟩ := hi i him
    rw [hC] at hc
    obtain ⟨ys, n', hn', hy, hlen, hyl, hf⟩ := DataW.trod_struct he ht'
    obtain ⟨_, hcl, hat⟩ := World.cells?_some hc
    intro j f hj
    obtain ⟨ho, hk⟩ := hone_of hone j f hj
    have hjl : j < fs.size := (Array.getElem?_eq_some_iff.1 hj).1
    have hcell := hat j hjl
    have hv : cs'[j]? = some (cs'[j]'(by omega)) := List.getElem?_eq_getElem (by omega)
    have h1 := hf j f hj
    rw [ho, hk] at h1
    have hone' : (cs'.drop j).take 1 = [cs'[j]'(by omega)] := by
      rw [List.drop_eq_getElem_cons (by omega)]
      rfl
    rw [hone'] at h1
    have hys : ys[j]? = some (ys[j]'(by omega)) := List.getElem?_eq_getElem (by omega)
    refine ⟨_, _, _, ?_, h1.trans hys⟩
    rw [← Go.Deep.add_add, hcell, hv]
end
def isNum (k : IntKind) (v : Value) : Prop := ∃ n, v = .int k n ∧ (Lit.int k n).wf = true
def isText (v : Value) : Prop := ∃ s : ByteArray, v = .string s ∧ s.size ≤ maxLen
def isBool (v : Value) : Prop := ∃ b, v = .bool b
/-- A slice of structs that came in: its elements' cells are as said. -/
def Recs (ps : List (Value → Prop)) (w : World) (a : Option Addr) (n : Nat) : Prop :=
  n = 0 ∨ ∃ b off, a = some ⟨b, off, none⟩ ∧ b < w.heap.size ∧ ∀ i, i < n → ∀ j p, ps[j]? = some p → ∃ v, w.cell? ⟨b, off + (i * ps.length + j), none⟩ = some v ∧ p v
theorem Recs.later {ps : List (Value → Prop)} {w w' : World} {a : Option Addr} {n : Nat} (h : Recs ps w a n) (hb : Below w.heap.size w w') : Recs ps w' a n := by
  rcases h with h | ⟨b, off, ha, hlt, hc⟩
  · exact .inl h
  · refine .inr ⟨b, off, ha, Nat.lt_of_lt_of_le hlt hb.size, fun i hi j p hp => ?_⟩
    obtain ⟨v, hv, hpv⟩ := hc i hi j p hp
    exact ⟨v, cell_later hb hv, hpv⟩
theorem recs_open {H : Type} {enc : TypeId × Value → H} {P : Program} {w : World} {base : Nat} {spare : Nat → Bool} {held : Bool} {t e : TypeId} {fs : Array Field} {fuel len cap : Nat} {pp : Option Addr} {x : DataW H × List MemPlace}
    (ps : List (Value → Prop)) (ht : P.underlying t = some (.slice e)) (he : P.underlying e = some (.struct fs)) (hone : oneCellFields P fs = true) (hC : P.cellsOf e = fs.size) (hps : ps.length = fs.size) (h0 : 0 < fs.size)
    (hF : ∀ (j : Nat) (f : Field) (p : Value → Prop), fs[j]? = some f → ps[j]? = some p → ∀ n v y, DataW.trod enc P w base spare held n f.type [v] = some y → p v)
    (h : DataW.trod enc P w base spare held fuel t [.slice pp len cap] = some x) : Recs ps w pp len ∧ len ≤ 9223372036854775807 := by
  rcases open_rec ht he hone hC h with h1 | ⟨a, l, c, hcs, hl, hm, hc⟩
  · simp at h1
    exact ⟨.inl h1.2.1, by omega⟩
  · simp only [List.cons.injEq, Value.slice.injEq, and_true] at hcs
    obtain ⟨rfl, rfl, rfl⟩ := hcs
    unfold maxLen at hm
    refine ⟨?_, by omega⟩
    by_cases hz : len = 0
    · exact .inl hz
    · obtain ⟨f0, hf0⟩ : ∃ f, fs[0]? = some f := ⟨_, Array.getElem?_eq_getElem h0⟩
      obtain ⟨n, v, y, hv, _⟩ := hc 0 (by omega) 0 f0 hf0
      obtain ⟨b, off, spot⟩ := a
      have hspot : spot = none := by simpa [Addr.add] using World.cell?_spot hv
      subst hspot
      refine .inr ⟨b, off, rfl, ?_, fun i hi j p hp => ?_⟩
      · have := World.block_lt_of_cell? w _ hv
        rw [Go.WideShapes.add_plain] at this
        exact this
      · have hj : j < fs.size := by rw [← hps]; exact (List.getElem?_eq_some_iff.1 hp).1
        obtain ⟨f, hf⟩ : ∃ f, fs[j]? = some f := ⟨_, Array.getElem?_eq_getElem hj⟩
        obtain ⟨n, v, y, hv, hy⟩ := hc i hi j f hf
        rw [Go.WideShapes.add_plain] at hv
        rw [hps]
        exact ⟨v, hv, hF j f p hf hp n v y hy⟩
end Go.Proofs.Ytjoikidnnhjogaa

/- Pieces: which may be; slices of pieces. -/
namespace Go.Proofs.Ytjoikidnnhjogaa
open Go.RowKit
set_option linter.unusedVariables false
set_option maxHeartbeats 800000 in
theorem pcCheck_any (p : PC) (w : World) (hs : p.body.size ≤ 9223372036854775807) (b : Int) (hb : (b = 0 ∧ pcMay p) ∨ (b = 6 ∧ ¬ pcMay p)) :
    Calls Try.prog 29 #[.agg #[.int .i64 p.count, .int .i64 p.kind, .string p.body]] w fun e w' => e = .returned (.int .i64 b) ∧ Below w.heap.size w w' := by
  obtain ⟨count, kind, body⟩ := p
  unfold pcMay at hb
  simp only at *
  by_cases k0 : count < 0
  · obtain rfl : b = 6 := by
      rcases hb with ⟨_, h⟩ | ⟨h, _⟩
      · obtain ⟨x1, x2, x3, x4, x5, x6⟩ := h; omega
      · exact h
    clear hb
    go_enter Try.func29, Try.ntmps29
    go_wp2
    go_ret
    exact ⟨rfl, (Below.refl _ _).alloc (Nat.le_refl _) _⟩
  · skip
    by_cases k1 : 31 < count
    · obtain rfl : b = 6 := by
        rcases hb with ⟨_, h⟩ | ⟨h, _⟩
        · obtain ⟨x1, x2, x3, x4, x5, x6⟩ := h; omega
        · exact h
      clear hb
      go_enter Try.func29, Try.ntmps29
      go_wp2
      go_ret
      exact ⟨rfl, (Below.refl _ _).alloc (Nat.le_refl _) _⟩
    · skip
      by_cases k2 : kind < 192
      · obtain rfl : b = 6 := by
          rcases hb with ⟨_, h⟩ | ⟨h, _⟩
          · obtain ⟨x1, x2, x3, x4, x5, x6⟩ := h; omega
          · exact h
        clear hb
        go_enter Try.func29, Try.ntmps29
        go_wp2
        go_ret
        exact ⟨rfl, (Below.refl _ _).alloc (Nat.le_refl _) _⟩
      · skip
        by_cases k3 : 223 < kind
        · obtain rfl : b = 6 := by
            rcases hb with ⟨_, h⟩ | ⟨h, _⟩
            · obtain ⟨x1, x2, x3, x4, x5, x6⟩ := h; omega
            · exact h
          clear hb
          go_enter Try.func29, Try.ntmps29
          go_wp2
          go_ret
          exact ⟨rfl, (Below.refl _ _).alloc (Nat.le_refl _) _⟩
        · skip
          by_cases k5 : body.size % 4 = 0
          · by_cases k6 : 262140 < body.size
            · have h5 : (((body.size : Int) % 4) != 0) = false := by simp; omega
              have h6 : (262140 : Int) < (body.size : Int) := by omega
              obtain rfl : b = 6 := by
                rcases hb with ⟨_, h⟩ | ⟨h, _⟩
                · obtain ⟨x1, x2, x3, x4, x5, x6⟩ := h; omega
                · exact h
              clear k5 k6
              clear hb
              go_enter Try.func29, Try.ntmps29
              go_wp2
              go_ret
              exact ⟨rfl, (Below.refl _ _).alloc (Nat.le_refl _) _⟩
            · have h5 : (((body.size : Int) % 4) != 0) = false := by simp; omega
              have h6 : (body.size : Int) ≤ (262140 : Int) := by omega
              obtain rfl : b = 0 := by
                rcases hb with ⟨h, _⟩ | ⟨_, h⟩
                · exact h
                · exact absurd ⟨by omega, by omega, by omega, by omega, by omega, by omega⟩ h
              clear k5 k6
              clear hb
              go_enter Try.func29, Try.ntmps29
              go_wp2
              go_ret
              exact ⟨rfl, (Below.refl _ _).alloc (Nat.le_refl _) _⟩
          · have h5 : (((body.size : Int) % 4) != 0) = true := by simp; omega
            obtain rfl : b = 6 := by
              rcases hb with ⟨_, h⟩ | ⟨h, _⟩
              · obtain ⟨x1, x2, x3, x4, x5, x6⟩ := h; omega
              · exact h
            clear k5
            clear hb
            go_enter Try.func29, Try.ntmps29
            go_wp2
            go_ret
            exact ⟨rfl, (Below.refl _ _).alloc (Nat.le_refl _) _⟩
/-- A slice of pieces. -/
def ReadsP (w : World) (a : Option Addr) (l : List PC) : Prop :=
  l = [] ∨ ∃ b off, a = some ⟨b, off, none⟩ ∧ ∀ i, i < l.length → ∀ j v, (l[i]?.getD zeroPC).vals[j]? = some v → w.cell? ⟨b, off + (i * 3 + j), none⟩ = some v
theorem ReadsP.later {w w' : World} {a : Option Addr} {l : List PC} (h : ReadsP w a l) (hb : Below w.heap.size w w') : ReadsP w' a l := by
  rcases h with h | ⟨b, off, ha, hc⟩
  · exact Or.inl h
  · exact Or.inr ⟨b, off, ha, fun i hi j v hv => cell_later hb (hc i hi j v hv)⟩
theorem ReadsP.at {w : World} {a : Option Addr} {l : List PC} (h : ReadsP w a l) {i : Nat} (hi : i < l.length) :
    ∃ b off, a = some ⟨b, off, none⟩ ∧ w.cell? ⟨b, off + i * 3, none⟩ = some (.int .i64 (l[i]?.getD zeroPC).count) ∧ w.cell? ⟨b, off + i * 3 + 1, none⟩ = some (.int .i64 (l[i]?.getD zeroPC).kind) ∧ w.cell? ⟨b, off + i * 3 + 2, none⟩ = some (.string (l[i]?.getD zeroPC).body) := by
  rcases h with h | ⟨b, off, ha, hc⟩
  · simp [h] at hi
  · exact ⟨b, off, ha, hc i hi 0 _ rfl, hc i hi 1 _ rfl, hc i hi 2 _ rfl⟩
/-- Cells of pieces, one behind the other. -/
def pcsV (l : List PC) : List Value := (l.map PC.vals).flatten
theorem pcsV_len (l : List PC) : (pcsV l).length = l.length * 3 := by
  unfold pcsV
  induction l with
  | nil => rfl
  | cons p l ih => simp only [List.map_cons, List.flatten_cons, List.length_append, ih, List.length_cons]; rw [Nat.add_mul, Nat.one_mul, Nat.add_comm]; rfl
theorem pcsV_snoc (l : List PC) (p : PC) : pcsV (l ++ [p]) = pcsV l ++ p.vals := by simp [pcsV]
theorem pcsV_at : ∀ (l : List PC) (i j : Nat) (v : Value), i < l.length → (l[i]?.getD zeroPC).vals[j]? = some v → (pcsV l)[i * 3 + j]? = some v
  | [], i, j, v, h, _ => by simp at h
  | p :: l, 0, j, v, _, hv => by
    have hj : j < 3 := (List.getElem?_eq_some_iff.1 hv).1
    show (p.vals ++ pcsV l)[0 * 3 + j]? = _
    rw [show 0 * 3 + j = j from by omega, List.getElem?_append_left (by show j < 3; exact hj)]
    simpa using hv
  | p :: l, i + 1, j, v, h, hv => by
    show (p.vals ++ pcsV l)[(i + 1) * 3 + j]? = _
    rw [List.getElem?_append_right (by show 3 ≤ (i + 1) * 3 + j; omega), show (i + 1) * 3 + j - p.vals.length = i * 3 + j from by show (i + 1) * 3 + j - 3 = _; omega]
    exact pcsV_at l i j v (by simpa using h) (by simpa using hv)
/-- An owned row of pieces, as a slice of pieces. -/
theorem own_readsP {w : World} {B : Nat} {e : TypeId} {v : Value} {n : Nat} {l : List PC} (h : w.ownsRow B e 3 v n (pcsV l)) :
    ∃ a c, v = .slice a n c ∧ n = l.length ∧ n ≤ c ∧ c ≤ 9223372036854775807 ∧ ReadsP w a l := by
  have hn : n = l.length := by have := h.1; rw [pcsV_len] at this; omega
  rcases h.2 with ⟨hv, hn0⟩ | ⟨g, cap, cur, hv, _, _, hl, hm, _, _⟩
  · refine ⟨none, 0, by rw [hv, hn0], hn, by omega, by omega, Or.inl ?_⟩
    exact List.length_eq_zero_iff.1 (by omega)
  · refine ⟨some ⟨g, 0, none⟩, cap, hv, hn, hl, by unfold maxLen at hm; omega, Or.inr ⟨g, 0, rfl, fun i hi j v' hv' => ?_⟩⟩
    subst hv
    have hj : j < 3 := (List.getElem?_eq_some_iff.1 hv').1
    rw [Nat.zero_add, h.cellAt (i * 3 + j) (by omega), pcsV_at l i j v' hi hv']
theorem infoPc : (Try.prog.info? 33).map (fun i => (i.zero, i.size, i.bytes)) = some (some (.agg #[.int .i64 0, .int .i64 0, .string { data := #[] }]), 3, 32) := by kernel_rfl
theorem infoPr : (Try.prog.info? 23).map (fun i => (i.zero, i.size, i.bytes)) = some (some (.agg #[.int .i64 0, .int .i64 0, .string { data := #[] }]), 3, 32) := by kernel_rfl
end Go.Proofs.Ytjoikidnnhjogaa
