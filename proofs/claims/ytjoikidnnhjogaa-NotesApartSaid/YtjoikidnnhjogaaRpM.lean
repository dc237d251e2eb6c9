/- Reports: plain facts. -/
import Derived.Test.YtjoikidnnhjogaaPcN
namespace Go.Proofs.Ytjoikidnnhjogaa
open Go.RowKit
set_option linter.unusedVariables false
/-- A block; a report. -/
structure BK where
  src : Int
  frac : Int
  lost : Int
  high : Int
  jit : Int
  last : Int
  delay : Int
structure RP where
  src : Int
  isS : Bool
  clock : Int
  time : Int
  packets : Int
  bytes : Int
  blocks : List BK
def zeroBK : BK := ⟨0, 0, 0, 0, 0, 0, 0⟩
def zeroRP : RP := ⟨0, false, 0, 0, 0, 0, []⟩
def BK.vals (b : BK) : List Value := [.int .u32 b.src, .int .i64 b.frac, .int .i64 b.lost, .int .u32 b.high, .int .u32 b.jit, .int .u32 b.last, .int .u32 b.delay]
def BK.rvals (b : BK) : List Value := [.int .i64 b.src, .int .i64 b.frac, .int .i64 b.lost, .int .i64 b.high, .int .i64 b.jit, .int .i64 b.last, .int .i64 b.delay]
def RP.cells (r : RP) (a : Option Addr) (c : Nat) : Array Value := #[.int .u32 r.src, .bool r.isS, .int .i64 r.clock, .int .u32 r.time, .int .u32 r.packets, .int .u32 r.bytes, .slice a r.blocks.length c]
def RP.rcells (r : RP) (a : Option Addr) (c : Nat) : Array Value := #[.int .i64 r.src, .bool r.isS, .int .i64 r.clock, .int .i64 r.time, .int .i64 r.packets, .int .i64 r.bytes, .slice a r.blocks.length c]
def u32ok (x : Int) : Prop := 0 ≤ x ∧ x ≤ 4294967295
def BK.ok (b : BK) : Prop := u32ok b.src ∧ u32ok b.high ∧ u32ok b.jit ∧ u32ok b.last ∧ u32ok b.delay
def RP.ok (r : RP) : Prop := u32ok r.src ∧ u32ok r.time ∧ u32ok r.packets ∧ u32ok r.bytes ∧ ∀ b ∈ r.blocks, b.ok
def bkMay (b : BK) : Prop := 0 ≤ b.frac ∧ b.frac ≤ 255 ∧ -8388608 ≤ b.lost ∧ b.lost ≤ 8388607
def sentMay (isS : Bool) (clock time packets bytes : Int) : Prop := (isS = true → 0 ≤ clock ∧ clock ≤ 1099511627776) ∧ (isS = false → clock = 0 ∧ time = 0 ∧ packets = 0 ∧ bytes = 0)
def rpMay (r : RP) : Prop := sentMay r.isS r.clock r.time r.packets r.bytes ∧ r.blocks.length ≤ 31 ∧ ∀ b ∈ r.blocks, bkMay b
instance bkMay_dec (b : BK) : Decidable (bkMay b) := by unfold bkMay; infer_instance
instance sentMay_dec (i : Bool) (c t p b : Int) : Decidable (sentMay i c t p b) := by unfold sentMay; infer_instance
instance rpMay_dec (r : RP) : Decidable (rpMay r) := by unfold rpMay; infer_instance
def bkL (b : BK) : List UInt8 := be b.src 4 ++ be b.frac 1 ++ be b.lost 3 ++ be b.high 4 ++ be b.jit 4 ++ be b.last 4 ++ be b.delay 4
theorem bkL_len (b : BK) : (bkL b).length = 24 := by unfold bkL; simp only [List.length_append, be_len]
def bksL : List BK → List UInt8
  | [] => []
  | b :: l => bkL b ++ bksL l
theorem bksL_append : ∀ l m, bksL (l ++ m) = bksL l ++ bksL m
  | [], m => rfl
  | p :: l, m => by show bkL p ++ bksL (l ++ m) = _; rw [bksL_append l m, ← List.append_assoc]; rfl
theorem bksL_len : ∀ l, (bksL l).length = 24 * l.length
  | [] => rfl
  | p :: l => by
    show (bkL p ++ bksL l).length = 24 * (l.length + 1)
    rw [List.length_append, bkL_len, bksL_len l]; omega
theorem bksL_take (l : List BK) (k : Nat) (h : k < l.length) : bksL (l.take (k + 1)) = bksL (l.take k) ++ bkL (l[k]?.getD zeroBK) := by
  rw [List.take_succ_eq_append_getElem h, bksL_append]
  congr 1
  show bkL _ ++ [] = _
  rw [List.append_nil]
  simp [h]
theorem bk_mem (l : List BK) (k : Nat) (h : k < l.length) : l[k]?.getD zeroBK ∈ l := by
  rw [List.getElem?_eq_getElem h]
  exact List.getElem_mem h
def sentL (r : RP) : List UInt8 := if r.isS then be r.clock 8 ++ be r.time 4 ++ be r.packets 4 ++ be r.bytes 4 else []
def rpL (r : RP) : List UInt8 := be r.src 4 ++ sentL r ++ bksL r.blocks
/-- A report as a piece. -/
def rpP (r : RP) : PC := if rpMay r then ⟨(r.blocks.length : Nat), if r.isS then 200 else 201, ofL (rpL r)⟩ else zeroPC
/-- A slice of blocks. -/
def ReadsB (vals : BK → List Value) (w : World) (a : Option Addr) (l : List BK) : Prop :=
  l = [] ∨ ∃ b off, a = some ⟨b, off, none⟩ ∧ ∀ i, i < l.length → ∀ j v, (vals (l[i]?.getD zeroBK))[j]? = some v → w.cell? ⟨b, off + (i * 7 + j), none⟩ = some v
theorem ReadsB.later {vals : BK → List Value} {w w' : World} {a : Option Addr} {l : List BK} (h : ReadsB vals w a l) (hb : Below w.heap.size w w') : ReadsB vals w' a l := by
  rcases h with h | ⟨b, off, ha, hc⟩
  · exact Or.inl h
  · exact Or.inr ⟨b, off, ha, fun i hi j v hv => cell_later hb (hc i hi j v hv)⟩
theorem ReadsB.at {w : World} {a : Option Addr} {l : List BK} (h : ReadsB BK.vals w a l) {i : Nat} (hi : i < l.length) :
    ∃ b off, a = some ⟨b, off, none⟩ ∧ w.cell? ⟨b, off + i * 7, none⟩ = some (.int .u32 (l[i]?.getD zeroBK).src) ∧ w.cell? ⟨b, off + i * 7 + 1, none⟩ = some (.int .i64 (l[i]?.getD zeroBK).frac) ∧ w.cell? ⟨b, off + i * 7 + 2, none⟩ = some (.int .i64 (l[i]?.getD zeroBK).lost) ∧ w.cell? ⟨b, off + i * 7 + 3, none⟩ = some (.int .u32 (l[i]?.getD zeroBK).high) ∧ w.cell? ⟨b, off + i * 7 + 4, none⟩ = some (.int .u32 (l[i]?.getD zeroBK).jit) ∧ w.cell? ⟨b, off + i * 7 + 5, none⟩ = some (.int .u32 (l[i]?.getD zeroBK).last) ∧ w.cell? ⟨b, off + i * 7 + 6, none⟩ = some (.int .u32 (l[i]?.getD zeroBK).delay) := by
  rcases h with h | ⟨b, off, ha, hc⟩
  · simp [h] at hi
  · exact ⟨b, off, ha, hc i hi 0 _ rfl, hc i hi 1 _ rfl, hc i hi 2 _ rfl, hc i hi 3 _ rfl, hc i hi 4 _ rfl, hc i hi 5 _ rfl, hc i hi 6 _ rfl⟩
end Go.Proofs.Ytjoikidnnhjogaa

