/- Subflow: plain facts on what is said of paths. -/
import Derived.Test.YtjoikidnnhjogaaMSfM
namespace Go.Proofs.Ytjoikidnnhjogaa
open Go.RowKit
set_option linter.unusedVariables false
structure LI where
  path : Int
  frac : Int
  lost : Int
  high : Int
  jit : Int
  bytes : Int
  last : Int
  delay : Int
def zeroLI : LI := ⟨0, 0, 0, 0, 0, 0, 0, 0⟩
structure LS where
  src : Int
  all : List LI
def zeroLS : LS := ⟨0, []⟩
def LI.vals (a : LI) : List Value := [.int .i64 a.path, .int .i64 a.frac, .int .i64 a.lost, .int .u32 a.high, .int .u32 a.jit, .int .u32 a.bytes, .int .u32 a.last, .int .u32 a.delay]
def LI.rvals (a : LI) : List Value := [.int .i64 a.path, .int .i64 a.frac, .int .i64 a.lost, .int .i64 a.high, .int .i64 a.jit, .int .i64 a.bytes, .int .i64 a.last, .int .i64 a.delay]
def liOk (a : LI) : Prop := 0 ≤ a.frac ∧ a.frac ≤ 255 ∧ -8388608 ≤ a.lost ∧ a.lost ≤ 8388607
instance liOk_dec (a : LI) : Decidable (liOk a) := by unfold liOk; infer_instance
def liMay (last : Int) (a : LI) : Prop := last < a.path ∧ a.path ≤ 15 ∧ liOk a
instance liMay_dec (n : Int) (a : LI) : Decidable (liMay n a) := by unfold liMay; infer_instance
def prevL (l : List LI) : Nat → Int
  | 0 => 0
  | k + 1 => (l[k]?.getD zeroLI).path
def lisMay (l : List LI) : Prop := ∀ k, k < l.length → liMay (prevL l k) (l[k]?.getD zeroLI)
instance lisMay_dec (l : List LI) : Decidable (lisMay l) := by unfold lisMay; infer_instance
def liL (a : LI) : List UInt8 := be a.path 1 ++ be a.frac 1 ++ be 0 2 ++ be a.lost 3 ++ be 0 1 ++ be a.high 4 ++ be a.jit 4 ++ be a.bytes 4 ++ be a.last 4 ++ be a.delay 4
theorem liL_len (a : LI) : (liL a).length = 28 := by unfold liL; simp only [List.length_append, be_len]
def lisL : List LI → List UInt8
  | [] => []
  | b :: l => liL b ++ lisL l
theorem lisL_append : ∀ l m, lisL (l ++ m) = lisL l ++ lisL m
  | [], m => rfl
  | p :: l, m => by show liL p ++ lisL (l ++ m) = _; rw [lisL_append l m, ← List.append_assoc]; rfl
theorem lisL_len : ∀ l, (lisL l).length = 28 * l.length
  | [] => rfl
  | p :: l => by
    show (liL p ++ lisL l).length = 28 * (l.length + 1)
    rw [List.length_append, liL_len, lisL_len l]; omega
theorem lisL_take (l : List LI) (k : Nat) (h : k < l.length) : lisL (l.take (k + 1)) = lisL (l.take k) ++ liL (l[k]?.getD zeroLI) := by
  rw [List.take_succ_eq_append_getElem h, lisL_append]
  congr 1
  show liL _ ++ [] = _
  rw [List.append_nil]
  simp [h]
/-- Rising lines as a piece, though there be none; lines as a piece. -/
def lqP (a : LS) : PC := if lisMay a.all then ⟨1, 211, ofL (be a.src 4 ++ lisL a.all)⟩ else zeroPC
def lsP (a : LS) : PC := if a.all = [] then zeroPC else lqP a
theorem lsP_kind (a : LS) : (lsP a).kind = 211 ∧ (lsP a).count = 1 ∨ lsP a = zeroPC := by
  unfold lsP lqP
  split
  · exact .inr rfl
  · split
    · exact .inl ⟨rfl, rfl⟩
    · exact .inr rfl
/-- A slice of lines. -/
def ReadsL (vals : LI → List Value) (w : World) (a : Option Addr) (l : List LI) : Prop :=
  l = [] ∨ ∃ b off, a = some ⟨b, off, none⟩ ∧ ∀ i, i < l.length → ∀ j v, (vals (l[i]?.getD zeroLI))[j]? = some v → w.cell? ⟨b, off + (i * 8 + j), none⟩ = some v
theorem ReadsL.later {vals : LI → List Value} {w w' : World} {a : Option Addr} {l : List LI} (h : ReadsL vals w a l) (hb : Below w.heap.size w w') : ReadsL vals w' a l := by
  rcases h with h | ⟨b, off, ha, hc⟩
  · exact Or.inl h
  · exact Or.inr ⟨b, off, ha, fun i hi j v hv => cell_later hb (hc i hi j v hv)⟩
theorem ReadsL.at {w : World} {a : Option Addr} {l : List LI} (h : ReadsL LI.vals w a l) {i : Nat} (hi : i < l.length) :
    ∃ b off, a = some ⟨b, off, none⟩ ∧ w.cell? ⟨b, off + i * 8, none⟩ = some (.int .i64 (l[i]?.getD zeroLI).path) ∧ w.cell? ⟨b, off + i * 8 + 1, none⟩ = some (.int .i64 (l[i]?.getD zeroLI).frac) ∧ w.cell? ⟨b, off + i * 8 + 2, none⟩ = some (.int .i64 (l[i]?.getD zeroLI).lost) ∧ w.cell? ⟨b, off + i * 8 + 3, none⟩ = some (.int .u32 (l[i]?.getD zeroLI).high) ∧ w.cell? ⟨b, off + i * 8 + 4, none⟩ = some (.int .u32 (l[i]?.getD zeroLI).jit) ∧ w.cell? ⟨b, off + i * 8 + 5, none⟩ = some (.int .u32 (l[i]?.getD zeroLI).bytes) ∧ w.cell? ⟨b, off + i * 8 + 6, none⟩ = some (.int .u32 (l[i]?.getD zeroLI).last) ∧ w.cell? ⟨b, off + i * 8 + 7, none⟩ = some (.int .u32 (l[i]?.getD zeroLI).delay) := by
  rcases h with h | ⟨b, off, ha, hc⟩
  · simp [h] at hi
  · exact ⟨b, off, ha, hc i hi 0 _ rfl, hc i hi 1 _ rfl, hc i hi 2 _ rfl, hc i hi 3 _ rfl, hc i hi 4 _ rfl, hc i hi 5 _ rfl, hc i hi 6 _ rfl, hc i hi 7 _ rfl⟩
theorem AtC.cells8 {T : TypeId} {W : World} {g : Nat} {c0 c1 c2 c3 c4 c5 c6 c7 : Value} (h : AtC T W g #[c0, c1, c2, c3, c4, c5, c6, c7]) : W.cell? ⟨g, 0, none⟩ = some c0 ∧ W.cell? ⟨g, 1, none⟩ = some c1 ∧ W.cell? ⟨g, 2, none⟩ = some c2 ∧ W.cell? ⟨g, 3, none⟩ = some c3 ∧ W.cell? ⟨g, 4, none⟩ = some c4 ∧ W.cell? ⟨g, 5, none⟩ = some c5 ∧ W.cell? ⟨g, 6, none⟩ = some c6 ∧ W.cell? ⟨g, 7, none⟩ = some c7 := by
  have f := h.cell
  exact ⟨by simpa using f 0, by simpa using f 1, by simpa using f 2, by simpa using f 3, by simpa using f 4, by simpa using f 5, by simpa using f 6, by simpa using f 7⟩
theorem li_bes (L : List UInt8) (p : LI) : L ++ bes [p.path, p.frac] 1 ++ bes [0] 2 ++ bes [p.lost] 3 ++ bes [0] 1 ++ bes [p.high, p.jit, p.bytes, p.last, p.delay] 4 = L ++ liL p := by
  unfold liL
  simp [bes]
end Go.Proofs.Ytjoikidnnhjogaa

