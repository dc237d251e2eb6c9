/- PieceJoins: the walk. -/
import Derived.Test.YtjoikidnnhjogaaPcW
import Derived.Deep.RegionHeld3
namespace Go.Proofs.Ytjoikidnnhjogaa
open Go.RowKit
set_option linter.unusedVariables false
/-- Behind 'append' to a row of the call's own: what is kept. -/
structure Grew (base : Nat) (e : TypeId) (v : Value) (w w' : World) : Prop where
  own : ∀ {B2 : Nat} {e2 : TypeId} {m2 : Nat} {v2 : Value} {n2 : Nat} {ys : List Value}, e2 ≠ e → w.ownsRow B2 e2 m2 v2 n2 ys → w'.ownsRow B2 e2 m2 v2 n2 ys
  own2 : ∀ {B2 : Nat} {e2 : TypeId} {m2 : Nat} {v2 : Value} {n2 : Nat} {ys : List Value}, (v2.ownBlock = none ∨ v2.ownBlock ≠ v.ownBlock) → w.ownsRow B2 e2 m2 v2 n2 ys → w'.ownsRow B2 e2 m2 v2 n2 ys
  block : ∀ {k : Nat} {o : Obj}, w.heap[k]? = some o → some k ≠ v.ownBlock → w'.heap[k]? = some o
  size : w.heap.size ≤ w'.heap.size
  below : ∀ {B0 : Nat} {w0 : World}, B0 ≤ base → Below B0 w0 w → Below B0 w0 w'
theorem own_apart {w : World} {B B2 : Nat} {e e2 : TypeId} {m m2 : Nat} {v v2 : Value} {n n2 : Nat} {xs ys : List Value} (h : w.ownsRow B e m v n xs) (h2 : w.ownsRow B2 e2 m2 v2 n2 ys) (hne : e2 ≠ e) : v2.ownBlock = none ∨ v2.ownBlock ≠ v.ownBlock := by
  rcases h2.2 with ⟨rfl, _⟩ | ⟨g, cap, cur, rfl, _, hg, _⟩
  · exact .inl rfl
  · exact .inr (row_neP h hg (by intro c p e; simp at e; exact hne e.2.1))
theorem step_app {P : Program} {ops : Array Oper} {o : Oper} {a : Act} {w : World} {K : Act → World → Prop} {Q : Exit → Act → World → Prop} {E : Prop} (hgd : o.guard = none) (s x : Operand) (t : TypeId)
    (ho : o.op = .call { callee := .builtin .append, args := #[s, x], argTypes := #[t, t] })
    (base : Nat) (e : TypeId) (i : TypeInfo) (z : Value) (size bytes : Nat) (ht : P.underlying t = some (.slice e)) (hi : P.info? e = some i) (hz : i.zero = some z)
    (hsize : i.size = size) (hby : i.bytes = bytes) (hzs : z.cells.size = size) (hsz : 0 < size)
    (v : Value) (n : Nat) (xs : List Value) (hs : a.eval s = v) (hown : w.ownsRow base e size v n xs)
    (ad : Nat) (cs : Array Value) (hx : a.eval x = .slice (some ⟨ad, 0, none⟩) 1 1) (hblk : w.heap[ad]? = some (.cells cs e (0, 0))) (hcs : cs.size = size) (h1 : ∀ u ∈ cs.toList, u.oneCell' = true)
    (h63 : n + 1 ≤ maxLen) (hbytes : (n + 1) * bytes ≤ 140737488355328) (hbase : base ≤ w.heap.size)
    (h : ∀ v' w', w'.ownsRow base e size v' (n + 1) (xs ++ cs.toList) → Grew base e v w w' → K (a.put o.dst v') w') :
    if Region.wanted o (yielded ops a.tmps) = true then Oper.wp P o a w K Q else E := by
  refine step_append_own hgd s x t ho base e i z size bytes ht hi hz hsize hby hzs hsz v n xs hs hown ⟨ad, 0, none⟩ 1 1 cs.toList hx (by simp [hcs]) ?_ h1 h63 hbytes hbase ?_
  · intro j u hj
    rw [addr_add, cell_of_row _ ad j cs e (0, 0) hblk, ← Array.getElem?_toList]
    exact hj
  · intro v' w' hown' hgrow _
    refine h v' w' hown' ⟨fun hne h2 => h2.kept hgrow (own_apart hown h2 hne), fun hne h2 => h2.kept hgrow hne, fun hk hne => ?_, hgrow.size, fun hB hb => hb.grown hgrow (by omega) (fun k hk => Nat.le_trans hB (hown.lt k hk).1)⟩
    rw [hgrow.block _ (lt_of_block hk) hne]
    exact hk
theorem heap_at_drew {W : World} {g : Nat} {o : Obj} (h : W.heap[g]? = some o) : W.drew.heap[g]? = some o := h
/-- A piece in a variable. -/
def BoxAt (W : World) (g : Nat) (p : PC) : Prop := W.heap[g]? = some (.cells #[.int .i64 p.count, .int .i64 p.kind, .string p.body] 23 (0, 0))
theorem boxAt_S {W : World} {g : Nat} {p : PC} (h : BoxAt W g p) : W.cell? ⟨g, 0, none⟩ = some (.int .i64 p.count) ∧ W.cell? ⟨g, 1, none⟩ = some (.int .i64 p.kind) ∧ W.cell? ⟨g, 2, none⟩ = some (.string p.body) ∧ BoxAt W g p := by
  have f := fun i => cell_of_row W g i _ _ (0, 0) h
  exact ⟨by simpa using f 0, by simpa using f 1, by simpa using f 2, h⟩
theorem BoxAt.alloc {W : World} {g : Nat} {p : PC} (h : BoxAt W g p) (o : Obj) : BoxAt (W.alloc o) g p := heap_at_old _ _ _ _ h
theorem BoxAt.drew {W : World} {g : Nat} {p : PC} (h : BoxAt W g p) : BoxAt W.drew g p := h
theorem BoxAt.grew {W W' : World} {g base : Nat} {e : TypeId} {v : Value} {p : PC} (h : BoxAt W g p) (hg : Grew base e v W W') (hne : some g ≠ v.ownBlock) : BoxAt W' g p := hg.block h hne
theorem BoxAt.later {W W' : World} {g : Nat} {p : PC} (h : BoxAt W g p) (hb : Below W.heap.size W W') : BoxAt W' g p := by unfold BoxAt; rw [hb.block g (lt_of_block h)]; exact h
theorem own_lt_ne {w : World} {B : Nat} {e : TypeId} {m : Nat} {v : Value} {n : Nat} {xs : List Value} (h : w.ownsRow B e m v n xs) (g : Nat) (hg : w.heap.size ≤ g) : some g ≠ v.ownBlock := fun he => by
  have := (h.lt g he.symm).2; omega
theorem piece_at {w wr : World} {a : Option Addr} {n k : Nat} (h : Recs [isNum .i64, isNum .i64, isText] w a n) (hb : Below w.heap.size w wr) (hk : k < n) :
    ∃ b off, a = some ⟨b, off, none⟩ ∧ ∃ (c kd : Int) (s : ByteArray), wr.cell? ⟨b, off + k * 3, none⟩ = some (.int .i64 c) ∧ wr.cell? ⟨b, off + k * 3 + 1, none⟩ = some (.int .i64 kd) ∧ wr.cell? ⟨b, off + k * 3 + 2, none⟩ = some (.string s) ∧ s.size ≤ 9223372036854775807 := by
  rcases h with h | ⟨b, off, rfl, hlt, hc⟩
  · omega
  · obtain ⟨v0, h0, c, rfl, _⟩ := hc k hk 0 _ rfl
    obtain ⟨v1, h1, m, rfl, hm⟩ := hc k hk 1 _ rfl
    obtain ⟨v2, h2, s, rfl, hs⟩ := hc k hk 2 _ rfl
    refine ⟨b, off, rfl, c, m, s, ?_, ?_, ?_, ?_⟩
    · rw [hb.cell (p := ⟨b, off + k * 3, none⟩) hlt]; exact h0
    · rw [hb.cell (p := ⟨b, off + k * 3 + 1, none⟩) hlt]; exact h1
    · rw [hb.cell (p := ⟨b, off + k * 3 + 2, none⟩) hlt]; exact h2
    · unfold maxLen at hs; exact hs

theorem own_laterN {w w' : World} {B : Nat} {e : TypeId} {m : Nat} {v : Value} {n : Nat} {xs : List Value} (h : w.ownsRow B e m v n xs) (hb : Below w.heap.size w w') : w'.ownsRow B e m v n xs :=
  h.kept (row := none) ⟨hb.os, hb.tape, hb.output, hb.size, fun k hk _ => hb.block k hk⟩ (by cases hv : v.ownBlock <;> simp)
theorem apart_base {w : World} {B2 : Nat} {e : TypeId} {m : Nat} {v v5 : Value} {n : Nat} {xs : List Value} (h5 : ∀ k, v5.ownBlock = some k → k < B2) (h : w.ownsRow B2 e m v n xs) : v5.ownBlock = none ∨ v5.ownBlock ≠ v.ownBlock := by
  cases hv : v5.ownBlock with
  | none => exact .inl rfl
  | some k =>
    refine .inr (fun e => ?_)
    have h1 := h5 k hv
    have h2 := (h.lt k e.symm).1
    omega
/-- All may be, and are short. -/
def okL (l : List PC) : Prop := allMay l ∧ ∀ q ∈ l, q.body.size ≤ 60
theorem okL_nil : okL [] := ⟨fun p hp => (by cases hp), fun p hp => (by cases hp)⟩
theorem okL_snoc {l : List PC} {p : PC} (h : okL l) (hp : pcMay p) (hs : p.body.size ≤ 60) : okL (l ++ [p]) := by
  refine ⟨?_, ?_⟩
  · intro q hq
    rcases List.mem_append.1 hq with hq | hq
    · exact h.1 q hq
    · rw [List.mem_singleton] at hq; subst hq; exact hp
  · intro q hq
    rcases List.mem_append.1 hq with hq | hq
    · exact h.2 q hq
    · rw [List.mem_singleton] at hq; subst hq; exact hs
theorem okL_app {l m : List PC} (h : okL l) (h2 : okL m) : okL (l ++ m) :=
  ⟨fun q hq => by rcases List.mem_append.1 hq with hq | hq; exact h.1 q hq; exact h2.1 q hq, fun q hq => by rcases List.mem_append.1 hq with hq | hq; exact h.2 q hq; exact h2.2 q hq⟩
end Go.Proofs.Ytjoikidnnhjogaa

