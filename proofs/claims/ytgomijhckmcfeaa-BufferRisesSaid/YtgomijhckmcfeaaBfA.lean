/- buffer: a Buffer in memory: ten cells, a row of pointers, frames. -/
import Derived.Test.YtgomijhckmcfeaaBfIo
import Derived.Test.YtgomijhckmcfeaaSpY
import Derived.Test.YtgomijhckmcfeaaLfM
namespace Go.Proofs.Ytgomijhckmcfeaa
open Go.RowKit
set_option linter.unusedVariables false
set_option linter.unusedSimpArgs false
/-- A frame that waits: where it lies, its time, how many parts, its first tick, its map, its parts. -/
structure BF where
  g : Nat
  t : Int
  c : Int
  f : Int
  m : Option Nat
  P : List (Option ByteArray)
/-- A Buffer's numbers: the Config, the least time that isn't over, what became of frames. -/
structure BS where
  cf : Int
  cp : Int
  cb : Int
  least : Int
  pl : Int
  dr : Int
  ev : Int
def BF.ptr (x : BF) : Value := .pointer (some ⟨x.g, 0, none⟩)
def bfV (l : List BF) : List Value := l.map BF.ptr
def bfParts (l : List BF) : Nat := (l.map (fun x => spH x.P)).sum
def bfBytes (l : List BF) : Nat := (l.map (fun x => spB x.P)).sum
theorem bfParts_cons (x : BF) (l : List BF) : bfParts (x :: l) = spH x.P + bfParts l := by simp [bfParts]
theorem bfBytes_cons (x : BF) (l : List BF) : bfBytes (x :: l) = spB x.P + bfBytes l := by simp [bfBytes]
theorem bfParts_app (l r : List BF) : bfParts (l ++ r) = bfParts l + bfParts r := by simp [bfParts]
theorem bfBytes_app (l r : List BF) : bfBytes (l ++ r) = bfBytes l + bfBytes r := by simp [bfBytes]
theorem bfV_len (l : List BF) : (bfV l).length = l.length := by simp [bfV]
theorem bfV_one (l : List BF) : ∀ u ∈ bfV l, u.oneCell' = true := by
  intro u hu
  obtain ⟨x, _, rfl⟩ := List.mem_map.1 hu
  rfl
section
variable {T : TypeId} {W : World} {g : Nat} {c0 c1 c2 c3 c4 c5 c6 c7 c8 c9 : Value}
theorem AtS.cells10 (h : AtS T W g #[c0, c1, c2, c3, c4, c5, c6, c7, c8, c9]) : W.cell? ⟨g, 0, none⟩ = some c0 ∧ W.cell? ⟨g, 1, none⟩ = some c1 ∧ W.cell? ⟨g, 2, none⟩ = some c2 ∧ W.cell? ⟨g, 3, none⟩ = some c3 ∧ W.cell? ⟨g, 4, none⟩ = some c4 ∧ W.cell? ⟨g, 5, none⟩ = some c5 ∧ W.cell? ⟨g, 6, none⟩ = some c6 ∧ W.cell? ⟨g, 7, none⟩ = some c7 ∧ W.cell? ⟨g, 8, none⟩ = some c8 ∧ W.cell? ⟨g, 9, none⟩ = some c9 := by
  have f := fun i => h.cell i
  exact ⟨by simpa using f 0, by simpa using f 1, by simpa using f 2, by simpa using f 3, by simpa using f 4, by simpa using f 5, by simpa using f 6, by simpa using f 7, by simpa using f 8, by simpa using f 9⟩
theorem at10_set3 (h : AtS T W g #[c0, c1, c2, c3, c4, c5, c6, c7, c8, c9]) (u : Value) : AtS T (W.setCell ⟨g, 3, none⟩ u) g #[c0, c1, c2, u, c4, c5, c6, c7, c8, c9] := block_setCell h
theorem at10_set4 (h : AtS T W g #[c0, c1, c2, c3, c4, c5, c6, c7, c8, c9]) (u : Value) : AtS T (W.setCell ⟨g, 4, none⟩ u) g #[c0, c1, c2, c3, u, c5, c6, c7, c8, c9] := block_setCell h
theorem at10_set5 (h : AtS T W g #[c0, c1, c2, c3, c4, c5, c6, c7, c8, c9]) (u : Value) : AtS T (W.setCell ⟨g, 5, none⟩ u) g #[c0, c1, c2, c3, c4, u, c6, c7, c8, c9] := block_setCell h
theorem at10_set6 (h : AtS T W g #[c0, c1, c2, c3, c4, c5, c6, c7, c8, c9]) (u : Value) : AtS T (W.setCell ⟨g, 6, none⟩ u) g #[c0, c1, c2, c3, c4, c5, u, c7, c8, c9] := block_setCell h
theorem at10_set7 (h : AtS T W g #[c0, c1, c2, c3, c4, c5, c6, c7, c8, c9]) (u : Value) : AtS T (W.setCell ⟨g, 7, none⟩ u) g #[c0, c1, c2, c3, c4, c5, c6, u, c8, c9] := block_setCell h
theorem at10_set8 (h : AtS T W g #[c0, c1, c2, c3, c4, c5, c6, c7, c8, c9]) (u : Value) : AtS T (W.setCell ⟨g, 8, none⟩ u) g #[c0, c1, c2, c3, c4, c5, c6, c7, u, c9] := block_setCell h
theorem at10_set9 (h : AtS T W g #[c0, c1, c2, c3, c4, c5, c6, c7, c8, c9]) (u : Value) : AtS T (W.setCell ⟨g, 9, none⟩ u) g #[c0, c1, c2, c3, c4, c5, c6, c7, c8, u] := block_setCell h
end
/-- The ten cells. -/
def BS.at (s : BS) (W : World) (gb : Nat) (parts bytes : Int) (v : Value) : Prop :=
  AtS 51 W gb #[.int .i64 s.cf, .int .i64 s.cp, .int .i64 s.cb, .int .i64 parts, .int .i64 bytes, .int .i64 s.least, .int .i64 s.pl, .int .i64 s.dr, .int .i64 s.ev, v]
/-- Frames in memory, each with cells and a map of its own. -/
structure FrIn (W : World) (base : Nat) (l : List BF) : Prop where
  fr : ∀ x ∈ l, FIn W base x.g x.t x.c x.f x.m x.P
  nd : l.Pairwise (fun x y => x.g ≠ y.g ∧ ∀ b, x.m = some b → y.m ≠ some b)
/-- Times rise, above what is over. -/
structure BUp (least : Int) (l : List BF) : Prop where
  up : l.Pairwise (fun x y => x.t < y.t)
  lo : ∀ x ∈ l, least ≤ x.t
  l0 : 0 ≤ least
  tb : ∀ x ∈ l, x.t ≤ 4294967295
/-- A Buffer in memory. -/
structure BIn (W : World) (base gb : Nat) (s : BS) (v : Value) (l : List BF) : Prop where
  bs : base ≤ gb
  at10 : s.at W gb (bfParts l) (bfBytes l) v
  own : OwnE W base 66 1 v l.length (bfV l)
  fr : FrIn W base l
  up : BUp s.least l
/-- What is the Buffer's. -/
def Foot (gb : Nat) (v : Value) (l : List BF) (k : Nat) : Prop := k = gb ∨ v.ownBlock = some k ∨ ∃ x ∈ l, x.g = k ∨ x.m = some k
/-- All else stays. -/
structure BKeep (gb : Nat) (v : Value) (l : List BF) (w w' : World) (v' : Value) (l' : List BF) : Prop where
  size : w.heap.size ≤ w'.heap.size
  block : ∀ k, k < w.heap.size → ¬ Foot gb v l k → w'.heap[k]? = w.heap[k]?
  foot : ∀ k, Foot gb v' l' k → Foot gb v l k ∨ w.heap.size ≤ k
theorem BKeep.refl (gb : Nat) (v : Value) (l : List BF) (w : World) : BKeep gb v l w w v l := ⟨Nat.le_refl _, fun _ _ _ => rfl, fun _ h => .inl h⟩
theorem BKeep.trans {gb : Nat} {v v' v'' : Value} {l l' l'' : List BF} {w w' w'' : World} (h : BKeep gb v l w w' v' l') (k : BKeep gb v' l' w' w'' v'' l'') : BKeep gb v l w w'' v'' l'' := by
  refine ⟨Nat.le_trans h.size k.size, fun i hi hf => ?_, fun i hi => ?_⟩
  · rw [k.block i (Nat.lt_of_lt_of_le hi h.size) (fun e => ?_), h.block i hi hf]
    rcases h.foot i e with e | e
    · exact hf e
    · omega
  · rcases k.foot i hi with e | e
    · exact h.foot i e
    · exact .inr (Nat.le_trans h.size e)
theorem bKeep_below {gb : Nat} {v : Value} {l : List BF} {w w' : World} (h : Below w.heap.size w w') : BKeep gb v l w w' v l := ⟨h.size, fun k hk _ => h.block k hk, fun _ h => .inl h⟩
theorem FrIn.same {W W' : World} {base : Nat} {l : List BF} (h : FrIn W base l) (hk : ∀ x ∈ l, W'.heap[x.g]? = W.heap[x.g]? ∧ ∀ b, x.m = some b → W'.heap[b]? = W.heap[b]?) : FrIn W' base l :=
  ⟨fun x hx => (h.fr x hx).same (hk x hx).1 (hk x hx).2, h.nd⟩
theorem FrIn.lt {W : World} {base : Nat} {l : List BF} (h : FrIn W base l) : ∀ x ∈ l, (base ≤ x.g ∧ x.g < W.heap.size) ∧ ∀ b, x.m = some b → base ≤ b ∧ b < W.heap.size := fun x hx => ⟨⟨(h.fr x hx).bs, (h.fr x hx).at5.lt⟩, (h.fr x hx).mlt⟩
theorem FrIn.later {W W' : World} {base : Nat} {l : List BF} (h : FrIn W base l) (hb : Below W.heap.size W W') : FrIn W' base l :=
  h.same fun x hx => ⟨hb.block _ (h.lt x hx).1.2, fun b e => hb.block b ((h.lt x hx).2 b e).2⟩
theorem FrIn.nil (W : World) (base : Nat) : FrIn W base [] := ⟨fun _ h => by simp at h, List.Pairwise.nil⟩
theorem FrIn.tail {W : World} {base : Nat} {x : BF} {l : List BF} (h : FrIn W base (x :: l)) : FrIn W base l := ⟨fun y hy => h.fr y (List.mem_cons_of_mem _ hy), (List.pairwise_cons.1 h.nd).2⟩
theorem BUp.tail {least : Int} {x : BF} {l : List BF} (h : BUp least (x :: l)) : BUp (x.t + 1) l :=
  ⟨(List.pairwise_cons.1 h.up).2, fun y hy => by have := (List.pairwise_cons.1 h.up).1 y hy; omega, by have := h.lo x List.mem_cons_self; have := h.l0; omega, fun y hy => h.tb y (List.mem_cons_of_mem _ hy)⟩
theorem BIn.later {W W' : World} {base gb : Nat} {s : BS} {v : Value} {l : List BF} (h : BIn W base gb s v l) (hb : Below W.heap.size W W') : BIn W' base gb s v l :=
  ⟨h.bs, AtS.later h.at10 hb, h.own.later hb, h.fr.later hb, h.up⟩
/-- Blocks of two types, or of cells and of a map, are apart. -/
theorem blk_ne {W : World} {a b : Nat} {cs cs' : Array Value} {T T' : TypeId} (ha : W.heap[a]? = some (.cells cs T (0, 0))) (hb : W.heap[b]? = some (.cells cs' T' (0, 0))) (hT : T ≠ T') : a ≠ b := by
  intro e
  subst e
  rw [ha] at hb
  simp only [Option.some.injEq, Obj.cells.injEq] at hb
  exact hT hb.2.1
theorem blk_map {W : World} {a b : Nat} {cs : Array Value} {T : TypeId} {es : Array MapEntry} {cl : Nat} (ha : W.heap[a]? = some (.cells cs T (0, 0))) (hb : W.heap[b]? = some (.map es cl)) : a ≠ b := by
  intro e
  subst e
  rw [ha] at hb
  cases hb
theorem FIn.isMap {W : World} {base gf : Nat} {t cnt first : Int} {mp : Option Nat} {P : List (Option ByteArray)} (h : FIn W base gf t cnt first mp P) : ∀ b, mp = some b → ∃ es cl, W.heap[b]? = some (.map es cl) := fun b hb => by
  rcases h.mem with ⟨h1, _⟩ | ⟨b', h1, _, hm, _⟩
  · rw [h1] at hb; cases hb
  · rw [h1] at hb
    cases hb
    exact hm.isMap
/-- Nothing of the frames is the Buffer's block, or the row's. -/
theorem BIn.apart {W : World} {base gb : Nat} {s : BS} {v : Value} {l : List BF} (h : BIn W base gb s v l) : ∀ x ∈ l, (x.g ≠ gb ∧ v.ownBlock ≠ some x.g) ∧ ∀ b, x.m = some b → b ≠ gb ∧ v.ownBlock ≠ some b := fun x hx => by
  have hf := h.fr.fr x hx
  refine ⟨⟨blk_ne hf.at5 h.at10 (by decide), fun e => ?_⟩, fun b hb => ?_⟩
  · obtain ⟨cs, hcs⟩ := h.own.2 _ e
    exact blk_ne hf.at5 hcs (by decide) rfl
  · obtain ⟨es, cl, hm⟩ := hf.isMap b hb
    refine ⟨fun e => blk_map h.at10 hm e.symm, fun e => ?_⟩
    obtain ⟨cs, hcs⟩ := h.own.2 _ e
    exact blk_map hcs hm rfl
theorem BIn.row_ne {W : World} {base gb : Nat} {s : BS} {v : Value} {l : List BF} (h : BIn W base gb s v l) : v.ownBlock ≠ some gb := fun e => by
  obtain ⟨cs, hcs⟩ := h.own.2 _ e
  exact blk_ne h.at10 hcs (by decide) rfl
/-- The Buffer's cells, and no others, are written. -/
theorem BIn.cells {W W' : World} {base gb : Nat} {s s' : BS} {v : Value} {l : List BF} (h : BIn W base gb s v l) (ho : Only gb W W') (ha : s'.at W' gb (bfParts l) (bfBytes l) v) (hu : BUp s'.least l) : BIn W' base gb s' v l := by
  refine ⟨h.bs, ha, h.own.keep (by rw [ho.size]; exact Nat.le_refl _) (fun k cs hk _ => ho.block k (fun e => h.row_ne (by rw [hk, e]))), h.fr.same (fun x hx => ?_), hu⟩
  obtain ⟨⟨h1, _⟩, h2⟩ := h.apart x hx
  exact ⟨ho.block _ h1, fun b hb => ho.block _ (h2 b hb).1⟩
theorem bKeep_only {gb : Nat} {v v' : Value} {l l' : List BF} {W W' : World} (ho : Only gb W W') (hf : ∀ k, Foot gb v' l' k → Foot gb v l k) : BKeep gb v l W W' v' l' :=
  ⟨by rw [ho.size]; exact Nat.le_refl _, fun k _ hk => ho.block k (fun e => hk (.inl e)), fun k hk => .inl (hf k hk)⟩
end Go.Proofs.Ytgomijhckmcfeaa
