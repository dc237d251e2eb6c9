/- net: a Net in memory. -/
import Derived.Test.YtbmbomojnljccaaNeA
import Derived.Test.YtbmbomojnljccaaNeD
import Derived.Test.YtbmbomojnljccaaLfM
import Derived.Deep.RegionHeld3
import Derived.Deep.QuietTactic
import Derived.BigQuiet
import Derived.Deep.DeepCutAuto
import Derived.Deep.CutBlock
import Derived.RegionTactic
import Derived.BigRegion
import Derived.Deep.RegionWith
namespace Go.Proofs.Ytbmbomojnljccaa
open Go.RowKit Go.Maps
set_option linter.unusedVariables false
set_option linter.unusedSimpArgs false
/-- Cells in memory. -/
def AtQ (T : TypeId) (W : World) (g : Nat) (cs : Array Value) : Prop := W.heap[g]? = some (.cells cs T (0, 0))
section
variable {T : TypeId} {W W' : World} {g b : Nat} {cs : Array Value}
theorem AtQ.cell (h : AtQ T W g cs) (i : Nat) : W.cell? ⟨g, i, none⟩ = cs[i]? := cell_of_row W g i _ _ (0, 0) h
theorem AtQ.free (h : AtQ T W g cs) (i : Nat) : W.frozen? ⟨g, i, none⟩ = false := by unfold AtQ at h; simp [World.frozen?, h]
theorem AtQ.lt (h : AtQ T W g cs) : g < W.heap.size := lt_of_block h
theorem AtQ.later (h : AtQ T W g cs) (hb : Below W.heap.size W W') : AtQ T W' g cs := by unfold AtQ; rw [hb.block g h.lt]; exact h
theorem AtQ.drew (h : AtQ T W g cs) : AtQ T W.drew g cs := h
theorem AtQ.only (h : AtQ T W g cs) (hg : g ≠ b) (ho : Only b W W') : AtQ T W' g cs := by unfold AtQ; rw [ho.block g hg]; exact h
theorem AtQ.same (h : AtQ T W g cs) (e : W'.heap[g]? = W.heap[g]?) : AtQ T W' g cs := by unfold AtQ; rw [e]; exact h
theorem atQ_new (T : TypeId) (W : World) (n : Nat) (cs : Array Value) (h : n = W.heap.size) : AtQ T (W.alloc (.cells cs T)) n cs := by subst h; exact heap_alloc_new W _
theorem AtQ.cells2 {c0 c1 : Value} (h : AtQ T W g #[c0, c1]) : W.cell? ⟨g, 0, none⟩ = some c0 ∧ W.cell? ⟨g, 1, none⟩ = some c1 := by
  have f := h.cell
  exact ⟨by simpa using f 0, by simpa using f 1⟩
theorem AtQ.cells6 {c0 c1 c2 c3 c4 c5 : Value} (h : AtQ T W g #[c0, c1, c2, c3, c4, c5]) : W.cell? ⟨g, 0, none⟩ = some c0 ∧ W.cell? ⟨g, 1, none⟩ = some c1 ∧ W.cell? ⟨g, 2, none⟩ = some c2 ∧ W.cell? ⟨g, 3, none⟩ = some c3 ∧ W.cell? ⟨g, 4, none⟩ = some c4 ∧ W.cell? ⟨g, 5, none⟩ = some c5 := by
  have f := fun i => h.cell i
  exact ⟨by simpa using f 0, by simpa using f 1, by simpa using f 2, by simpa using f 3, by simpa using f 4, by simpa using f 5⟩
theorem AtQ.cells9 {c0 c1 c2 c3 c4 c5 c6 c7 c8 : Value} (h : AtQ T W g #[c0, c1, c2, c3, c4, c5, c6, c7, c8]) : W.cell? ⟨g, 0, none⟩ = some c0 ∧ W.cell? ⟨g, 1, none⟩ = some c1 ∧ W.cell? ⟨g, 2, none⟩ = some c2 ∧ W.cell? ⟨g, 3, none⟩ = some c3 ∧ W.cell? ⟨g, 4, none⟩ = some c4 ∧ W.cell? ⟨g, 5, none⟩ = some c5 ∧ W.cell? ⟨g, 6, none⟩ = some c6 ∧ W.cell? ⟨g, 7, none⟩ = some c7 ∧ W.cell? ⟨g, 8, none⟩ = some c8 := by
  have f := fun i => h.cell i
  exact ⟨by simpa using f 0, by simpa using f 1, by simpa using f 2, by simpa using f 3, by simpa using f 4, by simpa using f 5, by simpa using f 6, by simpa using f 7, by simpa using f 8⟩
end
theorem blkQ_ne {W : World} {a b : Nat} {cs cs' : Array Value} {T T' : TypeId} (ha : W.heap[a]? = some (.cells cs T (0, 0))) (hb : W.heap[b]? = some (.cells cs' T' (0, 0))) (hT : T ≠ T') : a ≠ b := by
  intro e
  subst e
  rw [ha] at hb
  simp only [Option.some.injEq, Obj.cells.injEq] at hb
  exact hT hb.2.1
theorem blkQ_map {W : World} {a b : Nat} {cs : Array Value} {T : TypeId} {es : Array MapEntry} {cl : Nat} (ha : W.heap[a]? = some (.cells cs T (0, 0))) (hb : W.heap[b]? = some (.map es cl)) : a ≠ b := by
  intro e
  subst e
  rw [ha] at hb
  cases hb
/-- What a Net has: its bounds, its map, its slices, its texts, its counts. -/
structure NE where
  m : Int
  b : Int
  mp : Option Nat
  V : Int → Int → Value
  G : Int → Int → List ByteArray
  c : Nat → Int
def NE.f (x : NE) (a p : Int) : Option Value := if x.G a p = [] then none else some (x.V a p)
def NE.cells (x : NE) : Array Value := #[.int .i64 x.m, .int .i64 x.b, .map x.mp, .int .i64 (x.c 0), .int .i64 (x.c 1), .int .i64 (x.c 2), .int .i64 (x.c 3), .int .i64 (x.c 4), .int .i64 (x.c 5)]
structure NIn (W : World) (base gn n : Nat) (x : NE) : Prop where
  bs : base ≤ gn
  at9 : AtQ 62 W gn x.cells
  mem : (x.mp = none ∧ ∀ a p, x.G a p = []) ∨ ∃ b, x.mp = some b ∧ base ≤ b ∧ MapN W b n x.f
  own : ∀ a p, OwnE W base 9 1 (x.V a p) (x.G a p).length (neV (x.G a p))
  nil : ∀ a p, x.G a p = [] → x.V a p = .slice none 0 0
  ap : ∀ a p a' p' k, (x.V a p).ownBlock = some k → (x.V a' p').ownBlock = some k → a = a' ∧ p = p'
  pl : ∀ a p, x.G a p ≠ [] → (a = 0 ∨ a = 1) ∧ 1 ≤ p ∧ p ≤ 15
  tx : ∀ a p s, s ∈ x.G a p → s.size ≤ 1500
  ln : ∀ a p, (x.G a p).length ≤ 1024
theorem ownE_isSl {W : World} {base n : Nat} {e : TypeId} {c : Nat} {v : Value} {xs : List Value} (h : OwnE W base e c v n xs) : IsSl v := by
  rcases h.1.2 with ⟨e, _⟩ | ⟨g, off, cap, e, _⟩
  · exact .inl e
  · exact .inr ⟨_, _, _, _, e⟩
/-- What is the Net's. -/
def NFoot (gn : Nat) (x : NE) (k : Nat) : Prop := k = gn ∨ x.mp = some k ∨ ∃ a p, (x.V a p).ownBlock = some k
/-- All else stays. -/
structure NKeep (gn : Nat) (x : NE) (w w' : World) (x' : NE) : Prop where
  size : w.heap.size ≤ w'.heap.size
  block : ∀ k, k < w.heap.size → ¬ NFoot gn x k → w'.heap[k]? = w.heap[k]?
  foot : ∀ k, NFoot gn x' k → NFoot gn x k ∨ w.heap.size ≤ k
  env : SameE w w'
theorem NKeep.refl (gn : Nat) (x : NE) (w : World) : NKeep gn x w w x := ⟨Nat.le_refl _, fun _ _ _ => rfl, fun _ h => .inl h, SameE.refl _⟩
theorem NKeep.trans {gn : Nat} {x x' x'' : NE} {w w' w'' : World} (h : NKeep gn x w w' x') (k : NKeep gn x' w' w'' x'') : NKeep gn x w w'' x'' := by
  refine ⟨Nat.le_trans h.size k.size, fun i hi hf => ?_, fun i hi => ?_, h.env.trans k.env⟩
  · rw [k.block i (Nat.lt_of_lt_of_le hi h.size) (fun e => ?_), h.block i hi hf]
    rcases h.foot i e with e | e
    · exact hf e
    · omega
  · rcases k.foot i hi with e | e
    · exact h.foot i e
    · exact .inr (Nat.le_trans h.size e)
theorem nKeep_below {gn : Nat} {x : NE} {w w' : World} (h : Below w.heap.size w w') : NKeep gn x w w' x := ⟨h.size, fun k hk _ => h.block k hk, fun _ h => .inl h, sameE_below h⟩
section
variable {W W' : World} {base gn n : Nat} {x : NE}
theorem NIn.foot_lt (h : NIn W base gn n x) {k : Nat} (hf : NFoot gn x k) : base ≤ k ∧ k < W.heap.size := by
  rcases hf with rfl | hf | ⟨a, p, hf⟩
  · exact ⟨h.bs, AtQ.lt h.at9⟩
  · rcases h.mem with ⟨e, _⟩ | ⟨b, e, hb, hm⟩
    · rw [e] at hf; cases hf
    · rw [e] at hf
      cases hf
      exact ⟨hb, hm.lt⟩
  · exact (h.own a p).1.lt k hf
theorem NIn.keep (h : NIn W base gn n x) (hs : W.heap.size ≤ W'.heap.size) (hb : ∀ k, NFoot gn x k → W'.heap[k]? = W.heap[k]?) : NIn W' base gn n x := by
  refine ⟨h.bs, h.at9.same (hb _ (.inl rfl)), ?_, fun a p => (h.own a p).keep hs (fun k cs hk _ => hb k (.inr (.inr ⟨a, p, hk⟩))), h.nil, h.ap, h.pl, h.tx, h.ln⟩
  rcases h.mem with h1 | ⟨b, e, hb2, hm⟩
  · exact .inl h1
  · exact .inr ⟨b, e, hb2, hm.same (hb _ (.inr (.inl e)))⟩
theorem NIn.later (h : NIn W base gn n x) (hb : Below W.heap.size W W') : NIn W' base gn n x := h.keep hb.size (fun k hk => hb.block k (h.foot_lt hk).2)
theorem NKeep.below {w : World} {x' : NE} (hk : NKeep gn x W w x') (h : NIn W base gn n x) : Below base W w := ⟨hk.env.os, hk.env.tp, hk.env.ou, hk.size, fun k hb => hk.block k (Nat.lt_of_lt_of_le hb (Nat.le_trans h.bs (Nat.le_of_lt h.at9.lt))) (fun e => by have := (h.foot_lt e).1; omega)⟩
theorem NIn.drew (h : NIn W base gn n x) : NIn W.drew base gn n x := h.later (Below.refl _ _).drew
theorem NIn.slF (h : NIn W base gn n x) : SlF x.f := fun a p v hv => by
  unfold NE.f at hv
  split at hv
  · cases hv
  · cases hv
    exact ownE_isSl (h.own a p)
theorem NIn.fV (h : NIn W base gn n x) (a p : Int) : (x.f a p).getD (.slice none 0 0) = x.V a p := by
  unfold NE.f
  split
  · rename_i e
    rw [h.nil a p e]
    rfl
  · rfl
theorem NIn.look (h : NIn W base gn n x) {a p : Int} (hk : wf2 a p) : (Instr.lookup 60 (.map x.mp) (.agg #[.int .i64 a, .int .i64 p]) false).run Try.prog W = .ok (x.V a p) W := by
  rcases h.mem with ⟨e, hG⟩ | ⟨b, e, _, hm⟩
  · rw [e, h.nil a p (hG a p)]
    exact mapNil_eq W hk
  · rw [e]
    have := hm.eq h.slF hk
    rw [h.fV] at this
    exact this
theorem NIn.cells (h : NIn W base gn n x) : W.cell? ⟨gn, 0, none⟩ = some (.int .i64 x.m) ∧ W.cell? ⟨gn, 1, none⟩ = some (.int .i64 x.b) ∧ W.cell? ⟨gn, 2, none⟩ = some (.map x.mp) ∧ W.cell? ⟨gn, 3, none⟩ = some (.int .i64 (x.c 0)) ∧ W.cell? ⟨gn, 4, none⟩ = some (.int .i64 (x.c 1)) ∧ W.cell? ⟨gn, 5, none⟩ = some (.int .i64 (x.c 2)) ∧ W.cell? ⟨gn, 6, none⟩ = some (.int .i64 (x.c 3)) ∧ W.cell? ⟨gn, 7, none⟩ = some (.int .i64 (x.c 4)) ∧ W.cell? ⟨gn, 8, none⟩ = some (.int .i64 (x.c 5)) := AtQ.cells9 h.at9
theorem NIn.row_ne (h : NIn W base gn n x) (a p : Int) : (x.V a p).ownBlock ≠ some gn := fun e => by
  obtain ⟨cs, hcs⟩ := (h.own a p).2 _ e
  exact blkQ_ne h.at9 hcs (by decide) rfl
theorem NIn.row_map (h : NIn W base gn n x) (a p : Int) {b : Nat} (hb : x.mp = some b) : (x.V a p).ownBlock ≠ some b := fun e => by
  rcases h.mem with ⟨e2, _⟩ | ⟨b', e2, _, hm⟩
  · rw [e2] at hb; cases hb
  · rw [e2] at hb
    cases hb
    obtain ⟨cs, hcs⟩ := (h.own a p).2 _ e
    obtain ⟨es, cl, hh⟩ := hm.isMap
    exact blkQ_map hcs hh rfl
theorem NIn.map_ne (h : NIn W base gn n x) {b : Nat} (hb : x.mp = some b) : b ≠ gn := by
  rcases h.mem with ⟨e2, _⟩ | ⟨b', e2, _, hm⟩
  · rw [e2] at hb; cases hb
  · rw [e2] at hb
    cases hb
    obtain ⟨es, cl, hh⟩ := hm.isMap
    exact fun e => blkQ_map h.at9 hh e.symm
end
theorem neAmong_q (a n b : Int) (w : World) : Calls Try.prog 33 #[.int .i64 a, .int .i64 n, .int .i64 b] w fun e w' => e = .returned (.int .i64 (am a n b)) ∧ w' = w := by
  go_enter Try.func33, Try.ntmps33
  go_wp2
  go_ret
  exact ⟨rfl, rfl⟩
theorem neSet2 (w2 : World) (g1 : Nat) (u0 u1 : Value) {c0 c1 : Value} {T : TypeId} (h : AtQ T w2 g1 #[c0, c1]) : AtQ T ((w2.setCell ⟨g1, 0, none⟩ u0).setCell ⟨g1, 1, none⟩ u1) g1 #[u0, u1] := by
  have h1 : AtQ T (w2.setCell ⟨g1, 0, none⟩ u0) g1 #[u0, c1] := block_setCell h
  exact block_setCell h1
set_option maxHeartbeats 1600000 in
theorem neClip_any (a b : Int) (w : World) : Calls Try.prog 12 #[.agg #[.int .i64 a, .int .i64 b]] w fun e w' => e = .returned (.agg #[.int .i64 (am 1 a 1024), .int .i64 (am 1 b 16777216)]) ∧ Below w.heap.size w w' := by
  have hX0 : AtQ 29 ((w.alloc (.cells #[.int .i64 a, .int .i64 b] 29)).alloc (.cells #[.int .i64 0, .int .i64 0] 29)) w.heap.size #[.int .i64 a, .int .i64 b] := AtQ.later (atQ_new _ w _ _ rfl) ((Below.refl _ _).alloc (Nat.le_refl _) _)
  have hX1 : AtQ 29 ((w.alloc (.cells #[.int .i64 a, .int .i64 b] 29)).alloc (.cells #[.int .i64 0, .int .i64 0] 29)) (w.heap.size + 1) #[.int .i64 0, .int .i64 0] := atQ_new _ _ _ _ (by simp)
  have hb : Below w.heap.size w ((w.alloc (.cells #[.int .i64 a, .int .i64 b] 29)).alloc (.cells #[.int .i64 0, .int .i64 0] 29)) := ((Below.refl _ _).alloc (Nat.le_refl _) _).alloc (by simp) _
  go_enter Try.func12, Try.ntmps12
  go_upto_region 1 with fail
  generalize ((w.alloc (.cells #[.int .i64 a, .int .i64 b] 29)).alloc (.cells #[.int .i64 0, .int .i64 0] 29)) = w2 at hX0 hX1 hb ⊢
  generalize hg1 : w.heap.size + 1 = g1 at hX1 ⊢
  generalize hg0 : w.heap.size = g0 at hX0 hb hg1 ⊢
  have hne01 : g0 ≠ g1 := by omega
  have hle1 : g0 ≤ g1 := by omega
  have HG := Lib.hid hg0
  clear hg0 hg1
  obtain ⟨_, _⟩ := hX0.cells2
  have _ := hX1.free 0
  have _ := hX1.free 1
  obtain ⟨_, _⟩ := hX1.cells2
  have ho : ∀ (W : World) (u0 u1 : Value), Only g1 W ((W.setCell ⟨g1, 0, none⟩ u0).setCell ⟨g1, 1, none⟩ u1) := fun W u0 u1 => ((Only.refl g1 W).setCell 0 _).setCell 1 _
  have hK : ∀ u0 u1 : Value, ((w2.drew.setCell ⟨g1, 0, none⟩ u0).setCell ⟨g1, 1, none⟩ u1).cell? ⟨g0, 0, none⟩ = some (.int .i64 a) ∧ ((w2.drew.setCell ⟨g1, 0, none⟩ u0).setCell ⟨g1, 1, none⟩ u1).cell? ⟨g0, 1, none⟩ = some (.int .i64 b) := fun u0 u1 => (hX0.drew.only hne01 (ho w2.drew u0 u1)).cells2
  go_region_held3 (fun W => W.cell? ⟨g0, 0, none⟩ = some (.int .i64 a) ∧ W.cell? ⟨g0, 1, none⟩ = some (.int .i64 b)) (first | (go_keep; done) | exact hX0.drew.cells2 | exact hK _ _) (first | (go_at_call 33; refine (neAmong_q _ _ _ _).mono ?_; rintro e w' ⟨rfl, rfl⟩))
  all_goals
    have hZ := neSet2 w2 g1 (.int .i64 (am 1 a 1024)) (.int .i64 (am 1 b 16777216)) hX1
    have hbz := hb.trans ((ho w2 (.int .i64 (am 1 a 1024)) (.int .i64 (am 1 b 16777216))).below hle1)
    obtain ⟨d0, d1⟩ := hZ.cells2
    go_wp2_with fail
    refine bodyPost_ret (v := .agg #[.int .i64 (am 1 a 1024), .int .i64 (am 1 b 16777216)]) (by simp [results, Try.results12, go_sem, d0, d1]) rfl ⟨rfl, by rw [HG.out]; exact hbz.drew⟩
/-- A Net behind New. -/
def neNew (m b : Int) : NE := ⟨m, b, none, fun _ _ => .slice none 0 0, fun _ _ => [], fun _ => 0⟩
set_option maxHeartbeats 800000 in
theorem neNew_any (m b : Int) (w : World) : Calls Try.prog 7 #[.agg #[.int .i64 m, .int .i64 b]] w fun e w' => ∃ gn, e = .returned (.pointer (some ⟨gn, 0, none⟩)) ∧ NIn w' w.heap.size gn 0 (neNew m b) ∧ Below w.heap.size w w' := by
  have hX := atQ_new 29 w w.heap.size #[.int .i64 m, .int .i64 b] rfl
  have hb : Below w.heap.size w (w.alloc (.cells #[.int .i64 m, .int .i64 b] 29)) := (Below.refl _ _).alloc (Nat.le_refl _) _
  go_enter Try.func7, Try.ntmps7
  go_upto_region 1 with fail
  generalize (w.alloc (.cells #[.int .i64 m, .int .i64 b] 29)) = w2 at hX hb ⊢
  generalize hg0 : w.heap.size = g0 at hX hb ⊢
  have HG := Lib.hid hg0
  clear hg0
  obtain ⟨_, _⟩ := hX.cells2
  have hl : g0 ≤ w2.heap.size := Nat.le_of_lt hX.lt
  go_wp2_with fail
  go_ret
  rw [HG.out]
  exact ⟨_, rfl, ⟨hl, atQ_new _ _ _ _ rfl, .inl ⟨rfl, fun _ _ => rfl⟩, fun _ _ => ownE_nil _ _ _ _, fun _ _ _ => rfl, fun a p a' p' k h => (by cases h), fun a p h => absurd rfl h, fun a p s h => (by cases h), fun a p => Nat.zero_le _⟩, hb.alloc hl _⟩
section
variable {w : World} {base gn n : Nat} {x : NE}
theorem neLen_q (h : NIn w base gn n x) {a p : Int} (hk : wf2 a p) : Calls Try.prog 20 #[.pointer (some ⟨gn, 0, none⟩), .int .i64 a, .int .i64 p] w fun e w' => e = .returned (.int .i64 (x.G a p).length) ∧ w' = w := by
  obtain ⟨_, _, _, _, _, _, _, _, _⟩ := h.cells
  have hlk := h.look hk
  obtain ⟨va, vc, hv⟩ := (h.own a p).formG
  rw [hv] at hlk
  clear h
  go_enter Try.func20, Try.ntmps20
  go_wp2
  go_ret
  exact ⟨rfl, rfl⟩
theorem neCounts_any (h : NIn w base gn n x) : Calls Try.prog 19 #[.pointer (some ⟨gn, 0, none⟩)] w fun e w' => e = .returned (.agg #[.int .i64 (x.c 0), .int .i64 (x.c 1), .int .i64 (x.c 2), .int .i64 (x.c 3), .int .i64 (x.c 4), .int .i64 (x.c 5)]) ∧ Below w.heap.size w w' := by
  obtain ⟨_, _, _, _, _, _, _, _, _⟩ := h.cells
  have hlt := h.at9.lt
  clear h
  generalize x.c 0 = c0 at *
  generalize x.c 1 = c1 at *
  generalize x.c 2 = c2 at *
  generalize x.c 3 = c3 at *
  generalize x.c 4 = c4 at *
  generalize x.c 5 = c5 at *
  go_enter Try.func19, Try.ntmps19
  go_wp2_with fail
  have hX := atQ_new 52 w w.heap.size #[.int .i64 c0, .int .i64 c1, .int .i64 c2, .int .i64 c3, .int .i64 c4, .int .i64 c5] rfl
  obtain ⟨d0, d1, d2, d3, d4, d5⟩ := hX.cells6
  refine bodyPost_ret (v := .agg #[.int .i64 c0, .int .i64 c1, .int .i64 c2, .int .i64 c3, .int .i64 c4, .int .i64 c5]) (by simp [results, Try.results19, go_sem, d0, d1, d2, d3, d4, d5]) rfl ⟨rfl, (Below.refl _ _).alloc (Nat.le_refl _) _⟩
/-- There is such a place. -/
def neIs (a p : Int) : Bool := (decide (a = 0) || decide (a = 1)) && decide (1 ≤ p) && decide (p ≤ 15)
theorem neIs_any (a p : Int) (w : World) : Calls Try.prog 44 #[.agg #[.int .i64 a, .int .i64 p]] w fun e w' => e = .returned (.bool (neIs a p)) ∧ Below w.heap.size w w' := by
  have hX := atQ_new 73 w w.heap.size #[.int .i64 a, .int .i64 p] rfl
  have hb : Below w.heap.size w (w.alloc (.cells #[.int .i64 a, .int .i64 p] 73)) := (Below.refl _ _).alloc (Nat.le_refl _) _
  go_enter Try.func44, Try.ntmps44
  go_upto_region 1 with fail
  generalize (w.alloc (.cells #[.int .i64 a, .int .i64 p] 73)) = w2 at hX hb ⊢
  generalize hg0 : w.heap.size = g0 at hX hb ⊢
  have HG := Lib.hid hg0
  clear hg0
  obtain ⟨_, _⟩ := hX.cells2
  by_cases h0 : a = 0
  · subst h0
    by_cases h1 : 1 ≤ p
    · go_wp2_with fail
      go_ret
      exact ⟨by (simp [neIs, h1] <;> omega), by rw [HG.out]; exact hb⟩
    · go_wp2_with fail
      go_ret
      exact ⟨by (simp [neIs, h1] <;> omega), by rw [HG.out]; exact hb⟩
  · by_cases h2 : a = 1
    · subst h2
      by_cases h1 : 1 ≤ p
      · go_wp2_with fail
        go_ret
        exact ⟨by (simp [neIs, h1] <;> omega), by rw [HG.out]; exact hb⟩
      · go_wp2_with fail
        go_ret
        exact ⟨by (simp [neIs, h1] <;> omega), by rw [HG.out]; exact hb⟩
    · go_wp2_with fail
      go_ret
      exact ⟨by simp [neIs, h0, h2], by rw [HG.out]; exact hb⟩
end
end Go.Proofs.Ytbmbomojnljccaa
