/- NetPlays: what holds ahead of each round. -/
import Derived.Test.YtbmbomojnljccaaNeIs
namespace Go.Proofs.Ytbmbomojnljccaa
open Go.RowKit Go.Maps Go.ChangeShapes Go.WideShapes Go.Deep
set_option linter.unusedVariables false
set_option linter.unusedSimpArgs false
def neActQ : List (Value → Prop) := [isNum .i64, isNum .i64, isNum .i64, isNum .i64, isNum .i64, isNum .u32, isText]
theorem recs_openV {H : Type} {enc : TypeId × Value → H} {P : Program} {w : World} {base : Nat} {spare : Nat → Bool} {held : Bool} {t e : TypeId} {fs : Array Field} {fuel : Nat} {c : Value} {x : DataW H × List MemPlace}
    (ps : List (Value → Prop)) (ht : P.underlying t = some (.slice e)) (he : P.underlying e = some (.struct fs)) (hone : oneCellFields P fs = true) (hC : P.cellsOf e = fs.size) (hps : ps.length = fs.size) (h0 : 0 < fs.size)
    (hF : ∀ (j : Nat) (f : Field) (p : Value → Prop), fs[j]? = some f → ps[j]? = some p → ∀ n v y, DataW.trod enc P w base spare held n f.type [v] = some y → p v)
    (h : DataW.trod enc P w base spare held fuel t [c] = some x) : ∃ pp len cap, c = .slice pp len cap ∧ Recs ps w pp len ∧ len ≤ 9223372036854775807 := by
  have hc : ∃ pp len cap, c = .slice pp len cap := by
    rcases open_rec ht he hone hC h with h1 | ⟨a, l, c', hcs, _⟩
    · simp at h1; exact ⟨_, _, _, h1⟩
    · simp at hcs; exact ⟨_, _, _, hcs⟩
  obtain ⟨pp, len, cap, rfl⟩ := hc
  exact ⟨pp, len, cap, rfl, recs_open ps ht he hone hC hps h0 hF h⟩
theorem u32_nat {z : Int} (h : (Lit.int .u32 z).wf = true) : ∃ m : Nat, z = m ∧ m < 4294967296 := by
  simp [Lit.wf, IntKind.min, IntKind.max, IntKind.signed, IntKind.bits] at h
  exact ⟨z.toNat, by omega, by omega⟩
theorem neActQ_at {w wr : World} {a : Option Addr} {n k : Nat} (h : Recs neActQ w a n) (hb : Below w.heap.size w wr) (hk : k < n) :
    ∃ b off, a = some ⟨b, off, none⟩ ∧ b < w.heap.size ∧ ∃ (kd wy pt ix bt : Int) (mk : Nat) (d : ByteArray), wf2 wy pt ∧ mk < 4294967296 ∧ d.size ≤ 9223372036854775807 ∧ wr.cell? ⟨b, off + k * 7, none⟩ = some (.int .i64 kd) ∧ wr.cell? ⟨b, off + k * 7 + 1, none⟩ = some (.int .i64 wy) ∧ wr.cell? ⟨b, off + k * 7 + 2, none⟩ = some (.int .i64 pt) ∧ wr.cell? ⟨b, off + k * 7 + 3, none⟩ = some (.int .i64 ix) ∧ wr.cell? ⟨b, off + k * 7 + 4, none⟩ = some (.int .i64 bt) ∧ wr.cell? ⟨b, off + k * 7 + 5, none⟩ = some (.int .u32 (mk : Int)) ∧ wr.cell? ⟨b, off + k * 7 + 6, none⟩ = some (.string d) := by
  rcases h with h | ⟨b, off, rfl, hlt, hc⟩
  · omega
  · obtain ⟨v0, h0, kd, rfl, _⟩ := hc k hk 0 _ rfl
    obtain ⟨v1, h1, wy, rfl, q1⟩ := hc k hk 1 _ rfl
    obtain ⟨v2, h2, pt, rfl, q2⟩ := hc k hk 2 _ rfl
    obtain ⟨v3, h3, ix, rfl, q3⟩ := hc k hk 3 _ rfl
    obtain ⟨v4, h4, at_, rfl, q4⟩ := hc k hk 4 _ rfl
    obtain ⟨v5, h5, mk0, rfl, q5⟩ := hc k hk 5 _ rfl
    obtain ⟨v6, h6, d, rfl, wd⟩ := hc k hk 6 _ rfl
    obtain ⟨mk, rfl, hmk⟩ := u32_nat q5
    have e := fun i => hb.cell (p := ⟨b, off + k * 7 + i, none⟩) hlt
    refine ⟨b, off, rfl, hlt, kd, wy, pt, ix, at_, mk, d, ⟨q1, q2⟩, hmk, by unfold maxLen at wd; omega, ?_, ?_, ?_, ?_, ?_, ?_, ?_⟩
    · rw [hb.cell (p := ⟨b, off + k * 7, none⟩) hlt]; exact h0
    · rw [e 1]; exact h1
    · rw [e 2]; exact h2
    · rw [e 3]; exact h3
    · rw [e 4]; exact h4
    · rw [e 5]; exact h5
    · rw [e 6]; exact h6
theorem cells7_keep {W W' : World} {b o : Nat} {c0 c1 c2 c3 c4 c5 c6 : Value} (h : W.cell? ⟨b, o, none⟩ = some c0 ∧ W.cell? ⟨b, o + 1, none⟩ = some c1 ∧ W.cell? ⟨b, o + 2, none⟩ = some c2 ∧ W.cell? ⟨b, o + 3, none⟩ = some c3 ∧ W.cell? ⟨b, o + 4, none⟩ = some c4 ∧ W.cell? ⟨b, o + 5, none⟩ = some c5 ∧ W.cell? ⟨b, o + 6, none⟩ = some c6) (e : W'.heap[b]? = W.heap[b]?) :
    W'.cell? ⟨b, o, none⟩ = some c0 ∧ W'.cell? ⟨b, o + 1, none⟩ = some c1 ∧ W'.cell? ⟨b, o + 2, none⟩ = some c2 ∧ W'.cell? ⟨b, o + 3, none⟩ = some c3 ∧ W'.cell? ⟨b, o + 4, none⟩ = some c4 ∧ W'.cell? ⟨b, o + 5, none⟩ = some c5 ∧ W'.cell? ⟨b, o + 6, none⟩ = some c6 := by
  have f := fun i => cell_same (i := i) e
  exact ⟨by rw [f]; exact h.1, by rw [f]; exact h.2.1, by rw [f]; exact h.2.2.1, by rw [f]; exact h.2.2.2.1, by rw [f]; exact h.2.2.2.2.1, by rw [f]; exact h.2.2.2.2.2.1, by rw [f]; exact h.2.2.2.2.2.2⟩
/-- The document's Net in its box. -/
def neBox (a0 a1 : Int) (v : Value) (x : NE) : Array Value := #[.int .i64 (am 1 a0 1024), .int .i64 (am 1 a1 16777216), v, .int .i64 (x.c 0), .int .i64 (x.c 1), .int .i64 (x.c 2), .int .i64 (x.c 3), .int .i64 (x.c 4), .int .i64 (x.c 5)]
/-- Both sides at a world. -/
structure NeBoth (W : World) (a0 a1 : Int) (B gn gx n : Nat) (x : NE) (v : Value) (l : List OD) (k : Nat) : Prop where
  nin : NIn W B gn n x
  eq : NeEq x l
  row : OwnE W 0 84 3 v l.length (odV l)
  at9 : AtQ 34 W gx (neBox a0 a1 v x)
  lm : x.m = a0
  lb : x.b = a1
  nk : n ≤ k
  len : l.length ≤ k
  ct : ∀ i, 0 ≤ x.c i ∧ x.c i ≤ k
section
variable {W W' : World} {a0 a1 : Int} {B gn gx n : Nat} {x : NE} {v : Value} {l : List OD} {k : Nat}
theorem NeBoth.later (h : NeBoth W a0 a1 B gn gx n x v l k) (hb : Below W.heap.size W W') : NeBoth W' a0 a1 B gn gx n x v l k :=
  ⟨h.nin.later hb, h.eq, h.row.later hb, h.at9.later hb, h.lm, h.lb, h.nk, h.len, h.ct⟩
/-- Behind a call, and its store. -/
theorem NeBoth.next {W0 : World} (h : NeBoth W0 a0 a1 B gn gx n x v l k) {x' : NE} {v' : Value} {l' : List OD} (hd : NeDone W0 W B gn n x x' v' l l') (ho : Only gx W W') (hz : AtQ 34 W' gx (neBox a0 a1 v' x')) : NeBoth W' a0 a1 B gn gx (n + 1) x' v' l' (k + 1) := by
  have hx := h.at9.nkeep h.nin hd.keep (by decide) (by decide)
  refine ⟨hd.nin.only hx ho (by decide) (by decide), hd.eq, ?_, hz, by rw [hd.lim.1]; exact h.lm, by rw [hd.lim.2]; exact h.lb, by have := h.nk; omega, by have := hd.len; have := h.len; omega, fun i => ?_⟩
  · exact hd.row.keep (by rw [ho.size]; exact Nat.le_refl _) (fun q cs q1 q2 => ho.block q (fun e => by
      subst e
      exact blkQ_ne (T := 84) (T' := 34) q2 hx (by decide) rfl))
  · have := hd.ct i
    have := h.ct i
    omega
/-- The one beside it stays. -/
theorem NeBoth.beside {W0 : World} (h : NeBoth W0 a0 a1 B gn gx n x v l k) {B2 gc gy n2 k2 : Nat} {x2 : NE} {v2 : Value} {l2 : List OD} (h2 : NeBoth W0 a0 a1 B2 gc gy n2 x2 v2 l2 k2) (hfar : ∀ q, NFoot gn x q → q < B2) (hgy : gx ≠ gy)
    {x' : NE} {v' : Value} {l' : List OD} (hd : NeDone W0 W B2 gc n2 x2 x' v' l2 l') (ho : Only gy W W') : NeBoth W' a0 a1 B gn gx n x v l k := by
  have hy := h2.at9.nkeep h2.nin hd.keep (by decide) (by decide)
  have hn : NIn W B gn n x := h.nin.keep hd.keep.size (fun q hq => hd.keep.block q (h.nin.foot_lt hq).2 (fun e => by
    have := (h2.nin.foot_lt e).1
    have := hfar q hq
    omega))
  have hr := h.row.nkeep h2.nin hd.keep (by decide) (by decide)
  have ha := h.at9.nkeep h2.nin hd.keep (by decide) (by decide)
  refine ⟨hn.only hy ho (by decide) (by decide), h.eq, ?_, ha.only hgy ho, h.lm, h.lb, h.nk, h.len, h.ct⟩
  exact hr.keep (by rw [ho.size]; exact Nat.le_refl _) (fun q cs q1 q2 => ho.block q (fun e => by
    subst e
    exact blkQ_ne (T := 84) (T' := 34) q2 hy (by decide) rfl))
end
/-- The act's 'do' of both sides, in their box. -/
theorem NeBoth.do_any {W : World} {a0 a1 : Int} {B gn gx n : Nat} {x : NE} {v : Value} {l : List OD} {k : Nat} (h : NeBoth W a0 a1 B gn gx n x v l k) (hk : k ≤ 60000) (kd wy pt ix bt : Int) (mk : Nat) (hmk : mk < 4294967296) (d : ByteArray) (hwf : wf2 wy pt) (wds : d.size ≤ 9223372036854775807) :
    Calls Try.prog 9 #[.pointer (some ⟨gn, 0, none⟩), .agg (neBox a0 a1 v x), .agg #[.int .i64 kd, .int .i64 wy, .int .i64 pt, .int .i64 ix, .int .i64 bt, .int .u32 (mk : Int), .string d]] W fun e w' => ∃ (x' : NE) (v' : Value) (l' : List OD), e = .returned (.tuple #[.agg (neBox a0 a1 v' x'), .bool true]) ∧ NeDone W w' B gn n x x' v' l l' := by
  have hh := neDo_any h.nin h.eq h.row (by have := h.nk; omega) (by have := h.len; omega) (fun i => by have := h.ct i; omega) kd wy pt ix bt mk hmk d hwf wds
  rw [h.lm, h.lb] at hh
  exact hh
theorem NeBoth.is_any {W : World} {a0 a1 : Int} {B gn gx n : Nat} {x : NE} {v : Value} {l : List OD} {k : Nat} (h : NeBoth W a0 a1 B gn gx n x v l k) (hk : k ≤ 60000) :
    Calls Try.prog 10 #[.pointer (some ⟨gn, 0, none⟩), .agg (neBox a0 a1 v x)] W fun e w' => e = .returned (.bool true) ∧ Below W.heap.size W w' := by
  have hh := neIsSame h.nin h.eq h.row (by have := h.len; omega)
  rw [h.lm, h.lb] at hh
  exact hh
theorem NeBoth.drew {W : World} {a0 a1 : Int} {B gn gx n : Nat} {x : NE} {v : Value} {l : List OD} {k : Nat} (h : NeBoth W a0 a1 B gn gx n x v l k) : NeBoth W.drew a0 a1 B gn gx n x v l k := h.later (Below.refl _ _).drew
end Go.Proofs.Ytbmbomojnljccaa
