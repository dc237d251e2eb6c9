/- LifePlays: what both sides do. -/
import Derived.Test.YtggcfoegpadepaaDoorLfL
import Derived.Test.YtggcfoegpadepaaDoorLfI
import Derived.Test.YtggcfoegpadepaaDoorLfG
import Derived.Test.YtggcfoegpadepaaDoorLfH
import Derived.Test.YtggcfoegpadepaaDoorLfJ
import Derived.Test.YtggcfoegpadepaaDoorLfK
import Derived.Test.YtggcfoegpadepaaDoorRecs
namespace Go.Proofs.YtggcfoegpadepaaDoor
open Go.RowKit
set_option linter.unusedVariables false
theorem LL.rep_h (l : LL) (c : LC) (f now : Int) : (l.rep c f now).h = now := by
  unfold LL.rep; repeat' split
  all_goals rfl
/-- A tick, of both. -/
theorem tick_t (l : LL) (c : LC) (now : Int) (n : Nat) (h1 k1 : Int) (c1 : LC) (nw ns hs ks : Int) (q : Bool) (hl : l.cnt = ⟨n, h1, k1⟩) (hc : c.clip = c1) (hw : am 0 now 1099511627776 = nw) (HR : Hid (LL.tick ⟨n, h1, k1⟩ c1 nw = ⟨ns, hs, ks⟩)) (HQ : Hid ((!decide ((n : Int) = 3 ∨ nw - h1 ≤ c1.t)) = q)) (w : World) :
    Calls Tryd.prog 10 #[l.val, c.val, .int .i64 now] w fun e w' => e = .returned (.tuple #[.agg #[.int .i64 ns, .int .i64 hs, .int .i64 ks], .bool q]) ∧ Below w.heap.size w w' := by
  have e := HR.out
  have hq := HQ.out
  have ho := l.cnt_ok
  rw [hl] at ho
  have o2 := ho.s1
  simp only at o2
  rw [LL.tick] at e
  simp only at e
  by_cases h3 : n = 3
  · have hp : (n : Int) = 3 ∨ nw - h1 ≤ c1.t := Or.inl (by omega)
    rw [if_pos hp] at e
    simp only [LL.mk.injEq] at e
    obtain ⟨e1, e2, e3⟩ := e
    subst e1 e2 e3
    rw [← hq, decide_eq_true hp]
    exact tick0_t l c now n h1 k1 c1 nw hl hc hw h3 w
  by_cases ht : nw - h1 ≤ c1.t
  · have hp : (n : Int) = 3 ∨ nw - h1 ≤ c1.t := Or.inr ht
    rw [if_pos hp] at e
    simp only [LL.mk.injEq] at e
    obtain ⟨e1, e2, e3⟩ := e
    subst e1 e2 e3
    rw [← hq, decide_eq_true hp]
    exact tick1_t l c now n h1 k1 c1 nw hl hc hw (by omega) ht w
  · have hp : ¬ ((n : Int) = 3 ∨ nw - h1 ≤ c1.t) := by omega
    rw [if_neg hp] at e
    simp only [LL.mk.injEq] at e
    obtain ⟨e1, e2, e3⟩ := e
    subst e1 e2 e3
    rw [← hq, decide_eq_false hp]
    exact tick2_t l c now n h1 k1 c1 nw hl hc hw (by omega) (by omega) w
theorem refTick_t (l : LL) (c : LC) (now n h1 k1 : Int) (c1 : LC) (nw ns hs ks : Int) (q : Bool) (hl : l.cnt = ⟨n, h1, k1⟩) (hc : c.clip = c1) (hw : am 0 now 1099511627776 = nw) (HR : Hid (LL.tick ⟨n, h1, k1⟩ c1 nw = ⟨ns, hs, ks⟩)) (HQ : Hid ((!decide (n = 3 ∨ nw - h1 ≤ c1.t)) = q)) (w : World) :
    Calls Tryd.prog 11 #[l.val, c.val, .int .i64 now] w fun e w' => e = .returned (.tuple #[.agg #[.int .i64 ns, .int .i64 hs, .int .i64 ks], .bool q]) ∧ Below w.heap.size w w' := by
  have e := HR.out
  have hq := HQ.out
  rw [LL.tick] at e
  simp only at e
  by_cases h3 : n = 3
  · have hp : n = 3 ∨ nw - h1 ≤ c1.t := Or.inl h3
    rw [if_pos hp] at e
    simp only [LL.mk.injEq] at e
    obtain ⟨e1, e2, e3⟩ := e
    subst e1 e2 e3
    rw [← hq, decide_eq_true hp]
    exact refTick0_t l c now _ _ _ c1 nw hl hc hw h3 w
  by_cases ht : nw - h1 ≤ c1.t
  · have hp : n = 3 ∨ nw - h1 ≤ c1.t := Or.inr ht
    rw [if_pos hp] at e
    simp only [LL.mk.injEq] at e
    obtain ⟨e1, e2, e3⟩ := e
    subst e1 e2 e3
    rw [← hq, decide_eq_true hp]
    exact refTick1_t l c now _ _ _ c1 nw hl hc hw h3 ht w
  · have hp : ¬ (n = 3 ∨ nw - h1 ≤ c1.t) := by omega
    rw [if_neg hp] at e
    simp only [LL.mk.injEq] at e
    obtain ⟨e1, e2, e3⟩ := e
    subst e1 e2 e3
    rw [← hq, decide_eq_false hp]
    exact refTick2_t l c now n h1 k1 c1 nw hl hc hw h3 (by omega) w
/-- An act, of both sides: the same. -/
def LL.act (l : LL) (c : LC) (rp : Bool) (f now : Int) : LL := if rp then l.cnt.rep c.clip f (am 0 now 1099511627776) else l.cnt.tick c.clip (am 0 now 1099511627776)
theorem LL.act_ok (l : LL) (c : LC) (rp : Bool) (f now : Int) : (l.act c rp f now).Ok := by
  unfold LL.act
  split
  · exact LL.rep_ok l.cnt_ok _ _ _ (am_lo _ _ _ (by omega)) (am_hi _ _ _)
  · exact LL.tick_ok l.cnt_ok _ _
theorem rep_both (l : LL) (c : LC) (f now : Int) (ns hs ks : Int) (h : l.act c true f now = ⟨ns, hs, ks⟩) : ∃ q : Bool,
    (∀ w : World, Tb w → Calls Tryd.prog 8 #[l.val, c.val, .int .i64 f, .int .i64 now] w fun e w' => e = .returned (.tuple #[.agg #[.int .i64 ns, .int .i64 hs, .int .i64 ks], .bool q]) ∧ Below w.heap.size w w') ∧
    (∀ w : World, Calls Tryd.prog 9 #[l.val, c.val, .int .i64 f, .int .i64 now] w fun e w' => e = .returned (.tuple #[.agg #[.int .i64 ns, .int .i64 hs, .int .i64 ks], .bool q]) ∧ Below w.heap.size w w') := by
  have ho := l.cnt_ok
  obtain ⟨⟨s1, h1, k1⟩, hl⟩ : ∃ r, l.cnt = r := ⟨_, rfl⟩
  simp only [LL.act, if_true] at h
  rw [hl] at ho h
  obtain ⟨n, hn⟩ := Int.eq_ofNat_of_zero_le ho.s0
  simp only at hn
  subst hn
  obtain rfl : hs = am 0 now 1099511627776 := by have := LL.rep_h ⟨n, h1, k1⟩ c.clip f (am 0 now 1099511627776); rw [h] at this; exact this
  exact ⟨(ns != (n : Int)), fun w ht => rep_t l c f now n h1 k1 c.clip _ ns ks _ hl rfl rfl (Lib.hid h) (Lib.hid rfl) w ht, fun w => refRep_t l c f now n h1 k1 c.clip _ ns ks _ hl rfl rfl (Lib.hid h) (Lib.hid rfl) w⟩
theorem tick_both (l : LL) (c : LC) (f now : Int) (ns hs ks : Int) (h : l.act c false f now = ⟨ns, hs, ks⟩) : ∃ q : Bool,
    (∀ w : World, Calls Tryd.prog 10 #[l.val, c.val, .int .i64 now] w fun e w' => e = .returned (.tuple #[.agg #[.int .i64 ns, .int .i64 hs, .int .i64 ks], .bool q]) ∧ Below w.heap.size w w') ∧
    (∀ w : World, Calls Tryd.prog 11 #[l.val, c.val, .int .i64 now] w fun e w' => e = .returned (.tuple #[.agg #[.int .i64 ns, .int .i64 hs, .int .i64 ks], .bool q]) ∧ Below w.heap.size w w') := by
  have ho := l.cnt_ok
  obtain ⟨⟨s1, h1, k1⟩, hl⟩ : ∃ r, l.cnt = r := ⟨_, rfl⟩
  simp only [LL.act, if_false, Bool.false_eq_true] at h
  rw [hl] at ho h
  obtain ⟨n, hn⟩ := Int.eq_ofNat_of_zero_le ho.s0
  simp only at hn
  subst hn
  exact ⟨_, fun w => tick_t l c now n h1 k1 c.clip _ ns hs ks _ hl rfl rfl (Lib.hid h) (Lib.hid rfl) w, fun w => refTick_t l c now n h1 k1 c.clip _ ns hs ks _ hl rfl rfl (Lib.hid h) (Lib.hid rfl) w⟩
def lfActP : List (Value → Prop) := [isBool, isNum .i64, isNum .i64]
theorem lfAct_at {w wr : World} {a : Option Addr} {n k : Nat} (h : Recs lfActP w a n) (hb : Below w.heap.size w wr) (hk : k < n) :
    ∃ b off, a = some ⟨b, off, none⟩ ∧ b < w.heap.size ∧ ∃ (rp : Bool) (f l : Int), wr.cell? ⟨b, off + k * 3, none⟩ = some (.bool rp) ∧ wr.cell? ⟨b, off + k * 3 + 1, none⟩ = some (.int .i64 f) ∧ wr.cell? ⟨b, off + k * 3 + 2, none⟩ = some (.int .i64 l) := by
  rcases h with h | ⟨b, off, rfl, hlt, hc⟩
  · omega
  · obtain ⟨v0, h0, rp, rfl⟩ := hc k hk 0 _ rfl
    obtain ⟨v1, h1, f, rfl, _⟩ := hc k hk 1 _ rfl
    obtain ⟨v2, h2, l, rfl, _⟩ := hc k hk 2 _ rfl
    refine ⟨b, off, rfl, hlt, rp, f, l, ?_, ?_, ?_⟩
    · rw [hb.cell (p := ⟨b, off + k * 3, none⟩) hlt]; exact h0
    · rw [hb.cell (p := ⟨b, off + k * 3 + 1, none⟩) hlt]; exact h1
    · rw [hb.cell (p := ⟨b, off + k * 3 + 2, none⟩) hlt]; exact h2
end Go.Proofs.YtggcfoegpadepaaDoor
