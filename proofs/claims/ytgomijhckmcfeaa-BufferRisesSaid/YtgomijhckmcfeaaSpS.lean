/- split: the document's Put, of what may not be and of what was there. -/
import Derived.Test.YtgomijhckmcfeaaSpQ
namespace Go.Proofs.Ytgomijhckmcfeaa
open Go.RowKit
set_option linter.unusedVariables false
set_option linter.unusedSimpArgs false
open splitBack
theorem AtS.cells4 {T : TypeId} {W : World} {g : Nat} {c0 c1 c2 c3 : Value} (h : AtS T W g #[c0, c1, c2, c3]) : W.cell? ⟨g, 0, none⟩ = some c0 ∧ W.cell? ⟨g, 1, none⟩ = some c1 ∧ W.cell? ⟨g, 2, none⟩ = some c2 ∧ W.cell? ⟨g, 3, none⟩ = some c3 := ⟨h.cell 0, h.cell 1, h.cell 2, h.cell 3⟩
theorem AtS.frees4 {T : TypeId} {W : World} {g : Nat} {cs : Array Value} (h : AtS T W g cs) : W.frozen? ⟨g, 0, none⟩ = false ∧ W.frozen? ⟨g, 1, none⟩ = false ∧ W.frozen? ⟨g, 2, none⟩ = false ∧ W.frozen? ⟨g, 3, none⟩ = false := ⟨h.free 0, h.free 1, h.free 2, h.free 3⟩
theorem AtS.ne {T T' : TypeId} {W : World} {g k : Nat} {cs cs' : Array Value} (h : AtS T W g cs) (h' : W.heap[k]? = some (.cells cs' T' (0, 0))) (hT : T ≠ T') : g ≠ k := fun e => by
  subst e
  unfold AtS at h
  rw [h] at h'
  cases h'
  exact hT rfl
theorem atS_put4 {T : TypeId} {W : World} {g : Nat} {a b c d : Value} (a' b' c' d' : Value) (h : AtS T W g #[a, b, c, d]) : AtS T ((((W.setCell ⟨g, 0, none⟩ a').setCell ⟨g, 1, none⟩ b').setCell ⟨g, 2, none⟩ c').setCell ⟨g, 3, none⟩ d') g #[a', b', c', d'] := by
  have h0 : AtS T (W.setCell ⟨g, 0, none⟩ a') g #[a', b, c, d] := block_setCell h
  have h1 : AtS T ((W.setCell ⟨g, 0, none⟩ a').setCell ⟨g, 1, none⟩ b') g #[a', b', c, d] := block_setCell h0
  have h2 : AtS T (((W.setCell ⟨g, 0, none⟩ a').setCell ⟨g, 1, none⟩ b').setCell ⟨g, 2, none⟩ c') g #[a', b', c', d] := block_setCell h1
  exact block_setCell h2
theorem spPut4_only (W : World) (g : Nat) (a b c d : Value) : Only g W ((((W.setCell ⟨g, 0, none⟩ a).setCell ⟨g, 1, none⟩ b).setCell ⟨g, 2, none⟩ c).setCell ⟨g, 3, none⟩ d) := ((((Only.refl g W).setCell 0 a).setCell 1 b).setCell 2 c).setCell 3 d
/-- What the head of Put leaves: the box and the answer's cells. -/
theorem spTwoBoxes (T : TypeId) (w : World) (a b c d a' b' c' d' : Value) : AtS T ((w.alloc (.cells #[a, b, c, d] T)).alloc (.cells #[a', b', c', d'] T)) w.heap.size #[a, b, c, d] ∧ AtS T ((w.alloc (.cells #[a, b, c, d] T)).alloc (.cells #[a', b', c', d'] T)) (w.heap.size + 1) #[a', b', c', d'] ∧ Below w.heap.size w ((w.alloc (.cells #[a, b, c, d] T)).alloc (.cells #[a', b', c', d'] T)) ∧ ((w.alloc (.cells #[a, b, c, d] T)).alloc (.cells #[a', b', c', d'] T)).heap.size = w.heap.size + 2 :=
  ⟨(atS_new T w w.heap.size _ rfl).later ((Below.refl _ _).alloc (Nat.le_refl _) _), atS_new T _ _ _ (by simp), ((Below.refl _ _).alloc (Nat.le_refl _) _).alloc (by simp) _, by simp⟩
set_option maxRecDepth 100000 in
set_option maxHeartbeats 1600000 in
theorem refSpPutBad {w : World} {N hc pc : Nat} {ha pa : Option Addr} (t now i cnt : Int) (s : ByteArray) (h2 : N ≤ 255) (hbad : ¬ (cnt = (N : Int) ∧ 0 ≤ i ∧ i < cnt)) :
    Calls Try.prog 55 #[.agg #[.int .i64 t, .int .i64 now, .slice ha N hc, .slice pa N pc], .int .i64 i, .int .i64 cnt, .string s] w fun e w' => e = .returned (.tuple #[.agg #[.int .i64 t, .int .i64 now, .slice ha N hc, .slice pa N pc], .int .i64 4]) ∧ Below w.heap.size w w' := by
  obtain ⟨hX0, hX1, hb, hsz⟩ := spTwoBoxes 87 w (.int .i64 t) (.int .i64 now) (.slice ha N hc) (.slice pa N pc) (.int .i64 0) (.int .i64 0) (.slice none 0 0) (.slice none 0 0)
  go_enter Try.func55, Try.ntmps55
  go_upto_region 1 with fail
  generalize ((w.alloc (.cells #[.int .i64 t, .int .i64 now, .slice ha N hc, .slice pa N pc] 87)).alloc (.cells #[.int .i64 0, .int .i64 0, .slice none 0 0, .slice none 0 0] 87)) = w2 at *
  obtain ⟨B, hBe⟩ : ∃ B, w.heap.size = B := ⟨_, rfl⟩
  have HBE := Lib.hid hBe
  rw [hBe] at hX0 hX1 hb hsz ⊢
  clear hBe
  obtain ⟨_, _, _, _⟩ := hX0.cells4
  obtain ⟨_, _, _, _⟩ := hX1.frees4
  obtain ⟨_, _, _, _⟩ := hX1.cells4
  have hZ := atS_put4 (.int .i64 t) (.int .i64 now) (.slice ha N hc) (.slice pa N pc) hX1
  have HBZ := Lib.hid (hb.trans ((spPut4_only w2 (B + 1) (.int .i64 t) (.int .i64 now) (.slice ha N hc) (.slice pa N pc)).below (Nat.le_succ B)))
  obtain ⟨d0, d1, d2, d3⟩ := hZ.cells4
  clear hZ hX0 hX1
  by_cases h1 : cnt = (N : Int)
  · subst h1
    by_cases h3 : i < 0
    · have hd1 : decide (i < 0) = true := decide_eq_true h3
      go_wp2_with fail
      generalize ((((w2.setCell ⟨B + 1, 0, none⟩ (.int .i64 t)).setCell ⟨B + 1, 1, none⟩ (.int .i64 now)).setCell ⟨B + 1, 2, none⟩ (.slice ha N hc)).setCell ⟨B + 1, 3, none⟩ (.slice pa N pc)) = w7 at HBZ d0 d1 d2 d3 ⊢
      refine bodyPost_ret (v := .tuple #[.agg #[.int .i64 t, .int .i64 now, .slice ha N hc, .slice pa N pc], .int .i64 4]) (by simp [results, Try.results55, go_sem, d0, d1, d2, d3]) rfl ⟨rfl, by rw [HBE.out]; exact HBZ.out⟩
    · have hd1 : decide (i < 0) = false := decide_eq_false h3
      have hd2 : decide ((N : Int) ≤ i) = true := decide_eq_true (by omega)
      go_wp2_with fail
      generalize ((((w2.setCell ⟨B + 1, 0, none⟩ (.int .i64 t)).setCell ⟨B + 1, 1, none⟩ (.int .i64 now)).setCell ⟨B + 1, 2, none⟩ (.slice ha N hc)).setCell ⟨B + 1, 3, none⟩ (.slice pa N pc)) = w7 at HBZ d0 d1 d2 d3 ⊢
      refine bodyPost_ret (v := .tuple #[.agg #[.int .i64 t, .int .i64 now, .slice ha N hc, .slice pa N pc], .int .i64 4]) (by simp [results, Try.results55, go_sem, d0, d1, d2, d3]) rfl ⟨rfl, by rw [HBE.out]; exact HBZ.out⟩
  · have hd0 : (cnt == (N : Int)) = false := by simp; exact h1
    go_wp2_with fail
    generalize ((((w2.setCell ⟨B + 1, 0, none⟩ (.int .i64 t)).setCell ⟨B + 1, 1, none⟩ (.int .i64 now)).setCell ⟨B + 1, 2, none⟩ (.slice ha N hc)).setCell ⟨B + 1, 3, none⟩ (.slice pa N pc)) = w7 at HBZ d0 d1 d2 d3 ⊢
    refine bodyPost_ret (v := .tuple #[.agg #[.int .i64 t, .int .i64 now, .slice ha N hc, .slice pa N pc], .int .i64 4]) (by simp [results, Try.results55, go_sem, d0, d1, d2, d3]) rfl ⟨rfl, by rw [HBE.out]; exact HBZ.out⟩
set_option maxRecDepth 100000 in
set_option maxHeartbeats 1600000 in
theorem refSpPutTwice {w : World} {b N hc pc : Nat} {ha pa : Option Addr} (t now : Int) (i : Nat) (s d : ByteArray) {P : List (Option ByteArray)} (hP : P.length = N) (h2 : N ≤ 255) (h : OwnE w b 4 1 (.slice ha N hc) N (hadV P)) (hi : P[i]? = some (some d)) :
    Calls Try.prog 55 #[.agg #[.int .i64 t, .int .i64 now, .slice ha N hc, .slice pa N pc], .int .i64 i, .int .i64 N, .string s] w fun e w' => e = .returned (.tuple #[.agg #[.int .i64 t, .int .i64 now, .slice ha N hc, .slice pa N pc], .int .i64 3]) ∧ Below w.heap.size w w' := by
  have hil : i < N := by have := (List.getElem?_eq_some_iff.1 hi).1; omega
  obtain ⟨g, off, rfl, hbg, hgl, _, hcl⟩ := had_cells hP (by omega) h
  have hci := (hcl i _ hi).1
  obtain ⟨hX0, hX1, hb, hsz⟩ := spTwoBoxes 87 w (.int .i64 t) (.int .i64 now) (.slice (some ⟨g, off, none⟩) N hc) (.slice pa N pc) (.int .i64 0) (.int .i64 0) (.slice none 0 0) (.slice none 0 0)
  clear h hcl hi hP
  go_enter Try.func55, Try.ntmps55
  go_upto_region 1 with fail
  generalize ((w.alloc (.cells #[.int .i64 t, .int .i64 now, .slice (some ⟨g, off, none⟩) N hc, .slice pa N pc] 87)).alloc (.cells #[.int .i64 0, .int .i64 0, .slice none 0 0, .slice none 0 0] 87)) = w2 at *
  obtain ⟨B, hBe⟩ : ∃ B, w.heap.size = B := ⟨_, rfl⟩
  have HBE := Lib.hid hBe
  rw [hBe] at hX0 hX1 hb hsz hgl ⊢
  clear hBe
  have hc2 : w2.cell? ⟨g, off + i, none⟩ = some (.bool true) := (hb.cell hgl).trans hci
  obtain ⟨_, _, _, _⟩ := hX0.cells4
  obtain ⟨_, _, _, _⟩ := hX1.frees4
  obtain ⟨_, _, _, _⟩ := hX1.cells4
  have hZ := atS_put4 (.int .i64 t) (.int .i64 now) (.slice (some ⟨g, off, none⟩) N hc) (.slice pa N pc) hX1
  have HBZ := Lib.hid (hb.trans ((spPut4_only w2 (B + 1) (.int .i64 t) (.int .i64 now) (.slice (some ⟨g, off, none⟩) N hc) (.slice pa N pc)).below (Nat.le_succ B)))
  obtain ⟨d0, d1, d2, d3⟩ := hZ.cells4
  clear hZ hX0 hX1 hci
  have hd1 : decide ((i : Int) < 0) = false := by simp
  have hd2 : decide (N ≤ i) = false := decide_eq_false (by omega)
  go_wp2_with fail
  generalize ((((w2.setCell ⟨B + 1, 0, none⟩ (.int .i64 t)).setCell ⟨B + 1, 1, none⟩ (.int .i64 now)).setCell ⟨B + 1, 2, none⟩ (.slice (some ⟨g, off, none⟩) N hc)).setCell ⟨B + 1, 3, none⟩ (.slice pa N pc)) = w7 at HBZ d0 d1 d2 d3 ⊢
  refine bodyPost_ret (v := .tuple #[.agg #[.int .i64 t, .int .i64 now, .slice (some ⟨g, off, none⟩) N hc, .slice pa N pc], .int .i64 3]) (by simp [results, Try.results55, go_sem, d0, d1, d2, d3]) rfl ⟨rfl, by rw [HBE.out]; exact HBZ.out⟩
end Go.Proofs.Ytgomijhckmcfeaa
