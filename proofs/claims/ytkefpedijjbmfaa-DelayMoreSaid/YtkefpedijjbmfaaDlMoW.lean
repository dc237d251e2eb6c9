/- DelayMore: the walk. -/
import Derived.Test.YtkefpedijjbmfaaDlG
namespace Go.Proofs.Ytkefpedijjbmfaa
open Go.RowKit
set_option linter.unusedVariables false
theorem dlSA {T : TypeId} {w W : World} {B g : Nat} {c0 c1 c2 : Value} (hB : B ≤ g) (hX : At3 T W g c0 c1 c2) (hb : Below B w W) (o : Obj) :
    (W.alloc o).cell? ⟨g, 0, none⟩ = some c0 ∧ (W.alloc o).cell? ⟨g, 1, none⟩ = some c1 ∧ (W.alloc o).cell? ⟨g, 2, none⟩ = some c2 ∧ At3 T (W.alloc o) g c0 c1 c2 ∧ Below B w (W.alloc o) :=
  dlS (hX.alloc o) (hb.alloc (by have := hX.lt; omega) o)
theorem dlSA2 {T : TypeId} {w W : World} {B g : Nat} {c0 c1 c2 : Value} (hB : B ≤ g) (hX : At3 T W g c0 c1 c2) (hb : Below B w W) (o o2 : Obj) :
    ((W.alloc o).alloc o2).cell? ⟨g, 0, none⟩ = some c0 ∧ ((W.alloc o).alloc o2).cell? ⟨g, 1, none⟩ = some c1 ∧ ((W.alloc o).alloc o2).cell? ⟨g, 2, none⟩ = some c2 ∧ At3 T ((W.alloc o).alloc o2) g c0 c1 c2 ∧ Below B w ((W.alloc o).alloc o2) :=
  dlSA hB (hX.alloc o) (hb.alloc (by have := hX.lt; omega) o) o2
theorem dlSA3 {T : TypeId} {w W W4 W5 : World} {B g : Nat} {c0 c1 c2 : Value} (hB : B ≤ g) (hX : At3 T W g c0 c1 c2) (hb : Below B w W) (k4 : Below W.heap.size W W4) (k5 : Below W4.heap.size W4 W5) (o o2 : Obj) :
    ((W5.alloc o).alloc o2).cell? ⟨g, 0, none⟩ = some c0 ∧ ((W5.alloc o).alloc o2).cell? ⟨g, 1, none⟩ = some c1 ∧ ((W5.alloc o).alloc o2).cell? ⟨g, 2, none⟩ = some c2 ∧ At3 T ((W5.alloc o).alloc o2) g c0 c1 c2 ∧ Below B w ((W5.alloc o).alloc o2) := by
  have h4 := hX.later k4
  have b4 := hb.trans (k4.mono (by have := hX.lt; omega))
  exact dlSA2 hB (h4.later k5) (b4.trans (k5.mono (by have := h4.lt; omega))) o o2
section
variable {T : TypeId} {w w5 : World} {B g1 g2 : Nat} {z0 z1 z2 y0 y1 y2 p0 p1 p2 q0 q1 q2 : Value}
/-- How the two boxes end. -/
def Ends (T : TypeId) (B : Nat) (w : World) (p0 p1 p2 q0 q1 q2 : Value) (v u : Value) (wx : World) : Prop :=
  ∃ g1 g2, v = .pointer (some ⟨g1, 0, none⟩) ∧ u = .pointer (some ⟨g2, 0, none⟩) ∧ At3 T wx g1 p0 p1 p2 ∧ At3 T wx g2 q0 q1 q2 ∧ Below B w wx
theorem ends_oo (hA : At3 T w5 g1 z0 z1 z2) (hB : At3 T w5 g2 y0 y1 y2) (hb : Below B w w5) (h01 : B ≤ g1) (h02 : B ≤ g2) (h12 : g1 ≠ g2) :
    Ends T B w p0 p1 p2 q0 q1 q2 (.pointer (some ⟨g1, 0, none⟩)) (.pointer (some ⟨g2, 0, none⟩)) ((((((w5.setCell ⟨g1, 0, none⟩ p0).setCell ⟨g1, 1, none⟩ p1).setCell ⟨g1, 2, none⟩ p2).setCell ⟨g2, 0, none⟩ q0).setCell ⟨g2, 1, none⟩ q1).setCell ⟨g2, 2, none⟩ q2) := by
  have o1 := store3_only w5 g1 p0 p1 p2
  have o2 := store3_only (((w5.setCell ⟨g1, 0, none⟩ p0).setCell ⟨g1, 1, none⟩ p1).setCell ⟨g1, 2, none⟩ p2) g2 q0 q1 q2
  exact ⟨g1, g2, rfl, rfl, (at3_store hA p0 p1 p2).only h12 o2, at3_store (hB.only (fun e => h12 e.symm) o1) q0 q1 q2, (hb.trans (o1.below h01)).trans (o2.below h02)⟩
theorem ends_on (hA : At3 T w5 g1 z0 z1 z2) (hb : Below B w w5) (h01 : B ≤ g1) :
    Ends T B w p0 p1 p2 q0 q1 q2 (.pointer (some ⟨g1, 0, none⟩)) (.pointer (some ⟨w5.heap.size, 0, none⟩)) ((((w5.setCell ⟨g1, 0, none⟩ p0).setCell ⟨g1, 1, none⟩ p1).setCell ⟨g1, 2, none⟩ p2).alloc (.cells #[q0, q1, q2] T)) := by
  have o1 := store3_only w5 g1 p0 p1 p2
  have hl := hA.lt
  exact ⟨g1, w5.heap.size, rfl, rfl, (at3_store hA p0 p1 p2).alloc _, at3_new T _ _ q0 q1 q2 (by rw [o1.size]), (hb.trans (o1.below h01)).alloc (by rw [o1.size]; omega) _⟩
theorem ends_no (hB : At3 T w5 g2 y0 y1 y2) (hb : Below B w w5) (h02 : B ≤ g2) :
    Ends T B w p0 p1 p2 q0 q1 q2 (.pointer (some ⟨w5.heap.size, 0, none⟩)) (.pointer (some ⟨g2, 0, none⟩)) ((((w5.setCell ⟨g2, 0, none⟩ q0).setCell ⟨g2, 1, none⟩ q1).setCell ⟨g2, 2, none⟩ q2).alloc (.cells #[p0, p1, p2] T)) := by
  have o1 := store3_only w5 g2 q0 q1 q2
  have hl := hB.lt
  exact ⟨w5.heap.size, g2, rfl, rfl, at3_new T _ _ p0 p1 p2 (by rw [o1.size]), (at3_store hB q0 q1 q2).alloc _, (hb.trans (o1.below h02)).alloc (by rw [o1.size]; omega) _⟩
theorem ends_nn (hb : Below B w w5) (hB : B ≤ w5.heap.size) :
    Ends T B w p0 p1 p2 q0 q1 q2 (.pointer (some ⟨w5.heap.size, 0, none⟩)) (.pointer (some ⟨w5.heap.size + 1, 0, none⟩)) ((w5.alloc (.cells #[p0, p1, p2] T)).alloc (.cells #[q0, q1, q2] T)) :=
  ⟨w5.heap.size, w5.heap.size + 1, rfl, rfl, (at3_new T w5 _ p0 p1 p2 rfl).alloc _, at3_new T _ _ q0 q1 q2 (by simp), (hb.alloc hB _).alloc (by simp; omega) _⟩
theorem ends_mm (hb : Below B w w5) (hB : B ≤ w5.heap.size) :
    Ends T B w p0 p1 p2 q0 q1 q2 (.pointer (some ⟨w5.heap.size + 1, 0, none⟩)) (.pointer (some ⟨w5.heap.size, 0, none⟩)) ((w5.alloc (.cells #[q0, q1, q2] T)).alloc (.cells #[p0, p1, p2] T)) :=
  ⟨w5.heap.size + 1, w5.heap.size, rfl, rfl, at3_new T _ _ p0 p1 p2 (by simp), (at3_new T w5 _ q0 q1 q2 rfl).alloc _, (hb.alloc hB _).alloc (by simp; omega) _⟩
end
namespace delayMore
set_option maxRecDepth 100000 in
set_option maxHeartbeats 12800000 in
theorem walk (a00 a01 a02 a1 a2 : Int) (w00 : (Lit.int .i64 a00).wf = true) (w01 : (Lit.int .i64 a01).wf = true) (w02 : (Lit.int .i64 a02).wf = true) (w1 : (Lit.int .i64 a1).wf = true) (w2 : (Lit.int .i64 a2).wf = true) (w : World) :
    Calls Try.prog 6 #[.agg #[.int .i64 a00, .int .i64 a01, .int .i64 a02], .int .i64 a1, .int .i64 a2] w fun e w' => e = .returned (.bool true) ∧ Below w.heap.size w w' := by
  clear w00 w01 w02 w1 w2
  have HA := Lib.hid (fun W => dlAwake_any W)
  obtain ⟨lo, hlo⟩ : ∃ z, min a1 a2 = z := ⟨_, rfl⟩
  obtain ⟨hi, hhi⟩ : ∃ z, max a1 a2 = z := ⟨_, rfl⟩
  have hlh : lo ≤ hi := by omega
  have HJ1 := Lib.hid (fun W => dlJit_any ⟨a00, a01, a02⟩ lo W)
  have HJ2 := Lib.hid (fun W => dlJit_any ⟨a00, a01, a02⟩ hi W)
  have HL1 := Lib.hid (fun W => dlLate_any ⟨a00, a01, a02⟩ lo W)
  have HL2 := Lib.hid (fun W => dlLate_any ⟨a00, a01, a02⟩ hi W)
  have hj := DL.jit_mono ⟨a00, a01, a02⟩ lo hi hlh
  have hL := DL.late_mono ⟨a00, a01, a02⟩ lo hi hlh
  have ja : ∀ j, (DL.jit ⟨a00, a01, a02⟩ j).a = (DL.fit ⟨a00, a01, a02⟩).a ∧ (DL.jit ⟨a00, a01, a02⟩ j).b = (DL.fit ⟨a00, a01, a02⟩).b := fun j => ⟨rfl, rfl⟩
  obtain ⟨l1, m1⟩ := ja lo
  obtain ⟨l2, m2⟩ := ja hi
  clear ja hlh
  generalize DL.jit ⟨a00, a01, a02⟩ lo = p at HJ1 hj l1 m1
  generalize DL.jit ⟨a00, a01, a02⟩ hi = q at HJ2 hj l2 m2
  generalize DL.late ⟨a00, a01, a02⟩ lo = u at HL1 hL
  generalize DL.late ⟨a00, a01, a02⟩ hi = v at HL2 hL
  generalize DL.fit ⟨a00, a01, a02⟩ = f at l1 m1 l2 m2
  obtain ⟨l, m, n⟩ := f
  obtain ⟨p0, p1, p2⟩ := p
  obtain ⟨q0, q1, q2⟩ := q
  obtain ⟨u0, u1, u2⟩ := u
  obtain ⟨v0, v1, v2⟩ := v
  simp only at l1 m1 l2 m2 hj hL
  subst p0 p1 q0 q1
  simp only [DL.val] at HJ1 HJ2 HL1 HL2
  have hX0 : At3 23 (w.alloc (.cells #[.int .i64 a00, .int .i64 a01, .int .i64 a02] 23)) w.heap.size (.int .i64 a00) (.int .i64 a01) (.int .i64 a02) := at3_new 23 _ _ (.int .i64 a00) (.int .i64 a01) (.int .i64 a02) rfl
  have hb : Below w.heap.size w (w.alloc (.cells #[.int .i64 a00, .int .i64 a01, .int .i64 a02] 23)) := (Below.refl _ _).alloc (Nat.le_refl _) _
  go_enter Try.func6, Try.ntmps6
  go_upto_region 1 with fail
  generalize (w.alloc (.cells #[.int .i64 a00, .int .i64 a01, .int .i64 a02] 23)) = w2 at hX0 hb ⊢
  generalize hg0 : w.heap.size = g0 at hX0 hb ⊢
  have HG := Lib.hid hg0
  clear hg0
  obtain ⟨_, _, _⟩ := hX0.frees
  obtain ⟨_, _, _⟩ := hX0.cells
  go_wp2_with fail
  refine (HA.out _).mono ?_
  rintro e w3 ⟨rfl, hk3⟩
  have hX0_3 := hX0.later hk3
  have hb3 := hb.trans (hk3.mono (by have := hX0.lt; omega))
  obtain ⟨_, _, _⟩ := hX0_3.frees
  obtain ⟨_, _, _⟩ := hX0_3.cells
  go_upto_region 4 with fail
  have BQ0 : ∀ W' : World, Below w3.drew.heap.size w3.drew W' → Below w3.heap.size w3 W' := fun W' k => (Below.refl _ _).drew.trans k
  have BQ1 : ∀ (o : Obj) (W' : World), Below (w3.alloc o).drew.heap.size (w3.alloc o).drew W' → Below w3.heap.size w3 W' := fun o W' k => (((Below.refl _ _).alloc (Nat.le_refl _) o).drew).trans (k.mono (by simp))
  have BQ2 : ∀ (o o2 : Obj) (W' : World), Below ((w3.alloc o).alloc o2).drew.heap.size ((w3.alloc o).alloc o2).drew W' → Below w3.heap.size w3 W' := fun o o2 W' k => ((((Below.refl _ _).alloc (Nat.le_refl _) o).alloc (by simp) o2).drew).trans (k.mono (by simp; omega))
  have CQ1 : ∀ (V : World) (o : Obj) (W' : World), Below (V.alloc o).heap.size (V.alloc o) W' → Below V.heap.size V W' := fun V o W' k => ((Below.refl _ _).alloc (Nat.le_refl _) o).trans (k.mono (by simp))
  have CQ2 : ∀ (V : World) (o o2 : Obj) (W' : World), Below ((V.alloc o).alloc o2).heap.size ((V.alloc o).alloc o2) W' → Below V.heap.size V W' := fun V o o2 W' k => (((Below.refl _ _).alloc (Nat.le_refl _) o).alloc (by simp) o2).trans (k.mono (by simp; omega))
  have hcD := hX0_3.drew.cells
  obtain ⟨_, _, _⟩ := hcD
  have hcA0 : ∀ o : Obj, (w3.alloc o).drew.cell? ⟨g0, 0, none⟩ = some (.int .i64 a00) := fun o => (hX0_3.alloc o).drew.cells.1
  have hcA1 : ∀ o : Obj, (w3.alloc o).drew.cell? ⟨g0, 1, none⟩ = some (.int .i64 a01) := fun o => (hX0_3.alloc o).drew.cells.2.1
  have hcA2 : ∀ o : Obj, (w3.alloc o).drew.cell? ⟨g0, 2, none⟩ = some (.int .i64 a02) := fun o => (hX0_3.alloc o).drew.cells.2.2
  have hcB0 : ∀ o o2 : Obj, ((w3.alloc o).alloc o2).drew.cell? ⟨g0, 0, none⟩ = some (.int .i64 a00) := fun o o2 => ((hX0_3.alloc o).alloc o2).drew.cells.1
  have hcB1 : ∀ o o2 : Obj, ((w3.alloc o).alloc o2).drew.cell? ⟨g0, 1, none⟩ = some (.int .i64 a01) := fun o o2 => ((hX0_3.alloc o).alloc o2).drew.cells.2.1
  have hcB2 : ∀ o o2 : Obj, ((w3.alloc o).alloc o2).drew.cell? ⟨g0, 2, none⟩ = some (.int .i64 a02) := fun o o2 => ((hX0_3.alloc o).alloc o2).drew.cells.2.2
  have hN := hX0_3.lt
  go_cut [9, 10] (fun y z wx => Ends 27 w3.heap.size w3 (.int .i64 l) (.int .i64 m) (.int .i64 p2) (.int .i64 l) (.int .i64 m) (.int .i64 q2) y z wx)
  case first =>
    go_region_law (first | (go_simp; go_at_call_of 10 (Value.int .i64 lo); refine (HJ1.out _).mono ?_; rintro e w4 ⟨rfl, hk4⟩; (first | (have hq4 : Below w3.heap.size w3 w4 := (by with_reducible exact BQ0 _ hk4)) | (have hq4 : Below w3.heap.size w3 w4 := (by with_reducible exact BQ1 _ _ hk4); have hz4 := At3.later (at3_new 27 w3 _ (.int .i64 0) (.int .i64 0) (.int .i64 0) rfl).drew hk4; have hlz4 := hz4.lt; have hnz4 : w3.heap.size ≠ w4.heap.size := (by omega); have hnz4' : w4.heap.size ≠ w3.heap.size := (by omega)) | (have hq4 : Below w3.heap.size w3 w4 := (by with_reducible exact BQ2 _ _ _ hk4); have hz4 := At3.later ((at3_new 27 w3 _ (.int .i64 0) (.int .i64 0) (.int .i64 0) rfl).alloc _).drew hk4; have hzz4 := At3.later (at3_new 27 (w3.alloc _) (w3.heap.size + 1) (.int .i64 0) (.int .i64 0) (.int .i64 0) (by simp)).drew hk4)); have hX4 := hX0_3.later hq4; obtain ⟨_, _, _⟩ := hX4.cells; have hcC0 : ∀ o : Obj, (w4.alloc o).cell? ⟨g0, 0, none⟩ = some (.int .i64 a00) := fun o => (hX4.alloc o).cells.1; have hcC1 : ∀ o : Obj, (w4.alloc o).cell? ⟨g0, 1, none⟩ = some (.int .i64 a01) := fun o => (hX4.alloc o).cells.2.1; have hcC2 : ∀ o : Obj, (w4.alloc o).cell? ⟨g0, 2, none⟩ = some (.int .i64 a02) := fun o => (hX4.alloc o).cells.2.2; have hcE0 : ∀ o o2 : Obj, ((w4.alloc o).alloc o2).cell? ⟨g0, 0, none⟩ = some (.int .i64 a00) := fun o o2 => ((hX4.alloc o).alloc o2).cells.1; have hcE1 : ∀ o o2 : Obj, ((w4.alloc o).alloc o2).cell? ⟨g0, 1, none⟩ = some (.int .i64 a01) := fun o o2 => ((hX4.alloc o).alloc o2).cells.2.1; have hcE2 : ∀ o o2 : Obj, ((w4.alloc o).alloc o2).cell? ⟨g0, 2, none⟩ = some (.int .i64 a02) := fun o o2 => ((hX4.alloc o).alloc o2).cells.2.2) | (go_simp; go_at_call 10; refine (HJ2.out _).mono ?_; rintro e w5 ⟨rfl, hk5⟩; (first | (have hq5 : Below w4.heap.size w4 w5 := (by with_reducible exact hk5)) | (have hq5 : Below w4.heap.size w4 w5 := (by with_reducible exact CQ1 _ _ _ hk5); have hy5 := At3.later (at3_new 27 w4 _ (.int .i64 0) (.int .i64 0) (.int .i64 0) rfl) hk5; have hly5 := hy5.lt; obtain ⟨_, _, _⟩ := hy5.cells; obtain ⟨_, _, _⟩ := hy5.frees) | (have hq5 : Below w4.heap.size w4 w5 := (by with_reducible exact CQ2 _ _ _ _ hk5); have hy5 := At3.later ((at3_new 27 w4 _ (.int .i64 0) (.int .i64 0) (.int .i64 0) rfl).alloc _) hk5; have hyy5 := At3.later (at3_new 27 (w4.alloc _) (w4.heap.size + 1) (.int .i64 0) (.int .i64 0) (.int .i64 0) (by simp)) hk5; have hlyy5 := hyy5.lt; have hly5 := hy5.lt; obtain ⟨_, _, _⟩ := hy5.cells; obtain ⟨_, _, _⟩ := hy5.frees; obtain ⟨_, _, _⟩ := hyy5.cells; obtain ⟨_, _, _⟩ := hyy5.frees)); have hX5 := hX4.later hq5; have hb5 : Below w3.heap.size w3 w5 := hq4.trans (hq5.mono hq4.size); obtain ⟨_, _, _⟩ := hX5.cells; (try (have hz5 : At3 27 w5 w3.heap.size (.int .i64 0) (.int .i64 0) (.int .i64 0) := (by with_reducible exact hz4.later hq5); have hl5 := hz5.lt; obtain ⟨_, _, _⟩ := hz5.cells; obtain ⟨_, _, _⟩ := hz5.frees)); (try (have hzz5 : At3 27 w5 (w3.heap.size + 1) (.int .i64 0) (.int .i64 0) (.int .i64 0) := (by with_reducible exact hzz4.later hq5); have hll5 := hzz5.lt; obtain ⟨_, _, _⟩ := hzz5.cells; obtain ⟨_, _, _⟩ := hzz5.frees))))
    all_goals
      have hsz4 := hq4.size
      have hsz5 := hq5.size
      go_wp2_with fail
      go_meet
      first
      | with_reducible exact ends_nn hb5 hb5.size
      | with_reducible exact ends_mm hb5 hb5.size
      | with_reducible exact ends_on (by assumption) hb5 (by omega)
      | with_reducible exact ends_no (by assumption) hb5 (by omega)
      | with_reducible exact ends_oo (by assumption) (by assumption) hb5 (by omega) (by omega) (by omega)
  case rest =>
  obtain ⟨ga, gb, rfl, rfl, hP_4, hQ_4, hk_4⟩ := hcut
  rename World => w_4
  have hX_4 := hX0_3.later hk_4
  have hb_4 := hb3.trans (hk_4.mono (by have := hX0_3.lt; omega))
  clear BQ0 BQ1 BQ2 CQ1 CQ2 hcA0 hcA1 hcA2 hcB0 hcB1 hcB2 hN
  obtain ⟨_, _, _⟩ := hX_4.cells
  go_upto_region 5 with fail
  have BQ0 : ∀ W' : World, Below w_4.drew.heap.size w_4.drew W' → Below w_4.heap.size w_4 W' := fun W' k => (Below.refl _ _).drew.trans k
  have BQ1 : ∀ (o : Obj) (W' : World), Below (w_4.alloc o).drew.heap.size (w_4.alloc o).drew W' → Below w_4.heap.size w_4 W' := fun o W' k => (((Below.refl _ _).alloc (Nat.le_refl _) o).drew).trans (k.mono (by simp))
  have BQ2 : ∀ (o o2 : Obj) (W' : World), Below ((w_4.alloc o).alloc o2).drew.heap.size ((w_4.alloc o).alloc o2).drew W' → Below w_4.heap.size w_4 W' := fun o o2 W' k => ((((Below.refl _ _).alloc (Nat.le_refl _) o).alloc (by simp) o2).drew).trans (k.mono (by simp; omega))
  have CQ1 : ∀ (V : World) (o : Obj) (W' : World), Below (V.alloc o).heap.size (V.alloc o) W' → Below V.heap.size V W' := fun V o W' k => ((Below.refl _ _).alloc (Nat.le_refl _) o).trans (k.mono (by simp))
  have CQ2 : ∀ (V : World) (o o2 : Obj) (W' : World), Below ((V.alloc o).alloc o2).heap.size ((V.alloc o).alloc o2) W' → Below V.heap.size V W' := fun V o o2 W' k => (((Below.refl _ _).alloc (Nat.le_refl _) o).alloc (by simp) o2).trans (k.mono (by simp; omega))
  have hcD := hX_4.drew.cells
  obtain ⟨_, _, _⟩ := hcD
  have hcA0 : ∀ o : Obj, (w_4.alloc o).drew.cell? ⟨g0, 0, none⟩ = some (.int .i64 a00) := fun o => (hX_4.alloc o).drew.cells.1
  have hcA1 : ∀ o : Obj, (w_4.alloc o).drew.cell? ⟨g0, 1, none⟩ = some (.int .i64 a01) := fun o => (hX_4.alloc o).drew.cells.2.1
  have hcA2 : ∀ o : Obj, (w_4.alloc o).drew.cell? ⟨g0, 2, none⟩ = some (.int .i64 a02) := fun o => (hX_4.alloc o).drew.cells.2.2
  have hcB0 : ∀ o o2 : Obj, ((w_4.alloc o).alloc o2).drew.cell? ⟨g0, 0, none⟩ = some (.int .i64 a00) := fun o o2 => ((hX_4.alloc o).alloc o2).drew.cells.1
  have hcB1 : ∀ o o2 : Obj, ((w_4.alloc o).alloc o2).drew.cell? ⟨g0, 1, none⟩ = some (.int .i64 a01) := fun o o2 => ((hX_4.alloc o).alloc o2).drew.cells.2.1
  have hcB2 : ∀ o o2 : Obj, ((w_4.alloc o).alloc o2).drew.cell? ⟨g0, 2, none⟩ = some (.int .i64 a02) := fun o o2 => ((hX_4.alloc o).alloc o2).drew.cells.2.2
  have hN := hX_4.lt
  go_cut [11, 12] (fun y z wx => Ends 27 w_4.heap.size w_4 (.int .i64 u0) (.int .i64 u1) (.int .i64 u2) (.int .i64 v0) (.int .i64 v1) (.int .i64 v2) y z wx)
  case first =>
    go_region_law (first | (go_simp; go_at_call_of 8 (Value.int .i64 lo); refine (HL1.out _).mono ?_; rintro e w4 ⟨rfl, hk4⟩; (first | (have hq4 : Below w_4.heap.size w_4 w4 := (by with_reducible exact BQ0 _ hk4)) | (have hq4 : Below w_4.heap.size w_4 w4 := (by with_reducible exact BQ1 _ _ hk4); have hz4 := At3.later (at3_new 27 w_4 _ (.int .i64 0) (.int .i64 0) (.int .i64 0) rfl).drew hk4; have hlz4 := hz4.lt; have hnz4 : w_4.heap.size ≠ w4.heap.size := (by omega); have hnz4' : w4.heap.size ≠ w_4.heap.size := (by omega)) | (have hq4 : Below w_4.heap.size w_4 w4 := (by with_reducible exact BQ2 _ _ _ hk4); have hz4 := At3.later ((at3_new 27 w_4 _ (.int .i64 0) (.int .i64 0) (.int .i64 0) rfl).alloc _).drew hk4; have hzz4 := At3.later (at3_new 27 (w_4.alloc _) (w_4.heap.size + 1) (.int .i64 0) (.int .i64 0) (.int .i64 0) (by simp)).drew hk4)); have hX4 := hX_4.later hq4; obtain ⟨_, _, _⟩ := hX4.cells; have hcC0 : ∀ o : Obj, (w4.alloc o).cell? ⟨g0, 0, none⟩ = some (.int .i64 a00) := fun o => (hX4.alloc o).cells.1; have hcC1 : ∀ o : Obj, (w4.alloc o).cell? ⟨g0, 1, none⟩ = some (.int .i64 a01) := fun o => (hX4.alloc o).cells.2.1; have hcC2 : ∀ o : Obj, (w4.alloc o).cell? ⟨g0, 2, none⟩ = some (.int .i64 a02) := fun o => (hX4.alloc o).cells.2.2; have hcE0 : ∀ o o2 : Obj, ((w4.alloc o).alloc o2).cell? ⟨g0, 0, none⟩ = some (.int .i64 a00) := fun o o2 => ((hX4.alloc o).alloc o2).cells.1; have hcE1 : ∀ o o2 : Obj, ((w4.alloc o).alloc o2).cell? ⟨g0, 1, none⟩ = some (.int .i64 a01) := fun o o2 => ((hX4.alloc o).alloc o2).cells.2.1; have hcE2 : ∀ o o2 : Obj, ((w4.alloc o).alloc o2).cell? ⟨g0, 2, none⟩ = some (.int .i64 a02) := fun o o2 => ((hX4.alloc o).alloc o2).cells.2.2) | (go_simp; go_at_call 8; refine (HL2.out _).mono ?_; rintro e w5 ⟨rfl, hk5⟩; (first | (have hq5 : Below w4.heap.size w4 w5 := (by with_reducible exact hk5)) | (have hq5 : Below w4.heap.size w4 w5 := (by with_reducible exact CQ1 _ _ _ hk5); have hy5 := At3.later (at3_new 27 w4 _ (.int .i64 0) (.int .i64 0) (.int .i64 0) rfl) hk5; have hly5 := hy5.lt; obtain ⟨_, _, _⟩ := hy5.cells; obtain ⟨_, _, _⟩ := hy5.frees) | (have hq5 : Below w4.heap.size w4 w5 := (by with_reducible exact CQ2 _ _ _ _ hk5); have hy5 := At3.later ((at3_new 27 w4 _ (.int .i64 0) (.int .i64 0) (.int .i64 0) rfl).alloc _) hk5; have hyy5 := At3.later (at3_new 27 (w4.alloc _) (w4.heap.size + 1) (.int .i64 0) (.int .i64 0) (.int .i64 0) (by simp)) hk5; have hlyy5 := hyy5.lt; have hly5 := hy5.lt; obtain ⟨_, _, _⟩ := hy5.cells; obtain ⟨_, _, _⟩ := hy5.frees; obtain ⟨_, _, _⟩ := hyy5.cells; obtain ⟨_, _, _⟩ := hyy5.frees)); have hX5 := hX4.later hq5; have hb5 : Below w_4.heap.size w_4 w5 := hq4.trans (hq5.mono hq4.size); obtain ⟨_, _, _⟩ := hX5.cells; (try (have hz5 : At3 27 w5 w_4.heap.size (.int .i64 0) (.int .i64 0) (.int .i64 0) := (by with_reducible exact hz4.later hq5); have hl5 := hz5.lt; obtain ⟨_, _, _⟩ := hz5.cells; obtain ⟨_, _, _⟩ := hz5.frees)); (try (have hzz5 : At3 27 w5 (w_4.heap.size + 1) (.int .i64 0) (.int .i64 0) (.int .i64 0) := (by with_reducible exact hzz4.later hq5); have hll5 := hzz5.lt; obtain ⟨_, _, _⟩ := hzz5.cells; obtain ⟨_, _, _⟩ := hzz5.frees))))
    all_goals
      have hsz4 := hq4.size
      have hsz5 := hq5.size
      go_wp2_with fail
      go_meet
      first
      | with_reducible exact ends_nn hb5 hb5.size
      | with_reducible exact ends_mm hb5 hb5.size
      | with_reducible exact ends_on (by assumption) hb5 (by omega)
      | with_reducible exact ends_no (by assumption) hb5 (by omega)
      | with_reducible exact ends_oo (by assumption) (by assumption) hb5 (by omega) (by omega) (by omega)
  case rest =>
  obtain ⟨gc, gd, rfl, rfl, hP_5, hQ_5, hk_5⟩ := hcut
  rename World => w_5
  have hX_5 := hX_4.later hk_5
  have hb_5 := hb_4.trans (hk_5.mono (by have := hX_4.lt; omega))
  clear BQ0 BQ1 BQ2 CQ1 CQ2 hcA0 hcA1 hcA2 hcB0 hcB1 hcB2 hN
  obtain ⟨_, _, _⟩ := hX_5.cells
  have hPz := hP_4.later hk_5
  have hQz := hQ_4.later hk_5
  obtain ⟨_, _, _⟩ := hPz.cells
  obtain ⟨_, _, _⟩ := hQz.cells
  obtain ⟨_, _, _⟩ := hP_5.cells
  obtain ⟨_, _, _⟩ := hQ_5.cells
  go_wp2_with fail
  go_ret
  exact ⟨by simp, by rw [HG.out]; exact hb_5⟩
end delayMore
end Go.Proofs.Ytkefpedijjbmfaa
