/- A tally in memory; slices of bools; the tally's Next. -/
import Derived.Test.YtncpepbpphpkoaaLoC
import Derived.Test.YtncpepbpphpkoaaSoW
import Derived.Test.YtncpepbpphpkoaaSoN
import Derived.Deep.Grids
namespace Go.Proofs.Ytncpepbpphpkoaa
open Go.RowKit
set_option linter.unusedVariables false
/-- A slice of bools that came in. -/
def IsBools (w : World) (a : Option Addr) (n : Nat) (B : Nat → Bool) : Prop :=
  n = 0 ∨ ∃ b off, a = some ⟨b, off, none⟩ ∧ ∀ i, i < n → w.cell? ⟨b, off + i, none⟩ = some (.bool (B i))
theorem IsBools.later {w w' : World} {a : Option Addr} {n : Nat} {B : Nat → Bool} (h : IsBools w a n B) (hb : Below w.heap.size w w') : IsBools w' a n B := by
  rcases h with h | ⟨b, off, ha, hc⟩
  · exact .inl h
  · exact .inr ⟨b, off, ha, fun i hi => cell_later hb (hc i hi)⟩
theorem isBools_mk {w : World} {a : Addr} {n c : Nat} {B : Nat → Bool} (hl : n ≤ c) (h : ∀ i, i < c → w.cell? (a.add i) = some (.bool (B i))) : IsBools w (some a) n B := by
  by_cases h0 : n = 0
  · exact .inl h0
  · obtain ⟨b, off, spot⟩ := a
    have hspot : spot = none := by simpa [Addr.add] using World.cell?_spot (h 0 (by omega))
    subst hspot
    exact .inr ⟨b, off, rfl, fun j hj => by rw [← Go.WideShapes.add_plain]; exact h j (by omega)⟩
def At2 (T : TypeId) (W : World) (g : Nat) (c0 c1 : Value) : Prop := W.heap[g]? = some (.cells #[c0, c1] T (0, 0))
section
variable {T : TypeId} {W W' : World} {g b : Nat} {c0 c1 : Value}
theorem At2.cells (h : At2 T W g c0 c1) : W.cell? ⟨g, 0, none⟩ = some c0 ∧ W.cell? ⟨g, 1, none⟩ = some c1 := by
  have f := fun i => cell_of_row W g i _ _ (0, 0) h
  exact ⟨by simpa using f 0, by simpa using f 1⟩
theorem At2.free (h : At2 T W g c0 c1) (i : Nat) : W.frozen? ⟨g, i, none⟩ = false := by unfold At2 at h; simp [World.frozen?, h]
theorem At2.frees (h : At2 T W g c0 c1) : W.frozen? ⟨g, 0, none⟩ = false ∧ W.frozen? ⟨g, 1, none⟩ = false := ⟨h.free 0, h.free 1⟩
theorem At2.later (h : At2 T W g c0 c1) (hb : Below W.heap.size W W') : At2 T W' g c0 c1 := by unfold At2; rw [hb.block g (lt_of_block h)]; exact h
theorem At2.lt (h : At2 T W g c0 c1) : g < W.heap.size := lt_of_block h
theorem At2.alloc (h : At2 T W g c0 c1) (o : Obj) : At2 T (W.alloc o) g c0 c1 := so_old _ _ _ _ h
theorem At2.drew (h : At2 T W g c0 c1) : At2 T W.drew g c0 c1 := h
theorem At2.only (h : At2 T W g c0 c1) (hg : g ≠ b) (ho : Only b W W') : At2 T W' g c0 c1 := by unfold At2; rw [ho.block g hg]; exact h
theorem at2_new (T : TypeId) (W : World) (n : Nat) (c0 c1 : Value) (hn : n = W.heap.size) : At2 T (W.alloc (.cells #[c0, c1] T)) n c0 c1 := by subst hn; exact heap_alloc_new W _
theorem at2_store (h : At2 T W g c0 c1) (d0 d1 : Value) : At2 T ((W.setCell ⟨g, 0, none⟩ d0).setCell ⟨g, 1, none⟩ d1) g d0 d1 := by
  have h0 : At2 T (W.setCell ⟨g, 0, none⟩ d0) g d0 c1 := block_setCell h
  exact block_setCell h0
theorem store2_only (W : World) (g : Nat) (d0 d1 : Value) : Only g W ((W.setCell ⟨g, 0, none⟩ d0).setCell ⟨g, 1, none⟩ d1) := ((Only.refl _ _).setCell 0 _).setCell 1 _
end
def lostN (n : Int) : Int := min (max n (-8388608)) 8388607
theorem lostN_in (n : Int) (h0 : -8388608 ≤ n) (h1 : n ≤ 8388607) : lostN n = n := by unfold lostN; omega
theorem lo_S2 {T : TypeId} {W : World} {g b : Nat} {c0 c1 e0 e1 : Value} (h : At2 T W g c0 c1) (k : At2 T W b e0 e1) : W.cell? ⟨g, 0, none⟩ = some c0 ∧ W.cell? ⟨g, 1, none⟩ = some c1 ∧ W.cell? ⟨b, 0, none⟩ = some e0 ∧ W.cell? ⟨b, 1, none⟩ = some e1 := by
  obtain ⟨a0, a1⟩ := h.cells
  obtain ⟨f0, f1⟩ := k.cells
  exact ⟨a0, a1, f0, f1⟩
theorem lo_S {T : TypeId} {W w : World} {B g b : Nat} {c0 c1 e0 e1 : Value} (h : At2 T W g c0 c1) (k : At2 T W b e0 e1) (hb : Below B w W) : W.cell? ⟨g, 0, none⟩ = some c0 ∧ W.cell? ⟨g, 1, none⟩ = some c1 ∧ W.cell? ⟨b, 0, none⟩ = some e0 ∧ W.cell? ⟨b, 1, none⟩ = some e1 ∧ At2 T W g c0 c1 ∧ At2 T W b e0 e1 ∧ Below B w W := by
  obtain ⟨a0, a1⟩ := h.cells
  obtain ⟨f0, f1⟩ := k.cells
  exact ⟨a0, a1, f0, f1, h, k, hb⟩
set_option maxRecDepth 100000 in
set_option maxHeartbeats 3200000 in
theorem next_any (te tr : Int) (s : SR) (k : Nat) (hs : s.Ok k) (hk : k ≤ 10000) (t0 : -1099511627776 ≤ te) (t1 : te ≤ 1099511627776) (u0 : -1099511627776 ≤ tr) (u1 : tr ≤ 1099511627776) (w : World) :
    Calls Try.prog 27 #[.agg #[.int .i64 te, .int .i64 tr], s.val] w fun e w' => e = .returned (.tuple #[.agg #[.int .i64 s.exp, .int .i64 s.rc], .int .i64 (frac (s.exp - te) (s.rc - tr)), .int .i64 (lostN (s.exp - s.rc))]) ∧ Below w.heap.size w w' := by
  have hE : ∀ W : World, Calls Try.prog 17 #[s.val] W fun e w' => e = .returned (.int .i64 s.exp) ∧ Below W.heap.size W w' := fun W => soExp_any s k hs (by omega) W
  have e0 : -65536 ≤ s.exp ∧ s.exp ≤ 655425536 := by
    obtain ⟨m0, m1, c0, c1, a0, a1, d0, d1, p0, p1, r0, r1⟩ := hs
    unfold SR.exp
    split <;> omega
  obtain ⟨e0, e1⟩ := e0
  generalize s.exp = ex at hE e0 e1 ⊢
  obtain ⟨mx, cy, ba, bd, pr, rc⟩ := s
  have r0 : 0 ≤ rc := hs.r0
  have r1 : rc ≤ k := hs.r1
  clear hs
  simp only [SR.val] at *
  unfold lostN
  have hP := Lib.hid (fun W => part_any (ex - te) (rc - tr) (by omega) (by omega) (by omega) (by omega) W)
  have hw1 : IntKind.i64.wrap (ex - te) = ex - te := IntWalk.i64_in _ ⟨by omega, by omega⟩
  have hw2 : IntKind.i64.wrap (rc - tr) = rc - tr := IntWalk.i64_in _ ⟨by omega, by omega⟩
  generalize frac (ex - te) (rc - tr) = fr at hP ⊢
  have HE := Lib.hid hE
  clear hE
  have hA : At2 49 (((w.alloc (.cells #[.int .i64 te, .int .i64 tr] 49)).alloc (.cells #[.int .u16 mx, .int .i64 cy, .int .i64 ba, .int .i64 bd, .int .i64 pr, .int .i64 rc] 26)).alloc (.cells #[.int .i64 0, .int .i64 0] 49)) w.heap.size (.int .i64 te) (.int .i64 tr) := ((at2_new 49 w _ (.int .i64 te) (.int .i64 tr) rfl).alloc _).alloc _
  have hX : At6 26 (((w.alloc (.cells #[.int .i64 te, .int .i64 tr] 49)).alloc (.cells #[.int .u16 mx, .int .i64 cy, .int .i64 ba, .int .i64 bd, .int .i64 pr, .int .i64 rc] 26)).alloc (.cells #[.int .i64 0, .int .i64 0] 49)) (w.heap.size + 1) (.int .u16 mx) (.int .i64 cy) (.int .i64 ba) (.int .i64 bd) (.int .i64 pr) (.int .i64 rc) := (at6_new 26 _ _ (.int .u16 mx) (.int .i64 cy) (.int .i64 ba) (.int .i64 bd) (.int .i64 pr) (.int .i64 rc) (by simp)).alloc _
  have hR : At2 49 (((w.alloc (.cells #[.int .i64 te, .int .i64 tr] 49)).alloc (.cells #[.int .u16 mx, .int .i64 cy, .int .i64 ba, .int .i64 bd, .int .i64 pr, .int .i64 rc] 26)).alloc (.cells #[.int .i64 0, .int .i64 0] 49)) (w.heap.size + 1 + 1) (.int .i64 0) (.int .i64 0) := at2_new 49 _ _ _ _ (by simp)
  have hb : Below w.heap.size w (((w.alloc (.cells #[.int .i64 te, .int .i64 tr] 49)).alloc (.cells #[.int .u16 mx, .int .i64 cy, .int .i64 ba, .int .i64 bd, .int .i64 pr, .int .i64 rc] 26)).alloc (.cells #[.int .i64 0, .int .i64 0] 49)) := (((Below.refl _ _).alloc (Nat.le_refl _) _).alloc (by simp) _).alloc (by simp; omega) _
  go_enter Try.func27, Try.ntmps27
  go_upto_region 1 with fail
  generalize (((w.alloc (.cells #[.int .i64 te, .int .i64 tr] 49)).alloc (.cells #[.int .u16 mx, .int .i64 cy, .int .i64 ba, .int .i64 bd, .int .i64 pr, .int .i64 rc] 26)).alloc (.cells #[.int .i64 0, .int .i64 0] 49)) = w3 at hA hX hR hb ⊢
  generalize hg2 : w.heap.size + 1 + 1 = g2 at hR ⊢
  generalize hg1 : w.heap.size + 1 = g1 at hX hg2 ⊢
  generalize hg : w.heap.size = g at hA hb hg1 ⊢
  have n1 : g ≤ g1 := by omega
  have n2 : g ≤ g2 := by omega
  have n3 : g < g2 := by omega
  have HG := Lib.hid hg
  clear hg hg1 hg2
  have hl := hA.lt
  have hz : w3.drew.heap.size = w3.heap.size := rfl
  obtain ⟨_, _, _, _, _, _⟩ := hX.cells
  go_cut [7] (fun z wx => ∃ gn, z = .pointer (some ⟨gn, 0, none⟩) ∧ g2 < gn ∧ At2 49 wx gn (.int .i64 ex) (.int .i64 rc) ∧ At2 49 wx g (.int .i64 te) (.int .i64 tr) ∧ At2 49 wx g2 (.int .i64 0) (.int .i64 0) ∧ Below g w wx)
  case first =>
    have hXa := (hX.alloc (.cells #[.int .i64 0, .int .i64 0] 49)).drew
    obtain ⟨_, _, _, _, _, _⟩ := hXa.cells
    go_region_law (first | (go_simp; go_at_call 17; refine (HE.out (w3.alloc (.cells #[.int .i64 0, .int .i64 0] 49)).drew).mono ?_; rintro e w4 ⟨rfl, hb4⟩; have hA4 := (hA.alloc (.cells #[.int .i64 0, .int .i64 0] 49)).drew.later hb4; have hR4 := (hR.alloc (.cells #[.int .i64 0, .int .i64 0] 49)).drew.later hb4; have hX4 := (hX.alloc (.cells #[.int .i64 0, .int .i64 0] 49)).drew.later hb4; have hN4 := (at2_new 49 w3 _ (.int .i64 0) (.int .i64 0) rfl).drew.later hb4; have hq4 : Below g w w4 := (hb.alloc (by omega) _).drew.trans (hb4.mono (by show g ≤ (w3.alloc _).heap.size; simp; omega)); obtain ⟨_, _, _, _, _, _⟩ := hX4.cells; obtain ⟨_, _⟩ := hN4.cells; obtain ⟨_, _⟩ := hN4.frees) | (go_simp; go_at_call 17; refine (HE.out w3.drew).mono ?_; rintro e w5 ⟨rfl, hb5⟩; have hA5 := hA.drew.later hb5; have hR5 := hR.drew.later hb5; have hX5 := hX.drew.later hb5; have hX6 := hX5.alloc (.cells #[.int .i64 0, .int .i64 0] 49); have hq5 : Below g w w5 := hb.drew.trans (hb5.mono (by show g ≤ w3.heap.size; omega)); obtain ⟨_, _, _, _, _, _⟩ := hX5.cells; obtain ⟨_, _, _, _, _, _⟩ := hX6.cells))
    all_goals
      go_wp2_with fail
      go_meet
      first
      | exact ⟨_, rfl, hR5.lt, at2_new 49 w5 _ _ _ rfl, hA5.alloc _, hR5.alloc _, hq5.alloc (by have := hA5.lt; omega) _⟩
      | exact ⟨w3.heap.size, rfl, hR.lt, at2_store hN4 (.int .i64 ex) (.int .i64 rc), hA4.only (by omega) (store2_only w4 w3.heap.size (.int .i64 ex) (.int .i64 rc)), hR4.only (Nat.ne_of_lt hR.lt) (store2_only w4 w3.heap.size (.int .i64 ex) (.int .i64 rc)), hq4.trans ((store2_only w4 w3.heap.size (.int .i64 ex) (.int .i64 rc)).below (by omega))⟩
  case rest =>
  obtain ⟨gn, rfl, hgn, hN, hA2, hR2, hb2⟩ := hcut
  clear hA hX hR hb hz hl HE
  rename World => w4
  obtain ⟨_, _⟩ := hN.cells
  obtain ⟨_, _⟩ := hA2.cells

  go_upto_region 3 with fail
  have hgl := hA2.lt
  have hnl := hN.lt
  have hrl := hR2.lt
  have HS := Lib.hid (fun (W : World) (h : Below w4.heap.size w4 W) => lo_S2 (hN.later h) (hA2.later h))
  have ne1 : gn ≠ g2 := by omega
  have ne2 : g ≠ g2 := by omega
  have a0 := hN.drew.cells
  have a1 := hA2.drew.cells
  go_region_held3 (fun W => W.cell? ⟨gn, 0, none⟩ = some (.int .i64 ex) ∧ W.cell? ⟨gn, 1, none⟩ = some (.int .i64 rc) ∧ W.cell? ⟨g, 0, none⟩ = some (.int .i64 te) ∧ W.cell? ⟨g, 1, none⟩ = some (.int .i64 tr)) (first | (go_keep; done) | exact HS.out _ (Below.drew (Below.refl _ _)) | exact HS.out _ hc6 | exact lo_S2 ((hN.later hc6).only ne1 (store2_only _ _ _ _)) ((hA2.later hc6).only ne2 (store2_only _ _ _ _))) (first | (go_at_call 34; refine (hP.out w4.drew).mono ?_; rintro e w6 ⟨rfl, hb6⟩; have hc6 : Below w4.heap.size w4 w6 := Below.trans (Below.drew (Below.refl _ _)) hb6; have hR6 := hR2.later hc6; obtain ⟨_, _⟩ := hR6.cells; obtain ⟨_, _⟩ := hR6.frees))
  all_goals
    have hZ := at2_store hR6 (.int .i64 ex) (.int .i64 rc)
    have hbz := (hb2.trans (hc6.mono (by omega))).trans ((store2_only w6 g2 (.int .i64 ex) (.int .i64 rc)).below n2)
    obtain ⟨d0, d1⟩ := hZ.cells
    go_wp2_with fail
    refine bodyPost_ret (v := .tuple #[.agg #[.int .i64 ex, .int .i64 rc], .int .i64 fr, .int .i64 (min (max (ex - rc) (-8388608)) 8388607)]) (by simp [results, Try.results27, go_sem, d0, d1]) rfl ⟨rfl, by rw [HG.out]; exact hbz⟩
end Go.Proofs.Ytncpepbpphpkoaa
