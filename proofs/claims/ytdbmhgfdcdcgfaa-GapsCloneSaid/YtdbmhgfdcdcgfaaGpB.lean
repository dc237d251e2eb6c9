/- gaps: what is in memory; Clip, New, tick, Given. -/
import Derived.Test.YtdbmhgfdcdcgfaaGpM
namespace Go.Proofs.Ytdbmhgfdcdcgfaa
open Go.RowKit
set_option linter.unusedVariables false
set_option linter.unusedSimpArgs false
/-- Eight cells in memory. -/
def At8 (T : TypeId) (W : World) (g : Nat) (c0 c1 c2 c3 c4 c5 c6 c7 : Value) : Prop := W.heap[g]? = some (.cells #[c0, c1, c2, c3, c4, c5, c6, c7] T (0, 0))
section
variable {T : TypeId} {W W' : World} {g b : Nat} {c0 c1 c2 c3 c4 c5 c6 c7 : Value}
theorem At8.cells (h : At8 T W g c0 c1 c2 c3 c4 c5 c6 c7) : W.cell? ⟨g, 0, none⟩ = some c0 ∧ W.cell? ⟨g, 1, none⟩ = some c1 ∧ W.cell? ⟨g, 2, none⟩ = some c2 ∧ W.cell? ⟨g, 3, none⟩ = some c3 ∧ W.cell? ⟨g, 4, none⟩ = some c4 ∧ W.cell? ⟨g, 5, none⟩ = some c5 ∧ W.cell? ⟨g, 6, none⟩ = some c6 ∧ W.cell? ⟨g, 7, none⟩ = some c7 := by
  have f := fun i => cell_of_row W g i _ _ (0, 0) h
  exact ⟨by simpa using f 0, by simpa using f 1, by simpa using f 2, by simpa using f 3, by simpa using f 4, by simpa using f 5, by simpa using f 6, by simpa using f 7⟩
theorem At8.free (h : At8 T W g c0 c1 c2 c3 c4 c5 c6 c7) (i : Nat) : W.frozen? ⟨g, i, none⟩ = false := by unfold At8 at h; simp [World.frozen?, h]
theorem At8.frees (h : At8 T W g c0 c1 c2 c3 c4 c5 c6 c7) : W.frozen? ⟨g, 0, none⟩ = false ∧ W.frozen? ⟨g, 1, none⟩ = false ∧ W.frozen? ⟨g, 2, none⟩ = false ∧ W.frozen? ⟨g, 3, none⟩ = false ∧ W.frozen? ⟨g, 4, none⟩ = false ∧ W.frozen? ⟨g, 5, none⟩ = false ∧ W.frozen? ⟨g, 6, none⟩ = false ∧ W.frozen? ⟨g, 7, none⟩ = false := ⟨h.free 0, h.free 1, h.free 2, h.free 3, h.free 4, h.free 5, h.free 6, h.free 7⟩
theorem At8.later (h : At8 T W g c0 c1 c2 c3 c4 c5 c6 c7) (hb : Below W.heap.size W W') : At8 T W' g c0 c1 c2 c3 c4 c5 c6 c7 := by unfold At8; rw [hb.block g (lt_of_block h)]; exact h
theorem At8.lt (h : At8 T W g c0 c1 c2 c3 c4 c5 c6 c7) : g < W.heap.size := lt_of_block h
theorem At8.drew (h : At8 T W g c0 c1 c2 c3 c4 c5 c6 c7) : At8 T W.drew g c0 c1 c2 c3 c4 c5 c6 c7 := h
theorem At8.only (h : At8 T W g c0 c1 c2 c3 c4 c5 c6 c7) (hg : g ≠ b) (ho : Only b W W') : At8 T W' g c0 c1 c2 c3 c4 c5 c6 c7 := by unfold At8; rw [ho.block g hg]; exact h
theorem at8_new (T : TypeId) (W : World) (n : Nat) (c0 c1 c2 c3 c4 c5 c6 c7 : Value) (hn : n = W.heap.size) : At8 T (W.alloc (.cells #[c0, c1, c2, c3, c4, c5, c6, c7] T)) n c0 c1 c2 c3 c4 c5 c6 c7 := by subst hn; exact heap_alloc_new W _
theorem at8_set4 (h : At8 T W g c0 c1 c2 c3 c4 c5 c6 c7) (u : Value) : At8 T (W.setCell ⟨g, 4, none⟩ u) g c0 c1 c2 c3 u c5 c6 c7 := block_setCell h
theorem at8_set5 (h : At8 T W g c0 c1 c2 c3 c4 c5 c6 c7) (u : Value) : At8 T (W.setCell ⟨g, 5, none⟩ u) g c0 c1 c2 c3 c4 u c6 c7 := block_setCell h
theorem at8_set6 (h : At8 T W g c0 c1 c2 c3 c4 c5 c6 c7) (u : Value) : At8 T (W.setCell ⟨g, 6, none⟩ u) g c0 c1 c2 c3 c4 c5 u c7 := block_setCell h
theorem at8_set7 (h : At8 T W g c0 c1 c2 c3 c4 c5 c6 c7) (u : Value) : At8 T (W.setCell ⟨g, 7, none⟩ u) g c0 c1 c2 c3 c4 c5 c6 u := block_setCell h
theorem at8_put4 (h : At8 T W g c0 c1 c2 c3 c4 c5 c6 c7) (d0 d1 d2 d3 : Value) : At8 T ((((W.setCell ⟨g, 0, none⟩ d0).setCell ⟨g, 1, none⟩ d1).setCell ⟨g, 2, none⟩ d2).setCell ⟨g, 3, none⟩ d3) g d0 d1 d2 d3 c4 c5 c6 c7 := by
  have h0 : At8 T (W.setCell ⟨g, 0, none⟩ d0) g d0 c1 c2 c3 c4 c5 c6 c7 := block_setCell h
  have h1 : At8 T ((W.setCell ⟨g, 0, none⟩ d0).setCell ⟨g, 1, none⟩ d1) g d0 d1 c2 c3 c4 c5 c6 c7 := block_setCell h0
  have h2 : At8 T (((W.setCell ⟨g, 0, none⟩ d0).setCell ⟨g, 1, none⟩ d1).setCell ⟨g, 2, none⟩ d2) g d0 d1 d2 c3 c4 c5 c6 c7 := block_setCell h1
  exact block_setCell h2
theorem At8.grown {row : Option Nat} (h : At8 T W g c0 c1 c2 c3 c4 c5 c6 c7) (hg : W.grownBy W' row) (hr : row ≠ some g) : At8 T W' g c0 c1 c2 c3 c4 c5 c6 c7 := by
  unfold At8 at h ⊢
  rw [hg.block g (lt_of_block h) (fun e => hr e.symm)]
  exact h
end
/-- A Config that counts as it is. -/
structure GC where
  m : Int
  t : Int
  f : Int
  a : Int
def GC.val (c : GC) : Value := .agg #[.int .i64 c.m, .int .i64 c.t, .int .i64 c.f, .int .i64 c.a]
def GC.clip (c : GC) : GC := ⟨gpM c.m, gpT c.t, gpF c.f, gpA c.a⟩
def GcOk (c : GC) : Prop := (1 ≤ c.m ∧ c.m ≤ 1024) ∧ (1 ≤ c.t ∧ c.t ≤ 100) ∧ (0 ≤ c.f ∧ c.f ≤ 1048576) ∧ (1 ≤ c.a ∧ c.a ≤ 1048576)
theorem gcOk_clip (c : GC) : GcOk c.clip := ⟨gpM_bd _, gpT_bd _, gpF_bd _, gpA_bd _⟩
theorem GcOk.same {c : GC} (h : GcOk c) : c.clip = c := by
  obtain ⟨h1, h2, h3, h4⟩ := h
  cases c
  simp only [GC.clip, gpM, gpT, gpF, gpA, GC.mk.injEq] at *
  omega
/-- What is wanting, in memory: the struct's eight cells, and the packets. -/
structure GIn (W : World) (base gg : Nat) (c : GC) (cm : Bool) (gr : Int) (v : Value) (l : List GW) (gv : Int) : Prop where
  bs : base ≤ gg
  at8 : At8 57 W gg (.int .i64 c.m) (.int .i64 c.t) (.int .i64 c.f) (.int .i64 c.a) (.bool cm) (.int .i64 gr) v (.int .i64 gv)
  own : OwnE W base 69 4 v l.length (gpV c.a l)
  ok : GcOk c
  len : (l.length : Int) ≤ c.m
  up : GpUp l
  gb : -1099511627776 ≤ gr ∧ gr ≤ 1099511627776
  nb : ∀ x ∈ l, -1099511627776 ≤ x.n ∧ x.n < gr
  ab : ∀ x ∈ l, 0 ≤ x.at_ ∧ x.at_ ≤ 1099512676352 ∧ x.k ≤ 100
theorem GIn.apart {W : World} {base gg : Nat} {c : GC} {cm : Bool} {gr : Int} {v : Value} {l : List GW} {gv : Int} (h : GIn W base gg c cm gr v l gv) : v.ownBlock ≠ some gg := fun e => by
  obtain ⟨cs, hcs⟩ := h.own.2 gg e
  have h8 := h.at8
  unfold At8 at h8
  rw [h8] at hcs
  simp only [Option.some.injEq, Obj.cells.injEq] at hcs
  exact absurd hcs.2.1 (by decide)
theorem GIn.later {W W' : World} {base gg : Nat} {c : GC} {cm : Bool} {gr : Int} {v : Value} {l : List GW} {gv : Int} (h : GIn W base gg c cm gr v l gv) (hb : Below W.heap.size W W') : GIn W' base gg c cm gr v l gv :=
  ⟨h.bs, h.at8.later hb, h.own.later hb, h.ok, h.len, h.up, h.gb, h.nb, h.ab⟩
theorem GIn.base {W : World} {base b' gg : Nat} {c : GC} {cm : Bool} {gr : Int} {v : Value} {l : List GW} {gv : Int} (h : GIn W base gg c cm gr v l gv) (hc : b' ≤ base) : GIn W b' gg c cm gr v l gv :=
  ⟨Nat.le_trans hc h.bs, h.at8, h.own.base hc, h.ok, h.len, h.up, h.gb, h.nb, h.ab⟩
theorem GIn.drew {W : World} {base gg : Nat} {c : GC} {cm : Bool} {gr : Int} {v : Value} {l : List GW} {gv : Int} (h : GIn W base gg c cm gr v l gv) : GIn W.drew base gg c cm gr v l gv :=
  ⟨h.bs, h.at8, h.own.drew, h.ok, h.len, h.up, h.gb, h.nb, h.ab⟩
theorem GIn.small {W : World} {base gg : Nat} {c : GC} {cm : Bool} {gr : Int} {v : Value} {l : List GW} {gv : Int} (h : GIn W base gg c cm gr v l gv) : l.length ≤ 1024 := by
  have := h.len
  have := h.ok.1
  omega
/-- Packets in memory. -/
def RdG (W : World) (A : Int) (a : Option Addr) (l : List GW) : Prop := ∀ i r, l[i]? = some r → ∃ g off, a = some ⟨g, off, none⟩ ∧ W.cell? ⟨g, off + i * 4, none⟩ = some (.int .i64 r.n) ∧ W.cell? ⟨g, off + i * 4 + 1, none⟩ = some (.int .i64 r.at_) ∧ W.cell? ⟨g, off + i * 4 + 2, none⟩ = some (.int .i64 (wtR A r.k)) ∧ W.cell? ⟨g, off + i * 4 + 3, none⟩ = some (.int .i64 r.k)
theorem RdG.later {W W' : World} {A : Int} {a : Option Addr} {l : List GW} (h : RdG W A a l) (hb : Below W.heap.size W W') : RdG W' A a l := fun i r hr => by
  obtain ⟨g, off, e, h0, h1, h2, h3⟩ := h i r hr
  exact ⟨g, off, e, cell_keep h0 hb, cell_keep h1 hb, cell_keep h2 hb, cell_keep h3 hb⟩
theorem OwnE.rdg {W : World} {b : Nat} {e : TypeId} {v : Value} {n : Nat} {A : Int} {l : List GW} (h : OwnE W b e 4 v n (gpV A l)) : ∃ a cap, v = .slice a n cap ∧ n ≤ cap ∧ cap ≤ maxLen ∧ l.length = n ∧ RdG W A a l := by
  have hn : l.length = n := by have := h.1.1; rw [gpV_len] at this; omega
  rcases h.1.2 with ⟨rfl, h0⟩ | ⟨g, off, cap, rfl, _, _, h1, h2, _, hc⟩
  · refine ⟨none, 0, by rw [h0], by omega, Nat.zero_le _, hn, fun i r hr => ?_⟩
    have := (List.getElem?_eq_some_iff.1 hr).1
    omega
  · refine ⟨_, _, rfl, h1, h2, hn, fun i r hr => ⟨g, off, rfl, ?_⟩⟩
    have f := fun j u hj => hc _ u (rowsV_at (GW.cs_len A) l i r hr j u hj)
    refine ⟨?_, ?_, ?_, ?_⟩
    · exact f 0 _ rfl
    · rw [Nat.add_assoc]; exact f 1 _ rfl
    · rw [Nat.add_assoc]; exact f 2 _ rfl
    · rw [Nat.add_assoc]; exact f 3 _ rfl
/-- What is no Gaps, and no packet of one, is kept. -/
def isGp (o : Obj) : Prop := ∃ cs T fz, o = .cells cs T fz ∧ (T = 57 ∨ T = 69)
structure KeptG (w w' : World) : Prop where
  size : w.heap.size ≤ w'.heap.size
  block : ∀ (k : Nat) (o : Obj), w.heap[k]? = some o → ¬ isGp o → w'.heap[k]? = w.heap[k]?
theorem lt_of_objG {w : World} {k : Nat} {o : Obj} (h : w.heap[k]? = some o) : k < w.heap.size := (Array.getElem?_eq_some_iff.1 h).1
theorem not_isGp {cs : Array Value} {T : TypeId} {fz : Nat × Nat} (h1 : T ≠ 57) (h2 : T ≠ 69) : ¬ isGp (.cells cs T fz) := by
  rintro ⟨cs', T', fz', e, h⟩
  cases e
  rcases h with h | h
  · exact h1 h
  · exact h2 h
theorem KeptG.refl (w : World) : KeptG w w := ⟨Nat.le_refl _, fun _ _ _ _ => rfl⟩
theorem KeptG.trans {a b c : World} (h : KeptG a b) (k : KeptG b c) : KeptG a c :=
  ⟨Nat.le_trans h.size k.size, fun i o hi h1 => by
    have e := h.block i o hi h1
    rw [k.block i o (by rw [e]; exact hi) h1, e]⟩
theorem keptG_below {w w' : World} (h : Below w.heap.size w w') : KeptG w w' := ⟨h.size, fun k o hk _ => h.block k (lt_of_objG hk)⟩
theorem KeptG.drew {a b : World} (h : KeptG a b) : KeptG a b.drew := ⟨h.size, h.block⟩
theorem keptG_only {w w' : World} {g : Nat} {c0 c1 c2 c3 c4 c5 c6 c7 : Value} (h8 : At8 57 w g c0 c1 c2 c3 c4 c5 c6 c7) (h : Only g w w') : KeptG w w' :=
  ⟨by rw [h.size]; exact Nat.le_refl _, fun k o hk h1 => h.block k (fun e => by
    subst e
    unfold At8 at h8
    rw [h8] at hk
    cases hk
    exact h1 ⟨_, _, _, rfl, .inl rfl⟩)⟩
theorem keptG_row {w w' : World} {row : Option Nat} (ht : ∀ k, row = some k → ∃ cs, w.heap[k]? = some (.cells cs 69 (0, 0))) (h : w.grownBy w' row) : KeptG w w' :=
  ⟨h.size, fun k o hk h2 => h.block k (lt_of_objG hk) (fun e => by
    obtain ⟨cs', hcs⟩ := ht k e.symm
    rw [hk] at hcs
    cases hcs
    exact h2 ⟨_, _, _, rfl, .inr rfl⟩)⟩
theorem OwnE.keptG {W W' : World} {b : Nat} {e : TypeId} {size : Nat} {v : Value} {n : Nat} {xs : List Value} (h : OwnE W b e size v n xs) (hk : KeptG W W') (h1 : e ≠ 57) (h2 : e ≠ 69) : OwnE W' b e size v n xs :=
  h.keep hk.size fun k cs _ hc => hk.block k _ hc (not_isGp h1 h2)
def gAm (a n b : Int) : Int := min (max n a) b
theorem gpAmong_q (a n b : Int) (w : World) : Calls Try.prog 21 #[.int .i64 a, .int .i64 n, .int .i64 b] w fun e w' => e = .returned (.int .i64 (gAm a n b)) ∧ w' = w := by
  go_enter Try.func21, Try.ntmps21
  go_wp2
  go_ret
  exact ⟨rfl, rfl⟩
theorem gpTick_q (n : Int) (w : World) : Calls Try.prog 28 #[.int .i64 n] w fun e w' => e = .returned (.int .i64 (gpK n)) ∧ w' = w := by
  have HA := Lib.hid (gpAmong_q 0 n 1099511627776 w)
  go_enter Try.func28, Try.ntmps28
  go_wp2_with fail
  refine HA.out.mono ?_
  rintro e w' ⟨rfl, hq⟩
  subst hq
  go_wp2_with fail
  go_ret
  exact ⟨rfl, rfl⟩
set_option maxRecDepth 100000 in
set_option maxHeartbeats 3200000 in
theorem gpClip_any (c : GC) (w : World) : Calls Try.prog 10 #[c.val] w fun e w' => e = .returned c.clip.val ∧ Below w.heap.size w w' := by
  obtain ⟨m, t, f, a⟩ := c
  simp only [GC.val, GC.clip]
  rw [show gpM m = gAm 1 m 1024 from rfl, show gpT t = gAm 1 t 100 from rfl, show gpF f = gAm 0 f 1048576 from rfl, show gpA a = gAm 1 a 1048576 from rfl]
  have hX0 := (at4_new 28 w w.heap.size (.int .i64 m) (.int .i64 t) (.int .i64 f) (.int .i64 a) rfl).alloc (.cells #[.int .i64 0, .int .i64 0, .int .i64 0, .int .i64 0] 28)
  have hX1 := at4_new 28 (w.alloc (.cells #[.int .i64 m, .int .i64 t, .int .i64 f, .int .i64 a] 28)) (w.heap.size + 1) (.int .i64 0) (.int .i64 0) (.int .i64 0) (.int .i64 0) (by simp)
  have hb : Below w.heap.size w ((w.alloc (.cells #[.int .i64 m, .int .i64 t, .int .i64 f, .int .i64 a] 28)).alloc (.cells #[.int .i64 0, .int .i64 0, .int .i64 0, .int .i64 0] 28)) := ((Below.refl _ _).alloc (Nat.le_refl _) _).alloc (by simp) _
  go_enter Try.func10, Try.ntmps10
  go_upto_region 1 with fail
  generalize ((w.alloc (.cells #[.int .i64 m, .int .i64 t, .int .i64 f, .int .i64 a] 28)).alloc (.cells #[.int .i64 0, .int .i64 0, .int .i64 0, .int .i64 0] 28)) = w2 at *
  generalize hg1 : w.heap.size + 1 = g1 at *
  generalize hg0 : w.heap.size = g0 at *
  have HG := Lib.hid hg0
  have hle1 : g0 ≤ g1 := by omega
  have hne01 : g0 ≠ g1 := by omega
  clear hg0 hg1
  obtain ⟨_, _, _, _⟩ := hX0.cells
  obtain ⟨_, _, _, _⟩ := hX1.cells
  obtain ⟨_, _, _, _⟩ := hX1.frees
  go_region_held3 (fun W => W.cell? ⟨g0, 0, none⟩ = some (.int .i64 m) ∧ W.cell? ⟨g0, 1, none⟩ = some (.int .i64 t) ∧ W.cell? ⟨g0, 2, none⟩ = some (.int .i64 f) ∧ W.cell? ⟨g0, 3, none⟩ = some (.int .i64 a)) (first | (go_keep; done) | with_reducible exact hX0.drew.cells | with_reducible exact (At4.only hX0 hne01 (put4_only _ _ _ _ _ _)).drew.cells) (first | (go_at_call 21; refine (gpAmong_q _ _ _ _).mono ?_; rintro e w' ⟨rfl, rfl⟩))
  all_goals
    have hZ := at4_put hX1 (.int .i64 (gAm 1 m 1024)) (.int .i64 (gAm 1 t 100)) (.int .i64 (gAm 0 f 1048576)) (.int .i64 (gAm 1 a 1048576))
    have hbz := hb.trans ((put4_only w2 g1 (.int .i64 (gAm 1 m 1024)) (.int .i64 (gAm 1 t 100)) (.int .i64 (gAm 0 f 1048576)) (.int .i64 (gAm 1 a 1048576))).below hle1)
    obtain ⟨d0, d1, d2, d3⟩ := hZ.cells
    go_wp2_with fail
    refine bodyPost_ret (v := .agg #[.int .i64 (gAm 1 m 1024), .int .i64 (gAm 1 t 100), .int .i64 (gAm 0 f 1048576), .int .i64 (gAm 1 a 1048576)]) (by simp [results, Try.results10, go_sem, d0, d1, d2, d3]) rfl ⟨rfl, by rw [HG.out]; exact hbz.drew⟩

end Go.Proofs.Ytdbmhgfdcdcgfaa
