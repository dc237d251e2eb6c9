/- The statements' Told of a report. -/
import Derived.Test.YtkchhiiomahbaaaMRpF
import Derived.Test.YtkchhiiomahbaaaMb
namespace Go.Proofs.Ytkchhiiomahbaaa
open Go.RowKit
set_option linter.unusedVariables false
/-- Cells of the document's blocks, one behind the other. -/
def rbksV (l : List BK) : List Value := (l.map BK.rvals).flatten
theorem rbksV_len (l : List BK) : (rbksV l).length = l.length * 7 := by
  unfold rbksV
  induction l with
  | nil => rfl
  | cons p l ih => simp only [List.map_cons, List.flatten_cons, List.length_append, ih, List.length_cons]; rw [Nat.add_mul, Nat.one_mul, Nat.add_comm]; rfl
theorem rbksV_take (l : List BK) (k : Nat) (h : k < l.length) : rbksV (l.take (k + 1)) = rbksV (l.take k) ++ (l[k]?.getD zeroBK).rvals := by
  unfold rbksV
  rw [List.take_succ_eq_append_getElem h, List.map_append, List.flatten_append]
  simp [h]
theorem rbksV_at : ∀ (l : List BK) (i j : Nat) (v : Value), i < l.length → (l[i]?.getD zeroBK).rvals[j]? = some v → (rbksV l)[i * 7 + j]? = some v
  | [], i, j, v, h, _ => by simp at h
  | p :: l, 0, j, v, _, hv => by
    have hj : j < 7 := (List.getElem?_eq_some_iff.1 hv).1
    show (p.rvals ++ rbksV l)[0 * 7 + j]? = _
    rw [show 0 * 7 + j = j from by omega, List.getElem?_append_left (by show j < 7; exact hj)]
    simpa using hv
  | p :: l, i + 1, j, v, h, hv => by
    show (p.rvals ++ rbksV l)[(i + 1) * 7 + j]? = _
    rw [List.getElem?_append_right (by show 7 ≤ (i + 1) * 7 + j; omega), show (i + 1) * 7 + j - p.rvals.length = i * 7 + j from by show (i + 1) * 7 + j - 7 = _; omega]
    exact rbksV_at l i j v (by simpa using h) (by simpa using hv)
theorem own_readsRB {w : World} {B : Nat} {e : TypeId} {v : Value} {n : Nat} {l : List BK} (h : w.ownsRow B e 7 v n (rbksV l)) :
    ∃ a c, v = .slice a n c ∧ n = l.length ∧ n ≤ c ∧ c ≤ 9223372036854775807 ∧ ReadsB BK.rvals w a l := by
  have hn : n = l.length := by have := h.1; rw [rbksV_len] at this; omega
  rcases h.2 with ⟨hv, hn0⟩ | ⟨g, cap, cur, hv, _, _, hl, hm, _, _⟩
  · refine ⟨none, 0, by rw [hv, hn0], hn, by omega, by omega, Or.inl ?_⟩
    exact List.length_eq_zero_iff.1 (by omega)
  · refine ⟨some ⟨g, 0, none⟩, cap, hv, hn, hl, by unfold maxLen at hm; omega, Or.inr ⟨g, 0, rfl, fun i hi j v' hv' => ?_⟩⟩
    subst hv
    have hj : j < 7 := (List.getElem?_eq_some_iff.1 hv').1
    rw [Nat.zero_add, h.cellAt (i * 7 + j) (by omega), rbksV_at l i j v' hi hv']
theorem infoRb : (Try.prog.info? 126).map (fun i => (i.zero, i.size, i.bytes)) = some (some (.agg #[.int .i64 0, .int .i64 0, .int .i64 0, .int .i64 0, .int .i64 0, .int .i64 0, .int .i64 0]), 7, 56) := by kernel_rfl
theorem wrap_u32 {x : Int} (h : u32ok x) : IntKind.i64.wrap x = x := IntWalk.i64_in _ ⟨by have := h.1; omega, by have := h.2; omega⟩
theorem own7_store {w : World} {T : TypeId} {B g i : Nat} {e : TypeId} {m : Nat} {v u : Value} {n : Nat} {xs : List Value} {c0 c1 c2 c3 c4 c5 c6 : Value} (h : w.ownsRow B e m v n xs) (hP : At7 T w g c0 c1 c2 c3 c4 c5 c6) (hne : T ≠ e) : (w.setCell ⟨g, i, none⟩ u).ownsRow B e m v n xs :=
  ownsRow_setCell_other h (fun x => row_neP h hP (by intro cur p q; simp at q; exact hne q.2.1) x.symm) _
theorem At7.grown {W W' : World} {T e : TypeId} {B m n g : Nat} {v : Value} {xs : List Value} {c0 c1 c2 c3 c4 c5 c6 : Value} (h : At7 T W g c0 c1 c2 c3 c4 c5 c6) (hv : W.ownsRow B e m v n xs) (hg : W.grownBy W' v.ownBlock) (hne : T ≠ e) : At7 T W' g c0 c1 c2 c3 c4 c5 c6 := by
  have hb := hg.block g h.lt (row_neP hv h (by intro cur p q; simp at q; exact hne q.2.1))
  unfold At7
  rw [hb]
  exact h
/-- What Told leaves. -/
def ToldRp (r : RP) (w : World) (e : Ending) (w' : World) : Prop :=
  Below w.heap.size w w' ∧ ∃ a' c', e = .returned (.agg #[.int .i64 r.src, .bool r.isS, .int .i64 r.clock, .int .i64 r.time, .int .i64 r.packets, .int .i64 r.bytes, .slice a' r.blocks.length c']) ∧ ReadsB BK.rvals w' a' r.blocks
set_option maxRecDepth 100000 in
set_option maxHeartbeats 4000000 in
theorem toldRp_any (r : RP) (a : Option Addr) (c : Nat) (w : World) (hok : r.ok) (hl : r.blocks.length ≤ 1000000) (hr : ReadsB BK.vals w a r.blocks) :
    Calls Try.prog 20 #[.agg #[.int .u32 r.src, .bool r.isS, .int .i64 r.clock, .int .u32 r.time, .int .u32 r.packets, .int .u32 r.bytes, .slice a r.blocks.length c]] w (ToldRp r w) := by
  obtain ⟨i0, hi, hz0, hz1, hz2⟩ := info_parts infoRb
  unfold ToldRp
  obtain ⟨k0, k3, k4, k5, HO⟩ := hok
  obtain ⟨src, isS, clock, time, packets, bytes, l⟩ := r
  simp only at *
  have u0 := wrap_u32 k0
  have u3 := wrap_u32 k3
  have u4 := wrap_u32 k4
  have u5 := wrap_u32 k5
  have HOK := Lib.hid HO
  clear k0 k3 k4 k5 HO
  have hX1 := at7_new 31 w (.int .u32 src) (.bool isS) (.int .i64 clock) (.int .u32 time) (.int .u32 packets) (.int .u32 bytes) (.slice a l.length c)
  have hX2 := hX1.alloc (.cells #[.int .i64 0, .bool false, .int .i64 0, .int .i64 0, .int .i64 0, .int .i64 0, .slice none 0 0] 38)
  have hY2 := at7_new 38 (w.alloc (.cells #[.int .u32 src, .bool isS, .int .i64 clock, .int .u32 time, .int .u32 packets, .int .u32 bytes, .slice a l.length c] 31)) (.int .i64 0) (.bool false) (.int .i64 0) (.int .i64 0) (.int .i64 0) (.int .i64 0) (.slice none 0 0)
  have hb2 : Below w.heap.size w ((w.alloc (.cells #[.int .u32 src, .bool isS, .int .i64 clock, .int .u32 time, .int .u32 packets, .int .u32 bytes, .slice a l.length c] 31)).alloc (.cells #[.int .i64 0, .bool false, .int .i64 0, .int .i64 0, .int .i64 0, .int .i64 0, .slice none 0 0] 38)) := by go_grown
  have hne : (w.alloc (.cells #[.int .u32 src, .bool isS, .int .i64 clock, .int .u32 time, .int .u32 packets, .int .u32 bytes, .slice a l.length c] 31)).heap.size = w.heap.size + 1 := by simp
  rw [hne] at hY2
  have HR := Lib.hid (fun W (h : Below w.heap.size w W) => hr.later h)
  clear hX1 hne hr
  go_enter Try.func20, Try.ntmps20
  go_upto_region 1 with fail
  generalize (w.alloc (.cells #[.int .u32 src, .bool isS, .int .i64 clock, .int .u32 time, .int .u32 packets, .int .u32 bytes, .slice a l.length c] 31)).alloc (.cells #[.int .i64 0, .bool false, .int .i64 0, .int .i64 0, .int .i64 0, .int .i64 0, .slice none 0 0] 38) = w2 at hX2 hY2 hb2 ⊢
  have hgB : w.heap.size ≤ w.heap.size + 1 := by omega
  have hgn : w.heap.size ≠ w.heap.size + 1 := by omega
  generalize hg2 : w.heap.size + 1 = g2 at hY2 hgB hgn ⊢
  generalize hg : w.heap.size = g at hX2 hb2 HR hgB hgn ⊢
  have HG := Lib.hid hg
  clear hg2 hg
  obtain ⟨x0, x1, x2, x3, x4, x5, x6⟩ := hX2.cells
  have hg2l := hX2.lt
  have hg2l2 := hY2.lt
  have hX3 := hX2.alloc (.cells #[.int .i64 src, .bool isS, .int .i64 clock, .int .i64 time, .int .i64 packets, .int .i64 bytes, .slice none 0 0] 38)
  have hY3 := hY2.alloc (.cells #[.int .i64 src, .bool isS, .int .i64 clock, .int .i64 time, .int .i64 packets, .int .i64 bytes, .slice none 0 0] 38)
  have hZ3 := at7_new 38 w2 (.int .i64 src) (.bool isS) (.int .i64 clock) (.int .i64 time) (.int .i64 packets) (.int .i64 bytes) (.slice none 0 0)
  have hb3 := hb2.alloc (by omega) (.cells #[.int .i64 src, .bool isS, .int .i64 clock, .int .i64 time, .int .i64 packets, .int .i64 bytes, .slice none 0 0] 38)
  go_upto_region 2 with fail
  generalize w2.alloc (.cells #[.int .i64 src, .bool isS, .int .i64 clock, .int .i64 time, .int .i64 packets, .int .i64 bytes, .slice none 0 0] 38) = w3 at hX3 hY3 hZ3 hb3 ⊢
  generalize w2.heap.size = g3 at hZ3 hg2l hg2l2 ⊢
  clear hX2 hY2 hb2 x0 x1 x2 x3 x4 x5 x6
  obtain ⟨x0, x1, x2, x3, x4, x5, x6⟩ := hX3.cells
  go_wp2_with fail
  go_loopw [30] (fun i wr => ∃ (k : Nat) (v : Value), k ≤ l.length ∧ i = .int .i64 k ∧ wr.ownsRow g 126 7 v k (rbksV (l.take k)) ∧ At7 38 wr g3 (.int .i64 src) (.bool isS) (.int .i64 clock) (.int .i64 time) (.int .i64 packets) (.int .i64 bytes) v ∧ At7 38 wr g2 (.int .i64 0) (.bool false) (.int .i64 0) (.int .i64 0) (.int .i64 0) (.int .i64 0) (.slice none 0 0) ∧ Below g w wr) (fun i _ => l.length - (intOf i).toNat)
  case atStart => exact ⟨0, _, Nat.zero_le _, rfl, World.ownsRow_nil _ _ _ _, hZ3, hY3, hb3⟩
  case round =>
    obtain ⟨k, v, hk, rfl, hown, hZ, hY, hb⟩ := hrel
    clear hX3 hY3 hZ3 hb3 x0 x1 x2 x3 x4 x5 x6
    by_cases hlt : k < l.length
    · obtain ⟨ab, off, rfl, x0, x1, x2, x3, x4, x5, x6⟩ := (HR.out _ hb).at hlt
      have HT := Lib.hid (rbksV_take l k hlt)
      obtain ⟨o0, o3, o4, o5, o6⟩ := HOK.out _ (bk_mem l k hlt)
      generalize l[k]?.getD zeroBK = p at x0 x1 x2 x3 x4 x5 x6 HT o0 o3 o4 o5 o6
      have q0 := wrap_u32 o0
      have q3 := wrap_u32 o3
      have q4 := wrap_u32 o4
      have q5 := wrap_u32 o5
      have q6 := wrap_u32 o6
      clear o0 o3 o4 o5 o6
      have hba := hb.alloc (by have := hZ.lt; omega) (.cells #[.int .u32 p.src, .int .i64 p.frac, .int .i64 p.lost, .int .u32 p.high, .int .u32 p.jit, .int .u32 p.last, .int .u32 p.delay] 122)
      have hZa := hZ.alloc (.cells #[.int .u32 p.src, .int .i64 p.frac, .int .i64 p.lost, .int .u32 p.high, .int .u32 p.jit, .int .u32 p.last, .int .u32 p.delay] 122)
      have hYa := hY.alloc (.cells #[.int .u32 p.src, .int .i64 p.frac, .int .i64 p.lost, .int .u32 p.high, .int .u32 p.jit, .int .u32 p.last, .int .u32 p.delay] 122)
      have howna := hown.alloc (.cells #[.int .u32 p.src, .int .i64 p.frac, .int .i64 p.lost, .int .u32 p.high, .int .u32 p.jit, .int .u32 p.last, .int .u32 p.delay] 122)
      have hPa := at7_new 122 wr (.int .u32 p.src) (.int .i64 p.frac) (.int .i64 p.lost) (.int .u32 p.high) (.int .u32 p.jit) (.int .u32 p.last) (.int .u32 p.delay)
      obtain ⟨bs, bf, bl, bh, bj, bt, bd⟩ := p
      simp only at *
      go_upto_region 5 with fail
      generalize wr.alloc (.cells #[.int .u32 bs, .int .i64 bf, .int .i64 bl, .int .u32 bh, .int .u32 bj, .int .u32 bt, .int .u32 bd] 122) = w5 at hba hZa hYa howna hPa ⊢
      generalize wr.heap.size = gp at hPa ⊢
      clear x0 x1 x2 x3 x4 x5 x6 hb hZ hY hown
      obtain ⟨x0, x1, x2, x3, x4, x5, x6⟩ := hPa.cells
      obtain ⟨_, _, _, _, _, _, z6⟩ := hZa.cells
      obtain ⟨av, cv, rfl, hq1, hq2, hq3, _⟩ := own_readsRB howna
      clear hq1 hq2 hq3
      have hg5 : g ≤ w5.heap.size := by have := hZa.lt; omega
      go_wp2_with (at_builtin; refine append_rec (by rfl) (.tmp 35) (.tmp 56) 36 (by rfl) g 126 i0 (.agg #[.int .i64 0, .int .i64 0, .int .i64 0, .int .i64 0, .int .i64 0, .int .i64 0, .int .i64 0]) 7 56 Try.underlying36 hi hz0 hz1 hz2 rfl (by decide) _ k (rbksV (l.take k)) (by rfl) howna #[.int .i64 bs, .int .i64 bf, .int .i64 bl, .int .i64 bh, .int .i64 bj, .int .i64 bt, .int .i64 bd] rfl (by rfl) ?d1 ?d2 ?d3 g (Nat.le_refl _) hg5 hba ?_)
      case d1 => exact ⟨rfl, rfl, rfl, rfl, rfl, rfl, rfl⟩
      case d2 => unfold maxLen; omega
      case d3 => omega
      intro v' w6 hown6 hb6 hg6
      have hown7 : w6.ownsRow g 126 7 v' (k + 1) (rbksV (l.take (k + 1))) := by rw [HT.out]; exact hown6
      have hZ6 := (hZa.alloc (.cells #[.int .i64 bs, .int .i64 bf, .int .i64 bl, .int .i64 bh, .int .i64 bj, .int .i64 bt, .int .i64 bd] 126)).grown (howna.alloc _) hg6 (by decide)
      have hY6 := (hYa.alloc (.cells #[.int .i64 bs, .int .i64 bf, .int .i64 bl, .int .i64 bh, .int .i64 bj, .int .i64 bt, .int .i64 bd] 126)).grown (howna.alloc _) hg6 (by decide)
      clear hown6 hg6 howna hZa hYa hPa hba x0 x1 x2 x3 x4 x5 x6 z6 HT
      obtain ⟨z0, z1, z2, z3, z4, z5, z6⟩ := hZ6.cells
      obtain ⟨f0, f1, f2, f3, f4, f5, f6⟩ := hZ6.frees
      obtain ⟨av2, cv2, rfl, hq1, hq2, hq3, _⟩ := own_readsRB hown7
      clear hq1 hq2 hq3
      have hZ7 : At7 38 (w6.setCell ⟨g3, 6, none⟩ (.slice av2 (k + 1) cv2)) g3 (.int .i64 src) (.bool isS) (.int .i64 clock) (.int .i64 time) (.int .i64 packets) (.int .i64 bytes) (.slice av2 (k + 1) cv2) := block_setCell hZ6
      have hY7 : At7 38 (w6.setCell ⟨g3, 6, none⟩ (.slice av2 (k + 1) cv2)) g2 (.int .i64 0) (.bool false) (.int .i64 0) (.int .i64 0) (.int .i64 0) (.int .i64 0) (.slice none 0 0) := hY6.only (by omega) ((Only.refl g3 w6).setCell 6 _)
      have ho7 := own7_store (i := 6) (u := .slice av2 (k + 1) cv2) hown7 hZ6 (by decide)
      have hb7 := hb6.setCell (p := ⟨g3, 6, none⟩) (show g ≤ g3 by omega) (.slice av2 (k + 1) cv2)
      clear hZ6 hY6 hown7 hb6
      go_wp2
      go_roundw
      case rel => exact ⟨k + 1, _, by omega, by go_num, ho7, hZ7, hY7, hb7⟩
      case measure => simp [intOf]; omega
    · obtain rfl : k = l.length := by omega
      rw [List.take_length] at hown
      obtain ⟨av, cv, rfl, hq1, hq2, hq3, hrd⟩ := own_readsRB hown
      clear hq1 hq2 hq3
      obtain ⟨z0, z1, z2, z3, z4, z5, z6⟩ := hZ.cells
      obtain ⟨y0, y1, y2, y3, y4, y5, y6⟩ := hY.cells
      obtain ⟨f0, f1, f2, f3, f4, f5, f6⟩ := hY.frees
      have hYz := at7_store (.int .i64 src) (.bool isS) (.int .i64 clock) (.int .i64 time) (.int .i64 packets) (.int .i64 bytes) (.slice av l.length cv) hY
      have hoz := store7_only wr g2 (.int .i64 src) (.bool isS) (.int .i64 clock) (.int .i64 time) (.int .i64 packets) (.int .i64 bytes) (.slice av l.length cv)
      have hbz := hb.trans (hoz.below hgB)
      have hoR := own_ex hown hoz.ex (row_neP hown hY (by intro cur p q; cases q))
      obtain ⟨av2, cv2, e2, hq1, hq2, hq3, hrz⟩ := own_readsRB hoR
      cases e2
      clear hq1 hq2 hq3 hrd hoR hown
      go_wp2_with fail
      generalize (((((((wr.setCell ⟨g2, 0, none⟩ (.int .i64 src)).setCell ⟨g2, 1, none⟩ (.bool isS)).setCell ⟨g2, 2, none⟩ (.int .i64 clock)).setCell ⟨g2, 3, none⟩ (.int .i64 time)).setCell ⟨g2, 4, none⟩ (.int .i64 packets)).setCell ⟨g2, 5, none⟩ (.int .i64 bytes)).setCell ⟨g2, 6, none⟩ (.slice av l.length cv)) = wz at hYz hoz hbz hrz ⊢
      obtain ⟨d0, d1, d2, d3, d4, d5, d6⟩ := hYz.cells
      clear f0 f1 f2 f3 f4 f5 f6 y0 y1 y2 y3 y4 y5 y6 z0 z1 z2 z3 z4 z5 z6
      refine bodyPost_ret (v := .agg #[.int .i64 src, .bool isS, .int .i64 clock, .int .i64 time, .int .i64 packets, .int .i64 bytes, .slice av l.length cv]) (by simp [results, Try.results20, go_sem, d0, d1, d2, d3, d4, d5, d6]) rfl ⟨by rw [HG.out]; exact hbz, av, cv, rfl, hrz⟩
end Go.Proofs.Ytkchhiiomahbaaa

