/- report.Of: what its two walks share. -/
import Derived.Test.YtkchhiiomahbaaaMRpN
import Derived.Test.YtkchhiiomahbaaaMRpT
import Derived.Test.YtkchhiiomahbaaaMb
namespace Go.Proofs.Ytkchhiiomahbaaa
open Go.RowKit
set_option linter.unusedVariables false
def RpOfd (p : PC) (w : World) (e : Ending) (w' : World) : Prop :=
  ∃ a c, e = .returned (.tuple #[.agg #[.int .u32 (ofP p).src, .bool (ofP p).isS, .int .i64 (ofP p).clock, .int .u32 (ofP p).time, .int .u32 (ofP p).packets, .int .u32 (ofP p).bytes, .slice a (ofP p).blocks.length c], .int .i64 (ofE p)]) ∧ ReadsB BK.vals w' a (ofP p).blocks ∧ Below w.heap.size w w'
theorem rpOfd_err (p : PC) (w w' : World) (E : Int) (h : ofE p = E) (hE : E ≠ 0) (hb : Below w.heap.size w w') : RpOfd p w (.returned (.tuple #[.agg #[.int .u32 0, .bool false, .int .i64 0, .int .u32 0, .int .u32 0, .int .u32 0, .slice none 0 0], .int .i64 E])) w' := by
  have hp : ofP p = zeroRP := by unfold ofP; rw [if_neg (by rw [h]; exact hE)]
  refine ⟨none, 0, ?_, ?_, hb⟩
  · rw [hp, h]; rfl
  · rw [hp]; exact .inl rfl
theorem rpOfd_ok (p : PC) (w w' : World) (q : RP) (a : Option Addr) (c : Nat) (h : ofE p = 0) (hq : rpAt (isSk p.kind) p.body p.count.toNat = q) (hr : ReadsB BK.vals w' a q.blocks) (hb : Below w.heap.size w w') : RpOfd p w (.returned (.tuple #[.agg #[.int .u32 q.src, .bool q.isS, .int .i64 q.clock, .int .u32 q.time, .int .u32 q.packets, .int .u32 q.bytes, .slice a q.blocks.length c], .int .i64 0])) w' := by
  have hp : ofP p = q := by unfold ofP; rw [if_pos h]; exact hq
  refine ⟨a, c, ?_, ?_, hb⟩
  · rw [hp, h]
  · rw [hp]; exact hr
theorem ofE_2 (count K : Int) (s : ByteArray) (hk : K = 200 ∨ K = 201) (hs : s.size < hd (isSk K) + 24 * count.toNat) : ofE ⟨count, K, s⟩ = 2 := by
  unfold ofE
  simp only
  rw [if_neg (by omega), if_pos hs]
theorem ofE_1 (count K : Int) (s : ByteArray) (hk : K = 200 ∨ K = 201) (hs : hd (isSk K) + 24 * count.toNat < s.size) : ofE ⟨count, K, s⟩ = 1 := by
  unfold ofE
  simp only
  rw [if_neg (by omega), if_neg (by omega), if_pos hs]
theorem ofE_0 (count K : Int) (s : ByteArray) (hk : K = 200 ∨ K = 201) (hs : s.size = hd (isSk K) + 24 * count.toNat) (hm : rpMay (rpAt (isSk K) s count.toNat)) : ofE ⟨count, K, s⟩ = 0 := by
  unfold ofE
  simp only
  rw [if_neg (by omega), if_neg (by omega), if_neg (by omega), if_pos hm]
theorem ofE_6 (count K : Int) (s : ByteArray) (hk : K = 200 ∨ K = 201) (hs : s.size = hd (isSk K) + 24 * count.toNat) (hm : ¬ rpMay (rpAt (isSk K) s count.toNat)) : ofE ⟨count, K, s⟩ = 6 := by
  unfold ofE
  simp only
  rw [if_neg (by omega), if_neg (by omega), if_neg (by omega), if_neg hm]
theorem ofE_5 (count K : Int) (s : ByteArray) (h0 : K ≠ 200) (h1 : K ≠ 201) : ofE ⟨count, K, s⟩ = 5 := by
  unfold ofE
  rw [if_pos ⟨h0, h1⟩]
/-- Where the reader is behind so many blocks. -/
def OfSt (s : ByteArray) (h n k : Nat) (l : List BK) (st : ByteArray × Int) : Prop :=
  (h + 24 * k ≤ s.size ∧ k ≤ n ∧ l = ((List.range k).map fun i => bkAt s (h + 24 * i)) ∧ st = stA s (h + 24 * k)) ∨ (s.size < h + 24 * n ∧ st = dead ∧ 24 * l.length ≤ s.size + 24)
theorem ofSt_next (s : ByteArray) (h n k : Nat) (hh : h + 24 * k ≤ s.size) (hk : k < n) :
    (∀ p, h + 24 * k + 24 ≤ s.size → p = bkAt s (h + 24 * k) → OfSt s h n (k + 1) (((List.range k).map fun i => bkAt s (h + 24 * i)) ++ [p]) (stA s (h + 24 * k + 24))) ∧ (∀ p, s.size < h + 24 * k + 24 → 24 * ((List.range k).map fun i => bkAt s (h + 24 * i)).length ≤ s.size → OfSt s h n (k + 1) (((List.range k).map fun i => bkAt s (h + 24 * i)) ++ [p]) dead) := by
  refine ⟨?_, ?_⟩
  · rintro p h1 rfl
    exact .inl ⟨by omega, by omega, by simp [List.range_succ], by rw [show h + 24 * (k + 1) = h + 24 * k + 24 from by omega]⟩
  · intro p h1 h2
    refine .inr ⟨by omega, rfl, ?_⟩
    rw [List.length_append]
    simp only [List.length_singleton]
    omega
theorem PcAt.ex {W W' : World} {g b : Nat} {p : PC} (h : PcAt W g p) (hg : g ≠ b) (ho : Ex b W W') : PcAt W' g p := by unfold PcAt; rw [ho.block g (lt_of_block h) hg]; exact h
theorem PcAt.only2 {W W' : World} {g b r : Nat} {p : PC} (h : PcAt W g p) (h1 : g ≠ b) (h2 : g ≠ r) (ho : Only2 b r W W') : PcAt W' g p := by unfold PcAt; rw [ho.block g h1 h2]; exact h
theorem At7.only2 {T : TypeId} {W W' : World} {g b r : Nat} {c0 c1 c2 c3 c4 c5 c6 : Value} (h : At7 T W g c0 c1 c2 c3 c4 c5 c6) (h1 : g ≠ b) (h2 : g ≠ r) (ho : Only2 b r W W') : At7 T W' g c0 c1 c2 c3 c4 c5 c6 := by unfold At7; rw [ho.block g h1 h2]; exact h
theorem own_onlyM {w w' : World} {T : TypeId} {B g m : Nat} {e : TypeId} {v : Value} {n : Nat} {xs : List Value} {c0 c1 c2 c3 c4 c5 c6 : Value} (h : w.ownsRow B e m v n xs) (hk : At7 T w g c0 c1 c2 c3 c4 c5 c6) (hne : T ≠ e) (ho : Only g w w') : w'.ownsRow B e m v n xs := by
  refine h.kept (row := some g) ⟨ho.os, ho.tape, ho.output, by rw [ho.size]; exact Nat.le_refl _, fun k _ hkb => ho.block k (fun e => hkb (by rw [e]))⟩ (.inr (fun x => row_neP h hk (by intro cur p q; simp at q; exact hne q.2.1) x.symm))
theorem own_readsB' {w : World} {B : Nat} {e : TypeId} {a : Option Addr} {c n : Nat} {l : List BK} (h : w.ownsRow B e 7 (.slice a n c) n (bksV l)) : ReadsB BK.vals w a l := by
  obtain ⟨a', c', e1, _, _, _, hr⟩ := own_readsB h
  cases e1
  exact hr
/-- 'r.Blocks = append(r.Blocks, b)', the append. -/
theorem step_blk {ops : Array Oper} {o : Oper} {a : Act} {w : World} {K : Act → World → Prop} {Q : Exit → Act → World → Prop} {E : Prop} (hgd : o.guard = none) (s x : Operand)
    (ho : o.op = .call { callee := .builtin .append, args := #[s, x], argTypes := #[29, 29] })
    (B r : Nat) (v : Value) (l : List BK) (p : BK) (c0 c1 c2 c3 c4 c5 : Value)
    (hX : At7 31 w r c0 c1 c2 c3 c4 c5 v) (hv : w.ownsRow B 122 7 v l.length (bksV l)) (hB : B ≤ w.heap.size) (hl : l.length ≤ 100000000000) (hs : a.eval s = v) (hx : a.eval x = .slice (some ⟨w.heap.size, 0, none⟩) 1 1)
    (h : ∀ ad c w', Hid (w'.ownsRow B 122 7 (.slice ad (l.length + 1) c) (l.length + 1) (bksV (l ++ [p])) ∧ (∀ (k : Nat) (o : Obj), w.heap[k]? = some o → (∀ cur q, o ≠ .cells cur 122 q) → w'.heap[k]? = some o) ∧ (∀ B0 w0, B0 ≤ B → Below B0 w0 w → Below B0 w0 w')) → w'.cell? ⟨r, 6, none⟩ = some v → w'.frozen? ⟨r, 6, none⟩ = false → K (a.put o.dst (.slice ad (l.length + 1) c)) w') :
    if Region.wanted o (yielded ops a.tmps) = true then Oper.wp Try.prog o a (w.alloc (.cells #[.int .u32 p.src, .int .i64 p.frac, .int .i64 p.lost, .int .u32 p.high, .int .u32 p.jit, .int .u32 p.last, .int .u32 p.delay] 122)) K Q else E := by
  obtain ⟨i0, hi, hz0, hz1, hz2⟩ := info_parts infoBk
  have hv1 := hv.alloc (.cells #[.int .u32 p.src, .int .i64 p.frac, .int .i64 p.lost, .int .u32 p.high, .int .u32 p.jit, .int .u32 p.last, .int .u32 p.delay] 122)
  have hX1 := hX.alloc (.cells #[.int .u32 p.src, .int .i64 p.frac, .int .i64 p.lost, .int .u32 p.high, .int .u32 p.jit, .int .u32 p.last, .int .u32 p.delay] 122)
  refine step_append_own hgd s x _ ho B 122 i0 _ 7 40 Try.underlying29 hi hz0 hz1 hz2 rfl (by decide) v l.length (bksV l) hs hv1 ⟨w.heap.size, 0, none⟩ 1 1 p.vals hx rfl ?_ ?_ (by unfold maxLen; omega) (by omega) (by simp; omega) ?_
  · intro j u hj
    rw [addr_add, cell_of_row _ w.heap.size j _ 122 (0, 0) (heap_alloc_new w _), ← Array.getElem?_toList]
    exact hj
  · intro u hu
    unfold BK.vals at hu
    simp only [List.mem_cons, List.not_mem_nil, or_false] at hu
    rcases hu with rfl | rfl | rfl | rfl | rfl | rfl | rfl <;> rfl
  · intro v' w' hown hgrow _
    obtain ⟨ad, c, rfl⟩ : ∃ ad c, v' = .slice ad (l.length + 1) c := by
      rcases hown.2 with ⟨_, h0⟩ | ⟨g, cap, cur, rfl, _⟩
      · omega
      · exact ⟨_, _, rfl⟩
    have hk : ∀ (k : Nat) (o : Obj), w.heap[k]? = some o → (∀ cur q, o ≠ .cells cur 122 q) → w'.heap[k]? = some o := fun k o hk hn => by
      rw [hgrow.block k (by have := lt_of_block hk; simp; omega) (row_neP hv hk hn)]
      exact heap_at_old _ _ _ _ hk
    have hX2 : At7 31 w' r c0 c1 c2 c3 c4 c5 v := hk _ _ hX (by intro cur q e; cases e)
    obtain ⟨_, _, _, _, _, _, q6⟩ := hX2.cells
    refine h ad c w' (Lib.hid ⟨?_, hk, fun B0 w0 h0 hb => ?_⟩) q6 (hX2.free 6)
    · have e : bksV (l ++ [p]) = bksV l ++ p.vals := by unfold bksV; simp
      rw [e]
      exact hown
    · exact (hb.alloc (by omega) _).grown hgrow (by simp; omega) (fun k hk => Nat.le_trans h0 (hv1.lt k hk).1)
set_option maxRecDepth 100000 in
set_option maxHeartbeats 1600000 in
theorem readSent_dead (b g : Nat) (c0 c1 c2 c3 c4 c5 c6 : Value) (w : World) (hX : At7 31 w g c0 c1 c2 c3 c4 c5 c6) (hgb : g ≠ b) (hI : InAt w b dead.1 dead.2) :
    Calls Try.prog 61 #[.pointer (some ⟨g, 2, none⟩), .pointer (some ⟨b, 0, none⟩)] w fun e w' =>
      e = .returned (.tuple #[]) ∧ Only2 b g w w' ∧ ∃ ck t p y : Int, u32ok t ∧ u32ok p ∧ u32ok y ∧ At7 31 w' g c0 c1 (.int .i64 ck) (.int .u32 t) (.int .u32 p) (.int .u32 y) c6 ∧ InAt w' b dead.1 dead.2 := by
  have H1 := fun W h => u32_st b dead W h (by decide)
  rw [show rd dead 4 = dead from rd_dead 4] at H1
  have o3 := u32ok_raw dead.1
  have g1 : getN (by_ (rawT dead.1 4)) < 4294967296 := getN_raw dead.1 4
  generalize getN (by_ (rawT dead.1 4)) = v1 at H1 g1 o3
  have hck := clk_or v1 v1 g1 g1
  have HO : Hid (u32ok v1) := Lib.hid o3
  clear o3
  obtain ⟨ck, hckd⟩ : ∃ ck, IntKind.i64.wrap (((v1 * 4294967296 + v1 : Nat) : Int)) = ck := ⟨_, rfl⟩
  rw [hckd] at hck
  have HCK : Hid (bits .or .i64 (wrap64 ((v1 : Int) * 4294967296)) (v1 : Int) = ck) := Lib.hid (by rw [← IntWalk.i64_left]; exact hck)
  clear hckd hck
  have hv1 : IntKind.i64.wrap (v1 : Int) = (v1 : Int) := IntWalk.i64_in _ ⟨by omega, by omega⟩
  generalize dead = dd at *
  have KU := Lib.hid H1
  clear H1
  go_enter Try.func61, Try.ntmps61
  go_wp2_with fail
  refine (KU.out _ hI).mono ?_
  rintro e w2 ⟨rfl, hI1, ho1⟩
  have hx1 := (Only2.refl b g w).onlyB ho1
  have hX1 := hX.only hgb ho1
  clear hI hX ho1
  go_wp2_with fail
  refine (KU.out _ hI1).mono ?_
  rintro e w3 ⟨rfl, hI2, ho2⟩
  have hx2 := hx1.onlyB ho2
  have hX2 := hX1.only hgb ho2
  clear hI1 hx1 hX1 ho2
  obtain ⟨x0, x1, x2, x3, x4, x5, x6⟩ := hX2.cells
  obtain ⟨f0, f1, f2, f3, f4, f5, f6⟩ := hX2.frees
  have hI3 := inAt_set (i := 2) (u := .int .i64 ck) hI2 hgb
  have hx3 := hx2.onlyG ((Only.refl g w3).setCell 2 (.int .i64 ck))
  have hX3 : At7 31 (w3.setCell ⟨g, 2, none⟩ (.int .i64 ck)) g c0 c1 (.int .i64 ck) c3 c4 c5 c6 := block_setCell hX2
  go_upto_region 2 with fail
  rw [HCK.out]
  generalize w3.setCell ⟨g, 2, none⟩ (.int .i64 ck) = w4 at hI3 hx3 hX3 ⊢
  clear hI2 hx2 hX2 x0 x1 x2 x3 x4 x5 x6 f0 f1 f2 f3 f4 f5 f6
  go_wp2_with fail
  refine (KU.out _ hI3).mono ?_
  rintro e w5 ⟨rfl, hI5, ho5⟩
  have hx5 := hx3.onlyB ho5
  have hX5 := hX3.only hgb ho5
  clear hI3 hx3 hX3 ho5
  go_wp2_with fail
  refine (KU.out _ hI5).mono ?_
  rintro e w6 ⟨rfl, hI6, ho6⟩
  have hx6 := hx5.onlyB ho6
  have hX6 := hX5.only hgb ho6
  clear hI5 hx5 hX5 ho6
  go_wp2_with fail
  refine (KU.out _ hI6).mono ?_
  rintro e w7 ⟨rfl, hI7, ho7⟩
  have hx7 := hx6.onlyB ho7
  have hX7 := hX6.only hgb ho7
  clear hI6 hx6 hX6 ho7 KU
  obtain ⟨x0, x1, x2, x3, x4, x5, x6⟩ := hX7.cells
  obtain ⟨f0, f1, f2, f3, f4, f5, f6⟩ := hX7.frees
  have hIz := inAt_set (i := 5) (u := .int .u32 (v1 : Int)) (inAt_set (i := 4) (u := .int .u32 (v1 : Int)) (inAt_set (i := 3) (u := .int .u32 (v1 : Int)) hI7 hgb) hgb) hgb
  have hxz := hx7.onlyG ((((Only.refl g w7).setCell 3 (.int .u32 (v1 : Int))).setCell 4 (.int .u32 (v1 : Int))).setCell 5 (.int .u32 (v1 : Int)))
  have hXa : At7 31 (w7.setCell ⟨g, 3, none⟩ (.int .u32 (v1 : Int))) g c0 c1 (.int .i64 ck) (.int .u32 (v1 : Int)) c4 c5 c6 := block_setCell hX7
  have hXb : At7 31 ((w7.setCell ⟨g, 3, none⟩ (.int .u32 (v1 : Int))).setCell ⟨g, 4, none⟩ (.int .u32 (v1 : Int))) g c0 c1 (.int .i64 ck) (.int .u32 (v1 : Int)) (.int .u32 (v1 : Int)) c5 c6 := block_setCell hXa
  have hXc : At7 31 (((w7.setCell ⟨g, 3, none⟩ (.int .u32 (v1 : Int))).setCell ⟨g, 4, none⟩ (.int .u32 (v1 : Int))).setCell ⟨g, 5, none⟩ (.int .u32 (v1 : Int))) g c0 c1 (.int .i64 ck) (.int .u32 (v1 : Int)) (.int .u32 (v1 : Int)) (.int .u32 (v1 : Int)) c6 := block_setCell hXb
  clear hXa hXb
  go_wp2
  go_end0
  exact ⟨rfl, hxz, ck, v1, v1, v1, HO.out, HO.out, HO.out, hXc, hIz⟩
theorem readSent_live (n r : Nat) (s : ByteArray) (src : Int) (st1 : ByteArray × Int) (W : World) (X : At7 31 W r (.int .u32 src) (.bool true) (.int .i64 0) (.int .u32 0) (.int .u32 0) (.int .u32 0) (.slice none 0 0) ∧ InAt W n st1.1 st1.2) (h : True) (hs : s.size ≤ 1099511627776) (hrn : r ≠ n) (HL : (4 ≤ s.size ∧ st1 = stA s 4) ∨ (s.size < 4 ∧ st1 = dead)) :
    Calls Try.prog 61 #[.pointer (some ⟨r, 2, none⟩), .pointer (some ⟨n, 0, none⟩)] W fun e w' =>
      e = .returned (.tuple #[]) ∧ Only2 n r W w' ∧ ∃ (ck tm pk by1 : Int) (st2 : ByteArray × Int), ((u32ok tm ∧ u32ok pk ∧ u32ok by1) ∧ (24 ≤ s.size → ck = IntKind.i64.wrap (((gN s 4 (4 + 4) * 4294967296 + gN s (4 + 4) (4 + 4 + 4) : Nat) : Int)) ∧ tm = gN s (4 + 4 + 4) (4 + 4 + 4 + 4) ∧ pk = gN s (4 + 4 + 4 + 4) (4 + 4 + 4 + 4 + 4) ∧ by1 = gN s (4 + 4 + 4 + 4 + 4) (4 + 4 + 4 + 4 + 4 + 4))) ∧ At7 31 w' r (.int .u32 src) (.bool true) (.int .i64 ck) (.int .u32 tm) (.int .u32 pk) (.int .u32 by1) (.slice none 0 0) ∧ InAt w' n st2.1 st2.2 ∧ ((24 ≤ s.size ∧ st2 = stA s 24) ∨ (s.size < 24 ∧ st2 = dead)) := by
  rcases HL with ⟨h4, rfl⟩ | ⟨h4, rfl⟩
  · refine (readSent_any n r s 4 _ _ _ _ _ _ _ W X.1 hrn X.2 h4 hs).mono ?_
    rintro e w' ⟨he, ho, ck, t, p, y, o3, o4, o5, hX, hh⟩
    rcases hh with ⟨q0, q1, q2, q3, q4, q5⟩ | ⟨q0, q5⟩
    · exact ⟨he, ho, ck, t, p, y, stA s 24, ⟨⟨o3, o4, o5⟩, fun _ => ⟨q1, q2, q3, q4⟩⟩, hX, q5, .inl ⟨by omega, rfl⟩⟩
    · exact ⟨he, ho, ck, t, p, y, dead, ⟨⟨o3, o4, o5⟩, fun h => absurd h (by omega)⟩, hX, q5, .inr ⟨by omega, rfl⟩⟩
  · refine (readSent_dead n r _ _ _ _ _ _ _ W X.1 hrn X.2).mono ?_
    rintro e w' ⟨he, ho, ck, t, p, y, o3, o4, o5, hX, q5⟩
    exact ⟨he, ho, ck, t, p, y, dead, ⟨⟨o3, o4, o5⟩, fun h => absurd h (by omega)⟩, hX, q5, .inr ⟨by omega, rfl⟩⟩
end Go.Proofs.Ytkchhiiomahbaaa

