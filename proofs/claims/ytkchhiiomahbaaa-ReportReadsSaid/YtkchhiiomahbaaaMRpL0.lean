/- The document's Of of a report: what its walks share. -/
import Derived.Test.YtkchhiiomahbaaaMRpI0
import Derived.Test.YtkchhiiomahbaaaMRpY
namespace Go.Proofs.Ytkchhiiomahbaaa
open Go.RowKit
set_option linter.unusedVariables false
theorem ext_mid (s : ByteArray) (A n m k : Nat) (hk : k ≤ n) (h : A + n ≤ s.size) : (s.extract A (A + n)).extract m k = s.extract (A + m) (A + k) := by
  rw [ByteArray.extract_extract]
  congr 1
  omega
theorem getN_take (l : List UInt8) (k : Nat) : getN (l.take k) ≤ getN l := by
  have e := getN_append (l.take k) (l.drop k).length (l.drop k) rfl
  rw [List.take_append_drop] at e
  have : getN (l.take k) * 1 ≤ getN (l.take k) * 256 ^ (l.drop k).length := Nat.mul_le_mul_left _ (Nat.one_le_pow _ _ (by decide))
  omega
theorem get8_any (s : ByteArray) (w : World) (hs : s.size ≤ 8) (hb : getN (by_ s) ≤ 1125899906842624) : Calls Try.prog 65 #[.string s] w fun e w' => e = .returned (.int .i64 (getN (by_ s))) ∧ w = w' := by
  have HB := Lib.hid (fun k => Nat.le_trans (getN_take (by_ s) k) hb)
  clear hb
  go_enter Try.func65, Try.ntmps65
  go_wp2
  go_loop [3, 4] (fun r i => ∃ k : Nat, k ≤ s.size ∧ i = .int .i64 k ∧ r = .int .i64 (getN ((by_ s).take k) : Int)) (fun _ i => s.size - (intOf i).toNat)
  case atStart => exact ⟨0, Nat.zero_le _, rfl, rfl⟩
  case round =>
    obtain ⟨k, hk, rfl, rfl⟩ := hrel
    by_cases hlt : k < s.size
    · have hts := take_succ_by s k hlt
      have hst : Hid (getN ((by_ s).take (k + 1)) = 256 * getN ((by_ s).take k) + s[k].toNat) := by show _ = _; rw [hts, getN_snoc]
      have hb3 := HB.out k
      have hc := UInt8.toNat_lt s[k]
      clear hts
      generalize getN ((by_ s).take k) = r at hst hb3
      go_wp2
      go_round
      case rel => exact ⟨k + 1, by omega, by go_num, by rw [hst.out]; congr 1⟩
      case measure => simp [intOf]; omega
    · obtain rfl : k = s.size := by omega
      have hta := take_all s
      go_wp2
      go_ret
      exact ⟨rfl, rfl⟩
theorem get_at (s : ByteArray) (a b : Nat) (hb : b ≤ a + 7) (w : World) : Calls Try.prog 65 #[.string (s.extract a b)] w fun e w' => e = .returned (.int .i64 (gN s a b)) ∧ w = w' := get_any (s.extract a b) w (by rw [ByteArray.size_extract]; omega)
def RefOfd (p : PC) (w : World) (e : Ending) (w' : World) : Prop :=
  ∃ a c, e = .returned (.tuple #[.agg #[.int .i64 (ofP p).src, .bool (ofP p).isS, .int .i64 (ofP p).clock, .int .i64 (ofP p).time, .int .i64 (ofP p).packets, .int .i64 (ofP p).bytes, .slice a (ofP p).blocks.length c], .int .i64 (ofE p)]) ∧ ReadsB BK.rvals w' a (ofP p).blocks ∧ Below w.heap.size w w'
theorem refOfd_err (p : PC) (w w' : World) (E : Int) (h : ofE p = E) (hE : E ≠ 0) (hb : Below w.heap.size w w') : RefOfd p w (.returned (.tuple #[.agg #[.int .i64 0, .bool false, .int .i64 0, .int .i64 0, .int .i64 0, .int .i64 0, .slice none 0 0], .int .i64 E])) w' := by
  have hp : ofP p = zeroRP := by unfold ofP; rw [if_neg (by rw [h]; exact hE)]
  refine ⟨none, 0, ?_, ?_, hb⟩
  · rw [hp, h]; rfl
  · rw [hp]; exact .inl rfl
theorem refOfd_ok (p : PC) (w w' : World) (q : RP) (a : Option Addr) (c : Nat) (h : ofE p = 0) (hq : rpAt (isSk p.kind) p.body p.count.toNat = q) (hr : ReadsB BK.rvals w' a q.blocks) (hb : Below w.heap.size w w') : RefOfd p w (.returned (.tuple #[.agg #[.int .i64 q.src, .bool q.isS, .int .i64 q.clock, .int .i64 q.time, .int .i64 q.packets, .int .i64 q.bytes, .slice a q.blocks.length c], .int .i64 0])) w' := by
  have hp : ofP p = q := by unfold ofP; rw [if_pos h]; exact hq
  refine ⟨a, c, ?_, ?_, hb⟩
  · rw [hp, h]
  · rw [hp]; exact hr
theorem own_readsRB' {w : World} {B : Nat} {e : TypeId} {a : Option Addr} {c n : Nat} {l : List BK} (h : w.ownsRow B e 7 (.slice a n c) n (rbksV l)) : ReadsB BK.rvals w a l := by
  obtain ⟨a', c', e1, _, _, _, hr⟩ := own_readsRB h
  cases e1
  exact hr
/-- The bytes of one block: its numbers. -/
def BlkOf (t : ByteArray) (p : BK) (n : Nat) : Prop := (gN t 0 4 : Int) = p.src ∧ (gN t 4 5 : Int) = p.frac ∧ gN t 5 8 = n ∧ n < 16777216 ∧ sgn n = p.lost ∧ (gN t 8 12 : Int) = p.high ∧ (gN t 12 16 : Int) = p.jit ∧ (gN t 16 20 : Int) = p.last ∧ (gN t 20 24 : Int) = p.delay
theorem blkOf_at (s : ByteArray) (A : Nat) (h : A + 24 ≤ s.size) : ∃ n, BlkOf (s.extract A (A + 24)) (bkAt s A) n := by
  have e : ∀ m k, k ≤ 24 → gN (s.extract A (A + 24)) m k = gN s (A + m) (A + k) := fun m k hk => by unfold gN; rw [ext_mid s A 24 m k hk h]
  refine ⟨gN s (A + 5) (A + 8), ?_⟩
  have c : ∀ {x y : Nat}, x = y → (x : Int) = (y : Int) := fun h => by rw [h]
  have e1 : A + 4 + 1 = A + 5 := rfl
  unfold BlkOf bkAt
  refine ⟨c (e 0 4 (by decide)), c (e 4 5 (by decide)), e 5 8 (by decide), gN_lt s _ _ 3 (by omega), rfl, c (e 8 12 (by decide)), c (e 12 16 (by decide)), c (e 16 20 (by decide)), c (e 20 24 (by decide))⟩
theorem rbksV_snoc (l : List BK) (p : BK) : rbksV (l ++ [p]) = rbksV l ++ p.rvals := by unfold rbksV; simp
/-- 'r.Blocks = append(r.Blocks, b)', the append. -/
theorem step_rblk {ops : Array Oper} {o : Oper} {a : Act} {w : World} {K : Act → World → Prop} {Q : Exit → Act → World → Prop} {E : Prop} (hgd : o.guard = none) (s x : Operand)
    (ho : o.op = .call { callee := .builtin .append, args := #[s, x], argTypes := #[36, 36] })
    (B r : Nat) (v : Value) (l : List BK) (p : BK) (c0 c1 c2 c3 c4 c5 : Value)
    (hX : At7 38 w r c0 c1 c2 c3 c4 c5 v) (hv : w.ownsRow B 126 7 v l.length (rbksV l)) (hB : B ≤ w.heap.size) (hl : l.length ≤ 1000) (hs : a.eval s = v) (hx : a.eval x = .slice (some ⟨w.heap.size, 0, none⟩) 1 1)
    (h : ∀ ad c w', Hid (w'.ownsRow B 126 7 (.slice ad (l.length + 1) c) (l.length + 1) (rbksV (l ++ [p])) ∧ (∀ (k : Nat) (o : Obj), w.heap[k]? = some o → (∀ cur q, o ≠ .cells cur 126 q) → w'.heap[k]? = some o) ∧ (∀ B0 w0, B0 ≤ B → Below B0 w0 w → Below B0 w0 w')) → w'.cell? ⟨r, 6, none⟩ = some v → w'.frozen? ⟨r, 6, none⟩ = false → K (a.put o.dst (.slice ad (l.length + 1) c)) w') :
    if Region.wanted o (yielded ops a.tmps) = true then Oper.wp Try.prog o a (w.alloc (.cells #[.int .i64 p.src, .int .i64 p.frac, .int .i64 p.lost, .int .i64 p.high, .int .i64 p.jit, .int .i64 p.last, .int .i64 p.delay] 126)) K Q else E := by
  obtain ⟨i0, hi, hz0, hz1, hz2⟩ := info_parts infoRb
  have hv1 := hv.alloc (.cells #[.int .i64 p.src, .int .i64 p.frac, .int .i64 p.lost, .int .i64 p.high, .int .i64 p.jit, .int .i64 p.last, .int .i64 p.delay] 126)
  refine step_append_own hgd s x _ ho B 126 i0 _ 7 56 Try.underlying36 hi hz0 hz1 hz2 rfl (by decide) v l.length (rbksV l) hs hv1 ⟨w.heap.size, 0, none⟩ 1 1 p.rvals hx rfl ?_ ?_ (by unfold maxLen; omega) (by omega) (by simp; omega) ?_
  · intro j u hj
    rw [addr_add, cell_of_row _ w.heap.size j _ 126 (0, 0) (heap_alloc_new w _), ← Array.getElem?_toList]
    exact hj
  · intro u hu
    unfold BK.rvals at hu
    simp only [List.mem_cons, List.not_mem_nil, or_false] at hu
    rcases hu with rfl | rfl | rfl | rfl | rfl | rfl | rfl <;> rfl
  · intro v' w' hown hgrow _
    obtain ⟨ad, c, rfl⟩ : ∃ ad c, v' = .slice ad (l.length + 1) c := by
      rcases hown.2 with ⟨_, h0⟩ | ⟨g, cap, cur, rfl, _⟩
      · omega
      · exact ⟨_, _, rfl⟩
    have hk : ∀ (k : Nat) (o : Obj), w.heap[k]? = some o → (∀ cur q, o ≠ .cells cur 126 q) → w'.heap[k]? = some o := fun k o hk hn => by
      rw [hgrow.block k (by have := lt_of_block hk; simp; omega) (row_neP hv hk hn)]
      exact heap_at_old _ _ _ _ hk
    have hX2 : At7 38 w' r c0 c1 c2 c3 c4 c5 v := hk _ _ hX (by intro cur q e; cases e)
    obtain ⟨_, _, _, _, _, _, q6⟩ := hX2.cells
    refine h ad c w' (Lib.hid ⟨?_, hk, fun B0 w0 h0 hb => ?_⟩) q6 (hX2.free 6)
    · rw [rbksV_snoc]
      exact hown
    · exact (hb.alloc (by omega) _).grown hgrow (by simp; omega) (fun k hk => Nat.le_trans h0 (hv1.lt k hk).1)
theorem clk_hi (s : ByteArray) (n : Nat) (h : 256 < gN s 4 8) : ¬ rpMay (rpAt true s n) := by
  intro hm
  have hc := (sentMay_t _ _ _ _).1 hm.1
  rw [rpAt_clk] at hc
  have hq1 := gN_lt4 s 4
  have hq2 := gN_lt4 s (4 + 4)
  have hw := wrap_clk _ _ hq1 hq2 hc.1 hc.2
  rw [hw] at hc
  have h' : 256 < gN s 4 (4 + 4) := h
  omega
theorem clk_lo (s : ByteArray) (n : Nat) (h : gN s 4 8 ≤ 256) (hs : 12 ≤ s.size) : (rpAt true s n).clock = (gN s 4 12 : Nat) ∧ gN s 4 12 ≤ 1125899906842624 := by
  have e : gN s 4 12 = gN s 4 8 * 4294967296 + gN s 8 12 := gN_8 s 4 hs
  have hq2 : gN s 8 12 < 4294967296 := gN_lt4 s 8
  rw [rpAt_clk]
  have e1 : gN s 4 (4 + 4) = gN s 4 8 := rfl
  have e2 : gN s (4 + 4) (4 + 4 + 4) = gN s 8 12 := rfl
  rw [e1, e2, ← e]
  refine ⟨IntWalk.i64_in _ ⟨by omega, by omega⟩, by omega⟩
end Go.Proofs.Ytkchhiiomahbaaa

