/- rtp: reading a header. -/
import Derived.Test.YtilobmebfeenfaaRtpW
import Derived.Test.YtilobmebfeenfaaByM
import Derived.RegionTactic
import Derived.BigRegion
namespace Go.Proofs.Ytilobmebfeenfaa
open Go.RowKit
set_option linter.unusedVariables false
theorem row_ne {w : World} {B : Nat} {e : TypeId} {v : Value} {n : Nat} {xs : List Value} (h : w.ownsRow B e 1 v n xs) {k : Nat} {o : Obj} (hk : w.heap[k]? = some o) (hn : ∀ cur p, o ≠ .cells cur e p) : some k ≠ v.ownBlock := by
  intro he
  rcases h.2 with ⟨rfl, _⟩ | ⟨g, cap, cur, rfl, _, hg, _⟩
  · cases he
  · simp only [Value.ownBlock, Option.some.injEq] at he
    subst he
    rw [hg] at hk
    exact hn _ _ (Option.some.inj hk).symm
theorem own_only {w w' : World} {B b : Nat} {e : TypeId} {v : Value} {n : Nat} {xs : List Value} {o : Obj} (h : w.ownsRow B e 1 v n xs) (hk : w.heap[b]? = some o) (hn : ∀ cur p, o ≠ .cells cur e p) (ho : Only b w w') : w'.ownsRow B e 1 v n xs := by
  refine h.kept (row := some b) ⟨ho.os, ho.tape, ho.output, by rw [ho.size]; exact Nat.le_refl _, fun k _ hkb => ho.block k (fun e => hkb (by rw [e]))⟩ (.inr (fun e => row_ne h hk hn e.symm))
theorem in_ne (s : ByteArray) (er : Int) (q : Nat × Nat) : ∀ cur p, Obj.cells #[.string s, .int .i64 er] 111 q ≠ .cells cur 25 p := by intro cur p e; cases e
/-- A packet in memory. -/
def PkIn (W : World) (g : Nat) (c0 c1 c2 c3 c4 c5 c6 c7 c8 c9 c10 : Value) : Prop := W.heap[g]? = some (.cells #[c0, c1, c2, c3, c4, c5, c6, c7, c8, c9, c10] 30 (0, 0))
section
variable {W w' : World} {g b : Nat} {c0 c1 c2 c3 c4 c5 c6 c7 c8 c9 c10 : Value}
theorem PkIn.cell (h : PkIn W g c0 c1 c2 c3 c4 c5 c6 c7 c8 c9 c10) (i : Nat) : W.cell? ⟨g, i, none⟩ = (#[c0, c1, c2, c3, c4, c5, c6, c7, c8, c9, c10] : Array Value)[i]? := cell_of_row W g i _ _ (0, 0) h
theorem PkIn.cells (h : PkIn W g c0 c1 c2 c3 c4 c5 c6 c7 c8 c9 c10) :
    W.cell? ⟨g, 0, none⟩ = some c0 ∧ W.cell? ⟨g, 1, none⟩ = some c1 ∧ W.cell? ⟨g, 2, none⟩ = some c2 ∧ W.cell? ⟨g, 3, none⟩ = some c3 ∧ W.cell? ⟨g, 4, none⟩ = some c4 ∧ W.cell? ⟨g, 5, none⟩ = some c5 ∧ W.cell? ⟨g, 6, none⟩ = some c6 ∧ W.cell? ⟨g, 7, none⟩ = some c7 ∧ W.cell? ⟨g, 8, none⟩ = some c8 ∧ W.cell? ⟨g, 9, none⟩ = some c9 ∧ W.cell? ⟨g, 10, none⟩ = some c10 := by
  have f := h.cell
  exact ⟨by simpa using f 0, by simpa using f 1, by simpa using f 2, by simpa using f 3, by simpa using f 4, by simpa using f 5, by simpa using f 6, by simpa using f 7, by simpa using f 8, by simpa using f 9, by simpa using f 10⟩
theorem PkIn.free (h : PkIn W g c0 c1 c2 c3 c4 c5 c6 c7 c8 c9 c10) (i : Nat) : W.frozen? ⟨g, i, none⟩ = false := by unfold PkIn at h; simp [World.frozen?, h]
theorem PkIn.frees (h : PkIn W g c0 c1 c2 c3 c4 c5 c6 c7 c8 c9 c10) : W.frozen? ⟨g, 0, none⟩ = false ∧ W.frozen? ⟨g, 1, none⟩ = false ∧ W.frozen? ⟨g, 2, none⟩ = false ∧ W.frozen? ⟨g, 3, none⟩ = false ∧ W.frozen? ⟨g, 4, none⟩ = false ∧ W.frozen? ⟨g, 5, none⟩ = false ∧ W.frozen? ⟨g, 6, none⟩ = false ∧ W.frozen? ⟨g, 7, none⟩ = false ∧ W.frozen? ⟨g, 8, none⟩ = false ∧ W.frozen? ⟨g, 9, none⟩ = false ∧ W.frozen? ⟨g, 10, none⟩ = false :=
  ⟨h.free 0, h.free 1, h.free 2, h.free 3, h.free 4, h.free 5, h.free 6, h.free 7, h.free 8, h.free 9, h.free 10⟩
theorem PkIn.only (h : PkIn W g c0 c1 c2 c3 c4 c5 c6 c7 c8 c9 c10) (hg : g ≠ b) (ho : Only b W w') : PkIn w' g c0 c1 c2 c3 c4 c5 c6 c7 c8 c9 c10 := by unfold PkIn; rw [ho.block g hg]; exact h
theorem PkIn.later (h : PkIn W g c0 c1 c2 c3 c4 c5 c6 c7 c8 c9 c10) (hb : Below W.heap.size W w') : PkIn w' g c0 c1 c2 c3 c4 c5 c6 c7 c8 c9 c10 := by unfold PkIn; rw [hb.block g (lt_of_block h)]; exact h
theorem PkIn.lt (h : PkIn W g c0 c1 c2 c3 c4 c5 c6 c7 c8 c9 c10) : g < W.heap.size := lt_of_block h
theorem PkIn.set (h : PkIn W g c0 c1 c2 c3 c4 c5 c6 c7 c8 c9 c10) (i : Nat) (u : Value) : (W.setCell ⟨g, i, none⟩ u).heap[g]? = some (.cells ((#[c0, c1, c2, c3, c4, c5, c6, c7, c8, c9, c10] : Array Value).setIfInBounds i u) 30 (0, 0)) := block_setCell h
end
theorem inAt_set {w : World} {b b' i : Nat} {s : ByteArray} {er : Int} {u : Value} (h : InAt w b s er) (hne : b' ≠ b) : InAt (w.setCell ⟨b', i, none⟩ u) b s er := by
  unfold InAt; rw [Below.heap_setCell _ _ _ _ (fun e => hne e.symm)]; exact h
theorem own_set {w : World} {B g i : Nat} {v u : Value} {n : Nat} {xs : List Value} {c0 c1 c2 c3 c4 c5 c6 c7 c8 c9 c10 : Value} (h : w.ownsRow B 25 1 v n xs) (hP : PkIn w g c0 c1 c2 c3 c4 c5 c6 c7 c8 c9 c10) : (w.setCell ⟨g, i, none⟩ u).ownsRow B 25 1 v n xs :=
  ownsRow_setCell_other h (fun e => row_ne h hP (by intro cur p e; cases e) e.symm) _
theorem pk_ne {c0 c1 c2 c3 c4 c5 c6 c7 c8 c9 c10 : Value} (q : Nat × Nat) : ∀ cur p, Obj.cells #[c0, c1, c2, c3, c4, c5, c6, c7, c8, c9, c10] 30 q ≠ .cells cur 25 p := by intro cur p e; cases e
def rds (st : ByteArray × Int) : Nat → ByteArray × Int
  | 0 => st
  | k + 1 => rd (rds st k) 4
def osF (st : ByteArray × Int) (k : Nat) : List Int := (List.range k).map fun i => (getN (by_ (rawT (rds st i).1 4)) : Int)
theorem osF_succ (st : ByteArray × Int) (k : Nat) : osF st (k + 1) = osF st k ++ [(getN (by_ (rawT (rds st k).1 4)) : Int)] := by simp [osF, List.range_succ]
theorem osF_len (st : ByteArray × Int) (k : Nat) : (osF st k).length = k := by simp [osF]
theorem rds_le (st : ByteArray × Int) : ∀ k, (rds st k).1.size ≤ st.1.size
  | 0 => Nat.le_refl _
  | k + 1 => Nat.le_trans (rawS_le _ _ _) (rds_le st k)
theorem info32 : (Try.prog.info? 25).map (fun i => (i.zero, i.size, i.bytes)) = some (some (.int .u32 0), 1, 4) := by kernel_rfl
/-- 'h.Others = append(h.Others, u)', the append. -/
theorem step_others {ops : Array Oper} {o : Oper} {a : Act} {w : World} {K : Act → World → Prop} {Q : Exit → Act → World → Prop} {E : Prop} (hgd : o.guard = none) (s x : Operand)
    (ho : o.op = .call { callee := .builtin .append, args := #[s, x], argTypes := #[26, 26] })
    (B g b : Nat) (v : Value) (xs : List Int) (r : Int) (c0 c1 c2 c3 c4 c6 c7 c8 c9 c10 : Value) (st : ByteArray) (er : Int)
    (hP : PkIn w g c0 c1 c2 c3 c4 v c6 c7 c8 c9 c10) (hI : InAt w b st er) (hv : w.ownsRow B 25 1 v xs.length (xs.map (Value.int .u32))) (hB : B ≤ g) (hl : xs.length ≤ 1000) (hs : a.eval s = v) (hx : a.eval x = .slice (some ⟨w.heap.size, 0, none⟩) 1 1)
    (h : ∀ ad c w', Hid (w'.ownsRow B 25 1 (.slice ad (xs.length + 1) c) (xs.length + 1) ((xs ++ [r]).map (Value.int .u32)) ∧ PkIn w' g c0 c1 c2 c3 c4 v c6 c7 c8 c9 c10 ∧ InAt w' b st er ∧ Below B w w') → w'.cell? ⟨g, 5, none⟩ = some v → w'.frozen? ⟨g, 5, none⟩ = false → K (a.put o.dst (.slice ad (xs.length + 1) c)) w') :
    if Region.wanted o (yielded ops a.tmps) = true then Oper.wp Try.prog o a (w.alloc (.cells #[.int .u32 r] 25)) K Q else E := by
  obtain ⟨i0, hi, hz0, hz1, hz2⟩ := info_parts info32
  have hv1 := hv.alloc (.cells #[.int .u32 r] 25)
  have hP1 : PkIn (w.alloc (.cells #[.int .u32 r] 25)) g c0 c1 c2 c3 c4 v c6 c7 c8 c9 c10 := hP.later ((Below.refl _ _).alloc (Nat.le_refl _) _)
  have hI1 : InAt (w.alloc (.cells #[.int .u32 r] 25)) b st er := hI.later ((Below.refl _ _).alloc (Nat.le_refl _) _)
  have hlt := hP.lt
  refine step_append_own hgd s x _ ho B 25 i0 (.int .u32 0) 1 4 Try.underlying26 hi hz0 hz1 hz2 rfl (by decide) v xs.length (xs.map (Value.int .u32)) hs hv1 ⟨w.heap.size, 0, none⟩ 1 1 [.int .u32 r] hx rfl ?_ ?_ (by unfold maxLen; omega) (by omega) (by simp; omega) ?_
  · intro j u' hj
    match j, hj with
    | 0, hj => simp at hj; subst hj; simp [Addr.add]
  · intro u' hu; simp at hu; subst hu; rfl
  · intro v' w' hown hgrow _
    obtain ⟨ad, c, rfl⟩ := own_slice hown
    have hP2 : PkIn w' g c0 c1 c2 c3 c4 v c6 c7 c8 c9 c10 := by unfold PkIn; rw [hgrow.block g hP1.lt (row_ne hv1 hP1 (pk_ne _))]; exact hP1
    have hI2 : InAt w' b st er := by unfold InAt; rw [hgrow.block b hI1.lt (row_ne hv1 hI1 (in_ne _ _ _))]; exact hI1
    obtain ⟨_, _, _, _, _, q5, _⟩ := hP2.cells
    refine h ad c w' ⟨by rw [List.map_append]; exact hown, hP2, hI2, ?_⟩ q5 (hP2.free 5)
    refine ((Below.refl _ _).alloc (by omega) _).grown hgrow (by simp; omega) ?_
    intro k hk
    exact (hv1.lt k hk).1
theorem i64_and128 (n : Nat) (h : n ≤ 255) : bits .and .i64 (n : Int) 128 = ((n / 128 * 128 : Nat) : Int) := by
  have key : ∀ m : Fin 256, bits .and .i64 ((m.val : Nat) : Int) 128 = ((m.val / 128 * 128 : Nat) : Int) := by decide +kernel
  exact key ⟨n, by omega⟩
theorem i64_and127 (n : Nat) (h : n ≤ 255) : bits .and .i64 (n : Int) 127 = ((n % 128 : Nat) : Int) := by
  have h2 := i64_mask (n : Int) 7 (by decide)
  simp only [show (2 ^ 7 - 1 : Nat) = 127 from rfl, show (2 ^ 7 : Nat) = 128 from rfl] at h2
  have h3 : bits .and .i64 (n : Int) 127 = (n : Int) % 128 := h2
  rw [h3]; omega
theorem i64_and15 (n : Nat) (h : n ≤ 255) : bits .and .i64 (n : Int) 15 = ((n % 16 : Nat) : Int) := by
  have h2 := i64_mask (n : Int) 4 (by decide)
  have h3 : bits .and .i64 (n : Int) 15 = (n : Int) % 16 := h2
  rw [h3]; omega
theorem i64_and16 (n : Nat) (h : n ≤ 255) : bits .and .i64 (n : Int) 16 = ((n / 16 % 2 * 16 : Nat) : Int) := by
  have key : ∀ m : Fin 256, bits .and .i64 ((m.val : Nat) : Int) 16 = ((m.val / 16 % 2 * 16 : Nat) : Int) := by decide +kernel
  exact key ⟨n, by omega⟩
theorem i64_and32 (n : Nat) (h : n ≤ 255) : bits .and .i64 (n : Int) 32 = ((n / 32 % 2 * 32 : Nat) : Int) := by
  have key : ∀ m : Fin 256, bits .and .i64 ((m.val : Nat) : Int) 32 = ((m.val / 32 % 2 * 32 : Nat) : Int) := by decide +kernel
  exact key ⟨n, by omega⟩
theorem i64_not63 (n : Nat) (h : n ≤ 255) : bits .andNot .i64 (n : Int) 63 = ((n / 64 * 64 : Nat) : Int) := by
  have key : ∀ m : Fin 256, bits .andNot .i64 ((m.val : Nat) : Int) 63 = ((m.val / 64 * 64 : Nat) : Int) := by decide +kernel
  exact key ⟨n, by omega⟩
/-- What reading a header leaves. -/
def ReadH (B b g : Nat) (second : Nat) (seq time source : Nat) (st : ByteArray × Int) (n : Nat) (hx : Bool) (w : World) (e : Ending) (w' : World) : Prop :=
  e = .returned (.tuple #[]) ∧ Below B w w' ∧ ∃ (v : Value) (prof : Nat) (ext : ByteArray) (sf : ByteArray × Int),
    w'.ownsRow B 25 1 v n ((osF st n).map (Value.int .u32)) ∧
    PkIn w' g (.bool (decide (second / 128 = 1))) (.int .i64 ((second % 128 : Nat) : Int)) (.int .u16 (seq : Int)) (.int .u32 (time : Int)) (.int .u32 (source : Int)) v (.bool hx) (.int .i64 (prof : Int)) (.string ext) (.string { data := #[] }) (.int .i64 0) ∧
    InAt w' b sf.1 sf.2 ∧
    ((hx = false ∧ prof = 0 ∧ ext = { data := #[] } ∧ sf = rds st n) ∨
     (hx = true ∧ prof = getN (by_ (rawT (rds st n).1 2)) ∧ ext = rawT (rd (rd (rds st n) 2) 2).1 (4 * (getN (by_ (rawT (rd (rds st n) 2).1 2)) : Int)) ∧ sf = rd (rd (rd (rds st n) 2) 2) (4 * (getN (by_ (rawT (rd (rds st n) 2).1 2)) : Int))))
set_option maxRecDepth 100000 in
set_option maxHeartbeats 3200000 in
theorem readHeader_any (B b g : Nat) (s : ByteArray) (first : Nat) (w : World) (hf : first ≤ 255) (hP : PkIn w g (.bool false) (.int .i64 0) (.int .u16 0) (.int .u32 0) (.int .u32 0) (.slice none 0 0) (.bool false) (.int .i64 0) (.string { data := #[] }) (.string { data := #[] }) (.int .i64 0)) (hI : InAt w b s 0) (hs : s.size ≤ 1099511627776) (hne : g ≠ b) (hBg : B ≤ g) (hBb : B ≤ b) :
    Calls Try.prog 27 #[.pointer (some ⟨g, 0, none⟩), .pointer (some ⟨b, 0, none⟩), .int .i64 (first : Int)] w
      (ReadH B b g (getN (by_ (rawT s 1))) (getN (by_ (rawT (rd (s, 0) 1).1 2))) (getN (by_ (rawT (rd (rd (s, 0) 1) 2).1 4))) (getN (by_ (rawT (rd (rd (rd (s, 0) 1) 2) 4).1 4))) (rd (rd (rd (rd (s, 0) 1) 2) 4) 4) (first % 16) (decide (first / 16 % 2 = 1)) w) := by
  have HU1 := inU8_any b s 0 w hI (by omega)
  have l0 : (rd (s, 0) 1).1.size ≤ s.size := rawS_le _ _ _
  have l1 : (rd (rd (s, 0) 1) 2).1.size ≤ s.size := Nat.le_trans (rawS_le _ _ _) l0
  have l2 : (rd (rd (rd (s, 0) 1) 2) 4).1.size ≤ s.size := Nat.le_trans (rawS_le _ _ _) l1
  have l3 : (rd (rd (rd (rd (s, 0) 1) 2) 4) 4).1.size ≤ s.size := Nat.le_trans (rawS_le _ _ _) l2
  have hsec := getN_lt (by_ (rawT s 1))
  have hsec2 : getN (by_ (rawT s 1)) ≤ 255 := by
    have h1 : (by_ (rawT s 1)).length ≤ 1 := by rw [by_len]; have := (rawT_size s 1).1; unfold rawN at this; omega
    have h2 : 256 ^ (by_ (rawT s 1)).length ≤ 256 ^ 1 := Nat.pow_le_pow_right (by decide) h1
    omega
  have hseq := getN_lt (by_ (rawT (rd (s, 0) 1).1 2))
  have hseq2 : getN (by_ (rawT (rd (s, 0) 1).1 2)) ≤ 65535 := by
    have h1 : (by_ (rawT (rd (s, 0) 1).1 2)).length ≤ 2 := by rw [by_len]; have := (rawT_size (rd (s, 0) 1).1 2).1; unfold rawN at this; omega
    have h2 : 256 ^ (by_ (rawT (rd (s, 0) 1).1 2)).length ≤ 256 ^ 2 := Nat.pow_le_pow_right (by decide) h1
    omega
  clear hsec hseq
  change Calls _ _ _ _ (Took b _ (rd (s, 0) 1).1 (rd (s, 0) 1).2 w) at HU1
  have HU2 : ∀ W, InAt W b (rd (s, 0) 1).1 (rd (s, 0) 1).2 → Calls Try.prog 54 #[.pointer (some ⟨b, 0, none⟩)] W (Took b (.int .i64 (getN (by_ (rawT (rd (s, 0) 1).1 2)) : Int)) (rd (rd (s, 0) 1) 2).1 (rd (rd (s, 0) 1) 2).2 W) := fun W h => inU16_any b _ _ W h (by omega)
  have HU3 : ∀ W, InAt W b (rd (rd (s, 0) 1) 2).1 (rd (rd (s, 0) 1) 2).2 → Calls Try.prog 55 #[.pointer (some ⟨b, 0, none⟩)] W (Took b (.int .u32 (getN (by_ (rawT (rd (rd (s, 0) 1) 2).1 4)) : Int)) (rd (rd (rd (s, 0) 1) 2) 4).1 (rd (rd (rd (s, 0) 1) 2) 4).2 W) := fun W h => inU32_any b _ _ W h (by omega)
  have HU4 : ∀ W, InAt W b (rd (rd (rd (s, 0) 1) 2) 4).1 (rd (rd (rd (s, 0) 1) 2) 4).2 → Calls Try.prog 55 #[.pointer (some ⟨b, 0, none⟩)] W (Took b (.int .u32 (getN (by_ (rawT (rd (rd (rd (s, 0) 1) 2) 4).1 4)) : Int)) (rd (rd (rd (rd (s, 0) 1) 2) 4) 4).1 (rd (rd (rd (rd (s, 0) 1) 2) 4) 4).2 W) := fun W h => inU32_any b _ _ W h (by omega)
  generalize getN (by_ (rawT (rd (rd (rd (s, 0) 1) 2) 4).1 4)) = source at HU4 ⊢
  generalize getN (by_ (rawT (rd (rd (s, 0) 1) 2).1 4)) = time at HU3 ⊢
  generalize getN (by_ (rawT (rd (s, 0) 1).1 2)) = seq at HU2 hseq2 ⊢
  generalize getN (by_ (rawT s 1)) = second at HU1 hsec2 ⊢
  generalize rd (rd (rd (rd (s, 0) 1) 2) 4) 4 = st4 at HU4 l3 ⊢
  generalize rd (rd (rd (s, 0) 1) 2) 4 = st3 at HU3 HU4
  generalize rd (rd (s, 0) 1) 2 = st2 at HU2 HU3
  generalize rd (s, 0) 1 = st1 at HU1 HU2
  have HU2' := Lib.hid HU2
  have HU3' := Lib.hid HU3
  have HU4' := Lib.hid HU4
  have b1 := i64_and128 second hsec2
  have b2 := i64_and127 second hsec2
  have b3 := i64_and15 first hf
  have b4 := i64_and16 first hf
  have b5 : (((second / 128 * 128 : Nat) : Int) != 0) = decide (second / 128 = 1) := by
    rw [Bool.eq_iff_iff, bne_iff_ne, decide_eq_true_eq]; omega
  have b6 : (((first / 16 % 2 * 16 : Nat) : Int) != 0) = decide (first / 16 % 2 = 1) := by
    rw [Bool.eq_iff_iff, bne_iff_ne, decide_eq_true_eq]; omega
  have hn16 : first % 16 ≤ 15 := by omega
  clear HU2 HU3 HU4 l0 l1 l2
  generalize hmk : decide (second / 128 = 1) = mrk at b5
  have Hmk := Lib.hid hmk
  clear hmk
  generalize decide (first / 16 % 2 = 1) = hx at b6 ⊢
  generalize second / 128 * 128 = q1 at b1 b5
  generalize first / 16 % 2 * 16 = q2 at b4 b6
  generalize hkd : second % 128 = kind at b2
  have Hkd := Lib.hid hkd
  clear hkd
  generalize first % 16 = n at b3 hn16 ⊢
  go_enter Try.func27, Try.ntmps27
  go_wp2_with fail
  refine HU1.mono ?_
  rintro e w1 ⟨rfl, hI1, ho1⟩
  have hP1 := hP.only hne ho1
  have hb1 := ho1.below hBb
  obtain ⟨c0, c1, c2, c3, c4, c5, c6, c7, c8, c9, c10⟩ := hP1.cells
  obtain ⟨f0, f1, f2, f3, f4, f5, f6, f7, f8, f9, f10⟩ := hP1.frees
  clear HU1 hP hI ho1
  go_wp2_with fail
  have hP2 : PkIn ((w1.setCell ⟨g, 0, none⟩ (.bool mrk)).setCell ⟨g, 1, none⟩ (.int .i64 (kind : Int))) g (.bool mrk) (.int .i64 (kind : Int)) (.int .u16 0) (.int .u32 0) (.int .u32 0) (.slice none 0 0) (.bool false) (.int .i64 0) (.string { data := #[] }) (.string { data := #[] }) (.int .i64 0) := block_setCell (block_setCell hP1)
  have hI2 := inAt_set (i := 1) (u := .int .i64 (kind : Int)) (inAt_set (i := 0) (u := .bool mrk) hI1 hne) hne
  have hb2 := (hb1.setCell (p := ⟨g, 0, none⟩) hBg (.bool mrk)).setCell (p := ⟨g, 1, none⟩) hBg (.int .i64 (kind : Int))
  clear hP1 hI1 hb1 c0 c1 c2 c3 c4 c5 c6 c7 c8 c9 c10 f0 f1 f2 f3 f4 f5 f6 f7 f8 f9 f10
  generalize (w1.setCell ⟨g, 0, none⟩ (.bool mrk)).setCell ⟨g, 1, none⟩ (.int .i64 (kind : Int)) = w2 at hP2 hI2 hb2 ⊢
  refine (HU2'.out _ hI2).mono ?_
  rintro e w3 ⟨rfl, hI3, ho3⟩
  have hP3 := hP2.only hne ho3
  have hb3 := hb2.trans (ho3.below hBb)
  clear hP2 hI2 hb2 ho3 HU2'
  go_wp2_with fail
  refine (HU3'.out _ hI3).mono ?_
  rintro e w4 ⟨rfl, hI4, ho4⟩
  have hP4 := hP3.only hne ho4
  have hb4 := hb3.trans (ho4.below hBb)
  clear hP3 hI3 hb3 ho4 HU3'
  go_wp2_with fail
  refine (HU4'.out _ hI4).mono ?_
  rintro e w5 ⟨rfl, hI5, ho5⟩
  have hP5 := hP4.only hne ho5
  have hb5 := hb4.trans (ho5.below hBb)
  clear hP4 hI4 hb4 ho5 HU4'
  obtain ⟨c0, c1, c2, c3, c4, c5, c6, c7, c8, c9, c10⟩ := hP5.cells
  obtain ⟨f0, f1, f2, f3, f4, f5, f6, f7, f8, f9, f10⟩ := hP5.frees
  have hP6 : PkIn (((w5.setCell ⟨g, 2, none⟩ (.int .u16 (seq : Int))).setCell ⟨g, 3, none⟩ (.int .u32 (time : Int))).setCell ⟨g, 4, none⟩ (.int .u32 (source : Int))) g (.bool mrk) (.int .i64 (kind : Int)) (.int .u16 (seq : Int)) (.int .u32 (time : Int)) (.int .u32 (source : Int)) (.slice none 0 0) (.bool false) (.int .i64 0) (.string { data := #[] }) (.string { data := #[] }) (.int .i64 0) := block_setCell (block_setCell (block_setCell hP5))
  have hI6 := inAt_set (i := 4) (u := .int .u32 (source : Int)) (inAt_set (i := 3) (u := .int .u32 (time : Int)) (inAt_set (i := 2) (u := .int .u16 (seq : Int)) hI5 hne) hne) hne
  have hb6 := ((hb5.setCell (p := ⟨g, 2, none⟩) hBg (.int .u16 (seq : Int))).setCell (p := ⟨g, 3, none⟩) hBg (.int .u32 (time : Int))).setCell (p := ⟨g, 4, none⟩) hBg (.int .u32 (source : Int))
  go_wp2_with fail
  generalize ((w5.setCell ⟨g, 2, none⟩ (.int .u16 (seq : Int))).setCell ⟨g, 3, none⟩ (.int .u32 (time : Int))).setCell ⟨g, 4, none⟩ (.int .u32 (source : Int)) = w6 at hP6 hI6 hb6 ⊢
  clear hP5 hI5 hb5 c0 c1 c2 c3 c4 c5 c6 c7 c8 c9 c10 f0 f1 f2 f3 f4 f5 f6 f7 f8 f9 f10
  go_loopw [38] (fun i wr => ∃ (k : Nat) (v : Value), k ≤ n ∧ i = .int .i64 k ∧ wr.ownsRow B 25 1 v (osF st4 k).length ((osF st4 k).map (Value.int .u32)) ∧ PkIn wr g (.bool mrk) (.int .i64 (kind : Int)) (.int .u16 (seq : Int)) (.int .u32 (time : Int)) (.int .u32 (source : Int)) v (.bool false) (.int .i64 0) (.string { data := #[] }) (.string { data := #[] }) (.int .i64 0) ∧ InAt wr b (rds st4 k).1 (rds st4 k).2 ∧ Below B w wr) (fun i _ => n - (intOf i).toNat)
  case atStart => exact ⟨0, _, Nat.zero_le _, rfl, World.ownsRow_nil _ _ _ _, hP6, hI6, hb6⟩
  case round =>
    obtain ⟨k, v, hk, rfl, hv, hP, hI, hbl⟩ := hrel
    clear hP6 hI6 hb6
    by_cases hlt : k < n
    · have hle := rds_le st4 k
      have HU : ∀ W, InAt W b (rds st4 k).1 (rds st4 k).2 → Calls Try.prog 55 #[.pointer (some ⟨b, 0, none⟩)] W (Took b (.int .u32 (getN (by_ (rawT (rds st4 k).1 4)) : Int)) (rds st4 (k + 1)).1 (rds st4 (k + 1)).2 W) := fun W h => inU32_any b _ _ W h (by omega)
      have hsucc := Lib.hid (osF_succ st4 k)
      have hol := osF_len st4 k
      have hol2 : (osF st4 k).length ≤ 1000 := by omega
      have Hol := Lib.hid hol
      have HU' := Lib.hid HU
      clear hle HU hol
      generalize getN (by_ (rawT (rds st4 k).1 4)) = r at HU' hsucc
      generalize hsk : rds st4 (k + 1) = sk at HU'
      have Hsk := Lib.hid hsk
      clear hsk
      generalize osF st4 k = xs at hv hsucc hol2 Hol
      obtain ⟨ad, cc, rfl⟩ := own_slice hv
      obtain ⟨c0, c1, c2, c3, c4, c5, c6, c7, c8, c9, c10⟩ := hP.cells
      go_wp2_with fail
      go_region_law (first | (refine step_others rfl (.tmp 44) (.tmp 47) rfl B g b _ xs r _ _ _ _ _ _ _ _ _ _ _ _ hP9 hI9 hv9 hBg hol2 rfl rfl ?_; intro ad3 cq w10 H10 hc10 hf10) | (go_simp; go_at_call 55; refine (HU'.out _ (show InAt wr.drew b _ _ from hI)).mono ?_; rintro e w9 ⟨rfl, hI9, ho9⟩; have hP9 := (show PkIn wr.drew g _ _ _ _ _ _ _ _ _ _ _ from hP).only hne ho9; have hv9 := own_only (show wr.drew.ownsRow B 25 1 _ _ _ from hv) (show InAt wr.drew b _ _ from hI) (in_ne _ _ _) ho9; have hb9 := hbl.drew.trans (ho9.below hBb); obtain ⟨_, _, _, _, _, d5, _, _, _, _, _⟩ := hP9.cells; have hg9 := hP9.lt))
      all_goals
        obtain ⟨hv10, hP10, hI10, hb10⟩ := H10.out
        have hP11 : PkIn (w10.setCell ⟨g, 5, none⟩ (.slice ad3 (xs.length + 1) cq)) g (.bool mrk) (.int .i64 (kind : Int)) (.int .u16 (seq : Int)) (.int .u32 (time : Int)) (.int .u32 (source : Int)) (.slice ad3 (xs.length + 1) cq) (.bool false) (.int .i64 0) (.string { data := #[] }) (.string { data := #[] }) (.int .i64 0) := block_setCell hP10
        have hI11 := inAt_set (i := 5) (u := .slice ad3 (xs.length + 1) cq) hI10 hne
        have hv11 := own_set (i := 5) (u := .slice ad3 (xs.length + 1) cq) hv10 hP10
        have hb11 := (hb9.trans hb10).setCell (p := ⟨g, 5, none⟩) hBg (.slice ad3 (xs.length + 1) cq)
        have hv12 : (w10.setCell ⟨g, 5, none⟩ (.slice ad3 (xs.length + 1) cq)).ownsRow B 25 1 (.slice ad3 (xs.length + 1) cq) (osF st4 (k + 1)).length ((osF st4 (k + 1)).map (Value.int .u32)) := by rw [hsucc.out, List.length_append]; exact hv11
        clear H10 hc10 hf10 hv10 hP10 hI10 hb10 hv11 hb9 hP9 hI9 hv9 ho9 hg9 d5 c0 c1 c2 c3 c4 c5 c6 c7 c8 c9 c10 hP hI hv hbl
        go_wp2
        go_roundw
        case rel => exact ⟨k + 1, _, by omega, by go_num, hv12, hP11, by rw [Hsk.out]; exact hI11, hb11⟩
        case measure => simp [intOf]; omega
    · obtain rfl : k = n := by omega
      rw [osF_len] at hv
      have hle := rds_le st4 k
      obtain ⟨ad, cc, rfl⟩ := own_slice hv
      obtain ⟨c0, c1, c2, c3, c4, c5, c6, c7, c8, c9, c10⟩ := hP.cells
      obtain ⟨f0, f1, f2, f3, f4, f5, f6, f7, f8, f9, f10⟩ := hP.frees
      have hP7 : PkIn (wr.setCell ⟨g, 6, none⟩ (.bool hx)) g (.bool mrk) (.int .i64 (kind : Int)) (.int .u16 (seq : Int)) (.int .u32 (time : Int)) (.int .u32 (source : Int)) (.slice ad k cc) (.bool hx) (.int .i64 0) (.string { data := #[] }) (.string { data := #[] }) (.int .i64 0) := block_setCell hP
      have hI7 := inAt_set (i := 6) (u := .bool hx) hI hne
      have hv7 := own_set (i := 6) (u := .bool hx) hv hP
      have hb7 := hbl.setCell (p := ⟨g, 6, none⟩) hBg (.bool hx)
      cases hx
      · go_wp2
        go_end0
        exact ⟨rfl, hb7, _, 0, _, _, hv7, by rw [Hmk.out, Hkd.out]; exact hP7, hI7, .inl ⟨rfl, rfl, rfl, rfl⟩⟩
      · have HE1 := inU16_any b _ _ (wr.setCell ⟨g, 6, none⟩ (.bool true)) hI7 (by omega)
        have le1 : (rd (rds st4 k) 2).1.size ≤ s.size := Nat.le_trans (rawS_le _ _ _) (by omega)
        have le2 : (rd (rd (rds st4 k) 2) 2).1.size ≤ s.size := Nat.le_trans (rawS_le _ _ _) le1
        change Calls _ _ _ _ (Took b _ (rd (rds st4 k) 2).1 (rd (rds st4 k) 2).2 _) at HE1
        have HE2 : ∀ W, InAt W b (rd (rds st4 k) 2).1 (rd (rds st4 k) 2).2 → Calls Try.prog 54 #[.pointer (some ⟨b, 0, none⟩)] W (Took b (.int .i64 (getN (by_ (rawT (rd (rds st4 k) 2).1 2)) : Int)) (rd (rd (rds st4 k) 2) 2).1 (rd (rd (rds st4 k) 2) 2).2 W) := fun W h => inU16_any b _ _ W h (by omega)
        have hm2 := getN_lt (by_ (rawT (rd (rds st4 k) 2).1 2))
        have hm : getN (by_ (rawT (rd (rds st4 k) 2).1 2)) ≤ 65535 := by
          have h1 : (by_ (rawT (rd (rds st4 k) 2).1 2)).length ≤ 2 := by rw [by_len]; have := (rawT_size (rd (rds st4 k) 2).1 2).1; unfold rawN at this; omega
          have h2 : 256 ^ (by_ (rawT (rd (rds st4 k) 2).1 2)).length ≤ 256 ^ 2 := Nat.pow_le_pow_right (by decide) h1
          omega
        clear hm2
        have HE3 : ∀ W, InAt W b (rd (rd (rds st4 k) 2) 2).1 (rd (rd (rds st4 k) 2) 2).2 → Calls Try.prog 29 #[.pointer (some ⟨b, 0, none⟩), .int .i64 (4 * (getN (by_ (rawT (rd (rds st4 k) 2).1 2)) : Int))] W (Took b (.string (rawT (rd (rd (rds st4 k) 2) 2).1 (4 * (getN (by_ (rawT (rd (rds st4 k) 2).1 2)) : Int)))) (rd (rd (rd (rds st4 k) 2) 2) (4 * (getN (by_ (rawT (rd (rds st4 k) 2).1 2)) : Int))).1 (rd (rd (rd (rds st4 k) 2) 2) (4 * (getN (by_ (rawT (rd (rds st4 k) 2).1 2)) : Int))).2 W) := fun W h => inRaw_any b _ _ _ W h (by omega)
        obtain ⟨pr, hpr⟩ : ∃ x, x = getN (by_ (rawT (rds st4 k).1 2)) := ⟨_, rfl⟩
        obtain ⟨ex, hex⟩ : ∃ x, x = rawT (rd (rd (rds st4 k) 2) 2).1 (4 * (getN (by_ (rawT (rd (rds st4 k) 2).1 2)) : Int)) := ⟨_, rfl⟩
        obtain ⟨m, hmm⟩ : ∃ x, x = getN (by_ (rawT (rd (rds st4 k) 2).1 2)) := ⟨_, rfl⟩
        rw [← hpr] at HE1
        rw [← hmm] at HE2 hm
        rw [← hmm] at HE3 hex
        rw [← hex] at HE3
        have Hpr := Lib.hid hpr
        have Hex := Lib.hid hex
        have Hmm := Lib.hid hmm
        have HE2' := Lib.hid HE2
        have HE3' := Lib.hid HE3
        clear hpr hex hmm HE2 HE3 le1 le2 hle
        go_wp2_with fail
        refine HE1.mono ?_
        clear HE1
        rintro e w8 ⟨rfl, hI8, ho8⟩
        have hP8 := hP7.only hne ho8
        have hv8 := own_only hv7 hI7 (in_ne _ _ _) ho8
        have hb8 := hb7.trans (ho8.below hBb)
        clear hP7 hI7 hv7 hb7 ho8 hP hI hv hbl c0 c1 c2 c3 c4 c5 c6 c7 c8 c9 c10 f0 f1 f2 f3 f4 f5 f6 f7 f8 f9 f10
        obtain ⟨c0, c1, c2, c3, c4, c5, c6, c7, c8, c9, c10⟩ := hP8.cells
        obtain ⟨f0, f1, f2, f3, f4, f5, f6, f7, f8, f9, f10⟩ := hP8.frees
        have hP9 : PkIn (w8.setCell ⟨g, 7, none⟩ (.int .i64 (pr : Int))) g (.bool mrk) (.int .i64 (kind : Int)) (.int .u16 (seq : Int)) (.int .u32 (time : Int)) (.int .u32 (source : Int)) (.slice ad k cc) (.bool true) (.int .i64 (pr : Int)) (.string { data := #[] }) (.string { data := #[] }) (.int .i64 0) := block_setCell hP8
        have hI9 := inAt_set (i := 7) (u := .int .i64 (pr : Int)) hI8 hne
        have hv9 := own_set (i := 7) (u := .int .i64 (pr : Int)) hv8 hP8
        have hb9 := hb8.setCell (p := ⟨g, 7, none⟩) hBg (.int .i64 (pr : Int))
        go_wp2_with fail
        generalize w8.setCell ⟨g, 7, none⟩ (.int .i64 (pr : Int)) = w9 at hP9 hI9 hv9 hb9 ⊢
        clear hP8 hI8 hv8 hb8 c0 c1 c2 c3 c4 c5 c6 c7 c8 c9 c10 f0 f1 f2 f3 f4 f5 f6 f7 f8 f9 f10
        refine (HE2'.out _ hI9).mono ?_
        rintro e w10 ⟨rfl, hI10, ho10⟩
        have hP10 := hP9.only hne ho10
        have hv10 := own_only hv9 hI9 (in_ne _ _ _) ho10
        have hb10 := hb9.trans (ho10.below hBb)
        clear hP9 hI9 hv9 hb9 ho10 HE2'
        go_wp2_with fail
        refine (HE3'.out _ hI10).mono ?_
        rintro e w11 ⟨rfl, hI11, ho11⟩
        have hP11 := hP10.only hne ho11
        have hv11 := own_only hv10 hI10 (in_ne _ _ _) ho11
        have hb11 := hb10.trans (ho11.below hBb)
        clear hP10 hI10 hv10 hb10 ho11 HE3'
        obtain ⟨c0, c1, c2, c3, c4, c5, c6, c7, c8, c9, c10⟩ := hP11.cells
        obtain ⟨f0, f1, f2, f3, f4, f5, f6, f7, f8, f9, f10⟩ := hP11.frees
        have hP12 : PkIn (w11.setCell ⟨g, 8, none⟩ (.string ex)) g (.bool mrk) (.int .i64 (kind : Int)) (.int .u16 (seq : Int)) (.int .u32 (time : Int)) (.int .u32 (source : Int)) (.slice ad k cc) (.bool true) (.int .i64 (pr : Int)) (.string ex) (.string { data := #[] }) (.int .i64 0) := block_setCell hP11
        have hI12 := inAt_set (i := 8) (u := .string ex) hI11 hne
        have hv12 := own_set (i := 8) (u := .string ex) hv11 hP11
        have hb12 := hb11.setCell (p := ⟨g, 8, none⟩) hBg (.string ex)
        go_wp2
        go_end0
        exact ⟨rfl, hb12, _, pr, ex, _, hv12, by rw [Hmk.out, Hkd.out]; exact hP12, hI12, .inr ⟨rfl, Hpr.out, by rw [← Hmm.out]; exact Hex.out, by rw [← Hmm.out]⟩⟩
end Go.Proofs.Ytilobmebfeenfaa
