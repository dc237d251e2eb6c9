/- nack: the document's Of. -/
import Derived.Test.YtagimjaojpdfiaaNkZd
import Derived.Test.YtagimjaojpdfiaaNkNumW
namespace Go.Proofs.Ytagimjaojpdfiaa
open Go.RowKit
set_option linter.unusedVariables false
def NkRefd (p : PC) (w : World) (e : Ending) (w' : World) : Prop :=
  ∃ a c, e = .returned (.tuple #[.int .i64 (nkF p), .int .i64 (nkA p), .slice a (nkPs p).length c, .int .i64 (nkE p)]) ∧ (nkPs p).length ≤ c ∧ RdR w' a (nkPs p) ∧ Below w.heap.size w w'
theorem nkRefd_err (p : PC) (w w' : World) (E : Int) (h : nkE p = E) (hE : E ≠ 0) (hb : Below w.heap.size w w') : NkRefd p w (.returned (.tuple #[.int .i64 0, .int .i64 0, .slice none 0 0, .int .i64 E])) w' := by
  have h0 : ¬ nkE p = 0 := by rw [h]; exact hE
  refine ⟨none, 0, ?_, ?_, ?_, hb⟩
  · unfold nkF nkA nkPs; rw [if_neg h0, if_neg h0, if_neg h0, h]; rfl
  · unfold nkPs; rw [if_neg h0]; exact Nat.le_refl _
  · unfold nkPs; rw [if_neg h0]; exact .inl rfl
theorem nkGet_at (s : ByteArray) (a b n : Nat) (hb : b ≤ a + 7) (hn : gN s a b = n) (w : World) : Calls Try.prog 62 #[.string (s.extract a b)] w fun e w' => e = .returned (.int .i64 (n : Int)) ∧ w = w' := by
  subst hn; exact get_any (s.extract a b) w (by rw [ByteArray.size_extract]; omega)
/-- 'out = append(out, Pair{..})', the append. -/
theorem step_prr {ops : Array Oper} {o : Oper} {a : Act} {w : World} {K : Act → World → Prop} {Q : Exit → Act → World → Prop} {E : Prop} (hgd : o.guard = none) (s x : Operand)
    (ho : o.op = .call { callee := .builtin .append, args := #[s, x], argTypes := #[32, 32] })
    (B : Nat) (v : Value) (l : List (Int × Nat)) (u1 : Int) (u2 : Nat)
    (hv : w.ownsRow B 143 2 v l.length (prR l)) (hB : B ≤ w.heap.size) (hl : l.length ≤ 1000) (hs : a.eval s = v) (hx : a.eval x = .slice (some ⟨w.heap.size, 0, none⟩) 1 1)
    (h : ∀ ad c w', Hid (w'.ownsRow B 143 2 (.slice ad (l.length + 1) c) (l.length + 1) (prR (l ++ [(u1, u2)])) ∧ (∀ (k : Nat) (o : Obj), w.heap[k]? = some o → (∀ cur q, o ≠ .cells cur 143 q) → w'.heap[k]? = some o) ∧ (∀ B0 w0, B0 ≤ B → Below B0 w0 w → Below B0 w0 w')) → K (a.put o.dst (.slice ad (l.length + 1) c)) w') :
    if Region.wanted o (yielded ops a.tmps) = true then Oper.wp Try.prog o a (w.alloc (.cells #[.int .i64 u1, .int .i64 (u2 : Int)] 143)) K Q else E := by
  obtain ⟨i0, hi, hz0, hz1, hz2⟩ := info_parts infoPrR
  have hv1 := hv.alloc (.cells #[.int .i64 u1, .int .i64 (u2 : Int)] 143)
  refine step_append_own hgd s x _ ho B 143 i0 _ 2 16 Try.underlying32 hi hz0 hz1 hz2 rfl (by decide) v l.length (prR l) hs hv1 ⟨w.heap.size, 0, none⟩ 1 1 [.int .i64 u1, .int .i64 (u2 : Int)] hx rfl ?_ ?_ (by unfold maxLen; omega) (by omega) (by simp; omega) ?_
  · intro j u' hj
    rw [addr_add, cell_of_row _ w.heap.size j _ 143 (0, 0) (heap_alloc_new w _), ← Array.getElem?_toList]
    exact hj
  · intro u' hu
    simp only [List.mem_cons, List.not_mem_nil, or_false] at hu
    rcases hu with rfl | rfl <;> rfl
  · intro v' w' hown hgrow _
    obtain ⟨ad, c, rfl⟩ : ∃ ad c, v' = .slice ad (l.length + 1) c := by
      rcases hown.2 with ⟨_, h0⟩ | ⟨g, cap, cur, rfl, _⟩
      · omega
      · exact ⟨_, _, rfl⟩
    have hk : ∀ (k : Nat) (o : Obj), w.heap[k]? = some o → (∀ cur q, o ≠ .cells cur 143 q) → w'.heap[k]? = some o := fun k o hk hn => by
      rw [hgrow.block k (by have := lt_of_block hk; simp; omega) (row_neP hv hk hn)]
      exact heap_at_old _ _ _ _ hk
    refine h ad c w' (Lib.hid ⟨?_, hk, fun B0 w0 h0 hb => ?_⟩)
    · rw [show prR (l ++ [(u1, u2)]) = prR l ++ [.int .i64 u1, .int .i64 (u2 : Int)] from by simp [prR]]; exact hown
    · exact (hb.alloc (by omega) _).grown hgrow (by simp; omega) (fun k hk => Nat.le_trans h0 (hv1.lt k hk).1)
set_option maxRecDepth 100000 in
set_option maxHeartbeats 6400000 in
theorem nkRefOf_any (p : PC) (w : World) (hs : p.body.size ≤ 1099511627776) :
    Calls Try.prog 18 #[.agg #[.int .i64 p.count, .int .i64 p.kind, .string p.body]] w (NkRefd p w) := by
  obtain ⟨count, kind, s⟩ := p
  simp only at hs ⊢
  have hX2 := atK_new 30 w #[.int .i64 count, .int .i64 kind, .string s]
  have hb2 : Below w.heap.size w (w.alloc (.cells #[.int .i64 count, .int .i64 kind, .string s] 30)) := (Below.refl _ _).alloc (Nat.le_refl _) _
  go_enter Try.func18, Try.ntmps18
  go_upto_region 1 with fail
  generalize (w.alloc (.cells #[.int .i64 count, .int .i64 kind, .string s] 30)) = w2 at hX2 hb2 ⊢
  generalize hg : w.heap.size = g at hX2 hb2 ⊢
  have HG := Lib.hid hg
  clear hg
  obtain ⟨x0, x1, x2⟩ := hX2.cells3
  by_cases hk : kind = 205
  case neg =>
    have hkb : (kind != 205) = true := by simp [hk]
    have HE := Lib.hid (nkE_5 (p := ⟨count, kind, s⟩) (Or.inl hk))
    go_wp2_with fail
    refine bodyPost_ret (v := .tuple #[.int .i64 0, .int .i64 0, .slice none 0 0, .int .i64 5]) (by simp [results, Try.results18, go_sem]) rfl (nkRefd_err _ _ _ 5 HE.out (by decide) (by rw [HG.out]; exact hb2))
  subst hk
  by_cases hc : count = 1
  case neg =>
    have hcb : (count != 1) = true := by simp [hc]
    have HE := Lib.hid (nkE_5 (p := ⟨count, 205, s⟩) (Or.inr hc))
    go_wp2_with fail
    refine bodyPost_ret (v := .tuple #[.int .i64 0, .int .i64 0, .slice none 0 0, .int .i64 5]) (by simp [results, Try.results18, go_sem]) rfl (nkRefd_err _ _ _ 5 HE.out (by decide) (by rw [HG.out]; exact hb2))
  subst hc
  by_cases h12 : s.size < 12
  · have HE := Lib.hid (nkE_2 (p := ⟨1, 205, s⟩) rfl rfl h12)
    go_wp2_with fail
    refine bodyPost_ret (v := .tuple #[.int .i64 0, .int .i64 0, .slice none 0 0, .int .i64 2]) (by simp [results, Try.results18, go_sem]) rfl (nkRefd_err _ _ _ 2 HE.out (by decide) (by rw [HG.out]; exact hb2))
  by_cases hbad : s.size % 4 ≠ 0 ∨ 1208 < s.size
  · have HE := Lib.hid (nkE_1 (p := ⟨1, 205, s⟩) rfl rfl h12 hbad)
    by_cases hq0 : s.size % 4 = 0
    · have hbig : 1208 < s.size := by omega
      have hz : (s.size : Int) % 4 = 0 := by omega
      clear hbad
      go_wp2_with fail
      all_goals refine bodyPost_ret (v := .tuple #[.int .i64 0, .int .i64 0, .slice none 0 0, .int .i64 1]) (by simp [results, Try.results18, go_sem]) rfl (nkRefd_err _ _ _ 1 HE.out (by decide) (by rw [HG.out]; exact hb2))
    · have hz : ¬ (s.size : Int) % 4 = 0 := by omega
      clear hbad
      go_wp2_with fail
      all_goals refine bodyPost_ret (v := .tuple #[.int .i64 0, .int .i64 0, .slice none 0 0, .int .i64 1]) (by simp [results, Try.results18, go_sem]) rfl (nkRefd_err _ _ _ 1 HE.out (by decide) (by rw [HG.out]; exact hb2))
  have hE0 := nkE_0 (p := ⟨1, 205, s⟩) rfl rfl h12 hbad
  have HE := Lib.hid hE0
  obtain ⟨N, hN⟩ : ∃ N, nkN s = N := ⟨_, rfl⟩
  have hN1 : s.size = 8 + 4 * N := by have := (nkE_zero hE0).2.2.2.1; rw [← hN]; exact this
  have hN3 : N ≤ 300 := by have := (nkE_zero hE0).2.2.2.2.2; rw [← hN]; exact this
  have hN0 : 1 ≤ N := by have := (nkE_zero hE0).2.2.2.2.1; rw [← hN]; exact this
  have HN := Lib.hid hN
  have hz : (s.size : Int) % 4 = 0 := by omega
  have hsm : s.size ≤ 1208 := by omega
  have HN1 := Lib.hid hN1
  clear hE0 hbad hN hN1
  have hA0 : (w2.alloc (.cells #[] 143)).heap[w2.heap.size]? = some (Obj.cells #[] 143 (0, 0)) := heap_alloc_new _ _
  have hv0 := own_made0 (s := 2) (B := g) (by have := hX2.lt; omega) hA0
  have hX3 := hX2.alloc (.cells #[] 143)
  have hb3 := hb2.alloc (by have := hX2.lt; omega) (.cells #[] 143)
  clear hA0
  go_wp2_with fail
  clear hz
  go_loopw [6, 7] (fun z y wr => ∃ (k : Nat) (v : Value), k ≤ N ∧ z = v ∧ y = .int .i64 ((8 + 4 * k : Nat) : Int) ∧ wr.ownsRow g 143 2 v (nqsAt s k).length (prR (nqsAt s k)) ∧ AtK 30 wr g #[.int .i64 1, .int .i64 205, .string s] ∧ Below g w wr) (fun _ y _ => s.size - (intOf y).toNat)
  case atStart => exact ⟨0, _, Nat.zero_le _, rfl, rfl, hv0, hX3, hb3⟩
  case round =>
    obtain ⟨k, v, hk, rfl, rfl, hvz, hXz, hbz⟩ := hrel
    clear hv0 hX3 hb3
    obtain ⟨r0, r1, r2⟩ := hXz.cells3
    have hgr : g ≤ wr.heap.size := by have := hXz.lt; omega
    by_cases hlt : k < N
    · have hll : (nqsAt s k).length ≤ 1000 := by rw [nqsAt_len]; omega
      obtain ⟨u1, hu1⟩ : ∃ z, gN s (8 + 4 * k) (8 + 4 * k + 2) = z := ⟨_, rfl⟩
      obtain ⟨u2, hu2⟩ : ∃ z, gN s (8 + 4 * k + 2) (8 + 4 * k + 2 + 2) = z := ⟨_, rfl⟩
      have HSN : Hid (nqsAt s (k + 1) = nqsAt s k ++ [((u1 : Int), u2)]) := Lib.hid (by rw [nqsAt_succ, ← hu1, ← hu2]; rfl)
      have HNX : Hid (8 + 4 * k + 4 = 8 + 4 * (k + 1)) := Lib.hid (by omega)
      have HAS : Hid (8 + 4 * k + 4 ≤ s.size) := Lib.hid (by have := HN1.out; omega)
      generalize nqsAt s k = l at hvz hll HSN
      generalize 8 + 4 * k = A at hu1 hu2 HNX HAS ⊢
      have HG1 := Lib.hid (fun W => nkGet_at s A (A + 2) u1 (by omega) hu1 W)
      have HG2 := Lib.hid (fun W => nkGet_at s (A + 2) (A + 4) u2 (by omega) hu2 W)
      obtain ⟨sa, hsa⟩ : ∃ z, s.extract A (A + 2) = z := ⟨_, rfl⟩
      obtain ⟨sb, hsb⟩ : ∃ z, s.extract (A + 2) (A + 4) = z := ⟨_, rfl⟩
      rw [hsa] at HG1
      rw [hsb] at HG2
      have ha4 := HAS.out
      have i1 : (A : Int) < (s.size : Int) := by omega
      have i2 : (A : Int) + 2 ≤ (s.size : Int) := by omega
      have i4 : (A : Int) + 4 ≤ (s.size : Int) := by omega
      have t2 : ((A : Int) + 2).toNat = A + 2 := by omega
      have t4 : ((A : Int) + 4).toNat = A + 4 := by omega
      have w2' : IntKind.i64.wrap ((A : Int) + 2) = (A : Int) + 2 := IntWalk.i64_in _ ⟨by omega, by omega⟩
      have w4' : IntKind.i64.wrap ((A : Int) + 4) = (A : Int) + 4 := IntWalk.i64_in _ ⟨by omega, by omega⟩
      have b0 : (0 : Int) ≤ (A : Int) + 2 := by omega
      have b1 : (A : Int) ≤ (A : Int) + 2 := by omega
      have b2 : (A : Int) + 2 ≤ (A : Int) + 4 := by omega
      have b3 : (0 : Int) ≤ (A : Int) := by omega
      clear hu1 hu2 ha4
      obtain ⟨_, _, _⟩ := hXz.drew.cells3
      go_upto_region 11 with fail
      have hS0 : wr.drew.cell? ⟨g, 2, none⟩ = some (.string s) := hXz.drew.cells3.2.2
      go_region_held3 (fun W => W.cell? ⟨g, 2, none⟩ = some (.string s)) (first | (go_keep; done) | with_reducible exact hS0 | with_reducible assumption) (first | (go_at_call_of 62 (Value.string sa); refine (HG1.out _).mono ?_; rintro e w' ⟨rfl, rfl⟩) | (go_at_call 62; refine (HG2.out _).mono ?_; rintro e w' ⟨rfl, rfl⟩) | (refine step_prr rfl (.tmp 39) (.tmp 56) rfl g _ l (u1 : Int) u2 (show wr.drew.ownsRow g 143 2 _ _ _ from hvz) hgr hll (by rfl) (by rfl) ?_; intro ad3 cq w11 H11; have hq11 : w11.cell? ⟨g, 2, none⟩ = some (.string s) := (show AtK 30 w11 g #[.int .i64 1, .int .i64 205, .string s] from H11.out.2.1 _ _ hXz (by intro cur p e; cases e)).cells3.2.2))
      all_goals
        have hv11 := H11.out.1
        rw [← HSN.out] at hv11
        have hl11 : l.length + 1 = (nqsAt s (k + 1)).length := by rw [HSN.out]; simp
        rw [hl11] at hv11
        have hX11 : AtK 30 w11 g #[.int .i64 1, .int .i64 205, .string s] := H11.out.2.1 _ _ hXz (by intro cur p e; cases e)
        have hb11 := H11.out.2.2 g w (Nat.le_refl _) hbz.drew
        rw [hl11]
        clear hl11 H11 hq11
        go_wp2
        go_roundw
        case rel => exact ⟨k + 1, _, by omega, rfl, by rw [← HNX.out]; go_num, hv11, hX11, hb11⟩
        case measure => have := HNX.out; have := HAS.out; simp [intOf]; omega
    · obtain rfl : k = N := by omega
      have hss : (8 + 4 * k : Nat) = s.size := by rw [HN1.out]
      have HPS : Hid (nkPs ⟨1, 205, s⟩ = nqsAt s k) := Lib.hid (by unfold nkPs; rw [if_pos HE.out, HN.out])
      obtain ⟨vf, hvf⟩ : ∃ z, gN s 0 4 = z := ⟨_, rfl⟩
      obtain ⟨va, hva⟩ : ∃ z, gN s 4 8 = z := ⟨_, rfl⟩
      have HPF : Hid (nkF ⟨1, 205, s⟩ = (vf : Int)) := Lib.hid (by unfold nkF; rw [if_pos HE.out, ← hvf])
      have HPA : Hid (nkA ⟨1, 205, s⟩ = (va : Int)) := Lib.hid (by unfold nkA; rw [if_pos HE.out, ← hva])
      have HG1 := Lib.hid (fun W => nkGet_at s 0 4 vf (by omega) hvf W)
      have HG2 := Lib.hid (fun W => nkGet_at s 4 8 va (by omega) hva W)
      obtain ⟨sa, hsa⟩ : ∃ z, s.extract 0 4 = z := ⟨_, rfl⟩
      obtain ⟨sb, hsb⟩ : ∃ z, s.extract 4 8 = z := ⟨_, rfl⟩
      rw [hsa] at HG1
      rw [hsb] at HG2
      have i4 : (4 : Int) ≤ (s.size : Int) := by omega
      have i8 : (8 : Int) ≤ (s.size : Int) := by omega
      obtain ⟨av, cv, rfl, hcl, hrr⟩ := own_prR hvz
      rw [hss]
      clear hvf hva hss
      generalize nqsAt s k = l at *
      obtain ⟨_, _, _⟩ := hXz.drew.cells3
      go_upto_region 12 with fail
      have hS0 : wr.drew.cell? ⟨g, 2, none⟩ = some (.string s) := hXz.drew.cells3.2.2
      go_region_held3 (fun W => W.cell? ⟨g, 2, none⟩ = some (.string s)) (first | (go_keep; done) | with_reducible exact hS0 | with_reducible assumption) (first | (go_at_call_of 62 (Value.string sa); refine (HG1.out _).mono ?_; rintro e w' ⟨rfl, rfl⟩) | (go_at_call 62; refine (HG2.out _).mono ?_; rintro e w' ⟨rfl, rfl⟩))
      all_goals
        go_wp2_with fail
        refine bodyPost_ret (v := .tuple #[.int .i64 (vf : Int), .int .i64 (va : Int), .slice av l.length cv, .int .i64 0]) (by simp [results, Try.results18, go_sem]) rfl ⟨av, cv, by rw [HPS.out, HPF.out, HPA.out, HE.out], by rw [HPS.out]; exact hcl, by rw [HPS.out]; exact hrr, by rw [HG.out]; exact hbz.drew⟩
end Go.Proofs.Ytagimjaojpdfiaa
