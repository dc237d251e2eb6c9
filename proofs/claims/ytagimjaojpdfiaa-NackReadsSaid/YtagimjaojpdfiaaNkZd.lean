/- nack: Of. -/
import Derived.Test.YtagimjaojpdfiaaNkZc
import Derived.Test.YtagimjaojpdfiaaPcN
import Derived.Deep.DeepCutAuto
namespace Go.Proofs.Ytagimjaojpdfiaa
open Go.RowKit
set_option linter.unusedVariables false
def NkOfd (p : PC) (w : World) (e : Ending) (w' : World) : Prop :=
  ∃ a c, e = .returned (.tuple #[.agg #[.int .u32 (nkF p), .int .u32 (nkA p), .slice a (nkPs p).length c], .int .i64 (nkE p)]) ∧ (nkPs p).length ≤ c ∧ RdP w' a (nkPs p) ∧ Below w.heap.size w w'
theorem nkOfd_err (p : PC) (w w' : World) (E : Int) (h : nkE p = E) (hE : E ≠ 0) (hb : Below w.heap.size w w') : NkOfd p w (.returned (.tuple #[.agg #[.int .u32 0, .int .u32 0, .slice none 0 0], .int .i64 E])) w' := by
  have h0 : ¬ nkE p = 0 := by rw [h]; exact hE
  refine ⟨none, 0, ?_, ?_, ?_, hb⟩
  · unfold nkF nkA nkPs; rw [if_neg h0, if_neg h0, if_neg h0, h]; rfl
  · unfold nkPs; rw [if_neg h0]; exact Nat.le_refl _
  · unfold nkPs; rw [if_neg h0]; exact .inl rfl
theorem nk_rd (s : ByteArray) (a m : Nat) (h : a + m ≤ s.size) : rd (stA s a) (m : Int) = stA s (a + m) := by rw [rd_st s a m (by omega), if_neg (by omega)]
theorem nk_raw (s : ByteArray) (a m : Nat) (h : a + m ≤ s.size) : getN (by_ (rawT (stA s a).1 (m : Int))) = gN s a (a + m) := by
  show getN (by_ (rawT (s.extract a s.size) (m : Int))) = _
  rw [rawT_st s a m h]; rfl
theorem nk_u32 (n a : Nat) (s : ByteArray) (h : a + 4 ≤ s.size) (hs : s.size ≤ 9223372036854775807) (W : World) (hI : InAt W n (stA s a).1 (stA s a).2) :
    Calls Try.prog 59 #[.pointer (some ⟨n, 0, none⟩)] W (Took n (.int .u32 ((gN s a (a + 4) : Nat) : Int)) (stA s (a + 4)).1 (stA s (a + 4)).2 W) := by
  have := inU32_any n (stA s a).1 (stA s a).2 W hI (by rw [show (stA s a).1.size = s.size - a from ext_size s a]; omega)
  have e1 : rd (stA s a) 4 = stA s (a + 4) := nk_rd s a 4 h
  have e2 : getN (by_ (rawT (stA s a).1 4)) = gN s a (a + 4) := nk_raw s a 4 h
  rw [e2] at this
  rw [← e1]
  exact this
theorem nk_u16 (n a : Nat) (s : ByteArray) (h : a + 2 ≤ s.size) (hs : s.size ≤ 9223372036854775807) (W : World) (hI : InAt W n (stA s a).1 (stA s a).2) :
    Calls Try.prog 61 #[.pointer (some ⟨n, 0, none⟩)] W (Took n (.int .i64 ((gN s a (a + 2) : Nat) : Int)) (stA s (a + 2)).1 (stA s (a + 2)).2 W) := by
  have := u16_st n (stA s a) W hI (by rw [show (stA s a).1.size = s.size - a from ext_size s a]; omega)
  rw [show rd (stA s a) 2 = stA s (a + 2) from nk_rd s a 2 h, show getN (by_ (rawT (stA s a).1 2)) = gN s a (a + 2) from nk_raw s a 2 h] at this
  exact this
def inLeft (n : Nat) (W : World) : Nat := match W.cell? ⟨n, 0, none⟩ with | some (.string t) => t.size | _ => 0
theorem inLeft_of {n : Nat} {W : World} {s : ByteArray} {e : Int} (h : InAt W n s e) : inLeft n W = s.size := by
  have := cell_of_row W n 0 _ _ (0, 0) h
  unfold inLeft
  rw [show W.cell? ⟨n, 0, none⟩ = some (.string s) from by simpa using this]
theorem nkE_5 {p : PC} (h : p.kind ≠ 205 ∨ p.count ≠ 1) : nkE p = 5 := by unfold nkE; rw [if_pos h]
theorem nkE_2 {p : PC} (h1 : p.kind = 205) (h2 : p.count = 1) (h : p.body.size < 12) : nkE p = 2 := by unfold nkE; rw [if_neg (by omega), if_pos h]
theorem nkE_1 {p : PC} (h1 : p.kind = 205) (h2 : p.count = 1) (h3 : ¬ p.body.size < 12) (h : p.body.size % 4 ≠ 0 ∨ 1208 < p.body.size) : nkE p = 1 := by unfold nkE; rw [if_neg (by omega), if_neg h3, if_pos h]
theorem nkE_0 {p : PC} (h1 : p.kind = 205) (h2 : p.count = 1) (h3 : ¬ p.body.size < 12) (h : ¬ (p.body.size % 4 ≠ 0 ∨ 1208 < p.body.size)) : nkE p = 0 := by unfold nkE; rw [if_neg (by omega), if_neg h3, if_neg h]
set_option maxRecDepth 100000 in
set_option maxHeartbeats 6400000 in
theorem nkOf_any (p : PC) (w : World) (hs : p.body.size ≤ 1099511627776) :
    Calls Try.prog 15 #[.agg #[.int .i64 p.count, .int .i64 p.kind, .string p.body]] w (NkOfd p w) := by
  obtain ⟨count, kind, s⟩ := p
  simp only at hs ⊢
  obtain ⟨fp, hfp⟩ : ∃ z : Int, (s.size : Int) - 8 = z := ⟨_, rfl⟩
  have hfw : IntKind.i64.wrap ((s.size : Int) - 8) = fp := by rw [hfp]; exact IntWalk.i64_in _ ⟨by omega, by omega⟩
  have hX2 := (atK_new 28 w #[.int .i64 count, .int .i64 kind, .string s]).alloc (.cells #[.int .u32 0, .int .u32 0, .slice none 0 0] 25)
  have hY2 : AtK 25 ((w.alloc (.cells #[.int .i64 count, .int .i64 kind, .string s] 28)).alloc (.cells #[.int .u32 0, .int .u32 0, .slice none 0 0] 25)) (w.heap.size + 1) #[.int .u32 0, .int .u32 0, .slice none 0 0] := by
    have := atK_new 25 (w.alloc (.cells #[.int .i64 count, .int .i64 kind, .string s] 28)) #[.int .u32 0, .int .u32 0, .slice none 0 0]
    rw [show (w.alloc (.cells #[.int .i64 count, .int .i64 kind, .string s] 28)).heap.size = w.heap.size + 1 from by simp] at this
    exact this
  have hb2 : Below w.heap.size w ((w.alloc (.cells #[.int .i64 count, .int .i64 kind, .string s] 28)).alloc (.cells #[.int .u32 0, .int .u32 0, .slice none 0 0] 25)) := ((Below.refl _ _).alloc (Nat.le_refl _) _).alloc (by simp) _
  go_enter Try.func15, Try.ntmps15
  go_upto_region 1 with fail
  generalize ((w.alloc (.cells #[.int .i64 count, .int .i64 kind, .string s] 28)).alloc (.cells #[.int .u32 0, .int .u32 0, .slice none 0 0] 25)) = w2 at hX2 hY2 hb2 ⊢
  generalize hg2 : w.heap.size + 1 = g2 at hY2 ⊢
  generalize hg : w.heap.size = g at hX2 hb2 hg2 ⊢
  have hgB : g ≤ g2 := by omega
  have hgn : g ≠ g2 := by omega
  have HG := Lib.hid hg
  clear hg hg2
  obtain ⟨x0, x1, x2⟩ := hX2.cells3
  obtain ⟨y0, y1, y2⟩ := hY2.cells3
  obtain ⟨f0, f1, f2⟩ := hY2.frees3
  have hZz := atK_store (.int .u32 0) (.int .u32 0) (.slice none 0 0) hY2
  have hbz := hb2.trans ((storeK_only w2 g2 (.int .u32 0) (.int .u32 0) (.slice none 0 0)).below hgB)
  by_cases hk : kind = 205
  case neg =>
    have hkb : (kind != 205) = true := by simp [hk]
    have HE := Lib.hid (nkE_5 (p := ⟨count, kind, s⟩) (Or.inl hk))
    go_wp2_with fail
    generalize (((w2.setCell ⟨g2, 0, none⟩ (.int .u32 0)).setCell ⟨g2, 1, none⟩ (.int .u32 0)).setCell ⟨g2, 2, none⟩ (.slice none 0 0)) = wz at hZz hbz ⊢
    obtain ⟨d0, d1, d2⟩ := hZz.cells3
    refine bodyPost_ret (v := .tuple #[.agg #[.int .u32 0, .int .u32 0, .slice none 0 0], .int .i64 5]) (by simp [results, Try.results15, go_sem, d0, d1, d2]) rfl (nkOfd_err _ _ _ 5 HE.out (by decide) (by rw [HG.out]; exact hbz))
  subst hk
  by_cases hc : count = 1
  case neg =>
    have hcb : (count != 1) = true := by simp [hc]
    have HE := Lib.hid (nkE_5 (p := ⟨count, 205, s⟩) (Or.inr hc))
    go_wp2_with fail
    generalize (((w2.setCell ⟨g2, 0, none⟩ (.int .u32 0)).setCell ⟨g2, 1, none⟩ (.int .u32 0)).setCell ⟨g2, 2, none⟩ (.slice none 0 0)) = wz at hZz hbz ⊢
    obtain ⟨d0, d1, d2⟩ := hZz.cells3
    refine bodyPost_ret (v := .tuple #[.agg #[.int .u32 0, .int .u32 0, .slice none 0 0], .int .i64 5]) (by simp [results, Try.results15, go_sem, d0, d1, d2]) rfl (nkOfd_err _ _ _ 5 HE.out (by decide) (by rw [HG.out]; exact hbz))
  subst hc
  by_cases h12 : s.size < 12
  · have HE := Lib.hid (nkE_2 (p := ⟨1, 205, s⟩) rfl rfl h12)
    have hf4 : fp < 4 := by omega
    go_wp2_with fail
    generalize (((w2.setCell ⟨g2, 0, none⟩ (.int .u32 0)).setCell ⟨g2, 1, none⟩ (.int .u32 0)).setCell ⟨g2, 2, none⟩ (.slice none 0 0)) = wz at hZz hbz ⊢
    obtain ⟨d0, d1, d2⟩ := hZz.cells3
    refine bodyPost_ret (v := .tuple #[.agg #[.int .u32 0, .int .u32 0, .slice none 0 0], .int .i64 2]) (by simp [results, Try.results15, go_sem, d0, d1, d2]) rfl (nkOfd_err _ _ _ 2 HE.out (by decide) (by rw [HG.out]; exact hbz))
  have hf4 : 4 ≤ fp := by omega
  obtain ⟨q, hq⟩ : ∃ z : Int, fp % 4 = z := ⟨_, rfl⟩
  have hrem : IntKind.i64.wrap (fp.tmod 4) = q := by rw [Int.tmod_eq_emod_of_nonneg (by omega), hq]; exact IntWalk.i64_in _ ⟨by omega, by omega⟩
  by_cases hbad : s.size % 4 ≠ 0 ∨ 1208 < s.size
  · have HE := Lib.hid (nkE_1 (p := ⟨1, 205, s⟩) rfl rfl h12 hbad)
    by_cases hq0 : q = 0
    · subst hq0
      have hbig : 1200 < fp := by omega
      clear hbad
      go_wp2_with fail
      all_goals
        generalize (((w2.setCell ⟨g2, 0, none⟩ (.int .u32 0)).setCell ⟨g2, 1, none⟩ (.int .u32 0)).setCell ⟨g2, 2, none⟩ (.slice none 0 0)) = wz at hZz hbz ⊢
        obtain ⟨d0, d1, d2⟩ := hZz.cells3
        refine bodyPost_ret (v := .tuple #[.agg #[.int .u32 0, .int .u32 0, .slice none 0 0], .int .i64 1]) (by simp [results, Try.results15, go_sem, d0, d1, d2]) rfl (nkOfd_err _ _ _ 1 HE.out (by decide) (by rw [HG.out]; exact hbz))
    · have hqn : ¬ fp % 4 = 0 := by rw [hq]; exact hq0
      clear hbad hq hrem
      go_wp2_with fail
      generalize (((w2.setCell ⟨g2, 0, none⟩ (.int .u32 0)).setCell ⟨g2, 1, none⟩ (.int .u32 0)).setCell ⟨g2, 2, none⟩ (.slice none 0 0)) = wz at hZz hbz ⊢
      obtain ⟨d0, d1, d2⟩ := hZz.cells3
      refine bodyPost_ret (v := .tuple #[.agg #[.int .u32 0, .int .u32 0, .slice none 0 0], .int .i64 1]) (by simp [results, Try.results15, go_sem, d0, d1, d2]) rfl (nkOfd_err _ _ _ 1 HE.out (by decide) (by rw [HG.out]; exact hbz))
  have hE0 := nkE_0 (p := ⟨1, 205, s⟩) rfl rfl h12 hbad
  have HE := Lib.hid hE0
  have hq0 : q = 0 := by omega
  subst hq0
  have hsm : fp ≤ 1200 := by omega
  obtain ⟨N, hN⟩ : ∃ N, nkN s = N := ⟨_, rfl⟩
  have hN1 : s.size = 8 + 4 * N := by have := (nkE_zero hE0).2.2.2.1; rw [← hN]; exact this
  have hN3 : N ≤ 300 := by have := (nkE_zero hE0).2.2.2.2.2; rw [← hN]; exact this
  have hN0 : 1 ≤ N := by have := (nkE_zero hE0).2.2.2.2.1; rw [← hN]; exact this
  have HN := Lib.hid hN
  clear hE0 hbad hN hZz hbz
  have hOf := Lib.hid (fun W => of_any s W)
  have H32a := Lib.hid (fun (n : Nat) (W : World) (h : InAt W n (stA s 0).1 (stA s 0).2) => nk_u32 n 0 s (by omega) (by omega) W h)
  have H32b := Lib.hid (fun (n : Nat) (W : World) (h : InAt W n (stA s (0 + 4)).1 (stA s (0 + 4)).2) => nk_u32 n (0 + 4) s (by omega) (by omega) W h)
  have H16 := Lib.hid (fun (n a : Nat) (ha : a + 2 ≤ 8 + 4 * N) (W : World) (h : InAt W n (stA s a).1 (stA s a).2) => nk_u16 n a s (by omega) (by omega) W h)
  have HSZ := Lib.hid (fun (a : Nat) => (show (stA s a).1.size = s.size - a from ext_size s a))
  have HL := Lib.hid (fun (n a : Nat) (W : World) (h : InAt W n (stA s a).1 (stA s a).2) => left_any n (stA s a).1 (stA s a).2 W h)
  obtain ⟨vf, hvf⟩ : ∃ z, gN s 0 (0 + 4) = z := ⟨_, rfl⟩
  obtain ⟨va, hva⟩ : ∃ z, gN s (0 + 4) (0 + 4 + 4) = z := ⟨_, rfl⟩
  rw [hvf] at H32a
  rw [hva] at H32b
  have HVF := Lib.hid hvf
  have HVA := Lib.hid hva
  clear hvf hva
  go_wp2_with fail
  refine (hOf.out _).mono ?_
  rintro e w3 ⟨rfl, rfl⟩
  have hI3 : InAt (w2.alloc (.cells #[.string s, .int .i64 0] 199)) w2.heap.size (stA s 0).1 (stA s 0).2 := by rw [← stA_zero s]; exact inAt_new s w2
  have hY3 := hY2.alloc (.cells #[.string s, .int .i64 0] 199)
  have hb3 := hb2.alloc (by have := hX2.lt; omega) (.cells #[.string s, .int .i64 0] 199)
  have hnb : g2 < w2.heap.size := hY2.lt
  go_upto_region 9 with fail
  generalize w2.alloc (.cells #[.string s, .int .i64 0] 199) = w4 at hI3 hY3 hb3 ⊢
  generalize w2.heap.size = n at hI3 hnb ⊢
  clear hX2 hY2 hb2 x0 x1 x2 y0 y1 y2 f0 f1 f2
  go_wp2_with fail
  refine (H32a.out n _ hI3).mono ?_
  rintro e w5 ⟨rfl, hI5, ho5⟩
  have hY5 := hY3.only (by omega) ho5
  have hb5 := hb3.trans (ho5.below (by omega))
  go_wp2_with fail
  refine (H32b.out n _ hI5).mono ?_
  rintro e w6 ⟨rfl, hI6, ho6⟩
  have hY6 := (hY5.only (by omega) ho6).alloc (.cells #[.int .u32 (vf : Int), .int .u32 (va : Int), .slice none 0 0] 25)
  have hb6 := (hb5.trans (ho6.below (by omega))).alloc (by have := (hY5.only (b := n) (by omega) ho6).lt; omega) (.cells #[.int .u32 (vf : Int), .int .u32 (va : Int), .slice none 0 0] 25)
  have hR6 := atK_new 25 w6 #[.int .u32 (vf : Int), .int .u32 (va : Int), .slice none 0 0]
  have hI6' := hI6.alloc (.cells #[.int .u32 (vf : Int), .int .u32 (va : Int), .slice none 0 0] 25)
  have hnr : n < w6.heap.size := hI6.lt
  go_upto_region 10 with fail
  generalize w6.alloc (.cells #[.int .u32 (vf : Int), .int .u32 (va : Int), .slice none 0 0] 25) = w7 at hY6 hb6 hR6 hI6' ⊢
  generalize w6.heap.size = r at hR6 hnr ⊢
  clear hI3 hY3 hb3 hI5 ho5 hY5 hb5 hI6 ho6 H32a H32b hOf
  have hv7 := World.ownsRow_nil w7 g 131 2
  go_loopw [] (fun wr => ∃ (k : Nat) (v : Value), k ≤ N ∧ AtK 25 wr r #[.int .u32 (vf : Int), .int .u32 (va : Int), v] ∧ wr.ownsRow g 131 2 v (nqsAt s k).length (prV (nqsAt s k)) ∧ InAt wr n (stA s (8 + 4 * k)).1 (stA s (8 + 4 * k)).2 ∧ AtK 25 wr g2 #[.int .u32 0, .int .u32 0, .slice none 0 0] ∧ Below g w wr) (fun wr => inLeft n wr)
  case atStart => exact ⟨0, .slice none 0 0, Nat.zero_le _, hR6, hv7, hI6', hY6, hb6⟩
  case round =>
    obtain ⟨k, v, hk, hRz, hvz, hIz, hYz, hbbz⟩ := hrel
    clear hR6 hv7 hI6' hY6 hb6
    have hes := HSZ.out (8 + 4 * k)
    obtain ⟨r0, r1, r2⟩ := hRz.cells3
    by_cases hlt : k < N
    · have hll : (nqsAt s k).length ≤ 1000 := by rw [nqsAt_len]; omega
      have H1 := Lib.hid (fun W h => H16.out n (8 + 4 * k) (by omega) W h)
      have H2 := Lib.hid (fun W h => H16.out n (8 + 4 * k + 2) (by omega) W h)
      have HLn := Lib.hid (fun W h => HL.out n (8 + 4 * k) W h)
      have hm0 : (0 : Int) < (((stA s (8 + 4 * k)).1.size : Nat) : Int) := by rw [hes]; omega
      have HMS := Lib.hid (inLeft_of hIz)
      have HME : Hid ((stA s (8 + 4 * (k + 1))).1.size < (stA s (8 + 4 * k)).1.size) := Lib.hid (by rw [HSZ.out, HSZ.out]; omega)
      have HST : Hid (8 + 4 * k + 2 + 2 = 8 + 4 * (k + 1)) := Lib.hid (by omega)
      obtain ⟨u1, hu1⟩ : ∃ z, gN s (8 + 4 * k) (8 + 4 * k + 2) = z := ⟨_, rfl⟩
      obtain ⟨u2, hu2⟩ : ∃ z, gN s (8 + 4 * k + 2) (8 + 4 * k + 2 + 2) = z := ⟨_, rfl⟩
      rw [hu1] at H1
      rw [hu2] at H2
      have b1 : u1 < 65536 := by rw [← hu1]; exact gN_lt s _ _ 2 (Nat.le_refl _)
      have b2 : u2 < 65536 := by rw [← hu2]; exact gN_lt s _ _ 2 (Nat.le_refl _)
      have HSN : Hid (nqsAt s (k + 1) = nqsAt s k ++ [((u1 : Int), u2)]) := Lib.hid (by rw [nqsAt_succ, ← hu1, ← hu2]; rfl)
      have hc1 : IntKind.u16.wrap (u1 : Int) = (u1 : Int) := u16_fit u1 b1
      have hc2 : IntKind.u16.wrap (u2 : Int) = (u2 : Int) := u16_fit u2 b2
      clear hu1 hu2 b1 b2 hes
      generalize stA s (8 + 4 * k) = sA at hIz H1 HLn hm0 HMS HME
      generalize stA s (8 + 4 * k + 2) = sB at H1 H2
      rw [HST.out] at H2
      generalize nqsAt s k = l at hvz hll HSN
      have hgr : g ≤ wr.heap.size := by have := hYz.lt; omega
      go_wp2_with fail
      refine (HLn.out _ hIz).mono ?_
      rintro e w8 ⟨rfl, rfl⟩
      go_wp2_with fail
      clear hm0
      have z0 := hRz.drew.cells3
      obtain ⟨_, _, _⟩ := z0
      go_region_law (first | (refine step_pr rfl (.tmp 46) (.tmp 54) rfl g r v l (u1 : Int) u2 _ _ hR10 hv10 hg10 hll (by rfl) (by rfl) ?_; intro ad3 cq w11 H11 hc11 hf11) | (go_simp; go_at_call 61; refine (H1.out wr.drew hIz).mono ?_; rintro e w9 ⟨rfl, hI9, ho9⟩; have hR9 := hRz.drew.only (by omega) ho9; have hv9 := ownK_in (show wr.drew.ownsRow g 131 2 _ _ _ from hvz) (show InAt wr.drew n _ _ from hIz) (by decide) ho9; have hY9 := hYz.drew.only (by omega) ho9; have hb9 := hbbz.drew.trans (ho9.below (by omega)); obtain ⟨_, _, _⟩ := hR9.cells3) | (go_simp; go_at_call 61; refine (H2.out w9 hI9).mono ?_; rintro e w10 ⟨rfl, hI10, ho10⟩; have hR10 := hR9.only (by omega) ho10; have hv10 := ownK_in hv9 hI9 (by decide) ho10; have hY10 := hY9.only (by omega) ho10; have hb10 := hb9.trans (ho10.below (by omega)); obtain ⟨_, _, _⟩ := hR10.cells3; have hR10a := hR10.alloc (.cells #[.int .u16 (u1 : Int), .int .u16 (u2 : Int)] 131); obtain ⟨_, _, _⟩ := hR10a.cells3; have hg10 : g ≤ w10.heap.size := by have := hY10.lt; omega))
      all_goals
        obtain ⟨hv11, hk11, hbl11⟩ := H11.out
        have hR11 : AtK 25 w11 r #[.int .u32 (vf : Int), .int .u32 (va : Int), v] := hk11 _ _ hR10 (by intro cur p e; cases e)
        have hY11 : AtK 25 w11 g2 #[.int .u32 0, .int .u32 0, .slice none 0 0] := hk11 _ _ hY10 (by intro cur p e; cases e)
        have hI11 : InAt w11 n (stA s (8 + 4 * (k + 1))).1 (stA s (8 + 4 * (k + 1))).2 := hk11 _ _ hI10 (by intro cur p e; cases e)
        have hb11 := hbl11 _ _ (Nat.le_refl _) hb10
        have hR12 : AtK 25 (w11.setCell ⟨r, 2, none⟩ (.slice ad3 (l.length + 1) cq)) r #[.int .u32 (vf : Int), .int .u32 (va : Int), .slice ad3 (l.length + 1) cq] := block_setCell hR11
        have ho12 := (Only.refl r w11).setCell 2 (.slice ad3 (l.length + 1) cq)
        have hY12 := hY11.only (b := r) (by omega) ho12
        have hb12 := hb11.trans (ho12.below (by omega))
        have hv12 := ownK_store (i := 2) (u := .slice ad3 (l.length + 1) cq) hv11 hR11 (by decide)
        have hI12 : InAt (w11.setCell ⟨r, 2, none⟩ (.slice ad3 (l.length + 1) cq)) n (stA s (8 + 4 * (k + 1))).1 (stA s (8 + 4 * (k + 1))).2 := hI11.only (by omega) ho12
        clear H11 hc11 hf11 hv11 hR11 hY11 hb11 hk11 hbl11 ho12 hb10 hR10 hv10 hY10 hI10 hR10a hb9 hR9 hv9 hY9 hI9 hg10 r0 r1 r2 hRz hvz hIz hYz hbbz
        go_wp2
        go_roundw
        case rel => exact ⟨k + 1, .slice ad3 (l.length + 1) cq, by omega, hR12, by rw [HSN.out, List.length_append]; exact hv12, hI12, hY12, hb12⟩
        case measure => rw [inLeft_of hI12, HMS.out]; exact HME.out
    · obtain rfl : k = N := by omega
      have HLn := Lib.hid (fun W h => HL.out n (8 + 4 * k) W h)
      have hm0 : (((stA s (8 + 4 * k)).1.size : Nat) : Int) = 0 := by rw [hes]; omega
      have HPS : Hid (nkPs ⟨1, 205, s⟩ = nqsAt s k) := Lib.hid (by unfold nkPs; rw [if_pos HE.out, HN.out])
      have HPF : Hid (nkF ⟨1, 205, s⟩ = (vf : Int)) := Lib.hid (by unfold nkF; rw [if_pos HE.out, ← HVF.out])
      have HPA : Hid (nkA ⟨1, 205, s⟩ = (va : Int)) := Lib.hid (by unfold nkA; rw [if_pos HE.out, ← HVA.out])
      clear hes
      obtain ⟨av, cv, rfl, hcl, _⟩ := own_prs hvz
      obtain ⟨y0, y1, y2⟩ := hYz.cells3
      obtain ⟨f0, f1, f2⟩ := hYz.frees3
      have hZz := atK_store (.int .u32 (vf : Int)) (.int .u32 (va : Int)) (.slice av (nqsAt s k).length cv) hYz
      have hbz := hbbz.trans ((storeK_only wr g2 (.int .u32 (vf : Int)) (.int .u32 (va : Int)) (.slice av (nqsAt s k).length cv)).below hgB)
      have hY1 : AtK 25 (wr.setCell ⟨g2, 0, none⟩ (.int .u32 (vf : Int))) g2 #[.int .u32 (vf : Int), .int .u32 0, .slice none 0 0] := block_setCell hYz
      have hY2 : AtK 25 ((wr.setCell ⟨g2, 0, none⟩ (.int .u32 (vf : Int))).setCell ⟨g2, 1, none⟩ (.int .u32 (va : Int))) g2 #[.int .u32 (vf : Int), .int .u32 (va : Int), .slice none 0 0] := block_setCell hY1
      have hvv := ownK_store (i := 2) (u := .slice av (nqsAt s k).length cv) (ownK_store (i := 1) (u := .int .u32 (va : Int)) (ownK_store (i := 0) (u := .int .u32 (vf : Int)) hvz hYz (by decide)) hY1 (by decide)) hY2 (by decide)
      clear hY1 hY2
      generalize nqsAt s k = l at *
      generalize stA s (8 + 4 * k) = sA at hIz HLn hm0
      go_wp2_with fail
      refine (HLn.out _ hIz).mono ?_
      rintro e w8 ⟨rfl, rfl⟩
      go_wp2_with fail
      generalize (((wr.setCell ⟨g2, 0, none⟩ (.int .u32 (vf : Int))).setCell ⟨g2, 1, none⟩ (.int .u32 (va : Int))).setCell ⟨g2, 2, none⟩ (.slice av l.length cv)) = wz at hZz hbz hvv ⊢
      obtain ⟨d0, d1, d2⟩ := hZz.cells3
      obtain ⟨a', c', e', hc', hr'⟩ := own_prs hvv
      cases e'
      refine bodyPost_ret (v := .tuple #[.agg #[.int .u32 (vf : Int), .int .u32 (va : Int), .slice av l.length cv], .int .i64 0]) (by simp [results, Try.results15, go_sem, d0, d1, d2]) rfl ⟨av, cv, by rw [HPS.out, HPF.out, HPA.out, HE.out], by rw [HPS.out]; exact hc', by rw [HPS.out]; exact hr', by rw [HG.out]; exact hbz⟩
end Go.Proofs.Ytagimjaojpdfiaa
