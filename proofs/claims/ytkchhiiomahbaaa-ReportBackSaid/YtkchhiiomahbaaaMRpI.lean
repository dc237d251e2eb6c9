/- report.Of: pieces of kind 201. -/
import Derived.Test.YtkchhiiomahbaaaMRpI0
namespace Go.Proofs.Ytkchhiiomahbaaa
open Go.RowKit
set_option linter.unusedVariables false
set_option maxRecDepth 100000 in
set_option maxHeartbeats 3200000 in
theorem rpOf_f (count : Int) (s : ByteArray) (w : World) (hs : s.size ≤ 1099511627776) (hc1 : -9223372036854775808 ≤ count) (hc2 : count ≤ 9223372036854775807) :
    Calls Try.prog 17 #[.agg #[.int .i64 count, .int .i64 201, .string s]] w (RpOfd ⟨count, 201, s⟩ w) := by
  have h4 := rd_st s 0 4 (Nat.zero_le _)
  rw [Nat.zero_add] at h4
  obtain ⟨st1, hst1⟩ : ∃ st, rd (stA s 0) 4 = st := ⟨_, rfl⟩
  have hs0 : s = (stA s 0).1 := by show s = s.extract 0 s.size; rw [ext_all]
  have l0 : (stA s 0).1.size ≤ 9223372036854775807 := by rw [← hs0]; omega
  have hU := fun (b : Nat) W (h : InAt W b (stA s 0).1 (stA s 0).2) => u32_st b (stA s 0) W h l0
  have hsrc : 4 ≤ s.size → getN (by_ (rawT (stA s 0).1 4)) = gN s 0 4 := fun h => rawT_at s 0 4 (by omega)
  have hlive : (4 ≤ s.size ∧ st1 = stA s 4) ∨ (s.size < 4 ∧ st1 = dead) := by
    by_cases hh : s.size < 4
    · exact .inr ⟨hh, by rw [← hst1]; exact h4.trans (if_pos hh)⟩
    · exact .inl ⟨by omega, by rw [← hst1]; exact h4.trans (if_neg hh)⟩
  rw [hst1] at hU
  have hU32 := u32ok_raw (stA s 0).1
  generalize getN (by_ (rawT (stA s 0).1 4)) = srcN at hU hsrc hU32
  obtain ⟨src, hsr⟩ : ∃ src : Int, (srcN : Int) = src := ⟨_, rfl⟩
  rw [hsr] at hU hU32
  have HSRC := Lib.hid (fun h => (show src = (gN s 0 4 : Nat) by rw [← hsr, hsrc h]))
  have HU := Lib.hid hU
  have HU32 := Lib.hid hU32
  have HE := Lib.hid (fun (b : Nat) (s' : ByteArray) (er : Int) W (h : InAt W b s' er) => end_any b s' er W h)
  have HR := Lib.hid (fun (b : Nat) (s' : ByteArray) (er : Int) W (h : InAt W b s' er) => err_any b s' er W h)
  have hOf := Lib.hid (fun W => of_any s W)
  have hNew := Lib.hid (fun (W : World) => (by rw [show (stA s 0).1 = s from hs0.symm]; exact inAt_new s W : InAt (W.alloc (.cells #[.string s, .int .i64 0] 160)) W.heap.size (stA s 0).1 (stA s 0).2))
  have HL := Lib.hid hlive
  clear hU hU32 hsrc hsr h4 hs0 hst1 hlive l0
  generalize stA s 0 = s0 at HU hNew
  have hX1 := pc_new w ⟨count, 201, s⟩
  have hX2 := hX1.alloc (.cells #[.int .u32 0, .bool false, .int .i64 0, .int .u32 0, .int .u32 0, .int .u32 0, .slice none 0 0] 31)
  have hY2 := at7_new 31 (w.alloc (.cells #[.int .i64 count, .int .i64 201, .string s] 35)) (.int .u32 0) (.bool false) (.int .i64 0) (.int .u32 0) (.int .u32 0) (.int .u32 0) (.slice none 0 0)
  have hb2 : Below w.heap.size w ((w.alloc (.cells #[.int .i64 count, .int .i64 201, .string s] 35)).alloc (.cells #[.int .u32 0, .bool false, .int .i64 0, .int .u32 0, .int .u32 0, .int .u32 0, .slice none 0 0] 31)) := by go_grown
  have hne : (w.alloc (.cells #[.int .i64 count, .int .i64 201, .string s] 35)).heap.size = w.heap.size + 1 := by simp
  rw [hne] at hY2
  clear hX1 hne
  go_enter Try.func17, Try.ntmps17
  go_upto_region 1 with fail
  generalize (w.alloc (.cells #[.int .i64 count, .int .i64 201, .string s] 35)).alloc (.cells #[.int .u32 0, .bool false, .int .i64 0, .int .u32 0, .int .u32 0, .int .u32 0, .slice none 0 0] 31) = w2 at hX2 hY2 hb2 ⊢
  have hgB : w.heap.size ≤ w.heap.size + 1 := by omega
  have hgn : w.heap.size ≠ w.heap.size + 1 := by omega
  generalize hg2 : w.heap.size + 1 = g2 at hY2 hgB hgn ⊢
  generalize hg : w.heap.size = g at hX2 hb2 hgB hgn ⊢
  have HG := Lib.hid hg
  clear hg2 hg
  obtain ⟨x0, x1, x2, _⟩ := pcAt_S hX2
  go_upto_region 3 with fail
  go_wp2_with fail
  refine (hOf.out _).mono ?_
  rintro e w3 ⟨rfl, rfl⟩
  have hI3 := hNew.out w2
  have hX3 := hX2.alloc (.cells #[.string s, .int .i64 0] 160)
  have hY3 := hY2.alloc (.cells #[.string s, .int .i64 0] 160)
  have hb3 := hb2.alloc (by have := hX2.lt; omega) (.cells #[.string s, .int .i64 0] 160)
  have hnb : g2 < w2.heap.size := hY2.lt
  go_upto_region 4 with fail
  generalize w2.alloc (.cells #[.string s, .int .i64 0] 160) = w4 at hI3 hX3 hY3 hb3 ⊢
  generalize w2.heap.size = n at hI3 hnb ⊢
  clear hX2 hY2 hb2 x0 x1 x2
  obtain ⟨x0, x1, x2, _⟩ := pcAt_S hX3
  have hg4 : g < w4.heap.size := hX3.lt
  go_cut [5] (fun z5 wx => ∃ r, z5 = .pointer (some ⟨r, 0, none⟩) ∧ n < r ∧ At7 31 wx r (.int .u32 src) (.bool false) (.int .i64 0) (.int .u32 0) (.int .u32 0) (.int .u32 0) (.slice none 0 0) ∧ InAt wx n st1.1 st1.2 ∧ PcAt wx g ⟨count, 201, s⟩ ∧ At7 31 wx g2 (.int .u32 0) (.bool false) (.int .i64 0) (.int .u32 0) (.int .u32 0) (.int .u32 0) (.slice none 0 0) ∧ Below g w wx)
  case first =>
    go_region_law (first | (go_simp; go_at_call 60; refine (HU.out n _ (show InAt w4.drew n _ _ from hI3)).mono ?_; rintro e w5 ⟨rfl, hI5, ho5⟩; have hX5 : PcAt w5 g ⟨count, 201, s⟩ := (ho5.block g (by omega)).trans hX3; obtain ⟨_, _, _, _⟩ := pcAt_S hX5; have hY5 : At7 31 w5 g2 (.int .u32 0) (.bool false) (.int .i64 0) (.int .u32 0) (.int .u32 0) (.int .u32 0) (.slice none 0 0) := (ho5.block g2 (by omega)).trans hY3; have hb5 : Below g w w5 := hb3.drew.trans (ho5.below (by omega)); have hn5 := hI5.lt; have hg5 := hX5.lt) | (go_simp; go_at_call 60; refine (HU.out n _ (show InAt (w4.alloc (.cells #[.int .u32 0, .bool false, .int .i64 0, .int .u32 0, .int .u32 0, .int .u32 0, .slice none 0 0] 31)).drew n _ _ from hI3.alloc _)).mono ?_; rintro e w5 ⟨rfl, hI5, ho5⟩; have hX5 : PcAt w5 g ⟨count, 201, s⟩ := (ho5.block g (by omega)).trans (hX3.alloc (.cells #[.int .u32 0, .bool false, .int .i64 0, .int .u32 0, .int .u32 0, .int .u32 0, .slice none 0 0] 31)); obtain ⟨_, _, _, _⟩ := pcAt_S hX5; have hY5 : At7 31 w5 g2 (.int .u32 0) (.bool false) (.int .i64 0) (.int .u32 0) (.int .u32 0) (.int .u32 0) (.slice none 0 0) := (ho5.block g2 (by omega)).trans (hY3.alloc (.cells #[.int .u32 0, .bool false, .int .i64 0, .int .u32 0, .int .u32 0, .int .u32 0, .slice none 0 0] 31)); have hR5 : At7 31 w5 w4.heap.size (.int .u32 0) (.bool false) (.int .i64 0) (.int .u32 0) (.int .u32 0) (.int .u32 0) (.slice none 0 0) := (ho5.block w4.heap.size (by have := hI3.lt; omega)).trans (at7_new 31 w4 _ _ _ _ _ _ _); obtain ⟨_, _, _, _, _, _, _⟩ := hR5.cells; obtain ⟨_, _, _, _, _, _, _⟩ := hR5.frees; have hb5 : Below g w w5 := (hb3.alloc (by have := hX3.lt; omega) _).drew.trans (ho5.below (by omega)); have hn5 := hI5.lt; have hg5 := hX5.lt))
    all_goals
      go_wp2_with fail
      go_meet
      first
        | (have hRz := at7_store (.int .u32 src) (.bool false) (.int .i64 0) (.int .u32 0) (.int .u32 0) (.int .u32 0) (.slice none 0 0) hR5
           have hoz := store7_only w5 w4.heap.size (.int .u32 src) (.bool false) (.int .i64 0) (.int .u32 0) (.int .u32 0) (.int .u32 0) (.slice none 0 0)
           have hIz := hI5.only (by have := hI3.lt; omega) hoz
           have hXz := (hoz.block g (by omega)).trans hX5
           have hYz := hY5.only (by have := hI3.lt; omega) hoz
           have hbz := hb5.trans (hoz.below (by omega))
           exact ⟨w4.heap.size, rfl, by have := hI3.lt; omega, hRz, hIz, hXz, hYz, hbz⟩)
        | exact ⟨w5.heap.size, rfl, by omega, at7_new _ _ _ _ _ _ _ _ _, hI5.alloc _, hX5.alloc _, hY5.alloc _, hb5.alloc (by omega) _⟩
  case rest =>
  obtain ⟨r, rfl, hnr, hR5, hI5, hX5, hY5, hb5⟩ := hcut
  rename World => w5
  clear hI3 hX3 hY3 hb3 hg4 x0 x1 x2 HU hNew hOf
  have hv5 := World.ownsRow_nil w5 g 122 7
  have HQ : Hid (4 ≤ s.size → ∀ k, rpAt false s k = ⟨src, false, 0, 0, 0, 0, (List.range k).map fun i => bkAt s (4 + 24 * i)⟩) := Lib.hid (fun h k => by rw [HSRC.out h]; rfl)
  have hL6 := HL.out
  clear HL
  obtain ⟨r0, r1, r2, r3, r4, r5, r6⟩ := hR5.cells
  have hSt : OfSt s 4 count.toNat 0 [] st1 := by
    rcases hL6 with ⟨h1, h2⟩ | ⟨h1, h2⟩
    · exact .inl ⟨by omega, Nat.zero_le _, rfl, h2⟩
    · exact .inr ⟨by omega, h2, by simp⟩
  clear hL6
  obtain ⟨x0, x1, x2, _⟩ := pcAt_S hX5
  go_upto_region 7 with fail
  go_wp2_with fail
  go_loopw [6] (fun i wr => ∃ (k : Nat) (l : List BK) (st : ByteArray × Int) (v : Value), i = .int .i64 k ∧ k ≤ count.toNat ∧ OfSt s 4 count.toNat k l st ∧ At7 31 wr r (.int .u32 src) (.bool false) (.int .i64 0) (.int .u32 0) (.int .u32 0) (.int .u32 0) v ∧ wr.ownsRow g 122 7 v l.length (bksV l) ∧ InAt wr n st.1 st.2 ∧ PcAt wr g ⟨count, 201, s⟩ ∧ At7 31 wr g2 (.int .u32 0) (.bool false) (.int .i64 0) (.int .u32 0) (.int .u32 0) (.int .u32 0) (.slice none 0 0) ∧ Below g w wr) (fun i _ => count.toNat - (intOf i).toNat)
  case atStart => exact ⟨0, [], st1, .slice none 0 0, rfl, Nat.zero_le _, hSt, hR5, hv5, hI5, hX5, hY5, hb5⟩
  case round =>
    obtain ⟨k, l, st, v, rfl, hk, hStk, hRz, hvz, hIz, hXz, hYz, hbbz⟩ := hrel
    clear hR5 hv5 hI5 hX5 hY5 hb5 hSt x0 x1 x2 
    obtain ⟨x0, x1, x2, _⟩ := pcAt_S hXz
    obtain ⟨r0, r1, r2, r3, r4, r5, r6⟩ := hRz.cells
    by_cases hlt : (k : Int) < count
    · rcases hStk with ⟨hh, hkn, rfl, rfl⟩ | ⟨hh, rfl, hll⟩
      · have HRB := Lib.hid (fun W (h : InAt W n (stA s (4 + 24 * k)).1 (stA s (4 + 24 * k)).2) => readBlock_any n s (4 + 24 * k) W h hh hs)
        have hll : 24 * ((List.range k).map fun i => bkAt s (4 + 24 * i)).length ≤ s.size := by simp; omega
        have HSt := Lib.hid (ofSt_next s 4 count.toNat k hh (by omega))
        generalize ((List.range k).map fun i => bkAt s (4 + 24 * i)) = l at hvz hll HSt
        have hrf := hRz.free 6
        have hgr : g ≤ wr.heap.size := by have := hXz.lt; omega
        go_wp2_with fail
        refine (HR.out _ _ _ _ hIz).mono ?_
        rintro e w6 ⟨rfl, rfl⟩
        rw [show (stA s (4 + 24 * k)).2 = 0 from rfl]
        go_wp2_with fail
        go_region_law (first | (refine step_blk rfl (.tmp 44) (.tmp 47) rfl g r v l p _ _ _ _ _ _ hR9 hv9 hg9 (by omega) (by rfl) (by rfl) ?_; intro ad3 cq w10 H10 hc10 hf10) | (go_simp; go_at_call 63; refine (HRB.out _ (show InAt wr.drew n _ _ from hIz)).mono ?_; rintro e w9 ⟨p, hpk, rfl, hx9, hp9⟩; have hR9 := (show At7 31 wr.drew r _ _ _ _ _ _ _ from hRz).ex (by omega) hx9; have hv9 := own_ex (show wr.drew.ownsRow g 122 7 _ _ _ from hvz) hx9 (row_neP hvz hIz (by intro cur p e; cases e)); have hX9 := PcAt.ex (show PcAt wr.drew g _ from hXz) (by omega) hx9; have hY9 := (show At7 31 wr.drew g2 _ _ _ _ _ _ _ from hYz).ex (by omega) hx9; have hb9 := hbbz.drew.trans (hx9.below (by omega) hgr); obtain ⟨_, _, _, _, _, _, d6⟩ := hR9.cells; have hr9 := hR9.lt; have hg9 : g ≤ w9.heap.size := by (have := hx9.size; simp at this; omega)))
        all_goals
          obtain ⟨hv10, hk10, hbl10⟩ := H10.out
          have hR10 : At7 31 w10 r (.int .u32 src) (.bool false) (.int .i64 0) (.int .u32 0) (.int .u32 0) (.int .u32 0) v := hk10 _ _ hR9 (by intro cur p e; cases e)
          have hX10 : PcAt w10 g ⟨count, 201, s⟩ := hk10 _ _ hX9 (by intro cur p e; cases e)
          have hY10 : At7 31 w10 g2 (.int .u32 0) (.bool false) (.int .i64 0) (.int .u32 0) (.int .u32 0) (.int .u32 0) (.slice none 0 0) := hk10 _ _ hY9 (by intro cur p e; cases e)
          have hb10 := hbl10 _ _ (Nat.le_refl _) hb9
          have hR11 : At7 31 (w10.setCell ⟨r, 6, none⟩ (.slice ad3 (l.length + 1) cq)) r (.int .u32 src) (.bool false) (.int .i64 0) (.int .u32 0) (.int .u32 0) (.int .u32 0) (.slice ad3 (l.length + 1) cq) := block_setCell hR10
          have ho11 := (Only.refl r w10).setCell 6 (.slice ad3 (l.length + 1) cq)
          have hX11 : PcAt (w10.setCell ⟨r, 6, none⟩ (.slice ad3 (l.length + 1) cq)) g ⟨count, 201, s⟩ := (ho11.block g (by omega)).trans hX10
          have hY11 := hY10.only (b := r) (by omega) ho11
          have hb11 := hb10.trans (ho11.below (by omega))
          have hv11 := own7_store (i := 6) (u := .slice ad3 (l.length + 1) cq) hv10 hR10 (by decide)
          obtain ⟨st', hSt', hI11⟩ : ∃ st', OfSt s 4 count.toNat (k + 1) (l ++ [p]) st' ∧ InAt (w10.setCell ⟨r, 6, none⟩ (.slice ad3 (l.length + 1) cq)) n st'.1 st'.2 := by
            rcases hp9 with ⟨q1, q2, q3⟩ | ⟨q1, q3⟩
            · refine ⟨_, HSt.out.1 p q1 q2, ?_⟩
              exact inAt_set (hk10 _ _ q3 (by intro cur p e; cases e)) (by omega)
            · refine ⟨_, HSt.out.2 p q1 hll, ?_⟩
              exact inAt_set (hk10 _ _ q3 (by intro cur p e; cases e)) (by omega)
          clear H10 hc10 hf10 hv10 hR10 hX10 hY10 hb10 hk10 hbl10 ho11 hb9 hR9 hv9 hX9 hY9 hx9 hp9 hg9 hr9 d6 x0 x1 x2 r0 r1 r2 r3 r4 r5 r6 hRz hvz hIz hXz hYz hbbz hrf
          go_wp2
          go_roundw
          case rel => exact ⟨k + 1, l ++ [p], st', _, by go_num, by omega, hSt', hR11, by rw [List.length_append]; exact hv11, hI11, hX11, hY11, hb11⟩
          case measure => simp [intOf]; omega
      · go_wp2_with fail
        refine (HR.out _ _ _ _ hIz).mono ?_
        rintro e w6 ⟨rfl, rfl⟩
        rw [show dead.2 = 2 from rfl]
        go_wp2_with fail
        refine (HE.out _ _ _ _ hIz).mono ?_
        rintro e w7 ⟨rfl, rfl⟩
        rw [show endE (dead).1 (dead).2 = 2 from rfl]
        obtain ⟨y0, y1, y2, y3, y4, y5, y6⟩ := hYz.cells
        obtain ⟨f0, f1, f2, f3, f4, f5, f6⟩ := hYz.frees
        have hZz := at7_store (.int .u32 0) (.bool false) (.int .i64 0) (.int .u32 0) (.int .u32 0) (.int .u32 0) (.slice none 0 0) hYz
        have hoz := store7_only wr g2 (.int .u32 0) (.bool false) (.int .i64 0) (.int .u32 0) (.int .u32 0) (.int .u32 0) (.slice none 0 0)
        have hbz := hbbz.trans (hoz.below hgB)
        have HEV := Lib.hid (show ofE ⟨count, 201, s⟩ = 2 from ofE_2 _ _ _ (by decide) (by show s.size < 4 + 24 * count.toNat; omega))
        go_wp2_with fail
        generalize (((((((wr.setCell ⟨g2, 0, none⟩ (.int .u32 0)).setCell ⟨g2, 1, none⟩ (.bool false)).setCell ⟨g2, 2, none⟩ (.int .i64 0)).setCell ⟨g2, 3, none⟩ (.int .u32 0)).setCell ⟨g2, 4, none⟩ (.int .u32 0)).setCell ⟨g2, 5, none⟩ (.int .u32 0)).setCell ⟨g2, 6, none⟩ (.slice none 0 0)) = wz at hZz hoz hbz ⊢
        obtain ⟨d0, d1, d2, d3, d4, d5, d6⟩ := hZz.cells
        clear f0 f1 f2 f3 f4 f5 f6 y0 y1 y2 y3 y4 y5 y6
        refine bodyPost_ret (v := .tuple #[.agg #[.int .u32 0, .bool false, .int .i64 0, .int .u32 0, .int .u32 0, .int .u32 0, .slice none 0 0], .int .i64 2]) (by simp [results, Try.results17, go_sem, d0, d1, d2, d3, d4, d5, d6]) rfl (rpOfd_err _ _ _ 2 HEV.out (by decide) (by rw [HG.out]; exact hbz))
    · have hkn : k = count.toNat := by omega
      rcases hStk with ⟨hh, _, hld, rfl⟩ | ⟨hh, rfl, hll⟩
      · have hes : (stA s (4 + 24 * k)).1.size = s.size - (4 + 24 * k) := ext_size s _
        by_cases hsz : 4 + 24 * count.toNat < s.size
        · have hEV : endE (stA s (4 + 24 * k)).1 (stA s (4 + 24 * k)).2 = 1 := by unfold endE; rw [if_neg (by omega)]
          clear hes
          have hEH := Lib.hid hEV
          clear hEV
          go_wp2_with fail
          refine (HE.out _ _ _ _ hIz).mono ?_
          rintro e w7 ⟨rfl, rfl⟩
          rw [show endE (stA s (4 + 24 * k)).1 (stA s (4 + 24 * k)).2 = 1 from hEH.out]
          obtain ⟨y0, y1, y2, y3, y4, y5, y6⟩ := hYz.cells
          obtain ⟨f0, f1, f2, f3, f4, f5, f6⟩ := hYz.frees
          have hZz := at7_store (.int .u32 0) (.bool false) (.int .i64 0) (.int .u32 0) (.int .u32 0) (.int .u32 0) (.slice none 0 0) hYz
          have hoz := store7_only wr g2 (.int .u32 0) (.bool false) (.int .i64 0) (.int .u32 0) (.int .u32 0) (.int .u32 0) (.slice none 0 0)
          have hbz := hbbz.trans (hoz.below hgB)
          have HEV := Lib.hid (show ofE ⟨count, 201, s⟩ = 1 from ofE_1 _ _ _ (by decide) (by show 4 + 24 * count.toNat < s.size; omega))
          go_wp2_with fail
          generalize (((((((wr.setCell ⟨g2, 0, none⟩ (.int .u32 0)).setCell ⟨g2, 1, none⟩ (.bool false)).setCell ⟨g2, 2, none⟩ (.int .i64 0)).setCell ⟨g2, 3, none⟩ (.int .u32 0)).setCell ⟨g2, 4, none⟩ (.int .u32 0)).setCell ⟨g2, 5, none⟩ (.int .u32 0)).setCell ⟨g2, 6, none⟩ (.slice none 0 0)) = wz at hZz hoz hbz ⊢
          obtain ⟨d0, d1, d2, d3, d4, d5, d6⟩ := hZz.cells
          clear f0 f1 f2 f3 f4 f5 f6 y0 y1 y2 y3 y4 y5 y6
          refine bodyPost_ret (v := .tuple #[.agg #[.int .u32 0, .bool false, .int .i64 0, .int .u32 0, .int .u32 0, .int .u32 0, .slice none 0 0], .int .i64 1]) (by simp [results, Try.results17, go_sem, d0, d1, d2, d3, d4, d5, d6]) rfl (rpOfd_err _ _ _ 1 HEV.out (by decide) (by rw [HG.out]; exact hbz))

        · have hEV : endE (stA s (4 + 24 * k)).1 (stA s (4 + 24 * k)).2 = 0 := by unfold endE; rw [if_pos (by omega)]; rfl
          clear hes
          have hEH := Lib.hid hEV
          clear hEV
          have HQK := Lib.hid ((show rpAt false s count.toNat = ⟨src, false, 0, 0, 0, 0, l⟩ by rw [HQ.out (by omega), hld, hkn]))
          have HLn := Lib.hid (show l.length = count.toNat by rw [hld, List.length_map, List.length_range, hkn])
          have HSz := Lib.hid (show s.size = 4 + 24 * count.toNat by omega)
          clear hld hh hsz
          obtain ⟨av, cv, rfl, _, _, _, hrd⟩ := own_readsB hvz
          have hll : l.length ≤ 9223372036854775807 := by rw [HLn.out]; omega
          have HC := Lib.hid (fun (W : World) (hb : Below wr.heap.size wr W) v hv => rpCheck_any ⟨src, false, 0, 0, 0, 0, l⟩ av cv W (hrd.later hb) hll v hv)
          simp only at HC
          clear hrd hll
          go_wp2_with fail
          refine (HE.out _ _ _ _ hIz).mono ?_
          rintro e w7 ⟨rfl, rfl⟩
          rw [hEH.out]
          by_cases hmay : rpMay ⟨src, false, 0, 0, 0, 0, l⟩
          · have HEV := Lib.hid (show ofE ⟨count, 201, s⟩ = 0 from ofE_0 _ _ _ (by decide) (by show s.size = 4 + 24 * count.toNat; exact HSz.out) (by show rpMay (rpAt false s count.toNat); rw [HQK.out]; exact hmay))
            have HC0 := Lib.hid (fun (W : World) (hb : Below wr.heap.size wr W) => HC.out W hb 0 (.inl ⟨rfl, hmay⟩))
            clear hmay HC
            go_wp2_with fail
            refine (HC0.out _ (Below.refl _ _)).mono ?_
            rintro e w8 ⟨rfl, hb8⟩
            have hv8 := own_laterN hvz hb8
            have hR8 := hRz.later hb8
            have hY8 := hYz.later hb8
            have hbb8 := hbbz.trans (hb8.mono (by have := hXz.lt; omega))
            clear hRz hIz hXz hYz hbbz hb8 x0 x1 x2 r0 r1 r2 r3 r4 r5 r6 hvz HC0 HR HE
            obtain ⟨r0, r1, r2, r3, r4, r5, r6⟩ := hR8.cells
            obtain ⟨y0, y1, y2, y3, y4, y5, y6⟩ := hY8.cells
            obtain ⟨f0, f1, f2, f3, f4, f5, f6⟩ := hY8.frees
            have hZz := at7_store (.int .u32 src) (.bool false) (.int .i64 0) (.int .u32 0) (.int .u32 0) (.int .u32 0) (.slice av l.length cv) hY8
            have hoz := store7_only w8 g2 (.int .u32 src) (.bool false) (.int .i64 0) (.int .u32 0) (.int .u32 0) (.int .u32 0) (.slice av l.length cv)
            have hbz := hbb8.trans (hoz.below hgB)
            have HRDz := Lib.hid (own_readsB' (own_onlyM hv8 hY8 (by decide) hoz))
            go_wp2_with fail
            generalize (((((((w8.setCell ⟨g2, 0, none⟩ (.int .u32 src)).setCell ⟨g2, 1, none⟩ (.bool false)).setCell ⟨g2, 2, none⟩ (.int .i64 0)).setCell ⟨g2, 3, none⟩ (.int .u32 0)).setCell ⟨g2, 4, none⟩ (.int .u32 0)).setCell ⟨g2, 5, none⟩ (.int .u32 0)).setCell ⟨g2, 6, none⟩ (.slice av l.length cv)) = wz at hZz hoz hbz HRDz ⊢
            obtain ⟨d0, d1, d2, d3, d4, d5, d6⟩ := hZz.cells
            clear f0 f1 f2 f3 f4 f5 f6 y0 y1 y2 y3 y4 y5 y6 r0 r1 r2 r3 r4 r5 r6
            refine bodyPost_ret (v := .tuple #[.agg #[.int .u32 src, .bool false, .int .i64 0, .int .u32 0, .int .u32 0, .int .u32 0, .slice av l.length cv], .int .i64 0]) (by simp [results, Try.results17, go_sem, d0, d1, d2, d3, d4, d5, d6]) rfl (rpOfd_ok _ _ _ ⟨src, false, 0, 0, 0, 0, l⟩ av cv HEV.out (by show rpAt false s count.toNat = _; exact HQK.out) HRDz.out (by rw [HG.out]; exact hbz))
          · have HEV := Lib.hid (show ofE ⟨count, 201, s⟩ = 6 from ofE_6 _ _ _ (by decide) (by show s.size = 4 + 24 * count.toNat; exact HSz.out) (by show ¬ rpMay (rpAt false s count.toNat); rw [HQK.out]; exact hmay))
            have HC0 := Lib.hid (fun (W : World) (hb : Below wr.heap.size wr W) => HC.out W hb 6 (.inr ⟨rfl, hmay⟩))
            clear hmay HC
            go_wp2_with fail
            refine (HC0.out _ (Below.refl _ _)).mono ?_
            rintro e w8 ⟨rfl, hb8⟩
            have hR8 := hRz.later hb8
            have hY8 := hYz.later hb8
            have hbb8 := hbbz.trans (hb8.mono (by have := hXz.lt; omega))
            clear hRz hIz hXz hYz hbbz hb8 x0 x1 x2 r0 r1 r2 r3 r4 r5 r6 hvz HC0 HR HE
            obtain ⟨y0, y1, y2, y3, y4, y5, y6⟩ := hY8.cells
            obtain ⟨f0, f1, f2, f3, f4, f5, f6⟩ := hY8.frees
            have hZz := at7_store (.int .u32 0) (.bool false) (.int .i64 0) (.int .u32 0) (.int .u32 0) (.int .u32 0) (.slice none 0 0) hY8
            have hoz := store7_only w8 g2 (.int .u32 0) (.bool false) (.int .i64 0) (.int .u32 0) (.int .u32 0) (.int .u32 0) (.slice none 0 0)
            have hbz := hbb8.trans (hoz.below hgB)
            go_wp2_with fail
            generalize (((((((w8.setCell ⟨g2, 0, none⟩ (.int .u32 0)).setCell ⟨g2, 1, none⟩ (.bool false)).setCell ⟨g2, 2, none⟩ (.int .i64 0)).setCell ⟨g2, 3, none⟩ (.int .u32 0)).setCell ⟨g2, 4, none⟩ (.int .u32 0)).setCell ⟨g2, 5, none⟩ (.int .u32 0)).setCell ⟨g2, 6, none⟩ (.slice none 0 0)) = wz at hZz hoz hbz ⊢
            obtain ⟨d0, d1, d2, d3, d4, d5, d6⟩ := hZz.cells
            clear f0 f1 f2 f3 f4 f5 f6 y0 y1 y2 y3 y4 y5 y6
            refine bodyPost_ret (v := .tuple #[.agg #[.int .u32 0, .bool false, .int .i64 0, .int .u32 0, .int .u32 0, .int .u32 0, .slice none 0 0], .int .i64 6]) (by simp [results, Try.results17, go_sem, d0, d1, d2, d3, d4, d5, d6]) rfl (rpOfd_err _ _ _ 6 HEV.out (by decide) (by rw [HG.out]; exact hbz))
      · go_wp2_with fail
        refine (HE.out _ _ _ _ hIz).mono ?_
        rintro e w7 ⟨rfl, rfl⟩
        rw [show endE (dead).1 (dead).2 = 2 from rfl]
        obtain ⟨y0, y1, y2, y3, y4, y5, y6⟩ := hYz.cells
        obtain ⟨f0, f1, f2, f3, f4, f5, f6⟩ := hYz.frees
        have hZz := at7_store (.int .u32 0) (.bool false) (.int .i64 0) (.int .u32 0) (.int .u32 0) (.int .u32 0) (.slice none 0 0) hYz
        have hoz := store7_only wr g2 (.int .u32 0) (.bool false) (.int .i64 0) (.int .u32 0) (.int .u32 0) (.int .u32 0) (.slice none 0 0)
        have hbz := hbbz.trans (hoz.below hgB)
        have HEV := Lib.hid (show ofE ⟨count, 201, s⟩ = 2 from ofE_2 _ _ _ (by decide) (by show s.size < 4 + 24 * count.toNat; omega))
        go_wp2_with fail
        generalize (((((((wr.setCell ⟨g2, 0, none⟩ (.int .u32 0)).setCell ⟨g2, 1, none⟩ (.bool false)).setCell ⟨g2, 2, none⟩ (.int .i64 0)).setCell ⟨g2, 3, none⟩ (.int .u32 0)).setCell ⟨g2, 4, none⟩ (.int .u32 0)).setCell ⟨g2, 5, none⟩ (.int .u32 0)).setCell ⟨g2, 6, none⟩ (.slice none 0 0)) = wz at hZz hoz hbz ⊢
        obtain ⟨d0, d1, d2, d3, d4, d5, d6⟩ := hZz.cells
        clear f0 f1 f2 f3 f4 f5 f6 y0 y1 y2 y3 y4 y5 y6
        refine bodyPost_ret (v := .tuple #[.agg #[.int .u32 0, .bool false, .int .i64 0, .int .u32 0, .int .u32 0, .int .u32 0, .slice none 0 0], .int .i64 2]) (by simp [results, Try.results17, go_sem, d0, d1, d2, d3, d4, d5, d6]) rfl (rpOfd_err _ _ _ 2 HEV.out (by decide) (by rw [HG.out]; exact hbz))
end Go.Proofs.Ytkchhiiomahbaaa

