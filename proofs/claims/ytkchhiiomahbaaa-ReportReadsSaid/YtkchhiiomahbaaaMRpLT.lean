/- The document's Of: pieces of kind 200. -/
import Derived.Test.YtkchhiiomahbaaaMRpL0
import Derived.Deep.RegionHeld3
namespace Go.Proofs.Ytkchhiiomahbaaa
open Go.RowKit
set_option linter.unusedVariables false
set_option maxRecDepth 100000 in
set_option maxHeartbeats 6400000 in
theorem refOf_t (count : Int) (s : ByteArray) (w : World) (hs : s.size ≤ 300) (hc1 : -9223372036854775808 ≤ count) (hc2 : count ≤ 9223372036854775807) :
    Calls Try.prog 18 #[.agg #[.int .i64 count, .int .i64 200, .string s]] w (RefOfd ⟨count, 200, s⟩ w) := by
  obtain ⟨n, hN, hn32, hnc⟩ : ∃ n : Nat, max (0 : Int) (min count 32) = (n : Int) ∧ n ≤ 32 ∧ ((count ≤ 32 ∧ n = count.toNat) ∨ (32 < count ∧ n = 32)) := ⟨(max (0 : Int) (min count 32)).toNat, by omega, by omega, by omega⟩
  have hX1 : BoxAt (w.alloc (.cells #[.int .i64 count, .int .i64 200, .string s] 23)) w.heap.size ⟨count, 200, s⟩ := heap_alloc_new w _
  have hX2 := hX1.alloc (.cells #[.int .i64 0, .bool false, .int .i64 0, .int .i64 0, .int .i64 0, .int .i64 0, .slice none 0 0] 38)
  have hY2 := at7_new 38 (w.alloc (.cells #[.int .i64 count, .int .i64 200, .string s] 23)) (.int .i64 0) (.bool false) (.int .i64 0) (.int .i64 0) (.int .i64 0) (.int .i64 0) (.slice none 0 0)
  have hb2 : Below w.heap.size w ((w.alloc (.cells #[.int .i64 count, .int .i64 200, .string s] 23)).alloc (.cells #[.int .i64 0, .bool false, .int .i64 0, .int .i64 0, .int .i64 0, .int .i64 0, .slice none 0 0] 38)) := by go_grown
  have hne : (w.alloc (.cells #[.int .i64 count, .int .i64 200, .string s] 23)).heap.size = w.heap.size + 1 := by simp
  rw [hne] at hY2
  clear hX1 hne
  go_enter Try.func18, Try.ntmps18
  go_upto_region 1 with fail
  generalize (w.alloc (.cells #[.int .i64 count, .int .i64 200, .string s] 23)).alloc (.cells #[.int .i64 0, .bool false, .int .i64 0, .int .i64 0, .int .i64 0, .int .i64 0, .slice none 0 0] 38) = w2 at hX2 hY2 hb2 ⊢
  have hgB : w.heap.size ≤ w.heap.size + 1 := by omega
  have hgn : w.heap.size ≠ w.heap.size + 1 := by omega
  generalize hg2 : w.heap.size + 1 = g2 at hY2 hgB hgn ⊢
  generalize hg : w.heap.size = g at hX2 hb2 hgB hgn ⊢
  have HG := Lib.hid hg
  clear hg2 hg
  obtain ⟨x0, x1, x2, _⟩ := boxAt_S hX2
  go_upto_region 7 with fail
  have HN := Lib.hid hnc
  clear hnc hN
  by_cases hs1 : (s.size : Int) < 24 + 24 * (n : Int)
  · obtain ⟨y0, y1, y2, y3, y4, y5, y6⟩ := hY2.cells
    obtain ⟨f0, f1, f2, f3, f4, f5, f6⟩ := hY2.frees
    have hZz := at7_store (.int .i64 0) (.bool false) (.int .i64 0) (.int .i64 0) (.int .i64 0) (.int .i64 0) (.slice none 0 0) hY2
    have hoz := store7_only w2 g2 (.int .i64 0) (.bool false) (.int .i64 0) (.int .i64 0) (.int .i64 0) (.int .i64 0) (.slice none 0 0)
    have hbz := hb2.trans (hoz.below hgB)
    have HEV := Lib.hid (show ofE ⟨count, 200, s⟩ = 2 from ofE_2 _ _ _ (by decide) (by show s.size < 24 + 24 * count.toNat; have := HN.out; omega))
    go_wp2_with fail
    generalize ((((((w2.setCell ⟨g2, 0, none⟩ (.int .i64 0)).setCell ⟨g2, 1, none⟩ (.bool false)).setCell ⟨g2, 2, none⟩ (.int .i64 0)).setCell ⟨g2, 3, none⟩ (.int .i64 0)).setCell ⟨g2, 4, none⟩ (.int .i64 0)).setCell ⟨g2, 5, none⟩ (.int .i64 0)).setCell ⟨g2, 6, none⟩ (.slice none 0 0) = wz at hZz hoz hbz ⊢
    obtain ⟨d0, d1, d2, d3, d4, d5, d6⟩ := hZz.cells
    clear f0 f1 f2 f3 f4 f5 f6 y0 y1 y2 y3 y4 y5 y6
    refine bodyPost_ret (v := .tuple #[.agg #[.int .i64 0, .bool false, .int .i64 0, .int .i64 0, .int .i64 0, .int .i64 0, .slice none 0 0], .int .i64 2]) (by simp [results, Try.results18, go_sem, d0, d1, d2, d3, d4, d5, d6]) rfl (refOfd_err _ _ _ 2 HEV.out (by decide) (by rw [HG.out]; exact hbz))

  · by_cases hs2 : 24 + 24 * (n : Int) < (s.size : Int)
    · obtain ⟨y0, y1, y2, y3, y4, y5, y6⟩ := hY2.cells
      obtain ⟨f0, f1, f2, f3, f4, f5, f6⟩ := hY2.frees
      have hZz := at7_store (.int .i64 0) (.bool false) (.int .i64 0) (.int .i64 0) (.int .i64 0) (.int .i64 0) (.slice none 0 0) hY2
      have hoz := store7_only w2 g2 (.int .i64 0) (.bool false) (.int .i64 0) (.int .i64 0) (.int .i64 0) (.int .i64 0) (.slice none 0 0)
      have hbz := hb2.trans (hoz.below hgB)
      have HEV := Lib.hid (show ofE ⟨count, 200, s⟩ = 1 from ofE_1 _ _ _ (by decide) (by show 24 + 24 * count.toNat < s.size; have := HN.out; omega))
      go_wp2_with fail
      generalize ((((((w2.setCell ⟨g2, 0, none⟩ (.int .i64 0)).setCell ⟨g2, 1, none⟩ (.bool false)).setCell ⟨g2, 2, none⟩ (.int .i64 0)).setCell ⟨g2, 3, none⟩ (.int .i64 0)).setCell ⟨g2, 4, none⟩ (.int .i64 0)).setCell ⟨g2, 5, none⟩ (.int .i64 0)).setCell ⟨g2, 6, none⟩ (.slice none 0 0) = wz at hZz hoz hbz ⊢
      obtain ⟨d0, d1, d2, d3, d4, d5, d6⟩ := hZz.cells
      clear f0 f1 f2 f3 f4 f5 f6 y0 y1 y2 y3 y4 y5 y6
      refine bodyPost_ret (v := .tuple #[.agg #[.int .i64 0, .bool false, .int .i64 0, .int .i64 0, .int .i64 0, .int .i64 0, .slice none 0 0], .int .i64 1]) (by simp [results, Try.results18, go_sem, d0, d1, d2, d3, d4, d5, d6]) rfl (refOfd_err _ _ _ 1 HEV.out (by decide) (by rw [HG.out]; exact hbz))

    · have hsz : s.size = 24 + 24 * n := by omega
      have HNC : Hid (n = count.toNat) := Lib.hid (by have := HN.out; omega)
      have HS := Lib.hid hsz
      have h12 : n ≤ 12 := by omega
      have h4s : (4 : Int) ≤ (s.size : Int) := by omega
      clear HN hsz
      obtain ⟨src, hsrc⟩ : ∃ src : Int, ((gN s 0 4 : Nat) : Int) = src := ⟨_, rfl⟩
      have HG0 := Lib.hid (fun W => get_at s 0 4 (by decide) W)
      rw [hsrc] at HG0
      have HSRC := Lib.hid hsrc
      clear hsrc
      have hw2 : g2 < w2.heap.size := hY2.lt
      have hgw : g < w2.heap.size := by have : w2.heap[g]? = _ := hX2; exact lt_of_block this
      go_upto_region 11 with fail
      clear hs1 hs2
      have hA := at7_new 38 w2 (.int .i64 0) (.bool false) (.int .i64 0) (.int .i64 0) (.int .i64 0) (.int .i64 0) (.slice none 0 0)
      obtain ⟨a0, a1, a2, a3, a4, a5, a6⟩ := (show At7 38 (w2.alloc (.cells #[.int .i64 0, .bool false, .int .i64 0, .int .i64 0, .int .i64 0, .int .i64 0, .slice none 0 0] 38)).drew w2.heap.size (.int .i64 0) (.bool false) (.int .i64 0) (.int .i64 0) (.int .i64 0) (.int .i64 0) (.slice none 0 0) from hA).cells
      obtain ⟨e0, e1, e2, e3, e4, e5, e6⟩ := (show At7 38 (w2.alloc (.cells #[.int .i64 0, .bool false, .int .i64 0, .int .i64 0, .int .i64 0, .int .i64 0, .slice none 0 0] 38)).drew w2.heap.size (.int .i64 0) (.bool false) (.int .i64 0) (.int .i64 0) (.int .i64 0) (.int .i64 0) (.slice none 0 0) from hA).frees
      go_cut [6] (fun z6 wx => ∃ r, z6 = .pointer (some ⟨r, 0, none⟩) ∧ g2 < r ∧ At7 38 wx r (.int .i64 src) (.bool true) (.int .i64 0) (.int .i64 0) (.int .i64 0) (.int .i64 0) (.slice none 0 0) ∧ BoxAt wx g ⟨count, 200, s⟩ ∧ At7 38 wx g2 (.int .i64 0) (.bool false) (.int .i64 0) (.int .i64 0) (.int .i64 0) (.int .i64 0) (.slice none 0 0) ∧ Below g w wx)
      case first =>
        go_region_law (first | (go_simp; go_at_call 65; refine (HG0.out _).mono ?_; rintro e w' ⟨rfl, rfl⟩))
        all_goals
          go_wp2_with fail
          go_meet
          exact ⟨w2.heap.size, rfl, hw2, At7.drew (at7_new _ _ _ _ _ _ _ _ _), BoxAt.drew (hX2.alloc _), At7.drew (hY2.alloc _), (hb2.alloc (by omega) _).drew⟩
      case rest =>
      obtain ⟨r, rfl, hgr, hR5, hX5, hY5, hb5⟩ := hcut
      rename World => w5
      clear hX2 hY2 hb2 hw2 hgw hA a0 a1 a2 a3 a4 a5 a6 e0 e1 e2 e3 e4 e5 e6 x0 x1 x2 HG0
      have hv5 := World.ownsRow_nil w5 g 126 7
      obtain ⟨x0, x1, x2, _⟩ := boxAt_S hX5
      obtain ⟨r0, r1, r2, r3, r4, r5, r6⟩ := hR5.cells
      have h24 : (24 : Int) ≤ (s.size : Int) := by have := HS.out; omega
      have HGa := Lib.hid (fun W => get_at s 4 8 (by decide) W)
      by_cases hhi : 256 < gN s 4 8
      · have hhi2 : (256 : Int) < (gN s 4 8 : Int) := by omega
        have HM := Lib.hid (clk_hi s count.toNat hhi)
        clear hhi
        go_wp2_with fail
        refine (HGa.out _).mono ?_
        rintro e w' ⟨rfl, rfl⟩
        obtain ⟨y0, y1, y2, y3, y4, y5, y6⟩ := hY5.cells
        obtain ⟨f0, f1, f2, f3, f4, f5, f6⟩ := hY5.frees
        have hZz := at7_store (.int .i64 0) (.bool false) (.int .i64 0) (.int .i64 0) (.int .i64 0) (.int .i64 0) (.slice none 0 0) hY5
        have hoz := store7_only w5 g2 (.int .i64 0) (.bool false) (.int .i64 0) (.int .i64 0) (.int .i64 0) (.int .i64 0) (.slice none 0 0)
        have hbz := hb5.trans (hoz.below hgB)
        have HEV := Lib.hid (show ofE ⟨count, 200, s⟩ = 6 from ofE_6 _ _ _ (by decide) (by show s.size = 24 + 24 * count.toNat; rw [← HNC.out]; exact HS.out) HM.out)
        go_wp2_with fail
        generalize ((((((w5.setCell ⟨g2, 0, none⟩ (.int .i64 0)).setCell ⟨g2, 1, none⟩ (.bool false)).setCell ⟨g2, 2, none⟩ (.int .i64 0)).setCell ⟨g2, 3, none⟩ (.int .i64 0)).setCell ⟨g2, 4, none⟩ (.int .i64 0)).setCell ⟨g2, 5, none⟩ (.int .i64 0)).setCell ⟨g2, 6, none⟩ (.slice none 0 0) = wz at hZz hoz hbz ⊢
        obtain ⟨d0, d1, d2, d3, d4, d5, d6⟩ := hZz.cells
        clear f0 f1 f2 f3 f4 f5 f6 y0 y1 y2 y3 y4 y5 y6
        refine bodyPost_ret (v := .tuple #[.agg #[.int .i64 0, .bool false, .int .i64 0, .int .i64 0, .int .i64 0, .int .i64 0, .slice none 0 0], .int .i64 6]) (by simp [results, Try.results18, go_sem, d0, d1, d2, d3, d4, d5, d6]) rfl (refOfd_err _ _ _ 6 HEV.out (by decide) (by rw [HG.out]; exact hbz))

      · have hhi2 : ¬ (256 : Int) < (gN s 4 8 : Int) := by omega
        obtain ⟨hck, hcb⟩ := clk_lo s count.toNat (by omega) (by omega)
        have HGb := Lib.hid (fun W => get8_any (s.extract 4 12) W (by rw [ByteArray.size_extract]; omega) hcb)
        have HGc := Lib.hid (fun W => get_at s 12 16 (by decide) W)
        have HGd := Lib.hid (fun W => get_at s 16 20 (by decide) W)
        have HGe := Lib.hid (fun W => get_at s 20 24 (by decide) W)
        obtain ⟨ck, hck2⟩ : ∃ ck : Int, ((getN (by_ (s.extract 4 12)) : Nat) : Int) = ck := ⟨_, rfl⟩
        obtain ⟨tm, htm⟩ : ∃ tm : Int, ((gN s 12 16 : Nat) : Int) = tm := ⟨_, rfl⟩
        obtain ⟨pk, hpk⟩ : ∃ pk : Int, ((gN s 16 20 : Nat) : Int) = pk := ⟨_, rfl⟩
        obtain ⟨by1, hby1⟩ : ∃ by1 : Int, ((gN s 20 24 : Nat) : Int) = by1 := ⟨_, rfl⟩
        rw [hck2] at HGb
        rw [htm] at HGc
        rw [hpk] at HGd
        rw [hby1] at HGe
        have HQ : Hid (rpAt true s count.toNat = ⟨src, true, ck, tm, pk, by1, (List.range count.toNat).map fun i => bkAt s (24 + 24 * i)⟩) := Lib.hid (by
          have e1 : (rpAt true s count.toNat).clock = ck := hck.trans hck2
          have e2 : rpAt true s count.toNat = ⟨((gN s 0 4 : Nat) : Int), true, (rpAt true s count.toNat).clock, ((gN s 12 16 : Nat) : Int), ((gN s 16 20 : Nat) : Int), ((gN s 20 24 : Nat) : Int), (List.range count.toNat).map fun i => bkAt s (24 + 24 * i)⟩ := by
            unfold rpAt
            simp only [if_true]
            rfl
          rw [e2, e1, HSRC.out, htm, hpk, hby1])
        clear hck hck2 htm hpk hby1 hhi hcb HSRC
        go_wp2_with fail
        refine (HGa.out _).mono ?_
        rintro e w' ⟨rfl, rfl⟩
        go_wp2_with fail
        refine (HGb.out _).mono ?_
        rintro e w' ⟨rfl, rfl⟩
        have f2 := hR5.free 2
        have hR6 : At7 38 (w5.setCell ⟨r, 2, none⟩ (.int .i64 ck)) r (.int .i64 src) (.bool true) (.int .i64 ck) (.int .i64 0) (.int .i64 0) (.int .i64 0) (.slice none 0 0) := block_setCell hR5
        have ho6 := (Only.refl r w5).setCell 2 (.int .i64 ck)
        have hX6 : BoxAt (w5.setCell ⟨r, 2, none⟩ (.int .i64 ck)) g ⟨count, 200, s⟩ := (ho6.block g (by omega)).trans hX5
        have hY6 := hY5.only (b := r) (by omega) ho6
        have hb6 := hb5.trans (ho6.below (by omega))
        go_upto_region 16 with fail
        generalize w5.setCell ⟨r, 2, none⟩ (.int .i64 ck) = w6 at hR6 hX6 hY6 hb6 ⊢
        clear hR5 hX5 hY5 hb5 ho6 f2 x0 x1 x2 r0 r1 r2 r3 r4 r5 r6 hv5
        obtain ⟨x0, x1, x2, _⟩ := boxAt_S hX6
        obtain ⟨r0, r1, r2, r3, r4, r5, r6⟩ := hR6.cells
        go_wp2_with fail
        refine (HGc.out _).mono ?_
        rintro e w' ⟨rfl, rfl⟩
        have f3 := hR6.free 3
        have hR7 : At7 38 (w6.setCell ⟨r, 3, none⟩ (.int .i64 tm)) r (.int .i64 src) (.bool true) (.int .i64 ck) (.int .i64 tm) (.int .i64 0) (.int .i64 0) (.slice none 0 0) := block_setCell hR6
        have ho7 := (Only.refl r w6).setCell 3 (.int .i64 tm)
        have hX7 : BoxAt (w6.setCell ⟨r, 3, none⟩ (.int .i64 tm)) g ⟨count, 200, s⟩ := (ho7.block g (by omega)).trans hX6
        have hY7 := hY6.only (b := r) (by omega) ho7
        have hb7 := hb6.trans (ho7.below (by omega))
        go_upto_region 17 with fail
        generalize w6.setCell ⟨r, 3, none⟩ (.int .i64 tm) = w7 at hR7 hX7 hY7 hb7 ⊢
        clear hR6 hX6 hY6 hb6 ho7 f3 x0 x1 x2 r0 r1 r2 r3 r4 r5 r6 
        obtain ⟨x0, x1, x2, _⟩ := boxAt_S hX7
        obtain ⟨r0, r1, r2, r3, r4, r5, r6⟩ := hR7.cells
        go_wp2_with fail
        refine (HGd.out _).mono ?_
        rintro e w' ⟨rfl, rfl⟩
        have f4 := hR7.free 4
        have hR8 : At7 38 (w7.setCell ⟨r, 4, none⟩ (.int .i64 pk)) r (.int .i64 src) (.bool true) (.int .i64 ck) (.int .i64 tm) (.int .i64 pk) (.int .i64 0) (.slice none 0 0) := block_setCell hR7
        have ho8 := (Only.refl r w7).setCell 4 (.int .i64 pk)
        have hX8 : BoxAt (w7.setCell ⟨r, 4, none⟩ (.int .i64 pk)) g ⟨count, 200, s⟩ := (ho8.block g (by omega)).trans hX7
        have hY8 := hY7.only (b := r) (by omega) ho8
        have hb8 := hb7.trans (ho8.below (by omega))
        go_upto_region 18 with fail
        generalize w7.setCell ⟨r, 4, none⟩ (.int .i64 pk) = w8 at hR8 hX8 hY8 hb8 ⊢
        clear hR7 hX7 hY7 hb7 ho8 f4 x0 x1 x2 r0 r1 r2 r3 r4 r5 r6 
        obtain ⟨x0, x1, x2, _⟩ := boxAt_S hX8
        obtain ⟨r0, r1, r2, r3, r4, r5, r6⟩ := hR8.cells
        go_wp2_with fail
        refine (HGe.out _).mono ?_
        rintro e w' ⟨rfl, rfl⟩
        have f5 := hR8.free 5
        have hR9 : At7 38 (w8.setCell ⟨r, 5, none⟩ (.int .i64 by1)) r (.int .i64 src) (.bool true) (.int .i64 ck) (.int .i64 tm) (.int .i64 pk) (.int .i64 by1) (.slice none 0 0) := block_setCell hR8
        have ho9 := (Only.refl r w8).setCell 5 (.int .i64 by1)
        have hX9 : BoxAt (w8.setCell ⟨r, 5, none⟩ (.int .i64 by1)) g ⟨count, 200, s⟩ := (ho9.block g (by omega)).trans hX8
        have hY9 := hY8.only (b := r) (by omega) ho9
        have hb9 := hb8.trans (ho9.below (by omega))
        go_upto_region 19 with fail
        generalize w8.setCell ⟨r, 5, none⟩ (.int .i64 by1) = w9 at hR9 hX9 hY9 hb9 ⊢
        clear hR8 hX8 hY8 hb8 ho9 f5 x0 x1 x2 r0 r1 r2 r3 r4 r5 r6 
        obtain ⟨x0, x1, x2, _⟩ := boxAt_S hX9
        obtain ⟨r0, r1, r2, r3, r4, r5, r6⟩ := hR9.cells
        have hv9 := World.ownsRow_nil w9 g 126 7
        clear HGa HGb HGc HGd HGe
        go_wp2_with fail
        go_loopw [7] (fun i wr => ∃ (k : Nat) (v : Value), i = .int .i64 k ∧ k ≤ n ∧ At7 38 wr r (.int .i64 src) (.bool true) (.int .i64 ck) (.int .i64 tm) (.int .i64 pk) (.int .i64 by1) v ∧ wr.ownsRow g 126 7 v ((List.range k).map fun i => bkAt s (24 + 24 * i)).length (rbksV ((List.range k).map fun i => bkAt s (24 + 24 * i))) ∧ BoxAt wr g ⟨count, 200, s⟩ ∧ At7 38 wr g2 (.int .i64 0) (.bool false) (.int .i64 0) (.int .i64 0) (.int .i64 0) (.int .i64 0) (.slice none 0 0) ∧ Below g w wr) (fun i _ => n - (intOf i).toNat)
        case atStart => exact ⟨0, .slice none 0 0, rfl, Nat.zero_le _, hR9, hv9, hX9, hY9, hb9⟩
        case round =>
          obtain ⟨k, v, rfl, hk, hRz, hvz, hXz, hYz, hbbz⟩ := hrel
          clear hR9 hv9 hX9 hY9 hb9 x0 x1 x2 r0 r1 r2 r3 r4 r5 r6
          obtain ⟨x0, x1, x2, _⟩ := boxAt_S hXz
          obtain ⟨r0, r1, r2, r3, r4, r5, r6⟩ := hRz.cells
          by_cases hlt : k < n
          · obtain ⟨nl, hbk⟩ := blkOf_at s (24 + 24 * k) (by have := HS.out; omega)
            have hll : ((List.range k).map fun i => bkAt s (24 + 24 * i)).length ≤ 1000 := by simp; omega
            have HSn : Hid (((List.range (k + 1)).map fun i => bkAt s (24 + 24 * i)) = ((List.range k).map fun i => bkAt s (24 + 24 * i)) ++ [bkAt s (24 + 24 * k)]) := Lib.hid (by simp [List.range_succ])
            have hts : (s.extract (24 + 24 * k) (24 + 24 * k + 24)).size = 24 := by rw [ByteArray.size_extract]; have := HS.out; omega
            generalize bkAt s (24 + 24 * k) = p at hbk HSn
            generalize hll2 : ((List.range k).map fun i => bkAt s (24 + 24 * i)) = l at hvz hll HSn
            clear hll2
            obtain ⟨t, ht⟩ : ∃ t, s.extract (24 + 24 * k) (24 + 24 * k + 24) = t := ⟨_, rfl⟩
            have HT := Lib.hid ht
            rw [ht] at hbk hts
            clear ht
            obtain ⟨q0, q1, q2, q3, q4, q5, q6, q7, q8⟩ := hbk
            have G0 := fun W => get_at t 0 4 (by decide) W
            have G1 := fun W => get_at t 4 5 (by decide) W
            have G2 := fun W => get_at t 5 8 (by decide) W
            have G3 := fun W => get_at t 8 12 (by decide) W
            have G4 := fun W => get_at t 12 16 (by decide) W
            have G5 := fun W => get_at t 16 20 (by decide) W
            have G6 := fun W => get_at t 20 24 (by decide) W
            rw [q0] at G0
            rw [q1] at G1
            rw [q2] at G2
            rw [q5] at G3
            rw [q6] at G4
            rw [q7] at G5
            rw [q8] at G6
            have H0 := Lib.hid G0
            have H1 := Lib.hid G1
            have H2 := Lib.hid G2
            have H3 := Lib.hid G3
            have H4 := Lib.hid G4
            have H5 := Lib.hid G5
            have H6 := Lib.hid G6
            clear q0 q1 q2 q5 q6 q7 q8 G0 G1 G2 G3 G4 G5 G6
            have hk1 : (0 : Int) ≤ 24 + 24 * (k : Int) := by omega
            have hk2 : 24 + 24 * (k : Int) + 24 ≤ (s.size : Int) := by have := HS.out; omega
            go_upto_region 23 with fail
            rw [HT.out]
            clear HT hk1 hk2
            go_wp2_with fail
            refine (H2.out _).mono ?_
            rintro e w' ⟨rfl, rfl⟩
            go_upto_if 101 with fail
            go_cut [9] (fun z9 wx => z9 = .int .i64 p.lost ∧ wx = wr)
            case first =>
              by_cases hsg : (8388607 : Int) < (nl : Int)
              · have hLv : Hid ((nl : Int) - 16777216 = p.lost) := Lib.hid (by rw [← q4]; unfold sgn; rw [if_pos hsg])
                clear q4
                go_wp2_with fail
                go_meet
                exact ⟨by rw [hLv.out], rfl⟩
              · have hLv : Hid ((nl : Int) = p.lost) := Lib.hid (by rw [← q4]; unfold sgn; rw [if_neg hsg])
                clear q4
                go_wp2_with fail
                go_meet
                exact ⟨by rw [hLv.out], rfl⟩
            case rest =>
            obtain ⟨rfl, rfl⟩ := hcut
            rename World => wr
            clear q3 q4 H2
            have hgr2 : g ≤ wr.heap.size := by have : wr.heap[g]? = _ := hXz; have := lt_of_block this; omega
            have hrl := hRz.lt
            go_upto_region 26 with fail
            go_region_law (first | (refine step_rblk rfl (.tmp 105) (.tmp 126) rfl g r v l p _ _ _ _ _ _ (show At7 38 wr.drew r _ _ _ _ _ _ _ from hRz) hvz.drew hgr2 hll rfl rfl ?_; intro ad3 cq w10 H10 hc10 hf10) | (go_simp; go_at_call_of 65 (Value.string (t.extract 0 4)); refine (H0.out _).mono ?_; rintro e w' ⟨rfl, rfl⟩) | (go_simp; go_at_call_of 65 (Value.string (t.extract 4 5)); refine (H1.out _).mono ?_; rintro e w' ⟨rfl, rfl⟩) | (go_simp; go_at_call_of 65 (Value.string (t.extract 8 12)); refine (H3.out _).mono ?_; rintro e w' ⟨rfl, rfl⟩) | (go_simp; go_at_call_of 65 (Value.string (t.extract 12 16)); refine (H4.out _).mono ?_; rintro e w' ⟨rfl, rfl⟩) | (go_simp; go_at_call_of 65 (Value.string (t.extract 16 20)); refine (H5.out _).mono ?_; rintro e w' ⟨rfl, rfl⟩) | (go_simp; go_at_call_of 65 (Value.string (t.extract 20 24)); refine (H6.out _).mono ?_; rintro e w' ⟨rfl, rfl⟩))
            all_goals
              obtain ⟨hv10, hk10, hbl10⟩ := H10.out
              have hR10 : At7 38 w10 r (.int .i64 src) (.bool true) (.int .i64 ck) (.int .i64 tm) (.int .i64 pk) (.int .i64 by1) v := hk10 _ _ hRz (by intro cur p e; cases e)
              have hX10 : BoxAt w10 g ⟨count, 200, s⟩ := hk10 _ _ hXz (by intro cur p e; cases e)
              have hY10 : At7 38 w10 g2 (.int .i64 0) (.bool false) (.int .i64 0) (.int .i64 0) (.int .i64 0) (.int .i64 0) (.slice none 0 0) := hk10 _ _ hYz (by intro cur p e; cases e)
              have hb10 := hbl10 _ _ (Nat.le_refl _) hbbz.drew
              have hR11 : At7 38 (w10.setCell ⟨r, 6, none⟩ (.slice ad3 (l.length + 1) cq)) r (.int .i64 src) (.bool true) (.int .i64 ck) (.int .i64 tm) (.int .i64 pk) (.int .i64 by1) (.slice ad3 (l.length + 1) cq) := block_setCell hR10
              have ho11 := (Only.refl r w10).setCell 6 (.slice ad3 (l.length + 1) cq)
              have hX11 : BoxAt (w10.setCell ⟨r, 6, none⟩ (.slice ad3 (l.length + 1) cq)) g ⟨count, 200, s⟩ := (ho11.block g (by omega)).trans hX10
              have hY11 := hY10.only (b := r) (by omega) ho11
              have hb11 := hb10.trans (ho11.below (by omega))
              have hv11 := own7_store (i := 6) (u := .slice ad3 (l.length + 1) cq) hv10 hR10 (by decide)
              clear H10 hc10 hf10 hv10 hR10 hX10 hY10 hb10 hk10 hbl10 ho11 x0 x1 x2 r0 r1 r2 r3 r4 r5 r6 hRz hvz hXz hYz hbbz
              go_wp2
              go_roundw
              case rel => exact ⟨k + 1, _, by go_num, by omega, hR11, by rw [HSn.out, List.length_append]; exact hv11, hX11, hY11, hb11⟩
              case measure => simp [intOf]; omega
          · have hkn : k = count.toNat := by have := HNC.out; omega
            have hlb : Hid (((List.range count.toNat).map fun i => bkAt s (24 + 24 * i)) = ((List.range k).map fun i => bkAt s (24 + 24 * i))) := Lib.hid (by rw [hkn])
            have HL12 : Hid (((List.range k).map fun i => bkAt s (24 + 24 * i)).length ≤ 12) := Lib.hid (by simp; omega)
            generalize ((List.range k).map fun i => bkAt s (24 + 24 * i)) = l at hvz hlb HL12
            have HQK := Lib.hid (show rpAt true s count.toNat = ⟨src, true, ck, tm, pk, by1, l⟩ by rw [HQ.out, hlb.out])
            clear hkn
            obtain ⟨av, cv, rfl, _, _, _, hrd⟩ := own_readsRB hvz
            have HC := Lib.hid (fun (W : World) (hb : Below wr.heap.size wr W) b hv => rpRefMay_any ⟨src, true, ck, tm, pk, by1, l⟩ av cv W (hrd.later hb) (by have := HL12.out; show l.length ≤ _; omega) b hv)
            simp only at HC
            clear hrd
            have hgx : g < wr.heap.size := by have : wr.heap[g]? = _ := hXz; exact lt_of_block this
            by_cases hmay : rpMay ⟨src, true, ck, tm, pk, by1, l⟩
            · have HEV := Lib.hid (show ofE ⟨count, 200, s⟩ = 0 from ofE_0 _ _ _ (by decide) (by show s.size = 24 + 24 * count.toNat; rw [← HNC.out]; exact HS.out) (by show rpMay (rpAt true s count.toNat); rw [HQK.out]; exact hmay))
              have HC0 := Lib.hid (fun (W : World) (hb : Below wr.heap.size wr W) => HC.out W hb true (by simp [hmay]))
              clear hmay HC
              go_wp2_with fail
              refine (HC0.out _ (Below.refl _ _)).mono ?_
              rintro e w8 ⟨rfl, hb8⟩
              have hv8 := own_laterN hvz hb8
              have hR8 := hRz.later hb8
              have hY8 := hYz.later hb8
              have hbb8 := hbbz.trans (hb8.mono (by omega))
              clear hRz hXz hYz hbbz hb8 x0 x1 x2 r0 r1 r2 r3 r4 r5 r6 hvz HC0
              obtain ⟨r0, r1, r2, r3, r4, r5, r6⟩ := hR8.cells
              obtain ⟨y0, y1, y2, y3, y4, y5, y6⟩ := hY8.cells
              obtain ⟨f0, f1, f2, f3, f4, f5, f6⟩ := hY8.frees
              have hZz := at7_store (.int .i64 src) (.bool true) (.int .i64 ck) (.int .i64 tm) (.int .i64 pk) (.int .i64 by1) (.slice av l.length cv) hY8
              have hoz := store7_only w8 g2 (.int .i64 src) (.bool true) (.int .i64 ck) (.int .i64 tm) (.int .i64 pk) (.int .i64 by1) (.slice av l.length cv)
              have hbz := hbb8.trans (hoz.below hgB)
              have HRDz := Lib.hid (own_readsRB' (own_onlyM hv8 hY8 (by decide) hoz))
              go_wp2_with fail
              generalize ((((((w8.setCell ⟨g2, 0, none⟩ (.int .i64 src)).setCell ⟨g2, 1, none⟩ (.bool true)).setCell ⟨g2, 2, none⟩ (.int .i64 ck)).setCell ⟨g2, 3, none⟩ (.int .i64 tm)).setCell ⟨g2, 4, none⟩ (.int .i64 pk)).setCell ⟨g2, 5, none⟩ (.int .i64 by1)).setCell ⟨g2, 6, none⟩ (.slice av l.length cv) = wz at hZz hoz hbz HRDz ⊢
              obtain ⟨d0, d1, d2, d3, d4, d5, d6⟩ := hZz.cells
              clear f0 f1 f2 f3 f4 f5 f6 y0 y1 y2 y3 y4 y5 y6 r0 r1 r2 r3 r4 r5 r6
              refine bodyPost_ret (v := .tuple #[.agg #[.int .i64 src, .bool true, .int .i64 ck, .int .i64 tm, .int .i64 pk, .int .i64 by1, .slice av l.length cv], .int .i64 0]) (by simp [results, Try.results18, go_sem, d0, d1, d2, d3, d4, d5, d6]) rfl (refOfd_ok _ _ _ ⟨src, true, ck, tm, pk, by1, l⟩ av cv HEV.out (by show rpAt true s count.toNat = _; exact HQK.out) HRDz.out (by rw [HG.out]; exact hbz))
            · have HEV0 := Lib.hid (show ofE ⟨count, 200, s⟩ = 6 from ofE_6 _ _ _ (by decide) (by show s.size = 24 + 24 * count.toNat; rw [← HNC.out]; exact HS.out) (by show ¬ rpMay (rpAt true s count.toNat); rw [HQK.out]; exact hmay))
              have HC0 := Lib.hid (fun (W : World) (hb : Below wr.heap.size wr W) => HC.out W hb false (by simp [hmay]))
              clear hmay HC
              go_wp2_with fail
              refine (HC0.out _ (Below.refl _ _)).mono ?_
              rintro e w8 ⟨rfl, hb8⟩
              have hY8 := hYz.later hb8
              have hbb8 := hbbz.trans (hb8.mono (by omega))
              clear hRz hXz hYz hbbz hb8 x0 x1 x2 r0 r1 r2 r3 r4 r5 r6 hvz HC0
              obtain ⟨y0, y1, y2, y3, y4, y5, y6⟩ := hY8.cells
              obtain ⟨f0, f1, f2, f3, f4, f5, f6⟩ := hY8.frees
              have hZz := at7_store (.int .i64 0) (.bool false) (.int .i64 0) (.int .i64 0) (.int .i64 0) (.int .i64 0) (.slice none 0 0) hY8
              have hoz := store7_only w8 g2 (.int .i64 0) (.bool false) (.int .i64 0) (.int .i64 0) (.int .i64 0) (.int .i64 0) (.slice none 0 0)
              have hbz := hbb8.trans (hoz.below hgB)
              have HEV := Lib.hid (show ofE ⟨count, 200, s⟩ = 6 from HEV0.out)
              go_wp2_with fail
              generalize ((((((w8.setCell ⟨g2, 0, none⟩ (.int .i64 0)).setCell ⟨g2, 1, none⟩ (.bool false)).setCell ⟨g2, 2, none⟩ (.int .i64 0)).setCell ⟨g2, 3, none⟩ (.int .i64 0)).setCell ⟨g2, 4, none⟩ (.int .i64 0)).setCell ⟨g2, 5, none⟩ (.int .i64 0)).setCell ⟨g2, 6, none⟩ (.slice none 0 0) = wz at hZz hoz hbz ⊢
              obtain ⟨d0, d1, d2, d3, d4, d5, d6⟩ := hZz.cells
              clear f0 f1 f2 f3 f4 f5 f6 y0 y1 y2 y3 y4 y5 y6
              refine bodyPost_ret (v := .tuple #[.agg #[.int .i64 0, .bool false, .int .i64 0, .int .i64 0, .int .i64 0, .int .i64 0, .slice none 0 0], .int .i64 6]) (by simp [results, Try.results18, go_sem, d0, d1, d2, d3, d4, d5, d6]) rfl (refOfd_err _ _ _ 6 HEV.out (by decide) (by rw [HG.out]; exact hbz))
end Go.Proofs.Ytkchhiiomahbaaa

