/- report's law: awake. -/
import Derived.Test.YtkchhiiomahbaaaMRpA
import Derived.Test.YtkchhiiomahbaaaMb
namespace Go.Proofs.Ytkchhiiomahbaaa
open Go.RowKit
set_option linter.unusedVariables false
def awR : RP := ⟨1, false, 0, 0, 0, 0, []⟩
theorem awR_may : rpMay awR := by decide
def awB : ByteArray := { data := #[0, 0, 0, 1] }
theorem awB_be : ofL ([] ++ bes [1] 4) = awB := by kernel_rfl
set_option maxRecDepth 100000 in
set_option maxHeartbeats 1600000 in
theorem awPiece_any (w : World) :
    Calls Try.prog 21 #[.agg #[.int .u32 1, .bool false, .int .i64 0, .int .u32 0, .int .u32 0, .int .u32 0, .slice none 0 0]] w fun e w' =>
      e = .returned (.agg #[.int .i64 0, .int .i64 201, .string awB]) ∧ Below w.heap.size w w' := by
  have HC := Lib.hid (fun W => rpCheck_any awR none 0 W (.inl rfl) (by decide) 0 (.inl ⟨rfl, awR_may⟩))
  unfold awR at HC
  simp only [List.length_nil] at HC
  have hX1 := at7_new 31 w (.int .u32 1) (.bool false) (.int .i64 0) (.int .u32 0) (.int .u32 0) (.int .u32 0) (.slice none 0 0)
  have hX2 := hX1.alloc (.cells #[.int .i64 0, .int .i64 0, .string { data := #[] }] 35)
  have hY2 := pc_new (w.alloc (.cells #[.int .u32 1, .bool false, .int .i64 0, .int .u32 0, .int .u32 0, .int .u32 0, .slice none 0 0] 31)) zeroPC
  have hb2 : Below w.heap.size w ((w.alloc (.cells #[.int .u32 1, .bool false, .int .i64 0, .int .u32 0, .int .u32 0, .int .u32 0, .slice none 0 0] 31)).alloc (.cells #[.int .i64 0, .int .i64 0, .string { data := #[] }] 35)) := by go_grown
  have hne : (w.alloc (.cells #[.int .u32 1, .bool false, .int .i64 0, .int .u32 0, .int .u32 0, .int .u32 0, .slice none 0 0] 31)).heap.size = w.heap.size + 1 := by simp
  rw [hne] at hY2
  unfold zeroPC at hY2
  simp only at hY2
  clear hX1 hne
  go_enter Try.func21, Try.ntmps21
  go_upto_region 1 with fail
  generalize (w.alloc (.cells #[.int .u32 1, .bool false, .int .i64 0, .int .u32 0, .int .u32 0, .int .u32 0, .slice none 0 0] 31)).alloc (.cells #[.int .i64 0, .int .i64 0, .string { data := #[] }] 35) = w2 at hX2 hY2 hb2 ⊢
  have hgB : w.heap.size ≤ w.heap.size + 1 := by omega
  have hgn : w.heap.size ≠ w.heap.size + 1 := by omega
  generalize hg2 : w.heap.size + 1 = g2 at hY2 hgB hgn ⊢
  generalize hg : w.heap.size = g at hX2 hb2 hgB hgn ⊢
  have HG := Lib.hid hg
  clear hg2 hg
  obtain ⟨x0, x1, x2, x3, x4, x5, x6⟩ := hX2.cells
  go_wp2_with fail
  refine (HC.out _).mono ?_
  rintro e w3 ⟨rfl, hb3⟩
  have hX3 := hX2.later hb3
  have hY3 := hY2.later hb3
  have hbb3 := hb2.trans (hb3.mono (by have := hX2.lt; omega))
  clear hX2 hY2 hb2 hb3 x0 x1 x2 x3 x4 x5 x6 HC
  obtain ⟨x0, x1, x2, x3, x4, x5, x6⟩ := hX3.cells
  have hg3 := hX3.lt
  have hO := out_new w3 w3.heap.size (Nat.le_refl _)
  have hX4 := hX3.alloc (.cells #[.slice none 0 0] 130)
  have hY4 := hY3.alloc (.cells #[.slice none 0 0] 130)
  have hbb4 := hbb3.alloc (by omega) (.cells #[.slice none 0 0] 130)
  have hgo : g < w3.heap.size := hg3
  have hw4 : Hid (w3.heap.size + 1 = (w3.alloc (.cells #[.slice none 0 0] 130)).heap.size) := Lib.hid (by simp)
  have hg2o : g2 < w3.heap.size := hY3.lt
  go_wp2_with fail
  generalize w3.alloc (.cells #[.slice none 0 0] 130) = w4 at hO hX4 hY4 hbb4 hw4 ⊢
  obtain ⟨bo, hbo⟩ : ∃ bo, w3.heap.size = bo := ⟨_, rfl⟩
  rw [hbo] at hO hgo hg2o hw4 ⊢
  clear hbo x0 x1 x2 x3 x4 x5 x6 hX3 hY3 hbb3 hg3
  refine (u32_lit bo bo _ [] [1] #[.int .u32 1] 1 (bo + 1) w4 hw4.out hO rfl rfl (by decide) (by decide)).mono ?_
  rintro e w5 ⟨rfl, v5, hO5, hb5, ho5⟩
  have hX5 : At7 31 w5 g (.int .u32 1) (.bool false) (.int .i64 0) (.int .u32 0) (.int .u32 0) (.int .u32 0) (.slice none 0 0) := ho5 _ _ hX4 (by omega) (by intro cur p e; cases e)
  have hY5 := hY4.others (by omega) ho5
  have hbb5 : Below g w w5 := hbb4.trans (hb5.mono (by omega))
  clear hX4 hY4 hbb4 hO hb5 ho5 hw4
  obtain ⟨x0, x1, x2, x3, x4, x5, x6⟩ := hX5.cells
  go_wp2_with fail
  go_loopw [25] (fun i wr => i = .int .i64 0 ∧ At7 31 wr g (.int .u32 1) (.bool false) (.int .i64 0) (.int .u32 0) (.int .u32 0) (.int .u32 0) (.slice none 0 0) ∧ PcAt wr g2 ⟨0, 0, { data := #[] }⟩ ∧ OutAt wr bo bo v5 ([] ++ bes [1] 4) ∧ Below g w wr) (fun _ _ => 0)
  case atStart => exact ⟨rfl, hX5, hY5, hO5, hbb5⟩
  case round =>
    obtain ⟨rfl, hX6, hY6, hO6, hbb6⟩ := hrel
    clear hX5 hY5 hO5 hbb5 x0 x1 x2 x3 x4 x5 x6
    have HBy := Lib.hid (bytes_any bo bo v5 _ wr hO6)
    rw [awB_be] at HBy
    obtain ⟨x0, x1, x2, x3, x4, x5, x6⟩ := hX6.cells
    obtain ⟨y0, y1, y2, _⟩ := pcAt_S hY6
    have f0 : wr.frozen? ⟨g2, 0, none⟩ = false := by simp [World.frozen?, show wr.heap[g2]? = _ from hY6]
    have f1 : wr.frozen? ⟨g2, 1, none⟩ = false := by simp [World.frozen?, show wr.heap[g2]? = _ from hY6]
    have f2 : wr.frozen? ⟨g2, 2, none⟩ = false := by simp [World.frozen?, show wr.heap[g2]? = _ from hY6]
    go_wp2_with fail
    go_region_law (first | (go_simp; go_at_call 69; refine HBy.out.mono ?_; rintro e w' ⟨rfl, rfl⟩) | (go_simp; go_at_call 69; refine (bytes_any bo bo v5 _ wr.drew hO6.drew).mono ?_; rw [awB_be]; rintro e w' ⟨rfl, rfl⟩))
    all_goals
      have hI : ∀ V : World, PcAt V g2 ⟨0, 0, { data := #[] }⟩ → PcAt (((V.setCell ⟨g2, 0, none⟩ (.int .i64 0)).setCell ⟨g2, 1, none⟩ (.int .i64 201)).setCell ⟨g2, 2, none⟩ (.string awB)) g2 ⟨0, 201, awB⟩ := fun V h => block_setCell (i := 2) (u := .string awB) (block_setCell (i := 1) (u := .int .i64 201) (block_setCell (i := 0) (u := .int .i64 0) h))
      have hz := hI _ hY6
      have hbz := (((hbb6.setCell (p := ⟨g2, 0, none⟩) hgB (.int .i64 0)).setCell (p := ⟨g2, 1, none⟩) hgB (.int .i64 201)).setCell (p := ⟨g2, 2, none⟩) hgB (.string awB))
      clear hI
      go_wp2
      generalize ((wr.setCell ⟨g2, 0, none⟩ (.int .i64 0)).setCell ⟨g2, 1, none⟩ (.int .i64 201)).setCell ⟨g2, 2, none⟩ (.string awB) = wz at hz hbz ⊢
      obtain ⟨d0, d1, d2, _⟩ := pcAt_S hz
      refine bodyPost_ret (v := .agg #[.int .i64 0, .int .i64 201, .string awB]) (by simp [results, Try.results21, go_sem, d0, d1, d2]) rfl ⟨rfl, by rw [HG.out]; first | exact hbz | exact hbz.drew⟩
def zrep : Array Value := #[.int .u32 0, .bool false, .int .i64 0, .int .u32 0, .int .u32 0, .int .u32 0, .slice none 0 0]
set_option maxRecDepth 100000 in
set_option maxHeartbeats 3200000 in
theorem awOf_any (w : World) :
    Calls Try.prog 17 #[.agg #[.int .i64 0, .int .i64 201, .string awB]] w fun e w' =>
      e = .returned (.tuple #[.agg #[.int .u32 1, .bool false, .int .i64 0, .int .u32 0, .int .u32 0, .int .u32 0, .slice none 0 0], .int .i64 0]) ∧ Below w.heap.size w w' := by
  have HC := Lib.hid (fun W => rpCheck_any awR none 0 W (.inl rfl) (by decide) 0 (.inl ⟨rfl, awR_may⟩))
  unfold awR at HC
  simp only [List.length_nil] at HC
  have h4 : rd (stA awB 0) 4 = stA awB 4 := rd_at awB 0 4 (by decide)
  have hv : getN (by_ (rawT (stA awB 0).1 4)) = 1 := by kernel_rfl
  have he : endE (stA awB 4).1 (stA awB 4).2 = 0 := by kernel_rfl
  have hs0 : awB = (stA awB 0).1 := by show awB = awB.extract 0 awB.size; rw [ext_all]
  have hU := fun (b : Nat) W (h : InAt W b (stA awB 0).1 (stA awB 0).2) => u32_st b (stA awB 0) W h (by decide)
  rw [hv, h4] at hU
  have hE := fun (b : Nat) W (h : InAt W b (stA awB 4).1 (stA awB 4).2) => end_any b (stA awB 4).1 (stA awB 4).2 W h
  rw [he] at hE
  have HU := Lib.hid hU
  have HE := Lib.hid hE
  have hOf := Lib.hid (fun W => of_any awB W)
  have hNew := Lib.hid (fun (W : World) => (by have h := inAt_new awB W; rw [hs0] at h; exact h : InAt (W.alloc (.cells #[.string awB, .int .i64 0] 160)) W.heap.size (stA awB 0).1 (stA awB 0).2))
  clear hU hE h4 hv he hs0
  generalize stA awB 0 = s0 at HU hNew
  generalize stA awB 4 = s4 at HU HE
  have hX1 := pc_new w ⟨0, 201, awB⟩
  have hX2 := hX1.alloc (.cells #[.int .u32 0, .bool false, .int .i64 0, .int .u32 0, .int .u32 0, .int .u32 0, .slice none 0 0] 31)
  have hY2 := at7_new 31 (w.alloc (.cells #[.int .i64 0, .int .i64 201, .string awB] 35)) (.int .u32 0) (.bool false) (.int .i64 0) (.int .u32 0) (.int .u32 0) (.int .u32 0) (.slice none 0 0)
  have hb2 : Below w.heap.size w ((w.alloc (.cells #[.int .i64 0, .int .i64 201, .string awB] 35)).alloc (.cells #[.int .u32 0, .bool false, .int .i64 0, .int .u32 0, .int .u32 0, .int .u32 0, .slice none 0 0] 31)) := by go_grown
  have hne : (w.alloc (.cells #[.int .i64 0, .int .i64 201, .string awB] 35)).heap.size = w.heap.size + 1 := by simp
  rw [hne] at hY2
  clear hX1 hne
  go_enter Try.func17, Try.ntmps17
  go_upto_region 1 with fail
  generalize (w.alloc (.cells #[.int .i64 0, .int .i64 201, .string awB] 35)).alloc (.cells #[.int .u32 0, .bool false, .int .i64 0, .int .u32 0, .int .u32 0, .int .u32 0, .slice none 0 0] 31) = w2 at hX2 hY2 hb2 ⊢
  have hgB : w.heap.size ≤ w.heap.size + 1 := by omega
  have hgn : w.heap.size ≠ w.heap.size + 1 := by omega
  generalize hg2 : w.heap.size + 1 = g2 at hY2 hgB hgn ⊢
  generalize hg : w.heap.size = g at hX2 hb2 hgB hgn ⊢
  have HG := Lib.hid hg
  clear hg2 hg
  obtain ⟨x0, x1, x2, _⟩ := pcAt_S hX2
  go_upto_region 3 with fail
  go_wp2_with fail
  refine (hOf.out _).mono ?_
  rintro e w3 ⟨rfl, rfl⟩
  have hI3 := hNew.out w2
  have hX3 := hX2.alloc (.cells #[.string awB, .int .i64 0] 160)
  have hY3 := hY2.alloc (.cells #[.string awB, .int .i64 0] 160)
  have hb3 := hb2.alloc (by have := hX2.lt; omega) (.cells #[.string awB, .int .i64 0] 160)
  have hnb : g2 < w2.heap.size := hY2.lt
  go_upto_region 4 with fail
  generalize w2.alloc (.cells #[.string awB, .int .i64 0] 160) = w4 at hI3 hX3 hY3 hb3 ⊢
  generalize w2.heap.size = n at hI3 hnb ⊢
  clear hX2 hY2 hb2 x0 x1 x2
  obtain ⟨x0, x1, x2, _⟩ := pcAt_S hX3
  have hg4 : g < w4.heap.size := hX3.lt
  go_cut [5] (fun z5 wx => ∃ r, z5 = .pointer (some ⟨r, 0, none⟩) ∧ n < r ∧ At7 31 wx r (.int .u32 1) (.bool false) (.int .i64 0) (.int .u32 0) (.int .u32 0) (.int .u32 0) (.slice none 0 0) ∧ InAt wx n s4.1 s4.2 ∧ PcAt wx g ⟨0, 201, awB⟩ ∧ At7 31 wx g2 (.int .u32 0) (.bool false) (.int .i64 0) (.int .u32 0) (.int .u32 0) (.int .u32 0) (.slice none 0 0) ∧ Below g w wx)
  case first =>
    go_region_law (first | (go_simp; go_at_call 60; refine (HU.out n _ (show InAt w4.drew n _ _ from hI3)).mono ?_; rintro e w5 ⟨rfl, hI5, ho5⟩; have hX5 : PcAt w5 g ⟨0, 201, awB⟩ := (ho5.block g (by omega)).trans hX3; obtain ⟨_, _, _, _⟩ := pcAt_S hX5; have hY5 : At7 31 w5 g2 (.int .u32 0) (.bool false) (.int .i64 0) (.int .u32 0) (.int .u32 0) (.int .u32 0) (.slice none 0 0) := (ho5.block g2 (by omega)).trans hY3; have hb5 : Below g w w5 := hb3.drew.trans (ho5.below (by omega)); have hn5 := hI5.lt; have hg5 := hX5.lt) | (go_simp; go_at_call 60; refine (HU.out n _ (show InAt (w4.alloc (.cells #[.int .u32 0, .bool false, .int .i64 0, .int .u32 0, .int .u32 0, .int .u32 0, .slice none 0 0] 31)).drew n _ _ from hI3.alloc _)).mono ?_; rintro e w5 ⟨rfl, hI5, ho5⟩; have hX5 : PcAt w5 g ⟨0, 201, awB⟩ := (ho5.block g (by omega)).trans (hX3.alloc (.cells #[.int .u32 0, .bool false, .int .i64 0, .int .u32 0, .int .u32 0, .int .u32 0, .slice none 0 0] 31)); obtain ⟨_, _, _, _⟩ := pcAt_S hX5; have hY5 : At7 31 w5 g2 (.int .u32 0) (.bool false) (.int .i64 0) (.int .u32 0) (.int .u32 0) (.int .u32 0) (.slice none 0 0) := (ho5.block g2 (by omega)).trans (hY3.alloc (.cells #[.int .u32 0, .bool false, .int .i64 0, .int .u32 0, .int .u32 0, .int .u32 0, .slice none 0 0] 31)); have hR5 : At7 31 w5 w4.heap.size (.int .u32 0) (.bool false) (.int .i64 0) (.int .u32 0) (.int .u32 0) (.int .u32 0) (.slice none 0 0) := (ho5.block w4.heap.size (by have := hI3.lt; omega)).trans (at7_new 31 w4 _ _ _ _ _ _ _); obtain ⟨_, _, _, _, _, _, _⟩ := hR5.cells; obtain ⟨_, _, _, _, _, _, _⟩ := hR5.frees; have hb5 : Below g w w5 := (hb3.alloc (by have := hX3.lt; omega) _).drew.trans (ho5.below (by omega)); have hn5 := hI5.lt; have hg5 := hX5.lt))
    all_goals
      go_wp2_with fail
      go_meet
      first
        | (have hRz := at7_store (.int .u32 1) (.bool false) (.int .i64 0) (.int .u32 0) (.int .u32 0) (.int .u32 0) (.slice none 0 0) hR5
           have hoz := store7_only w5 w4.heap.size (.int .u32 1) (.bool false) (.int .i64 0) (.int .u32 0) (.int .u32 0) (.int .u32 0) (.slice none 0 0)
           have hIz := hI5.only (by have := hI3.lt; omega) hoz
           have hXz := (hoz.block g (by omega)).trans hX5
           have hYz := hY5.only (by have := hI3.lt; omega) hoz
           have hbz := hb5.trans (hoz.below (by omega))
           exact ⟨w4.heap.size, rfl, by have := hI3.lt; omega, hRz, hIz, hXz, hYz, hbz⟩)
        | exact ⟨w5.heap.size, rfl, by omega, at7_new _ _ _ _ _ _ _ _ _, hI5.alloc _, hX5.alloc _, hY5.alloc _, hb5.alloc (by omega) _⟩
  case rest =>
  obtain ⟨r, rfl, hnr, hR5, hI5, hX5, hY5, hb5⟩ := hcut
  rename World => w5
  clear hI3 hX3 hY3 hb3 hg4 x0 x1 x2 HU hNew hOf
  obtain ⟨x0, x1, x2, _⟩ := pcAt_S hX5
  obtain ⟨r0, r1, r2, r3, r4, r5, r6⟩ := hR5.cells
  go_wp2_with fail
  go_loopw [6] (fun i wr => i = .int .i64 0 ∧ At7 31 wr r (.int .u32 1) (.bool false) (.int .i64 0) (.int .u32 0) (.int .u32 0) (.int .u32 0) (.slice none 0 0) ∧ InAt wr n s4.1 s4.2 ∧ PcAt wr g ⟨0, 201, awB⟩ ∧ At7 31 wr g2 (.int .u32 0) (.bool false) (.int .i64 0) (.int .u32 0) (.int .u32 0) (.int .u32 0) (.slice none 0 0) ∧ Below g w wr) (fun _ _ => 0)
  case atStart => exact ⟨rfl, hR5, hI5, hX5, hY5, hb5⟩
  case round =>
    obtain ⟨rfl, hR6, hI6, hX6, hY6, hb6⟩ := hrel
    clear hR5 hI5 hX5 hY5 hb5 x0 x1 x2 r0 r1 r2 r3 r4 r5 r6
    obtain ⟨x0, x1, x2, _⟩ := pcAt_S hX6
    obtain ⟨r0, r1, r2, r3, r4, r5, r6⟩ := hR6.cells
    go_wp2_with fail
    refine (HE.out n _ hI6).mono ?_
    rintro e w7 ⟨rfl, rfl⟩
    go_wp2_with fail
    refine (HC.out _).mono ?_
    rintro e w8 ⟨rfl, hb8⟩
    have hR8 := hR6.later hb8
    have hY8 := hY6.later hb8
    have hbb8 := hb6.trans (hb8.mono (by have := hX6.lt; omega))
    clear hR6 hI6 hX6 hY6 hb6 hb8 x0 x1 x2 r0 r1 r2 r3 r4 r5 r6
    obtain ⟨r0, r1, r2, r3, r4, r5, r6⟩ := hR8.cells
    obtain ⟨y0, y1, y2, y3, y4, y5, y6⟩ := hY8.cells
    obtain ⟨f0, f1, f2, f3, f4, f5, f6⟩ := hY8.frees
    have hYz := at7_store (.int .u32 1) (.bool false) (.int .i64 0) (.int .u32 0) (.int .u32 0) (.int .u32 0) (.slice none 0 0) hY8
    have hoz := store7_only w8 g2 (.int .u32 1) (.bool false) (.int .i64 0) (.int .u32 0) (.int .u32 0) (.int .u32 0) (.slice none 0 0)
    have hbz := hbb8.trans (hoz.below hgB)
    go_wp2_with fail
    generalize (((((((w8.setCell ⟨g2, 0, none⟩ (.int .u32 1)).setCell ⟨g2, 1, none⟩ (.bool false)).setCell ⟨g2, 2, none⟩ (.int .i64 0)).setCell ⟨g2, 3, none⟩ (.int .u32 0)).setCell ⟨g2, 4, none⟩ (.int .u32 0)).setCell ⟨g2, 5, none⟩ (.int .u32 0)).setCell ⟨g2, 6, none⟩ (.slice none 0 0)) = wz at hYz hoz hbz ⊢
    obtain ⟨d0, d1, d2, d3, d4, d5, d6⟩ := hYz.cells
    clear f0 f1 f2 f3 f4 f5 f6 y0 y1 y2 y3 y4 y5 y6 r0 r1 r2 r3 r4 r5 r6
    refine bodyPost_ret (v := .tuple #[.agg #[.int .u32 1, .bool false, .int .i64 0, .int .u32 0, .int .u32 0, .int .u32 0, .slice none 0 0], .int .i64 0]) (by simp [results, Try.results17, go_sem, d0, d1, d2, d3, d4, d5, d6]) rfl ⟨rfl, by rw [HG.out]; exact hbz⟩
set_option maxHeartbeats 1600000 in
theorem rpAwake_any (w : World) : Calls Try.prog 15 #[] w fun e w' => e = .returned (.bool true) ∧ Below w.heap.size w w' := by
  have HP := Lib.hid (fun W => awPiece_any W)
  have HO := Lib.hid (fun W => awOf_any W)
  have hB : awB = { data := #[0, 0, 0, 1] } := rfl
  rw [hB] at HP HO
  clear hB
  go_enter Try.func15, Try.ntmps15
  go_wp2_with fail
  refine (HP.out _).mono ?_
  rintro e w2 ⟨rfl, hb2⟩
  have hP : PcAt (w2.alloc (.cells #[.int .i64 0, .int .i64 201, .string { data := #[0, 0, 0, 1] }] 35)) w2.heap.size ⟨0, 201, { data := #[0, 0, 0, 1] }⟩ := pc_new w2 ⟨0, 201, { data := #[0, 0, 0, 1] }⟩
  have hba := hb2.alloc hb2.size (.cells #[.int .i64 0, .int .i64 201, .string { data := #[0, 0, 0, 1] }] 35)
  go_upto_region 2 with fail
  generalize w2.alloc (.cells #[.int .i64 0, .int .i64 201, .string { data := #[0, 0, 0, 1] }] 35) = w4 at hP hba ⊢
  generalize w2.heap.size = g at hP ⊢
  clear hb2 HP
  obtain ⟨x0, x1, x2, _⟩ := pcAt_S hP
  go_wp2_with fail
  refine (HO.out _).mono ?_
  rintro e w3 ⟨rfl, hb3⟩
  have hP3 := hP.later hb3
  have hbb3 := hba.trans (hb3.mono hba.size)
  clear hP hba hb3 x0 x1 x2 HO
  obtain ⟨x0, x1, x2, _⟩ := pcAt_S hP3
  have hg3 := hP3.lt
  go_wp2
  all_goals
    go_ret
    exact ⟨rfl, hbb3.alloc hbb3.size _⟩
end Go.Proofs.Ytkchhiiomahbaaa

