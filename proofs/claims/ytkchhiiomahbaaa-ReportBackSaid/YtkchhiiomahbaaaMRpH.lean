/- report.Report.Piece. -/
import Derived.Test.YtkchhiiomahbaaaMRpG
import Derived.Test.YtkchhiiomahbaaaMRpB
namespace Go.Proofs.Ytkchhiiomahbaaa
open Go.RowKit
set_option linter.unusedVariables false
theorem sentL_t (src clock time packets bytes : Int) (l : List BK) : sentL ⟨src, true, clock, time, packets, bytes, l⟩ = be clock 8 ++ be time 4 ++ be packets 4 ++ be bytes 4 := rfl
theorem sentL_f (src clock time packets bytes : Int) (l : List BK) : sentL ⟨src, false, clock, time, packets, bytes, l⟩ = [] := rfl
theorem sentL_len (r : RP) : (sentL r).length ≤ 20 := by
  unfold sentL
  split
  · simp [be_len]
  · simp
set_option maxRecDepth 100000 in
set_option maxHeartbeats 1600000 in
theorem rpPiece_any (r : RP) (a : Option Addr) (c : Nat) (w : World) (hr : ReadsB BK.vals w a r.blocks) (hl : r.blocks.length ≤ 1000) :
    Calls Try.prog 21 #[.agg #[.int .u32 r.src, .bool r.isS, .int .i64 r.clock, .int .u32 r.time, .int .u32 r.packets, .int .u32 r.bytes, .slice a r.blocks.length c]] w fun e w' =>
      e = .returned (.agg #[.int .i64 (rpP r).count, .int .i64 (rpP r).kind, .string (rpP r).body]) ∧ Below w.heap.size w w' := by
  have HCk := Lib.hid (fun W (h : Below w.heap.size w W) v hv => rpCheck_any r a c W (hr.later h) (by omega) v hv)
  have hHR := Lib.hid (fun W (h : Below w.heap.size w W) => hr.later h)
  obtain ⟨q, hq⟩ : ∃ q, rpP r = q := ⟨_, rfl⟩
  rw [hq]
  by_cases hm : rpMay r
  · have hqv : q = ⟨(r.blocks.length : Nat), if r.isS then 200 else 201, ofL (rpL r)⟩ := by rw [← hq]; unfold rpP; rw [if_pos hm]
    have hC := fun W h => HCk.out W h 0 (.inl ⟨rfl, hm⟩)
    have hm2 := Lib.hid hm
    have hcl : r.isS = true → 0 ≤ r.clock ∧ r.clock ≤ 1099511627776 := hm.1.1
    have hl31 := hm.2.1
    clear hq HCk hr hm
    have hKd := Lib.hid hqv
    clear hqv
    have hbk : Hid (∀ k, k < r.blocks.length → be r.src 4 ++ sentL r ++ bksL (r.blocks.take k) ++ bkL (r.blocks[k]?.getD zeroBK) = be r.src 4 ++ sentL r ++ bksL (r.blocks.take (k + 1))) := Lib.hid (fun k hk => by rw [bksL_take _ k hk, List.append_assoc])
    have hlen : Hid (∀ k, k ≤ r.blocks.length → (be r.src 4 ++ sentL r ++ bksL (r.blocks.take k)).length ≤ 1000000) := Lib.hid (fun k hk => by
      have := sentL_len r
      simp only [List.length_append, be_len, bksL_len, List.length_take]
      omega)
    have hfin : Hid (be r.src 4 ++ sentL r ++ bksL (r.blocks.take r.blocks.length) = rpL r) := Lib.hid (by rw [List.take_length]; rfl)
    have hst : Hid (be r.src 4 ++ sentL r ++ bksL (r.blocks.take 0) = be r.src 4 ++ sentL r) := Lib.hid (by simp [bksL])
    generalize rpL r = RL at hKd hfin
    have hsl : Hid ((r.isS = true → sentL r = be r.clock 8 ++ be r.time 4 ++ be r.packets 4 ++ be r.bytes 4) ∧ (r.isS = false → sentL r = [])) := Lib.hid ⟨fun h => by unfold sentL; rw [if_pos h], fun h => by unfold sentL; rw [h]; rfl⟩
    generalize sentL r = SL at hbk hlen hfin hst hsl
    clear hm2
    obtain ⟨src, isS, clock, time, packets, bytes, l⟩ := r
    simp only at *
    have HC := Lib.hid hC
    have HR := hHR
    clear hC hHR
    have hX1 := at7_new 31 w (.int .u32 src) (.bool isS) (.int .i64 clock) (.int .u32 time) (.int .u32 packets) (.int .u32 bytes) (.slice a l.length c)
    have hX2 := hX1.alloc (.cells #[.int .i64 0, .int .i64 0, .string { data := #[] }] 35)
    have hY2 := pc_new (w.alloc (.cells #[.int .u32 src, .bool isS, .int .i64 clock, .int .u32 time, .int .u32 packets, .int .u32 bytes, .slice a l.length c] 31)) zeroPC
    have hb2 : Below w.heap.size w ((w.alloc (.cells #[.int .u32 src, .bool isS, .int .i64 clock, .int .u32 time, .int .u32 packets, .int .u32 bytes, .slice a l.length c] 31)).alloc (.cells #[.int .i64 0, .int .i64 0, .string { data := #[] }] 35)) := by go_grown
    have hne : (w.alloc (.cells #[.int .u32 src, .bool isS, .int .i64 clock, .int .u32 time, .int .u32 packets, .int .u32 bytes, .slice a l.length c] 31)).heap.size = w.heap.size + 1 := by simp
    rw [hne] at hY2
    unfold zeroPC at hY2
    simp only at hY2
    clear hX1 hne
    go_enter Try.func21, Try.ntmps21
    go_upto_region 1 with fail
    generalize (w.alloc (.cells #[.int .u32 src, .bool isS, .int .i64 clock, .int .u32 time, .int .u32 packets, .int .u32 bytes, .slice a l.length c] 31)).alloc (.cells #[.int .i64 0, .int .i64 0, .string { data := #[] }] 35) = w2 at hX2 hY2 hb2 ⊢
    have hgB : w.heap.size ≤ w.heap.size + 1 := by omega
    have hgn : w.heap.size ≠ w.heap.size + 1 := by omega
    generalize hg2 : w.heap.size + 1 = g2 at hY2 hgB hgn ⊢
    generalize hg : w.heap.size = g at hX2 hb2 hgB hgn HC HR ⊢
    have HG := Lib.hid hg
    clear hg2 hg
    obtain ⟨x0, x1, x2, x3, x4, x5, x6⟩ := hX2.cells
    go_wp2_with fail
    refine (HC.out _ hb2).mono ?_
    rintro e w3 ⟨rfl, hb3⟩
    have hX3 := hX2.later hb3
    have hY3 := hY2.later hb3
    have hbb3 := hb2.trans (hb3.mono (by have := hX2.lt; omega))
    clear hX2 hY2 hb2 hb3 x0 x1 x2 x3 x4 x5 x6 HC
    obtain ⟨x0, x1, x2, x3, x4, x5, x6⟩ := hX3.cells
    have hg3 := hX3.lt
    have hO := out_new w3 w3.heap.size (Nat.le_refl _)
    have hX4 := hX3.alloc (.cells #[.slice none 0 0] 130)
    have hY4 := hY3.alloc (.cells #[.slice none 0 0] 130)
    have hbb4 := hbb3.alloc (by omega) (.cells #[.slice none 0 0] 130)
    have hgo : g < w3.heap.size := hg3
    have hw4 : Hid (w3.heap.size + 1 = (w3.alloc (.cells #[.slice none 0 0] 130)).heap.size) := Lib.hid (by simp)
    have hg2o : g2 < w3.heap.size := hY3.lt
    go_wp2_with fail
    generalize w3.alloc (.cells #[.slice none 0 0] 130) = w4 at hO hX4 hY4 hbb4 hw4 ⊢
    obtain ⟨bo, hbo⟩ : ∃ bo, w3.heap.size = bo := ⟨_, rfl⟩
    rw [hbo] at hO hgo hg2o hw4 ⊢
    clear hbo x0 x1 x2 x3 x4 x5 x6 hX3 hY3 hbb3 hg3
    refine (u32_lit bo bo _ [] [src] #[.int .u32 src] 1 (bo + 1) w4 hw4.out hO rfl rfl (by simp) (by simp)).mono ?_
    rintro e w5 ⟨rfl, v5, hO5, hb5, ho5⟩
    have hX5 : At7 31 w5 g (.int .u32 src) (.bool isS) (.int .i64 clock) (.int .u32 time) (.int .u32 packets) (.int .u32 bytes) (.slice a l.length c) := ho5 _ _ hX4 (by omega) (by intro cur p e; cases e)
    have hY5 := hY4.others (by omega) ho5
    have hbb5 : Below g w w5 := hbb4.trans (hb5.mono (by omega))
    rw [List.nil_append, bes_one] at hO5
    clear hX4 hY4 hbb4 hO hb5 ho5 hw4
    obtain ⟨x0, x1, x2, x3, x4, x5, x6⟩ := hX5.cells
    go_upto_if 17 with fail
    go_cut [3] (fun z3 wx => z3 = .int .i64 (if isS = true then 200 else 201) ∧ ∃ v, OutAt wx bo bo v (be src 4 ++ SL) ∧ At7 31 wx g (.int .u32 src) (.bool isS) (.int .i64 clock) (.int .u32 time) (.int .u32 packets) (.int .u32 bytes) (.slice a l.length c) ∧ PcAt wx g2 ⟨0, 0, { data := #[] }⟩ ∧ Below g w wx)
    case first =>
      cases isS
      · have hE := Lib.hid (hsl.out.2 rfl)
        clear hsl
        go_wp2_with fail
        go_meet
        exact ⟨rfl, v5, by rw [hE.out, List.append_nil]; exact hO5, hX5, hY5, hbb5⟩
      · have hE := Lib.hid (hsl.out.1 rfl)
        have HW := Lib.hid (wrSent_any clock time packets bytes bo bo v5 (be src 4) w5 hO5 (by rw [be_len]; omega) (hcl rfl).1 (hcl rfl).2)
        clear hsl hcl
        go_wp2_with fail
        refine HW.out.mono ?_
        rintro e w6 ⟨rfl, v6, hO6, hb6, ho6⟩
        have hX6 : At7 31 w6 g (.int .u32 src) (.bool true) (.int .i64 clock) (.int .u32 time) (.int .u32 packets) (.int .u32 bytes) (.slice a l.length c) := ho6 _ _ hX5 (by omega) (by intro cur p e; cases e)
        have hY6 := hY5.others (by omega) ho6
        have hbb6 : Below g w w6 := hbb5.trans (hb6.mono (by omega))
        go_wp2_with fail
        go_meet
        exact ⟨rfl, v6, by rw [hE.out]; exact hO6, hX6, hY6, hbb6⟩
    case rest =>
    obtain ⟨rfl, v6, hO6, hX6, hY6, hbb6⟩ := hcut
    rename World => w6
    clear x0 x1 x2 x3 x4 x5 x6 hO5 hX5 hY5 hbb5 hsl hcl
    obtain ⟨kd, hkd⟩ : ∃ kd : Int, (if isS = true then 200 else 201) = kd := ⟨_, rfl⟩
    rw [hkd] at hKd ⊢
    clear hkd
    obtain ⟨x0, x1, x2, x3, x4, x5, x6⟩ := hX6.cells
    go_wp2_with fail
    go_loopw [25] (fun i wr => ∃ (k : Nat) (v : Value), k ≤ l.length ∧ i = .int .i64 k ∧ At7 31 wr g (.int .u32 src) (.bool isS) (.int .i64 clock) (.int .u32 time) (.int .u32 packets) (.int .u32 bytes) (.slice a l.length c) ∧ PcAt wr g2 ⟨0, 0, { data := #[] }⟩ ∧ OutAt wr bo bo v (be src 4 ++ SL ++ bksL (l.take k)) ∧ Below g w wr) (fun i _ => l.length - (intOf i).toNat)
    case atStart => exact ⟨0, v6, Nat.zero_le _, rfl, hX6, hY6, by rw [hst.out]; exact hO6, hbb6⟩
    case round =>
      obtain ⟨k, v7, hk, rfl, hX7, hY7, hO7, hbb7⟩ := hrel
      clear hX6 hY6 hO6 hbb6 x0 x1 x2 x3 x4 x5 x6
      by_cases hlt : k < l.length
      · obtain ⟨ab, off, rfl, x0, x1, x2, x3, x4, x5, x6⟩ := (HR.out _ hbb7).at hlt
        have HK := Lib.hid (hbk.out k hlt)
        have HL := Lib.hid (hlen.out k (by omega))
        generalize l[k]?.getD zeroBK = p at x0 x1 x2 x3 x4 x5 x6 HK
        generalize be src 4 ++ SL ++ bksL (l.take k) = LK at hO7 HK HL
        have hO8 := hO7.alloc (.cells #[.int .u32 p.src, .int .i64 p.frac, .int .i64 p.lost, .int .u32 p.high, .int .u32 p.jit, .int .u32 p.last, .int .u32 p.delay] 122)
        have HB := Lib.hid (blkWrite_any p bo bo v7 LK _ hO8 HL.out)
        have hX8 := hX7.alloc (.cells #[.int .u32 p.src, .int .i64 p.frac, .int .i64 p.lost, .int .u32 p.high, .int .u32 p.jit, .int .u32 p.last, .int .u32 p.delay] 122)
        have hY8 := hY7.alloc (.cells #[.int .u32 p.src, .int .i64 p.frac, .int .i64 p.lost, .int .u32 p.high, .int .u32 p.jit, .int .u32 p.last, .int .u32 p.delay] 122)
        have hbb8 := hbb7.alloc (by have := hX7.lt; omega) (.cells #[.int .u32 p.src, .int .i64 p.frac, .int .i64 p.lost, .int .u32 p.high, .int .u32 p.jit, .int .u32 p.last, .int .u32 p.delay] 122)
        clear hO7 hX7 hY7 hbb7 hO8
        obtain ⟨bs, bf, bl, bh, bj, bt, bd⟩ := p
        simp only at *
        go_wp2_with fail
        refine HB.out.mono ?_
        rintro e w9 ⟨rfl, v9, hO9, hb9, ho9⟩
        rw [HK.out] at hO9
        have hX9 : At7 31 w9 g (.int .u32 src) (.bool isS) (.int .i64 clock) (.int .u32 time) (.int .u32 packets) (.int .u32 bytes) (.slice (some ⟨ab, off, none⟩) l.length c) := ho9 _ _ hX8 (by omega) (by intro cur p e; cases e)
        have hY9 := hY8.others (by omega) ho9
        have hbb9 : Below g w w9 := hbb8.trans (hb9.mono (by omega))
        clear hX8 hY8 hbb8 hb9 ho9 HB HK HL x0 x1 x2 x3 x4 x5 x6
        go_wp2
        go_roundw
        case rel => exact ⟨k + 1, v9, by omega, by go_num, hX9, hY9, hO9, hbb9⟩
        case measure => simp [intOf]; omega
      · obtain rfl : k = l.length := by omega
        rw [hfin.out] at hO7
        have HBy := Lib.hid (bytes_any bo bo v7 _ wr hO7)
        obtain ⟨x0, x1, x2, x3, x4, x5, x6⟩ := hX7.cells
        obtain ⟨y0, y1, y2, _⟩ := pcAt_S hY7
        have f0 : wr.frozen? ⟨g2, 0, none⟩ = false := by simp [World.frozen?, show wr.heap[g2]? = _ from hY7]
        have f1 : wr.frozen? ⟨g2, 1, none⟩ = false := by simp [World.frozen?, show wr.heap[g2]? = _ from hY7]
        have f2 : wr.frozen? ⟨g2, 2, none⟩ = false := by simp [World.frozen?, show wr.heap[g2]? = _ from hY7]
        have HBd := Lib.hid (bytes_any bo bo v7 _ wr.drew hO7.drew)
        generalize ofL RL = RS at HBy HBd hKd
        clear hO7
        go_wp2_with fail
        go_region_law (first | (go_simp; go_at_call 69; refine HBy.out.mono ?_; rintro e w' ⟨rfl, rfl⟩) | (go_simp; go_at_call 69; refine HBd.out.mono ?_; rintro e w' ⟨rfl, rfl⟩))
        all_goals
          have hI : ∀ V : World, PcAt V g2 ⟨0, 0, { data := #[] }⟩ → PcAt (((V.setCell ⟨g2, 0, none⟩ (.int .i64 (l.length : Nat))).setCell ⟨g2, 1, none⟩ (.int .i64 kd)).setCell ⟨g2, 2, none⟩ (.string RS)) g2 ⟨(l.length : Nat), kd, RS⟩ := fun V h => block_setCell (i := 2) (u := .string RS) (block_setCell (i := 1) (u := .int .i64 kd) (block_setCell (i := 0) (u := .int .i64 (l.length : Nat)) h))
          have hz := hI _ hY7
          have hbz := (((hbb7.setCell (p := ⟨g2, 0, none⟩) hgB (.int .i64 (l.length : Nat))).setCell (p := ⟨g2, 1, none⟩) hgB (.int .i64 kd)).setCell (p := ⟨g2, 2, none⟩) hgB (.string RS))
          clear hI
          go_wp2
          generalize ((wr.setCell ⟨g2, 0, none⟩ (.int .i64 (l.length : Nat))).setCell ⟨g2, 1, none⟩ (.int .i64 kd)).setCell ⟨g2, 2, none⟩ (.string RS) = wz at hz hbz ⊢
          obtain ⟨d0, d1, d2, _⟩ := pcAt_S hz
          refine bodyPost_ret (v := .agg #[.int .i64 (l.length : Nat), .int .i64 kd, .string RS]) (by simp [results, Try.results21, go_sem, d0, d1, d2]) rfl ⟨by rw [hKd.out], by rw [HG.out]; first | exact hbz | exact hbz.drew⟩
  · have hqv : q = zeroPC := by rw [← hq]; unfold rpP; rw [if_neg hm]
    have hC := fun W h => HCk.out W h 6 (.inr ⟨rfl, hm⟩)
    subst hqv
    clear hq HCk hr hm hl hHR
    obtain ⟨src, isS, clock, time, packets, bytes, l⟩ := r
    simp only at *
    have HC := Lib.hid hC
    clear hC
    have hX1 := at7_new 31 w (.int .u32 src) (.bool isS) (.int .i64 clock) (.int .u32 time) (.int .u32 packets) (.int .u32 bytes) (.slice a l.length c)
    have hX2 := hX1.alloc (.cells #[.int .i64 0, .int .i64 0, .string { data := #[] }] 35)
    have hY2 := pc_new (w.alloc (.cells #[.int .u32 src, .bool isS, .int .i64 clock, .int .u32 time, .int .u32 packets, .int .u32 bytes, .slice a l.length c] 31)) zeroPC
    have hb2 : Below w.heap.size w ((w.alloc (.cells #[.int .u32 src, .bool isS, .int .i64 clock, .int .u32 time, .int .u32 packets, .int .u32 bytes, .slice a l.length c] 31)).alloc (.cells #[.int .i64 0, .int .i64 0, .string { data := #[] }] 35)) := by go_grown
    have hne : (w.alloc (.cells #[.int .u32 src, .bool isS, .int .i64 clock, .int .u32 time, .int .u32 packets, .int .u32 bytes, .slice a l.length c] 31)).heap.size = w.heap.size + 1 := by simp
    rw [hne] at hY2
    unfold zeroPC at hY2 ⊢
    simp only at hY2 ⊢
    clear hX1 hne
    go_enter Try.func21, Try.ntmps21
    go_upto_region 1 with fail
    generalize (w.alloc (.cells #[.int .u32 src, .bool isS, .int .i64 clock, .int .u32 time, .int .u32 packets, .int .u32 bytes, .slice a l.length c] 31)).alloc (.cells #[.int .i64 0, .int .i64 0, .string { data := #[] }] 35) = w2 at hX2 hY2 hb2 ⊢
    have hgB : w.heap.size ≤ w.heap.size + 1 := by omega
    generalize hg2 : w.heap.size + 1 = g2 at hY2 hgB ⊢
    generalize hg : w.heap.size = g at hX2 hb2 hgB HC ⊢
    have HG := Lib.hid hg
    clear hg2 hg
    obtain ⟨x0, x1, x2, x3, x4, x5, x6⟩ := hX2.cells
    go_wp2_with fail
    refine (HC.out _ hb2).mono ?_
    rintro e w3 ⟨rfl, hb3⟩
    have hY7 := hY2.later hb3
    have hbb7 := hb2.trans (hb3.mono (by have := hX2.lt; omega))
    clear hX2 hY2 hb2 hb3 x0 x1 x2 x3 x4 x5 x6 HC
    obtain ⟨y0, y1, y2, _⟩ := pcAt_S hY7
    have f0 : w3.frozen? ⟨g2, 0, none⟩ = false := by simp [World.frozen?, show w3.heap[g2]? = _ from hY7]
    have f1 : w3.frozen? ⟨g2, 1, none⟩ = false := by simp [World.frozen?, show w3.heap[g2]? = _ from hY7]
    have f2 : w3.frozen? ⟨g2, 2, none⟩ = false := by simp [World.frozen?, show w3.heap[g2]? = _ from hY7]
    have hz : PcAt (((w3.setCell ⟨g2, 0, none⟩ (.int .i64 0)).setCell ⟨g2, 1, none⟩ (.int .i64 0)).setCell ⟨g2, 2, none⟩ (.string { data := #[] })) g2 ⟨0, 0, { data := #[] }⟩ := block_setCell (i := 2) (u := .string { data := #[] }) (block_setCell (i := 1) (u := .int .i64 0) (block_setCell (i := 0) (u := .int .i64 0) hY7))
    have hbz := (((hbb7.setCell (p := ⟨g2, 0, none⟩) hgB (.int .i64 0)).setCell (p := ⟨g2, 1, none⟩) hgB (.int .i64 0)).setCell (p := ⟨g2, 2, none⟩) hgB (.string { data := #[] }))
    go_wp2
    generalize ((w3.setCell ⟨g2, 0, none⟩ (.int .i64 0)).setCell ⟨g2, 1, none⟩ (.int .i64 0)).setCell ⟨g2, 2, none⟩ (.string { data := #[] }) = wz at hz hbz ⊢
    obtain ⟨d0, d1, d2, _⟩ := pcAt_S hz
    refine bodyPost_ret (v := .agg #[.int .i64 0, .int .i64 0, .string { data := #[] }]) (by simp [results, Try.results21, go_sem, d0, d1, d2]) rfl ⟨rfl, by rw [HG.out]; first | exact hbz | exact hbz.drew⟩
end Go.Proofs.Ytkchhiiomahbaaa

