/- The document's Piece of a report. -/
import Derived.Test.YtkchhiiomahbaaaMRpN
import Derived.Test.YtkchhiiomahbaaaMRpY
import Derived.Test.YtkchhiiomahbaaaMc
namespace Go.Proofs.Ytkchhiiomahbaaa
open Go.RowKit
set_option linter.unusedVariables false
theorem boxAt_new (W : World) (p : PC) : BoxAt (W.alloc (.cells #[.int .i64 p.count, .int .i64 p.kind, .string p.body] 23)) W.heap.size p := heap_alloc_new W _
theorem sentL_le (r : RP) : (sentL r).length ≤ 20 := by
  unfold sentL
  split
  · simp [be_len]
  · simp
set_option maxRecDepth 100000 in
set_option maxHeartbeats 6400000 in
theorem rpRefPiece_any (r : RP) (a : Option Addr) (c : Nat) (w : World) (hr : ReadsB BK.rvals w a r.blocks) (hl : r.blocks.length ≤ 1000) (hok : r.ok) :
    Calls Try.prog 22 #[.agg #[.int .i64 r.src, .bool r.isS, .int .i64 r.clock, .int .i64 r.time, .int .i64 r.packets, .int .i64 r.bytes, .slice a r.blocks.length c]] w fun e w' =>
      e = .returned (.agg #[.int .i64 (rpP r).count, .int .i64 (rpP r).kind, .string (rpP r).body]) ∧ Below w.heap.size w w' := by
  have HCk := Lib.hid (fun W (h : Below w.heap.size w W) v hv => rpRefMay_any r a c W (hr.later h) (by omega) v hv)
  have hHR := Lib.hid (fun W (h : Below w.heap.size w W) => hr.later h)
  obtain ⟨q, hq⟩ : ∃ q, rpP r = q := ⟨_, rfl⟩
  rw [hq]
  by_cases hm : rpMay r
  · have hqv : q = ⟨(r.blocks.length : Nat), if r.isS then 200 else 201, ofL (rpL r)⟩ := by rw [← hq]; unfold rpP; rw [if_pos hm]
    have hC := fun W h => HCk.out W h true (by simp [hm])
    have hcl : r.isS = true → 0 ≤ r.clock ∧ r.clock ≤ 1099511627776 := hm.1.1
    have hl31 := hm.2.1
    have hbm : Hid (∀ b ∈ r.blocks, bkMay b ∧ b.ok) := Lib.hid (fun b hb => ⟨hm.2.2 b hb, hok.2.2.2.2 b hb⟩)
    have ho0 := hok.1
    have ho1 := hok.2.1
    have ho2 := hok.2.2.1
    have ho3 := hok.2.2.2.1
    clear hq HCk hr hm hok
    have hKd := Lib.hid hqv
    clear hqv
    have hbk : Hid (∀ k, k < r.blocks.length → be r.src 4 ++ sentL r ++ bksL (r.blocks.take k) ++ bkL (r.blocks[k]?.getD zeroBK) = be r.src 4 ++ sentL r ++ bksL (r.blocks.take (k + 1))) := Lib.hid (fun k hk => by rw [bksL_take _ k hk, List.append_assoc])
    have hlen : Hid (∀ k, k ≤ r.blocks.length → (be r.src 4 ++ sentL r ++ bksL (r.blocks.take k)).length ≤ 1000000) := Lib.hid (fun k hk => by
      have := sentL_le r
      simp only [List.length_append, be_len, bksL_len, List.length_take]
      omega)
    have hfin : Hid (be r.src 4 ++ sentL r ++ bksL (r.blocks.take r.blocks.length) = rpL r) := Lib.hid (by rw [List.take_length]; rfl)
    have hst : Hid (be r.src 4 ++ sentL r ++ bksL (r.blocks.take 0) = be r.src 4 ++ sentL r) := Lib.hid (by simp [bksL])
    generalize rpL r = RL at hKd hfin
    have hsl : Hid ((r.isS = true → be r.clock 8 ++ be r.time 4 ++ be r.packets 4 ++ be r.bytes 4 = sentL r) ∧ (r.isS = false → sentL r = [])) := Lib.hid ⟨fun h => by unfold sentL; rw [if_pos h], fun h => by unfold sentL; rw [h]; rfl⟩
    generalize sentL r = SL at hbk hlen hfin hst hsl
    obtain ⟨src, isS, clock, time, packets, bytes, l⟩ := r
    simp only at *
    unfold u32ok at ho0 ho1 ho2 ho3
    obtain ⟨o0, o0'⟩ := ho0
    obtain ⟨o1, o1'⟩ := ho1
    obtain ⟨o2, o2'⟩ := ho2
    obtain ⟨o3, o3'⟩ := ho3
    have HS0 := Lib.hid (fun W => put_as 4 src 4 W rfl (by omega) (by omega) (by decide))
    have hsrcl : (be src 4).length = 4 := be_len _ _
    generalize be src 4 = SRC at HS0 hbk hlen hfin hst hsrcl
    have HC := Lib.hid hC
    have HR := hHR
    clear hC hHR
    have hX1 := at7_new 38 w (.int .i64 src) (.bool isS) (.int .i64 clock) (.int .i64 time) (.int .i64 packets) (.int .i64 bytes) (.slice a l.length c)
    have hX2 := hX1.alloc (.cells #[.int .i64 0, .int .i64 0, .string { data := #[] }] 23)
    have hY2 := boxAt_new (w.alloc (.cells #[.int .i64 src, .bool isS, .int .i64 clock, .int .i64 time, .int .i64 packets, .int .i64 bytes, .slice a l.length c] 38)) zeroPC
    have hb2 : Below w.heap.size w ((w.alloc (.cells #[.int .i64 src, .bool isS, .int .i64 clock, .int .i64 time, .int .i64 packets, .int .i64 bytes, .slice a l.length c] 38)).alloc (.cells #[.int .i64 0, .int .i64 0, .string { data := #[] }] 23)) := by go_grown
    have hne : (w.alloc (.cells #[.int .i64 src, .bool isS, .int .i64 clock, .int .i64 time, .int .i64 packets, .int .i64 bytes, .slice a l.length c] 38)).heap.size = w.heap.size + 1 := by simp
    rw [hne] at hY2
    unfold zeroPC at hY2
    simp only at hY2
    clear hX1 hne
    go_enter Try.func22, Try.ntmps22
    go_upto_region 1 with fail
    generalize (w.alloc (.cells #[.int .i64 src, .bool isS, .int .i64 clock, .int .i64 time, .int .i64 packets, .int .i64 bytes, .slice a l.length c] 38)).alloc (.cells #[.int .i64 0, .int .i64 0, .string { data := #[] }] 23) = w2 at hX2 hY2 hb2 ⊢
    have hgB : w.heap.size ≤ w.heap.size + 1 := by omega
    have hgn : w.heap.size ≠ w.heap.size + 1 := by omega
    generalize hg2 : w.heap.size + 1 = g2 at hY2 hgB hgn ⊢
    generalize hg : w.heap.size = g at hX2 hb2 hgB hgn HC HR ⊢
    have HG := Lib.hid hg
    clear hg2 hg
    obtain ⟨x0, x1, x2, x3, x4, x5, x6⟩ := hX2.cells
    go_wp2_with fail
    refine (HC.out _ hb2).mono ?_
    rintro e w3 ⟨rfl, hb3⟩
    have hX3 := hX2.later hb3
    have hY3 := hY2.later hb3
    have hbb3 := hb2.trans (hb3.mono (by have := hX2.lt; omega))
    clear hX2 hY2 hb2 hb3 x0 x1 x2 x3 x4 x5 x6 HC
    obtain ⟨x0, x1, x2, x3, x4, x5, x6⟩ := hX3.cells
    go_wp2_with fail
    refine (HS0.out _).mono ?_
    rintro e w5 ⟨rfl, hb5⟩
    have hX5 := hX3.later hb5
    have hY5 := hY3.later hb5
    have hbb5 := hbb3.trans (hb5.mono (by have := hX3.lt; omega))
    clear hX3 hY3 hbb3 hb5 x0 x1 x2 x3 x4 x5 x6 HS0
    obtain ⟨x0, x1, x2, x3, x4, x5, x6⟩ := hX5.cells
    have hg5 := hX5.lt
    go_upto_if 15 with fail
    go_cut [3, 4] (fun z3 z4 wx => z3 = .string (ofL (SRC ++ SL)) ∧ z4 = .int .i64 (if isS = true then 200 else 201) ∧ At7 38 wx g (.int .i64 src) (.bool isS) (.int .i64 clock) (.int .i64 time) (.int .i64 packets) (.int .i64 bytes) (.slice a l.length c) ∧ BoxAt wx g2 ⟨0, 0, { data := #[] }⟩ ∧ Below g w wx)
    case first =>
      cases isS
      · have hE := Lib.hid (hsl.out.2 rfl)
        clear hsl
        go_wp2_with fail
        go_meet
        exact ⟨by rw [hE.out, List.append_nil], rfl, hX5, hY5, hbb5⟩
      · have hcl2 := hcl rfl
        have hres : Hid (SRC ++ (be clock 8 ++ be time 4 ++ be packets 4 ++ be bytes 4) = SRC ++ SL) := Lib.hid (by rw [hsl.out.1 rfl])
        obtain ⟨DG, hDG⟩ : ∃ DG, ofL (SRC ++ SL) = DG := ⟨_, rfl⟩
        have hgoal : Hid (ofL (SRC ++ SL) = DG) := Lib.hid hDG
        have HDG : Hid (ofL (SRC ++ SL) = DG) := Lib.hid hDG
        obtain ⟨hc0, hc1⟩ := hcl2
        clear hcl hsl hDG
        have hU1 := fun W => put_as 8 clock 8 W rfl (by omega) (by omega) (by decide)
        have hU2 := fun W => put_as 4 time 4 W rfl (by omega) (by omega) (by decide)
        have hU3 := fun W => put_as 4 packets 4 W rfl (by omega) (by omega) (by decide)
        have hU4 := fun W => put_as 4 bytes 4 W rfl (by omega) (by omega) (by decide)
        have hM1 : (be clock 8).length = 8 := be_len _ _
        have hM2 : (be time 4).length = 4 := be_len _ _
        have hM3 : (be packets 4).length = 4 := be_len _ _
        have hM4 : (be bytes 4).length = 4 := be_len _ _
        generalize be clock 8 = M1 at hU1 hM1 hres
        generalize be time 4 = M2 at hU2 hM2 hres
        generalize be packets 4 = M3 at hU3 hM3 hres
        generalize be bytes 4 = M4 at hU4 hM4 hres
        have hs1 : ∀ W : World, _ := fun W => sum_run (M1) M2 (M1 ++ M2) rfl (by simp only [List.length_append]; omega) W
        have hs2 : ∀ W : World, _ := fun W => sum_run (M1 ++ M2) M3 (M1 ++ M2 ++ M3) rfl (by simp only [List.length_append]; omega) W
        have hs3 : ∀ W : World, _ := fun W => sum_run (M1 ++ M2 ++ M3) M4 (M1 ++ M2 ++ M3 ++ M4) rfl (by simp only [List.length_append]; omega) W
        have hsz : ∀ W : World, _ := fun W => sum_run SRC (M1 ++ M2 ++ M3 ++ M4) (SRC ++ (M1 ++ M2 ++ M3 ++ M4)) rfl (by simp only [List.length_append]; omega) W
        rw [hres.out] at hsz
        generalize ofL (SRC ++ SL) = DZ at hsz hgoal
        generalize ofL (M1 ++ M2 ++ M3 ++ M4) = D4 at hs3 hsz
        generalize ofL (M1 ++ M2 ++ M3) = D3 at hs2 hs3
        generalize ofL (M1 ++ M2) = D2 at hs1 hs2
        generalize ofL M1 = E1 at hU1 hs1
        generalize ofL M2 = E2 at hU2 hs1
        generalize ofL M3 = E3 at hU3 hs2
        generalize ofL M4 = E4 at hU4 hs3
        have HU1 := Lib.hid hU1
        have HU2 := Lib.hid hU2
        have HU3 := Lib.hid hU3
        have HU4 := Lib.hid hU4
        clear hU1 hM1 hU2 hM2 hU3 hM3 hU4 hM4 hres
        have hSS : ∀ W : World, Below w5.heap.size w5 W → W.cell? ⟨g, 2, none⟩ = some (.int .i64 clock) ∧ W.cell? ⟨g, 3, none⟩ = some (.int .i64 time) ∧ W.cell? ⟨g, 4, none⟩ = some (.int .i64 packets) ∧ W.cell? ⟨g, 5, none⟩ = some (.int .i64 bytes) ∧ Below w5.heap.size w5 W := fun W h => by
          obtain ⟨_, _, b2, b3, b4, b5, _⟩ := (hX5.later h).cells
          exact ⟨b2, b3, b4, b5, h⟩
        have HSS := Lib.hid hSS
        clear hSS
        go_wp2_with fail
        go_region_held3 (fun W => W.cell? ⟨g, 2, none⟩ = some (.int .i64 clock) ∧ W.cell? ⟨g, 3, none⟩ = some (.int .i64 time) ∧ W.cell? ⟨g, 4, none⟩ = some (.int .i64 packets) ∧ W.cell? ⟨g, 5, none⟩ = some (.int .i64 bytes) ∧ Below w5.heap.size w5 W) (first | (go_keep; done) | exact HSS.out _ (Below.drew (Below.refl _ _)) | exact HSS.out _ (Below.drew (by go_split_ands; assumption)) | exact HSS.out _ (below_step (by go_split_ands; assumption) (by assumption)) | (go_split_ands; assumption)) (first | (go_at_call_of 70 (Value.int .i64 clock); refine (HU1.out _).mono ?_; rintro e w' ⟨rfl, hbx1⟩) | (go_at_call_of 70 (Value.int .i64 time); refine (HU2.out _).mono ?_; rintro e w' ⟨rfl, hbx2⟩) | (go_at_call_of 70 (Value.int .i64 packets); refine (HU3.out _).mono ?_; rintro e w' ⟨rfl, hbx3⟩) | (go_at_call 70; refine (HU4.out _).mono ?_; rintro e w' ⟨rfl, hbx4⟩))
        all_goals
          go_wp2_with fail
          go_meet
          refine ⟨by rw [hgoal.out, HDG.out], rfl, hX5.later ?_, hY5.later ?_, hbb5.trans (Below.mono (B := w5.heap.size) ?_ (by omega))⟩ <;> first | assumption | (go_split_ands; assumption)
    case rest =>
    obtain ⟨rfl, rfl, hX6, hY6, hbb6⟩ := hcut
    rename World => w6
    clear x0 x1 x2 x3 x4 x5 x6 hX5 hY5 hbb5 hsl hcl hg5
    obtain ⟨kd, hkd⟩ : ∃ kd : Int, (if isS = true then 200 else 201) = kd := ⟨_, rfl⟩
    rw [hkd] at hKd ⊢
    clear hkd
    obtain ⟨x0, x1, x2, x3, x4, x5, x6⟩ := hX6.cells
    go_wp2_with fail
    go_loopw [3, 36] (fun z i wr => ∃ k : Nat, k ≤ l.length ∧ i = .int .i64 k ∧ z = .string (ofL (SRC ++ SL ++ bksL (l.take k))) ∧ At7 38 wr g (.int .i64 src) (.bool isS) (.int .i64 clock) (.int .i64 time) (.int .i64 packets) (.int .i64 bytes) (.slice a l.length c) ∧ BoxAt wr g2 ⟨0, 0, { data := #[] }⟩ ∧ Below g w wr) (fun _ i _ => l.length - (intOf i).toNat)
    case atStart => exact ⟨0, Nat.zero_le _, rfl, by rw [hst.out], hX6, hY6, hbb6⟩
    case round =>
      obtain ⟨k, hk, rfl, rfl, hX7, hY7, hbb7⟩ := hrel
      clear hX6 hY6 hbb6 x0 x1 x2 x3 x4 x5 x6
      by_cases hlt : k < l.length
      · obtain ⟨ab, off, rfl, x0, x1, x2, x3, x4, x5, x6⟩ := (HR.out _ hbb7).rat hlt
        have hres := Lib.hid (hbk.out k hlt)
        have hL := hlen.out k (by omega)
        have hpm := hbm.out _ (bk_mem l k hlt)
        generalize l[k]?.getD zeroBK = p at x0 x1 x2 x3 x4 x5 x6 hres hpm
        obtain ⟨DG, hDG⟩ : ∃ DG, ofL (SRC ++ SL ++ bksL (l.take (k + 1))) = DG := ⟨_, rfl⟩
        have hgoal : Hid (ofL (SRC ++ SL ++ bksL (l.take (k + 1))) = DG) := Lib.hid hDG
        have HDG : Hid (ofL (SRC ++ SL ++ bksL (l.take (k + 1))) = DG) := Lib.hid hDG
        clear hDG
        generalize SRC ++ SL ++ bksL (l.take k) = LK at hres hL ⊢
        generalize SRC ++ SL ++ bksL (l.take (k + 1)) = LN at hres hgoal
        have hP8 := at7_new 126 wr (.int .i64 p.src) (.int .i64 p.frac) (.int .i64 p.lost) (.int .i64 p.high) (.int .i64 p.jit) (.int .i64 p.last) (.int .i64 p.delay)
        have hX8 := hX7.alloc (.cells #[.int .i64 p.src, .int .i64 p.frac, .int .i64 p.lost, .int .i64 p.high, .int .i64 p.jit, .int .i64 p.last, .int .i64 p.delay] 126)
        have hY8 := hY7.alloc (.cells #[.int .i64 p.src, .int .i64 p.frac, .int .i64 p.lost, .int .i64 p.high, .int .i64 p.jit, .int .i64 p.last, .int .i64 p.delay] 126)
        have hbb8 := hbb7.alloc (by have := hX7.lt; omega) (.cells #[.int .i64 p.src, .int .i64 p.frac, .int .i64 p.lost, .int .i64 p.high, .int .i64 p.jit, .int .i64 p.last, .int .i64 p.delay] 126)
        clear hX7 hY7 hbb7
        obtain ⟨bs, bf, bl, bh, bj, bt, bd⟩ := p
        obtain ⟨⟨m1, m2, m3, m4⟩, n1, n2, n3, n4, n5⟩ := hpm
        unfold u32ok at n1 n2 n3 n4 n5
        obtain ⟨n1, n1'⟩ := n1
        obtain ⟨n2, n2'⟩ := n2
        obtain ⟨n3, n3'⟩ := n3
        obtain ⟨n4, n4'⟩ := n4
        obtain ⟨n5, n5'⟩ := n5
        simp only at *
        unfold bkL at hres
        simp only at hres
        have hU1 := fun W => put_as 4 bs 4 W rfl (by omega) (by omega) (by decide)
        have hU2 := fun W => put_as 1 bf 1 W rfl (by omega) (by omega) (by decide)
        have hU3 := fun W => put_as 3 bl 3 W rfl (by omega) (by omega) (by decide)
        have hU4 := fun W => put_as 4 bh 4 W rfl (by omega) (by omega) (by decide)
        have hU5 := fun W => put_as 4 bj 4 W rfl (by omega) (by omega) (by decide)
        have hU6 := fun W => put_as 4 bt 4 W rfl (by omega) (by omega) (by decide)
        have hU7 := fun W => put_as 4 bd 4 W rfl (by omega) (by omega) (by decide)
        have hM1 : (be bs 4).length = 4 := be_len _ _
        have hM2 : (be bf 1).length = 1 := be_len _ _
        have hM3 : (be bl 3).length = 3 := be_len _ _
        have hM4 : (be bh 4).length = 4 := be_len _ _
        have hM5 : (be bj 4).length = 4 := be_len _ _
        have hM6 : (be bt 4).length = 4 := be_len _ _
        have hM7 : (be bd 4).length = 4 := be_len _ _
        generalize be bs 4 = M1 at hU1 hM1 hres
        generalize be bf 1 = M2 at hU2 hM2 hres
        generalize be bl 3 = M3 at hU3 hM3 hres
        generalize be bh 4 = M4 at hU4 hM4 hres
        generalize be bj 4 = M5 at hU5 hM5 hres
        generalize be bt 4 = M6 at hU6 hM6 hres
        generalize be bd 4 = M7 at hU7 hM7 hres
        have hs1 : ∀ W : World, _ := fun W => sum_run (M1) M2 (M1 ++ M2) rfl (by simp only [List.length_append]; omega) W
        have hs2 : ∀ W : World, _ := fun W => sum_run (M1 ++ M2) M3 (M1 ++ M2 ++ M3) rfl (by simp only [List.length_append]; omega) W
        have hs3 : ∀ W : World, _ := fun W => sum_run (M1 ++ M2 ++ M3) M4 (M1 ++ M2 ++ M3 ++ M4) rfl (by simp only [List.length_append]; omega) W
        have hs4 : ∀ W : World, _ := fun W => sum_run (M1 ++ M2 ++ M3 ++ M4) M5 (M1 ++ M2 ++ M3 ++ M4 ++ M5) rfl (by simp only [List.length_append]; omega) W
        have hs5 : ∀ W : World, _ := fun W => sum_run (M1 ++ M2 ++ M3 ++ M4 ++ M5) M6 (M1 ++ M2 ++ M3 ++ M4 ++ M5 ++ M6) rfl (by simp only [List.length_append]; omega) W
        have hs6 : ∀ W : World, _ := fun W => sum_run (M1 ++ M2 ++ M3 ++ M4 ++ M5 ++ M6) M7 (M1 ++ M2 ++ M3 ++ M4 ++ M5 ++ M6 ++ M7) rfl (by simp only [List.length_append]; omega) W
        have hsz : ∀ W : World, _ := fun W => sum_run LK (M1 ++ M2 ++ M3 ++ M4 ++ M5 ++ M6 ++ M7) (LK ++ (M1 ++ M2 ++ M3 ++ M4 ++ M5 ++ M6 ++ M7)) rfl (by simp only [List.length_append]; omega) W
        rw [hres.out] at hsz
        generalize ofL LN = DZ at hsz hgoal
        generalize ofL (M1 ++ M2 ++ M3 ++ M4 ++ M5 ++ M6 ++ M7) = D7 at hs6 hsz
        generalize ofL (M1 ++ M2 ++ M3 ++ M4 ++ M5 ++ M6) = D6 at hs5 hs6
        generalize ofL (M1 ++ M2 ++ M3 ++ M4 ++ M5) = D5 at hs4 hs5
        generalize ofL (M1 ++ M2 ++ M3 ++ M4) = D4 at hs3 hs4
        generalize ofL (M1 ++ M2 ++ M3) = D3 at hs2 hs3
        generalize ofL (M1 ++ M2) = D2 at hs1 hs2
        generalize ofL M1 = E1 at hU1 hs1
        generalize ofL M2 = E2 at hU2 hs1
        generalize ofL M3 = E3 at hU3 hs2
        generalize ofL M4 = E4 at hU4 hs3
        generalize ofL M5 = E5 at hU5 hs4
        generalize ofL M6 = E6 at hU6 hs5
        generalize ofL M7 = E7 at hU7 hs6
        have HU1 := Lib.hid hU1
        have HU2 := Lib.hid hU2
        have HU3 := Lib.hid hU3
        have HU4 := Lib.hid hU4
        have HU5 := Lib.hid hU5
        have HU6 := Lib.hid hU6
        have HU7 := Lib.hid hU7
        clear hU1 hM1 hU2 hM2 hU3 hM3 hU4 hM4 hU5 hM5 hU6 hM6 hU7 hM7 hres
        go_upto_region 11 with fail
        generalize wr.alloc (.cells #[.int .i64 bs, .int .i64 bf, .int .i64 bl, .int .i64 bh, .int .i64 bj, .int .i64 bt, .int .i64 bd] 126) = w8 at hP8 hX8 hY8 hbb8 ⊢
        generalize wr.heap.size = gb at hP8 ⊢
        clear x0 x1 x2 x3 x4 x5 x6
        obtain ⟨x0, x1, x2, x3, x4, x5, x6⟩ := hP8.cells
        have hSS : ∀ W : World, Below w8.heap.size w8 W → W.cell? ⟨gb, 0, none⟩ = some (.int .i64 bs) ∧ W.cell? ⟨gb, 1, none⟩ = some (.int .i64 bf) ∧ W.cell? ⟨gb, 2, none⟩ = some (.int .i64 bl) ∧ W.cell? ⟨gb, 3, none⟩ = some (.int .i64 bh) ∧ W.cell? ⟨gb, 4, none⟩ = some (.int .i64 bj) ∧ W.cell? ⟨gb, 5, none⟩ = some (.int .i64 bt) ∧ W.cell? ⟨gb, 6, none⟩ = some (.int .i64 bd) ∧ Below w8.heap.size w8 W := fun W h => by
          obtain ⟨b0, b1, b2, b3, b4, b5, b6⟩ := (hP8.later h).cells
          exact ⟨b0, b1, b2, b3, b4, b5, b6, h⟩
        have HSS := Lib.hid hSS
        clear hSS
        go_region_held3 (fun W => W.cell? ⟨gb, 0, none⟩ = some (.int .i64 bs) ∧ W.cell? ⟨gb, 1, none⟩ = some (.int .i64 bf) ∧ W.cell? ⟨gb, 2, none⟩ = some (.int .i64 bl) ∧ W.cell? ⟨gb, 3, none⟩ = some (.int .i64 bh) ∧ W.cell? ⟨gb, 4, none⟩ = some (.int .i64 bj) ∧ W.cell? ⟨gb, 5, none⟩ = some (.int .i64 bt) ∧ W.cell? ⟨gb, 6, none⟩ = some (.int .i64 bd) ∧ Below w8.heap.size w8 W) (first | (go_keep; done) | exact HSS.out _ (Below.drew (Below.refl _ _)) | exact HSS.out _ (Below.drew (by go_split_ands; assumption)) | exact HSS.out _ (below_step (by go_split_ands; assumption) (by assumption)) | (go_split_ands; assumption)) (first | (go_at_call_of 70 (Value.int .i64 bs); refine (HU1.out _).mono ?_; rintro e w' ⟨rfl, hbx1⟩) | (go_at_call_of 70 (Value.int .i64 bf); refine (HU2.out _).mono ?_; rintro e w' ⟨rfl, hbx2⟩) | (go_at_call_of 70 (Value.int .i64 bl); refine (HU3.out _).mono ?_; rintro e w' ⟨rfl, hbx3⟩) | (go_at_call_of 70 (Value.int .i64 bh); refine (HU4.out _).mono ?_; rintro e w' ⟨rfl, hbx4⟩) | (go_at_call_of 70 (Value.int .i64 bj); refine (HU5.out _).mono ?_; rintro e w' ⟨rfl, hbx5⟩) | (go_at_call_of 70 (Value.int .i64 bt); refine (HU6.out _).mono ?_; rintro e w' ⟨rfl, hbx6⟩) | (go_at_call 70; refine (HU7.out _).mono ?_; rintro e w' ⟨rfl, hbx7⟩))
        all_goals
          go_wp2
          go_roundw
          case rel =>
            refine ⟨k + 1, by omega, by go_num, by rw [hgoal.out, HDG.out], hX8.later ?_, hY8.later ?_, hbb8.trans (Below.mono (B := w8.heap.size) ?_ (by have := hX8.lt; omega))⟩ <;> first | assumption | (go_split_ands; assumption)
          case measure => simp [intOf]; omega
      · obtain rfl : k = l.length := by omega
        rw [hfin.out]
        obtain ⟨x0, x1, x2, x3, x4, x5, x6⟩ := hX7.cells
        obtain ⟨y0, y1, y2, _⟩ := boxAt_S hY7
        have f0 : wr.frozen? ⟨g2, 0, none⟩ = false := by simp [World.frozen?, show wr.heap[g2]? = _ from hY7]
        have f1 : wr.frozen? ⟨g2, 1, none⟩ = false := by simp [World.frozen?, show wr.heap[g2]? = _ from hY7]
        have f2 : wr.frozen? ⟨g2, 2, none⟩ = false := by simp [World.frozen?, show wr.heap[g2]? = _ from hY7]
        generalize ofL RL = RS at hKd ⊢
        have hz : BoxAt (((wr.setCell ⟨g2, 0, none⟩ (.int .i64 (l.length : Nat))).setCell ⟨g2, 1, none⟩ (.int .i64 kd)).setCell ⟨g2, 2, none⟩ (.string RS)) g2 ⟨(l.length : Nat), kd, RS⟩ := block_setCell (i := 2) (u := .string RS) (block_setCell (i := 1) (u := .int .i64 kd) (block_setCell (i := 0) (u := .int .i64 (l.length : Nat)) hY7))
        have hbz := (((hbb7.setCell (p := ⟨g2, 0, none⟩) hgB (.int .i64 (l.length : Nat))).setCell (p := ⟨g2, 1, none⟩) hgB (.int .i64 kd)).setCell (p := ⟨g2, 2, none⟩) hgB (.string RS))
        go_wp2
        generalize ((wr.setCell ⟨g2, 0, none⟩ (.int .i64 (l.length : Nat))).setCell ⟨g2, 1, none⟩ (.int .i64 kd)).setCell ⟨g2, 2, none⟩ (.string RS) = wz at hz hbz ⊢
        obtain ⟨d0, d1, d2, _⟩ := boxAt_S hz
        refine bodyPost_ret (v := .agg #[.int .i64 (l.length : Nat), .int .i64 kd, .string RS]) (by simp [results, Try.results22, go_sem, d0, d1, d2]) rfl ⟨by rw [hKd.out], by rw [HG.out]; first | exact hbz | exact hbz.drew⟩
  · have hqv : q = zeroPC := by rw [← hq]; unfold rpP; rw [if_neg hm]
    have hC := fun W h => HCk.out W h false (by simp [hm])
    subst hqv
    clear hq HCk hr hm hl hHR hok
    obtain ⟨src, isS, clock, time, packets, bytes, l⟩ := r
    simp only at *
    have HC := Lib.hid hC
    clear hC
    have hX1 := at7_new 38 w (.int .i64 src) (.bool isS) (.int .i64 clock) (.int .i64 time) (.int .i64 packets) (.int .i64 bytes) (.slice a l.length c)
    have hX2 := hX1.alloc (.cells #[.int .i64 0, .int .i64 0, .string { data := #[] }] 23)
    have hY2 := boxAt_new (w.alloc (.cells #[.int .i64 src, .bool isS, .int .i64 clock, .int .i64 time, .int .i64 packets, .int .i64 bytes, .slice a l.length c] 38)) zeroPC
    have hb2 : Below w.heap.size w ((w.alloc (.cells #[.int .i64 src, .bool isS, .int .i64 clock, .int .i64 time, .int .i64 packets, .int .i64 bytes, .slice a l.length c] 38)).alloc (.cells #[.int .i64 0, .int .i64 0, .string { data := #[] }] 23)) := by go_grown
    have hne : (w.alloc (.cells #[.int .i64 src, .bool isS, .int .i64 clock, .int .i64 time, .int .i64 packets, .int .i64 bytes, .slice a l.length c] 38)).heap.size = w.heap.size + 1 := by simp
    rw [hne] at hY2
    unfold zeroPC at hY2 ⊢
    simp only at hY2 ⊢
    clear hX1 hne
    go_enter Try.func22, Try.ntmps22
    go_upto_region 1 with fail
    generalize (w.alloc (.cells #[.int .i64 src, .bool isS, .int .i64 clock, .int .i64 time, .int .i64 packets, .int .i64 bytes, .slice a l.length c] 38)).alloc (.cells #[.int .i64 0, .int .i64 0, .string { data := #[] }] 23) = w2 at hX2 hY2 hb2 ⊢
    have hgB : w.heap.size ≤ w.heap.size + 1 := by omega
    generalize hg2 : w.heap.size + 1 = g2 at hY2 hgB ⊢
    generalize hg : w.heap.size = g at hX2 hb2 hgB HC ⊢
    have HG := Lib.hid hg
    clear hg2 hg
    obtain ⟨x0, x1, x2, x3, x4, x5, x6⟩ := hX2.cells
    go_wp2_with fail
    refine (HC.out _ hb2).mono ?_
    rintro e w3 ⟨rfl, hb3⟩
    have hY7 := hY2.later hb3
    have hbb7 := hb2.trans (hb3.mono (by have := hX2.lt; omega))
    clear hX2 hY2 hb2 hb3 x0 x1 x2 x3 x4 x5 x6 HC
    obtain ⟨y0, y1, y2, _⟩ := boxAt_S hY7
    have f0 : w3.frozen? ⟨g2, 0, none⟩ = false := by simp [World.frozen?, show w3.heap[g2]? = _ from hY7]
    have f1 : w3.frozen? ⟨g2, 1, none⟩ = false := by simp [World.frozen?, show w3.heap[g2]? = _ from hY7]
    have f2 : w3.frozen? ⟨g2, 2, none⟩ = false := by simp [World.frozen?, show w3.heap[g2]? = _ from hY7]
    have hz : BoxAt (((w3.setCell ⟨g2, 0, none⟩ (.int .i64 0)).setCell ⟨g2, 1, none⟩ (.int .i64 0)).setCell ⟨g2, 2, none⟩ (.string { data := #[] })) g2 ⟨0, 0, { data := #[] }⟩ := block_setCell (i := 2) (u := .string { data := #[] }) (block_setCell (i := 1) (u := .int .i64 0) (block_setCell (i := 0) (u := .int .i64 0) hY7))
    have hbz := (((hbb7.setCell (p := ⟨g2, 0, none⟩) hgB (.int .i64 0)).setCell (p := ⟨g2, 1, none⟩) hgB (.int .i64 0)).setCell (p := ⟨g2, 2, none⟩) hgB (.string { data := #[] }))
    go_wp2
    generalize ((w3.setCell ⟨g2, 0, none⟩ (.int .i64 0)).setCell ⟨g2, 1, none⟩ (.int .i64 0)).setCell ⟨g2, 2, none⟩ (.string { data := #[] }) = wz at hz hbz ⊢
    obtain ⟨d0, d1, d2, _⟩ := boxAt_S hz
    refine bodyPost_ret (v := .agg #[.int .i64 0, .int .i64 0, .string { data := #[] }]) (by simp [results, Try.results22, go_sem, d0, d1, d2]) rfl ⟨rfl, by rw [HG.out]; first | exact hbz | exact hbz.drew⟩
end Go.Proofs.Ytkchhiiomahbaaa

