/- RtpApart: the walk. -/
import Derived.Test.YtiffocdohknopaaRtpS
import Derived.Test.YtiffocdohknopaaRtpS2
import Derived.Test.YtiffocdohknopaaRtpM
import Derived.Test.YtiffocdohknopaaRtpControlsW
import Derived.Test.YtiffocdohknopaaPkF
import Derived.RegionTactic
import Derived.BigRegion
namespace Go.Proofs.Ytiffocdohknopaa.rtpApart
open Go.RowKit
set_option linter.unusedVariables false
/-- What Pack answers. -/
def packS (p : PK) : ByteArray := if mayOk p then ofL (packL p) else { data := #[] }
theorem pack_any (p : PK) (a : Option Addr) (c : Nat) (w : World) (hs : p.ext.size ≤ 9223372036854775807) (hl : p.others.length ≤ 9223372036854775807) (hd : p.data.size ≤ 1099511000000) (hk : p.ok) (hr : Reads .u32 w a p.others) :
    Calls Try.prog 14 #[.agg (p.cells a c)] w fun e w' => e = .returned (.string (packS p)) ∧ Below w.heap.size w w' := by
  by_cases hp : mayOk p
  · rw [packS, if_pos hp]; exact packGood_any p a c w hd hk hr hp
  · rw [packS, if_neg hp]; exact packBad_any p a c w hs hl hp
theorem packS_bad {p : PK} (h : ¬ mayOk p) : packS p = { data := #[] } := by rw [packS, if_neg h]
theorem packS_good {p : PK} (h : mayOk p) : (packS p).size ≠ 0 := by
  rw [packS, if_pos h, ofL_size]
  unfold packL hdrL
  simp only [List.length_append, be_len]
  omega
theorem apart {p q : PK} (hp : mayOk p) (hq : mayOk q) (kp : p.ok) (kq : q.ok) : packS p = packS q ↔ p = q := by
  constructor
  · intro h
    rw [packS, packS, if_pos hp, if_pos hq] at h
    have h1 := parse_pack p hp kp
    have h2 := parse_pack q hq kq
    rw [h, h2] at h1
    exact (Sum.inr.inj h1).symm
  · intro h; rw [h]
theorem cutP_ok {p : PK} (h : p.ok) : (cutP p).ok := by
  obtain ⟨h1, h2, h3, h4⟩ := h
  exact ⟨h1, h2, h3, fun x hx => h4 x (List.mem_of_mem_take hx)⟩
theorem cutP_small (p : PK) : (cutP p).others.length ≤ 17 ∧ (cutP p).ext.size ≤ 60 ∧ (cutP p).data.size ≤ 60 := ⟨by simp only [cutP, List.length_take]; omega, (cut_size p.ext 60).1, (cut_size p.data 60).1⟩
theorem pk_at (W : World) (n : Nat) (c0 c1 c2 c3 c4 c5 c6 c7 c8 c9 c10 : Value) (hn : n = W.heap.size) : PkIn (W.alloc (.cells #[c0, c1, c2, c3, c4, c5, c6, c7, c8, c9, c10] 30)) n c0 c1 c2 c3 c4 c5 c6 c7 c8 c9 c10 := by subst hn; exact heap_alloc_new W _
theorem pk_store {W : World} {g : Nat} {c0 c1 c2 c3 c4 c5 c6 c7 c8 c9 c10 : Value} (d0 d1 d2 d3 d4 d5 d6 d7 d8 d9 d10 : Value) (h : PkIn W g c0 c1 c2 c3 c4 c5 c6 c7 c8 c9 c10) :
    PkIn (((((((((((W.setCell ⟨g, 0, none⟩ d0).setCell ⟨g, 1, none⟩ d1).setCell ⟨g, 2, none⟩ d2).setCell ⟨g, 3, none⟩ d3).setCell ⟨g, 4, none⟩ d4).setCell ⟨g, 5, none⟩ d5).setCell ⟨g, 6, none⟩ d6).setCell ⟨g, 7, none⟩ d7).setCell ⟨g, 8, none⟩ d8).setCell ⟨g, 9, none⟩ d9).setCell ⟨g, 10, none⟩ d10) g d0 d1 d2 d3 d4 d5 d6 d7 d8 d9 d10 := by
  have h0 : PkIn (W.setCell ⟨g, 0, none⟩ d0) g d0 c1 c2 c3 c4 c5 c6 c7 c8 c9 c10 := block_setCell h
  have h1 : PkIn ((W.setCell ⟨g, 0, none⟩ d0).setCell ⟨g, 1, none⟩ d1) g d0 d1 c2 c3 c4 c5 c6 c7 c8 c9 c10 := block_setCell h0
  have h2 : PkIn (((W.setCell ⟨g, 0, none⟩ d0).setCell ⟨g, 1, none⟩ d1).setCell ⟨g, 2, none⟩ d2) g d0 d1 d2 c3 c4 c5 c6 c7 c8 c9 c10 := block_setCell h1
  have h3 : PkIn ((((W.setCell ⟨g, 0, none⟩ d0).setCell ⟨g, 1, none⟩ d1).setCell ⟨g, 2, none⟩ d2).setCell ⟨g, 3, none⟩ d3) g d0 d1 d2 d3 c4 c5 c6 c7 c8 c9 c10 := block_setCell h2
  have h4 : PkIn (((((W.setCell ⟨g, 0, none⟩ d0).setCell ⟨g, 1, none⟩ d1).setCell ⟨g, 2, none⟩ d2).setCell ⟨g, 3, none⟩ d3).setCell ⟨g, 4, none⟩ d4) g d0 d1 d2 d3 d4 c5 c6 c7 c8 c9 c10 := block_setCell h3
  have h5 : PkIn ((((((W.setCell ⟨g, 0, none⟩ d0).setCell ⟨g, 1, none⟩ d1).setCell ⟨g, 2, none⟩ d2).setCell ⟨g, 3, none⟩ d3).setCell ⟨g, 4, none⟩ d4).setCell ⟨g, 5, none⟩ d5) g d0 d1 d2 d3 d4 d5 c6 c7 c8 c9 c10 := block_setCell h4
  have h6 : PkIn (((((((W.setCell ⟨g, 0, none⟩ d0).setCell ⟨g, 1, none⟩ d1).setCell ⟨g, 2, none⟩ d2).setCell ⟨g, 3, none⟩ d3).setCell ⟨g, 4, none⟩ d4).setCell ⟨g, 5, none⟩ d5).setCell ⟨g, 6, none⟩ d6) g d0 d1 d2 d3 d4 d5 d6 c7 c8 c9 c10 := block_setCell h5
  have h7 : PkIn ((((((((W.setCell ⟨g, 0, none⟩ d0).setCell ⟨g, 1, none⟩ d1).setCell ⟨g, 2, none⟩ d2).setCell ⟨g, 3, none⟩ d3).setCell ⟨g, 4, none⟩ d4).setCell ⟨g, 5, none⟩ d5).setCell ⟨g, 6, none⟩ d6).setCell ⟨g, 7, none⟩ d7) g d0 d1 d2 d3 d4 d5 d6 d7 c8 c9 c10 := block_setCell h6
  have h8 : PkIn (((((((((W.setCell ⟨g, 0, none⟩ d0).setCell ⟨g, 1, none⟩ d1).setCell ⟨g, 2, none⟩ d2).setCell ⟨g, 3, none⟩ d3).setCell ⟨g, 4, none⟩ d4).setCell ⟨g, 5, none⟩ d5).setCell ⟨g, 6, none⟩ d6).setCell ⟨g, 7, none⟩ d7).setCell ⟨g, 8, none⟩ d8) g d0 d1 d2 d3 d4 d5 d6 d7 d8 c9 c10 := block_setCell h7
  have h9 : PkIn ((((((((((W.setCell ⟨g, 0, none⟩ d0).setCell ⟨g, 1, none⟩ d1).setCell ⟨g, 2, none⟩ d2).setCell ⟨g, 3, none⟩ d3).setCell ⟨g, 4, none⟩ d4).setCell ⟨g, 5, none⟩ d5).setCell ⟨g, 6, none⟩ d6).setCell ⟨g, 7, none⟩ d7).setCell ⟨g, 8, none⟩ d8).setCell ⟨g, 9, none⟩ d9) g d0 d1 d2 d3 d4 d5 d6 d7 d8 d9 c10 := block_setCell h8
  have h10 : PkIn (((((((((((W.setCell ⟨g, 0, none⟩ d0).setCell ⟨g, 1, none⟩ d1).setCell ⟨g, 2, none⟩ d2).setCell ⟨g, 3, none⟩ d3).setCell ⟨g, 4, none⟩ d4).setCell ⟨g, 5, none⟩ d5).setCell ⟨g, 6, none⟩ d6).setCell ⟨g, 7, none⟩ d7).setCell ⟨g, 8, none⟩ d8).setCell ⟨g, 9, none⟩ d9).setCell ⟨g, 10, none⟩ d10) g d0 d1 d2 d3 d4 d5 d6 d7 d8 d9 d10 := block_setCell h9
  exact h10
theorem pk_store_only (W : World) (g : Nat) (d0 d1 d2 d3 d4 d5 d6 d7 d8 d9 d10 : Value) :
    Only g W (((((((((((W.setCell ⟨g, 0, none⟩ d0).setCell ⟨g, 1, none⟩ d1).setCell ⟨g, 2, none⟩ d2).setCell ⟨g, 3, none⟩ d3).setCell ⟨g, 4, none⟩ d4).setCell ⟨g, 5, none⟩ d5).setCell ⟨g, 6, none⟩ d6).setCell ⟨g, 7, none⟩ d7).setCell ⟨g, 8, none⟩ d8).setCell ⟨g, 9, none⟩ d9).setCell ⟨g, 10, none⟩ d10) :=
  (((((((((((Only.refl _ _).setCell 0 _).setCell 1 _).setCell 2 _).setCell 3 _).setCell 4 _).setCell 5 _).setCell 6 _).setCell 7 _).setCell 8 _).setCell 9 _).setCell 10 _
theorem below_store {w W : World} {n g : Nat} (h : Below n w W) (hg : n ≤ g) (d0 d1 d2 d3 d4 d5 d6 d7 d8 d9 d10 : Value) : Below n w (((((((((((W.setCell ⟨g, 0, none⟩ (d0)).setCell ⟨g, 1, none⟩ (d1)).setCell ⟨g, 2, none⟩ (d2)).setCell ⟨g, 3, none⟩ (d3)).setCell ⟨g, 4, none⟩ (d4)).setCell ⟨g, 5, none⟩ (d5)).setCell ⟨g, 6, none⟩ (d6)).setCell ⟨g, 7, none⟩ (d7)).setCell ⟨g, 8, none⟩ (d8)).setCell ⟨g, 9, none⟩ (d9)).setCell ⟨g, 10, none⟩ (d10)) :=
  (((((((((((h.setCell (p := ⟨g, 0, none⟩) hg _).setCell (p := ⟨g, 1, none⟩) hg _).setCell (p := ⟨g, 2, none⟩) hg _).setCell (p := ⟨g, 3, none⟩) hg _).setCell (p := ⟨g, 4, none⟩) hg _).setCell (p := ⟨g, 5, none⟩) hg _).setCell (p := ⟨g, 6, none⟩) hg _).setCell (p := ⟨g, 7, none⟩) hg _).setCell (p := ⟨g, 8, none⟩) hg _).setCell (p := ⟨g, 9, none⟩) hg _).setCell (p := ⟨g, 10, none⟩) hg _)
theorem str_eq {s t : ByteArray} {b : Bool} (h : s = t ↔ b = true) : (s.toList == t.toList) = b := by
  rw [Bool.eq_iff_iff, beq_iff_eq, ByteArray.toList_eq, ByteArray.toList_eq, ← h]
  constructor
  · intro e
    obtain ⟨⟨l⟩⟩ := s
    obtain ⟨⟨m⟩⟩ := t
    simp at e
    rw [e]
  · rintro rfl; rfl
set_option maxRecDepth 100000 in
set_option maxHeartbeats 3200000 in
theorem walk (q0 : PK) (a0 : Option Addr) (c0 : Nat) (q1 : PK) (a1 : Option Addr) (c1 : Nat) (m0a : q0.ok) (m0b : q0.ext.size ≤ maxLen) (m0c : q0.data.size ≤ maxLen) (m0d : q0.others.length ≤ c0) (m0e : c0 ≤ 9223372036854775807) (m0g : (a0 = none ∧ c0 = 0) ∨ ∃ b off, a0 = some ⟨b, off, none⟩)
    (m1a : q1.ok) (m1b : q1.ext.size ≤ maxLen) (m1c : q1.data.size ≤ maxLen) (m1d : q1.others.length ≤ c1) (m1e : c1 ≤ 9223372036854775807) (m1g : (a1 = none ∧ c1 = 0) ∨ ∃ b off, a1 = some ⟨b, off, none⟩) (w : World) (m0f : Reads .u32 w a0 q0.others) (m1f : Reads .u32 w a1 q1.others) :
    Calls Try.prog 5 #[.agg (q0.cells a0 c0), .agg (q1.cells a1 c1)] w fun e w' => e = .returned (.bool true) ∧ Below w.heap.size w w' := by
  unfold maxLen at m0b m0c m1b m1c
  have HC0 : ∀ W : World, Below w.heap.size w W → Calls Try.prog 16 #[.agg (q0.cells a0 c0)] W (CutR q0 W) := fun W hb => pcut_any q0 a0 c0 W (by omega) (by omega) m0d m0e (m0f.later hb) m0g
  have HC1 : ∀ W : World, Below w.heap.size w W → Calls Try.prog 16 #[.agg (q1.cells a1 c1)] W (CutR q1 W) := fun W hb => pcut_any q1 a1 c1 W (by omega) (by omega) m1d m1e (m1f.later hb) m1g
  unfold CutR at HC0 HC1
  have hk0 := cutP_ok m0a
  have hk1 := cutP_ok m1a
  have hs0 := cutP_small q0
  have hs1 := cutP_small q1
  generalize cutP q0 = P0 at HC0 hk0 hs0
  generalize cutP q1 = P1 at HC1 hk1 hs1
  clear m0a m0b m0c m0d m0e m1a m1b m1c m1d m1e m0f m1f m0g m1g
  obtain ⟨hl0, he0, hd0⟩ := hs0
  obtain ⟨hl1, he1, hd1⟩ := hs1
  have HK0 := Lib.hid hk0
  have HK1 := Lib.hid hk1
  clear hk0 hk1
  obtain ⟨mA, kA, sA, tA, rA, oA, hA, fA, eA, dA, pA⟩ := P0
  obtain ⟨mB, kB, sB, tB, rB, oB, hB, fB, eB, dB, pB⟩ := P1
  obtain ⟨mrk, kind, seq, time, source, others, hx, prof, ext, data, pad⟩ := q0
  obtain ⟨mrk1, kind1, seq1, time1, source1, others1, hx1, prof1, ext1, data1, pad1⟩ := q1
  simp only [PK.cells] at *
  have HC0' := Lib.hid HC0
  have HC1' := Lib.hid HC1
  clear HC0 HC1
  have hX0 := PkIn.later (show PkIn (w.alloc (.cells #[.bool mrk, .int .i64 kind, .int .u16 seq, .int .u32 time, .int .u32 source, .slice a0 others.length c0, .bool hx, .int .i64 prof, .string ext, .string data, .int .i64 pad] 30)) w.heap.size (.bool mrk) (.int .i64 kind) (.int .u16 seq) (.int .u32 time) (.int .u32 source) (.slice a0 others.length c0) (.bool hx) (.int .i64 prof) (.string ext) (.string data) (.int .i64 pad) from heap_alloc_new w _) ((Below.refl _ _).alloc (Nat.le_refl _) (.cells #[.bool mrk1, .int .i64 kind1, .int .u16 seq1, .int .u32 time1, .int .u32 source1, .slice a1 others1.length c1, .bool hx1, .int .i64 prof1, .string ext1, .string data1, .int .i64 pad1] 30))
  have hX1 := pk_at (w.alloc (.cells #[.bool mrk, .int .i64 kind, .int .u16 seq, .int .u32 time, .int .u32 source, .slice a0 others.length c0, .bool hx, .int .i64 prof, .string ext, .string data, .int .i64 pad] 30)) (w.heap.size + 1) (.bool mrk1) (.int .i64 kind1) (.int .u16 seq1) (.int .u32 time1) (.int .u32 source1) (.slice a1 others1.length c1) (.bool hx1) (.int .i64 prof1) (.string ext1) (.string data1) (.int .i64 pad1) (by simp)
  have hb0 : Below w.heap.size w ((w.alloc (.cells #[.bool mrk, .int .i64 kind, .int .u16 seq, .int .u32 time, .int .u32 source, .slice a0 others.length c0, .bool hx, .int .i64 prof, .string ext, .string data, .int .i64 pad] 30)).alloc (.cells #[.bool mrk1, .int .i64 kind1, .int .u16 seq1, .int .u32 time1, .int .u32 source1, .slice a1 others1.length c1, .bool hx1, .int .i64 prof1, .string ext1, .string data1, .int .i64 pad1] 30)) := by go_grown
  go_enter Try.func5, Try.ntmps5
  go_wp2_with fail
  generalize (w.alloc (.cells #[.bool mrk, .int .i64 kind, .int .u16 seq, .int .u32 time, .int .u32 source, .slice a0 others.length c0, .bool hx, .int .i64 prof, .string ext, .string data, .int .i64 pad] 30)).alloc (.cells #[.bool mrk1, .int .i64 kind1, .int .u16 seq1, .int .u32 time1, .int .u32 source1, .slice a1 others1.length c1, .bool hx1, .int .i64 prof1, .string ext1, .string data1, .int .i64 pad1] 30) = w1 at hX0 hX1 hb0 ⊢
  refine (rtpAwake_any _).mono ?_
  rintro e w2 ⟨rfl, hb⟩
  have hP0 := hX0.later hb
  have hP1 := hX1.later hb
  have hb2 := hb0.trans (hb.mono hb0.size)
  clear hX0 hX1 hb0 hb
  have hlt0 := hP0.lt
  have hlt1 := hP1.lt
  have hB0 : w.heap.size ≤ w.heap.size := Nat.le_refl _
  have hB1 : w.heap.size ≤ w.heap.size + 1 := by omega
  have hne : w.heap.size ≠ w.heap.size + 1 := by omega
  generalize hg1 : w.heap.size + 1 = g1 at hP1 hlt1 hB1 hne ⊢
  have hne2 := hne.symm
  generalize hg0 : w.heap.size = g0 at hP0 hlt0 hne hne2 ⊢
  have hb2d : Below w.heap.size w w2.drew := by go_grown
  obtain ⟨x0, x1, x2, x3, x4, x5, x6, x7, x8, x9, x10⟩ := hP0.cells
  obtain ⟨y0, y1, y2, y3, y4, y5, y6, y7, y8, y9, y10⟩ := hP1.cells
  have Hg0 := Lib.hid hg0
  clear hg0 hg1
  go_upto_region 3 with fail
  go_cut [9, 10, 11, 12] (fun z9 z10 z11 z12 wx => ∃ (ad2 : Option Addr) (cc2 : Nat) (ad3 : Option Addr) (cc3 : Nat), PkIn wx g0 (.bool mA) (.int .i64 kA) (.int .u16 sA) (.int .u32 tA) (.int .u32 rA) (.slice ad2 oA.length cc2) (.bool hA) (.int .i64 fA) (.string eA) (.string dA) (.int .i64 pA) ∧ PkIn wx g1 (.bool mB) (.int .i64 kB) (.int .u16 sB) (.int .u32 tB) (.int .u32 rB) (.slice ad3 oB.length cc3) (.bool hB) (.int .i64 fB) (.string eB) (.string dB) (.int .i64 pB) ∧ Reads .u32 wx ad2 oA ∧ Reads .u32 wx ad3 oB ∧ Below w.heap.size w wx)
  case first =>
    go_region_law (first | (go_simp; go_at_call_of 16 (Value.agg #[.bool mrk, .int .i64 kind, .int .u16 seq, .int .u32 time, .int .u32 source, .slice a0 others.length c0, .bool hx, .int .i64 prof, .string ext, .string data, .int .i64 pad]); refine (HC0'.out _ hb2d).mono ?_; rintro e w3 ⟨hb3, ad2, cc2, rfl, hv2⟩; have hA3 := PkIn.later (W := w2.drew) hP0 hb3; have hB3 := PkIn.later (W := w2.drew) hP1 hb3; obtain ⟨p0, p1, p2, p3, p4, p5, p6, p7, p8, p9, p10⟩ := hB3.cells) | (go_simp; go_at_call_of 16 (Value.agg #[.bool mrk1, .int .i64 kind1, .int .u16 seq1, .int .u32 time1, .int .u32 source1, .slice a1 others1.length c1, .bool hx1, .int .i64 prof1, .string ext1, .string data1, .int .i64 pad1]); refine (HC1'.out _ (hb2d.trans (hb3.mono hb2d.size))).mono ?_; rintro e w4 ⟨hb4, ad3, cc3, rfl, hv3⟩; have hA4 := PkIn.later hA3 hb4; have hB4 := PkIn.later hB3 hb4; obtain ⟨m0, m1, m2, m3, m4, m5, m6, m7, m8, m9, m10⟩ := hA4.cells; obtain ⟨n0, n1, n2, n3, n4, n5, n6, n7, n8, n9, n10⟩ := hB4.cells; obtain ⟨s0, s1, s2, s3, s4, s5, s6, s7, s8, s9, s10⟩ := hA4.frees; obtain ⟨t0, t1, t2, t3, t4, t5, t6, t7, t8, t9, t10⟩ := hB4.frees))
    all_goals
      have hP4 := pk_store (.bool mA) (.int .i64 kA) (.int .u16 sA) (.int .u32 tA) (.int .u32 rA) (.slice ad2 oA.length cc2) (.bool hA) (.int .i64 fA) (.string eA) (.string dA) (.int .i64 pA) hA4
      have hQ4 := hB4.only hne2 (pk_store_only w4 g0 (.bool mA) (.int .i64 kA) (.int .u16 sA) (.int .u32 tA) (.int .u32 rA) (.slice ad2 oA.length cc2) (.bool hA) (.int .i64 fA) (.string eA) (.string dA) (.int .i64 pA))
      have hv4 := own_only (own_later hv2 hb4) hA4 (pk_ne _) (pk_store_only w4 g0 (.bool mA) (.int .i64 kA) (.int .u16 sA) (.int .u32 tA) (.int .u32 rA) (.slice ad2 oA.length cc2) (.bool hA) (.int .i64 fA) (.string eA) (.string dA) (.int .i64 pA))
      have hu4 := own_only hv3 hA4 (pk_ne _) (pk_store_only w4 g0 (.bool mA) (.int .i64 kA) (.int .u16 sA) (.int .u32 tA) (.int .u32 rA) (.slice ad2 oA.length cc2) (.bool hA) (.int .i64 fA) (.string eA) (.string dA) (.int .i64 pA))
      have hbb4 := below_store (hb2d.trans ((hb3.mono hb2d.size).trans (hb4.mono (Nat.le_trans hb2d.size hb3.size)))) (Nat.le_of_eq Hg0.out) (.bool mA) (.int .i64 kA) (.int .u16 sA) (.int .u32 tA) (.int .u32 rA) (.slice ad2 oA.length cc2) (.bool hA) (.int .i64 fA) (.string eA) (.string dA) (.int .i64 pA)
      generalize (((((((((((w4.setCell ⟨g0, 0, none⟩ (.bool mA)).setCell ⟨g0, 1, none⟩ (.int .i64 kA)).setCell ⟨g0, 2, none⟩ (.int .u16 sA)).setCell ⟨g0, 3, none⟩ (.int .u32 tA)).setCell ⟨g0, 4, none⟩ (.int .u32 rA)).setCell ⟨g0, 5, none⟩ (.slice ad2 oA.length cc2)).setCell ⟨g0, 6, none⟩ (.bool hA)).setCell ⟨g0, 7, none⟩ (.int .i64 fA)).setCell ⟨g0, 8, none⟩ (.string eA)).setCell ⟨g0, 9, none⟩ (.string dA)).setCell ⟨g0, 10, none⟩ (.int .i64 pA)) = W4 at hP4 hQ4 hv4 hu4 hbb4 ⊢
      have hP5 := hP4.only hne (pk_store_only W4 g1 (.bool mB) (.int .i64 kB) (.int .u16 sB) (.int .u32 tB) (.int .u32 rB) (.slice ad3 oB.length cc3) (.bool hB) (.int .i64 fB) (.string eB) (.string dB) (.int .i64 pB))
      have hQ5 := pk_store (.bool mB) (.int .i64 kB) (.int .u16 sB) (.int .u32 tB) (.int .u32 rB) (.slice ad3 oB.length cc3) (.bool hB) (.int .i64 fB) (.string eB) (.string dB) (.int .i64 pB) hQ4
      have hv5 := own_only hv4 hQ4 (pk_ne _) (pk_store_only W4 g1 (.bool mB) (.int .i64 kB) (.int .u16 sB) (.int .u32 tB) (.int .u32 rB) (.slice ad3 oB.length cc3) (.bool hB) (.int .i64 fB) (.string eB) (.string dB) (.int .i64 pB))
      have hu5 := own_only hu4 hQ4 (pk_ne _) (pk_store_only W4 g1 (.bool mB) (.int .i64 kB) (.int .u16 sB) (.int .u32 tB) (.int .u32 rB) (.slice ad3 oB.length cc3) (.bool hB) (.int .i64 fB) (.string eB) (.string dB) (.int .i64 pB))
      have hb5 := below_store hbb4 hB1 (.bool mB) (.int .i64 kB) (.int .u16 sB) (.int .u32 tB) (.int .u32 rB) (.slice ad3 oB.length cc3) (.bool hB) (.int .i64 fB) (.string eB) (.string dB) (.int .i64 pB)
      generalize (((((((((((W4.setCell ⟨g1, 0, none⟩ (.bool mB)).setCell ⟨g1, 1, none⟩ (.int .i64 kB)).setCell ⟨g1, 2, none⟩ (.int .u16 sB)).setCell ⟨g1, 3, none⟩ (.int .u32 tB)).setCell ⟨g1, 4, none⟩ (.int .u32 rB)).setCell ⟨g1, 5, none⟩ (.slice ad3 oB.length cc3)).setCell ⟨g1, 6, none⟩ (.bool hB)).setCell ⟨g1, 7, none⟩ (.int .i64 fB)).setCell ⟨g1, 8, none⟩ (.string eB)).setCell ⟨g1, 9, none⟩ (.string dB)).setCell ⟨g1, 10, none⟩ (.int .i64 pB)) = w5 at hP5 hQ5 hv5 hu5 hb5 ⊢
      obtain ⟨_, _, e5, _, _, _, hr0⟩ := own_reads hv5
      cases e5
      obtain ⟨_, _, e5, _, _, _, hr1⟩ := own_reads hu5
      cases e5
      go_wp2_with fail
      go_meet
      exact ⟨ad2, cc2, ad3, cc3, hP5, hQ5, hr0, hr1, hb5⟩
  case rest =>
    rename World => w5
    clear HC0' HC1' hb2d hb2 hP0 hP1
    clear x0 x1 x2 x3 x4 x5 x6 x7 x8 x9 x10 y0 y1 y2 y3 y4 y5 y6 y7 y8 y9 y10
    obtain ⟨ad2, cc2, ad3, cc3, hP5, hQ5, hr0, hr1, hb5⟩ := hcut
    have HPA : ∀ W : World, Below w5.heap.size w5 W → Calls Try.prog 14 #[.agg #[.bool mA, .int .i64 kA, .int .u16 sA, .int .u32 tA, .int .u32 rA, .slice ad2 oA.length cc2, .bool hA, .int .i64 fA, .string eA, .string dA, .int .i64 pA]] W fun e w' => e = .returned (.string (packS ⟨mA, kA, sA, tA, rA, oA, hA, fA, eA, dA, pA⟩)) ∧ Below W.heap.size W w' := fun W hb => pack_any ⟨mA, kA, sA, tA, rA, oA, hA, fA, eA, dA, pA⟩ ad2 cc2 W (by show eA.size ≤ _; omega) (by show oA.length ≤ _; omega) (by show dA.size ≤ _; omega) HK0.out (hr0.later hb)
    have HPB : ∀ W : World, Below w5.heap.size w5 W → Calls Try.prog 14 #[.agg #[.bool mB, .int .i64 kB, .int .u16 sB, .int .u32 tB, .int .u32 rB, .slice ad3 oB.length cc3, .bool hB, .int .i64 fB, .string eB, .string dB, .int .i64 pB]] W fun e w' => e = .returned (.string (packS ⟨mB, kB, sB, tB, rB, oB, hB, fB, eB, dB, pB⟩)) ∧ Below W.heap.size W w' := fun W hb => pack_any ⟨mB, kB, sB, tB, rB, oB, hB, fB, eB, dB, pB⟩ ad3 cc3 W (by show eB.size ≤ _; omega) (by show oB.length ≤ _; omega) (by show dB.size ≤ _; omega) HK1.out (hr1.later hb)
    have hga := @packS_good ⟨mA, kA, sA, tA, rA, oA, hA, fA, eA, dA, pA⟩
    have hgb := @packS_good ⟨mB, kB, sB, tB, rB, oB, hB, fB, eB, dB, pB⟩
    have hba := @packS_bad ⟨mA, kA, sA, tA, rA, oA, hA, fA, eA, dA, pA⟩
    have hbb := @packS_bad ⟨mB, kB, sB, tB, rB, oB, hB, fB, eB, dB, pB⟩
    have hap := fun h1 h2 => @apart ⟨mA, kA, sA, tA, rA, oA, hA, fA, eA, dA, pA⟩ ⟨mB, kB, sB, tB, rB, oB, hB, fB, eB, dB, pB⟩ h1 h2 HK0.out HK1.out
    generalize packS ⟨mA, kA, sA, tA, rA, oA, hA, fA, eA, dA, pA⟩ = SA at HPA hga hba hap
    generalize packS ⟨mB, kB, sB, tB, rB, oB, hB, fB, eB, dB, pB⟩ = SB at HPB hgb hbb hap
    have HPA' := Lib.hid HPA
    have HPB' := Lib.hid HPB
    clear HPA HPB
    obtain ⟨x0, x1, x2, x3, x4, x5, x6, x7, x8, x9, x10⟩ := hP5.cells
    obtain ⟨y0, y1, y2, y3, y4, y5, y6, y7, y8, y9, y10⟩ := hQ5.cells
    have hbd : Below w5.heap.size w5 w5.drew := by go_grown
    have hga' := Lib.hid hga
    have hgb' := Lib.hid hgb
    have hba' := Lib.hid hba
    have hbb' := Lib.hid hbb
    have hap' := Lib.hid hap
    clear hga hgb hba hbb hap
    go_upto_region 1 with fail
    go_cut [5, 6] (fun z5 z6 wx => z5 = .string SA ∧ z6 = .string SB ∧ Below w5.heap.size w5 wx)
    case first =>
      go_region_law (first | (go_simp; go_at_call_of 14 (Value.agg #[.bool mA, .int .i64 kA, .int .u16 sA, .int .u32 tA, .int .u32 rA, .slice ad2 oA.length cc2, .bool hA, .int .i64 fA, .string eA, .string dA, .int .i64 pA]); refine (HPA'.out _ hbd).mono ?_; rintro e w3 ⟨rfl, hb3⟩; have hB3 := PkIn.later (W := w5.drew) hQ5 hb3; obtain ⟨p0, p1, p2, p3, p4, p5, p6, p7, p8, p9, p10⟩ := hB3.cells) | (go_simp; go_at_call_of 14 (Value.agg #[.bool mB, .int .i64 kB, .int .u16 sB, .int .u32 tB, .int .u32 rB, .slice ad3 oB.length cc3, .bool hB, .int .i64 fB, .string eB, .string dB, .int .i64 pB]); refine (HPB'.out _ (hbd.trans (hb3.mono hbd.size))).mono ?_; rintro e w4 ⟨rfl, hb4⟩))
      all_goals
        go_wp2_with fail
        go_meet
        exact ⟨rfl, rfl, hbd.trans ((hb3.mono hbd.size).trans (hb4.mono (Nat.le_trans hbd.size hb3.size)))⟩
    case rest =>
      obtain ⟨rfl, rfl, hb6⟩ := hcut
      clear HPA' HPB' hbd
      have hP6 := hP5.later hb6
      have hQ6 := hQ5.later hb6
      have hs0 := hr0.later hb6
      have hs1 := hr1.later hb6
      have hbz := hb5.trans (hb6.mono hb5.size)
      clear hP5 hQ5 hr0 hr1 hb5 hb6 x0 x1 x2 x3 x4 x5 x6 x7 x8 x9 x10 y0 y1 y2 y3 y4 y5 y6 y7 y8 y9 y10
      obtain ⟨x0, x1, x2, x3, x4, x5, x6, x7, x8, x9, x10⟩ := hP6.cells
      obtain ⟨y0, y1, y2, y3, y4, y5, y6, y7, y8, y9, y10⟩ := hQ6.cells
      have HTA : ∀ W : World, Below wc.heap.size wc W → Calls Try.prog 13 #[.agg #[.bool mA, .int .i64 kA, .int .u16 sA, .int .u32 tA, .int .u32 rA, .slice ad2 oA.length cc2, .bool hA, .int .i64 fA, .string eA, .string dA, .int .i64 pA]] W (ToldR ⟨mA, kA, sA, tA, rA, oA, hA, fA, eA, dA, pA⟩ W) := fun W hb => told_any ⟨mA, kA, sA, tA, rA, oA, hA, fA, eA, dA, pA⟩ ad2 cc2 W HK0.out (by show oA.length ≤ _; omega) (hs0.later hb)
      have HTB : ∀ W : World, Below wc.heap.size wc W → Calls Try.prog 13 #[.agg #[.bool mB, .int .i64 kB, .int .u16 sB, .int .u32 tB, .int .u32 rB, .slice ad3 oB.length cc3, .bool hB, .int .i64 fB, .string eB, .string dB, .int .i64 pB]] W (ToldR ⟨mB, kB, sB, tB, rB, oB, hB, fB, eB, dB, pB⟩ W) := fun W hb => told_any ⟨mB, kB, sB, tB, rB, oB, hB, fB, eB, dB, pB⟩ ad3 cc3 W HK1.out (by show oB.length ≤ _; omega) (hs1.later hb)
      have HMA : ∀ (b : Bool) (a : Option Addr) (c : Nat) (W : World) (hb : b = true ↔ mayOk ⟨mA, kA, sA, tA, rA, oA, hA, fA, eA, dA, pA⟩), _ := fun b a c W hb => refMay_b ⟨mA, kA, sA, tA, rA, oA, hA, fA, eA, dA, pA⟩ a c W (by show eA.size ≤ _; omega) (by show oA.length ≤ _; omega) b hb
      have HMB : ∀ (b : Bool) (a : Option Addr) (c : Nat) (W : World) (hb : b = true ↔ mayOk ⟨mB, kB, sB, tB, rB, oB, hB, fB, eB, dB, pB⟩), _ := fun b a c W hb => refMay_b ⟨mB, kB, sB, tB, rB, oB, hB, fB, eB, dB, pB⟩ a c W (by show eB.size ≤ _; omega) (by show oB.length ≤ _; omega) b hb
      have HS : ∀ (b : Bool) (a a2 : Option Addr) (c c2 : Nat) (W : World) (hr : Reads .i64 W a oA) (hr2 : Reads .i64 W a2 oB) (hb : b = true ↔ ⟨mA, kA, sA, tA, rA, oA, hA, fA, eA, dA, pA⟩ = (⟨mB, kB, sB, tB, rB, oB, hB, fB, eB, dB, pB⟩ : PK)), _ := fun b a a2 c c2 W hr hr2 hb => same_any ⟨mA, kA, sA, tA, rA, oA, hA, fA, eA, dA, pA⟩ ⟨mB, kB, sB, tB, rB, oB, hB, fB, eB, dB, pB⟩ a a2 c c2 W (by show oA.length ≤ _; omega) (by show oB.length ≤ _; omega) hr hr2 b hb
      unfold ToldR at HTA HTB
      simp only [PK.rcells] at HTA HTB HMA HMB HS
      by_cases cA : mayOk ⟨mA, kA, sA, tA, rA, oA, hA, fA, eA, dA, pA⟩
      · have nA := hga'.out cA
        have iA : SA.toList.isEmpty = false := by rw [isEmpty_size]; simp [nA]
        by_cases cB : mayOk ⟨mB, kB, sB, tB, rB, oB, hB, fB, eB, dB, pB⟩
        · have nB := hgb'.out cB
          have iB : SB.toList.isEmpty = false := by rw [isEmpty_size]; simp [nB]
          have hq := hap'.out cA cB
          obtain ⟨b, hb⟩ : ∃ b : Bool, b = true ↔ ⟨mA, kA, sA, tA, rA, oA, hA, fA, eA, dA, pA⟩ = (⟨mB, kB, sB, tB, rB, oB, hB, fB, eB, dB, pB⟩ : PK) := by
            rcases Classical.em (⟨mA, kA, sA, tA, rA, oA, hA, fA, eA, dA, pA⟩ = (⟨mB, kB, sB, tB, rB, oB, hB, fB, eB, dB, pB⟩ : PK)) with h | h
            · exact ⟨true, iff_of_true rfl h⟩
            · exact ⟨false, iff_of_false (by decide) h⟩
          have hqb : Hid (SA = SB ↔ b = true) := Lib.hid (hq.trans hb.symm)
          have HSb := fun a a2 c c2 W hr hr2 => HS b a a2 c c2 W hr hr2 hb
          have HSb' := Lib.hid HSb
          have HTA' := Lib.hid HTA
          have HTB' := Lib.hid HTB
          clear HTA HTB HMA HMB HS HSb hb hq hga' hgb' hba' hbb' hap' cA cB nA nB
          have hbd : Below wc.heap.size wc wc.drew := by go_grown
          go_wp2_with fail
          go_region_law (first | (go_simp; go_at_call_of 13 (Value.agg #[.bool mA, .int .i64 kA, .int .u16 sA, .int .u32 tA, .int .u32 rA, .slice ad2 oA.length cc2, .bool hA, .int .i64 fA, .string eA, .string dA, .int .i64 pA]); refine (HTA'.out _ hbd).mono ?_; rintro e w3 ⟨hb3, ta, tc, rfl, htv⟩; have hB3 := PkIn.later (W := wc.drew) hQ6 hb3; obtain ⟨p0, p1, p2, p3, p4, p5, p6, p7, p8, p9, p10⟩ := hB3.cells) | (go_simp; go_at_call_of 13 (Value.agg #[.bool mB, .int .i64 kB, .int .u16 sB, .int .u32 tB, .int .u32 rB, .slice ad3 oB.length cc3, .bool hB, .int .i64 fB, .string eB, .string dB, .int .i64 pB]); refine (HTB'.out _ (hbd.trans (hb3.mono hbd.size))).mono ?_; rintro e w4 ⟨hb4, tb, td, rfl, hty⟩; obtain ⟨_, _, e5, _, _, _, hra⟩ := own_reads htv; cases e5; obtain ⟨_, _, e5, _, _, _, hrb⟩ := own_reads hty; cases e5) | (go_simp; go_at_call 12; refine (HSb'.out ta tb tc td _ (hra.later hb4) hrb).mono ?_; rintro e w8 ⟨rfl, hb8⟩))
          all_goals
            go_wp2
            go_ret
            have hb10 := hbd.trans ((hb3.trans ((hb4.trans (hb8.mono hb4.size)).mono hb3.size)).mono hbd.size)
            exact ⟨by simp [str_eq hqb.out], hbz.trans (hb10.mono hbz.size)⟩
        · obtain rfl := hbb'.out cB
          have HMA2 := fun a c W => HMA true a c W (by simp [cA])
          have HMB2 := fun a c W => HMB false a c W (by simp [cB])
          have HTA' := Lib.hid HTA
          have HTB' := Lib.hid HTB
          have HMA' := Lib.hid HMA2
          have HMB' := Lib.hid HMB2
          clear HTA HTB HMA HMB HS HMA2 HMB2 hga' hgb' hba' hbb' hap' cA cB nA
          go_wp2_with fail
          refine (HTA'.out _ (Below.refl _ _)).mono ?_
          rintro e w3 ⟨hb3, ta, tc, rfl, htv⟩
          go_wp2_with fail
          refine (HMA'.out _ _ _).mono ?_
          rintro e w4 ⟨rfl, hb4⟩
          have hB4 := hQ6.later (hb3.trans (hb4.mono hb3.size))
          clear y0 y1 y2 y3 y4 y5 y6 y7 y8 y9 y10
          obtain ⟨y0, y1, y2, y3, y4, y5, y6, y7, y8, y9, y10⟩ := hB4.cells
          have hb34 := hb3.trans (hb4.mono hb3.size)
          go_wp2_with fail
          refine (HTB'.out _ hb34).mono ?_
          rintro e w8 ⟨hb8, tb, td, rfl, hty⟩
          go_wp2_with fail
          refine (HMB'.out _ _ _).mono ?_
          rintro e w9 ⟨rfl, hb9⟩
          go_wp2
          go_ret
          exact ⟨rfl, hbz.trans ((hb34.trans ((hb8.trans (hb9.mono hb8.size)).mono hb34.size)).mono hbz.size)⟩
      · obtain rfl := hba'.out cA
        have HMA2 := fun a c W => HMA false a c W (by simp [cA])
        have HTA' := Lib.hid HTA
        have HMA' := Lib.hid HMA2
        clear HTA HTB HMA HMB HS HMA2 hga' hgb' hba' hbb' hap' cA
        go_wp2_with fail
        refine (HTA'.out _ (Below.refl _ _)).mono ?_
        rintro e w3 ⟨hb3, ta, tc, rfl, htv⟩
        go_wp2_with fail
        refine (HMA'.out _ _ _).mono ?_
        rintro e w4 ⟨rfl, hb4⟩
        go_wp2
        go_ret
        exact ⟨rfl, hbz.trans ((hb3.trans (hb4.mono hb3.size)).mono hbz.size)⟩
end Go.Proofs.Ytiffocdohknopaa.rtpApart
