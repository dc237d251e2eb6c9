/- RtpBack: the walk. -/
import Derived.Test.YtiffocdohknopaaRtpBP
namespace Go.Proofs.Ytiffocdohknopaa.rtpBack
open Go.RowKit rtpApart
set_option linter.unusedVariables false
set_option maxRecDepth 100000 in
set_option maxHeartbeats 4000000 in
theorem walk (q0 : PK) (a0 : Option Addr) (c0 : Nat) (m0a : q0.ok) (m0b : q0.ext.size ≤ maxLen) (m0c : q0.data.size ≤ maxLen) (m0d : q0.others.length ≤ c0) (m0e : c0 ≤ 9223372036854775807) (m0g : (a0 = none ∧ c0 = 0) ∨ ∃ b off, a0 = some ⟨b, off, none⟩)
    (w : World) (m0f : Reads .u32 w a0 q0.others) :
    Calls Try.prog 4 #[.agg (q0.cells a0 c0)] w fun e w' => e = .returned (.bool true) ∧ Below w.heap.size w w' := by
  unfold maxLen at m0b m0c
  have HC0 : ∀ W : World, Below w.heap.size w W → Calls Try.prog 16 #[.agg (q0.cells a0 c0)] W (CutR q0 W) := fun W hb => pcut_any q0 a0 c0 W (by omega) (by omega) m0d m0e (m0f.later hb) m0g
  unfold CutR at HC0
  have hk0 := cutP_ok m0a
  have hs0 := cutP_small q0
  generalize cutP q0 = P0 at HC0 hk0 hs0
  clear m0a m0b m0c m0d m0e m0f m0g
  obtain ⟨hl0, he0, hd0⟩ := hs0
  have HK0 := Lib.hid hk0
  clear hk0
  obtain ⟨mA, kA, sA, tA, rA, oA, hA, fA, eA, dA, pA⟩ := P0
  obtain ⟨mrk, kind, seq, time, source, others, hx, prof, ext, data, pad⟩ := q0
  simp only [PK.cells] at *
  have HC0' := Lib.hid HC0
  clear HC0
  have hX0 : PkIn (w.alloc (.cells #[.bool mrk, .int .i64 kind, .int .u16 seq, .int .u32 time, .int .u32 source, .slice a0 others.length c0, .bool hx, .int .i64 prof, .string ext, .string data, .int .i64 pad] 30)) w.heap.size (.bool mrk) (.int .i64 kind) (.int .u16 seq) (.int .u32 time) (.int .u32 source) (.slice a0 others.length c0) (.bool hx) (.int .i64 prof) (.string ext) (.string data) (.int .i64 pad) := heap_alloc_new w _
  have hb0 : Below w.heap.size w (w.alloc (.cells #[.bool mrk, .int .i64 kind, .int .u16 seq, .int .u32 time, .int .u32 source, .slice a0 others.length c0, .bool hx, .int .i64 prof, .string ext, .string data, .int .i64 pad] 30)) := by go_grown
  go_enter Try.func4, Try.ntmps4
  go_wp2_with fail
  generalize w.alloc (.cells #[.bool mrk, .int .i64 kind, .int .u16 seq, .int .u32 time, .int .u32 source, .slice a0 others.length c0, .bool hx, .int .i64 prof, .string ext, .string data, .int .i64 pad] 30) = w1 at hX0 hb0 ⊢
  refine (rtpAwake_any _).mono ?_
  rintro e w2 ⟨rfl, hb1⟩
  have hP0 := hX0.later hb1
  have hb2 := hb0.trans (hb1.mono hb0.size)
  clear hX0 hb0 hb1
  generalize hg0 : w.heap.size = g0 at hP0 ⊢
  obtain ⟨x0, x1, x2, x3, x4, x5, x6, x7, x8, x9, x10⟩ := hP0.cells
  have Hg0 := Lib.hid hg0
  clear hg0
  go_wp2_with fail
  refine (HC0'.out _ hb2).mono ?_
  rintro e w3 ⟨hb3, ad2, cc2, rfl, hv2⟩
  have hA3 := hP0.later hb3
  clear x0 x1 x2 x3 x4 x5 x6 x7 x8 x9 x10
  obtain ⟨x0, x1, x2, x3, x4, x5, x6, x7, x8, x9, x10⟩ := hA3.cells
  obtain ⟨f0, f1, f2, f3, f4, f5, f6, f7, f8, f9, f10⟩ := hA3.frees
  have hA4 := pk_store (.bool mA) (.int .i64 kA) (.int .u16 sA) (.int .u32 tA) (.int .u32 rA) (.slice ad2 oA.length cc2) (.bool hA) (.int .i64 fA) (.string eA) (.string dA) (.int .i64 pA) hA3
  have hv4 := own_only hv2 hA3 (pk_ne _) (pk_store_only w3 g0 (.bool mA) (.int .i64 kA) (.int .u16 sA) (.int .u32 tA) (.int .u32 rA) (.slice ad2 oA.length cc2) (.bool hA) (.int .i64 fA) (.string eA) (.string dA) (.int .i64 pA))
  have hb4 := below_store (hb2.trans (hb3.mono hb2.size)) (Nat.le_of_eq Hg0.out) (.bool mA) (.int .i64 kA) (.int .u16 sA) (.int .u32 tA) (.int .u32 rA) (.slice ad2 oA.length cc2) (.bool hA) (.int .i64 fA) (.string eA) (.string dA) (.int .i64 pA)
  go_upto_region 4 with fail
  generalize (((((((((((w3.setCell ⟨g0, 0, none⟩ (.bool mA)).setCell ⟨g0, 1, none⟩ (.int .i64 kA)).setCell ⟨g0, 2, none⟩ (.int .u16 sA)).setCell ⟨g0, 3, none⟩ (.int .u32 tA)).setCell ⟨g0, 4, none⟩ (.int .u32 rA)).setCell ⟨g0, 5, none⟩ (.slice ad2 oA.length cc2)).setCell ⟨g0, 6, none⟩ (.bool hA)).setCell ⟨g0, 7, none⟩ (.int .i64 fA)).setCell ⟨g0, 8, none⟩ (.string eA)).setCell ⟨g0, 9, none⟩ (.string dA)).setCell ⟨g0, 10, none⟩ (.int .i64 pA)) = w4 at hA4 hv4 hb4 ⊢
  clear x0 x1 x2 x3 x4 x5 x6 x7 x8 x9 x10 f0 f1 f2 f3 f4 f5 f6 f7 f8 f9 f10 hA3 hv2 hb3 hb2 hP0 HC0'
  obtain ⟨_, _, e5, _, _, _, hr4⟩ := own_reads hv4
  cases e5
  clear hv4
  obtain ⟨x0, x1, x2, x3, x4, x5, x6, x7, x8, x9, x10⟩ := hA4.cells
  go_wp2_with fail
  refine (told_any (⟨mA, kA, sA, tA, rA, oA, hA, fA, eA, dA, pA⟩ : PK) ad2 cc2 w4 HK0.out (by show oA.length ≤ _; omega) hr4).mono ?_
  unfold ToldR
  simp only [PK.rcells]
  rintro e w5 ⟨hb5, ax, cx, rfl, hv5⟩
  have hP5 := hA4.later hb5
  have hr5 := hr4.later hb5
  have hbx := hb4.trans (hb5.mono hb4.size)
  clear hA4 hr4 hb4 hb5 x0 x1 x2 x3 x4 x5 x6 x7 x8 x9 x10
  obtain ⟨x0, x1, x2, x3, x4, x5, x6, x7, x8, x9, x10⟩ := hP5.cells
  have hR6 := rk_new w5 w5.heap.size (.bool mA) (.int .i64 kA) (.int .i64 sA) (.int .i64 tA) (.int .i64 rA) (.slice ax oA.length cx) (.bool hA) (.int .i64 fA) (.string eA) (.string dA) (.int .i64 pA) rfl
  have hP6 := hP5.later ((Below.refl _ _).alloc (Nat.le_refl _) (.cells #[.bool mA, .int .i64 kA, .int .i64 sA, .int .i64 tA, .int .i64 rA, .slice ax oA.length cx, .bool hA, .int .i64 fA, .string eA, .string dA, .int .i64 pA] 36))
  have hr6 := hr5.later ((Below.refl _ _).alloc (Nat.le_refl _) (.cells #[.bool mA, .int .i64 kA, .int .i64 sA, .int .i64 tA, .int .i64 rA, .slice ax oA.length cx, .bool hA, .int .i64 fA, .string eA, .string dA, .int .i64 pA] 36))
  have hv6 := hv5.alloc (.cells #[.bool mA, .int .i64 kA, .int .i64 sA, .int .i64 tA, .int .i64 rA, .slice ax oA.length cx, .bool hA, .int .i64 fA, .string eA, .string dA, .int .i64 pA] 36)
  have hb6 := hbx.alloc hbx.size (.cells #[.bool mA, .int .i64 kA, .int .i64 sA, .int .i64 tA, .int .i64 rA, .slice ax oA.length cx, .bool hA, .int .i64 fA, .string eA, .string dA, .int .i64 pA] 36)
  go_upto_region 5 with fail
  generalize w5.alloc (.cells #[.bool mA, .int .i64 kA, .int .i64 sA, .int .i64 tA, .int .i64 rA, .slice ax oA.length cx, .bool hA, .int .i64 fA, .string eA, .string dA, .int .i64 pA] 36) = w6 at hR6 hP6 hr6 hv6 hb6 ⊢
  generalize w5.heap.size = gx at hR6 ⊢
  clear hP5 hr5 hv5 hbx x0 x1 x2 x3 x4 x5 x6 x7 x8 x9 x10
  obtain ⟨x0, x1, x2, x3, x4, x5, x6, x7, x8, x9, x10⟩ := hP6.cells
  obtain ⟨y0, y1, y2, y3, y4, y5, y6, y7, y8, y9, y10⟩ := hR6.cells
  obtain ⟨_, _, e5, _, _, _, hz6⟩ := own_reads hv6
  cases e5
  clear hv6
  go_wp2_with fail
  refine (pack_any (⟨mA, kA, sA, tA, rA, oA, hA, fA, eA, dA, pA⟩ : PK) ad2 cc2 w6 (by show eA.size ≤ _; omega) (by show oA.length ≤ _; omega) (by show dA.size ≤ _; omega) HK0.out hr6).mono ?_
  rintro e w7 ⟨rfl, hb⟩
  have hP7 := hP6.later hb
  have hR7 := hR6.later hb
  have hz7 := hz6.later hb
  have hbw := hb6.trans (hb.mono hb6.size)
  clear hP6 hR6 hr6 hz6 hb6 hb x0 x1 x2 x3 x4 x5 x6 x7 x8 x9 x10 y0 y1 y2 y3 y4 y5 y6 y7 y8 y9 y10
  obtain ⟨x0, x1, x2, x3, x4, x5, x6, x7, x8, x9, x10⟩ := hP7.cells
  obtain ⟨y0, y1, y2, y3, y4, y5, y6, y7, y8, y9, y10⟩ := hR7.cells
  have HRP0 : ∀ W : World, Below w7.heap.size w7 W → Calls Try.prog 17 #[.agg #[.bool mA, .int .i64 kA, .int .i64 sA, .int .i64 tA, .int .i64 rA, .slice ax oA.length cx, .bool hA, .int .i64 fA, .string eA, .string dA, .int .i64 pA]] W fun e w' => e = .returned (.string (packS (⟨mA, kA, sA, tA, rA, oA, hA, fA, eA, dA, pA⟩ : PK))) ∧ Below W.heap.size W w' := fun W hb => refPack_any (⟨mA, kA, sA, tA, rA, oA, hA, fA, eA, dA, pA⟩ : PK) ax cx W (by show eA.size ≤ _; omega) (by show oA.length ≤ _; omega) (by show dA.size ≤ _; omega) HK0.out (hz7.later hb)
  have HRP := Lib.hid HRP0
  clear HRP0
  by_cases cm : mayOk (⟨mA, kA, sA, tA, rA, oA, hA, fA, eA, dA, pA⟩ : PK)
  · have hC := fun W => check_b (⟨mA, kA, sA, tA, rA, oA, hA, fA, eA, dA, pA⟩ : PK) ad2 cc2 W (by show eA.size ≤ _; omega) (by show oA.length ≤ _; omega) 0 (.inl ⟨rfl, cm⟩)
    have hM : ∀ (a : Option Addr) (c : Nat) (W : World), _ := fun a c W => refMay_b (⟨mA, kA, sA, tA, rA, oA, hA, fA, eA, dA, pA⟩ : PK) a c W (by show eA.size ≤ _; omega) (by show oA.length ≤ _; omega) true (by simp [cm])
    have nS := packS_good cm
    have hpar : parseR (packS (⟨mA, kA, sA, tA, rA, oA, hA, fA, eA, dA, pA⟩ : PK)) = .inr (⟨mA, kA, sA, tA, rA, oA, hA, fA, eA, dA, pA⟩ : PK) := by rw [packS, if_pos cm]; exact parse_pack _ cm HK0.out
    have hbig : (packS (⟨mA, kA, sA, tA, rA, oA, hA, fA, eA, dA, pA⟩ : PK)).size ≤ 1000000 := by
      rw [packS, if_pos cm, ofL_size]
      have h1 := hdrL_len (⟨mA, kA, sA, tA, rA, oA, hA, fA, eA, dA, pA⟩ : PK) (decide (0 < pA)) cm.1
      have h2 := cm.2
      have h3 := padL_len pA.toNat
      unfold packL
      simp only [List.length_append, by_len]
      simp only at h1 h2 h3
      split <;> simp <;> omega
    have hsm : 12 ≤ (packS (⟨mA, kA, sA, tA, rA, oA, hA, fA, eA, dA, pA⟩ : PK)).size := by
      rw [packS, if_pos cm, ofL_size]
      unfold packL hdrL
      simp only [List.length_append, be_len]
      omega
    simp only [PK.cells, PK.rcells] at hC hM
    have HCk := Lib.hid hC
    have HMy := Lib.hid hM
    clear hC hM cm
    generalize packS (⟨mA, kA, sA, tA, rA, oA, hA, fA, eA, dA, pA⟩ : PK) = S at HRP nS hpar hbig hsm ⊢
    have iS : S.toList.isEmpty = false := by rw [isEmpty_size, decide_eq_false_iff_not]; exact nS
    have Hpar := Lib.hid hpar
    clear hpar nS
    have hd7 : Below w7.heap.size w7 w7.drew := by go_grown
    have tok1 : True := trivial
    go_upto_region 6 with fail
    go_cut [36] (fun z wx => z = .bool false ∧ Below w7.heap.size w7 wx)
    case first =>
      go_region_law (first | (go_simp; go_at_call 17; refine (HRP.out _ hd7).mono ?_; rintro e w9 ⟨rfl, hb9⟩; have hP9 := PkIn.later (W := w7.drew) hP7 hb9; have hR9 := RkIn.later (W := w7.drew) hR7 hb9; obtain ⟨p0, p1, p2, p3, p4, p5, p6, p7, p8, p9, p10⟩ := hP9.cells; obtain ⟨q0, q1, q2, q3, q4, q5, q6, q7, q8, q9, q10⟩ := hR9.cells) | (have _t := tok1; go_simp; go_at_call 15; refine (HCk.out _).mono ?_; rintro e w10 ⟨rfl, hb10⟩; clear tok1; have hP10 := hP9.later hb10; have hR10 := hR9.later hb10; obtain ⟨r0, r1, r2, r3, r4, r5, r6, r7, r8, r9, r10⟩ := hP10.cells; obtain ⟨s0, s1, s2, s3, s4, s5, s6, s7, s8, s9, s10⟩ := hR10.cells) | (go_simp; go_at_call 18; refine (HMy.out _ _ _).mono ?_; rintro e w11 ⟨rfl, hb11⟩; have hP11 := hP10.later hb11; obtain ⟨t0, t1, t2, t3, t4, t5, t6, t7, t8, t9, t10⟩ := hP11.cells) | (go_simp; go_at_call 15; refine (HCk.out _).mono ?_; rintro e w12 ⟨rfl, hb12⟩))
      all_goals
        go_wp2_with fail
        go_meet
        exact ⟨by simp, hd7.trans ((hb9.trans ((hb10.trans ((hb11.trans (hb12.mono hb11.size)).mono hb10.size)).mono hb9.size)).mono hd7.size)⟩
    case rest =>
    obtain ⟨rfl, hb⟩ := hcut
    rename World => w8
    have hP8 := hP7.later hb
    have hR8 := hR7.later hb
    have hz8 := hz7.later hb
    have hb8 := hbw.trans (hb.mono hbw.size)
    clear hP7 hR7 hz7 hbw hb x0 x1 x2 x3 x4 x5 x6 x7 x8 x9 x10 y0 y1 y2 y3 y4 y5 y6 y7 y8 y9 y10 tok1 hd7
    obtain ⟨x0, x1, x2, x3, x4, x5, x6, x7, x8, x9, x10⟩ := hP8.cells
    obtain ⟨y0, y1, y2, y3, y4, y5, y6, y7, y8, y9, y10⟩ := hR8.cells

    have HPar0 : ∀ W : World, Calls Try.prog 10 #[.string S] W fun e w' => Below W.heap.size W w' ∧ ∃ aq cq, e = .returned (.tuple #[.agg #[.bool mA, .int .i64 kA, .int .u16 sA, .int .u32 tA, .int .u32 rA, .slice aq oA.length cq, .bool hA, .int .i64 fA, .string eA, .string dA, .int .i64 pA], .int .i64 0]) ∧ w'.ownsRow W.heap.size 25 1 (.slice aq oA.length cq) oA.length (oA.map (Value.int .u32)) := fun W => by
      refine (parseLong_any S W (by omega) (by omega)).mono ?_
      rintro e w' ⟨hb, ⟨er, _, he⟩ | ⟨p, a, c, he, hp, ho⟩⟩
      · rw [Hpar.out] at he; cases he
      · rw [Hpar.out] at hp
        obtain rfl := Sum.inr.inj hp
        exact ⟨hb, a, c, he, ho⟩
    have HPar := Lib.hid HPar0
    clear HPar0 HRP HCk hsm hbig
    go_wp2_with fail
    refine (HMy.out _ _ _).mono ?_
    rintro e w9 ⟨rfl, hb9⟩
    have hR9 := hR8.later hb9
    have hz9 := hz8.later hb9
    have hbx9 := hb8.trans (hb9.mono hb8.size)
    clear hP8 hR8 hz8 hb8 hb9 x0 x1 x2 x3 x4 x5 x6 x7 x8 x9 x10 y0 y1 y2 y3 y4 y5 y6 y7 y8 y9 y10
    obtain ⟨y0, y1, y2, y3, y4, y5, y6, y7, y8, y9, y10⟩ := hR9.cells
    go_wp2_with fail
    refine (HPar.out _).mono ?_
    rintro e w10 ⟨hb10, aq, cq, rfl, hv10⟩
    have hR10 := hR9.later hb10
    have hz10 := hz9.later hb10
    have hbx10 := hbx9.trans (hb10.mono hbx9.size)
    clear hR9 hz9 hbx9 hb10 y0 y1 y2 y3 y4 y5 y6 y7 y8 y9 y10
    obtain ⟨y0, y1, y2, y3, y4, y5, y6, y7, y8, y9, y10⟩ := hR10.cells
    go_upto_region 11 with fail
    have hQ11 := pk_at w10 w10.heap.size (.bool mA) (.int .i64 kA) (.int .u16 sA) (.int .u32 tA) (.int .u32 rA) (.slice aq oA.length cq) (.bool hA) (.int .i64 fA) (.string eA) (.string dA) (.int .i64 pA) rfl
    have hR11 := hR10.later ((Below.refl _ _).alloc (Nat.le_refl _) (.cells #[.bool mA, .int .i64 kA, .int .u16 sA, .int .u32 tA, .int .u32 rA, .slice aq oA.length cq, .bool hA, .int .i64 fA, .string eA, .string dA, .int .i64 pA] 30))
    have hz11 := hz10.later ((Below.refl _ _).alloc (Nat.le_refl _) (.cells #[.bool mA, .int .i64 kA, .int .u16 sA, .int .u32 tA, .int .u32 rA, .slice aq oA.length cq, .bool hA, .int .i64 fA, .string eA, .string dA, .int .i64 pA] 30))
    have hv11 := hv10.alloc (.cells #[.bool mA, .int .i64 kA, .int .u16 sA, .int .u32 tA, .int .u32 rA, .slice aq oA.length cq, .bool hA, .int .i64 fA, .string eA, .string dA, .int .i64 pA] 30)
    have hb11 := hbx10.alloc hbx10.size (.cells #[.bool mA, .int .i64 kA, .int .u16 sA, .int .u32 tA, .int .u32 rA, .slice aq oA.length cq, .bool hA, .int .i64 fA, .string eA, .string dA, .int .i64 pA] 30)
    generalize w10.alloc (.cells #[.bool mA, .int .i64 kA, .int .u16 sA, .int .u32 tA, .int .u32 rA, .slice aq oA.length cq, .bool hA, .int .i64 fA, .string eA, .string dA, .int .i64 pA] 30) = w11 at hQ11 hR11 hz11 hv11 hb11 ⊢
    generalize w10.heap.size = gq at hQ11 ⊢
    clear hR10 hz10 hv10 hbx10 y0 y1 y2 y3 y4 y5 y6 y7 y8 y9 y10
    obtain ⟨_, _, e5, _, _, _, hq11⟩ := own_reads hv11
    cases e5
    clear hv11
    obtain ⟨x0, x1, x2, x3, x4, x5, x6, x7, x8, x9, x10⟩ := hQ11.cells
    obtain ⟨y0, y1, y2, y3, y4, y5, y6, y7, y8, y9, y10⟩ := hR11.cells
    have HTq0 : ∀ W : World, Below w11.heap.size w11 W → Calls Try.prog 13 #[.agg #[.bool mA, .int .i64 kA, .int .u16 sA, .int .u32 tA, .int .u32 rA, .slice aq oA.length cq, .bool hA, .int .i64 fA, .string eA, .string dA, .int .i64 pA]] W (ToldR (⟨mA, kA, sA, tA, rA, oA, hA, fA, eA, dA, pA⟩ : PK) W) := fun W hb => told_any (⟨mA, kA, sA, tA, rA, oA, hA, fA, eA, dA, pA⟩ : PK) aq cq W HK0.out (by show oA.length ≤ _; omega) (hq11.later hb)
    have HSm0 : ∀ (a a2 : Option Addr) (c c2 : Nat) (W : World) (hr : Reads .i64 W a oA) (hr2 : Reads .i64 W a2 oA), _ := fun a a2 c c2 W hr hr2 => same_any (⟨mA, kA, sA, tA, rA, oA, hA, fA, eA, dA, pA⟩ : PK) (⟨mA, kA, sA, tA, rA, oA, hA, fA, eA, dA, pA⟩ : PK) a a2 c c2 W (by show oA.length ≤ _; omega) (by show oA.length ≤ _; omega) hr hr2 true (by simp)
    unfold ToldR at HTq0
    simp only [PK.rcells] at HTq0 HSm0
    have HTq := Lib.hid HTq0
    have HSm := Lib.hid HSm0
    have Hz := Lib.hid hz11
    have SS : ∀ W : World, Below w11.heap.size w11 W → W.cell? ⟨gq, 0, none⟩ = some (.bool mA) ∧ W.cell? ⟨gq, 1, none⟩ = some (.int .i64 kA) ∧ W.cell? ⟨gq, 2, none⟩ = some (.int .u16 sA) ∧ W.cell? ⟨gq, 3, none⟩ = some (.int .u32 tA) ∧ W.cell? ⟨gq, 4, none⟩ = some (.int .u32 rA) ∧ W.cell? ⟨gq, 5, none⟩ = some (.slice aq oA.length cq) ∧ W.cell? ⟨gq, 6, none⟩ = some (.bool hA) ∧ W.cell? ⟨gq, 7, none⟩ = some (.int .i64 fA) ∧ W.cell? ⟨gq, 8, none⟩ = some (.string eA) ∧ W.cell? ⟨gq, 9, none⟩ = some (.string dA) ∧ W.cell? ⟨gq, 10, none⟩ = some (.int .i64 pA) ∧ W.cell? ⟨gx, 0, none⟩ = some (.bool mA) ∧ W.cell? ⟨gx, 1, none⟩ = some (.int .i64 kA) ∧ W.cell? ⟨gx, 2, none⟩ = some (.int .i64 sA) ∧ W.cell? ⟨gx, 3, none⟩ = some (.int .i64 tA) ∧ W.cell? ⟨gx, 4, none⟩ = some (.int .i64 rA) ∧ W.cell? ⟨gx, 5, none⟩ = some (.slice ax oA.length cx) ∧ W.cell? ⟨gx, 6, none⟩ = some (.bool hA) ∧ W.cell? ⟨gx, 7, none⟩ = some (.int .i64 fA) ∧ W.cell? ⟨gx, 8, none⟩ = some (.string eA) ∧ W.cell? ⟨gx, 9, none⟩ = some (.string dA) ∧ W.cell? ⟨gx, 10, none⟩ = some (.int .i64 pA) ∧ Below w11.heap.size w11 W := fun W hb => by
      obtain ⟨u0, u1, u2, u3, u4, u5, u6, u7, u8, u9, u10⟩ := (hQ11.later hb).cells
      obtain ⟨v0, v1, v2, v3, v4, v5, v6, v7, v8, v9, v10⟩ := (hR11.later hb).cells
      exact ⟨u0, u1, u2, u3, u4, u5, u6, u7, u8, u9, u10, v0, v1, v2, v3, v4, v5, v6, v7, v8, v9, v10, hb⟩
    have HSS := Lib.hid SS
    clear SS HTq0 HSm0 hz11 hq11
    go_wp2_with fail
    go_region_held3 (fun W => W.cell? ⟨gq, 0, none⟩ = some (.bool mA) ∧ W.cell? ⟨gq, 1, none⟩ = some (.int .i64 kA) ∧ W.cell? ⟨gq, 2, none⟩ = some (.int .u16 sA) ∧ W.cell? ⟨gq, 3, none⟩ = some (.int .u32 tA) ∧ W.cell? ⟨gq, 4, none⟩ = some (.int .u32 rA) ∧ W.cell? ⟨gq, 5, none⟩ = some (.slice aq oA.length cq) ∧ W.cell? ⟨gq, 6, none⟩ = some (.bool hA) ∧ W.cell? ⟨gq, 7, none⟩ = some (.int .i64 fA) ∧ W.cell? ⟨gq, 8, none⟩ = some (.string eA) ∧ W.cell? ⟨gq, 9, none⟩ = some (.string dA) ∧ W.cell? ⟨gq, 10, none⟩ = some (.int .i64 pA) ∧ W.cell? ⟨gx, 0, none⟩ = some (.bool mA) ∧ W.cell? ⟨gx, 1, none⟩ = some (.int .i64 kA) ∧ W.cell? ⟨gx, 2, none⟩ = some (.int .i64 sA) ∧ W.cell? ⟨gx, 3, none⟩ = some (.int .i64 tA) ∧ W.cell? ⟨gx, 4, none⟩ = some (.int .i64 rA) ∧ W.cell? ⟨gx, 5, none⟩ = some (.slice ax oA.length cx) ∧ W.cell? ⟨gx, 6, none⟩ = some (.bool hA) ∧ W.cell? ⟨gx, 7, none⟩ = some (.int .i64 fA) ∧ W.cell? ⟨gx, 8, none⟩ = some (.string eA) ∧ W.cell? ⟨gx, 9, none⟩ = some (.string dA) ∧ W.cell? ⟨gx, 10, none⟩ = some (.int .i64 pA) ∧ Below w11.heap.size w11 W) (first | (go_keep; done) | exact HSS.out _ (Below.drew (Below.refl _ _)) | exact HSS.out _ (Below.drew (by go_split_ands; assumption)) | exact HSS.out _ (below_step (by go_split_ands; assumption) (by assumption)) | (go_split_ands; assumption)) (first | (go_at_call 13; refine (HTq.out _ (by go_split_ands; assumption)).mono ?_; rintro e w12 ⟨hbT, ta, tc, rfl, htv⟩; obtain ⟨_, _, e5, _, _, _, hra⟩ := own_reads htv; cases e5) | (go_at_call 12; refine (HSm.out ta ax tc cx _ hra (Hz.out.later (by go_split_ands; assumption))).mono ?_; rintro e w13 ⟨rfl, hbS⟩))
    all_goals
      go_wp2
      go_ret
      refine ⟨by simp, hb11.trans (Below.mono (B := w11.heap.size) ?_ hb11.size)⟩
      first | assumption | (go_split_ands; assumption)
  · have hC := fun W => check_b (⟨mA, kA, sA, tA, rA, oA, hA, fA, eA, dA, pA⟩ : PK) ad2 cc2 W (by show eA.size ≤ _; omega) (by show oA.length ≤ _; omega) 6 (.inr ⟨rfl, cm⟩)
    have hM : ∀ (a : Option Addr) (c : Nat) (W : World), _ := fun a c W => refMay_b (⟨mA, kA, sA, tA, rA, oA, hA, fA, eA, dA, pA⟩ : PK) a c W (by show eA.size ≤ _; omega) (by show oA.length ≤ _; omega) false (by simp [cm])
    rw [packS_bad cm] at HRP ⊢
    simp only [PK.cells, PK.rcells] at hC hM
    have HCk := Lib.hid hC
    have HMy := Lib.hid hM
    clear hC hM cm
    have SS : ∀ W : World, Below w7.heap.size w7 W → W.cell? ⟨g0, 0, none⟩ = some (.bool mA) ∧ W.cell? ⟨g0, 1, none⟩ = some (.int .i64 kA) ∧ W.cell? ⟨g0, 2, none⟩ = some (.int .u16 sA) ∧ W.cell? ⟨g0, 3, none⟩ = some (.int .u32 tA) ∧ W.cell? ⟨g0, 4, none⟩ = some (.int .u32 rA) ∧ W.cell? ⟨g0, 5, none⟩ = some (.slice ad2 oA.length cc2) ∧ W.cell? ⟨g0, 6, none⟩ = some (.bool hA) ∧ W.cell? ⟨g0, 7, none⟩ = some (.int .i64 fA) ∧ W.cell? ⟨g0, 8, none⟩ = some (.string eA) ∧ W.cell? ⟨g0, 9, none⟩ = some (.string dA) ∧ W.cell? ⟨g0, 10, none⟩ = some (.int .i64 pA) ∧ W.cell? ⟨gx, 0, none⟩ = some (.bool mA) ∧ W.cell? ⟨gx, 1, none⟩ = some (.int .i64 kA) ∧ W.cell? ⟨gx, 2, none⟩ = some (.int .i64 sA) ∧ W.cell? ⟨gx, 3, none⟩ = some (.int .i64 tA) ∧ W.cell? ⟨gx, 4, none⟩ = some (.int .i64 rA) ∧ W.cell? ⟨gx, 5, none⟩ = some (.slice ax oA.length cx) ∧ W.cell? ⟨gx, 6, none⟩ = some (.bool hA) ∧ W.cell? ⟨gx, 7, none⟩ = some (.int .i64 fA) ∧ W.cell? ⟨gx, 8, none⟩ = some (.string eA) ∧ W.cell? ⟨gx, 9, none⟩ = some (.string dA) ∧ W.cell? ⟨gx, 10, none⟩ = some (.int .i64 pA) ∧ Below w7.heap.size w7 W := fun W hb => by
      obtain ⟨u0, u1, u2, u3, u4, u5, u6, u7, u8, u9, u10⟩ := (hP7.later hb).cells
      obtain ⟨v0, v1, v2, v3, v4, v5, v6, v7, v8, v9, v10⟩ := (hR7.later hb).cells
      exact ⟨u0, u1, u2, u3, u4, u5, u6, u7, u8, u9, u10, v0, v1, v2, v3, v4, v5, v6, v7, v8, v9, v10, hb⟩
    have HSS := Lib.hid SS
    clear SS
    go_upto_region 6 with fail
    go_cut [36] (fun z wx => z = .bool false ∧ Below w7.heap.size w7 wx)
    case first =>
      go_region_held3 (fun W => W.cell? ⟨g0, 0, none⟩ = some (.bool mA) ∧ W.cell? ⟨g0, 1, none⟩ = some (.int .i64 kA) ∧ W.cell? ⟨g0, 2, none⟩ = some (.int .u16 sA) ∧ W.cell? ⟨g0, 3, none⟩ = some (.int .u32 tA) ∧ W.cell? ⟨g0, 4, none⟩ = some (.int .u32 rA) ∧ W.cell? ⟨g0, 5, none⟩ = some (.slice ad2 oA.length cc2) ∧ W.cell? ⟨g0, 6, none⟩ = some (.bool hA) ∧ W.cell? ⟨g0, 7, none⟩ = some (.int .i64 fA) ∧ W.cell? ⟨g0, 8, none⟩ = some (.string eA) ∧ W.cell? ⟨g0, 9, none⟩ = some (.string dA) ∧ W.cell? ⟨g0, 10, none⟩ = some (.int .i64 pA) ∧ W.cell? ⟨gx, 0, none⟩ = some (.bool mA) ∧ W.cell? ⟨gx, 1, none⟩ = some (.int .i64 kA) ∧ W.cell? ⟨gx, 2, none⟩ = some (.int .i64 sA) ∧ W.cell? ⟨gx, 3, none⟩ = some (.int .i64 tA) ∧ W.cell? ⟨gx, 4, none⟩ = some (.int .i64 rA) ∧ W.cell? ⟨gx, 5, none⟩ = some (.slice ax oA.length cx) ∧ W.cell? ⟨gx, 6, none⟩ = some (.bool hA) ∧ W.cell? ⟨gx, 7, none⟩ = some (.int .i64 fA) ∧ W.cell? ⟨gx, 8, none⟩ = some (.string eA) ∧ W.cell? ⟨gx, 9, none⟩ = some (.string dA) ∧ W.cell? ⟨gx, 10, none⟩ = some (.int .i64 pA) ∧ Below w7.heap.size w7 W) (first | (go_keep; done) | exact HSS.out _ (Below.drew (Below.refl _ _)) | exact HSS.out _ (Below.drew (by go_split_ands; assumption)) | exact HSS.out _ (below_step (by go_split_ands; assumption) (by assumption)) | (go_split_ands; assumption)) (first | (go_at_call 17; refine (HRP.out _ (by go_split_ands; assumption)).mono ?_; rintro e w' ⟨rfl, hbA⟩) | (go_at_call 15; refine (HCk.out _).mono ?_; rintro e w' ⟨rfl, hbB⟩) | (go_at_call 18; refine (HMy.out _ _ _).mono ?_; rintro e w' ⟨rfl, hbC⟩))
      all_goals
        go_wp2_with fail
        go_meet
        exact ⟨by simp, by first | assumption | (go_split_ands; assumption)⟩
    case rest =>
    obtain ⟨rfl, hb⟩ := hcut
    rename World => w8
    have hP8 := hP7.later hb
    have hR8 := hR7.later hb
    have hz8 := hz7.later hb
    have hb8 := hbw.trans (hb.mono hbw.size)
    clear hP7 hR7 hz7 hbw hb HSS x0 x1 x2 x3 x4 x5 x6 x7 x8 x9 x10 y0 y1 y2 y3 y4 y5 y6 y7 y8 y9 y10
    obtain ⟨x0, x1, x2, x3, x4, x5, x6, x7, x8, x9, x10⟩ := hP8.cells
    obtain ⟨y0, y1, y2, y3, y4, y5, y6, y7, y8, y9, y10⟩ := hR8.cells

    go_wp2_with ((go_at_call 18; refine (HMy.out _ _ _).mono ?_; rintro e w' ⟨rfl, hb9⟩))
    go_ret
    exact ⟨rfl, hb8.trans (hb9.mono hb8.size)⟩
end Go.Proofs.Ytiffocdohknopaa.rtpBack
