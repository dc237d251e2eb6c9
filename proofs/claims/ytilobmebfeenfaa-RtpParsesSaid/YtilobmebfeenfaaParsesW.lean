/- RtpParses: the walk. -/
import Derived.Test.YtilobmebfeenfaaRtpDP
namespace Go.Proofs.Ytilobmebfeenfaa
open Go.RowKit rtpApart
set_option linter.unusedVariables false
def zeroPK : PK := ⟨false, 0, 0, 0, 0, [], false, 0, { data := #[] }, { data := #[] }, 0⟩
/-- What both find: an error's number and a packet. -/
def found (s : ByteArray) : Int × PK := match refP s with
  | .inl e => (e, zeroPK)
  | .inr p => (0, p)
theorem parse_found (s : ByteArray) (w : World) (hs : s.size ≤ 1099511627776) : Calls Try.prog 8 #[.string s] w fun e w' => Below w.heap.size w w' ∧ ∃ a c, e = .returned (.tuple #[.agg ((found s).2.cells a c), .int .i64 (found s).1]) ∧ Reads .u32 w' a (found s).2.others := by
  have h : Calls Try.prog 8 #[.string s] w (Parsed s w) := by
    by_cases h : s.size < 12
    · exact parseShort_any s w h
    · exact parseLong_any s w h hs
  refine h.mono ?_
  rintro e w' ⟨hb, ⟨er, he, hr⟩ | ⟨p, a, c, he, hr, ho⟩⟩
  · rw [parse_ref] at hr
    unfold found
    rw [hr]
    exact ⟨hb, none, 0, he, .inl rfl⟩
  · rw [parse_ref] at hr
    unfold found
    rw [hr]
    obtain ⟨_, _, e5, _, _, _, hv⟩ := own_reads ho
    cases e5
    exact ⟨hb, a, c, he, hv⟩
theorem doc_found (s : ByteArray) (w : World) (hs : s.size ≤ 1099511627776) : Calls Try.prog 9 #[.string s] w fun e w' => Below w.heap.size w w' ∧ ∃ a c, e = .returned (.tuple #[.agg ((found s).2.rcells a c), .int .i64 (found s).1]) ∧ Reads .i64 w' a (found s).2.others := by
  have h : Calls Try.prog 9 #[.string s] w (ParsedD s w) := by
    by_cases h : s.size < 12
    · exact refParseShort_any s w h
    · exact refParseLong_any s w h hs
  refine h.mono ?_
  rintro e w' ⟨hb, ⟨er, he, hr⟩ | ⟨p, a, c, he, hr, ho⟩⟩
  · unfold found
    rw [hr]
    exact ⟨hb, none, 0, he, .inl rfl⟩
  · unfold found
    rw [hr]
    obtain ⟨_, _, e5, _, _, _, hv⟩ := own_reads ho
    cases e5
    exact ⟨hb, a, c, he, hv⟩
theorem found_ok (s : ByteArray) (hs : s.size ≤ 1000) : (found s).2.ok ∧ (found s).2.others.length ≤ 1000 ∧ (found s).2.ext.size ≤ 300000 ∧ (found s).2.data.size ≤ 1000000 ∧ ((found s).1 = 0 → mayOk (found s).2 ∧ packS (found s).2 = s) := by
  have hz : zeroPK.ok ∧ zeroPK.others.length ≤ 1000 ∧ zeroPK.ext.size ≤ 300000 ∧ zeroPK.data.size ≤ 1000000 := ⟨⟨by decide, by decide, by decide, by intro x hx; cases hx⟩, by decide, by decide, by decide⟩
  unfold found
  cases hr : refP s with
  | inl e =>
    refine ⟨hz.1, hz.2.1, hz.2.2.1, hz.2.2.2, fun h => ?_⟩
    exact absurd h (ref_err s e hr)
  | inr p =>
    obtain ⟨h1, h2, h3⟩ := ref_pack s p hr
    have hsz : (packL p).length = s.size := by rw [← ofL_size, h3]
    have hd : p.data.size ≤ s.size := by
      rw [← hsz]
      unfold packL
      simp only [List.length_append, by_len]
      omega
    refine ⟨h2, by have := h1.1.2.2.1; show p.others.length ≤ _; omega, ?_, by show p.data.size ≤ _; omega, fun _ => ⟨h1, by rw [packS, if_pos h1, h3]⟩⟩
    obtain ⟨_, _, _, hf, ht⟩ := h1.1
    show p.ext.size ≤ _
    cases hx : p.hx
    · have := (hf hx).2; omega
    · have := (ht hx).2.2.2; omega
namespace rtpParses
set_option maxRecDepth 100000 in
set_option maxHeartbeats 4000000 in
theorem walk (s0 : ByteArray) (w0 : s0.size ≤ maxLen) (w : World) : Calls Try.prog 3 #[.string s0] w fun e w' => e = .returned (.bool true) ∧ Below w.heap.size w w' := by
  unfold maxLen at w0
  have HC0 : ∀ W : World, _ := fun W => cut_any s0 300 W (by omega) (by omega)
  have hc := (cut_size s0 300).1
  generalize cutB s0 300 = s at HC0 hc
  have HC := Lib.hid HC0
  clear HC0
  obtain ⟨f1, f2, f3, f4, f5⟩ := found_ok s (by omega)
  have HP0 := fun W => parse_found s W (by omega)
  have HD0 := fun W => doc_found s W (by omega)
  generalize (found s).1 = er at HP0 HD0 f5
  generalize (found s).2 = P at HP0 HD0 f1 f2 f3 f4 f5
  have HK := Lib.hid f1
  have HF := Lib.hid f5
  clear f1 f5
  obtain ⟨mA, kA, sA, tA, rA, oA, hA, fA, eA, dA, pA⟩ := P
  simp only [PK.cells, PK.rcells] at HP0 HD0 f2 f3 f4
  have HP := Lib.hid HP0
  have HD := Lib.hid HD0
  clear HP0 HD0
  go_enter Try.func3, Try.ntmps3
  go_wp2_with fail
  refine (rtpAwake_any _).mono ?_
  rintro e w1 ⟨rfl, hb1⟩
  go_wp2_with fail
  refine (HC.out _).mono ?_
  rintro e w' ⟨rfl, rfl⟩
  go_wp2_with fail
  refine (HP.out _).mono ?_
  rintro e w2 ⟨hb2, ap, cp, rfl, hr2⟩
  have hP3 := pk_at w2 w2.heap.size (.bool mA) (.int .i64 kA) (.int .u16 sA) (.int .u32 tA) (.int .u32 rA) (.slice ap oA.length cp) (.bool hA) (.int .i64 fA) (.string eA) (.string dA) (.int .i64 pA) rfl
  have hr3 := hr2.later ((Below.refl _ _).alloc (Nat.le_refl _) (.cells #[.bool mA, .int .i64 kA, .int .u16 sA, .int .u32 tA, .int .u32 rA, .slice ap oA.length cp, .bool hA, .int .i64 fA, .string eA, .string dA, .int .i64 pA] 30))
  have hb3 := (hb1.trans (hb2.mono hb1.size)).alloc (hb1.trans (hb2.mono hb1.size)).size (.cells #[.bool mA, .int .i64 kA, .int .u16 sA, .int .u32 tA, .int .u32 rA, .slice ap oA.length cp, .bool hA, .int .i64 fA, .string eA, .string dA, .int .i64 pA] 30)
  go_upto_region 5 with fail
  generalize w2.alloc (.cells #[.bool mA, .int .i64 kA, .int .u16 sA, .int .u32 tA, .int .u32 rA, .slice ap oA.length cp, .bool hA, .int .i64 fA, .string eA, .string dA, .int .i64 pA] 30) = w3 at hP3 hr3 hb3 ⊢
  generalize w2.heap.size = gp at hP3 ⊢
  clear hr2 hb1 hb2
  go_wp2_with fail
  refine (HD.out _).mono ?_
  rintro e w4 ⟨hb4, ax, cx, rfl, hz4⟩
  have hP4 := hP3.later hb4
  have hr4 := hr3.later hb4
  have hX5 := rk_new w4 w4.heap.size (.bool mA) (.int .i64 kA) (.int .i64 sA) (.int .i64 tA) (.int .i64 rA) (.slice ax oA.length cx) (.bool hA) (.int .i64 fA) (.string eA) (.string dA) (.int .i64 pA) rfl
  have hP5 := hP4.later ((Below.refl _ _).alloc (Nat.le_refl _) (.cells #[.bool mA, .int .i64 kA, .int .i64 sA, .int .i64 tA, .int .i64 rA, .slice ax oA.length cx, .bool hA, .int .i64 fA, .string eA, .string dA, .int .i64 pA] 36))
  have hr5 := hr4.later ((Below.refl _ _).alloc (Nat.le_refl _) (.cells #[.bool mA, .int .i64 kA, .int .i64 sA, .int .i64 tA, .int .i64 rA, .slice ax oA.length cx, .bool hA, .int .i64 fA, .string eA, .string dA, .int .i64 pA] 36))
  have hz5 := hz4.later ((Below.refl _ _).alloc (Nat.le_refl _) (.cells #[.bool mA, .int .i64 kA, .int .i64 sA, .int .i64 tA, .int .i64 rA, .slice ax oA.length cx, .bool hA, .int .i64 fA, .string eA, .string dA, .int .i64 pA] 36))
  have hb5 := (hb3.trans (hb4.mono hb3.size)).alloc (hb3.trans (hb4.mono hb3.size)).size (.cells #[.bool mA, .int .i64 kA, .int .i64 sA, .int .i64 tA, .int .i64 rA, .slice ax oA.length cx, .bool hA, .int .i64 fA, .string eA, .string dA, .int .i64 pA] 36)
  go_upto_region 6 with fail
  generalize w4.alloc (.cells #[.bool mA, .int .i64 kA, .int .i64 sA, .int .i64 tA, .int .i64 rA, .slice ax oA.length cx, .bool hA, .int .i64 fA, .string eA, .string dA, .int .i64 pA] 36) = w5 at hX5 hP5 hr5 hz5 hb5 ⊢
  generalize w4.heap.size = gx at hX5 ⊢
  clear hP3 hr3 hb3 hb4 hP4 hr4 hz4
  obtain ⟨x0, x1, x2, x3, x4, x5, x6, x7, x8, x9, x10⟩ := hP5.cells
  obtain ⟨y0, y1, y2, y3, y4, y5, y6, y7, y8, y9, y10⟩ := hX5.cells
  have HTq0 : ∀ W : World, Below w5.heap.size w5 W → Calls Try.prog 11 #[.agg #[.bool mA, .int .i64 kA, .int .u16 sA, .int .u32 tA, .int .u32 rA, .slice ap oA.length cp, .bool hA, .int .i64 fA, .string eA, .string dA, .int .i64 pA]] W (ToldR (⟨mA, kA, sA, tA, rA, oA, hA, fA, eA, dA, pA⟩ : PK) W) := fun W hb => told_any (⟨mA, kA, sA, tA, rA, oA, hA, fA, eA, dA, pA⟩ : PK) ap cp W HK.out (by show oA.length ≤ _; omega) (hr5.later hb)
  have HSm0 : ∀ (a a2 : Option Addr) (c c2 : Nat) (W : World) (hr : Reads .i64 W a oA) (hr2 : Reads .i64 W a2 oA), _ := fun a a2 c c2 W hr hr2 => same_any (⟨mA, kA, sA, tA, rA, oA, hA, fA, eA, dA, pA⟩ : PK) (⟨mA, kA, sA, tA, rA, oA, hA, fA, eA, dA, pA⟩ : PK) a a2 c c2 W (by show oA.length ≤ _; omega) (by show oA.length ≤ _; omega) hr hr2 true (by simp)
  unfold ToldR at HTq0
  simp only [PK.rcells] at HTq0 HSm0
  have HTq := Lib.hid HTq0
  have HSm := Lib.hid HSm0
  have Hz := Lib.hid hz5
  have SS : ∀ W : World, Below w5.heap.size w5 W → W.cell? ⟨gp, 0, none⟩ = some (.bool mA) ∧ W.cell? ⟨gp, 1, none⟩ = some (.int .i64 kA) ∧ W.cell? ⟨gp, 2, none⟩ = some (.int .u16 sA) ∧ W.cell? ⟨gp, 3, none⟩ = some (.int .u32 tA) ∧ W.cell? ⟨gp, 4, none⟩ = some (.int .u32 rA) ∧ W.cell? ⟨gp, 5, none⟩ = some (.slice ap oA.length cp) ∧ W.cell? ⟨gp, 6, none⟩ = some (.bool hA) ∧ W.cell? ⟨gp, 7, none⟩ = some (.int .i64 fA) ∧ W.cell? ⟨gp, 8, none⟩ = some (.string eA) ∧ W.cell? ⟨gp, 9, none⟩ = some (.string dA) ∧ W.cell? ⟨gp, 10, none⟩ = some (.int .i64 pA) ∧ W.cell? ⟨gx, 0, none⟩ = some (.bool mA) ∧ W.cell? ⟨gx, 1, none⟩ = some (.int .i64 kA) ∧ W.cell? ⟨gx, 2, none⟩ = some (.int .i64 sA) ∧ W.cell? ⟨gx, 3, none⟩ = some (.int .i64 tA) ∧ W.cell? ⟨gx, 4, none⟩ = some (.int .i64 rA) ∧ W.cell? ⟨gx, 5, none⟩ = some (.slice ax oA.length cx) ∧ W.cell? ⟨gx, 6, none⟩ = some (.bool hA) ∧ W.cell? ⟨gx, 7, none⟩ = some (.int .i64 fA) ∧ W.cell? ⟨gx, 8, none⟩ = some (.string eA) ∧ W.cell? ⟨gx, 9, none⟩ = some (.string dA) ∧ W.cell? ⟨gx, 10, none⟩ = some (.int .i64 pA) ∧ Below w5.heap.size w5 W := fun W hb => by
    obtain ⟨u0, u1, u2, u3, u4, u5, u6, u7, u8, u9, u10⟩ := (hP5.later hb).cells
    obtain ⟨v0, v1, v2, v3, v4, v5, v6, v7, v8, v9, v10⟩ := (hX5.later hb).cells
    exact ⟨u0, u1, u2, u3, u4, u5, u6, u7, u8, u9, u10, v0, v1, v2, v3, v4, v5, v6, v7, v8, v9, v10, hb⟩
  have HSS := Lib.hid SS
  clear SS HTq0 HSm0 hz5
  have hne : (er != er) = false := by simp
  go_cut [30] (fun z wx => z = .bool false ∧ Below w5.heap.size w5 wx)
  case first =>
    go_region_held3 (fun W => W.cell? ⟨gp, 0, none⟩ = some (.bool mA) ∧ W.cell? ⟨gp, 1, none⟩ = some (.int .i64 kA) ∧ W.cell? ⟨gp, 2, none⟩ = some (.int .u16 sA) ∧ W.cell? ⟨gp, 3, none⟩ = some (.int .u32 tA) ∧ W.cell? ⟨gp, 4, none⟩ = some (.int .u32 rA) ∧ W.cell? ⟨gp, 5, none⟩ = some (.slice ap oA.length cp) ∧ W.cell? ⟨gp, 6, none⟩ = some (.bool hA) ∧ W.cell? ⟨gp, 7, none⟩ = some (.int .i64 fA) ∧ W.cell? ⟨gp, 8, none⟩ = some (.string eA) ∧ W.cell? ⟨gp, 9, none⟩ = some (.string dA) ∧ W.cell? ⟨gp, 10, none⟩ = some (.int .i64 pA) ∧ W.cell? ⟨gx, 0, none⟩ = some (.bool mA) ∧ W.cell? ⟨gx, 1, none⟩ = some (.int .i64 kA) ∧ W.cell? ⟨gx, 2, none⟩ = some (.int .i64 sA) ∧ W.cell? ⟨gx, 3, none⟩ = some (.int .i64 tA) ∧ W.cell? ⟨gx, 4, none⟩ = some (.int .i64 rA) ∧ W.cell? ⟨gx, 5, none⟩ = some (.slice ax oA.length cx) ∧ W.cell? ⟨gx, 6, none⟩ = some (.bool hA) ∧ W.cell? ⟨gx, 7, none⟩ = some (.int .i64 fA) ∧ W.cell? ⟨gx, 8, none⟩ = some (.string eA) ∧ W.cell? ⟨gx, 9, none⟩ = some (.string dA) ∧ W.cell? ⟨gx, 10, none⟩ = some (.int .i64 pA) ∧ Below w5.heap.size w5 W) (first | (go_keep; done) | exact HSS.out _ (Below.drew (Below.refl _ _)) | exact HSS.out _ (Below.drew (by go_split_ands; assumption)) | exact HSS.out _ (below_step (by go_split_ands; assumption) (by assumption)) | (go_split_ands; assumption)) (first | (go_at_call 11; refine (HTq.out _ (by go_split_ands; assumption)).mono ?_; rintro e w12 ⟨hbT, ta, tc, rfl, htv⟩; obtain ⟨_, _, e5, _, _, _, hra⟩ := own_reads htv; cases e5) | (go_at_call 10; refine (HSm.out ta ax tc cx _ hra (Hz.out.later (by go_split_ands; assumption))).mono ?_; rintro e w13 ⟨rfl, hbS⟩))
    all_goals
      go_wp2_with fail
      go_meet
      exact ⟨by simp, by first | assumption | (go_split_ands; assumption)⟩
  case rest =>
  obtain ⟨rfl, hb⟩ := hcut
  rename World => w6
  have hP6 := hP5.later hb
  have hr6 := hr5.later hb
  have hb6 := hb5.trans (hb.mono hb5.size)
  clear hP5 hX5 hr5 hb5 hb HSS x0 x1 x2 x3 x4 x5 x6 x7 x8 x9 x10 y0 y1 y2 y3 y4 y5 y6 y7 y8 y9 y10
  obtain ⟨x0, x1, x2, x3, x4, x5, x6, x7, x8, x9, x10⟩ := hP6.cells
  by_cases he : er = 0
  · subst he
    obtain ⟨hm, hpk⟩ := HF.out rfl
    have HPk0 := pack_any (⟨mA, kA, sA, tA, rA, oA, hA, fA, eA, dA, pA⟩ : PK) ap cp w6 (by show eA.size ≤ _; omega) (by show oA.length ≤ _; omega) (by show dA.size ≤ _; omega) HK.out hr6
    have HCk0 : ∀ W : World, _ := fun W => check_b (⟨mA, kA, sA, tA, rA, oA, hA, fA, eA, dA, pA⟩ : PK) ap cp W (by show eA.size ≤ _; omega) (by show oA.length ≤ _; omega) 0 (.inl ⟨rfl, hm⟩)
    rw [hpk] at HPk0
    simp only [PK.cells] at HPk0 HCk0
    have HPk := Lib.hid HPk0
    have HCk := Lib.hid HCk0
    clear HPk0 HCk0 hpk hm
    go_wp2_with fail
    refine HPk.out.mono ?_
    rintro e w7 ⟨rfl, hb7⟩
    have hP7 := hP6.later hb7
    clear x0 x1 x2 x3 x4 x5 x6 x7 x8 x9 x10
    obtain ⟨x0, x1, x2, x3, x4, x5, x6, x7, x8, x9, x10⟩ := hP7.cells
    go_wp2_with fail
    refine (HCk.out _).mono ?_
    rintro e w8 ⟨rfl, hb8⟩
    go_wp2
    go_ret
    exact ⟨by simp, hb6.trans ((hb7.trans (hb8.mono hb7.size)).mono hb6.size)⟩
  · have he' : (er != 0) = true := by simpa using he
    go_wp2
    go_ret
    exact ⟨rfl, hb6⟩
end rtpParses
end Go.Proofs.Ytilobmebfeenfaa
