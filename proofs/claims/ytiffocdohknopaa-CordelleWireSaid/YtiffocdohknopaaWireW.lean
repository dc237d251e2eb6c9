/- CordelleWire: the walk. -/
import Derived.Test.YtiffocdohknopaaWireM
namespace Go.Proofs.Ytiffocdohknopaa.cordelleWire
theorem hdrL_ge (p : PK) (b : Bool) : 12 ≤ (hdrL p b).length := by
  unfold hdrL
  simp only [List.length_append, be_len]
  omega
theorem rem_c1b (b : Nat) (w : World) (hb : b = w.heap.size) :
    Calls Try.prog 25 #[.slice (some ⟨b, 0, none⟩) 1 1] (w.alloc (.cells #[.string { data := #[1] }] 9)) fun e w' => e = .returned (.int .u32 1) ∧ w.alloc (.cells #[.string { data := #[1] }] 9) = w' := by
  subst hb
  exact rem_c1 w
theorem ctrl_c : false = true ↔ (1 < ({ data := #[128, 96] } : ByteArray).size ∧ ((by_ { data := #[128, 96] })[1]?.getD 0).toNat / 32 = 6) := by decide +kernel
open Go.RowKit rtpApart
set_option linter.unusedVariables false
set_option maxRecDepth 100000 in
set_option maxHeartbeats 12000000 in
theorem walk (q0 : PK) (a0 : Option Addr) (c0 : Nat) (at_ : Int) (a2 : Int) (m0a : q0.ok) (m0b : q0.ext.size ≤ maxLen) (m0c : q0.data.size ≤ maxLen) (m0d : q0.others.length ≤ c0) (m0e : c0 ≤ 9223372036854775807) (m0g : (a0 = none ∧ c0 = 0) ∨ ∃ b off, a0 = some ⟨b, off, none⟩)
    (w1 : (Lit.int .i64 at_).wf = true) (w2 : (Lit.int .u32 a2).wf = true) (w : World) (m0f : Reads .u32 w a0 q0.others) :
    Calls Try.prog 7 #[.agg (q0.cells a0 c0), .int .i64 at_, .int .u32 a2] w fun e w' => e = .returned (.bool true) ∧ Below w.heap.size w w' := by
  unfold maxLen at m0b m0c
  obtain ⟨m, rfl, hm⟩ : ∃ m : Nat, a2 = (m : Int) ∧ m < 4294967296 := ⟨a2.toNat, by have := u32_bd w2; omega, by have := u32_bd w2; omega⟩
  have HC0 : ∀ W : World, Below w.heap.size w W → Calls Try.prog 16 #[.agg (q0.cells a0 c0)] W (CutR q0 W) := fun W hb => pcut_any q0 a0 c0 W (by omega) (by omega) m0d m0e (m0f.later hb) m0g
  unfold CutR at HC0
  have hk0 := cutP_ok m0a
  have hs0 := cutP_small q0
  generalize cutP q0 = P0 at HC0 hk0 hs0
  clear m0a m0b m0c m0d m0e m0f m0g w1 w2
  obtain ⟨hl0, he0, hd0⟩ := hs0
  have HK0 := Lib.hid hk0
  clear hk0
  obtain ⟨mA, kA, sA, tA, rA, oA, hA, fA, eA, dA, pA⟩ := P0
  obtain ⟨D, hD⟩ : ∃ D : ByteArray, { data := #[0, 0, 0, 0] } ++ dA = D := ⟨_, rfl⟩
  have hadd : ∀ W : World, Sem.run Try.prog (Op.stringOp .add { data := #[0, 0, 0, 0] } dA) W = Result.ok (.string D) W := fun W => by
    rw [← hD]
    exact run_string_add_sum _ _ _ (by simp only at hd0; have e4 : ({ data := #[0, 0, 0, 0] } : ByteArray).size = 4 := rfl; omega)
  have HD := Lib.hid hD
  clear hD
  obtain ⟨mrk, kind, seq, time, source, others, hx, prof, ext, data, pad⟩ := q0
  simp only [PK.cells] at *
  have HC0' := Lib.hid HC0
  clear HC0
  have hX0 : PkIn (w.alloc (.cells #[.bool mrk, .int .i64 kind, .int .u16 seq, .int .u32 time, .int .u32 source, .slice a0 others.length c0, .bool hx, .int .i64 prof, .string ext, .string data, .int .i64 pad] 30)) w.heap.size (.bool mrk) (.int .i64 kind) (.int .u16 seq) (.int .u32 time) (.int .u32 source) (.slice a0 others.length c0) (.bool hx) (.int .i64 prof) (.string ext) (.string data) (.int .i64 pad) := heap_alloc_new w _
  have hb0 : Below w.heap.size w (w.alloc (.cells #[.bool mrk, .int .i64 kind, .int .u16 seq, .int .u32 time, .int .u32 source, .slice a0 others.length c0, .bool hx, .int .i64 prof, .string ext, .string data, .int .i64 pad] 30)) := by go_grown
  have hsz : w.heap.size + 1 = (w.alloc (.cells #[.bool mrk, .int .i64 kind, .int .u16 seq, .int .u32 time, .int .u32 source, .slice a0 others.length c0, .bool hx, .int .i64 prof, .string ext, .string data, .int .i64 pad] 30)).heap.size := by simp
  have HI : ∀ W : World, _ := fun W => ctrl_any { data := #[128, 96] } W (by decide) false ctrl_c
  go_enter Try.func7, Try.ntmps7
  go_wp2_with ((go_at_call 24; refine (HI _).mono ?_; rintro e w' ⟨rfl, rfl⟩))
  generalize w.alloc (.cells #[.bool mrk, .int .i64 kind, .int .u16 seq, .int .u32 time, .int .u32 source, .slice a0 others.length c0, .bool hx, .int .i64 prof, .string ext, .string data, .int .i64 pad] 30) = w1 at hX0 hb0 hsz ⊢
  go_wp2_with fail
  have hb1 : Below w1.heap.size w1 (w1.alloc (.cells #[.string { data := #[1] }] 9)) := (Below.refl _ _).alloc (Nat.le_refl _) _
  have hr1 := Lib.hid (rem_c1 w1)
  refine hr1.out.mono ?_
  intro e w2 he
  obtain ⟨rfl, he2⟩ := he
  rw [he2] at hb1
  clear he2
  clear HI hr1
  have hP0 := hX0.later hb1
  have hb2 := hb0.trans (hb1.mono hb0.size)
  clear hX0 hb0 hb1
  generalize hg0 : w.heap.size = g0 at hP0 ⊢
  obtain ⟨x0, x1, x2, x3, x4, x5, x6, x7, x8, x9, x10⟩ := hP0.cells
  have Hg0 := Lib.hid hg0
  clear hg0
  go_wp2_with fail
  refine (HC0'.out _ hb2).mono ?_
  rintro e w3 ⟨hb3, ad2, cc2, rfl, hv2⟩
  have hA3 := hP0.later hb3
  clear x0 x1 x2 x3 x4 x5 x6 x7 x8 x9 x10
  obtain ⟨x0, x1, x2, x3, x4, x5, x6, x7, x8, x9, x10⟩ := hA3.cells
  obtain ⟨f0, f1, f2, f3, f4, f5, f6, f7, f8, f9, f10⟩ := hA3.frees
  have hA4 := pk_store (.bool mA) (.int .i64 kA) (.int .u16 sA) (.int .u32 tA) (.int .u32 rA) (.slice ad2 oA.length cc2) (.bool hA) (.int .i64 fA) (.string eA) (.string dA) (.int .i64 pA) hA3
  have hv4 := own_only hv2 hA3 (pk_ne _) (pk_store_only w3 g0 (.bool mA) (.int .i64 kA) (.int .u16 sA) (.int .u32 tA) (.int .u32 rA) (.slice ad2 oA.length cc2) (.bool hA) (.int .i64 fA) (.string eA) (.string dA) (.int .i64 pA))
  have hb4 := below_store (hb2.trans (hb3.mono hb2.size)) (Nat.le_of_eq Hg0.out) (.bool mA) (.int .i64 kA) (.int .u16 sA) (.int .u32 tA) (.int .u32 rA) (.slice ad2 oA.length cc2) (.bool hA) (.int .i64 fA) (.string eA) (.string dA) (.int .i64 pA)
  go_upto_region 4 with fail
  generalize (((((((((((w3.setCell ⟨g0, 0, none⟩ (.bool mA)).setCell ⟨g0, 1, none⟩ (.int .i64 kA)).setCell ⟨g0, 2, none⟩ (.int .u16 sA)).setCell ⟨g0, 3, none⟩ (.int .u32 tA)).setCell ⟨g0, 4, none⟩ (.int .u32 rA)).setCell ⟨g0, 5, none⟩ (.slice ad2 oA.length cc2)).setCell ⟨g0, 6, none⟩ (.bool hA)).setCell ⟨g0, 7, none⟩ (.int .i64 fA)).setCell ⟨g0, 8, none⟩ (.string eA)).setCell ⟨g0, 9, none⟩ (.string dA)).setCell ⟨g0, 10, none⟩ (.int .i64 pA)) = w4 at hA4 hv4 hb4 ⊢
  clear x0 x1 x2 x3 x4 x5 x6 x7 x8 x9 x10 f0 f1 f2 f3 f4 f5 f6 f7 f8 f9 f10 hA3 hv2 hb3 hb2 hP0 HC0'
  obtain ⟨x0, x1, x2, x3, x4, x5, x6, x7, x8, x9, x10⟩ := hA4.cells
  obtain ⟨f0, f1, f2, f3, f4, f5, f6, f7, f8, f9, f10⟩ := hA4.frees
  go_upto_region 5 with fail
  have hP4 : PkIn (w4.setCell ⟨g0, 9, none⟩ (.string D)) g0 (.bool mA) (.int .i64 kA) (.int .u16 sA) (.int .u32 tA) (.int .u32 rA) (.slice ad2 oA.length cc2) (.bool hA) (.int .i64 fA) (.string eA) (.string D) (.int .i64 pA) := block_setCell hA4
  have hP5 : PkIn ((w4.setCell ⟨g0, 9, none⟩ (.string D)).setCell ⟨g0, 10, none⟩ (.int .i64 0)) g0 (.bool mA) (.int .i64 kA) (.int .u16 sA) (.int .u32 tA) (.int .u32 rA) (.slice ad2 oA.length cc2) (.bool hA) (.int .i64 fA) (.string eA) (.string D) (.int .i64 0) := block_setCell hP4
  have hv5 := own_set (i := 10) (u := .int .i64 0) (own_set (i := 9) (u := .string D) hv4 hA4) hP4
  have hb5 := (hb4.setCell (p := ⟨g0, 9, none⟩) (Nat.le_of_eq Hg0.out) (.string D)).setCell (p := ⟨g0, 10, none⟩) (Nat.le_of_eq Hg0.out) (.int .i64 0)
  generalize (w4.setCell ⟨g0, 9, none⟩ (.string D)).setCell ⟨g0, 10, none⟩ (.int .i64 0) = w5 at hP5 hv5 hb5 ⊢
  clear hP4 hA4 hv4 hb4 x0 x1 x2 x3 x4 x5 x6 x7 x8 x9 x10 f0 f1 f2 f3 f4 f5 f6 f7 f8 f9 f10 hadd
  obtain ⟨_, _, e5, _, _, _, hr5⟩ := own_reads hv5
  cases e5
  have Hv5 := Lib.hid hv5
  clear hv5
  obtain ⟨x0, x1, x2, x3, x4, x5, x6, x7, x8, x9, x10⟩ := hP5.cells
  have hDs : D.size = 4 + dA.size := by rw [← HD.out, ByteArray.size_append]; rfl
  have hDe : D.extract 4 D.size = dA := by
    apply by_inj
    rw [by_extract _ _ _ (Nat.le_refl _), take_all, ← HD.out, by_append]
    rfl
  have HKD : Hid (⟨mA, kA, sA, tA, rA, oA, hA, fA, eA, D, 0⟩ : PK).ok := HK0
  have HPk : ∀ W : World, Below w5.heap.size w5 W → Calls Try.prog 14 #[.agg #[.bool mA, .int .i64 kA, .int .u16 sA, .int .u32 tA, .int .u32 rA, .slice ad2 oA.length cc2, .bool hA, .int .i64 fA, .string eA, .string D, .int .i64 0]] W fun e w' => e = .returned (.string (packS (⟨mA, kA, sA, tA, rA, oA, hA, fA, eA, D, 0⟩ : PK))) ∧ Below W.heap.size W w' := fun W hb => pack_any (⟨mA, kA, sA, tA, rA, oA, hA, fA, eA, D, 0⟩ : PK) ad2 cc2 W (by show eA.size ≤ _; omega) (by show oA.length ≤ _; omega) (by show D.size ≤ _; omega) HKD.out (hr5.later hb)
  have HTo : ∀ W : World, Below w5.heap.size w5 W → Calls Try.prog 13 #[.agg #[.bool mA, .int .i64 kA, .int .u16 sA, .int .u32 tA, .int .u32 rA, .slice ad2 oA.length cc2, .bool hA, .int .i64 fA, .string eA, .string D, .int .i64 0]] W (ToldR (⟨mA, kA, sA, tA, rA, oA, hA, fA, eA, D, 0⟩ : PK) W) := fun W hb => told_any (⟨mA, kA, sA, tA, rA, oA, hA, fA, eA, D, 0⟩ : PK) ad2 cc2 W HKD.out (by show oA.length ≤ _; omega) (hr5.later hb)
  by_cases cm : mayOk (⟨mA, kA, sA, tA, rA, oA, hA, fA, eA, D, 0⟩ : PK)
  · obtain ⟨d2, hd2s, hd2e, hT, hpar⟩ := wire_seal (⟨mA, kA, sA, tA, rA, oA, hA, fA, eA, D, 0⟩ : PK) cm HKD.out rfl dA HD.out.symm
    have hS : packS (⟨mA, kA, sA, tA, rA, oA, hA, fA, eA, D, 0⟩ : PK) = ofL (packL (⟨mA, kA, sA, tA, rA, oA, hA, fA, eA, D, 0⟩ : PK)) := by rw [packS, if_pos cm]
    have hSz : (packS (⟨mA, kA, sA, tA, rA, oA, hA, fA, eA, D, 0⟩ : PK)).size = (hdrL (⟨mA, kA, sA, tA, rA, oA, hA, fA, eA, D, 0⟩ : PK) false).length + D.size := by rw [hS, ofL_size, packL_nopad _ rfl, List.length_append, by_len]
    have hHl := hdrL_len (⟨mA, kA, sA, tA, rA, oA, hA, fA, eA, D, 0⟩ : PK) false cm.1
    have hby : by_ (packS (⟨mA, kA, sA, tA, rA, oA, hA, fA, eA, D, 0⟩ : PK)) = packL (⟨mA, kA, sA, tA, rA, oA, hA, fA, eA, D, 0⟩ : PK) := by rw [hS, by_ofL]
    have hs1 := seal_any (packS (⟨mA, kA, sA, tA, rA, oA, hA, fA, eA, D, 0⟩ : PK)) (hdrL (⟨mA, kA, sA, tA, rA, oA, hA, fA, eA, D, 0⟩ : PK) false).length
    rw [hby, hT] at hs1
    have hz : remOf (by_ (ofL (packL (⟨mA, kA, sA, tA, rA, oA, hA, fA, eA, d2, 0⟩ : PK)))) = 0#32 := by
      rw [← hT, by_ofL]
      exact sealL_right _ _ (by rw [packL_nopad _ rfl, List.length_append, by_len]; show _ ≤ _ + D.size; omega)
    have hTs : (ofL (packL (⟨mA, kA, sA, tA, rA, oA, hA, fA, eA, d2, 0⟩ : PK))).size = (packS (⟨mA, kA, sA, tA, rA, oA, hA, fA, eA, D, 0⟩ : PK)).size := by
      rw [hSz, ofL_size, packL_nopad _ rfl, List.length_append, by_len, hdrL_data (⟨mA, kA, sA, tA, rA, oA, hA, fA, eA, D, 0⟩ : PK) false d2]
      show _ + d2.size = _
      omega
    have hH12 : 12 ≤ (hdrL (⟨mA, kA, sA, tA, rA, oA, hA, fA, eA, D, 0⟩ : PK) false).length := hdrL_ge _ _
    have hK2 : Hid (⟨mA, kA, sA, tA, rA, oA, hA, fA, eA, d2, 0⟩ : PK).ok := HK0
    clear hT hS hby cm
    simp only at hpar hs1 hSz hHl hz hTs hH12
    generalize packS (⟨mA, kA, sA, tA, rA, oA, hA, fA, eA, D, 0⟩ : PK) = S at HPk hs1 hSz hTs
    generalize ofL (packL (⟨mA, kA, sA, tA, rA, oA, hA, fA, eA, d2, 0⟩ : PK)) = T at hs1 hz hpar hTs
    generalize (hdrL (⟨mA, kA, sA, tA, rA, oA, hA, fA, eA, D, 0⟩ : PK) false).length = h at hs1 hSz hHl hH12
    have nS : S.toList.isEmpty = false := by rw [isEmpty_size, decide_eq_false_iff_not]; omega
    have hs1' : ∀ W : World, _ := fun W => hs1 W (by omega) (by omega)
    have hq2 : (S.size : Int) - (D.size : Int) = (h : Int) := by omega
    have hq1 : wrap64 ((S.size : Int) - (D.size : Int)) = (h : Int) := by rw [hq2]; exact IntWalk.wrap64_in _ (by omega)
    have Hq1 := Lib.hid hq1
    clear hq1 hq2
    have hRT : ∀ W : World, Calls Try.prog 27 #[.string T] W fun e w' => e = .returned (.bool true) ∧ Below W.heap.size W w' := fun W => by
      have := right_any T W (by omega)
      rw [hz] at this
      exact this
    have HPar : ∀ W : World, Calls Try.prog 10 #[.string T] W fun e w' => Below W.heap.size W w' ∧ ∃ a c, e = .returned (.tuple #[.agg #[.bool mA, .int .i64 kA, .int .u16 sA, .int .u32 tA, .int .u32 rA, .slice a oA.length c, .bool hA, .int .i64 fA, .string eA, .string d2, .int .i64 0], .int .i64 0]) ∧ w'.ownsRow W.heap.size 25 1 (.slice a oA.length c) oA.length (oA.map (Value.int .u32)) := fun W => by
      refine (parseLong_any T W (by omega) (by omega)).mono ?_
      rintro e w' ⟨hb, ⟨er, _, he⟩ | ⟨p, a, c, he, hp, ho⟩⟩
      · rw [hpar] at he; cases he
      · rw [hpar] at hp
        obtain rfl := Sum.inr.inj hp
        exact ⟨hb, a, c, he, ho⟩
    have hTu := fun W => turn_any T at_ m W (by omega) hm
    have hwt := wire_turn T at_ m hz
    have hUs : (ofL (turnL (by_ T) at_ m)).size = T.size := by rw [ofL_size, turnL_len, by_len]
    have hUe := texts_eq (ofL (turnL (by_ T) at_ m)) T
    generalize ofL (turnL (by_ T) at_ m) = U at hTu hwt hUs hUe
    have hRU : ∀ W : World, Calls Try.prog 27 #[.string U] W fun e w' => e = .returned (.bool (decide (U = T))) ∧ Below W.heap.size W w' := fun W => by
      have := right_any U W (by omega)
      rw [hwt] at this
      exact this
    generalize decide (U = T) = bU at hUe hRU
    have hsl : ((d2.extract 4 d2.size).toList == (D.extract 4 D.size).toList) = true := by rw [hd2e, hDe]; simp
    have h4a : (4 : Int) ≤ (d2.size : Int) := by omega
    have h4b : (4 : Int) ≤ (D.size : Int) := by omega
    have HTq : ∀ (a : Option Addr) (c : Nat) (W : World), Reads .u32 W a oA → Calls Try.prog 13 #[.agg #[.bool mA, .int .i64 kA, .int .u16 sA, .int .u32 tA, .int .u32 rA, .slice a oA.length c, .bool hA, .int .i64 fA, .string eA, .string d2, .int .i64 0]] W (ToldR (⟨mA, kA, sA, tA, rA, oA, hA, fA, eA, d2, 0⟩ : PK) W) := fun a c W hr => told_any (⟨mA, kA, sA, tA, rA, oA, hA, fA, eA, d2, 0⟩ : PK) a c W hK2.out (by show oA.length ≤ _; omega) hr
    have HSm : ∀ (a a2 : Option Addr) (c c2 : Nat) (W : World) (hr : Reads .i64 W a oA) (hr2 : Reads .i64 W a2 oA), _ := fun a a2 c c2 W hr hr2 => same_any (⟨mA, kA, sA, tA, rA, oA, hA, fA, eA, d2, 0⟩ : PK) (⟨mA, kA, sA, tA, rA, oA, hA, fA, eA, d2, 0⟩ : PK) a a2 c c2 W (by show oA.length ≤ _; omega) (by show oA.length ≤ _; omega) hr hr2 true (by simp)
    unfold ToldR at HTq
    simp only [PK.rcells] at HTq HSm
    have HPk' := Lib.hid HPk
    have Hs1' := Lib.hid hs1'
    have HRT' := Lib.hid hRT
    have HPar' := Lib.hid HPar
    have HTu' := Lib.hid hTu
    have HRU' := Lib.hid hRU
    have HTq' := Lib.hid HTq
    have HSm' := Lib.hid HSm
    have Hr5 := Lib.hid hr5
    clear HPk hs1 hs1' hRT HPar hTu hRU HTq HSm hwt hz hpar hTs hd2e hDe hd2s hUs HTo hr5 hH12 hHl hSz hDs
    go_wp2_with fail
    refine (HPk'.out _ (Below.refl _ _)).mono ?_
    rintro e w6 ⟨rfl, hb6⟩
    have hP6 := hP5.later hb6
    clear x0 x1 x2 x3 x4 x5 x6 x7 x8 x9 x10
    obtain ⟨x0, x1, x2, x3, x4, x5, x6, x7, x8, x9, x10⟩ := hP6.cells
    have hb6' := hb5.trans (hb6.mono hb5.size)
    go_wp2_with fail
    rw [Hq1.out]
    refine (Hs1'.out _).mono ?_
    rintro e w7 ⟨rfl, hb7⟩
    have hP7 := hP6.later hb7
    have hb7' := hb6'.trans (hb7.mono hb6'.size)
    have hb57 := hb6.trans (hb7.mono hb6.size)
    go_wp2_with fail
    refine (HPar'.out _).mono ?_
    rintro e w8 ⟨hb8, a8, c8, rfl, hv8⟩
    have hP8 := hP7.later hb8
    have hb8' := hb7'.trans (hb8.mono hb7'.size)
    have hb58 := hb57.trans (hb8.mono hb57.size)
    clear hb6 hb7 hb8 hb57 hP6 hP7 hb6' hb7'
    clear x0 x1 x2 x3 x4 x5 x6 x7 x8 x9 x10
    obtain ⟨x0, x1, x2, x3, x4, x5, x6, x7, x8, x9, x10⟩ := hP8.cells
    go_upto_region 10 with fail
    have hN9 := pk_at w8 w8.heap.size (.bool mA) (.int .i64 kA) (.int .u16 sA) (.int .u32 tA) (.int .u32 rA) (.slice a8 oA.length c8) (.bool hA) (.int .i64 fA) (.string eA) (.string d2) (.int .i64 0) rfl
    have hP9 := hP8.later ((Below.refl _ _).alloc (Nat.le_refl _) (.cells #[.bool mA, .int .i64 kA, .int .u16 sA, .int .u32 tA, .int .u32 rA, .slice a8 oA.length c8, .bool hA, .int .i64 fA, .string eA, .string d2, .int .i64 0] 30))
    have hv9 := hv8.alloc (.cells #[.bool mA, .int .i64 kA, .int .u16 sA, .int .u32 tA, .int .u32 rA, .slice a8 oA.length c8, .bool hA, .int .i64 fA, .string eA, .string d2, .int .i64 0] 30)
    have hb9 := hb8'.alloc hb8'.size (.cells #[.bool mA, .int .i64 kA, .int .u16 sA, .int .u32 tA, .int .u32 rA, .slice a8 oA.length c8, .bool hA, .int .i64 fA, .string eA, .string d2, .int .i64 0] 30)
    have hb59 := hb58.alloc hb58.size (.cells #[.bool mA, .int .i64 kA, .int .u16 sA, .int .u32 tA, .int .u32 rA, .slice a8 oA.length c8, .bool hA, .int .i64 fA, .string eA, .string d2, .int .i64 0] 30)
    have hne9 : g0 ≠ w8.heap.size := by have := hP8.lt; omega
    have hB9 : w.heap.size ≤ w8.heap.size := hb8'.size
    clear hv8 hb8' hb58 hP8 x0 x1 x2 x3 x4 x5 x6 x7 x8 x9 x10
    generalize w8.alloc (.cells #[.bool mA, .int .i64 kA, .int .u16 sA, .int .u32 tA, .int .u32 rA, .slice a8 oA.length c8, .bool hA, .int .i64 fA, .string eA, .string d2, .int .i64 0] 30) = w9 at hN9 hP9 hv9 hb9 hb59 ⊢
    generalize w8.heap.size = g2 at hN9 hne9 hB9 ⊢
    have hne9' := hne9.symm
    have Hv9 := Lib.hid hv9
    clear hv9
    obtain ⟨x0, x1, x2, x3, x4, x5, x6, x7, x8, x9, x10⟩ := hP9.cells
    obtain ⟨y0, y1, y2, y3, y4, y5, y6, y7, y8, y9, y10⟩ := hN9.cells
    have hd9 : Below w9.heap.size w9 w9.drew := by go_grown
    go_cut [69] (fun z wx => z = .bool false ∧ Below w9.heap.size w9 wx)
    case first =>
      go_region_law (go_simp; go_at_call 27; refine (HRT'.out _).mono ?_; rintro e w10 ⟨rfl, hb10⟩; have hA10 := PkIn.later (W := w9.drew) hP9 hb10; have hB10 := PkIn.later (W := w9.drew) hN9 hb10; obtain ⟨p0, p1, p2, p3, p4, p5, p6, p7, p8, p9, p10⟩ := hA10.cells; obtain ⟨q0, q1, q2, q3, q4, q5, q6, q7, q8, q9, q10⟩ := hB10.cells)
      all_goals
        go_wp2_with fail
        go_meet
        exact ⟨by simp, hd9.trans (hb10.mono hd9.size)⟩
    case rest =>
      obtain ⟨rfl, hb10⟩ := hcut
      rename World => w10
      have hP10 := hP9.later hb10
      have hN10 := hN9.later hb10
      have hv10 := own_later Hv5.out (hb59.trans (hb10.mono hb59.size))
      have hu10 := own_later Hv9.out hb10
      have hbw := hb9.trans (hb10.mono hb9.size)
      clear hP9 hN9 hb9 hb59 Hv5 Hv9 hd9 HRT' hsl x0 x1 x2 x3 x4 x5 x6 x7 x8 x9 x10 y0 y1 y2 y3 y4 y5 y6 y7 y8 y9 y10
      obtain ⟨x0, x1, x2, x3, x4, x5, x6, x7, x8, x9, x10⟩ := hP10.cells
      obtain ⟨y0, y1, y2, y3, y4, y5, y6, y7, y8, y9, y10⟩ := hN10.cells
      obtain ⟨f0, f1, f2, f3, f4, f5, f6, f7, f8, f9, f10⟩ := hP10.frees
      go_upto_region 13 with fail
      have hP11 : PkIn (w10.setCell ⟨g0, 9, none⟩ (.string d2)) g0 (.bool mA) (.int .i64 kA) (.int .u16 sA) (.int .u32 tA) (.int .u32 rA) (.slice ad2 oA.length cc2) (.bool hA) (.int .i64 fA) (.string eA) (.string d2) (.int .i64 0) := block_setCell hP10
      have hN11 := pk_set (i := 9) (u := .string d2) hN10 hne9'
      have hv11 := own_set (i := 9) (u := .string d2) hv10 hP10
      have hu11 := own_set (i := 9) (u := .string d2) hu10 hP10
      have hb11 := hbw.setCell (p := ⟨g0, 9, none⟩) (Nat.le_of_eq Hg0.out) (.string d2)
      generalize w10.setCell ⟨g0, 9, none⟩ (.string d2) = w11 at hP11 hN11 hv11 hu11 hb11 ⊢
      clear hP10 hN10 hv10 hu10 hbw hb10 x0 x1 x2 x3 x4 x5 x6 x7 x8 x9 x10 y0 y1 y2 y3 y4 y5 y6 y7 y8 y9 y10 f0 f1 f2 f3 f4 f5 f6 f7 f8 f9 f10
      obtain ⟨_, _, e5, _, _, _, hr11⟩ := own_reads hv11
      cases e5
      obtain ⟨_, _, e5, _, _, _, hs11⟩ := own_reads hu11
      cases e5
      clear hv11 hu11
      go_wp2_with fail
      refine (HTu'.out _).mono ?_
      rintro e w12 ⟨rfl, hb12⟩
      have hP12 := hP11.later hb12
      have hN12 := hN11.later hb12
      have Hr12 := Lib.hid (hr11.later hb12)
      have Hs12 := Lib.hid (hs11.later hb12)
      have hbx := hb11.trans (hb12.mono hb11.size)
      clear hP11 hN11 hr11 hs11 hb11 hb12
      obtain ⟨x0, x1, x2, x3, x4, x5, x6, x7, x8, x9, x10⟩ := hP12.cells
      obtain ⟨y0, y1, y2, y3, y4, y5, y6, y7, y8, y9, y10⟩ := hN12.cells
      have hd12 : Below w12.heap.size w12 w12.drew := by go_grown
      go_wp2_with fail
      go_region_law (first | (go_simp; go_at_call_of 13 (Value.agg #[.bool mA, .int .i64 kA, .int .u16 sA, .int .u32 tA, .int .u32 rA, .slice ad2 oA.length cc2, .bool hA, .int .i64 fA, .string eA, .string d2, .int .i64 0]); refine (HTq'.out _ _ _ (Hr12.out.later hd12)).mono ?_; rintro e w13 ⟨hb13, ta, tc, rfl, htv⟩; have hB13 := PkIn.later (W := w12.drew) hN12 hb13; obtain ⟨p0, p1, p2, p3, p4, p5, p6, p7, p8, p9, p10⟩ := hB13.cells) | (go_simp; go_at_call_of 13 (Value.agg #[.bool mA, .int .i64 kA, .int .u16 sA, .int .u32 tA, .int .u32 rA, .slice a8 oA.length c8, .bool hA, .int .i64 fA, .string eA, .string d2, .int .i64 0]); refine (HTq'.out _ _ _ ((Hs12.out.later hd12).later hb13)).mono ?_; rintro e w14 ⟨hb14, tb, td, rfl, hty⟩; obtain ⟨_, _, e5, _, _, _, hra⟩ := own_reads htv; cases e5; obtain ⟨_, _, e5, _, _, _, hrb⟩ := own_reads hty; cases e5) | (go_simp; go_at_call 12; refine (HSm'.out ta tb tc td _ (hra.later hb14) hrb).mono ?_; rintro e w15 ⟨rfl, hb15⟩) | (go_simp; go_at_call 27; refine (HRU'.out _).mono ?_; rintro e w16 ⟨rfl, hb16⟩))
      all_goals
        go_wp2
        go_ret
        have hbz := hd12.trans ((hb13.trans ((hb14.trans ((hb15.trans (hb16.mono hb15.size)).mono hb14.size)).mono hb13.size)).mono hd12.size)
        exact ⟨by simp, hbx.trans (hbz.mono hbx.size)⟩
  · have hS : packS (⟨mA, kA, sA, tA, rA, oA, hA, fA, eA, D, 0⟩ : PK) = { data := #[] } := packS_bad cm
    rw [hS] at HPk
    have HMA : ∀ (a : Option Addr) (c : Nat) (W : World), _ := fun a c W => refMay_b (⟨mA, kA, sA, tA, rA, oA, hA, fA, eA, D, 0⟩ : PK) a c W (by show eA.size ≤ _; omega) (by show oA.length ≤ _; omega) false (by simp [cm])
    unfold ToldR at HTo
    simp only [PK.rcells] at HTo HMA
    have HPk' := Lib.hid HPk
    have HTo' := Lib.hid HTo
    have HMA' := Lib.hid HMA
    clear HPk HTo HMA cm hS hDe
    go_wp2_with fail
    refine (HPk'.out _ (Below.refl _ _)).mono ?_
    rintro e w6 ⟨rfl, hb6⟩
    have hP6 := hP5.later hb6
    clear x0 x1 x2 x3 x4 x5 x6 x7 x8 x9 x10
    obtain ⟨x0, x1, x2, x3, x4, x5, x6, x7, x8, x9, x10⟩ := hP6.cells
    go_wp2_with fail
    refine (HTo'.out _ hb6).mono ?_
    rintro e w7 ⟨hb7, ta, tc, rfl, htv⟩
    go_wp2_with fail
    refine (HMA'.out _ _ _).mono ?_
    rintro e w8 ⟨rfl, hb8⟩
    go_wp2
    go_ret
    exact ⟨rfl, hb5.trans ((hb6.trans ((hb7.trans (hb8.mono hb7.size)).mono hb6.size)).mono hb5.size)⟩
end Go.Proofs.Ytiffocdohknopaa.cordelleWire
