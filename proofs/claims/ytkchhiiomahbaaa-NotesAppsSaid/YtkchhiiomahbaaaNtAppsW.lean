/- NotesApps: the walk. -/
import Derived.Test.YtkchhiiomahbaaaNtJ
import Derived.Test.YtkchhiiomahbaaaNtF
import Derived.Test.YtkchhiiomahbaaaPcC
import Derived.Test.YtkchhiiomahbaaaCut
namespace Go.Proofs.Ytkchhiiomahbaaa.notesApps
open Go.RowKit
set_option linter.unusedVariables false
set_option maxRecDepth 100000 in
set_option maxHeartbeats 4000000 in
theorem walk (sub src : Int) (name data : ByteArray) (w0 : (Lit.int .i64 sub).wf = true) (w1 : (Lit.int .u32 src).wf = true) (w2 : name.size ≤ maxLen) (w3 : data.size ≤ maxLen) (w : World) :
    Calls Try.prog 8 #[.agg #[.int .i64 sub, .int .u32 src, .string name, .string data]] w fun e w' => e = .returned (.bool true) ∧ Below w.heap.size w w' := by
  have n1 := (u32_bd w1).1
  have n2 := (u32_bd w1).2
  unfold maxLen at w2 w3
  have HC1 := Lib.hid (fun W => cut_any name 6 W (by omega) (by decide))
  have HC2 := Lib.hid (fun W => cut_any data 1030 W (by omega) (by decide))
  have z1 := (cut_size name 6).1
  have z2 := (cut_size data 1030).1
  obtain ⟨nm, hnm⟩ : ∃ nm, cutB name 6 = nm := ⟨_, rfl⟩
  obtain ⟨dt, hdt⟩ : ∃ dt, cutB data 1030 = dt := ⟨_, rfl⟩
  rw [hnm] at HC1 z1
  rw [hdt] at HC2 z2
  clear hnm hdt w0 w1 w2 w3
  have hw : IntKind.i64.wrap src = src := IntWalk.i64_in _ ⟨by omega, by omega⟩
  have HPi := fun W => apPiece_any ⟨sub, src, nm, dt⟩ W (by show nm.size ≤ _; omega) (by show dt.size ≤ _; omega)
  have HRP := fun W => refAppPiece_any ⟨sub, src, nm, dt⟩ W (by show nm.size ≤ _; omega) (by show dt.size ≤ _; omega) n1 n2
  have hsm := apP_small ⟨sub, src, nm, dt⟩ (by show dt.size ≤ _; omega)
  have hbk := fun h => ap_back ⟨sub, src, nm, dt⟩ h n1 n2
  have hkd : apMay ⟨sub, src, nm, dt⟩ → (apP ⟨sub, src, nm, dt⟩).kind = 204 := fun h => by unfold apP; rw [if_pos h]
  obtain ⟨PP, hPP⟩ : ∃ PP, apP ⟨sub, src, nm, dt⟩ = PP := ⟨_, rfl⟩
  rw [hPP] at HPi HRP hsm hkd
  have hTo := fun W => toApp_any PP W (by have := hsm.1; omega)
  have hCk := fun W v hv => pcCheck_any PP W (by have := hsm.1; omega) v hv
  unfold ToAd at hTo
  have hbk2 : apMay ⟨sub, src, nm, dt⟩ → toAE PP = 0 ∧ toA PP = ⟨sub, src, nm, dt⟩ := fun h => by have := hbk h; rw [hPP] at this; exact this
  clear hbk hPP
  obtain ⟨pc, pk, ps⟩ := PP
  simp only at HPi HRP hTo hCk hkd
  have HPi := Lib.hid HPi
  have HRP := Lib.hid HRP
  have HTo := Lib.hid hTo
  have HCk := Lib.hid hCk
  have HBK := Lib.hid hbk2
  have HSM := Lib.hid hsm
  have HKD := Lib.hid hkd
  clear hTo hCk hbk2 hsm hkd z1 z2 n1 n2
  have hX1 := atC_new 66 w #[.int .i64 sub, .int .u32 src, .string name, .string data]
  have hb1 : Below w.heap.size w (w.alloc (.cells #[.int .i64 sub, .int .u32 src, .string name, .string data] 66)) := (Below.refl _ _).alloc (Nat.le_refl _) _
  go_enter Try.func8, Try.ntmps8
  go_upto_region 1 with fail
  generalize w.alloc (.cells #[.int .i64 sub, .int .u32 src, .string name, .string data] 66) = w3 at hX1 hb1 ⊢
  obtain ⟨g, hg⟩ : ∃ g, w.heap.size = g := ⟨_, rfl⟩
  have HG := Lib.hid hg
  rw [hg] at hX1 hb1 ⊢
  clear hg
  go_wp2_with fail
  refine (ntAwake_any _).mono ?_
  rintro e w4 ⟨rfl, hb4⟩
  have hX4 := hX1.later hb4
  have hbb4 := hb1.trans (hb4.mono (by have := hX1.lt; omega))
  clear hX1 hb1 hb4
  obtain ⟨x0, x1, x2, x3⟩ := hX4.cells4
  obtain ⟨f0, f1, f2, f3⟩ := hX4.frees4
  go_upto_region 3 with fail
  go_cut [1] (fun z1 wx => z1 = .pointer (some ⟨g, 0, none⟩) ∧ AtC 66 wx g #[.int .i64 sub, .int .u32 src, .string nm, .string dt] ∧ Below g w wx)
  case first =>
    have hXa : AtC 66 (w4.setCell ⟨g, 2, none⟩ (.string nm)) g #[.int .i64 sub, .int .u32 src, .string nm, .string data] := block_setCell hX4
    have hXb : AtC 66 ((w4.setCell ⟨g, 2, none⟩ (.string nm)).setCell ⟨g, 3, none⟩ (.string dt)) g #[.int .i64 sub, .int .u32 src, .string nm, .string dt] := block_setCell hXa
    have hbx := (hbb4.setCell (p := ⟨g, 2, none⟩) (Nat.le_refl _) (.string nm)).setCell (p := ⟨g, 3, none⟩) (Nat.le_refl _) (.string dt)
    go_region_law (first | (go_simp; go_at_call_of 16 (Value.string name); refine (HC1.out _).mono ?_; rintro e w' ⟨rfl, rfl⟩) | (go_simp; go_at_call_of 16 (Value.string data); refine (HC2.out _).mono ?_; rintro e w' ⟨rfl, rfl⟩))
    all_goals
      go_wp2_with fail
      go_meet
      first | exact ⟨rfl, hXb, hbx⟩ | exact ⟨rfl, hXb, hbx.drew⟩
  case rest =>
  obtain ⟨rfl, hX5, hb5⟩ := hcut
  rename World => w5
  clear hX4 hbb4 x0 x1 x2 x3 f0 f1 f2 f3 HC1 HC2
  obtain ⟨x0, x1, x2, x3⟩ := hX5.cells4
  have hg5 : g ≤ w5.heap.size := by have := hX5.lt; omega
  have hX6 := hX5.alloc (.cells #[.int .i64 sub, .int .i64 src, .string nm, .string dt] 70)
  have hR6 := atC_new 70 w5 #[.int .i64 sub, .int .i64 src, .string nm, .string dt]
  have hb6 := hb5.alloc hg5 (.cells #[.int .i64 sub, .int .i64 src, .string nm, .string dt] 70)
  go_upto_region 5 with fail
  generalize w5.alloc (.cells #[.int .i64 sub, .int .i64 src, .string nm, .string dt] 70) = w6 at hX6 hR6 hb6 ⊢
  generalize w5.heap.size = gx at hR6 hg5 ⊢
  clear hX5 hb5 x0 x1 x2 x3
  obtain ⟨x0, x1, x2, x3⟩ := hX6.cells4
  have hg6 : g ≤ w6.heap.size := by have := hX6.lt; omega
  go_wp2_with fail
  refine (HPi.out _).mono ?_
  rintro e w7 ⟨rfl, hb7⟩
  have hal : Below w7.heap.size w7 (w7.alloc (.cells #[.int .i64 pc, .int .i64 pk, .string ps] 35)) := (Below.refl _ _).alloc (Nat.le_refl _) _
  have hP8 := pc_new w7 ⟨pc, pk, ps⟩
  simp only at hP8
  have hX8 := (hX6.later hb7).later hal
  have hR8 := (hR6.later hb7).later hal
  have hg7 : g ≤ w7.heap.size := by have := hb7.size; omega
  have hb8 := (hb6.trans (hb7.mono hg6)).trans (hal.mono hg7)
  clear hX6 hR6 hb6 hb7 hal x0 x1 x2 x3
  go_upto_region 6 with fail
  generalize w7.alloc (.cells #[.int .i64 pc, .int .i64 pk, .string ps] 35) = w8 at hP8 hX8 hR8 hb8 ⊢
  generalize w7.heap.size = gp at hP8 hg7 ⊢
  obtain ⟨p0, p1, p2, _⟩ := pcAt_S hP8
  obtain ⟨y0, y1, y2, y3⟩ := hR8.cells4
  have hg8 : g ≤ w8.heap.size := by have := hX8.lt; omega
  have hd8 : Below w8.heap.size w8 w8.drew := by go_grown
  go_cut [32] (fun z wx => z = .bool false ∧ Below w8.heap.size w8 wx)
  case first =>
    go_region_law (first | (go_simp; go_at_call 42; refine (HRP.out _).mono ?_; rintro e w9 ⟨rfl, hb9⟩; have hh9 := hd8.trans hb9; obtain ⟨_, _, _, _⟩ := pcAt_S (hP8.later hh9)))
    all_goals
      go_wp2_with fail
      go_meet
      exact ⟨by simp, hh9⟩
  case rest =>
  obtain ⟨rfl, hb9⟩ := hcut
  rename World => w9
  have hX9 := hX8.later hb9
  have hP9 := hP8.later hb9
  have hbb9 := hb8.trans (hb9.mono hg8)
  have hg9 : g ≤ w9.heap.size := by have := hb9.size; omega
  clear hX8 hP8 hR8 hb8 hb9 hd8 HRP HPi p0 p1 p2 y0 y1 y2 y3
  obtain ⟨p0, p1, p2, _⟩ := pcAt_S hP9
  obtain ⟨x0, x1, x2, x3⟩ := hX9.cells4
  by_cases hm : apMay ⟨sub, src, nm, dt⟩
  · have hk := HKD.out hm
    obtain ⟨hE, hA⟩ := HBK.out hm
    have hmy := HSM.out.2.2 hm
    have hT := HTo.out
    rw [hE, hA] at hT
    simp only at hT
    have HT := Lib.hid hT
    have HC := Lib.hid (fun W => HCk.out W 0 (.inl ⟨rfl, hmy⟩))
    subst hk
    clear hE hA hT HTo HCk HBK HSM HKD hm hmy
    go_wp2_with fail
    refine (HT.out _).mono ?_
    rintro e w10 ⟨rfl, hb10⟩
    have hal : Below w10.heap.size w10 (w10.alloc (.cells #[.int .i64 sub, .int .u32 src, .string nm, .string dt] 66)) := (Below.refl _ _).alloc (Nat.le_refl _) _
    have hX11 := (hX9.later hb10).later hal
    have hP11 := (hP9.later hb10).later hal
    have hM11 := atC_new 66 w10 #[.int .i64 sub, .int .u32 src, .string nm, .string dt]
    have hg10 : g ≤ w10.heap.size := by have := hb10.size; omega
    have hb11 := (hbb9.trans (hb10.mono hg9)).trans (hal.mono hg10)
    clear hX9 hP9 hbb9 hb10 hal p0 p1 p2 x0 x1 x2 x3
    go_upto_region 11 with fail
    generalize w10.alloc (.cells #[.int .i64 sub, .int .u32 src, .string nm, .string dt] 66) = w11 at hX11 hP11 hM11 hb11 ⊢
    generalize w10.heap.size = gm at hM11 hg10 ⊢
    obtain ⟨p0, p1, p2, _⟩ := pcAt_S hP11
    obtain ⟨x0, x1, x2, x3⟩ := hX11.cells4
    obtain ⟨m0, m1, m2, m3⟩ := hM11.cells4
    have hg11 : g ≤ w11.heap.size := by have := hX11.lt; omega
    go_wp2_with fail
    refine (HC.out _).mono ?_
    rintro e w12 ⟨rfl, hb12⟩
    go_wp2
    go_ret
    exact ⟨rfl, by rw [HG.out]; exact hb11.trans (hb12.mono hg11)⟩
  · have hz := HSM.out.2.1.2 hm
    unfold zeroPC at hz
    obtain ⟨rfl, rfl, rfl⟩ := PC.mk.inj hz
    clear hz HTo HCk HBK HSM HKD hm
    go_wp2
    go_ret
    exact ⟨rfl, by rw [HG.out]; exact hbb9⟩
end Go.Proofs.Ytkchhiiomahbaaa.notesApps
