/- SourceTwice: the walk. -/
import Derived.Test.YtncpepbpphpkoaaSoW
namespace Go.Proofs.Ytncpepbpphpkoaa
open Go.RowKit
set_option linter.unusedVariables false
namespace sourceTwice
set_option maxRecDepth 100000 in
set_option maxHeartbeats 3200000 in
theorem walk (a0 : Int) (p1 : Option Addr) (len1 cap1 : Nat) (z1 : List Int) (w0 : (Lit.int .u16 a0).wf = true) (w : World) (w1 : IsRow .u16 w p1 len1 cap1 z1) :
    Calls Try.prog 5 #[.int .u16 a0, .slice p1 len1 cap1] w fun e w' => e = .returned (.bool true) ∧ Below w.heap.size w w' := by
  obtain ⟨b1, b2⟩ := u16_bd w0
  obtain ⟨es, rfl, l1, l2, hr0, hwf⟩ := w1.reads
  clear w1 w0
  have HR := Lib.hid (fun (W : World) (h : Below w.heap.size w W) => (hr0.later h).take 100)
  have HWF := Lib.hid (u16s_bd (fun n (hn : n ∈ es.take 100) => hwf n (List.mem_of_mem_take hn)))
  have HL : Hid (0 + (es.take 100).length ≤ 1000000000) := Lib.hid (by simp; omega)
  have HOK := Lib.hid (so_ok0 a0 b1 (by omega))
  have HN := Lib.hid (fun W => soNew_any a0 b1 (by omega) W)
  have hok := (SR.run_ok HOK.out (es.take 100) HWF.out).1
  have HRUN := Lib.hid (fun W hb => soRun_n (SR.new a0) 0 HOK.out (es.take 100) (min (es.length : Int) 100).toNat (by rw [List.length_take]; omega) p1 cap1 W (HR.out W hb) HWF.out HL.out)
  have hkk : 0 + (es.take 100).length ≤ 100 := by simp; omega
  generalize 0 + (es.take 100).length = kk at hok hkk
  generalize (SR.new a0).run (es.take 100) = RR at HRUN hok
  obtain ⟨t, c⟩ := RR
  simp only at hok HRUN
  clear hr0 hwf HR HWF HL HOK
  generalize SR.new a0 = s0 at HN HRUN
  have hup := soUpd_any t kk hok (by omega) t.mx hok.m0 hok.m1
  obtain ⟨mx, cy, ba, bd, pr, rc⟩ := s0
  obtain ⟨mx1, cy1, ba1, bd1, pr1, rc1⟩ := t
  simp only [SR.val] at HN HRUN hup
  go_enter Try.func5, Try.ntmps5
  go_wp2_with fail
  refine (soAwake_any _).mono ?_
  rintro e wa ⟨rfl, hba⟩
  have hsz := hba.size
  go_upto_region 3 with fail
  go_cut [5] (fun z wx => ∃ g, z = .pointer (some ⟨g, 0, none⟩) ∧ w.heap.size ≤ g ∧ At6 26 wx g (.int .u16 mx1) (.int .i64 cy1) (.int .i64 ba1) (.int .i64 bd1) (.int .i64 pr1) (.int .i64 rc1) ∧ Below w.heap.size w wx)
  case first =>
    have hmA : (0 : Int) ≤ min (es.length : Int) 100 := by omega
    have hmB : min (es.length : Int) 100 ≤ (cap1 : Int) := by omega
    go_region_law (first | (go_simp; go_at_call 10; refine (HN.out (wa.alloc (.cells #[.int .u16 0, .int .i64 0, .int .i64 0, .int .i64 0, .int .i64 0, .int .i64 0] 26)).drew).mono ?_; rintro e w3 ⟨rfl, hb3⟩; have hq3 : Below w.heap.size w w3 := (hba.alloc hsz _).drew.trans (hb3.mono (Below.size (hba.alloc hsz _).drew)); have hA3 := (at6_new 26 wa _ (.int .u16 0) (.int .i64 0) (.int .i64 0) (.int .i64 0) (.int .i64 0) (.int .i64 0) rfl).drew.later hb3; obtain ⟨_, _, _, _, _, _⟩ := hA3.cells; obtain ⟨_, _, _, _, _, _⟩ := hA3.frees) | (go_simp; go_at_call 10; refine (HN.out wa.drew).mono ?_; rintro e w4 ⟨rfl, hb4⟩; have hq4 : Below w.heap.size w w4 := hba.drew.trans (hb4.mono hsz)) | (go_simp; go_at_call 21; refine (HRUN.out w3 hq3).mono ?_; rintro e w5 ⟨rfl, hb5⟩; have hq5 : Below w.heap.size w w5 := hq3.trans (hb5.mono hq3.size); have hA5 := hA3.later hb5; obtain ⟨_, _, _, _, _, _⟩ := hA5.cells; obtain ⟨_, _, _, _, _, _⟩ := hA5.frees) | (go_simp; go_at_call 21; refine (HRUN.out (w4.alloc (.cells #[.int .u16 0, .int .i64 0, .int .i64 0, .int .i64 0, .int .i64 0, .int .i64 0] 26)) (hq4.alloc hq4.size _)).mono ?_; rintro e w6 ⟨rfl, hb6⟩; have hq6 : Below w.heap.size w w6 := (hq4.alloc hq4.size _).trans (hb6.mono (Below.size (hq4.alloc hq4.size _))); have hA6 := (at6_new 26 w4 _ (.int .u16 0) (.int .i64 0) (.int .i64 0) (.int .i64 0) (.int .i64 0) (.int .i64 0) rfl).later hb6; obtain ⟨_, _, _, _, _, _⟩ := hA6.cells; obtain ⟨_, _, _, _, _, _⟩ := hA6.frees) | (go_simp; go_at_call 21; refine (HRUN.out w4 hq4).mono ?_; rintro e w7 ⟨rfl, hb7⟩; have hq7 : Below w.heap.size w w7 := hq4.trans (hb7.mono hq4.size)))
    all_goals
      go_wp2_with fail
      go_meet
      first
      | exact ⟨_, rfl, hsz, at6_store hA5 (.int .u16 mx1) (.int .i64 cy1) (.int .i64 ba1) (.int .i64 bd1) (.int .i64 pr1) (.int .i64 rc1), hq5.trans ((store6_only w5 wa.heap.size (.int .u16 mx1) (.int .i64 cy1) (.int .i64 ba1) (.int .i64 bd1) (.int .i64 pr1) (.int .i64 rc1)).below hsz)⟩
      | exact ⟨_, rfl, hq4.size, at6_store hA6 (.int .u16 mx1) (.int .i64 cy1) (.int .i64 ba1) (.int .i64 bd1) (.int .i64 pr1) (.int .i64 rc1), hq6.trans ((store6_only w6 w4.heap.size (.int .u16 mx1) (.int .i64 cy1) (.int .i64 ba1) (.int .i64 bd1) (.int .i64 pr1) (.int .i64 rc1)).below hq4.size)⟩
      | exact ⟨_, rfl, hq7.size, at6_new 26 w7 _ (.int .u16 mx1) (.int .i64 cy1) (.int .i64 ba1) (.int .i64 bd1) (.int .i64 pr1) (.int .i64 rc1) rfl, hq7.alloc hq7.size _⟩
  case rest =>
  obtain ⟨g, rfl, hle, hX, hb⟩ := hcut
  clear hba hsz HN HRUN
  rename World => wq
  have hlt := hX.lt
  obtain ⟨q1, q2, q3, q4, q5, q6, q7, q8, q9, q10, q11, q12⟩ := id hok
  simp only at q1 q2 q3 q4 q5 q6 q7 q8 q9 q10 q11 q12
  obtain ⟨_, _, _, _, _, _⟩ := hX.cells
  by_cases hp : 0 < pr1
  · rw [show SR.upd ⟨mx1, cy1, ba1, bd1, pr1, rc1⟩ mx1 = (⟨mx1, cy1, ba1, bd1, 1, rc1⟩, false) from by unfold SR.upd; simp only []; rw [if_pos hp, if_neg (by omega)]] at hup
    simp only at hup
    have HUP := Lib.hid hup
    clear hup
    go_wp2_with fail
    refine (HUP.out _).mono ?_
    rintro e w9 ⟨rfl, hk9⟩
    have hX9 := (hX.later hk9).alloc (.cells #[.int .u16 mx1, .int .i64 cy1, .int .i64 ba1, .int .i64 bd1, .int .i64 1, .int .i64 rc1] 26)
    have hb9 := (hb.trans (hk9.mono (by omega))).alloc (by have := (hX.later hk9).lt; omega) (.cells #[.int .u16 mx1, .int .i64 cy1, .int .i64 ba1, .int .i64 bd1, .int .i64 1, .int .i64 rc1] 26)
    have hN9 := at6_new 26 w9 _ (.int .u16 mx1) (.int .i64 cy1) (.int .i64 ba1) (.int .i64 bd1) (.int .i64 1) (.int .i64 rc1) rfl
    have hgg : w.heap.size ≤ w9.heap.size := by have := (hX.later hk9).lt; omega
    go_upto_region 5 with fail
    generalize w9.alloc (.cells #[.int .u16 mx1, .int .i64 cy1, .int .i64 ba1, .int .i64 bd1, .int .i64 1, .int .i64 rc1] 26) = w10 at hX9 hN9 hb9 ⊢
    generalize w9.heap.size = gn at hN9 hgg ⊢
    clear hk9 hX hb hlt
    obtain ⟨_, _, _, _, _, _⟩ := hN9.cells
    obtain ⟨_, _, _, _, _, _⟩ := hX9.cells
    go_wp2_with fail
    go_ret
    exact ⟨rfl, hb9⟩
  · have hok2 : SR.Ok (kk + 1) ⟨mx1, cy1, ba1, bd1, pr1, rc1 + 1⟩ := by constructor <;> (try simp only []) <;> omega
    have HH1 := Lib.hid (fun W => soHigh_any ⟨mx1, cy1, ba1, bd1, pr1, rc1⟩ kk hok (by omega) W)
    have HH2 := Lib.hid (fun W => soHigh_any ⟨mx1, cy1, ba1, bd1, pr1, rc1 + 1⟩ (kk + 1) hok2 (by omega) W)
    have HE1 := Lib.hid (fun W => soExp_any ⟨mx1, cy1, ba1, bd1, pr1, rc1⟩ kk hok (by omega) W)
    have HE2 := Lib.hid (fun W => soExp_any ⟨mx1, cy1, ba1, bd1, pr1, rc1 + 1⟩ (kk + 1) hok2 (by omega) W)
    rw [show SR.high ⟨mx1, cy1, ba1, bd1, pr1, rc1 + 1⟩ = SR.high ⟨mx1, cy1, ba1, bd1, pr1, rc1⟩ from rfl] at HH2
    rw [show SR.exp ⟨mx1, cy1, ba1, bd1, pr1, rc1 + 1⟩ = SR.exp ⟨mx1, cy1, ba1, bd1, pr1, rc1⟩ from rfl] at HE2
    generalize SR.high ⟨mx1, cy1, ba1, bd1, pr1, rc1⟩ = hi at HH1 HH2
    generalize SR.exp ⟨mx1, cy1, ba1, bd1, pr1, rc1⟩ = ex at HE1 HE2
    simp only [SR.val] at HH1 HH2 HE1 HE2
    clear hok hok2
    rw [show SR.upd ⟨mx1, cy1, ba1, bd1, pr1, rc1⟩ mx1 = (⟨mx1, cy1, ba1, bd1, pr1, rc1 + 1⟩, true) from by unfold SR.upd; simp only []; rw [if_neg hp, if_pos (by omega), if_neg (by omega)]] at hup
    simp only at hup
    have HUP := Lib.hid hup
    clear hup
    go_wp2_with fail
    refine (HUP.out _).mono ?_
    rintro e w9 ⟨rfl, hk9⟩
    have hX9 := (hX.later hk9).alloc (.cells #[.int .u16 mx1, .int .i64 cy1, .int .i64 ba1, .int .i64 bd1, .int .i64 pr1, .int .i64 (rc1 + 1)] 26)
    have hb9 := (hb.trans (hk9.mono (by omega))).alloc (by have := (hX.later hk9).lt; omega) (.cells #[.int .u16 mx1, .int .i64 cy1, .int .i64 ba1, .int .i64 bd1, .int .i64 pr1, .int .i64 (rc1 + 1)] 26)
    have hN9 := at6_new 26 w9 _ (.int .u16 mx1) (.int .i64 cy1) (.int .i64 ba1) (.int .i64 bd1) (.int .i64 pr1) (.int .i64 (rc1 + 1)) rfl
    have hgg : w.heap.size ≤ w9.heap.size := by have := (hX.later hk9).lt; omega
    go_upto_region 5 with fail
    generalize w9.alloc (.cells #[.int .u16 mx1, .int .i64 cy1, .int .i64 ba1, .int .i64 bd1, .int .i64 pr1, .int .i64 (rc1 + 1)] 26) = w10 at hX9 hN9 hb9 ⊢
    generalize w9.heap.size = gn at hN9 hgg ⊢
    clear hk9 hX hb hlt
    obtain ⟨_, _, _, _, _, _⟩ := hN9.cells
    obtain ⟨_, _, _, _, _, _⟩ := hX9.cells
    go_upto_region 7 with fail
    go_region_held3 (fun W => W.cell? ⟨g, 0, none⟩ = some (.int .u16 mx1) ∧ W.cell? ⟨g, 1, none⟩ = some (.int .i64 cy1) ∧ W.cell? ⟨g, 2, none⟩ = some (.int .i64 ba1) ∧ W.cell? ⟨g, 3, none⟩ = some (.int .i64 bd1) ∧ W.cell? ⟨g, 4, none⟩ = some (.int .i64 pr1) ∧ W.cell? ⟨g, 5, none⟩ = some (.int .i64 rc1) ∧ W.cell? ⟨gn, 0, none⟩ = some (.int .u16 mx1) ∧ W.cell? ⟨gn, 1, none⟩ = some (.int .i64 cy1) ∧ W.cell? ⟨gn, 2, none⟩ = some (.int .i64 ba1) ∧ W.cell? ⟨gn, 3, none⟩ = some (.int .i64 bd1) ∧ W.cell? ⟨gn, 4, none⟩ = some (.int .i64 pr1) ∧ W.cell? ⟨gn, 5, none⟩ = some (.int .i64 (rc1 + 1)) ∧ At6 26 W g (.int .u16 mx1) (.int .i64 cy1) (.int .i64 ba1) (.int .i64 bd1) (.int .i64 pr1) (.int .i64 rc1) ∧ At6 26 W gn (.int .u16 mx1) (.int .i64 cy1) (.int .i64 ba1) (.int .i64 bd1) (.int .i64 pr1) (.int .i64 (rc1 + 1)) ∧ Below w.heap.size w W) (first | (go_keep; done) | exact so_start2 hX9.drew hN9.drew hb9.drew | exact so_step2 hle hgg (by go_split_ands; assumption) (by go_split_ands; assumption) (by go_split_ands; assumption) (by assumption)) (first | (go_at_call_of 15 (Value.int .i64 rc1); refine (HH1.out _).mono ?_; rintro e w11 ⟨rfl, hk11⟩) | (go_at_call 15; refine (HH2.out _).mono ?_; rintro e w12 ⟨rfl, hk12⟩) | (go_at_call_of 17 (Value.int .i64 rc1); refine (HE1.out _).mono ?_; rintro e w13 ⟨rfl, hk13⟩) | (go_at_call 17; refine (HE2.out _).mono ?_; rintro e w14 ⟨rfl, hk14⟩))
    all_goals
      go_wp2_with fail
      go_ret
      exact ⟨ret_bool (a := (rc1 + 1 == IntKind.i64.wrap (rc1 + 1))) (by rw [IntWalk.i64_in (rc1 + 1) ⟨by omega, by omega⟩]; simp), by go_split_ands; assumption⟩
end sourceTwice
end Go.Proofs.Ytncpepbpphpkoaa
