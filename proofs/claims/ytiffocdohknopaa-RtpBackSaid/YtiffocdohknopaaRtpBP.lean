/- rtp: the document's Pack. -/
import Derived.Test.YtiffocdohknopaaApartW
import Derived.RegionTactic
import Derived.BigRegion
import Derived.Deep.RegionHeld3
namespace Go.Proofs.Ytiffocdohknopaa
open Go.RowKit rtpApart
set_option linter.unusedVariables false
theorem put_as (S n : Int) (size : Nat) (w : World) (hS : S = (size : Int)) (h1 : -9223372036854775808 ≤ n) (h2 : n ≤ 9223372036854775807) (h4 : size ≤ 8) :
    Calls Try.prog 42 #[.int .i64 n, .int .i64 S] w fun e w' => e = .returned (.string (ofL (be n size))) ∧ Below w.heap.size w w' := by
  rw [hS]; exact put_any n size w h1 h2 h4
theorem sum_run (L M N : List UInt8) (h : L ++ M = N) (hl : N.length ≤ 1000000000) (W : World) : Sem.run Try.prog (Op.stringOp .add (ofL L) (ofL M)) W = Result.ok (.string (ofL N)) W := by
  rw [← h, ofL_append]
  refine run_string_add_sum _ _ _ ?_
  rw [ofL_size, ofL_size]
  have := congrArg List.length h
  rw [List.length_append] at this
  omega
theorem below_step {w W W' : World} (a : Below w.heap.size w W) (b : Below W.heap.size W W') : Below w.heap.size w W' := a.trans (b.mono a.size)
theorem be_byte (n : Nat) (h : n ≤ 255) : be (((n : Nat) : Int)) 1 = [UInt8.ofNat n] := by
  rw [be_succ, be_zero]
  congr 2
  simp
  omega
theorem hdrL_may (p : PK) (hp : hdrOk p) : (hdrL p (decide (0 < p.pad))).length ≤ 263000 := hdrL_len p _ hp
set_option maxRecDepth 100000 in
set_option maxHeartbeats 4000000 in
theorem refPack_good (p : PK) (a : Option Addr) (c : Nat) (w : World) (hd : p.data.size ≤ 1000000) (hk : p.ok) (hr : Reads .i64 w a p.others) (hp : mayOk p) :
    Calls Try.prog 17 #[.agg (p.rcells a c)] w fun e w' => e = .returned (.string (ofL (packL p))) ∧ Below w.heap.size w w' := by
  have hHL := hdrL_len p (decide (0 < p.pad)) hp.1
  have hpk : Hid (packL p = hdrL p (decide (0 < p.pad)) ++ by_ p.data ++ (if 0 < p.pad then padL p.pad.toNat else [])) := rfl
  have hhd : Hid (hdrL p (decide (0 < p.pad)) = be (128 + p.others.length + (if decide (0 < p.pad) then 32 else 0) + (if p.hx then 16 else 0)) 1 ++ be (p.kind + (if p.mrk then 128 else 0)) 1 ++ be p.seq 2 ++ be p.time 4 ++ be p.source 4 ++ bes p.others 4 ++ (if p.hx then be p.prof 2 ++ be ((p.ext.size / 4 : Nat) : Int) 2 ++ by_ p.ext else [])) := rfl
  have HM : ∀ (a : Option Addr) (c : Nat) (W : World), _ := fun a c W => refMay_b p a c W (by obtain ⟨⟨_, _, _, hf, ht⟩, _⟩ := hp; cases hx : p.hx; have := hf hx; omega; have := ht hx; omega) (by have := hp.1.2.2.1; omega) true (by simp [hp])
  obtain ⟨⟨k1, k2, hl, hf, ht⟩, p1, p2⟩ := hp
  obtain ⟨⟨s1, s2⟩, ⟨t1, t2⟩, ⟨q1, q2⟩, hos⟩ := hk
  generalize packL p = PL at hpk ⊢
  generalize hdrL p (decide (0 < p.pad)) = HL at hHL hpk hhd
  obtain ⟨mrk, kind, seq, time, source, others, hx, prof, ext, data, pad⟩ := p
  simp only [PK.rcells] at *
  have HM' := Lib.hid HM
  have Hos := Lib.hid hos
  have Hf := Lib.hid hf
  have Ht := Lib.hid ht
  clear HM hos hf ht
  obtain ⟨A1, hA1⟩ : ∃ A1 : Int, A1 = 128 + others.length + (if decide (0 < pad) then 32 else 0) := ⟨_, rfl⟩
  obtain ⟨A2, hA2⟩ : ∃ A2 : Int, A2 = A1 + (if hx then 16 else 0) := ⟨_, rfl⟩
  obtain ⟨B1, hB1⟩ : ∃ B1 : Int, B1 = kind + (if mrk then 128 else 0) := ⟨_, rfl⟩
  have bA1 : 128 ≤ A1 ∧ A1 ≤ 175 := by rw [hA1]; split <;> omega
  have bA2 : 128 ≤ A2 ∧ A2 ≤ 191 := by rw [hA2]; split <;> omega
  have bB1 : 0 ≤ B1 ∧ B1 ≤ 255 := by rw [hB1]; split <;> omega
  obtain ⟨bA11, bA12⟩ := bA1
  obtain ⟨bA21, bA22⟩ := bA2
  obtain ⟨bB11, bB12⟩ := bB1
  rw [← hA1, ← hA2, ← hB1] at hhd
  have HA1 := Lib.hid hA1
  have HA2 := Lib.hid hA2
  have HB1 := Lib.hid hB1
  clear hA1 hA2 hB1
  have hR1 := rk_new w w.heap.size (.bool mrk) (.int .i64 kind) (.int .i64 seq) (.int .i64 time) (.int .i64 source) (.slice a others.length c) (.bool hx) (.int .i64 prof) (.string ext) (.string data) (.int .i64 pad) rfl
  have hb1 : Below w.heap.size w (w.alloc (.cells #[.bool mrk, .int .i64 kind, .int .i64 seq, .int .i64 time, .int .i64 source, .slice a others.length c, .bool hx, .int .i64 prof, .string ext, .string data, .int .i64 pad] 36)) := by go_grown
  go_enter Try.func17, Try.ntmps17
  go_wp2_with fail
  generalize w.alloc (.cells #[.bool mrk, .int .i64 kind, .int .i64 seq, .int .i64 time, .int .i64 source, .slice a others.length c, .bool hx, .int .i64 prof, .string ext, .string data, .int .i64 pad] 36) = w1 at hR1 hb1 ⊢
  have Hr := Lib.hid hr
  clear hr
  generalize hg : w.heap.size = g at hR1 ⊢
  have Hg := Lib.hid hg
  clear hg
  refine (HM'.out _ _ _).mono ?_
  rintro e w2 ⟨rfl, hb⟩
  have hR := hR1.later hb
  have hb2 := hb1.trans (hb.mono hb1.size)
  clear hR1 hb1 hb HM'
  obtain ⟨x0, x1, x2, x3, x4, x5, x6, x7, x8, x9, x10⟩ := hR.cells
  go_upto_if 20 with fail
  go_cut [3] (fun v wx => v = .int .i64 A1 ∧ wx = w2)
  case first =>
    by_cases h0 : 0 < pad
    · have e1 := HA1.out
      rw [if_pos (by simpa using h0)] at e1
      clear HA1 HA2 HB1
      have E1 := Lib.hid e1
      clear e1
      go_wp2_with fail
      go_meet
      exact ⟨by congr 1; have := E1.out; omega, rfl⟩
    · have e1 := HA1.out
      rw [if_neg (by simpa using h0)] at e1
      clear HA1 HA2 HB1
      have E1 := Lib.hid e1
      clear e1
      go_wp2_with fail
      go_meet
      exact ⟨by congr 1; have := E1.out; omega, rfl⟩
  case rest =>
  obtain ⟨rfl, rfl⟩ := hcut
  go_upto_if 24 with fail
  go_cut [3] (fun v wx => v = .int .i64 A2 ∧ wx = wc)
  case first =>
    cases hx
    · have E1 := HA2
      clear HA1 HA2 HB1
      go_wp2_with fail
      go_meet
      exact ⟨by congr 1; have := E1.out; simp at this; omega, rfl⟩
    · have E1 := HA2
      clear HA1 HA2 HB1
      go_wp2_with fail
      go_meet
      exact ⟨by congr 1; have := E1.out; simp at this; omega, rfl⟩
  case rest =>
  obtain ⟨rfl, rfl⟩ := hcut
  go_upto_if 28 with fail
  go_cut [4] (fun v wx => v = .int .i64 B1 ∧ wx = wc)
  case first =>
    cases mrk
    · have E1 := HB1
      clear HA1 HA2 HB1
      go_wp2_with fail
      go_meet
      exact ⟨by congr 1; have := E1.out; simp at this; omega, rfl⟩
    · have E1 := HB1
      clear HA1 HA2 HB1
      go_wp2_with fail
      go_meet
      exact ⟨by congr 1; have := E1.out; simp at this; omega, rfl⟩
  case rest =>
  obtain ⟨rfl, rfl⟩ := hcut
  rename World => w3
  have hM1 : (be A2 1).length = 1 := be_len _ _
  have hM2 : (be B1 1).length = 1 := be_len _ _
  have hM3 : (be seq 2).length = 2 := be_len _ _
  have hM4 : (be time 4).length = 4 := be_len _ _
  have hM5 : (be source 4).length = 4 := be_len _ _
  have hU1 : ∀ W : World, _ := fun W => put_as 1 A2 1 W rfl (by omega) (by omega) (by decide)
  have hU2 : ∀ W : World, _ := fun W => put_as 1 B1 1 W rfl (by omega) (by omega) (by decide)
  have hU3 : ∀ W : World, _ := fun W => put_as 2 seq 2 W rfl (by omega) (by omega) (by decide)
  have hU4 : ∀ W : World, _ := fun W => put_as 4 time 4 W rfl (by omega) (by omega) (by decide)
  have hU5 : ∀ W : World, _ := fun W => put_as 4 source 4 W rfl (by omega) (by omega) (by decide)
  generalize be A2 1 = M1 at hM1 hU1 hhd
  generalize be B1 1 = M2 at hM2 hU2 hhd
  generalize be seq 2 = M3 at hM3 hU3 hhd
  generalize be time 4 = M4 at hM4 hU4 hhd
  generalize be source 4 = M5 at hM5 hU5 hhd
  obtain ⟨N2, hN2⟩ : ∃ N, M1 ++ M2 = N := ⟨_, rfl⟩
  have hl2 : N2.length = 2 := by rw [← hN2, List.length_append]; omega
  obtain ⟨N3, hN3⟩ : ∃ N, N2 ++ M3 = N := ⟨_, rfl⟩
  have hl3 : N3.length = 4 := by rw [← hN3, List.length_append]; omega
  obtain ⟨N4, hN4⟩ : ∃ N, N3 ++ M4 = N := ⟨_, rfl⟩
  have hl4 : N4.length = 8 := by rw [← hN4, List.length_append]; omega
  obtain ⟨N5, hN5⟩ : ∃ N, N4 ++ M5 = N := ⟨_, rfl⟩
  have hl5 : N5.length = 12 := by rw [← hN5, List.length_append]; omega
  have ha2 := sum_run M1 M2 N2 hN2 (by omega)
  have ha3 := sum_run N2 M3 N3 hN3 (by omega)
  have ha4 := sum_run N3 M4 N4 hN4 (by omega)
  have ha5 := sum_run N4 M5 N5 hN5 (by omega)
  rw [hN2, hN3, hN4, hN5] at hhd
  have HU1 := Lib.hid hU1
  have HU2 := Lib.hid hU2
  have HU3 := Lib.hid hU3
  have HU4 := Lib.hid hU4
  have HU5 := Lib.hid hU5
  clear hU1 hU2 hU3 hU4 hU5 hM1 hM2 hM3 hM4 hM5 hN2 hN3 hN4 hN5 hl2 hl3 hl4 HA1 HA2 HB1
  have SS : ∀ W : World, Below w3.heap.size w3 W → W.cell? ⟨g, 0, none⟩ = some (.bool mrk) ∧ W.cell? ⟨g, 1, none⟩ = some (.int .i64 kind) ∧ W.cell? ⟨g, 2, none⟩ = some (.int .i64 seq) ∧ W.cell? ⟨g, 3, none⟩ = some (.int .i64 time) ∧ W.cell? ⟨g, 4, none⟩ = some (.int .i64 source) ∧ W.cell? ⟨g, 5, none⟩ = some (.slice a others.length c) ∧ W.cell? ⟨g, 6, none⟩ = some (.bool hx) ∧ W.cell? ⟨g, 7, none⟩ = some (.int .i64 prof) ∧ W.cell? ⟨g, 8, none⟩ = some (.string ext) ∧ W.cell? ⟨g, 9, none⟩ = some (.string data) ∧ W.cell? ⟨g, 10, none⟩ = some (.int .i64 pad) ∧ Below w3.heap.size w3 W := fun W hb => by
    obtain ⟨y0, y1, y2, y3, y4, y5, y6, y7, y8, y9, y10⟩ := (hR.later hb).cells
    exact ⟨y0, y1, y2, y3, y4, y5, y6, y7, y8, y9, y10, hb⟩
  have HSS := Lib.hid SS
  clear SS
  go_upto_region 11 with fail
  go_cut [5] (fun v wx => v = .string (ofL N5) ∧ Below w3.heap.size w3 wx)
  case first =>
    go_region_held3 (fun W => W.cell? ⟨g, 0, none⟩ = some (.bool mrk) ∧ W.cell? ⟨g, 1, none⟩ = some (.int .i64 kind) ∧ W.cell? ⟨g, 2, none⟩ = some (.int .i64 seq) ∧ W.cell? ⟨g, 3, none⟩ = some (.int .i64 time) ∧ W.cell? ⟨g, 4, none⟩ = some (.int .i64 source) ∧ W.cell? ⟨g, 5, none⟩ = some (.slice a others.length c) ∧ W.cell? ⟨g, 6, none⟩ = some (.bool hx) ∧ W.cell? ⟨g, 7, none⟩ = some (.int .i64 prof) ∧ W.cell? ⟨g, 8, none⟩ = some (.string ext) ∧ W.cell? ⟨g, 9, none⟩ = some (.string data) ∧ W.cell? ⟨g, 10, none⟩ = some (.int .i64 pad) ∧ Below w3.heap.size w3 W) (first | (go_keep; done) | exact HSS.out _ (Below.drew (Below.refl _ _)) | exact HSS.out _ (Below.drew (by go_split_ands; assumption)) | exact HSS.out _ (below_step (by go_split_ands; assumption) (by assumption)) | (go_split_ands; assumption)) (first | (go_at_call_of 42 (Value.int .i64 A2); refine (HU1.out _).mono ?_; rintro e w' ⟨rfl, hbA⟩) | (go_at_call_of 42 (Value.int .i64 B1); refine (HU2.out _).mono ?_; rintro e w' ⟨rfl, hbB⟩) | (go_at_call_of 42 (Value.int .i64 seq); refine (HU3.out _).mono ?_; rintro e w' ⟨rfl, hbC⟩) | (go_at_call_of 42 (Value.int .i64 time); refine (HU4.out _).mono ?_; rintro e w' ⟨rfl, hbD⟩) | (go_at_call_of 42 (Value.int .i64 source); refine (HU5.out _).mono ?_; rintro e w' ⟨rfl, hbE⟩))
    all_goals
      go_wp2_with fail
      go_meet
      exact ⟨rfl, by first | assumption | (go_split_ands; assumption)⟩
  case rest =>
  obtain ⟨rfl, hb⟩ := hcut
  rename World => w4
  have hR4 := hR.later hb
  have hb4 := hb2.trans (hb.mono hb2.size)
  clear hR hb2 hb HSS HU1 HU2 HU3 HU4 HU5 ha2 ha3 ha4 ha5 x0 x1 x2 x3 x4 x5 x6 x7 x8 x9 x10
  obtain ⟨x0, x1, x2, x3, x4, x5, x6, x7, x8, x9, x10⟩ := hR4.cells
  go_wp2_with fail
  go_loopw [5, 51] (fun s i wr => ∃ (k : Nat) (L : List UInt8), k ≤ others.length ∧ i = .int .i64 k ∧ s = .string (ofL L) ∧ Hid (L = N5 ++ bes (others.take k) 4) ∧ L.length = 12 + 4 * k ∧ RkIn wr g (.bool mrk) (.int .i64 kind) (.int .i64 seq) (.int .i64 time) (.int .i64 source) (.slice a others.length c) (.bool hx) (.int .i64 prof) (.string ext) (.string data) (.int .i64 pad) ∧ Below w.heap.size w wr) (fun _ i _ => others.length - (intOf i).toNat)
  case atStart => exact ⟨0, N5, Nat.zero_le _, rfl, rfl, Lib.hid (by simp [bes]), by omega, hR4, hb4⟩
  case round =>
    obtain ⟨k, L, hk, rfl, rfl, hL, hLl, hR5, hb5⟩ := hrel
    clear hR4 hb4 x0 x1 x2 x3 x4 x5 x6 x7 x8 x9 x10
    obtain ⟨x0, x1, x2, x3, x4, x5, x6, x7, x8, x9, x10⟩ := hR5.cells
    by_cases hlt : k < others.length
    · obtain ⟨ab, off, rfl, hcell⟩ := (Hr.out.later hb5).at hlt
      have hel := Hos.out (others[k]?.getD 0) (by rw [List.getElem?_eq_getElem hlt]; exact List.getElem_mem hlt)
      have hts := bes_take_succ others 4 k hlt
      have hL2 : Hid (L ++ be (others[k]?.getD 0) 4 = N5 ++ bes (others.take (k + 1)) 4) := by
        show _ = _
        rw [hts, hL.out, List.append_assoc]
      clear hts
      generalize others[k]?.getD 0 = x at hcell hel hL2
      obtain ⟨e1, e2⟩ := hel
      have hP : ∀ W : World, _ := fun W => put_as 4 x 4 W rfl (by omega) (by omega) (by decide)
      have hMl : (be x 4).length = 4 := be_len _ _
      generalize be x 4 = M at hP hMl hL2
      obtain ⟨L2, hL2e⟩ : ∃ L2, L ++ M = L2 := ⟨_, rfl⟩
      have hL2l : L2.length = 12 + 4 * (k + 1) := by rw [← hL2e, List.length_append]; omega
      have hadd := sum_run L M L2 hL2e (by omega)
      rw [hL2e] at hL2
      have HP := Lib.hid hP
      clear hP hL2e hMl hHL
      go_wp2_with ((go_at_call 42; refine (HP.out _).mono ?_; rintro e w' ⟨rfl, hb⟩))
      go_roundw
      case rel => exact ⟨k + 1, L2, by omega, by go_num, rfl, hL2, hL2l, hR5.later hb, hb5.trans (hb.mono hb5.size)⟩
      case measure => simp [intOf]; omega
    · obtain rfl : k = others.length := by omega
      rw [List.take_length] at hL
      go_upto_if 61 with fail
      rename World => w5
      go_cut [5] (fun v wx => v = .string (ofL HL) ∧ Below w5.heap.size w5 wx)
      case first =>
        cases hx
        · have e1 : Hid (L = HL) := by show _ = _; rw [hhd.out, hL.out]; simp
          go_wp2_with fail
          go_meet
          exact ⟨by rw [e1.out], Below.refl _ _⟩
        · obtain ⟨x1, x2, x3, x4⟩ := Ht.out rfl
          obtain ⟨q, hq⟩ : ∃ q : Nat, ext.size / 4 = q := ⟨_, rfl⟩
          have e1 : Hid (L ++ ((be prof 2 ++ be (q : Int) 2) ++ by_ ext) = HL) := by show _ = _; rw [hhd.out, hL.out, hq]; simp
          have hq2 : ((ext.size : Nat) : Int).tdiv 4 = (q : Int) := by rw [← hq]; rfl
          have hq3 : ((ext.size : Nat) : Int) / 4 = (q : Int) := by omega
          have hqb : (q : Int) ≤ 65535 := by omega
          have HQ3 := Lib.hid hq3
          have HQ2 := Lib.hid hq2
          have HQW := Lib.hid (IntWalk.i64_in (q : Int) (by omega))
          clear hq hq2 hq3
          have hP1 : ∀ W : World, _ := fun W => put_as 2 prof 2 W rfl (by omega) (by omega) (by decide)
          have hP2 : ∀ W : World, _ := fun W => put_as 2 (q : Int) 2 W rfl (by omega) (by omega) (by decide)
          have hl1 : (be prof 2).length = 2 := be_len _ _
          have hl2 : (be (q : Int) 2).length = 2 := be_len _ _
          generalize be prof 2 = P1 at hP1 hl1 e1
          generalize be (q : Int) 2 = P2 at hP2 hl2 e1
          obtain ⟨R1, hR1⟩ : ∃ R1, P1 ++ P2 = R1 := ⟨_, rfl⟩
          have hr1 : R1.length = 4 := by rw [← hR1, List.length_append]; omega
          obtain ⟨R2, hR2⟩ : ∃ R2, R1 ++ by_ ext = R2 := ⟨_, rfl⟩
          have hr2 : R2.length = 4 + ext.size := by rw [← hR2, List.length_append, by_len]; omega
          rw [hR1, hR2] at e1
          have ha1 := sum_run P1 P2 R1 hR1 (by omega)
          have ha2 : ∀ W : World, Sem.run Try.prog (Op.stringOp .add (ofL R1) ext) W = Result.ok (.string (ofL R2)) W := fun W => by
            have := sum_run R1 (by_ ext) R2 hR2 (by omega) W
            rwa [ofL_by] at this
          have ha3 := sum_run L R2 HL e1.out (by omega)
          have HP1 := Lib.hid hP1
          have HP2 := Lib.hid hP2
          have SS : ∀ W : World, Below w5.heap.size w5 W → W.cell? ⟨g, 0, none⟩ = some (.bool mrk) ∧ W.cell? ⟨g, 1, none⟩ = some (.int .i64 kind) ∧ W.cell? ⟨g, 2, none⟩ = some (.int .i64 seq) ∧ W.cell? ⟨g, 3, none⟩ = some (.int .i64 time) ∧ W.cell? ⟨g, 4, none⟩ = some (.int .i64 source) ∧ W.cell? ⟨g, 5, none⟩ = some (.slice a others.length c) ∧ W.cell? ⟨g, 6, none⟩ = some (.bool true) ∧ W.cell? ⟨g, 7, none⟩ = some (.int .i64 prof) ∧ W.cell? ⟨g, 8, none⟩ = some (.string ext) ∧ W.cell? ⟨g, 9, none⟩ = some (.string data) ∧ W.cell? ⟨g, 10, none⟩ = some (.int .i64 pad) ∧ Below w5.heap.size w5 W := fun W hb => by
            obtain ⟨y0, y1, y2, y3, y4, y5, y6, y7, y8, y9, y10⟩ := (hR5.later hb).cells
            exact ⟨y0, y1, y2, y3, y4, y5, y6, y7, y8, y9, y10, hb⟩
          have HSS := Lib.hid SS
          clear SS hP1 hP2 hR1 hR2 hl1 hl2 hr1 hr2 hHL
          go_wp2_with fail
          go_region_held3 (fun W => W.cell? ⟨g, 0, none⟩ = some (.bool mrk) ∧ W.cell? ⟨g, 1, none⟩ = some (.int .i64 kind) ∧ W.cell? ⟨g, 2, none⟩ = some (.int .i64 seq) ∧ W.cell? ⟨g, 3, none⟩ = some (.int .i64 time) ∧ W.cell? ⟨g, 4, none⟩ = some (.int .i64 source) ∧ W.cell? ⟨g, 5, none⟩ = some (.slice a others.length c) ∧ W.cell? ⟨g, 6, none⟩ = some (.bool true) ∧ W.cell? ⟨g, 7, none⟩ = some (.int .i64 prof) ∧ W.cell? ⟨g, 8, none⟩ = some (.string ext) ∧ W.cell? ⟨g, 9, none⟩ = some (.string data) ∧ W.cell? ⟨g, 10, none⟩ = some (.int .i64 pad) ∧ Below w5.heap.size w5 W) (first | (go_keep; done) | exact HSS.out _ (Below.drew (Below.refl _ _)) | exact HSS.out _ (Below.drew (by go_split_ands; assumption)) | exact HSS.out _ (below_step (by go_split_ands; assumption) (by assumption)) | (go_split_ands; assumption)) (first | (go_at_call_of 42 (Value.int .i64 prof); refine (HP1.out _).mono ?_; rintro e w' ⟨rfl, hbA⟩) | (go_at_call 42; (try rw [HQ3.out]); (try rw [HQ2.out]); (try rw [HQW.out]); refine (HP2.out _).mono ?_; rintro e w' ⟨rfl, hbB⟩))
          all_goals
            go_wp2_with fail
            go_meet
            exact ⟨rfl, by first | assumption | (go_split_ands; assumption)⟩
      case rest =>
      obtain ⟨rfl, hb⟩ := hcut
      rename World => w6
      have hR6 := hR5.later hb
      have hb6 := hb5.trans (hb.mono hb5.size)
      clear hR5 hb5 hb x0 x1 x2 x3 x4 x5 x6 x7 x8 x9 x10 hL hLl hlt hhd
      obtain ⟨x0, x1, x2, x3, x4, x5, x6, x7, x8, x9, x10⟩ := hR6.cells
      obtain ⟨D2, hD2⟩ : ∃ D2, HL ++ by_ data = D2 := ⟨_, rfl⟩
      have hD2l : D2.length ≤ 2000000 := by rw [← hD2, List.length_append, by_len]; omega
      have haD : ∀ W : World, Sem.run Try.prog (Op.stringOp .add (ofL HL) data) W = Result.ok (.string (ofL D2)) W := fun W => by
        have := sum_run HL (by_ data) D2 hD2 (by omega) W
        rwa [ofL_by] at this
      rw [hD2] at hpk
      clear hHL hD2
      go_wp2_with fail
      go_loopw [5, 8] (fun s i wr => ∃ (k : Nat) (L : List UInt8), (k = 0 ∨ (k : Int) + 1 ≤ pad) ∧ i = .int .i64 ((k : Int) + 1) ∧ s = .string (ofL L) ∧ Hid (L = D2 ++ List.replicate k 0) ∧ L.length = D2.length + k ∧ RkIn wr g (.bool mrk) (.int .i64 kind) (.int .i64 seq) (.int .i64 time) (.int .i64 source) (.slice a others.length c) (.bool hx) (.int .i64 prof) (.string ext) (.string data) (.int .i64 pad) ∧ Below w.heap.size w wr) (fun _ i _ => pad.toNat - (intOf i).toNat)
      case atStart => exact ⟨0, D2, .inl rfl, rfl, rfl, Lib.hid (by simp), by omega, hR6, hb6⟩
      case round =>
        obtain ⟨k, L, hk, rfl, rfl, hL, hLl, hR7, hb7⟩ := hrel
        clear hR6 hb6 haD x0 x1 x2 x3 x4 x5 x6 x7 x8 x9 x10
        obtain ⟨x0, x1, x2, x3, x4, x5, x6, x7, x8, x9, x10⟩ := hR7.cells
        by_cases hlt : (k : Int) + 1 < pad
        · obtain ⟨L2, hL2e⟩ : ∃ L2, L ++ [0] = L2 := ⟨_, rfl⟩
          have hL2l : L2.length = D2.length + (k + 1) := by rw [← hL2e, List.length_append]; simp; omega
          have hL2 : Hid (L2 = D2 ++ List.replicate (k + 1) 0) := by
            show _ = _
            rw [← hL2e, hL.out, List.append_assoc, List.replicate_succ']
          have hadd : ∀ W : World, Sem.run Try.prog (Op.stringOp .add (ofL L) { data := #[0] }) W = Result.ok (.string (ofL L2)) W := fun W => sum_run L [0] L2 hL2e (by omega) W
          clear hL2e
          go_wp2_with fail
          go_roundw
          case rel => exact ⟨k + 1, L2, .inr (by omega), by go_num, rfl, hL2, hL2l, hR7, hb7⟩
          case measure => simp [intOf]; omega
        · by_cases h0 : 0 < pad
          · have hk2 : (k : Int) + 1 = pad := by omega
            obtain ⟨L2, hL2e⟩ : ∃ L2, L ++ be pad 1 = L2 := ⟨_, rfl⟩
            have hL2 : Hid (L2 = PL) := by
              show _ = _
              rw [← hL2e, hL.out, hpk.out, if_pos h0, ← hk2, show ((k : Int) + 1) = ((k + 1 : Nat) : Int) from by omega, be_byte _ (by omega), Int.toNat_natCast, padL, List.append_assoc, Nat.add_sub_cancel]
            have hadd := sum_run L (be pad 1) L2 hL2e (by have := congrArg List.length hL2e; rw [List.length_append, be_len] at this; omega)
            have hP : ∀ W : World, _ := fun W => put_as 1 pad 1 W rfl (by omega) (by omega) (by decide)
            generalize be pad 1 = M at hP hadd hL2e
            have HP := Lib.hid hP
            clear hP hL2e hk2
            go_wp2_with ((go_at_call 42; refine (HP.out _).mono ?_; rintro e w' ⟨rfl, hb⟩))
            go_ret
            exact ⟨by rw [hL2.out]; rfl, hb7.trans (hb.mono hb7.size)⟩
          · have hk2 : k = 0 := by omega
            have hL2 : Hid (L = PL) := by
              show _ = _
              rw [hL.out, hpk.out, if_neg h0, hk2]
              simp
            go_wp2_with fail
            go_ret
            exact ⟨by rw [hL2.out]; rfl, hb7⟩
theorem refPack_any (p : PK) (a : Option Addr) (c : Nat) (w : World) (hs : p.ext.size ≤ 9223372036854775807) (hl : p.others.length ≤ 9223372036854775807) (hd : p.data.size ≤ 1000000) (hk : p.ok) (hr : Reads .i64 w a p.others) :
    Calls Try.prog 17 #[.agg (p.rcells a c)] w fun e w' => e = .returned (.string (packS p)) ∧ Below w.heap.size w w' := by
  by_cases hp : mayOk p
  · rw [packS, if_pos hp]; exact refPack_good p a c w hd hk hr hp
  · rw [packS, if_neg hp]
    have HM : ∀ (a : Option Addr) (c : Nat) (W : World), _ := fun a c W => refMay_b p a c W hs hl false (by simp [hp])
    clear hp hk hr hs hl hd
    obtain ⟨mrk, kind, seq, time, source, others, hx, prof, ext, data, pad⟩ := p
    simp only [PK.rcells] at *
    have HM' := Lib.hid HM
    clear HM
    go_enter Try.func17, Try.ntmps17
    go_wp2_with ((go_at_call 18; refine (HM'.out _ _ _).mono ?_; rintro e w' ⟨rfl, hb⟩))
    go_ret
    exact ⟨rfl, ((Below.refl _ _).alloc (Nat.le_refl _) _).trans (hb.mono (by simp))⟩
end Go.Proofs.Ytiffocdohknopaa
