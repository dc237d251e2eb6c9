/- The document's Pack of pieces; Kinds; Same. -/
import Derived.Test.YtimdeohbhiicpaaPcJ
import Derived.Test.YtimdeohbhiicpaaRtpBP
namespace Go.Proofs.Ytimdeohbhiicpaa
open Go.RowKit rtpApart
set_option linter.unusedVariables false
theorem pcsS_step (l : List PC) (k : Nat) (h : k < l.length) : pcsL (l.take (k + 1)) = pcsL (l.take k) ++ pcL (l[k]?.getD zeroPC) := pcsL_take l k h
theorem ofL_pcL (L1 : List UInt8) (c kd : Int) (body : ByteArray) (q : Nat) (hq : body.size / 4 = q) :
    ofL (L1 ++ pcL ⟨c, kd, body⟩) = ofL L1 ++ (ofL (be (128 + c) 1 ++ be kd 1 ++ be (q : Int) 2) ++ body) := by
  unfold pcL
  rw [hq, ofL_append, ofL_append, ofL_by]
set_option maxRecDepth 100000 in
set_option maxHeartbeats 3200000 in
theorem pcRefPack_any (l : List PC) (a : Option Addr) (c : Nat) (w : World) (hr : ReadsP w a l) (hl : l.length ≤ 1000) (hz : ∀ p ∈ l, p.body.size ≤ 300000) :
    Calls Try.prog 33 #[.slice a l.length c] w fun e w' => e = .returned (.string (pcsS l)) ∧ Below w.heap.size w w' := by
  have hR : ∀ W, Below w.heap.size w W → ReadsP W a l := fun W h => hr.later h
  have HR := Lib.hid hR
  have HZ := Lib.hid hz
  clear hR hr hz
  obtain ⟨b, hb⟩ : ∃ b, w.heap.size = b := ⟨_, rfl⟩
  have HB := Lib.hid hb
  rw [hb] at HR
  have hb0 : Below b w w := Below.refl _ _
  clear hb
  go_enter Try.func33, Try.ntmps33
  go_wp2
  go_loopw [3, 8] (fun x i wr => ∃ k : Nat, k ≤ l.length ∧ i = .int .i64 k ∧ x = .string (ofL (pcsL (l.take k))) ∧ Below b w wr ∧ Hid (allMay (l.take k))) (fun _ i _ => l.length - (intOf i).toNat)
  case atStart => exact ⟨0, Nat.zero_le _, rfl, rfl, hb0, Lib.hid (fun p hp => by simp at hp)⟩
  case round =>
    obtain ⟨k, hk, rfl, rfl, hb1, HM⟩ := hrel
    clear hb0
    have hbs : b ≤ wr.heap.size := by rw [← HB.out]; exact hb1.size
    by_cases hlt : k < l.length
    · obtain ⟨ab, off, rfl, hc0, hc1, hc2⟩ := (HR.out _ hb1).at hlt
      have HT := Lib.hid (pcsL_take l k hlt)
      have hmem := pc_mem l k hlt
      have hsz := HZ.out _ hmem
      have HMM := Lib.hid (take_may l k hlt HM.out)
      have HBD := Lib.hid (fun h => pcsS_bad l _ hmem h)
      have hlen := pcsL_take_len l k 300000 HZ.out
      have hlen2 : (pcsL (l.take k)).length ≤ 400000000 := by
        have : l.length * (4 + 300000) ≤ 1000 * (4 + 300000) := Nat.mul_le_mul_right _ hl
        omega
      clear hlen hmem
      generalize l[k]?.getD zeroPC = p at hc0 hc1 hc2 HT hsz HMM HBD
      generalize pcsL (l.take k) = L1 at HT hlen2 ⊢
      obtain ⟨count, kind, body⟩ := p
      have hX := heap_alloc_new wr (.cells #[.int .i64 count, .int .i64 kind, .string body] 63 (0, 0))
      simp only at *
      by_cases hmp : pcMay ⟨count, kind, body⟩
      · have HMay := Lib.hid (fun W => pcMay_any ⟨count, kind, body⟩ W (by show body.size ≤ _; omega) true (by simp [hmp]))
        have HN := Lib.hid (HMM.out hmp)
        obtain ⟨h1, h2, h3, h4, h5, h6⟩ := id hmp
        simp only at h1 h2 h3 h4 h5 h6
        clear hmp HBD HMM
        go_wp2_with fail
        refine (HMay.out _).mono ?_
        rintro e w3 ⟨rfl, hb3⟩
        have hX3 : BoxAt w3 wr.heap.size ⟨count, kind, body⟩ := BoxAt.later hX hb3
        have hbb : Below b w w3 := (hb1.alloc hbs _).trans (hb3.mono (by simp; omega))
        clear hX hb3 HMay hc0 hc1 hc2
        have hbs3 : b ≤ w3.heap.size := by rw [← HB.out]; exact hbb.size
        generalize wr.heap.size = g at hX3 ⊢
        obtain ⟨q, hq⟩ : ∃ q, body.size / 4 = q := ⟨_, rfl⟩
        have hres := Lib.hid (ofL_pcL L1 count kind body q hq)
        rw [← HT.out] at hres
        have hq1 : (body.size : Int) / 4 = (q : Int) := by omega
        have hq2 : q ≤ 65535 := by omega
        have hq3 : 0 ≤ (q : Int) ∧ (q : Int) ≤ 65535 := by omega
        obtain ⟨q3, q4⟩ := hq3
        clear hq hq2
        generalize (q : Int) = Q at hq1 hres q3 q4
        have hw1 : IntKind.i64.wrap (128 + count) = 128 + count := IntWalk.i64_in _ ⟨by omega, by omega⟩
        have hqw : IntKind.i64.wrap Q = Q := IntWalk.i64_in _ ⟨by omega, by omega⟩
        have hU1 := fun W => put_as 1 (128 + count) 1 W rfl (by omega) (by omega) (by decide)
        have hU2 := fun W => put_as 1 kind 1 W rfl (by omega) (by omega) (by decide)
        have hU3 := fun W => put_as 2 Q 2 W rfl (by omega) (by omega) (by decide)
        have hM1 : (be (128 + count) 1).length = 1 := be_len _ _
        have hM2 : (be kind 1).length = 1 := be_len _ _
        have hM3 : (be Q 2).length = 2 := be_len _ _
        generalize be (128 + count) 1 = M1 at hU1 hres hM1
        generalize be kind 1 = M2 at hU2 hres hM2
        generalize be Q 2 = M3 at hU3 hres hM3
        have hs1 : ∀ W : World, _ := fun W => sum_run M1 M2 (M1 ++ M2) rfl (by rw [List.length_append]; omega) W
        have hs2 : ∀ W : World, _ := fun W => sum_run (M1 ++ M2) M3 (M1 ++ M2 ++ M3) rfl (by simp only [List.length_append]; omega) W
        have hl3 : (ofL (M1 ++ M2 ++ M3)).size = 4 := by rw [ofL_size]; simp only [List.length_append]; omega
        have hs3 : ∀ W : World, Sem.run Try.prog (Op.stringOp .add (ofL (M1 ++ M2 ++ M3)) body) W = Result.ok (.string (ofL (M1 ++ M2 ++ M3) ++ body)) W := fun W => run_string_add_sum _ _ _ (by omega)
        have hs4 : ∀ W : World, Sem.run Try.prog (Op.stringOp .add (ofL L1) (ofL (M1 ++ M2 ++ M3) ++ body)) W = Result.ok (.string (ofL (pcsL (l.take (k + 1))))) W := fun W => by
          rw [hres.out]
          refine run_string_add_sum _ _ _ ?_
          rw [ByteArray.size_append, ofL_size]
          omega
        generalize ofL (M1 ++ M2 ++ M3) ++ body = D3 at hs3 hs4
        generalize ofL (M1 ++ M2 ++ M3) = D2 at hs2 hs3
        generalize ofL (M1 ++ M2) = D1 at hs1 hs2
        generalize hD4 : ofL (pcsL (l.take (k + 1))) = D4 at hs4
        have HD4 := Lib.hid hD4
        clear hD4
        generalize ofL M1 = E1 at hs1 hU1
        generalize ofL M2 = E2 at hs1 hU2
        generalize ofL M3 = E3 at hs2 hU3
        have HU1 := Lib.hid hU1
        have HU2 := Lib.hid hU2
        have HU3 := Lib.hid hU3
        have hSS : ∀ W : World, Below w3.heap.size w3 W → W.cell? ⟨g, 0, none⟩ = some (.int .i64 count) ∧ W.cell? ⟨g, 1, none⟩ = some (.int .i64 kind) ∧ W.cell? ⟨g, 2, none⟩ = some (.string body) ∧ Below w3.heap.size w3 W := fun W h => by
          obtain ⟨b0, b1, b2, _⟩ := boxAt_S (hX3.later h)
          exact ⟨b0, b1, b2, h⟩
        have HSS := Lib.hid hSS
        obtain ⟨b0, b1, b2, _⟩ := boxAt_S hX3
        clear hU1 hU2 hU3 hSS HT hM1 hM2 hM3 hl3 hres hlen2
        go_wp2_with fail
        go_region_held3 (fun W => W.cell? ⟨g, 0, none⟩ = some (.int .i64 count) ∧ W.cell? ⟨g, 1, none⟩ = some (.int .i64 kind) ∧ W.cell? ⟨g, 2, none⟩ = some (.string body) ∧ Below w3.heap.size w3 W) (first | (go_keep; done) | exact HSS.out _ (Below.drew (Below.refl _ _)) | exact HSS.out _ (Below.drew (by go_split_ands; assumption)) | exact HSS.out _ (below_step (by go_split_ands; assumption) (by assumption)) | (go_split_ands; assumption)) (first | (go_at_call_of 63 (Value.int .i64 kind); refine (HU2.out _).mono ?_; rintro e w' ⟨rfl, hbB⟩) | (go_at_call_of 63 (Value.int .i64 Q); refine (HU3.out _).mono ?_; rintro e w' ⟨rfl, hbC⟩) | (go_at_call 63; refine (HU1.out _).mono ?_; rintro e w' ⟨rfl, hbA⟩))
        all_goals
          go_wp2
          go_roundw
          case rel => exact ⟨k + 1, by omega, by go_num, by rw [HD4.out], hbb.trans (Below.mono (by go_split_ands; assumption) hbs3), HN⟩
          case measure => simp [intOf]; omega
      · have HMay := Lib.hid (fun W => pcMay_any ⟨count, kind, body⟩ W (by show body.size ≤ _; omega) false (by simp [hmp]))
        have HN := Lib.hid (HBD.out hmp)
        clear hmp HBD HMM HT
        go_wp2_with fail
        refine (HMay.out _).mono ?_
        rintro e w3 ⟨rfl, hb3⟩
        have hbb : Below b w w3 := (hb1.alloc hbs _).trans (hb3.mono (by simp; omega))
        go_wp2
        go_ret
        exact ⟨ret_str HN.out.symm, by rw [HB.out]; exact hbb⟩
    · obtain rfl : k = l.length := by omega
      rw [List.take_length] at HM
      have htl : pcsL (l.take l.length) = pcsL l := by rw [List.take_length]
      have HS := Lib.hid (show pcsS l = ofL (pcsL (l.take l.length)) by rw [htl, pcsS_good l HM.out])
      go_wp2
      go_ret
      exact ⟨ret_str HS.out.symm, by rw [HB.out]; exact hb1⟩
def kindsL (l : List PC) : List Int := l.map PC.kind
theorem infoInt : (Try.prog.info? 3).map (fun i => (i.zero, i.size, i.bytes)) = some (some (.int .i64 0), 1, 8) := by kernel_rfl
theorem kinds_take (l : List PC) (k : Nat) (h : k < l.length) : kindsL (l.take (k + 1)) = kindsL (l.take k) ++ [(l[k]?.getD zeroPC).kind] := by
  unfold kindsL
  rw [List.take_succ_eq_append_getElem h, List.map_append]
  simp [h]
set_option maxRecDepth 100000 in
set_option maxHeartbeats 1600000 in
theorem kinds_any (l : List PC) (a : Option Addr) (c : Nat) (w : World) (hr : ReadsP w a l) (hl : l.length ≤ 1000) :
    Calls Try.prog 35 #[.slice a l.length c] w fun e w' => Below w.heap.size w w' ∧ ∃ a' c', e = .returned (.slice a' (kindsL l).length c') ∧ Reads .i64 w' a' (kindsL l) := by
  obtain ⟨i0, hi, hz0, hz1, hz2⟩ := info_parts infoInt
  have HR := Lib.hid (fun W (h : Below w.heap.size w W) => hr.later h)
  clear hr
  obtain ⟨b, hb⟩ : ∃ b, w.heap.size = b := ⟨_, rfl⟩
  have HB := Lib.hid hb
  rw [hb] at HR
  have hb0 : Below b w w := Below.refl _ _
  clear hb
  go_enter Try.func35, Try.ntmps35
  go_wp2
  go_loopw [3, 8] (fun v i wr => ∃ k : Nat, k ≤ l.length ∧ i = .int .i64 k ∧ wr.ownsRow b 3 1 v k ((kindsL (l.take k)).map (Value.int .i64)) ∧ Below b w wr) (fun _ i _ => l.length - (intOf i).toNat)
  case atStart => exact ⟨0, Nat.zero_le _, rfl, World.ownsRow_nil _ _ _ _, hb0⟩
  case round =>
    obtain ⟨k, hk, rfl, hown, hb1⟩ := hrel
    clear hb0
    have hbs : b ≤ wr.heap.size := by rw [← HB.out]; exact hb1.size
    by_cases hlt : k < l.length
    · obtain ⟨ab, off, rfl, hc0, hc1, hc2⟩ := (HR.out _ hb1).at hlt
      have HK := Lib.hid (kinds_take l k hlt)
      generalize l[k]?.getD zeroPC = p at hc0 hc1 hc2 HK
      obtain ⟨count, kind, body⟩ := p
      simp only at *
      have hown1 := hown.alloc (.cells #[.int .i64 count, .int .i64 kind, .string body] 64)
      have hba := hb1.alloc hbs (.cells #[.int .i64 count, .int .i64 kind, .string body] 64)
      have hX := heap_alloc_new wr (.cells #[.int .i64 count, .int .i64 kind, .string body] 64 (0, 0))
      have hbs2 : b ≤ (wr.alloc (.cells #[.int .i64 count, .int .i64 kind, .string body] 64)).heap.size := by simp; omega
      have b1 : (wr.alloc (.cells #[.int .i64 count, .int .i64 kind, .string body] 64)).cell? ⟨wr.heap.size, 1, none⟩ = some (.int .i64 kind) := by simp
      go_upto_region 5 with fail
      generalize wr.alloc (.cells #[.int .i64 count, .int .i64 kind, .string body] 64) = w2 at hown1 hba hbs2 b1 ⊢
      generalize wr.heap.size = g at b1 ⊢
      clear hown hb1 hX hc0 hc1 hc2
      go_wp2_with (at_builtin; refine append_one rfl (.tmp 12) (.tmp 15) 34 rfl b 3 i0 (.int .i64 0) 8 Try.underlying34 hi hz0 hz1 hz2 rfl _ k ((kindsL (l.take k)).map (Value.int .i64)) rfl hown1 (.int .i64 kind) rfl rfl ?d1 ?d2 b (Nat.le_refl _) hbs2 hba ?_)
      case d1 => unfold maxLen; omega
      case d2 => omega
      intro v' w3 hown3 hb3
      have hown4 : w3.ownsRow b 3 1 v' (k + 1) ((kindsL (l.take (k + 1))).map (Value.int .i64)) := by
        rw [HK.out, List.map_append]
        exact hown3
      clear hown3 hown1 hba
      go_wp2
      go_roundw
      case rel => exact ⟨k + 1, by omega, by go_num, hown4, hb3⟩
      case measure => simp [intOf]; omega
    · obtain rfl : k = l.length := by omega
      rw [List.take_length] at hown
      obtain ⟨a', c', rfl, hn, _, _, hv⟩ := own_reads hown
      have HN := Lib.hid hn
      clear hn
      go_wp2
      go_ret
      exact ⟨by rw [HB.out]; exact hb1, a', c', by rw [← HN.out]; rfl, hv⟩
set_option maxHeartbeats 800000 in
theorem sameInts_any (zs : List Int) (a a2 : Option Addr) (n c c2 : Nat) (w : World) (hn : n = zs.length) (hr : Reads .i64 w a zs) (hr2 : Reads .i64 w a2 zs) (hl : zs.length ≤ 1000000000) :
    Calls Try.prog 34 #[.slice a n c, .slice a2 n c2] w fun e w' => e = .returned (.bool true) ∧ Below w.heap.size w w' := by
  subst hn
  have HR := Lib.hid (fun W (h : Below w.heap.size w W) => hr.later h)
  have HR2 := Lib.hid (fun W (h : Below w.heap.size w W) => hr2.later h)
  clear hr hr2
  go_enter Try.func34, Try.ntmps34
  go_wp2
  go_loopw [13] (fun i wr => ∃ k : Nat, k ≤ zs.length ∧ i = .int .i64 k ∧ Below w.heap.size w wr) (fun i _ => zs.length - (intOf i).toNat)
  case atStart => exact ⟨0, Nat.zero_le _, rfl, Below.refl _ _⟩
  case round =>
    obtain ⟨k, hk, rfl, hb1⟩ := hrel
    by_cases hlt : k < zs.length
    · obtain ⟨ab, off, rfl, c0⟩ := (HR.out _ hb1).at hlt
      obtain ⟨ab2, off2, rfl, d0⟩ := (HR2.out _ hb1).at hlt
      generalize zs[k]?.getD 0 = p at c0 d0
      have i1 : (k : Int) < (zs.length : Int) := by omega
      go_wp2_with fail
      go_quiet (fail)
      have hb2 := below_drewN hb1 nq
      go_wp2
      go_roundw
      case rel => exact ⟨k + 1, by omega, by go_num, hb2⟩
      case measure => simp [intOf]; omega
    · obtain rfl : k = zs.length := by omega
      go_wp2
      go_ret
      exact ⟨rfl, hb1⟩
end Go.Proofs.Ytimdeohbhiicpaa
