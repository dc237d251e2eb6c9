/- NackPairs: the walk. -/
import Derived.Test.YtfnaanalhcagfaaNkS
namespace Go.Proofs.Ytfnaanalhcagfaa
open Go.RowKit
set_option linter.unusedVariables false
namespace nackPairs
set_option maxRecDepth 100000 in
set_option maxHeartbeats 3200000 in
theorem walk (p0 : Option Addr) (len0 cap0 : Nat) (z0 : List Int) (w : World) (hrow : IsRow .u16 w p0 len0 cap0 z0) :
    Calls Try.prog 5 #[.slice p0 len0 cap0] w fun e w' => e = .returned (.bool true) ∧ Below w.heap.size w w' := by
  obtain ⟨es, rfl, l1, l2, hr0, hwf⟩ := hrow.reads
  have hz : ∀ n ∈ es.take 40, 0 ≤ n ∧ n < 65536 := fun n hn => by obtain ⟨h1, h2⟩ := u16_bd (hwf n (List.mem_of_mem_take hn)); exact ⟨h1, by omega⟩
  have hlen : min (es.length : Int) 40 = ((es.take 40).length : Int) := by rw [List.length_take]; omega
  have hl40 : (es.take 40).length ≤ 40 := by rw [List.length_take]; omega
  have HR := Lib.hid (fun (W : World) (h : Below w.heap.size w W) => (hr0.later h).take 40)
  have hmB : ((es.take 40).length : Int) ≤ (cap0 : Int) := by rw [List.length_take]; omega
  clear hrow hr0 hwf
  generalize es.take 40 = zs at hz hlen hl40 HR hmB
  have HZ := Lib.hid hz
  obtain ⟨ok1, ok2, ok3⟩ := prs_ok zs hz
  have hpl : (prs zs).length ≤ 40 := by have := dist_len zs; omega
  have HOK := Lib.hid (fun p (hp : p ∈ prs zs) => (show 0 ≤ p.1 ∧ p.1 < 65536 ∧ p.2 < 65536 from ⟨(HZ.out _ (ok1 p hp).1).1, (HZ.out _ (ok1 p hp).1).2, (ok1 p hp).2⟩))
  have HCM := Lib.hid (cat_mem zs hz)
  have HI := Lib.hid (fun (W : World) (h : Below w.heap.size w W) => ints_any zs p0 cap0 W (HR.out W h) (by omega) (fun n hn => by have := HZ.out n hn; omega))
  have HP := Lib.hid (fun (W : World) (h : Below w.heap.size w W) => pairs_any zs p0 cap0 W (HR.out W h) (by omega) HZ.out)
  have HA := Lib.hid (fun (W : World) (h : Below w.heap.size w W) => ask_any 1 2 zs p0 cap0 W (HR.out W h) (by omega) HZ.out)
  have HRP := Lib.hid (fun (W : World) (a : Option Addr) (c : Nat) (hr : Reads .i64 W a zs) (hc : zs.length ≤ c) (hc2 : c ≤ 9223372036854775807) => refPairs_any zs a c W hr (by omega) hc hc2 HZ.out)
  clear hz ok1 ok2 ok3
  obtain ⟨ps, hps⟩ : ∃ ps, prs zs = ps := ⟨_, rfl⟩
  rw [hps] at HP HA HRP HOK HCM hpl
  clear hps
  go_enter Try.func5, Try.ntmps5
  go_wp2_with fail
  refine (nkAwake_any _).mono ?_
  rintro e wa ⟨rfl, hba⟩
  go_wp2_with fail
  refine (HP.out _ hba).mono ?_
  rintro e w3 ⟨v3, rfl, hrow3, hb3⟩
  obtain ⟨a3, c3, rfl, hc3, hr3⟩ := own_prs hrow3
  have hw3 := hba.trans (hb3.mono hba.size)
  clear hrow3 hb3 hba HP
  go_wp2_with fail
  refine (nkTold_any ps a3 c3 _ hr3 (by omega) HOK.out).mono ?_
  rintro e w4 ⟨v4, rfl, hrow4, hb4⟩
  obtain ⟨a4, c4, rfl, hc4, hr4⟩ := own_prR hrow4
  have hw4 := hw3.trans (hb4.mono hw3.size)
  clear hrow4 hb4 hr3 hw3
  go_wp2_with fail
  refine (HI.out _ hw4).mono ?_
  rintro e w5 ⟨v5, rfl, hrow5, hb5⟩
  obtain ⟨a5, c5, rfl, _, hc5, hc5b, hr5⟩ := own_reads hrow5
  have hw5 := hw4.trans (hb5.mono hw4.size)
  have hr45 := hr4.later hb5
  clear hrow5 hb5 hr4 hw4
  go_wp2_with fail
  refine (HRP.out _ a5 c5 hr5 hc5 hc5b).mono ?_
  rintro e w6 ⟨v6, rfl, hrow6, hb6⟩
  obtain ⟨a6, c6, rfl, hc6, hr6⟩ := own_prR hrow6
  have hw6 := hw5.trans (hb6.mono hw5.size)
  have hr46 := hr45.later hb6
  clear hrow6 hb6 hr45 hw5 hr5 HRP
  go_wp2_with fail
  refine (sameP_any ps a4 a6 c4 c6 _ hr46 hr6 (by omega) hc4 hc6).mono ?_
  rintro e w7 ⟨rfl, hb7⟩
  have hw7 := hw6.trans (hb7.mono hw6.size)
  clear hr46 hr6 hb7 hw6
  go_wp2_with fail
  refine (HA.out _ hw7).mono ?_
  rintro e w8 ⟨v8, rfl, hrow8, hb8⟩
  obtain ⟨a8, c8, rfl, hc8, hr8⟩ := own_prs hrow8
  have hw8 := hw7.trans (hb8.mono hw7.size)
  clear hrow8 hb8 hw7 HA
  go_wp2_with fail
  refine (nackNumbers_any ps 1 2 a8 c8 _ hr8 (by omega) HOK.out).mono ?_
  rintro e w9 ⟨v9, rfl, hrow9, hb9⟩
  obtain ⟨a9, c9, rfl, _, _, _, hr9⟩ := own_reads hrow9
  have hw9 := hw8.trans (hb9.mono hw8.size)
  have hdl := dist_len (catN ps)
  have hcl := catN_len ps
  have HCB := Lib.hid (catN_wf ps HOK.out)
  have HM : Hid (∀ x, x ∈ dist (catN ps) ↔ x ∈ zs) := Lib.hid (fun x => (mem_dist _ x).trans (HCM.out x))
  have HDB : Hid (∀ y ∈ dist (catN ps), 0 ≤ y ∧ y ≤ 65535) := Lib.hid (fun y hy => by have := HCB.out y ((mem_dist _ y).1 hy); omega)
  generalize dist (catN ps) = dd at *
  clear hrow9 hb9 hw8 hr8 HCM HCB HOK
  go_wp2_with fail
  refine (ints_any dd a9 c9 _ hr9 (by omega) HDB.out).mono ?_
  rintro e w10 ⟨v10, rfl, hrow10, hb10⟩
  obtain ⟨a10, c10, rfl, _, hc10, hc10b, hr10⟩ := own_reads hrow10
  have hw10 := hw9.trans (hb10.mono hw9.size)
  clear hrow10 hb10 hw9 hr9
  go_wp2_with fail
  have hsz := hw10.size
  go_loopw [32] (fun i wr => ∃ k : Nat, k ≤ zs.length ∧ i = .int .i64 k ∧ wr = w10) (fun i _ => zs.length - (intOf i).toNat)
  case atStart => exact ⟨0, Nat.zero_le _, rfl, rfl⟩
  case round =>
    obtain ⟨k, hk, rfl, rfl⟩ := hrel
    by_cases hlt : k < zs.length
    · obtain ⟨b, off, rfl, hcell⟩ := (HR.out _ hw10).at hlt
      have hmem : zs[k]?.getD 0 ∈ zs := by rw [List.getElem?_eq_getElem hlt]; exact List.getElem_mem hlt
      obtain ⟨x0, x1⟩ := HZ.out _ hmem
      generalize zs[k]?.getD 0 = x at hcell hmem x0 x1
      have hcx : dd.contains x = true := by rw [List.contains_iff_mem]; exact (HM.out x).2 hmem
      have hIc := Lib.hid (fun W hr => in_any dd x a10 c10 W hr (by omega) true hcx)
      have hcv : IntKind.i64.wrap x = x := IntWalk.i64_in _ ⟨by omega, by omega⟩
      clear hcx hmem
      go_wp2_with fail
      refine (hIc.out _ hr10).mono ?_
      rintro e w11 ⟨rfl, rfl⟩
      go_wp2_with fail
      go_roundw
      case rel => exact ⟨k + 1, by omega, by go_num, trivial⟩
      case measure => simp [intOf]; omega
    · obtain rfl : k = zs.length := by omega
      go_wp2_with fail
      refine (HI.out _ hw10).mono ?_
      rintro e w12 ⟨v12, rfl, hrow12, hb12⟩
      obtain ⟨a12, c12, rfl, _, _, _, hr12⟩ := own_reads hrow12
      have hw12 := hw10.trans (hb12.mono hw10.size)
      have hr10b := hr10.later hb12
      clear hrow12 hb12 hr10 hw10
      go_wp2_with fail
      go_loopw [46] (fun i wr => ∃ k : Nat, k ≤ dd.length ∧ i = .int .i64 k ∧ wr = w12) (fun i _ => dd.length - (intOf i).toNat)
      case atStart => exact ⟨0, Nat.zero_le _, rfl, rfl⟩
      case round =>
        obtain ⟨k, hk2, rfl, rfl⟩ := hrel
        by_cases hlt2 : k < dd.length
        · obtain ⟨b, off, rfl, hcell⟩ := hr10b.at hlt2
          have hmem : dd[k]?.getD 0 ∈ dd := by rw [List.getElem?_eq_getElem hlt2]; exact List.getElem_mem hlt2
          generalize dd[k]?.getD 0 = x at hcell hmem
          have hcx : zs.contains x = true := by rw [List.contains_iff_mem]; exact (HM.out x).1 hmem
          have hIc := Lib.hid (fun W hr => in_any zs x a12 c12 W hr (by omega) true hcx)
          clear hcx hmem
          go_wp2_with fail
          refine (hIc.out _ hr12).mono ?_
          rintro e w13 ⟨rfl, rfl⟩
          go_wp2_with fail
          go_roundw
          case rel => exact ⟨k + 1, by omega, by go_num, trivial⟩
          case measure => simp [intOf]; omega
        · obtain rfl : k = dd.length := by omega
          go_wp2
          go_ret
          exact ⟨rfl, hw12⟩
end nackPairs
end Go.Proofs.Ytfnaanalhcagfaa
