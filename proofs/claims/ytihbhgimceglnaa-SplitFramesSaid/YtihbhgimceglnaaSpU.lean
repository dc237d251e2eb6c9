/- split: the law's Is. -/
import Derived.Test.YtihbhgimceglnaaSpS
import Derived.Test.YtihbhgimceglnaaSpR
namespace Go.Proofs.Ytihbhgimceglnaa
open Go.RowKit
set_option linter.unusedVariables false
set_option linter.unusedSimpArgs false
open splitBack
theorem spData2 {w : World} {base gf : Nat} {t cnt first : Int} {mp : Option Nat} {P : List (Option ByteArray)} {N : Nat} (h : FIn w base gf t cnt first mp P) (hN : spK cnt = N) (hB : spB P ≤ 1099511627776) (r : ByteArray) (hr : r = if spH P = N then cB P N else (⟨#[]⟩ : ByteArray)) :
    Calls Try.prog 24 #[.pointer (some ⟨gf, 0, none⟩)] w fun e w' => e = .returned (.tuple #[.string r, .bool (decide (spH P = N))]) ∧ Below w.heap.size w w' := by
  subst hN
  by_cases hw : spH P = spK cnt
  · rw [decide_eq_true hw]
    rw [if_pos hw] at hr
    subst hr
    have hl := h.len
    refine (spDataYes h hw hB).mono ?_
    rintro e w' ⟨rfl, hb⟩
    exact ⟨by rw [← hl]; rfl, hb⟩
  · rw [decide_eq_false hw]
    rw [if_neg hw] at hr
    subst hr
    refine (spDataNo h hw).mono ?_
    rintro e w' ⟨rfl, rfl⟩
    exact ⟨rfl, Below.refl _ _⟩
set_option maxRecDepth 100000 in
set_option maxHeartbeats 6400000 in
theorem spIs_any {w : World} {base gf b b' N hc pc : Nat} {t cnt first : Int} {mp : Option Nat} {ha pa : Option Addr} {P : List (Option ByteArray)} (h : FIn w base gf t cnt first mp P) (hN : spK cnt = N) (hh : OwnE w b 4 1 (.slice ha N hc) N (hadV P)) (hp : OwnE w b' 9 1 (.slice pa N pc) N (txV P)) (hB : spB P ≤ 1099511627776) (ht0 : 0 ≤ t) (ht1 : t < 4294967296) :
    Calls Try.prog 21 #[.pointer (some ⟨gf, 0, none⟩), .agg #[.int .i64 t, .int .i64 first, .slice ha N hc, .slice pa N pc]] w fun e w' => e = .returned (.bool true) ∧ Below w.heap.size w w' := by
  have hK := spK_bd cnt
  have hP : P.length = N := by rw [h.len, hN]
  rw [hN] at hK
  obtain ⟨h1, h2⟩ := hK
  obtain ⟨r, hr⟩ : ∃ r : ByteArray, r = if spH P = N then cB P N else (⟨#[]⟩ : ByteArray) := ⟨_, rfl⟩
  have HRD := Lib.hid (fun W (hW : Below w.heap.size w W) => refSpData_any t first hP h1 h2 (hh.later hW) (hp.later hW) hB r hr)
  have HRL := Lib.hid (fun W (hW : Below w.heap.size w W) => refSpLacks_any (pa := pa) (pc := pc) t first hP h1 h2 (hh.later hW))
  have HCD := Lib.hid (fun W (hW : Below w.heap.size w W) => spData2 (h.later hW) hN hB r hr)
  have HTi := Lib.hid (fun W (hW : Below w.heap.size w W) => spTime_q (h.later hW))
  have HFi := Lib.hid (fun W (hW : Below w.heap.size w W) => spFirst_q (h.later hW))
  have HCo := Lib.hid (fun W (hW : Below w.heap.size w W) => spCount_q (h.later hW))
  have HHa := Lib.hid (fun W (hW : Below w.heap.size w W) => spHave_q (h.later hW))
  have HBy := Lib.hid (fun W (hW : Below w.heap.size w W) => spBytes_q (h.later hW))
  have HWh := Lib.hid (fun W (hW : Below w.heap.size w W) => spWhole_q (h.later hW))
  have HLk := Lib.hid (fun W (hW : Below w.heap.size w W) => spLacks_any (h.later hW))
  have hlk : (spLk P N).length + spH P = N := by rw [← hP]; exact spLk_all P
  have hX := atS_new 33 w w.heap.size #[.int .i64 t, .int .i64 first, .slice ha N hc, .slice pa N pc] rfl
  have hal : Below w.heap.size w (w.alloc (.cells #[.int .i64 t, .int .i64 first, .slice ha N hc, .slice pa N pc] 33)) := (Below.refl _ _).alloc (Nat.le_refl _) _
  rw [hN] at HCo HWh
  rw [hP] at HLk
  clear h hh hp hr hP
  go_enter Try.func21, Try.ntmps21
  go_upto_region 1 with fail
  generalize (w.alloc (.cells #[.int .i64 t, .int .i64 first, .slice ha N hc, .slice pa N pc] 33)) = w2 at *
  obtain ⟨B, hBe⟩ : ∃ B, w.heap.size = B := ⟨_, rfl⟩
  have HBE := Lib.hid hBe
  have hBw : B ≤ w.heap.size := by omega
  rw [hBe] at HRD HRL HCD HTi HFi HCo HHa HBy HWh HLk hX hal ⊢
  clear hBe
  have HX := Lib.hid (fun W (hW : Below w2.heap.size w2 W) => (hX.later hW).cells4)
  have hBs : ∀ W, Below B w W → B ≤ W.heap.size := fun W hW => Nat.le_trans hBw hW.size
  have HBS := Lib.hid hBs
  obtain ⟨_, _, _, _⟩ := hX.cells4
  have hs2 := hBs w2 hal
  clear hX hBs
  go_wp2_with fail
  refine (HRD.out w2 hal).mono ?_
  rintro e w3 ⟨rfl, hb3⟩
  have hb3' := hal.trans (hb3.mono hs2)
  go_wp2_with fail
  refine (HCD.out w3 hb3').mono ?_
  rintro e w4 ⟨rfl, hb4⟩
  have hb42 := hb3.trans (hb4.mono hb3.size)
  have hb4' := hal.trans (hb42.mono hs2)
  obtain ⟨_, _, _, _⟩ := HX.out w4 hb42
  go_wp2_with fail
  refine (HRL.out w4 hb4').mono ?_
  rintro e w5 ⟨v, rfl, hO5, hb5⟩
  have hb52 := hb42.trans (hb5.mono hb42.size)
  have hb5' := hal.trans (hb52.mono hs2)
  have hs5 := HBS.out w5 hb5'
  obtain ⟨a5, c5, rfl, hl5, _, _, hr5⟩ := hO5.intsG
  have HSm := Lib.hid (fun W (hW : Below w5.heap.size w5 W) (a : Option Addr) (c : Nat) (hr : Reads .i64 W a (spLk P N)) => sameIntG_any (spLk P N) a a5 (spLk P N).length c c5 W rfl hr (hr5.later hW) (by omega))
  have HX5 := Lib.hid (fun W (hW : Below w5.heap.size w5 W) => HX.out W (hb52.trans (hW.mono hb52.size)))
  have HTi5 := Lib.hid (fun W (hW : Below w5.heap.size w5 W) => HTi.out W (hb5'.trans (hW.mono hs5)))
  have HFi5 := Lib.hid (fun W (hW : Below w5.heap.size w5 W) => HFi.out W (hb5'.trans (hW.mono hs5)))
  have HCo5 := Lib.hid (fun W (hW : Below w5.heap.size w5 W) => HCo.out W (hb5'.trans (hW.mono hs5)))
  have HHa5 := Lib.hid (fun W (hW : Below w5.heap.size w5 W) => HHa.out W (hb5'.trans (hW.mono hs5)))
  have HBy5 := Lib.hid (fun W (hW : Below w5.heap.size w5 W) => HBy.out W (hb5'.trans (hW.mono hs5)))
  have HWh5 := Lib.hid (fun W (hW : Below w5.heap.size w5 W) => HWh.out W (hb5'.trans (hW.mono hs5)))
  have HLk5 := Lib.hid (fun W (hW : Below w5.heap.size w5 W) => HLk.out W (hb5'.trans (hW.mono hs5)))
  obtain ⟨_, _, _, _⟩ := HX5.out w5 (Below.refl _ _)
  clear hl5 hr5 hO5 HRD HRL HCD HTi HFi HCo HHa HBy HWh HLk HX hal hb3 hb3' hb4 hb42 hb4' hb5 hb52 HBS hs2 hBw
  obtain ⟨zs, hzs⟩ : ∃ zs, spLk P N = zs := ⟨_, rfl⟩
  rw [hzs] at hlk HSm HLk5 ⊢
  clear hzs
  obtain ⟨nk, hnk⟩ : ∃ nk, zs.length = nk := ⟨_, rfl⟩
  have HNK := Lib.hid hnk
  rw [hnk] at hlk HSm ⊢
  clear hnk
  generalize spH P = hv at *
  generalize spB P = bv at *
  have hcv : IntKind.i64.wrap t = t := IntWalk.i64_in _ ⟨by omega, by omega⟩
  have hwr : IntKind.i64.wrap ((N : Int) - nk) = hv := by rw [IntWalk.i64_in _ ⟨by omega, by omega⟩]; omega
  obtain ⟨y, hy⟩ : ∃ y : Bool, decide (hv = N) = y := ⟨_, rfl⟩
  have hd : ((nk : Int) == 0) = y := by
    rw [← hy]
    by_cases hz : nk = 0
    · rw [decide_eq_true (show hv = N by omega), hz]
      rfl
    · rw [decide_eq_false (show ¬ hv = N by omega)]
      simp
      exact hz
  rw [hy] at HWh5 ⊢
  clear hy
  go_upto_region 4 with fail
  cases y
  all_goals
    go_region_held3 (fun W => W.cell? ⟨B, 0, none⟩ = some (.int .i64 t) ∧ W.cell? ⟨B, 1, none⟩ = some (.int .i64 first) ∧ W.cell? ⟨B, 2, none⟩ = some (.slice ha N hc) ∧ W.cell? ⟨B, 3, none⟩ = some (.slice pa N pc)) (first | (go_keep; done) | exact HX5.out _ (Below.drew (Below.refl _ _)) | exact HX5.out _ hk7 | exact HX5.out _ hk8) (first | (go_at_call 51; refine (HTi5.out _ (Below.drew (Below.refl _ _))).mono ?_; rintro e w' ⟨rfl, rfl⟩) | (go_at_call 52; refine (HFi5.out _ (Below.drew (Below.refl _ _))).mono ?_; rintro e w' ⟨rfl, rfl⟩) | (go_at_call 56; refine (HCo5.out _ (Below.drew (Below.refl _ _))).mono ?_; rintro e w' ⟨rfl, rfl⟩) | (go_at_call 22; refine (HHa5.out _ (Below.drew (Below.refl _ _))).mono ?_; rintro e w' ⟨rfl, rfl⟩) | (go_at_call 60; refine (HBy5.out _ (Below.drew (Below.refl _ _))).mono ?_; rintro e w' ⟨rfl, rfl⟩) | (go_at_call 58; refine (HWh5.out _ (Below.drew (Below.refl _ _))).mono ?_; rintro e w' ⟨rfl, rfl⟩) | (go_at_call 23; refine (HLk5.out _ (Below.drew (Below.refl _ _))).mono ?_; rintro e w7 ⟨v7, rfl, hO7, hk7'⟩; obtain ⟨a7, c7, rfl, hz7, _, _, hr7⟩ := hO7.intsG; clear hz7; rw [HNK.out]; have hk7 : Below w5.heap.size w5 w7 := Below.trans (Below.drew (Below.refl _ _)) hk7'; clear hk7' hO7) | (go_at_call 61; refine (HSm.out _ hk7 _ _ hr7).mono ?_; rintro e w8 ⟨rfl, hk8'⟩; have hk8 : Below w5.heap.size w5 w8 := hk7.trans (hk8'.mono hk7.size); clear hk8'))
    all_goals
      go_wp2_with fail
      go_ret
      exact ⟨by simp, by rw [HBE.out]; exact hb5'.trans (hk8.mono hs5)⟩
end Go.Proofs.Ytihbhgimceglnaa
