/- history: Is. -/
import Derived.Test.YtaekefedmobfoaaHiP
namespace Go.Proofs.Ytaekefedmobfoaa
open Go.RowKit
set_option linter.unusedVariables false
set_option linter.unusedSimpArgs false
set_option maxRecDepth 100000 in
set_option maxHeartbeats 6400000 in
theorem hiIs_any {w : World} {base gh : Nat} {m t : Int} {v vx : Value} {l : List HR} {ag : Int} (M T : Int) (h : HIn w base gh m t v l ag) (hx : OwnE w 0 125 4 vx l.length (hiV l)) :
    Calls Try.prog 26 #[.pointer (some ⟨gh, 0, none⟩), .agg #[.int .i64 M, .int .i64 T, .int .i64 ag, vx]] w fun e w' => e = .returned (.bool true) ∧ Below w.heap.size w w' := by
  have hsm := h.small
  obtain ⟨xa, xc, rfl, hnc, hcm, _, hrd⟩ := hx.rdr
  unfold maxLen at hcm
  obtain ⟨i0, hi, hz0, hz1, hz2⟩ := info_parts info64h
  have hX0 := at4_new 49 w w.heap.size (.int .i64 M) (.int .i64 T) (.int .i64 ag) (.slice xa l.length xc) rfl
  have hb : Below w.heap.size w (w.alloc (.cells #[.int .i64 M, .int .i64 T, .int .i64 ag, .slice xa l.length xc] 49)) := (Below.refl _ _).alloc (Nat.le_refl _) _
  go_enter Try.func26, Try.ntmps26
  go_upto_region 1 with fail
  generalize (w.alloc (.cells #[.int .i64 M, .int .i64 T, .int .i64 ag, .slice xa l.length xc] 49)) = w2 at *
  have hQ2 := h.later hb
  have hrd2 := hrd.later hb
  generalize hg0 : w.heap.size = g0 at *
  have HG := Lib.hid hg0
  have HQ := Lib.hid (fun W (hW : Below w2.heap.size w2 W) => hQ2.later hW)
  have HRr := Lib.hid (fun W (hW : Below w2.heap.size w2 W) => hrd2.later hW)
  have HX0 := Lib.hid (fun W (hW : Below w2.heap.size w2 W) => (hX0.later hW).cells)
  have HST := Lib.hid (hiS_take l)
  have HSI := Lib.hid (hiS_ints l)
  have hsz : g0 ≤ w2.heap.size := Nat.le_of_lt hX0.lt
  obtain ⟨_, _, _, _⟩ := hX0.cells
  clear hg0 h hx hrd hQ2 hrd2 hX0
  go_wp2_with fail
  go_loopw [5, 11] (fun vk i wr => ∃ k : Nat, k ≤ l.length ∧ i = .int .i64 k ∧ OwnE wr w2.heap.size 3 1 vk k (hiS (l.take k)) ∧ Below w2.heap.size w2 wr) (fun _ i _ => l.length - (intOf i).toNat)
  case atStart => exact ⟨0, Nat.zero_le _, rfl, ownE_nil _ _ _ _, Below.refl _ _⟩
  case round =>
    obtain ⟨k, hk, rfl, hO, hbw⟩ := hrel
    by_cases hlt : k < l.length
    · obtain ⟨r, hr⟩ : ∃ r, l[k]? = some r := ⟨_, List.getElem?_eq_getElem hlt⟩
      obtain ⟨g, off, rfl, c0, c1, c2, c3⟩ := HRr.out wr hbw k r hr
      have HK := Lib.hid (HST.out k r hr)
      have hX := at4_new 125 wr wr.heap.size (.int .i64 r.s) (.int .i64 r.t) (.int .i64 r.p) (.string r.d) rfl
      have hb3 := hbw.alloc hbw.size (.cells #[.int .i64 r.s, .int .i64 r.t, .int .i64 r.p, .string r.d] 125)
      have hO3 := hO.alloc (.cells #[.int .i64 r.s, .int .i64 r.t, .int .i64 r.p, .string r.d] 125)
      clear hr
      go_upto_region 5 with fail
      generalize wr.alloc (.cells #[.int .i64 r.s, .int .i64 r.t, .int .i64 r.p, .string r.d] 125) = w3 at hX hb3 hO3 ⊢
      generalize wr.heap.size = g3 at hX ⊢
      clear hbw hO c0 c1 c2 c3
      obtain ⟨_, _, _, _⟩ := hX.cells
      generalize hiS (l.take k) = xs at *
      go_wp2_with (at_builtin; refine append_recE (W := w2) rfl (.tmp 15) (.tmp 18) 30 rfl 3 i0 (.int .i64 0) 1 8 Try.underlying30 hi hz0 hz1 hz2 rfl (by decide) w2.heap.size _ k xs rfl hO3 #[.int .i64 r.s] rfl rfl ?d0 ?d1 ?d2 hb3.size w2.heap.size (Nat.le_refl _) hb3 ?_)
      case d0 => rfl
      case d1 => unfold maxLen; omega
      case d2 => omega
      intro v4 w4 hO4 hb4 _ _
      have hO5 : OwnE w4 w2.heap.size 3 1 v4 (k + 1) (hiS (l.take (k + 1))) := by rw [HK.out]; exact hO4
      clear hO4 hO3 hb3 hX
      go_wp2_with fail
      go_roundw
      case rel => exact ⟨k + 1, by omega, by go_num, hO5, hb4⟩
      case measure => simp [intOf]; omega
    · obtain rfl : k = l.length := by omega
      rw [List.take_length, HSI.out] at hO
      obtain ⟨a5, c5, rfl, hl5, _, _, hr5⟩ := hO.ints
      have hbz := hb.trans (hbw.mono hsz)
      have HX := Lib.hid (fun W (hW : Below wr.heap.size wr W) => HX0.out W (hbw.trans (hW.mono hbw.size)))
      have HLn := Lib.hid (fun W (hW : Below wr.heap.size wr W) => hiLen_q (HQ.out W (hbw.trans (hW.mono hbw.size))))
      have HSq := Lib.hid (fun W (hW : Below wr.heap.size wr W) => hiSeqs_any (HQ.out W (hbw.trans (hW.mono hbw.size))))
      have HA2 := Lib.hid (fun W (hW : Below wr.heap.size wr W) => hiAgain2_q (HQ.out W (hbw.trans (hW.mono hbw.size))))
      have HSm := Lib.hid (fun W (hW : Below wr.heap.size wr W) (a : Option Addr) (c : Nat) (hr : Reads .i64 W a (l.map (fun r => r.s))) => sameInt2_any (l.map (fun r => r.s)) a a5 l.length c c5 W (by simp) hr (hr5.later hW) (by simp; omega))
      have HRS := Lib.hid (fun W W' (hb : Below W.heap.size W W') (a : Option Addr) (hr : Reads .i64 W a (l.map (fun r => r.s))) => hr.later hb)
      rw [HSI.out] at HSq
      obtain ⟨_, _, _, _⟩ := HX0.out wr hbw
      clear hO hbw HX0 HQ HRr HST HSI hr5 hl5 hb hk hlt i0 hi hz0 hz1 hz2 hnc hcm hsm
      generalize hzs : l.map (fun r => r.s) = zs at *
      generalize hll : l.length = n at *
      clear hzs hll
      go_wp2_with fail
      go_region_held3 (fun W => W.cell? ⟨g0, 2, none⟩ = some (.int .i64 ag) ∧ W.cell? ⟨g0, 3, none⟩ = some (.slice xa n xc)) (first | (go_keep; done) | exact (HX.out _ (Below.drew (Below.refl _ _))).2.2 | exact (HX.out _ hk7).2.2 | exact (HX.out _ hk8).2.2) (first | (go_at_call 27; refine (HLn.out _ (Below.drew (Below.refl _ _))).mono ?_; rintro e w' ⟨rfl, rfl⟩) | (go_at_call 32; refine (HSq.out _ (Below.drew (Below.refl _ _))).mono ?_; rintro e w7 ⟨v7, rfl, hO7, hk7'⟩; obtain ⟨a7, c7, rfl, hz7, _, _, hr7⟩ := hO7.ints; clear hz7; have hk7 : Below wr.heap.size wr w7 := Below.trans (Below.drew (Below.refl _ _)) hk7'; clear hk7' hO7) | (go_at_call 66; refine (HSm.out _ hk7 _ _ hr7).mono ?_; rintro e w8 ⟨rfl, hk8'⟩; have hk8 : Below wr.heap.size wr w8 := hk7.trans (hk8'.mono hk7.size); clear hk8') | (go_at_call 67; refine (HA2.out _ hk8).mono ?_; rintro e w' ⟨rfl, rfl⟩))
      all_goals
        go_wp2_with fail
        go_ret
        exact ⟨by simp, by rw [HG.out]; exact hbz.trans (hk8.mono (by have := hbz.size; have := HG.out; omega))⟩
end Go.Proofs.Ytaekefedmobfoaa
