/- gaps: Is. -/
import Derived.Test.YtdbmhgfdcdcgfaaGpX
namespace Go.Proofs.Ytdbmhgfdcdcgfaa
open Go.RowKit
set_option linter.unusedVariables false
set_option linter.unusedSimpArgs false
/-- When the first one is to be asked for, of the first k, as the document finds it. -/
def gpFst (l : List GW) : Int := match l with | [] => 0 | x :: r => gpMn x.at_ (x :: r)
theorem gpMn_min (a b : Int) (l : List GW) : gpMn (min a b) l = min a (gpMn b l) := by
  induction l generalizing b with
  | nil => rfl
  | cons x l ih =>
    show gpMn (min (min a b) x.at_) l = min a (gpMn (min b x.at_) l)
    rw [← ih]
    congr 1
    omega
theorem gpFst_take (l : List GW) (k : Nat) (r : GW) (h : l[k]? = some r) : gpFst (l.take (k + 1)) = if k = 0 ∨ r.at_ < gpFst (l.take k) then r.at_ else gpFst (l.take k) := by
  cases l with
  | nil => simp at h
  | cons x l =>
    cases k with
    | zero =>
      simp at h
      subst h
      simp [gpFst, gpMn]
    | succ k =>
      have h1 := gpMn_take x.at_ (x :: l) (k + 1) r h
      show gpMn x.at_ ((x :: l).take (k + 1 + 1)) = if k + 1 = 0 ∨ r.at_ < gpMn x.at_ ((x :: l).take (k + 1)) then r.at_ else gpMn x.at_ ((x :: l).take (k + 1))
      rw [h1]
      by_cases hc : r.at_ < gpMn x.at_ ((x :: l).take (k + 1))
      · rw [if_pos (.inr hc)]; omega
      · rw [if_neg (fun h => h.elim (by omega) hc)]; omega
theorem gpNext2 {w : World} {base gg : Nat} {c : GC} {cm : Bool} {gr : Int} {v : Value} {l : List GW} {gv : Int} (h : GIn w base gg c cm gr v l gv) : Calls Try.prog 18 #[.pointer (some ⟨gg, 0, none⟩)] w fun e w' => e = .returned (.tuple #[.int .i64 (gpFst l), .bool (decide (0 < (l.length : Int)))]) ∧ Below w.heap.size w w' := by
  cases l with
  | nil => exact gpNext_nil h
  | cons x l =>
    rw [show decide (0 < (((x :: l).length : Nat) : Int)) = true from decide_eq_true (by simp)]
    exact gpNext_any h x rfl
set_option maxRecDepth 100000 in
set_option maxHeartbeats 6400000 in
theorem gpIs_any {w : World} {base gg : Nat} {c : GC} {cm : Bool} {gr : Int} {v vx : Value} {l : List GW} {gv : Int} (h : GIn w base gg c cm gr v l gv) (hx : OwnE w 0 65 3 vx l.length (grV l)) :
    Calls Try.prog 13 #[.pointer (some ⟨gg, 0, none⟩), grG c vx cm gr gv] w fun e w' => e = .returned (.bool true) ∧ Below w.heap.size w w' := by
  unfold grG
  have hsm := h.small
  obtain ⟨xa, xc, rfl, hnc, hcm, _, hrd⟩ := hx.rdw
  unfold maxLen at hcm
  obtain ⟨i0, hi, hz0, hz1, hz2⟩ := info_parts info64g
  have hX0 := at8_new 31 w w.heap.size (.int .i64 c.m) (.int .i64 c.t) (.int .i64 c.f) (.int .i64 c.a) (.slice xa l.length xc) (.bool cm) (.int .i64 gr) (.int .i64 gv) rfl
  have hb : Below w.heap.size w (w.alloc (.cells #[.int .i64 c.m, .int .i64 c.t, .int .i64 c.f, .int .i64 c.a, .slice xa l.length xc, .bool cm, .int .i64 gr, .int .i64 gv] 31)) := (Below.refl _ _).alloc (Nat.le_refl _) _
  go_enter Try.func13, Try.ntmps13
  go_upto_region 1 with fail
  generalize (w.alloc (.cells #[.int .i64 c.m, .int .i64 c.t, .int .i64 c.f, .int .i64 c.a, .slice xa l.length xc, .bool cm, .int .i64 gr, .int .i64 gv] 31)) = w2 at *
  have hQ2 := h.later hb
  have hrd2 := hrd.later hb
  generalize hg0 : w.heap.size = g0 at *
  have HG := Lib.hid hg0
  have HQ := Lib.hid (fun W (hW : Below w2.heap.size w2 W) => hQ2.later hW)
  have HRr := Lib.hid (fun W (hW : Below w2.heap.size w2 W) => hrd2.later hW)
  have HX0 := Lib.hid (fun W (hW : Below w2.heap.size w2 W) => (hX0.later hW).cells)
  have HST := Lib.hid (gpS_take l)
  have HFT := Lib.hid (gpFst_take l)
  have hsz : g0 ≤ w2.heap.size := Nat.le_of_lt hX0.lt
  obtain ⟨_, _, _, _, _, _, _, _⟩ := hX0.cells
  clear hg0 h hx hrd hQ2 hrd2 hX0
  go_wp2_with fail
  go_loopw [5, 6, 14] (fun vk vf i wr => ∃ k : Nat, k ≤ l.length ∧ i = .int .i64 k ∧ vf = .int .i64 (gpFst (l.take k)) ∧ OwnE wr w2.heap.size 3 1 vk k ((gpS (l.take k)).map (Value.int .i64)) ∧ Below w2.heap.size w2 wr) (fun _ _ i _ => l.length - (intOf i).toNat)
  case atStart => exact ⟨0, Nat.zero_le _, rfl, rfl, ownE_nil _ _ _ _, Below.refl _ _⟩
  case round =>
    obtain ⟨k, hk, rfl, rfl, hO, hbw⟩ := hrel
    by_cases hlt : k < l.length
    · obtain ⟨r, hr⟩ : ∃ r, l[k]? = some r := ⟨_, List.getElem?_eq_getElem hlt⟩
      obtain ⟨g, off, rfl, c0, c1, c2⟩ := HRr.out wr hbw k r hr
      have HK := Lib.hid (HST.out k r hr)
      have HF := Lib.hid (HFT.out k r hr)
      have hX := at3_new 65 wr wr.heap.size (.int .i64 r.n) (.int .i64 r.at_) (.int .i64 r.k) rfl
      have hal : Below wr.heap.size wr (wr.alloc (.cells #[.int .i64 r.n, .int .i64 r.at_, .int .i64 r.k] 65)) := (Below.refl _ _).alloc (Nat.le_refl _) _
      have hb3 := hbw.trans (hal.mono hbw.size)
      have hO3 := hO.later hal
      clear hr
      go_upto_region 6 with fail
      generalize wr.alloc (.cells #[.int .i64 r.n, .int .i64 r.at_, .int .i64 r.k] 65) = w3 at hX hb3 hO3 ⊢
      generalize wr.heap.size = g3 at hX ⊢
      clear hbw hO c0 c1 c2 hal
      obtain ⟨_, _, _⟩ := hX.cells
      generalize (gpS (l.take k)).map (Value.int .i64) = xs at *
      generalize gpFst (l.take k) = fk at *
      obtain ⟨rn, ra, rk⟩ := r
      simp only at HK HF hX
      go_wp2_with (at_builtin; refine append_recG (W := w2) rfl (.tmp 19) (.tmp 22) 45 rfl 3 i0 (.int .i64 0) 1 8 Try.underlying45 hi hz0 hz1 hz2 rfl (by decide) w2.heap.size _ k xs rfl hO3 #[.int .i64 rn] rfl rfl ?d0 ?d1 ?d2 hb3.size w2.heap.size (Nat.le_refl _) hb3 ?_)
      case d0 => rfl
      case d1 => unfold maxLen; omega
      case d2 => omega
      intro v4 w4 hO4 hb4 hg4 _
      have hX4 := hX.grownR hO3 (by decide) hg4
      have hO5 : OwnE w4 w2.heap.size 3 1 v4 (k + 1) ((gpS (l.take (k + 1))).map (Value.int .i64)) := by rw [HK.out]; exact hO4
      clear hO4 hO3 hb3 hX hg4
      obtain ⟨_, _, _⟩ := hX4.cells
      by_cases hc : k = 0 ∨ ra < fk
      · have HF2 : Hid (gpFst (l.take (k + 1)) = ra) := Lib.hid (by rw [HF.out, if_pos hc])
        clear HF
        by_cases hk0 : k = 0
        · have hd0 : ((k : Int) == 0) = true := by simp [hk0]
          clear hc
          subst hk0
          go_wp2_with fail
          go_roundw
          case rel => exact ⟨0 + 1, by omega, by go_num, by rw [HF2.out], hO5, hb4⟩
          case measure => simp [intOf]; omega
        · have hd0 : ((k : Int) == 0) = false := by simp; omega
          have hd1 : decide (ra < fk) = true := decide_eq_true (by omega)
          clear hc hk0
          go_wp2_with fail
          go_roundw
          case rel => exact ⟨k + 1, by omega, by go_num, by rw [HF2.out], hO5, hb4⟩
          case measure => simp [intOf]; omega
      · have HF2 : Hid (gpFst (l.take (k + 1)) = fk) := Lib.hid (by rw [HF.out, if_neg hc])
        have hd0 : ((k : Int) == 0) = false := by simp; omega
        have hd1 : decide (ra < fk) = false := decide_eq_false (by omega)
        clear HF hc
        go_wp2_with fail
        go_roundw
        case rel => exact ⟨k + 1, by omega, by go_num, by rw [HF2.out], hO5, hb4⟩
        case measure => simp [intOf]; omega
    · obtain rfl : k = l.length := by omega
      rw [List.take_length] at hO ⊢
      have hbz := hb.trans (hbw.mono hsz)
      have HNx := Lib.hid (gpNext2 (HQ.out wr hbw))
      have HLg : Hid ((gpS l).length = l.length) := Lib.hid (gpS_len l)
      have HQ2 := Lib.hid (fun W (hW : Below wr.heap.size wr W) => HQ.out W (hbw.trans (hW.mono hbw.size)))
      have HX2 := Lib.hid (fun W (hW : Below wr.heap.size wr W) => (HX0.out W (hbw.trans (hW.mono hbw.size))).2.2.2.2.2.2.2)
      have hO' := hO
      rw [← HLg.out] at hO'
      obtain ⟨a5, c5, rfl, _, _, _, hr5⟩ := hO'.intsG
      generalize gpFst l = fl at *
      obtain ⟨bl, hbl⟩ : ∃ bl, decide (0 < (l.length : Int)) = bl := ⟨_, rfl⟩
      rw [hbl] at HNx
      rw [HLg.out]
      clear hO hbw HX0 HQ HRr HST HFT hb hk hlt i0 hi hz0 hz1 hz2 hnc hcm
      go_wp2_with fail
      refine HNx.out.mono ?_
      rintro e wn ⟨rfl, hkn⟩
      have hbn := hbz.trans (hkn.mono (by have := hbz.size; have := HG.out; omega))
      have hr6 := hr5.later hkn
      have HGv := Lib.hid (fun W (h : Below wn.heap.size wn W) => gpGiven_q (HQ2.out W (hkn.trans (h.mono hkn.size))))
      have HWn := Lib.hid (fun W (h : Below wn.heap.size wn W) => gpWanting_any (HQ2.out W (hkn.trans (h.mono hkn.size))))
      have HX := Lib.hid (fun W (h : Below wn.heap.size wn W) => HX2.out W (hkn.trans (h.mono hkn.size)))
      have HSm := Lib.hid (fun W (hW : Below wn.heap.size wn W) (a : Option Addr) (cc : Nat) (hr : Reads .i64 W a (gpS l)) => (by
        have := sameIntG_any (gpS l) a a5 (gpS l).length cc c5 W rfl hr (hr6.later hW) (by rw [HLg.out]; omega)
        rw [HLg.out] at this
        exact this : Calls Try.prog 20 #[.slice a l.length cc, .slice a5 l.length c5] W fun e w' => e = .returned (.bool true) ∧ Below W.heap.size W w'))
      have hszn : g0 ≤ wn.heap.size := by have := hbn.size; have := HG.out; omega
      have hx7 := HX.out wn.drew ((Below.refl _ _).drew)
      obtain ⟨n, hn⟩ : ∃ n, l.length = n := ⟨_, rfl⟩
      have HN := Lib.hid hn
      rw [hn] at HWn HSm hbl ⊢
      clear HNx HQ2 HX2 hr5 hr6 hkn hbz hn
      have hbl2 : decide (0 < n) = bl := by rw [← hbl]; simp
      clear hbl
      cases bl
      all_goals
        go_upto_region 11 with fail
        go_region_held3 (fun W => W.cell? ⟨g0, 7, none⟩ = some (.int .i64 gv)) (first | (go_keep; done) | exact HX.out _ (Below.drew (Below.refl _ _)) | exact HX.out _ hk7 | exact HX.out _ hk8) (first | (go_at_call 17; refine (HWn.out _ (Below.drew (Below.refl _ _))).mono ?_; rintro e w7 ⟨v7, rfl, hO7, hk7'⟩; rw [← HN.out, ← HLg.out] at hO7; obtain ⟨a7, c7, rfl, hz7, _, _, hr7⟩ := hO7.intsG; rw [HLg.out, HN.out]; clear hz7; have hk7 : Below wn.heap.size wn w7 := Below.trans (Below.drew (Below.refl _ _)) hk7'; clear hk7' hO7) | (go_at_call 20; refine (HSm.out _ hk7 _ _ hr7).mono ?_; rintro e w8 ⟨rfl, hk8'⟩; have hk8 : Below wn.heap.size wn w8 := hk7.trans (hk8'.mono hk7.size); clear hk8') | (go_at_call 26; refine (HGv.out _ hk8).mono ?_; rintro e w' ⟨rfl, rfl⟩))
        all_goals
          go_wp2_with fail
          go_ret
          exact ⟨by simp, by rw [HG.out]; exact hbn.trans (hk8.mono hszn)⟩
end Go.Proofs.Ytdbmhgfdcdcgfaa
