/- piece's law: awake; PieceSplits: the walk. -/
import Derived.Test.YtimdeohbhiicpaaPcU
import Derived.Test.YtimdeohbhiicpaaCut
import Derived.Test.YtimdeohbhiicpaaApartW
namespace Go.Proofs.Ytimdeohbhiicpaa
open Go.RowKit
set_option linter.unusedVariables false
def awP : PC := ⟨1, 203, { data := #[97, 98, 99, 100] }⟩
theorem aw_pack : pcsS [awP] = { data := #[129, 203, 0, 1, 97, 98, 99, 100] } := by kernel_rfl
theorem readsP_one (w : World) (p : PC) (T : TypeId) : ReadsP (w.alloc (.cells #[.int .i64 p.count, .int .i64 p.kind, .string p.body] T)) (some ⟨w.heap.size, 0, none⟩) [p] := by
  refine .inr ⟨_, 0, rfl, fun i hi j v hv => ?_⟩
  obtain rfl : i = 0 := by simpa using hi
  have hj : j < 3 := (List.getElem?_eq_some_iff.1 hv).1
  rw [show 0 + (0 * 3 + j) = j from by omega, cell_of_row _ w.heap.size j _ _ (0, 0) (heap_alloc_new w _), ← Array.getElem?_toList]
  exact hv
set_option maxHeartbeats 800000 in
theorem pcAwake_any (w : World) : Calls Try.prog 26 #[] w fun e w' => e = .returned (.bool true) ∧ Below w.heap.size w w' := by
  have HP := pcPack_any [awP] _ 1 _ (readsP_one w awP 64) (by decide) (by intro p hp; rw [List.mem_singleton] at hp; subst hp; decide)
  rw [aw_pack] at HP
  have HP' := Lib.hid HP
  clear HP
  have HC := Lib.hid (fun W => pcCheck_any zeroPC W (by decide) 6 (.inr ⟨rfl, by decide⟩))
  unfold awP zeroPC at *
  simp only at *
  go_enter Try.func26, Try.ntmps26
  go_wp2_with fail
  refine HP'.out.mono ?_
  rintro e w2 ⟨rfl, hb2⟩
  go_wp2_with fail
  refine (HC.out _).mono ?_
  rintro e w3 ⟨rfl, hb3⟩
  go_wp2
  go_ret
  have hb1 : Below w.heap.size w (w.alloc (.cells #[.int .i64 1, .int .i64 203, .string { data := #[97, 98, 99, 100] }] 64)) := (Below.refl _ _).alloc (Nat.le_refl _) _
  have hb4 := hb1.trans (hb2.mono hb1.size)
  exact ⟨rfl, hb4.trans (hb3.mono hb4.size)⟩
namespace pieceSplits
set_option maxHeartbeats 1600000 in
theorem walk (s0 : ByteArray) (w0 : s0.size ≤ maxLen) (w : World) :
    Calls Try.prog 5 #[.string s0] w fun e w' => e = .returned (.bool true) ∧ Below w.heap.size w w' := by
  unfold maxLen at w0
  have HC := Lib.hid (fun W : World => cut_any s0 300 W (by omega) (by omega))
  have hc := (cut_size s0 300).1
  generalize cutB s0 300 = s at HC hc
  have hs9 : s.size ≤ 1000000000 := by omega
  have HS0 := fun W => split_any s W hs9
  have HD0 := fun W => refSplit_any s W hs9
  obtain ⟨f1, f2⟩ := split_len s
  have hfin : (finL s).length ≤ 300 ∧ (∀ p ∈ finL s, p.body.size ≤ 300) := by
    unfold finL
    split
    · exact ⟨Nat.le_trans f1 hc, fun p hp => Nat.le_trans (f2 p hp) hc⟩
    · exact ⟨Nat.zero_le _, by simp⟩
  clear f1 f2
  obtain ⟨g1, g2⟩ := hfin
  have hback : (split s).1 = 0 → pcsS (finL s) = s := fun h => by
    obtain ⟨b1, b2⟩ := split_back s h
    unfold finL
    rw [if_pos h, pcsS_good _ b1, b2, ofL_by]
  unfold Splitted at HS0 HD0
  have HB := Lib.hid hback
  have HP := Lib.hid (fun (a : Option Addr) (c : Nat) (W : World) (hr : ReadsP W a (finL s)) => pcPack_any (finL s) a c W hr (Nat.le_trans g1 (by decide)) (fun p hp => Nat.le_trans (g2 p hp) (by decide)))
  have HI := Lib.hid (fun (a a2 : Option Addr) (c c2 : Nat) (W : World) (hr : ReadsP W a (finL s)) (hr2 : ReadsP W a2 (finL s)) => is_any (finL s) a a2 c c2 W hr hr2 (Nat.le_trans g1 (by decide)))
  clear hback g1 g2
  generalize (split s).1 = er at HS0 HD0 HB
  generalize finL s = l at HS0 HD0 HB HP HI
  have HS := Lib.hid HS0
  have HD := Lib.hid HD0
  clear HS0 HD0
  go_enter Try.func5, Try.ntmps5
  go_wp2_with fail
  refine (pcAwake_any _).mono ?_
  rintro e w1 ⟨rfl, hb1⟩
  go_wp2_with fail
  refine (HC.out _).mono ?_
  rintro e w' ⟨rfl, rfl⟩
  go_wp2_with fail
  refine (HS.out _).mono ?_
  rintro e w2 ⟨hb2, a, c, rfl, hr2⟩
  have hB2 := hb1.trans (hb2.mono hb1.size)
  clear hb1 hb2
  go_wp2_with fail
  refine (HD.out _).mono ?_
  rintro e w3 ⟨hb3, a2, c2, rfl, hd3⟩
  have hB3 := hB2.trans (hb3.mono hB2.size)
  have hr3 := hr2.later hb3
  clear hb3 hB2 hr2
  have hee : (er == er) = true := by simp
  go_wp2_with fail
  refine (HI.out a a2 c c2 _ hr3 hd3).mono ?_
  rintro e w4 ⟨rfl, hb4⟩
  have hB4 := hB3.trans (hb4.mono hB3.size)
  have hr4 := hr3.later hb4
  clear hb4 hB3 hr3 hd3
  by_cases he : er = 0
  · subst he
    have hq := HB.out rfl
    go_wp2_with fail
    refine (HP.out a c _ hr4).mono ?_
    rw [hq]
    rintro e w5 ⟨rfl, hb5⟩
    clear hq
    go_wp2
    go_ret
    exact ⟨by simp, hB4.trans (hb5.mono hB4.size)⟩
  · have he' : (er != 0) = true := by simpa using he
    clear he
    go_wp2
    go_ret
    exact ⟨rfl, hB4⟩
end pieceSplits
end Go.Proofs.Ytimdeohbhiicpaa
