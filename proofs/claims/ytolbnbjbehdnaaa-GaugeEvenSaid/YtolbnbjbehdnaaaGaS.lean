/- slices.Collect, Sorted over a slice of ints; Half. -/
import Derived.Test.YtolbnbjbehdnaaaGaH
import Derived.Sort.OwnSorted
import Derived.Shelf.SlIterI.Sorted
namespace Go.Proofs.Ytolbnbjbehdnaaa
open Go.RowKit Go.Shelf Go.Sort
set_option linter.unusedVariables false
theorem collect_in (F : Fence) (n : Nat) (h2 : F.fn 21) (h3 : F.fn 24) (h5 : F.fn 23) (hro : F.round = none) (hn : 4 ≤ n) (Bs b off cap : Nat) (zs : List Int) (hlen : zs.length ≤ 1000000) (w : World) (hBs : Bs < w.heap.size) (hb : b < w.heap.size)
    (hc : w.cell? ⟨Bs, 0, none⟩ = some (.slice (some ⟨b, off, none⟩) zs.length cap)) (hI : ∀ j, j < zs.length → w.cell? ⟨b, off + j, none⟩ = some (.int .i64 (zs[j]?.getD 0))) :
    CallsIn F n Try.prog 21 #[.func (.func 23) #[] #[.pointer (some ⟨Bs, 0, none⟩)]] w fun e W' => ∃ v, e = .returned v ∧ W'.ownsRow w.heap.size 3 1 v zs.length (zs.map (Value.int .i64)) ∧ Below w.heap.size w W' := by
  have h1 : 1 ≤ n := by omega
  refine callsIn_of_wp Try.func21 rfl h2 ?_ hro
  simp only [Try.ntmps21, List.size_toArray, List.length_cons, List.length_nil, Nat.reduceAdd, Nat.reduceSub, Array.replicate_succ, Array.replicate_zero, List.push_toArray, List.append_toArray, List.nil_append, List.cons_append]
  gi_wp2_with (gi_at_call 24; refine (appendSeq_in F (n - 1) h3 h5 hro (by omega) Bs b off cap zs hlen _ hBs hb hc hI).mono ?_; rintro e w' ⟨v, rfl, hrow, hb'⟩)
  go_ret
  exact ⟨v, rfl, hrow, hb'⟩
/-- The numbers, rising. -/
def srt (zs : List Int) : List Int := zs.mergeSort fun x y => decide (x ≤ y)
theorem sorted_in (Bs b off cap : Nat) (zs : List Int) (h0 : zs ≠ []) (hlen : zs.length ≤ 1000000) (w : World) (hBs : Bs < w.heap.size) (hb : b < w.heap.size)
    (hc : w.cell? ⟨Bs, 0, none⟩ = some (.slice (some ⟨b, off, none⟩) zs.length cap)) (hI : ∀ j, j < zs.length → w.cell? ⟨b, off + j, none⟩ = some (.int .i64 (zs[j]?.getD 0))) :
    CallsIn Fence.wide 6 Try.prog 19 #[.func (.func 23) #[] #[.pointer (some ⟨Bs, 0, none⟩)]] w fun e W' => ∃ g cap', e = .returned (.slice (some ⟨g, 0, none⟩) zs.length cap') ∧ (∀ j, j < zs.length → W'.cell? ⟨g, j, none⟩ = some (.int .i64 ((srt zs)[j]?.getD 0))) ∧ Below w.heap.size w W' := by
  have f2 : Fence.wide.fn 21 := trivial
  have f3 : Fence.wide.fn 22 := trivial
  refine callsIn_of_wp Try.func19 rfl trivial ?_ rfl
  simp only [Try.ntmps19, List.size_toArray, List.length_cons, List.length_nil, Nat.reduceAdd, Nat.reduceSub, Array.replicate_succ, Array.replicate_zero, List.push_toArray, List.append_toArray, List.nil_append, List.cons_append]
  gi_wp2_with (gi_at_call 21; refine (collect_in Fence.wide 5 trivial trivial trivial rfl (by omega) Bs b off cap zs hlen _ hBs hb hc hI).mono ?_; rintro e W ⟨v, rfl, hrow, hb'⟩)
  rcases hrow.2 with ⟨rfl, hz⟩ | ⟨gb, cap', cur, rfl, hbase, hgb, r1, r2, r3, r4⟩
  · exact absurd (List.eq_nil_of_length_eq_zero hz) h0
  · have hH : Go.Sort.Holds encZ W gb 0 zs.toArray := holds_of_block_i hgb (by simpa using r4)
    have hgl : gb < W.heap.size := (Array.getElem?_eq_some_iff.1 hgb).1
    have hsz : zs.length < 4611686018427387904 := by omega
    have cS : CallsIn Fence.wide 5 Try.prog 22 #[.slice (some ⟨gb, 0, none⟩) zs.length cap'] W _ := callsIn_wide.2 (Try.slices_Sort_int gb 0 cap' zs W hH hgl hsz)
    gi_wp2_with (gi_at_call 22; refine cS.mono ?_; rintro e w' ⟨rfl, nn, os, rfl⟩)
    go_ret
    have hR := ownsRow_sorted_i (ss := zs) (ts := srt zs) (n := nn) (os := os) (by simp [srt]) hbase hgb r1 r2 r3
    have hRd := own_reads hR
    refine ⟨gb, cap', rfl, ?_, hb'.grown (grownBy_sorted_i _) hb'.size (fun j hj => by cases hj; exact hbase)⟩
    intro j hj
    obtain ⟨a, c, ea, _, _, _, hr⟩ := hRd
    cases ea
    rcases hr with h | ⟨b', off', e, hcc⟩
    · exact absurd (List.eq_nil_of_length_eq_zero (by have := congrArg List.length h; simpa [srt] using this)) h0
    · cases e
      have := hcc j (by simpa [srt] using hj)
      show (grow (putRow encZ (Go.Sort.ahead W nn) gb 0 (srt zs).toArray) os).cell? ⟨gb, j, none⟩ = _
      simpa using this
theorem values_any (a : Option Addr) (len cap : Nat) (w : World) :
    Calls Try.prog 20 #[.slice a len cap] w fun e w' => e = .returned (.func (.func 23) #[] #[.pointer (some ⟨w.heap.size, 0, none⟩)]) ∧ w' = w.alloc (.cells #[.slice a len cap] 22) := by
  go_enter Try.func20, Try.ntmps20
  go_wp2
  go_ret
  exact ⟨rfl, rfl⟩
theorem half_any (b off cap : Nat) (zs : List Int) (h0 : zs ≠ []) (hlen : zs.length ≤ 1000000) (w : World) (hb : b < w.heap.size) (hI : ∀ j, j < zs.length → w.cell? ⟨b, off + j, none⟩ = some (.int .i64 (zs[j]?.getD 0))) (x : Int) (hx : (srt zs)[(zs.length - 1) / 2]?.getD 0 = x) :
    Calls Try.prog 14 #[.slice (some ⟨b, off, none⟩) zs.length cap] w fun e w' => e = .returned (.int .i64 x) ∧ Below w.heap.size w w' := by
  have hn : 0 < zs.length := List.length_pos_iff.2 h0
  have hB : Below w.heap.size w (w.alloc (.cells #[.slice (some ⟨b, off, none⟩) zs.length cap] 22)) := (Below.refl _ _).alloc (Nat.le_refl _) _
  have hS := Lib.hid ((callsIn_wide (n := 6)).1 (sorted_in w.heap.size b off cap zs h0 hlen (w.alloc (.cells #[.slice (some ⟨b, off, none⟩) zs.length cap] 22)) (by simp) (by simp; omega) (World.cell?_alloc_new _ _ _ _) (fun j hj => (hB.cell (p := ⟨b, off + j, none⟩) hb).trans (hI j hj))))
  have HX := Lib.hid hx
  clear hx hI
  have hz : ((zs.length : Int) - 1) / 2 = (((zs.length - 1) / 2 : Nat) : Int) := by omega
  have hq : (zs.length - 1) / 2 < zs.length := by omega
  go_enter Try.func14, Try.ntmps14
  go_wp2_with fail
  refine (values_any _ _ _ _).mono ?_
  rintro e w' ⟨rfl, rfl⟩
  go_wp2_with fail
  refine hS.out.mono ?_
  rintro e w3 ⟨g, cap', rfl, hc3, hb3⟩
  have hc := hc3 _ hq
  rw [HX.out] at hc
  clear hc3
  have hbz := hB.trans (hb3.mono (by simp))
  go_wp2
  go_ret
  exact ⟨rfl, hbz⟩
end Go.Proofs.Ytolbnbjbehdnaaa
