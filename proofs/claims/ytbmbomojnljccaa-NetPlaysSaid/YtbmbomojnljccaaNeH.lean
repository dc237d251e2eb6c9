/- net: Twin, Paths. -/
import Derived.Test.YtbmbomojnljccaaNeG
namespace Go.Proofs.Ytbmbomojnljccaa
open Go.RowKit Go.Maps
set_option linter.unusedVariables false
set_option linter.unusedSimpArgs false
/-- How Twin ends. -/
inductive NeTwin (x : NE) (a p i : Int) : Bool → NE → Prop
  | none (h : neAt (x.G a p) i = none) : NeTwin x a p i false x
  | full (k : Nat) (s : ByteArray) (hk : i = k) (hs : (x.G a p)[k]? = some s) (hr : neRoom x a p s = false) : NeTwin x a p i false x
  | yes (k : Nat) (s : ByteArray) (hk : i = k) (hs : (x.G a p)[k]? = some s) (hr : neRoom x a p s = true) (v' : Value) (mp' : Option Nat) : NeTwin x a p i true (({ x with mp := mp' }.set a p v' (x.G a p ++ [s])).more 3)
set_option maxRecDepth 100000 in
set_option maxHeartbeats 3200000 in
theorem neTwin_any {w : World} {base gn n : Nat} {x : NE} (h : NIn w base gn n x) {a p : Int} (hk : wf2 a p) (i : Int) (hn : n < 4611686018427387904) (hc : ∀ i, 0 ≤ x.c i ∧ x.c i ≤ 1099511627776) :
    Calls Try.prog 17 #[.pointer (some ⟨gn, 0, none⟩), .int .i64 a, .int .i64 p, .int .i64 i] w fun e w' => ∃ (r : Bool) (x' : NE), e = .returned (.bool r) ∧ NeTwin x a p i r x' ∧ NIn w' base gn (n + 1) x' ∧ NKeep gn x w w' x' := by
  have hX := atQ_new 73 w w.heap.size #[.int .i64 a, .int .i64 p] rfl
  have hb : Below w.heap.size w (w.alloc (.cells #[.int .i64 a, .int .i64 p] 73)) := (Below.refl _ _).alloc (Nat.le_refl _) _
  have h2 := h.later hb
  have hK2 : NKeep gn x w (w.alloc (.cells #[.int .i64 a, .int .i64 p] 73)) x := nKeep_below hb
  go_enter Try.func17, Try.ntmps17
  go_upto_region 2 with fail
  generalize (w.alloc (.cells #[.int .i64 a, .int .i64 p] 73)) = w2 at hX hb h2 hK2 ⊢
  generalize hg0 : w.heap.size = g0 at hX hb ⊢
  clear hg0 h hb
  obtain ⟨_, _⟩ := hX.cells2
  have HGT := Lib.hid (neGet_any h2 hk i)
  go_wp2_with fail
  refine HGT.out.mono ?_
  rintro e w3 ⟨rfl, hk3⟩
  have hJ := h2.later hk3
  have hX3 := hX.later hk3
  have hKJ := hK2.trans (nKeep_below hk3)
  obtain ⟨_, _⟩ := hX3.cells2
  clear h2 hX hK2 hk3 HGT
  cases hi : neAt (x.G a p) i with
  | none =>
    simp only [Option.getD, Option.isSome]
    go_wp2_with fail
    go_ret
    exact ⟨false, x, rfl, .none hi, hJ.mono (by omega), hKJ⟩
  | some s =>
    obtain ⟨k, rfl, hkl, hs⟩ := neAt_some hi
    simp only [Option.getD, Option.isSome]
    have hs15 := hJ.tx a p s (List.mem_of_getElem? hs)
    have hpl := hJ.pl a p (fun e => by rw [e] at hkl; cases hkl)
    have HRM := Lib.hid (neRoom_any hJ hk s (by omega))
    go_wp2_with fail
    refine HRM.out.mono ?_
    rintro e w4 ⟨rfl, hk4⟩
    have hJ4 := hJ.later hk4
    have hX4 := hX3.later hk4
    have hKJ4 := hKJ.trans (nKeep_below hk4)
    obtain ⟨_, _⟩ := hX4.cells2
    clear hJ hX3 hKJ hk4 HRM
    cases hr : neRoom x a p s with
    | false =>
      go_wp2_with fail
      go_ret
      exact ⟨false, x, rfl, .full k s rfl hs hr, hJ4.mono (by omega), hKJ4⟩
    | true =>
      have hl : (x.G a p).length < 1024 := by
        unfold neRoom at hr
        simp at hr
        have := am_hi 1 x.m 1024
        omega
      have HAD := Lib.hid (neAdd_any hJ4 hk s hs15 hl hpl (by unfold maxLen; omega))
      go_wp2_with fail
      refine HAD.out.mono ?_
      rintro e w5 ⟨rfl, v', mp', hI5, hK5⟩
      obtain ⟨_, _, _, c3, c4, c5, c6, c7, c8⟩ := hI5.cells
      have hfz : w5.frozen? ⟨gn, 6, none⟩ = false := AtQ.free hI5.at9 6
      have hcq : (({ x with mp := mp' } : NE).set a p v' (x.G a p ++ [s])).c 3 = x.c 3 := rfl
      have hwr : IntKind.i64.wrap (x.c 3 + 1) = x.c 3 + 1 := IntWalk.i64_in _ ⟨by have := hc 3; omega, by have := hc 3; omega⟩
      have hM := hI5.more 3 (by omega)
      rw [hcq] at c6 hM
      clear HAD
      go_wp2_with fail
      go_ret
      exact ⟨true, _, rfl, .yes k s rfl hs hr v' mp', hM.1, (hKJ4.trans hK5).trans hM.2⟩
/-- The first k paths on which any are. -/
def nePaths (x : NE) (a : Int) (k : Nat) : List Int := ((List.range k).map (fun (q : Nat) => (q : Int) + 1)).filter (fun p => decide (0 < (x.G a p).length))
theorem nePaths_succ (x : NE) (a : Int) (k : Nat) : nePaths x a (k + 1) = nePaths x a k ++ (if 0 < (x.G a ((k : Int) + 1)).length then [(k : Int) + 1] else []) := by
  unfold nePaths
  rw [List.range_succ, List.map_append, List.filter_append]
  congr 1
  by_cases h : 0 < (x.G a ((k : Int) + 1)).length
  · simp [h]
  · simp [h]
theorem nePaths_le (x : NE) (a : Int) (k : Nat) : (nePaths x a k).length ≤ k := by
  unfold nePaths
  refine Nat.le_trans (List.length_filter_le _ _) ?_
  simp
set_option maxRecDepth 100000 in
set_option maxHeartbeats 3200000 in
theorem nePaths_any {w : World} {base gn n : Nat} {x : NE} (h : NIn w base gn n x) {a : Int} (ha : (Lit.int .i64 a).wf = true) :
    Calls Try.prog 21 #[.pointer (some ⟨gn, 0, none⟩), .int .i64 a] w fun e w' => ∃ v', e = .returned v' ∧ OwnE w' w.heap.size 3 1 v' (nePaths x a 15).length ((nePaths x a 15).map (Value.int .i64)) ∧ Below w.heap.size w w' := by
  obtain ⟨i0, hi, hz0, hz1, hz2⟩ := info_parts info64g
  have HI := Lib.hid (fun W (hb : Below w.heap.size w W) => h.later hb)
  have hO0 := ownE_nil w w.heap.size 3 1
  have hb0 := Below.refl w.heap.size w
  generalize hg0 : w.heap.size = g0 at hO0 hb0
  have HG := Lib.hid hg0
  clear h hg0
  go_enter Try.func21, Try.ntmps21
  go_wp2_with fail
  go_loopw [5, 6] (fun s5 s6 wr => ∃ k : Nat, k ≤ 15 ∧ s6 = .int .i64 ((k : Int) + 1) ∧ OwnE wr g0 3 1 s5 (nePaths x a k).length ((nePaths x a k).map (Value.int .i64)) ∧ Below g0 w wr) (fun _ s6 _ => 17 - (intOf s6).toNat)
  case atStart => exact ⟨0, by omega, rfl, hO0, hb0⟩
  case round =>
    obtain ⟨k, hk, rfl, hO, hb⟩ := hrel
    clear hO0 hb0
    by_cases hk15 : k < 15
    · have hp : wf2 a ((k : Int) + 1) := ⟨ha, by simp [Lit.wf, IntKind.min, IntKind.max, IntKind.signed, IntKind.bits]; omega⟩
      rename World => wr
      have hJ := HI.out wr (by rw [HG.out]; exact hb)
      have HL := Lib.hid (neLen_q hJ hp)
      have hln := nePaths_le x a k
      have hsc := nePaths_succ x a k
      have hws : IntKind.i64.wrap ((k : Int) + 1 + 1) = (k : Int) + 1 + 1 := IntWalk.i64_in _ ⟨by omega, by omega⟩
      have hgr : g0 ≤ wr.heap.size := by rw [← HG.out]; exact hb.size
      go_wp2_with fail
      refine HL.out.mono ?_
      rintro e w' ⟨rfl, hq⟩
      subst hq
      rename World => wr
      clear HL
      by_cases hpos : 0 < (x.G a ((k : Int) + 1)).length
      · rw [if_pos hpos] at hsc
        have hdp : decide ((0 : Int) < ((x.G a ((k : Int) + 1)).length : Int)) = true := decide_eq_true (by omega)
        obtain ⟨va, vc, rfl⟩ := hO.formG
        go_wp2_with (at_builtin; refine append_recG (W := wr) rfl (.tmp 16) (.tmp 18) 57 rfl 3 i0 (.int .i64 0) 1 8 Try.underlying57 hi hz0 hz1 hz2 rfl (by decide) g0 _ _ _ rfl hO #[.int .i64 ((k : Int) + 1)] rfl rfl ?d0 ?d1 ?d2 hgr g0 (Nat.le_refl _) (Below.refl _ _) ?_)
        case d0 => first | rfl | exact ⟨rfl, rfl⟩ | decide | (intro u hu; simp at hu; subst hu; rfl)
        case d1 => unfold maxLen; omega
        case d2 => omega
        intro v6 w6 hO6 hb6 hg6 _
        have hlen : (nePaths x a (k + 1)).length = (nePaths x a k).length + 1 := by rw [hsc]; simp
        have hmp : (nePaths x a (k + 1)).map (Value.int .i64) = (nePaths x a k).map (Value.int .i64) ++ [.int .i64 ((k : Int) + 1)] := by rw [hsc]; simp
        go_wp2_with fail
        go_roundw
        case rel => exact ⟨k + 1, by omega, by first | (push_cast; rfl) | go_num, by rw [hlen, hmp]; exact hO6, hb.trans hb6⟩
        case measure => simp [intOf]; omega
      · rw [if_neg hpos, List.append_nil] at hsc
        have hdp : decide ((0 : Int) < ((x.G a ((k : Int) + 1)).length : Int)) = false := decide_eq_false (by omega)
        go_wp2_with fail
        go_roundw
        case rel => exact ⟨k + 1, by omega, by first | (push_cast; rfl) | go_num, by rw [hsc]; exact hO, hb⟩
        case measure => simp [intOf]; omega
    · obtain rfl : k = 15 := by omega
      go_wp2_with fail
      go_ret
      exact ⟨_, rfl, by first | exact hO | (rw [HG.out]; exact hO), by first | exact hb | (rw [HG.out]; exact hb)⟩
end Go.Proofs.Ytbmbomojnljccaa
