/- gaps: slices.Delete in general; found, Forget. -/
import Derived.Test.YtdbmhgfdcdcgfaaGpE
namespace Go.Proofs.Ytdbmhgfdcdcgfaa
open Go.RowKit
set_option linter.unusedVariables false
set_option linter.unusedSimpArgs false
/-- All blocks but a row's are as they were. -/
structure RowK (ob : Option Nat) (w w' : World) : Prop where
  size : w.heap.size ≤ w'.heap.size
  block : ∀ k, k < w.heap.size → ob ≠ some k → w'.heap[k]? = w.heap[k]?
theorem RowK.refl (ob : Option Nat) (w : World) : RowK ob w w := ⟨Nat.le_refl _, fun _ _ _ => rfl⟩
theorem rowK_only {g : Nat} {w w' : World} (h : Only g w.drew w') : RowK (some g) w w' := ⟨by rw [h.size]; exact Nat.le_refl _, fun k _ hk => h.block k (fun e => hk (by rw [e]))⟩
theorem RowK.at8 {ob : Option Nat} {W W' : World} {T : TypeId} {g : Nat} {c0 c1 c2 c3 c4 c5 c6 c7 : Value} (hk : RowK ob W W') (h : At8 T W g c0 c1 c2 c3 c4 c5 c6 c7) (hg : ob ≠ some g) : At8 T W' g c0 c1 c2 c3 c4 c5 c6 c7 := by
  unfold At8
  rw [hk.block g (lt_of_block h) hg]
  exact h
theorem RowK.kept {ob : Option Nat} {w w' : World} (h : RowK ob w w') (ht : ∀ k, ob = some k → ∃ cs, w.heap[k]? = some (.cells cs 69 (0, 0))) : KeptG w w' :=
  ⟨h.size, fun k o hk h2 => h.block k (lt_of_objG hk) (fun e => by
    obtain ⟨cs', hcs⟩ := ht k e
    rw [hk] at hcs
    cases hcs
    exact h2 ⟨_, _, _, rfl, .inr rfl⟩)⟩
theorem gpDelete_any {w : World} {base n : Nat} {A : Int} {v : Value} {l : List GW} (h : OwnE w base 69 4 v n (gpV A l)) (hn : n ≤ 65535) (i j : Nat) (hij : i ≤ j) (hj : j ≤ n) :
    Calls Try.prog 34 #[v, .int .i64 i, .int .i64 j] w fun e w' => ∃ v', e = .returned v' ∧ OwnE w' base 69 4 v' (i + (n - j)) (gpV A (l.take i ++ l.drop j)) ∧ v'.ownBlock = v.ownBlock ∧ RowK v.ownBlock w w' ∧ Below base w w' := by
  have hll : l.length = n := by have := h.1.1; rw [gpV_len] at this; omega
  rcases Nat.lt_or_eq_of_le hij with h1 | rfl
  · obtain ⟨g, off, cap, rfl, hnc, hcm, hbg, _, _⟩ := h.row (by omega)
    have hbg : base ≤ g := (h.1.lt g rfl).1
    by_cases hc : j < cap
    · refine (gpDeleteS h hn i j h1 hj hc).mono ?_
      rintro e w' ⟨rfl, hO, ho⟩
      exact ⟨_, rfl, hO, rfl, rowK_only ho, Below.trans (Below.drew (Below.refl _ _)) (ho.below hbg)⟩
    · obtain rfl : j = n := by omega
      obtain rfl : cap = j := by omega
      refine (gpDeleteE h hn i h1).mono ?_
      rintro e w' ⟨rfl, hO, ho⟩
      refine ⟨_, rfl, ?_, rfl, rowK_only ho, Below.trans (Below.drew (Below.refl _ _)) (ho.below hbg)⟩
      rw [show i + (cap - cap) = i by omega]
      exact hO
  · obtain ⟨a, cap, rfl, hnc, hcm, _, _⟩ := h.rdg
    unfold maxLen at hcm
    refine (gpDelete_same _ n i a cap rfl hnc (by omega) hj).mono ?_
    rintro e w' ⟨rfl, rfl⟩
    refine ⟨_, rfl, ?_, rfl, RowK.refl _ _, Below.refl _ _⟩
    rw [List.take_append_drop, show i + (n - i) = n by omega]
    exact h
theorem gpUp_del {l : List GW} (h : GpUp l) (i j : Nat) (hij : i ≤ j) : GpUp (l.take i ++ l.drop j) := by
  have e : (l.take i ++ l.drop j).Sublist l := by
    have h1 := List.Sublist.append (List.Sublist.refl (l.take i)) (List.drop_sublist_drop_left l hij)
    rw [List.take_append_drop] at h1
    exact h1
  exact h.sublist e
theorem gpMem_del {l : List GW} (i j : Nat) {x : GW} (hx : x ∈ l.take i ++ l.drop j) : x ∈ l := by
  rcases List.mem_append.1 hx with h | h
  · exact List.mem_of_mem_take h
  · exact List.mem_of_mem_drop h
/-- What wants is less, in the same gaps. -/
theorem GIn.del {w w' : World} {base gg : Nat} {c : GC} {cm : Bool} {gr : Int} {v v' : Value} {l : List GW} {gv : Int} (h : GIn w base gg c cm gr v l gv) (i j : Nat) (hij : i ≤ j) (hj : j ≤ l.length)
    (h8 : At8 57 w' gg (.int .i64 c.m) (.int .i64 c.t) (.int .i64 c.f) (.int .i64 c.a) (.bool cm) (.int .i64 gr) v' (.int .i64 gv)) (hO : OwnE w' base 69 4 v' (i + (l.length - j)) (gpV c.a (l.take i ++ l.drop j))) :
    GIn w' base gg c cm gr v' (l.take i ++ l.drop j) gv := by
  have hl : (l.take i ++ l.drop j).length = i + (l.length - j) := by rw [List.length_append, List.length_take, List.length_drop, Nat.min_eq_left (by omega)]
  exact ⟨h.bs, h8, by rw [hl]; exact hO, h.ok, by rw [hl]; have := h.len; omega, gpUp_del h.up i j hij, h.gb, fun x hx => h.nb x (gpMem_del i j hx), fun x hx => h.ab x (gpMem_del i j hx)⟩
theorem GIn.delSet {w w' : World} {base gg : Nat} {c : GC} {cm : Bool} {gr : Int} {v v' : Value} {l : List GW} {gv : Int} (h : GIn w base gg c cm gr v l gv) (i j : Nat) (hij : i ≤ j) (hj : j ≤ l.length)
    (hO : OwnE w' base 69 4 v' (i + (l.length - j)) (gpV c.a (l.take i ++ l.drop j))) (hv : v'.ownBlock = v.ownBlock) (hR : RowK v.ownBlock w w') (hb : Below base w w') :
    GIn (w'.setCell ⟨gg, 6, none⟩ v') base gg c cm gr v' (l.take i ++ l.drop j) gv ∧ Below base w (w'.setCell ⟨gg, 6, none⟩ v') ∧ KeptG w (w'.setCell ⟨gg, 6, none⟩ v') := by
  have hX := hR.at8 h.at8 h.apart
  have ho := (Only.refl gg w').setCell 6 v'
  refine ⟨h.del i j hij hj (at8_set6 hX v') (hO.keep (by rw [ho.size]; exact Nat.le_refl _) (fun k cs hk _ => ho.block k (fun e => ?_))), hb.trans (ho.below h.bs), (hR.kept (fun k hk => h.own.2 k hk)).trans (keptG_only hX ho)⟩
  rw [hv, e] at hk
  exact h.apart hk
set_option maxRecDepth 100000 in
set_option maxHeartbeats 1600000 in
theorem gpForget_any {w : World} {base gg : Nat} {c : GC} {cm : Bool} {gr : Int} {v : Value} {l : List GW} {gv : Int} (h : GIn w base gg c cm gr v l gv) (s : Int) :
    Calls Try.prog 19 #[.pointer (some ⟨gg, 0, none⟩), .int .i64 s] w fun e w' => e = .returned (.int .i64 (gpPas s l)) ∧ (∃ v', GIn w' base gg c cm gr v' (l.take 0 ++ l.drop (gpPas s l)) gv) ∧ Below base w w' ∧ KeptG w w' := by
  have hal : Below w.heap.size w (w.alloc (.cells #[.int .i64 s] 3)) := (Below.refl _ _).alloc (Nat.le_refl _) _
  have hc : (w.alloc (.cells #[.int .i64 s] 3)).cell? ⟨w.heap.size, 0, none⟩ = some (.int .i64 s) := by
    rw [cell_of_row _ w.heap.size 0 _ _ (0, 0) (heap_alloc_new w _)]
    rfl
  have hbz : base ≤ w.heap.size := by have := h.at8.lt; have := h.bs; omega
  have hI := h.later hal
  obtain ⟨a, cap, e, hnc, hcm, _, hrd⟩ := hI.own.rdg
  have h2 := hI.at8.cells.2.2.2.2.2.2.1
  rw [e] at h2
  have hsml := h.small
  have HC := Lib.hid (gpFirstFg_any c.a s l gg w.heap.size cap a _ hI.up (by omega) h2 hrd hc)
  have hsz := hal.size
  have hle := gpPas_le s l
  have hkb := keptG_below hal
  have hbb := hal.mono hbz
  have hsb : base ≤ (w.alloc (.cells #[.int .i64 s] 3)).heap.size := by omega
  clear hrd h2 e hc
  go_enter Try.func19, Try.ntmps19
  go_upto_region 1 with fail
  generalize (w.alloc (.cells #[.int .i64 s] 3)) = w2 at *
  generalize hgb : w.heap.size = gb at *
  have HKE : Hid (∃ z, z = gpPas s l) := Lib.hid ⟨_, rfl⟩
  obtain ⟨k, hkk⟩ := HKE.out
  rw [← hkk] at HC hle
  have HKK := Lib.hid hkk
  clear hgb hkk
  go_upto_region 2 with fail
  go_wp2_with fail
  refine HC.out.mono ?_
  rintro e w3 ⟨rfl, hk3⟩
  have hI3 := hI.later hk3
  have hb3 := hbb.trans (hk3.mono hsb)
  have hK3 := hkb.trans (keptG_below hk3)
  have HD := Lib.hid (gpDelete_any hI3.own (by omega) 0 k (Nat.zero_le _) hle)
  have HI3 := Lib.hid hI3
  obtain ⟨_, _, _, _, _, _, _, _⟩ := hI3.at8.cells
  clear hI hI3 hk3 hbb hkb HC h
  go_upto_region 3 with fail
  refine HD.out.mono ?_
  rintro e w4 ⟨v4, rfl, hO4, hv4, hR4, hk4⟩
  obtain ⟨a4, c4, rfl⟩ := hO4.formG
  have HZ := Lib.hid (HI3.out.delSet 0 k (Nat.zero_le _) hle hO4 hv4 hR4 hk4)
  simp only [Nat.zero_add] at HZ
  obtain ⟨_, _, _, _, _, _, _, _⟩ := (hR4.at8 HI3.out.at8 HI3.out.apart).frees
  obtain ⟨_, _, _, _, _, _, _, _⟩ := (hR4.at8 HI3.out.at8 HI3.out.apart).cells
  clear hO4 hv4 hR4 hk4
  go_wp2_with fail
  go_ret
  exact ⟨by rw [← HKK.out]; rfl, ⟨_, by rw [← HKK.out]; exact HZ.out.1⟩, hb3.trans HZ.out.2.1, hK3.trans HZ.out.2.2⟩
/-- One that came wants no more. -/
def gpRm (s : Int) (l : List GW) : List GW := match l[gpPos s l]? with
  | some r => if r.n = s then l.take (gpPos s l) ++ l.drop (gpPos s l + 1) else l
  | none => l
set_option maxRecDepth 100000 in
set_option maxHeartbeats 1600000 in
theorem gpFound_any {w : World} {base gg : Nat} {c : GC} {cm : Bool} {gr : Int} {v : Value} {l : List GW} {gv : Int} (h : GIn w base gg c cm gr v l gv) (s : Int) :
    Calls Try.prog 31 #[.pointer (some ⟨gg, 0, none⟩), .int .i64 s] w fun e w' => e = .returned (.tuple #[]) ∧ (∃ v', GIn w' base gg c cm gr v' (gpRm s l) gv) ∧ Below base w w' ∧ KeptG w w' := by
  have hal : Below w.heap.size w (w.alloc (.cells #[.int .i64 s] 3)) := (Below.refl _ _).alloc (Nat.le_refl _) _
  have hc : (w.alloc (.cells #[.int .i64 s] 3)).cell? ⟨w.heap.size, 0, none⟩ = some (.int .i64 s) := by
    rw [cell_of_row _ w.heap.size 0 _ _ (0, 0) (heap_alloc_new w _)]
    rfl
  have hbz : base ≤ w.heap.size := by have := h.at8.lt; have := h.bs; omega
  have hI := h.later hal
  obtain ⟨a, cap, e, hnc, hcm, _, hrd⟩ := hI.own.rdg
  have h2 := hI.at8.cells.2.2.2.2.2.2.1
  rw [e] at h2
  have hsml := h.small
  have HC := Lib.hid (gpFirstPl_any c.a s l gg w.heap.size cap a _ hI.up (by omega) h2 hrd hc)
  have hsz := hal.size
  have hle := gpPos_le s l
  have hkb := keptG_below hal
  have hbb := hal.mono hbz
  have hsb : base ≤ (w.alloc (.cells #[.int .i64 s] 3)).heap.size := by omega
  have HS := Lib.hid hc
  clear hrd h2 e hc
  go_enter Try.func31, Try.ntmps31
  go_upto_region 1 with fail
  generalize (w.alloc (.cells #[.int .i64 s] 3)) = w2 at *
  generalize hgb : w.heap.size = gb at *
  have HKE : Hid (∃ z, z = gpPos s l) := Lib.hid ⟨_, rfl⟩
  obtain ⟨k, hkk⟩ := HKE.out
  rw [← hkk] at HC hle
  have HKK := Lib.hid hkk
  clear hgb hkk
  go_upto_region 2 with fail
  go_wp2_with fail
  refine HC.out.mono ?_
  rintro e w3 ⟨rfl, hk3⟩
  have hI3 := hI.later hk3
  have hb3 := hbb.trans (hk3.mono hsb)
  have hK3 := hkb.trans (keptG_below hk3)
  have hs3 := cell_keep HS.out hk3
  have HI3 := Lib.hid (fun q => hI3.later (below_drewN (Below.refl w3.heap.size w3) q))
  have HB3 := Lib.hid (fun q => below_drewN hb3 q)
  have HK3 := Lib.hid (fun q => hK3.trans (keptG_below (below_drewN (Below.refl w3.heap.size w3) q)))
  clear hI hk3 hbb hkb HC h HS hb3 hK3
  by_cases hlt : k < l.length
  · obtain ⟨r, hr⟩ : ∃ r, l[k]? = some r := ⟨_, List.getElem?_eq_getElem hlt⟩
    have HR := Lib.hid (show gpRm s l = if r.n = s then l.take k ++ l.drop (k + 1) else l by unfold gpRm; rw [← HKK.out, hr])
    obtain ⟨a3, cap3, rfl, hnc3, hcm3, _, hrd3⟩ := hI3.own.rdg
    unfold maxLen at hcm3
    obtain ⟨g, off, rfl, c0, _, _, _⟩ := hrd3 k r hr
    have HD := Lib.hid (fun q => gpDelete_any (HI3.out q).own (by omega) k (k + 1) (Nat.le_succ _) hlt)
    rw [show ((k + 1 : Nat) : Int) = (k : Int) + 1 from by omega] at HD
    obtain ⟨_, _, _, _, _, _, _, _⟩ := hI3.at8.cells
    obtain ⟨_, _, _, _, _, _, _, _⟩ := hI3.at8.frees
    clear hrd3 hI3 hr
    by_cases hrs : r.n = s
    · rw [if_pos hrs] at HR
      rw [hrs] at c0
      clear hrs
      go_upto_region 2 with fail
      go_quiet (fail)
      go_upto_region 4 with fail
      refine (HD.out _).mono ?_
      rintro e w4 ⟨v4, rfl, hO4, hv4, hR4, hk4⟩
      obtain ⟨a4, c4, rfl⟩ := hO4.formG
      have HZ := Lib.hid ((HI3.out _).delSet k (k + 1) (Nat.le_succ _) hlt hO4 hv4 hR4 hk4)
      obtain ⟨_, _, _, _, _, _, _, _⟩ := (hR4.at8 (HI3.out _).at8 (HI3.out 0).apart).frees
      obtain ⟨_, _, _, _, _, _, _, _⟩ := (hR4.at8 (HI3.out _).at8 (HI3.out 0).apart).cells
      clear hO4 hv4 hR4 hk4
      go_wp2_with fail
      go_end0
      exact ⟨rfl, ⟨_, by rw [HR.out]; exact HZ.out.1⟩, (HB3.out _).trans HZ.out.2.1, (HK3.out _).trans HZ.out.2.2⟩
    · rw [if_neg hrs] at HR
      generalize r.n = rn at *
      go_upto_region 2 with fail
      go_quiet (fail)
      go_wp2_with fail
      go_end0
      exact ⟨rfl, ⟨_, by rw [HR.out]; exact HI3.out _⟩, HB3.out _, HK3.out _⟩
  · have hkl : k = l.length := by omega
    have HR := Lib.hid (show gpRm s l = l by unfold gpRm; rw [← HKK.out, List.getElem?_eq_none (by omega)])
    obtain ⟨a3, cap3, rfl, hnc3, hcm3, _, hrd3⟩ := hI3.own.rdg
    unfold maxLen at hcm3
    obtain ⟨_, _, _, _, _, _, _, _⟩ := hI3.at8.cells
    clear hrd3 hI3
    have hgf : decide (k < l.length) = false := by simp; omega
    go_upto_region 2 with fail
    go_quiet (fail)
    go_wp2_with fail
    go_end0
    exact ⟨rfl, ⟨_, by rw [HR.out]; exact HI3.out _⟩, HB3.out _, HK3.out _⟩

end Go.Proofs.Ytdbmhgfdcdcgfaa
