/- buffer: frame: the frame of a time, found or begun. -/
import Derived.Test.YtgomijhckmcfeaaBfE
import Derived.Test.YtgomijhckmcfeaaOrdM
namespace Go.Proofs.Ytgomijhckmcfeaa
open Go.RowKit
set_option linter.unusedVariables false
set_option linter.unusedSimpArgs false
theorem pw_ins {α : Type} {R : α → α → Prop} {l : List α} (h : l.Pairwise R) (k : Nat) (x : α) (h1 : ∀ y ∈ l.take k, R y x) (h2 : ∀ y ∈ l.drop k, R x y) : (l.take k ++ x :: l.drop k).Pairwise R := by
  have hh := h
  rw [← List.take_append_drop k l, List.pairwise_append] at hh
  obtain ⟨ha, hb, hc⟩ := hh
  rw [List.pairwise_append]
  refine ⟨ha, List.pairwise_cons.2 ⟨h2, hb⟩, fun y hy z hz => ?_⟩
  rcases List.mem_cons.1 hz with rfl | hz
  · exact h1 y hy
  · exact hc y hy z hz
theorem mem_ins {α : Type} {l : List α} {k : Nat} {x y : α} (h : y ∈ l.take k ++ x :: l.drop k) : y = x ∨ y ∈ l := by
  rcases List.mem_append.1 h with h | h
  · exact .inr (List.mem_of_mem_take h)
  · rcases List.mem_cons.1 h with h | h
    · exact .inl h
    · exact .inr (List.mem_of_mem_drop h)
theorem FIn.base {W : World} {base b' gf : Nat} {t cnt first : Int} {mp : Option Nat} {P : List (Option ByteArray)} (h : FIn W b' gf t cnt first mp P) (hb : base ≤ b') : FIn W base gf t cnt first mp P :=
  ⟨Nat.le_trans hb h.bs, h.at5, h.len, by
    rcases h.mem with h1 | ⟨b, h1, h2, h3⟩
    · exact .inl h1
    · exact .inr ⟨b, h1, Nat.le_trans hb h2, h3⟩⟩
theorem bfParts_ins (l : List BF) (k : Nat) (x : BF) : bfParts (l.take k ++ x :: l.drop k) = bfParts l + spH x.P := by
  have := bfParts_app (l.take k) (l.drop k)
  rw [List.take_append_drop] at this
  rw [bfParts_app, bfParts_cons]
  omega
theorem bfBytes_ins (l : List BF) (k : Nat) (x : BF) : bfBytes (l.take k ++ x :: l.drop k) = bfBytes l + spB x.P := by
  have := bfBytes_app (l.take k) (l.drop k)
  rw [List.take_append_drop] at this
  rw [bfBytes_app, bfBytes_cons]
  omega
theorem bfV_ins (l : List BF) (k : Nat) (x : BF) : bfV (l.take k ++ x :: l.drop k) = (bfV l).take k ++ x.ptr :: (bfV l).drop k := by
  simp [bfV, List.map_take, List.map_drop]
/-- How frame ends: the frame that is there, or a new one among them. -/
inductive FrEnd (l : List BF) (t cnt now : Int) (k : Nat) (x : BF) : List BF → Prop
  | old (hx : l[k]? = some x) (ht : x.t = t) : FrEnd l t cnt now k x l
  | new (hk : k ≤ l.length) (hno : ∀ y ∈ l, y.t ≠ t) (ht : x.t = t) (hc : x.c = cnt) (hf : x.f = am 0 now 1099511627776) (hm : x.m = none) (hP : x.P = spNo (spK cnt)) : FrEnd l t cnt now k x (l.take k ++ x :: l.drop k)
theorem FrEnd.at {l l' : List BF} {t cnt now : Int} {k : Nat} {x : BF} (h : FrEnd l t cnt now k x l') : l'[k]? = some x := by
  cases h with
  | old hx _ => exact hx
  | new hk _ _ _ _ _ _ =>
    rw [List.getElem?_append_right (by rw [List.length_take]; omega), List.length_take, show k - min k l.length = 0 by omega]
    rfl
theorem FrEnd.time {l l' : List BF} {t cnt now : Int} {k : Nat} {x : BF} (h : FrEnd l t cnt now k x l') : x.t = t := by
  cases h <;> assumption
set_option maxRecDepth 100000 in
set_option maxHeartbeats 6400000 in
theorem bfFrame_any {w : World} {base gb : Nat} {s : BS} {v : Value} {l : List BF} (h : BIn w base gb s v l) (t cnt now : Int) (hln : l.length ≤ 100000) (t0 : s.least ≤ t) (t1 : t ≤ 4294967295) :
    Calls Try.prog 30 #[.pointer (some ⟨gb, 0, none⟩), .int .u32 t, .int .i64 cnt, .int .i64 now] w fun e w' => ∃ (k : Nat) (x : BF) (v' : Value) (l' : List BF), e = .returned (.pointer (some ⟨x.g, 0, none⟩)) ∧ FrEnd l t cnt now k x l' ∧ BIn w' base gb s v' l' ∧ BKeep gb v l w w' v' l' ∧ Below base w w' := by
  obtain ⟨a, c, rfl⟩ := h.own.formG
  have HS := Lib.hid (bfBin_any h.own h.fr h.up.up t (by omega))
  have HIN := Lib.hid h
  have h10 := h.at10
  have hgw : gb < w.heap.size := AtS.lt h10
  have hbs := h.bs
  have HRN := Lib.hid h.row_ne
  obtain ⟨_, _, _, _, _, _, _, _, _, _⟩ := AtS.cells10 h10
  have HT1 := Lib.hid t1
  clear h t1
  go_enter Try.func30, Try.ntmps30
  go_wp2_with fail
  refine HS.out.mono ?_
  rintro e w' ⟨⟨k, f, rfl, hpos⟩, hq⟩
  subst hq
  have HPOS := Lib.hid hpos
  have hkle := hpos.le
  have HIS := Lib.hid hpos.is
  clear hpos
  cases f with
  | true =>
    obtain ⟨x, hx, hxt⟩ := HIS.out.1 rfl
    obtain ⟨ga, off, c', hv', hlc, _, hcell, _⟩ := bfV_at HIN.out.own k x hx
    cases hv'
    have hk0 : (0 : Int) ≤ (k : Int) := by omega
    have hkl : k < l.length := (List.getElem?_eq_some_iff.1 hx).1
    have hkl' : (k : Int) < (l.length : Int) := by omega
    have HX := Lib.hid hx
    clear hx
    go_wp2
    go_ret
    exact ⟨k, x, _, l, rfl, .old HX.out hxt, HIN.out, BKeep.refl _ _ _ _, Below.refl _ _⟩
  | false =>
    have hno : ∀ y ∈ l, y.t ≠ t := fun y hy e => by
      obtain ⟨m, hm⟩ := List.mem_iff_getElem?.1 hy
      have h1 : ¬ m < k := fun hmk => by have := HPOS.out.lo m y hm hmk; omega
      have hkl : k < l.length := by have := (List.getElem?_eq_some_iff.1 hm).1; omega
      have hz := HPOS.out.hi k _ (List.getElem?_eq_getElem hkl) (Nat.le_refl _)
      have hz2 := bup_mono HIN.out.up.up k m _ y (List.getElem?_eq_getElem hkl) hm (by omega)
      have := HIS.out.2 ⟨_, List.getElem?_eq_getElem hkl, by omega⟩
      cases this
    have HNO := Lib.hid hno
    clear hno
    go_wp2_with fail
    go_upto_region 3 with fail
    go_cut [] (fun wx => ∃ (gf : Nat) (v' : Value), BIn wx base gb s v' (l.take k ++ ⟨gf, t, cnt, am 0 now 1099511627776, none, spNo (spK cnt)⟩ :: l.drop k) ∧ BKeep gb (.slice a l.length c) l w' wx v' (l.take k ++ ⟨gf, t, cnt, am 0 now 1099511627776, none, spNo (spK cnt)⟩ :: l.drop k) ∧ Below base w' wx)
    case first =>
      have hS0 : (fun W : World => W.cell? ⟨gb, 9, none⟩ = some (.slice a l.length c)) w'.drew := (AtS.cells10 (AtS.drew h10)).2.2.2.2.2.2.2.2.2
      refine wp_region_noPanic ?_
      refine ordM_begin (fun W : World => W.cell? ⟨gb, 9, none⟩ = some (.slice a l.length c)) (fun i => i == 15) (by kernel_rfl) hS0 ?_
      refine ordM_take 0 ?vq1 rfl (by kernel_rfl) (by kernel_rfl) (by kernel_rfl) (by kernel_rfl) (fun _ _ _ h => h) (by rfl) ?hq1 (by assumption) ?rq1
      case hq1 => (intro W hSw; (try dsimp only at hSw); go_simp <;> with_reducible rfl)
      (try simp only [Act.put, List.setIfInBounds_toArray, List.set_cons_zero, List.set_cons_succ])
      refine ordM_take 1 ?vq2 rfl (by kernel_rfl) (by kernel_rfl) (by kernel_rfl) (by kernel_rfl) (fun _ _ _ h => h) (by rfl) ?hq2 (by assumption) ?rq2
      case hq2 => (intro W hSw; (try dsimp only at hSw); go_simp <;> with_reducible rfl)
      (try simp only [Act.put, List.setIfInBounds_toArray, List.set_cons_zero, List.set_cons_succ])
      refine ordM_take 2 ?vq3 rfl (by kernel_rfl) (by kernel_rfl) (by kernel_rfl) (by kernel_rfl) (fun _ _ _ h => h) (by rfl) ?hq3 (by assumption) ?rq3
      case hq3 => (intro W hSw; (try dsimp only at hSw); go_simp <;> with_reducible rfl)
      (try simp only [Act.put, List.setIfInBounds_toArray, List.set_cons_zero, List.set_cons_succ])
      refine ordM_take 3 ?vq4 rfl (by kernel_rfl) (by kernel_rfl) (by kernel_rfl) (by kernel_rfl) (fun _ _ _ h => h) (by rfl) ?hq4 (by assumption) ?rq4
      case hq4 => (intro W hSw; (try dsimp only at hSw); go_simp <;> with_reducible rfl)
      (try simp only [Act.put, List.setIfInBounds_toArray, List.set_cons_zero, List.set_cons_succ])
      refine ordM_take 4 ?vq5 rfl (by kernel_rfl) (by kernel_rfl) (by kernel_rfl) (by kernel_rfl) (fun _ _ _ h => h) (by rfl) ?hq5 (by assumption) ?rq5
      case hq5 => (intro W hSw; (try dsimp only at hSw); go_simp <;> with_reducible rfl)
      (try simp only [Act.put, List.setIfInBounds_toArray, List.set_cons_zero, List.set_cons_succ])
      refine ordM_take 5 ?vq6 rfl (by kernel_rfl) (by kernel_rfl) (by kernel_rfl) (by kernel_rfl) (fun _ _ _ h => h) (by rfl) ?hq6 (by assumption) ?rq6
      case hq6 => (intro W hSw; (try dsimp only at hSw); go_simp <;> with_reducible rfl)
      (try simp only [Act.put, List.setIfInBounds_toArray, List.set_cons_zero, List.set_cons_succ])
      refine ordM_take 6 ?vq7 rfl (by kernel_rfl) (by kernel_rfl) (by kernel_rfl) (by kernel_rfl) (fun _ _ _ h => h) (by rfl) ?hq7 (by assumption) ?rq7
      case hq7 => (intro W hSw; (try dsimp only at hSw); go_simp <;> with_reducible rfl)
      (try simp only [Act.put, List.setIfInBounds_toArray, List.set_cons_zero, List.set_cons_succ])
      refine ordM_take 7 ?vq8 rfl (by kernel_rfl) (by kernel_rfl) (by kernel_rfl) (by kernel_rfl) (fun _ _ _ h => h) (by rfl) ?hq8 (by assumption) ?rq8
      case hq8 => (intro W hSw; (try dsimp only at hSw); go_simp <;> with_reducible rfl)
      (try simp only [Act.put, List.setIfInBounds_toArray, List.set_cons_zero, List.set_cons_succ])
      refine ordM_take 8 ?vq9 rfl (by kernel_rfl) (by kernel_rfl) (by kernel_rfl) (by kernel_rfl) (fun _ _ _ h => h) (by rfl) ?hq9 (by assumption) ?rq9
      case hq9 => (intro W hSw; (try dsimp only at hSw); go_simp <;> with_reducible rfl)
      (try simp only [Act.put, List.setIfInBounds_toArray, List.set_cons_zero, List.set_cons_succ])
      refine ordM_ready [9] (by kernel_rfl) (by simp) ?_
      refine AllReadyM.cons rfl (fun K hK => ?_) AllReadyM.nil
      go_simp
      go_at_call 23
      refine (bfTick_q _ _).mono ?_
      rintro e w2 ⟨rfl, hq2⟩
      subst hq2
      (try go_wp2_with fail)
      refine hK.out _ _ (fun _ => hS0) ?_
      clear hK K
      (try simp only [Act.put, List.setIfInBounds_toArray, List.set_cons_zero, List.set_cons_succ])
      refine ordM_ready [10] (by kernel_rfl) (by simp) ?_
      refine AllReadyM.cons rfl (fun K hK => ?_) AllReadyM.nil
      go_simp
      go_at_call 51
      refine (spNew_any _ _ _ _).mono ?_
      rintro e w3 ⟨gf, rfl, hF3, hk3⟩
      have hq3 : Below w'.heap.size w' w3 := (Below.refl _ _).drew.trans hk3
      have h13 := AtS.later h10 hq3
      have hS3 : (fun W : World => W.cell? ⟨gb, 9, none⟩ = some (.slice a l.length c)) w3 := (AtS.cells10 h13).2.2.2.2.2.2.2.2.2
      (try go_wp2_with fail)
      refine hK.out _ _ (fun _ => hS3) ?_
      clear hK K
      (try simp only [Act.put, List.setIfInBounds_toArray, List.set_cons_zero, List.set_cons_succ])
      refine ordM_ready [11] (by kernel_rfl) (by simp) ?_
      refine AllReadyM.cons rfl (fun K hK => ?_) AllReadyM.nil
      go_simp
      have h14 := AtS.later h13 ((Below.refl w3.heap.size w3).alloc (Nat.le_refl _) (.cells #[.pointer (some ⟨gf, 0, none⟩)] 66))
      have hS4 : (fun W : World => W.cell? ⟨gb, 9, none⟩ = some (.slice a l.length c)) (w3.alloc (.cells #[.pointer (some ⟨gf, 0, none⟩)] 66)) := (AtS.cells10 h14).2.2.2.2.2.2.2.2.2
      refine hK.out _ _ (fun _ => hS4) ?_
      clear hK K
      (try simp only [Act.put, List.setIfInBounds_toArray, List.set_cons_zero, List.set_cons_succ])
      refine ordM_ready [12] (by kernel_rfl) (by simp) ?_
      refine AllReadyM.cons rfl (fun K hK => ?_) AllReadyM.nil
      have HV1 : Hid (BIn (w3.alloc (.cells #[.pointer (some ⟨gf, 0, none⟩)] 66)) base gb s (.slice a l.length c) l) := Lib.hid ((HIN.out.later hq3).later ((Below.refl w3.heap.size w3).alloc (Nat.le_refl _) _))
      have hrow : (Value.slice a l.length c).ownBlock ≠ some w3.heap.size := fun e => by
        have := ((HIN.out.later hq3).own.1.lt _ e).2
        omega
      go_simp
      go_at_call 50
      refine (bfInsert_any HV1.out.own k w3.heap.size (.pointer (some ⟨gf, 0, none⟩)) hkle (by omega) (heap_alloc_new w3 _) hrow (bfV_one l) rfl (by have := hq3.size; simp; omega)).mono ?_
      rintro e w5 ⟨v5, rfl, hO5, hg5, hr5⟩
      obtain ⟨a5, c5, rfl⟩ := hO5.formG
      have h15 := AtS.grown h14 hg5 (fun e => HRN.out e.symm)
      have hS5 : (fun W : World => W.cell? ⟨gb, 9, none⟩ = some (.slice a l.length c)) w5 := (AtS.cells10 h15).2.2.2.2.2.2.2.2.2
      (try go_wp2_with fail)
      refine hK.out _ _ (fun _ => hS5) ?_
      clear hK K
      (try simp only [Act.put, List.setIfInBounds_toArray, List.set_cons_zero, List.set_cons_succ])
      have hf5 : w5.frozen? ⟨gb, 9, none⟩ = false := AtS.free h15 9
      obtain ⟨_, _, _, _, _, _, _, _, _, _⟩ := AtS.cells10 h15
      refine ordM_ready [13] (by kernel_rfl) (by simp) ?_
      refine AllReadyM.cons rfl (fun K hK => ?_) AllReadyM.nil
      go_simp
      refine hK.out _ _ (fun _ => hS5) ?_
      clear hK K
      (try simp only [Act.put, List.setIfInBounds_toArray, List.set_cons_zero, List.set_cons_succ])
      refine ordM_ready [14] (by kernel_rfl) (by simp) ?_
      refine AllReadyM.cons rfl (fun K hK => ?_) AllReadyM.nil
      go_simp
      refine hK.out _ _ (fun _ => hS5) ?_
      clear hK K
      (try simp only [Act.put, List.setIfInBounds_toArray, List.set_cons_zero, List.set_cons_succ])
      clear hS0 hS3 hS4
      refine ordM_ready [15] (by kernel_rfl) (by simp) ?_
      refine AllReadyM.cons rfl (fun K hK => ?_) AllReadyM.nil
      go_simp
      refine hK.out _ _ (fun h => absurd h (by decide)) ?_
      clear hK K
      (try simp only [Act.put, List.setIfInBounds_toArray, List.set_cons_zero, List.set_cons_succ])
      refine ordM_done (by kernel_rfl) ?_ _
      refine NoPanic.normal ?_
      go_wp2_with fail
      go_meet
      have ho := (Only.refl gb w5).setCell 9 (.slice a5 (l.length + 1) c5)
      have hsz3 := hq3.size
      have hgf : w'.heap.size ≤ gf := Nat.le_trans hsz3 (Nat.le_of_eq rfl) |> fun _ => (show w'.heap.size ≤ gf from hF3.bs)
      have hgl := hF3.at5.lt
      have hsz5 := hg5.size
      simp at hsz5
      have hrowlt : ∀ i, (Value.slice a l.length c).ownBlock = some i → i < w'.heap.size := fun i e => (HIN.out.own.1.lt i e).2
      have hF5 : FIn w5 base gf t cnt (am 0 now 1099511627776) none (spNo (spK cnt)) := ((hF3.later ((Below.refl w3.heap.size w3).alloc (Nat.le_refl _) (.cells #[.pointer (some ⟨gf, 0, none⟩)] 66))).same (hg5.block gf (by simp; omega) (fun e => by have := hrowlt gf e.symm; omega)) (fun b e => by cases e)).base (by show base ≤ w'.heap.size; omega)
      have hI5 : BIn w5 base gb s (.slice a l.length c) l ∨ True := .inr trivial
      have hfr5 : FrIn w5 base l := HV1.out.fr.same (fun y hy => by
        obtain ⟨⟨_, h2⟩, h3⟩ := HV1.out.apart y hy
        obtain ⟨⟨_, h4⟩, h5⟩ := HV1.out.fr.lt y hy
        exact ⟨hg5.block _ h4 (fun e => h2 e.symm), fun b hb => hg5.block b (h5 b hb).2 (fun e => (h3 b hb).2 e.symm)⟩)
      have hgne : ∀ y ∈ l, y.g ≠ gf := fun y hy e => by
        have := (HIN.out.fr.lt y hy).1.2
        omega
      refine ⟨gf, .slice a5 (l.length + 1) c5, ⟨hbs, ?_, ?_, ⟨?_, ?_⟩, ⟨?_, ?_, HIN.out.up.l0, ?_⟩⟩, ⟨?_, ?_, ?_⟩, ?_⟩
      · rw [bfParts_ins, bfBytes_ins]
        show BS.at s _ gb ((bfParts l + spH (spNo (spK cnt)) : Nat) : Int) ((bfBytes l + spB (spNo (spK cnt)) : Nat) : Int) (.slice a5 (l.length + 1) c5)
        rw [spH_no, spB_no]
        exact at10_set9 h15 (.slice a5 (l.length + 1) c5)
      · have e1 : (l.take k ++ (⟨gf, t, cnt, am 0 now 1099511627776, none, spNo (spK cnt)⟩ : BF) :: l.drop k).length = l.length + 1 := by
          simp only [List.length_append, List.length_take, List.length_cons, List.length_drop]
          omega
        rw [e1, bfV_ins]
        refine hO5.keep (by rw [ho.size]; exact Nat.le_refl _) (fun i cs hi _ => ho.block i (fun e => ?_))
        rcases hr5 with h | ⟨i', h, hge⟩
        · rw [h] at hi
          exact HRN.out (by rw [hi, e])
        · rw [h] at hi
          cases hi
          simp at hge
          have := AtS.lt h10
          omega
      · intro y hy
        rcases mem_ins hy with rfl | hy
        · exact hF5.same (ho.block _ (fun e => by have := AtS.lt h10; omega)) (fun b e => by cases e)
        · obtain ⟨⟨h1, _⟩, h2⟩ := HIN.out.apart y hy
          exact (hfr5.fr y hy).same (ho.block _ h1) (fun b hb => ho.block b (h2 b hb).1)
      · exact pw_ins hfr5.nd k _ (fun y hy => ⟨hgne y (List.mem_of_mem_take hy), fun b hb e => by cases e⟩) (fun y hy => ⟨fun e => hgne y (List.mem_of_mem_drop hy) e.symm, fun b hb => by cases hb⟩)
      · refine pw_ins HIN.out.up.up k _ (fun y hy => ?_) (fun y hy => ?_)
        · obtain ⟨m, hm⟩ := List.mem_iff_getElem?.1 hy
          rw [List.getElem?_take] at hm
          split at hm
          · exact HPOS.out.lo m y hm (by assumption)
          · cases hm
        · obtain ⟨m, hm⟩ := List.mem_iff_getElem?.1 hy
          rw [List.getElem?_drop] at hm
          have h1 := HPOS.out.hi (k + m) y hm (by omega)
          have h2 := HNO.out y (List.mem_of_getElem? hm)
          show t < y.t
          omega
      · intro y hy
        rcases mem_ins hy with rfl | hy
        · exact t0
        · exact HIN.out.up.lo y hy
      · intro y hy
        rcases mem_ins hy with rfl | hy
        · exact HT1.out
        · exact HIN.out.up.tb y hy
      · rw [ho.size]; omega
      · intro i hi hf
        rw [ho.block i (fun e => hf (.inl e)), hg5.block i (by simp; omega) (fun e => hf (.inr (.inl e.symm)))]
        have hal := ((Below.refl w3.heap.size w3).alloc (Nat.le_refl _) (.cells #[.pointer (some ⟨gf, 0, none⟩)] 66))
        rw [hal.block i (by omega)]
        exact hq3.block i hi
      · intro i hi
        rcases hi with e | e | ⟨y, hy, e⟩
        · exact .inl (.inl e)
        · rcases hr5 with h | ⟨i', h, hge⟩
          · exact .inl (.inr (.inl (by rw [← h]; exact e)))
          · rw [h] at e
            cases e
            simp at hge
            exact .inr (by omega)
        · rcases mem_ins hy with rfl | hy
          · rcases e with e | e
            · exact .inr (by rw [← e]; exact hgf)
            · cases e
          · exact .inl (.inr (.inr ⟨y, hy, e⟩))
      · refine Below.trans ?_ (ho.below hbs)
        have hal := ((Below.refl w3.heap.size w3).alloc (Nat.le_refl _) (.cells #[.pointer (some ⟨gf, 0, none⟩)] 66))
        have hbx : Below w'.heap.size w' (w3.alloc (.cells #[.pointer (some ⟨gf, 0, none⟩)] 66)) := hq3.trans (hal.mono hq3.size)
        refine (hbx.mono (by omega)).trans ⟨hg5.os, hg5.tape, hg5.output, hg5.size, fun i hi => hg5.block i (by simp; omega) (fun e => ?_)⟩
        have := (HIN.out.own.1.lt i e.symm).1
        omega
    case rest =>
    obtain ⟨gf, v', hI, hK, hB⟩ := hcut
    rename World => w9
    have hend : FrEnd l t cnt now k ⟨gf, t, cnt, am 0 now 1099511627776, none, spNo (spK cnt)⟩ (l.take k ++ ⟨gf, t, cnt, am 0 now 1099511627776, none, spNo (spK cnt)⟩ :: l.drop k) := .new hkle HNO.out rfl rfl rfl rfl rfl
    have hat := hend.at
    obtain ⟨ga, off, c', hv', hlc, _, hcell, _⟩ := bfV_at hI.own k _ hat
    subst hv'
    have hkl2 := (List.getElem?_eq_some_iff.1 hat).1
    have hk0 : (0 : Int) ≤ (k : Int) := by omega
    have hkl' : (k : Int) < ((l.take k ++ (⟨gf, t, cnt, am 0 now 1099511627776, none, spNo (spK cnt)⟩ : BF) :: l.drop k).length : Int) := by omega
    obtain ⟨_, _, _, _, _, _, _, _, _, _⟩ := AtS.cells10 hI.at10
    have HI := Lib.hid hI
    have HK := Lib.hid hK
    have HE := Lib.hid hend
    clear hI hK hend hat
    generalize (l.take k ++ (⟨gf, t, cnt, am 0 now 1099511627776, none, spNo (spK cnt)⟩ : BF) :: l.drop k) = l' at *
    generalize l'.length = n' at *
    go_wp2
    go_ret
    first
    | exact ⟨k, _, rfl, _, _, HE.out, HI.out, HK.out, hB⟩
    | exact ⟨k, _, rfl, _, HE.out, _, HI.out, HK.out, hB⟩
end Go.Proofs.Ytgomijhckmcfeaa
