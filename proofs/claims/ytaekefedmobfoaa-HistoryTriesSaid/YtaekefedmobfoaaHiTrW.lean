/- HistoryTries: the walk. -/
import Derived.Test.YtaekefedmobfoaaHiTrM
namespace Go.Proofs.Ytaekefedmobfoaa
open Go.RowKit
set_option linter.unusedVariables false
set_option linter.unusedSimpArgs false
theorem wf_small (x : Int) (h0 : -4611686018427387904 ≤ x) (h1 : x ≤ 4611686018427387904) : (Lit.int .i64 x).wf = true := by
  simp [Lit.wf, IntKind.min, IntKind.max, IntKind.signed, IntKind.bits]; omega
namespace historyTries
set_option maxRecDepth 100000 in
set_option maxHeartbeats 6400000 in
theorem walk (a0 : Int) (p1 : Option Addr) (len1 cap1 : Nat) (w0 : (Lit.int .i64 a0).wf = true) (w : World) (w1 : Recs hiActP w p1 len1) (hl1 : len1 ≤ 9223372036854775807) :
    Calls Try.prog 7 #[.int .i64 a0, .slice p1 len1 cap1] w fun e w' => e = .returned (.bool true) ∧ Below w.heap.size w w' := by
  have hm3 : ∀ z : Int, bits .and .i64 z 3 = z % 4 := fun z => i64_mask z 2 (by omega)
  have hm31 : ∀ z : Int, bits .and .i64 z 31 = z % 32 := fun z => i64_mask z 5 (by omega)
  have HACT := Lib.hid (fun (k : Nat) (hk : k < len1) (W : World) (hb : Below w.heap.size w W) => hiAct_at w1 hb hk)
  obtain ⟨T, hT⟩ : ∃ T : Int, a0 % 4 = T := ⟨_, rfl⟩
  have hT0 : 0 ≤ T := by omega
  have hT1 : T ≤ 3 := by omega
  have HTT : Hid (hiT T = T) := Lib.hid (by unfold hiT; omega)
  clear w1 w0
  go_enter Try.func7, Try.ntmps7
  go_wp2_with fail
  refine (hiAwake_any w).mono ?_
  rintro e wa ⟨rfl, hba⟩
  go_wp2_with fail
  refine (hiNew_any 100 T wa).mono ?_
  rintro e wb ⟨rfl, hQb, hkb⟩
  have hbb := hba.trans (hkb.mono hba.size)
  have hgB : w.heap.size ≤ wa.heap.size := hba.size
  generalize wa.heap.size = gh at hQb hgB hkb ⊢
  clear hba hkb hT hm3
  have hal1 : Below wb.heap.size wb (wb.alloc (.map #[] 0)) := (Below.refl _ _).alloc (Nat.le_refl _) _
  have hal2 : Below (wb.alloc (.map #[] 0)).heap.size (wb.alloc (.map #[] 0)) ((wb.alloc (.map #[] 0)).alloc (.map #[] 0)) := (Below.refl _ _).alloc (Nat.le_refl _) _
  have hal := hal1.trans (hal2.mono hal1.size)
  have hQc := hQb.later hal
  have hbc := hbb.trans (hal.mono hbb.size)
  have hMS : MapS ((wb.alloc (.map #[] 0)).alloc (.map #[] 0)) wb.heap.size 0 (fun _ => none) := (mapS_new wb).same (hal2.block _ (by simp))
  have hMI : MapI ((wb.alloc (.map #[] 0)).alloc (.map #[] 0)) (wb.heap.size + 1) 0 (fun _ => none) := by
    have := mapI_new (wb.alloc (.map #[] 0))
    rw [World.size_alloc] at this
    exact this
  have hmm := @run_makeMap Try.prog
  go_upto_region 8 with fail
  clear hmm
  generalize (wb.alloc (.map #[] 0)).alloc (.map #[] 0) = wc at hQc hbc hMS hMI ⊢
  have hgS : w.heap.size ≤ wb.heap.size := hbb.size
  generalize hgi : wb.heap.size + 1 = bi at hMI ⊢
  generalize wb.heap.size = bs at hMS hgS hgi ⊢
  have hsi : bs ≠ bi := by omega
  have hgI : w.heap.size ≤ bi := by omega
  clear hal hal1 hal2 hQb hbb hgi
  go_wp2_with fail
  go_loopw [8, 9] (fun s8 s9 wr => ∃ (k : Nat) (l : List HR) (v : Value) (ag : Int), k ≤ len1 ∧ k ≤ 60 ∧ l.length ≤ k ∧ 0 ≤ ag ∧ ag ≤ k ∧ s9 = .int .i64 k ∧ s8 = .int .i64 l.length ∧ HIn wr gh gh 100 T v l ag ∧ SeqOk l ∧ HiNn l ∧ MapS wr bs k (fS l) ∧ MapI wr bi k (fI l) ∧ Below w.heap.size w wr) (fun _ s9 _ => 60 - (intOf s9).toNat)
  case atStart => exact ⟨0, [], _, 0, Nat.zero_le _, by omega, Nat.le_refl _, Int.le_refl _, Int.le_refl _, rfl, rfl, hQc, seqOk_nil, hiNn_nil, hMS, hMI, hbc⟩
  case round =>
    obtain ⟨k, l, v, ag, hk, hk60, hlk, hag0, hag1, rfl, rfl, hQ, hseq, hnn, hMSk, hMIk, hb⟩ := hrel
    clear hQc hbc hMS hMI
    by_cases hlt : k < len1 ∧ k < 60
    · obtain ⟨hlt, hlt60⟩ := hlt
      obtain ⟨ab, off, rfl, habl, kd, s, p, d, ha0, ha1, ha2, ha3, hd, hw0, hw1, hw2⟩ := HACT.out k hlt wr hb
      have hX := at4_new 54 wr wr.heap.size (.int .i64 kd) (.int .i64 s) (.int .i64 p) (.string d) rfl
      have hal : Below wr.heap.size wr (wr.alloc (.cells #[.int .i64 kd, .int .i64 s, .int .i64 p, .string d] 54)) := (Below.refl _ _).alloc (Nat.le_refl _) _
      have hQ2 := hQ.later hal
      have hMS2 := hMSk.same (hal.block bs (by obtain ⟨es, c, h⟩ := hMSk.isMap; exact lt_of_obj h))
      have hMI2 := hMIk.same (hal.block bi (by obtain ⟨es, c, h⟩ := hMIk.isMap; exact lt_of_obj h))
      have hb2 := hb.trans (hal.mono hb.size)
      have HSEQ := Lib.hid hseq
      have HNN := Lib.hid hnn
      have hwk : IntKind.i64.wrap ((l.length : Int) + 1) = (l.length : Int) + 1 := IntWalk.i64_in _ ⟨by omega, by omega⟩
      go_upto_region 13 with fail
      generalize (wr.alloc (.cells #[.int .i64 kd, .int .i64 s, .int .i64 p, .string d] 54)) = w2 at hX hQ2 hMS2 hMI2 hb2 ⊢
      generalize wr.heap.size = ga at hX ⊢
      clear hal hQ hMSk hMIk hb ha0 ha1 ha2 ha3 hseq hnn
      obtain ⟨_, _, _, _⟩ := hX.cells
      by_cases hkd : kd = 0
      · subst hkd
        have hcs := cutB_le d 20
        generalize hcd : cutB d 20 = sd at hcs
        have HCD := Lib.hid hcd
        have hP1 := Lib.hid (hiPut_any hQ2 ((l.length : Int) + 1) p sd)
        rw [seqOk_ok HSEQ.out, put_room HSEQ.out (by omega) ⟨(l.length : Int) + 1, 0, p, sd⟩ rfl] at hP1
        have HP2 := Lib.hid (fun (W : World) (v' : Value) (h : HIn W gh gh 100 T v' (l ++ [⟨(l.length : Int) + 1, 0, p, sd⟩]) ag) => hiPut_any h ((l.length : Int) + 1) p (⟨#[120]⟩ : ByteArray))
        rw [show hiOk ((l.length : Int) + 1) (l ++ [⟨(l.length : Int) + 1, 0, p, sd⟩]) = false from put_twice l ⟨(l.length : Int) + 1, 0, p, sd⟩, put_none _ _ ⟨(l.length : Int) + 1, 0, p, ⟨#[120]⟩⟩ (put_twice l ⟨(l.length : Int) + 1, 0, p, sd⟩)] at HP2
        have HLN : Hid ((l ++ [(⟨(l.length : Int) + 1, 0, p, sd⟩ : HR)]).length = l.length + 1) := Lib.hid (by rw [List.length_append]; rfl)
        have HS2 : Hid (SeqOk (l ++ [⟨(l.length : Int) + 1, 0, p, sd⟩])) := Lib.hid (seqOk_snoc HSEQ.out ⟨(l.length : Int) + 1, 0, p, sd⟩ rfl)
        have HN2 : Hid (HiNn (l ++ [⟨(l.length : Int) + 1, 0, p, sd⟩])) := Lib.hid (fun r hr => by
          rcases List.mem_append.1 hr with hr | hr
          · exact HNN.out r hr
          · simp at hr; subst hr; exact Int.le_refl _)
        have HFS : Hid (∀ y, fS (l ++ [⟨(l.length : Int) + 1, 0, p, sd⟩]) y = if y = (l.length : Int) + 1 then some sd else fS l y) := Lib.hid (fS_put HSEQ.out ⟨(l.length : Int) + 1, 0, p, sd⟩ rfl)
        have HFI : Hid (∀ y, fI (l ++ [⟨(l.length : Int) + 1, 0, p, sd⟩]) y = fI l y) := Lib.hid (fI_put HSEQ.out ⟨(l.length : Int) + 1, 0, p, sd⟩ rfl rfl)
        clear hcd
        go_wp2_with fail
        refine (cut_any d 20 w2 (by omega) (by omega)).mono ?_
        rintro e w3 ⟨rfl, hq3⟩
        subst hq3
        rw [HCD.out]
        go_wp2_with fail
        refine hP1.out.mono ?_
        rintro e w4 ⟨rfl, ⟨v4, hQ4⟩, hk4, hK4, _⟩
        have hX4 := hX.keptH hK4 (by decide) (by decide)
        have hMS4 : MapS w4 bs k (fS l) := by
          obtain ⟨es, c, h⟩ := hMS2.isMap
          exact hMS2.same (hK4.block bs _ h (by rintro ⟨_, _, _, e, _⟩; cases e))
        have hMI4 : MapI w4 bi k (fI l) := by
          obtain ⟨es, c, h⟩ := hMI2.isMap
          exact hMI2.same (hK4.block bi _ h (by rintro ⟨_, _, _, e, _⟩; cases e))
        have hb4 := hb2.trans (hk4.mono hgB)
        clear hP1 hX hMS2 hMI2 hb2 hk4 hK4 hQ2
        obtain ⟨_, _, _, _⟩ := hX4.cells
        go_wp2_with fail
        refine (HP2.out w4 v4 hQ4).mono ?_
        rintro e w5 ⟨rfl, ⟨v5, hQ5⟩, hk5, hK5, _⟩
        have hMS5 : MapS w5 bs k (fS l) := by
          obtain ⟨es, c, h⟩ := hMS4.isMap
          exact hMS4.same (hK5.block bs _ h (by rintro ⟨_, _, _, e, _⟩; cases e))
        have hMI5 : MapI w5 bi k (fI l) := by
          obtain ⟨es, c, h⟩ := hMI4.isMap
          exact hMI4.same (hK5.block bi _ h (by rintro ⟨_, _, _, e, _⟩; cases e))
        have hb5 := hb4.trans (hk5.mono hgB)
        clear HP2 hX4 hMS4 hMI4 hb4 hk5 hK5 hQ4
        go_wp2_with (at_mapUpdate; refine wpList_putS _ rfl _ _ _ rfl bs k (fS l) rfl hMS5 ?m0 ((l.length : Int) + 1) sd rfl ?m1 rfl ?m2 ?_)
        case m0 => unfold maxLen; omega
        case m1 => exact wf_small _ (by omega) (by omega)
        case m2 => unfold maxLen; omega
        intro w6 hMS6 hg6
        have hQ6 := hQ5.grownMap hg6 hMS5.isMap
        have hMI6 := hMI5.kept hg6 (fun e => hsi (Option.some.inj e).symm)
        have hb6 : Below w.heap.size w w6 := hb5.grown hg6 hb5.size (fun q hq => by cases hq; exact hgS)
        clear hQ5 hMI5 hb5 hg6 hMS5
        go_wp2_with fail
        go_roundw
        case rel => exact ⟨k + 1, l ++ [⟨(l.length : Int) + 1, 0, p, sd⟩], v5, ag, by omega, by omega, by rw [HLN.out]; omega, hag0, by omega, by go_num, by rw [HLN.out]; go_num, hQ6, HS2.out, HN2.out, hMS6.ext (fun y _ => HFS.out y), (hMI6.mono (Nat.le_succ k)).ext (fun y _ => HFI.out y), hb6⟩
        case measure => simp [intOf]; omega
      · have hkd2 : (kd == 0) = false := by simpa using hkd
        obtain ⟨n, hn⟩ : ∃ n : Int, 1 + s % 32 = n := ⟨_, rfl⟩
        have hn1 : 1 ≤ n := by omega
        have hn2 : n ≤ 32 := by omega
        clear hkd
        cases hf : hiFind n l with
        | none =>
          have HA : Hid (Calls Try.prog 31 #[.pointer (some ⟨gh, 0, none⟩), .int .i64 n, .int .i64 p] w2 fun e w' => e = .returned (.tuple #[.agg #[.int .i64 0, .int .i64 0, .int .i64 0, .string (⟨#[]⟩ : ByteArray)], .bool false]) ∧ (∃ v', HIn w' gh gh 100 T v' l ag) ∧ Below gh w2 w' ∧ KeptH w2 w') := Lib.hid (by
            have h := hiAgain_any hQ2 HNN.out n p ⟨hag0, by omega⟩
            have e : hiTo (hiT T) n p l = none := by unfold hiTo; rw [hf]
            unfold hiAgL hiAgN at h
            rw [e] at h
            exact h)
          have HFS : Hid (fS l n = none) := Lib.hid (by unfold fS; rw [hf]; rfl)
          have HFI : Hid ((fI l n).getD 0 = 0) := Lib.hid (by rw [fI_get, hf]; rfl)
          clear hf
          go_wp2_with fail
          refine HA.out.mono ?_
          rintro e w3 ⟨rfl, ⟨v3, hQ3⟩, hk3, hK3⟩
          have hX3 := hX.keptH hK3 (by decide) (by decide)
          have hMS3 : MapS w3 bs k (fS l) := by
            obtain ⟨es, c, h⟩ := hMS2.isMap
            exact hMS2.same (hK3.block bs _ h (by rintro ⟨_, _, _, e, _⟩; cases e))
          have hMI3 : MapI w3 bi k (fI l) := by
            obtain ⟨es, c, h⟩ := hMI2.isMap
            exact hMI2.same (hK3.block bi _ h (by rintro ⟨_, _, _, e, _⟩; cases e))
          have hb3 := hb2.trans (hk3.mono hgB)
          clear HA hX hMS2 hMI2 hb2 hk3 hK3 hQ2
          have hR := at4_new 64 w3 w3.heap.size (.int .i64 0) (.int .i64 0) (.int .i64 0) (.string (⟨#[]⟩ : ByteArray)) rfl
          have hal : Below w3.heap.size w3 (w3.alloc (.cells #[.int .i64 0, .int .i64 0, .int .i64 0, .string (⟨#[]⟩ : ByteArray)] 64)) := (Below.refl _ _).alloc (Nat.le_refl _) _
          have hQ4 := hQ3.later hal
          have hX4 := hX3.later hal
          have hMS4 := hMS3.same (hal.block bs (by obtain ⟨es, c, h⟩ := hMS3.isMap; exact lt_of_obj h))
          have hMI4 := hMI3.same (hal.block bi (by obtain ⟨es, c, h⟩ := hMI3.isMap; exact lt_of_obj h))
          have hb4 := hb3.trans (hal.mono hb3.size)
          go_upto_region 21 with fail
          generalize (w3.alloc (.cells #[.int .i64 0, .int .i64 0, .int .i64 0, .string (⟨#[]⟩ : ByteArray)] 64)) = w4 at hR hQ4 hX4 hMS4 hMI4 hb4 ⊢
          generalize w3.heap.size = gr at hR ⊢
          clear hal hQ3 hX3 hMS3 hMI3 hb3
          obtain ⟨_, _, _, _⟩ := hR.cells
          obtain ⟨_, _, _, _⟩ := hX4.cells
          have q1 := hMS4.okEq (x := n) (wf_small _ (by omega) (by omega))
          have q2 := hMS4.eq (x := n) (wf_small _ (by omega) (by omega))
          have q3 := hMI4.eq (x := n) (wf_small _ (by omega) (by omega))
          rw [HFS.out] at q1 q2
          rw [HFI.out] at q3
          simp only [Option.getD, Option.isSome] at q1 q2
          go_wp2_with fail
          go_roundw
          case rel => exact ⟨k + 1, l, v3, ag, by omega, by omega, by omega, hag0, by omega, by go_num, rfl, hQ4, HSEQ.out, HNN.out, hMS4.mono (Nat.le_succ k), hMI4.mono (Nat.le_succ k), hb4⟩
          case measure => simp [intOf]; omega
        | some r =>
          by_cases ht : r.t < T
          · have HA : Hid (Calls Try.prog 31 #[.pointer (some ⟨gh, 0, none⟩), .int .i64 n, .int .i64 p] w2 fun e w' => e = .returned (.tuple #[.agg #[.int .i64 r.s, .int .i64 (r.t + 1), .int .i64 p, .string r.d], .bool true]) ∧ (∃ v', HIn w' gh gh 100 T v' (hiAg n p l) (ag + 1)) ∧ Below gh w2 w' ∧ KeptH w2 w') := Lib.hid (by
              have h := hiAgain_any hQ2 HNN.out n p ⟨hag0, by omega⟩
              have e : hiTo (hiT T) n p l = some (r.ag p) := by unfold hiTo; rw [hf, HTT.out]; simp [ht]
              unfold hiAgL hiAgN at h
              rw [e] at h
              exact h)
            have HFS : Hid (fS l n = some r.d) := Lib.hid (by unfold fS; rw [hf]; rfl)
            have HFI : Hid ((fI l n).getD 0 = r.t) := Lib.hid (by rw [fI_get, hf]; rfl)
            have hrt := HNN.out r (List.mem_of_find?_eq_some hf)
            have HRS : Hid (r.s = n) := Lib.hid (find_s hf)
            have HFA : Hid (∀ y, fI (hiAg n p l) y = if y = n then some (r.t + 1) else fI l y) := Lib.hid (fI_ag HNN.out n p r hf)
            have HFB : Hid (∀ y, fS (hiAg n p l) y = fS l y) := Lib.hid (fS_ag l n p)
            have HS2 : Hid (SeqOk (hiAg n p l)) := Lib.hid (seqOk_ag HSEQ.out n p)
            have HN2 : Hid (HiNn (hiAg n p l)) := Lib.hid (hiNn_ag HNN.out n p)
            have HLN : Hid ((hiAg n p l).length = l.length) := Lib.hid (hiAg_len n p l)
            have hw9 : IntKind.i64.wrap (r.t + 1) = r.t + 1 := IntWalk.i64_in _ ⟨by omega, by omega⟩
            have HRT : Hid (-4611686018427387904 ≤ r.t + 1 ∧ r.t + 1 ≤ 4611686018427387904) := Lib.hid ⟨by omega, by omega⟩
            clear hf
            go_wp2_with fail
            refine HA.out.mono ?_
            rintro e w3 ⟨rfl, ⟨v3, hQ3⟩, hk3, hK3⟩
            have hX3 := hX.keptH hK3 (by decide) (by decide)
            have hMS3 : MapS w3 bs k (fS l) := by
              obtain ⟨es, c, h⟩ := hMS2.isMap
              exact hMS2.same (hK3.block bs _ h (by rintro ⟨_, _, _, e, _⟩; cases e))
            have hMI3 : MapI w3 bi k (fI l) := by
              obtain ⟨es, c, h⟩ := hMI2.isMap
              exact hMI2.same (hK3.block bi _ h (by rintro ⟨_, _, _, e, _⟩; cases e))
            have hb3 := hb2.trans (hk3.mono hgB)
            clear HA hX hMS2 hMI2 hb2 hk3 hK3 hQ2
            have hR := at4_new 64 w3 w3.heap.size (.int .i64 r.s) (.int .i64 (r.t + 1)) (.int .i64 p) (.string r.d) rfl
            have hal : Below w3.heap.size w3 (w3.alloc (.cells #[.int .i64 r.s, .int .i64 (r.t + 1), .int .i64 p, .string r.d] 64)) := (Below.refl _ _).alloc (Nat.le_refl _) _
            have hQ4 := hQ3.later hal
            have hX4 := hX3.later hal
            have hMS4 := hMS3.same (hal.block bs (by obtain ⟨es, c, h⟩ := hMS3.isMap; exact lt_of_obj h))
            have hMI4 := hMI3.same (hal.block bi (by obtain ⟨es, c, h⟩ := hMI3.isMap; exact lt_of_obj h))
            have hb4 := hb3.trans (hal.mono hb3.size)
            go_upto_region 21 with fail
            generalize (w3.alloc (.cells #[.int .i64 r.s, .int .i64 (r.t + 1), .int .i64 p, .string r.d] 64)) = w4 at hR hQ4 hX4 hMS4 hMI4 hb4 ⊢
            generalize w3.heap.size = gr at hR ⊢
            clear hal hQ3 hX3 hMS3 hMI3 hb3
            obtain ⟨_, _, _, _⟩ := hR.cells
            obtain ⟨_, _, _, _⟩ := hX4.cells
            have q1 := hMS4.okEq (x := n) (wf_small _ (by omega) (by omega))
            have q2 := hMS4.eq (x := n) (wf_small _ (by omega) (by omega))
            have q3 := hMI4.eq (x := n) (wf_small _ (by omega) (by omega))
            rw [HFS.out] at q1 q2
            rw [HFI.out] at q3
            simp only [Option.getD, Option.isSome] at q1 q2
            have hdt : decide (r.t < T) = true := decide_eq_true ht
            have hns : (r.s != n) = false := by simp [HRS.out]
            go_wp2_with (at_mapUpdate; refine wpList_putI _ rfl _ _ _ rfl bi k (fI l) rfl hMI4 ?m0 n (r.t + 1) rfl ?m1 rfl ?m2 ?_)
            case m0 => unfold maxLen; omega
            case m1 => exact wf_small _ (by omega) (by omega)
            case m2 => exact wf_small _ HRT.out.1 HRT.out.2
            intro w6 hMI6 hg6
            have hQ6 := hQ4.grownMap hg6 hMI4.isMap
            have hMS6 := hMS4.kept hg6 (fun e => hsi (Option.some.inj e))
            have hb6 : Below w.heap.size w w6 := hb4.grown hg6 hb4.size (fun q hq => by cases hq; exact hgI)
            clear hQ4 hMI4 hb4 hg6 hMS4
            go_wp2_with fail
            go_roundw
            case rel => exact ⟨k + 1, hiAg n p l, v3, ag + 1, by omega, by omega, by rw [HLN.out]; omega, by omega, by omega, by go_num, by rw [HLN.out], hQ6, HS2.out, HN2.out, (hMS6.mono (Nat.le_succ k)).ext (fun y _ => HFB.out y), hMI6.ext (fun y _ => HFA.out y), hb6⟩
            case measure => simp [intOf]; omega
          · have HA : Hid (Calls Try.prog 31 #[.pointer (some ⟨gh, 0, none⟩), .int .i64 n, .int .i64 p] w2 fun e w' => e = .returned (.tuple #[.agg #[.int .i64 0, .int .i64 0, .int .i64 0, .string (⟨#[]⟩ : ByteArray)], .bool false]) ∧ (∃ v', HIn w' gh gh 100 T v' l ag) ∧ Below gh w2 w' ∧ KeptH w2 w') := Lib.hid (by
              have h := hiAgain_any hQ2 HNN.out n p ⟨hag0, by omega⟩
              have e : hiTo (hiT T) n p l = none := by unfold hiTo; rw [hf, HTT.out]; simp [ht]
              unfold hiAgL hiAgN at h
              rw [e] at h
              exact h)
            have HFS : Hid (fS l n = some r.d) := Lib.hid (by unfold fS; rw [hf]; rfl)
            have HFI : Hid ((fI l n).getD 0 = r.t) := Lib.hid (by rw [fI_get, hf]; rfl)
            clear hf
            go_wp2_with fail
            refine HA.out.mono ?_
            rintro e w3 ⟨rfl, ⟨v3, hQ3⟩, hk3, hK3⟩
            have hX3 := hX.keptH hK3 (by decide) (by decide)
            have hMS3 : MapS w3 bs k (fS l) := by
              obtain ⟨es, c, h⟩ := hMS2.isMap
              exact hMS2.same (hK3.block bs _ h (by rintro ⟨_, _, _, e, _⟩; cases e))
            have hMI3 : MapI w3 bi k (fI l) := by
              obtain ⟨es, c, h⟩ := hMI2.isMap
              exact hMI2.same (hK3.block bi _ h (by rintro ⟨_, _, _, e, _⟩; cases e))
            have hb3 := hb2.trans (hk3.mono hgB)
            clear HA hX hMS2 hMI2 hb2 hk3 hK3 hQ2
            have hR := at4_new 64 w3 w3.heap.size (.int .i64 0) (.int .i64 0) (.int .i64 0) (.string (⟨#[]⟩ : ByteArray)) rfl
            have hal : Below w3.heap.size w3 (w3.alloc (.cells #[.int .i64 0, .int .i64 0, .int .i64 0, .string (⟨#[]⟩ : ByteArray)] 64)) := (Below.refl _ _).alloc (Nat.le_refl _) _
            have hQ4 := hQ3.later hal
            have hX4 := hX3.later hal
            have hMS4 := hMS3.same (hal.block bs (by obtain ⟨es, c, h⟩ := hMS3.isMap; exact lt_of_obj h))
            have hMI4 := hMI3.same (hal.block bi (by obtain ⟨es, c, h⟩ := hMI3.isMap; exact lt_of_obj h))
            have hb4 := hb3.trans (hal.mono hb3.size)
            go_upto_region 21 with fail
            generalize (w3.alloc (.cells #[.int .i64 0, .int .i64 0, .int .i64 0, .string (⟨#[]⟩ : ByteArray)] 64)) = w4 at hR hQ4 hX4 hMS4 hMI4 hb4 ⊢
            generalize w3.heap.size = gr at hR ⊢
            clear hal hQ3 hX3 hMS3 hMI3 hb3
            obtain ⟨_, _, _, _⟩ := hR.cells
            obtain ⟨_, _, _, _⟩ := hX4.cells
            have q1 := hMS4.okEq (x := n) (wf_small _ (by omega) (by omega))
            have q2 := hMS4.eq (x := n) (wf_small _ (by omega) (by omega))
            have q3 := hMI4.eq (x := n) (wf_small _ (by omega) (by omega))
            rw [HFS.out] at q1 q2
            rw [HFI.out] at q3
            simp only [Option.getD, Option.isSome] at q1 q2
            have hdt : decide (r.t < T) = false := decide_eq_false (by omega)
            go_wp2_with fail
            go_roundw
            case rel => exact ⟨k + 1, l, v3, ag, by omega, by omega, by omega, hag0, by omega, by go_num, rfl, hQ4, HSEQ.out, HNN.out, hMS4.mono (Nat.le_succ k), hMI4.mono (Nat.le_succ k), hb4⟩
            case measure => simp [intOf]; omega
    · by_cases hk1 : k < len1
      · have hk2 : k = 60 := by omega
        subst hk2
        go_wp2_with fail
        go_ret
        exact ⟨rfl, hb⟩
      · have hk2 : k = len1 := by omega
        subst hk2
        go_wp2_with fail
        go_ret
        exact ⟨rfl, hb⟩
end historyTries
end Go.Proofs.Ytaekefedmobfoaa
