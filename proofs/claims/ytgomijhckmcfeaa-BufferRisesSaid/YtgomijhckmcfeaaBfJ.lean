/- buffer: Play. -/
import Derived.Test.YtgomijhckmcfeaaBfI
import Derived.Test.YtgomijhckmcfeaaSpX
namespace Go.Proofs.Ytgomijhckmcfeaa
open Go.RowKit
set_option linter.unusedVariables false
set_option linter.unusedSimpArgs false
/-- A frame's bytes. -/
def bfD (x : BF) : ByteArray := ⟨(spBy x.P x.P.length).toArray⟩
def bfFs (l : List BF) : List Value := l.flatMap (fun x => [.int .u32 x.t, .string (bfD x)])
theorem bfFs_snoc (l : List BF) (x : BF) : bfFs (l ++ [x]) = bfFs l ++ [.int .u32 x.t, .string (bfD x)] := by simp [bfFs]
/-- Is it played; is it dropped? -/
def bfPq (T delay : Int) (x : BF) : Bool := decide (spH x.P = spK x.c) && decide (delay ≤ T - x.f)
def bfDq (T delay most : Int) (x : BF) : Bool := !bfPq T delay x && decide (most ≤ T - x.f)
theorem infoFr : (Try.prog.info? 38).map (fun i => (i.zero, i.size, i.bytes)) = some (some (.agg #[.int .u32 0, .string ByteArray.empty]), 2, 24) := by kernel_rfl
/-- A row of another type keeps a row, as it grows. -/
theorem OwnE.grownO {W W' : World} {b : Nat} {e e' : TypeId} {size : Nat} {v : Value} {n : Nat} {xs : List Value} {row : Option Nat} (h : OwnE W b e size v n xs) (hg : W.grownBy W' row) (hr : ∀ k, row = some k → ∃ cs, W.heap[k]? = some (.cells cs e' (0, 0))) (he : e' ≠ e) : OwnE W' b e size v n xs :=
  h.keep hg.size (fun k cs hk hc => hg.block k (lt_of_block hc) (fun e2 => by
    obtain ⟨cs', hc'⟩ := hr k e2.symm
    exact blk_ne hc' hc he rfl))
theorem filter_snoc {l : List BF} {k : Nat} {x : BF} (h : l[k]? = some x) (p : BF → Bool) : (l.take (k + 1)).filter p = (l.take k).filter p ++ (if p x then [x] else []) := by
  rw [bf_take h, List.filter_append]
  congr 1
  simp only [List.filter]
  cases p x <;> rfl
/-- How Play ends. -/
structure PlayEnd (T delay most : Int) (l : List BF) (k : Nat) : Prop where
  le : k ≤ l.length
  all : ∀ j x, j < k → l[j]? = some x → bfPq T delay x = true ∨ bfDq T delay most x = true
  stop : ∀ x, l[k]? = some x → bfPq T delay x = false ∧ bfDq T delay most x = false
/-- What Play answers, and leaves. -/
def PlayOut (w : World) (base gb : Nat) (s : BS) (v : Value) (l : List BF) (T delay most : Int) (e : Ending) (w' : World) : Prop :=
  ∃ (k : Nat) (pv dv v' : Value), PlayEnd (T) delay most l k ∧ e = .returned (.tuple #[pv, dv]) ∧
      OwnE w' w.heap.size 38 2 pv ((l.take k).filter (bfPq (T) delay)).length (bfFs ((l.take k).filter (bfPq (T) delay))) ∧ OwnE w' w.heap.size 30 1 dv ((l.take k).filter (bfDq (T) delay most)).length (bfTs ((l.take k).filter (bfDq (T) delay most))) ∧
      BIn w' base gb { s with least := bfLst s.least (l.take k), pl := s.pl + ((l.take k).filter (bfPq (T) delay)).length, dr := s.dr + ((l.take k).filter (bfDq (T) delay most)).length } v' (l.drop k) ∧ BKeep gb v l w w' v' (l.drop k) ∧ Below base w w'
set_option maxRecDepth 100000 in
set_option maxHeartbeats 12800000 in
theorem bfPlay_any {w : World} {base gb : Nat} {s : BS} {v : Value} {l : List BF} (h : BIn w base gb s v l) (now delay most : Int) (hln : l.length ≤ 100000) (hp : bfParts l ≤ 1099511627776) (hby : bfBytes l ≤ 1099511627776) (hff : ∀ x ∈ l, 0 ≤ x.f ∧ x.f ≤ 1099511627776) (e0 : 0 ≤ s.pl ∧ s.pl ≤ 549755813888) (e1 : 0 ≤ s.dr ∧ s.dr ≤ 549755813888) :
    Calls Try.prog 9 #[.pointer (some ⟨gb, 0, none⟩), .int .i64 now, .int .i64 delay, .int .i64 most] w (PlayOut w base gb s v l (am 0 now 1099511627776) delay most) := by
  have HT := Lib.hid (fun W => bfTick_q now W)
  have T0 := am_lo 0 now 1099511627776 (by omega)
  have T1 := am_hi 0 now 1099511627776
  generalize am 0 now 1099511627776 = T at *
  obtain ⟨p, hpd⟩ : ∃ p, p = bfPq T delay := ⟨_, rfl⟩
  obtain ⟨q, hqd⟩ : ∃ q, q = bfDq T delay most := ⟨_, rfl⟩
  have HPD := Lib.hid hpd
  have HQD := Lib.hid hqd
  clear hpd hqd
  obtain ⟨j0, hj, hy0, hy1, hy2⟩ := info_parts infoU32
  obtain ⟨i0, hi, hz0, hz1, hz2⟩ := info_parts infoFr
  have hbs := h.bs
  have hgw : gb < w.heap.size := AtS.lt h.at10
  have HFF := Lib.hid hff
  have HE0 := Lib.hid e0
  have HE1 := Lib.hid e1
  clear hff e0 e1
  go_enter Try.func9, Try.ntmps9
  go_wp2_with fail
  go_loopw [10, 11] (fun tp td wr => ∃ (k : Nat) (v' : Value) (pa da : Option Addr) (pc dc np nd : Nat), tp = .slice pa np pc ∧ td = .slice da nd dc ∧ np = ((l.take k).filter p).length ∧ nd = ((l.take k).filter q).length ∧ np + nd = k ∧ k ≤ l.length ∧ Hid (∀ j x, j < k → l[j]? = some x → p x = true ∨ q x = true) ∧ OwnE wr w.heap.size 38 2 (.slice pa np pc) np (bfFs ((l.take k).filter p)) ∧ OwnE wr w.heap.size 30 1 (.slice da nd dc) nd (bfTs ((l.take k).filter q)) ∧ BIn wr base gb { s with least := bfLst s.least (l.take k), pl := s.pl + np, dr := s.dr + nd } v' (l.drop k) ∧ BKeep gb v l w wr v' (l.drop k) ∧ Below base w wr ∧ w.heap.size ≤ wr.heap.size) (fun tp td _ => l.length - ((match tp with | .slice _ n _ => n | _ => 0) + (match td with | .slice _ n _ => n | _ => 0)))
  case atStart => exact ⟨0, v, none, none, 0, 0, 0, 0, rfl, rfl, rfl, rfl, rfl, Nat.zero_le _, Lib.hid (fun j x hj => by omega), ownE_nil _ _ _ _, ownE_nil _ _ _ _, by simpa [bfLst_nil] using h, by simpa using BKeep.refl gb v l w, Below.refl _ _, Nat.le_refl _⟩
  case round =>
    obtain ⟨k, v', pa, da, pc, dc, np, nd, rfl, rfl, hnp, hnd, hsum, hk, hall, hP, hD, hI, hK, hB, hsz⟩ := hrel
    clear h
    have HNP := Lib.hid hnp
    have HND := Lib.hid hnd
    clear hnp hnd
    obtain ⟨r, hr⟩ : ∃ r, l.drop k = r := ⟨_, rfl⟩
    have HR := Lib.hid hr
    rw [hr] at hI hK
    clear hr
    obtain ⟨va, vc, rfl⟩ := hI.own.formG
    obtain ⟨_, _, _, _, _, _, _, _, _, _⟩ := AtS.cells10 hI.at10
    cases r with
    | nil =>
      go_wp2_with fail
      refine bodyPost_ret (v := .tuple #[.slice pa np pc, .slice da nd dc]) (by simp [results, Try.results9, go_sem]) rfl ?_
      refine ⟨k, _, _, _, ⟨hk, fun j y hj hy => by rw [← HPD.out, ← HQD.out]; exact hall.out j y hj hy, fun y hy => by
        have h1 := (List.getElem?_eq_some_iff.1 hy).1
        have h2 := congrArg List.length HR.out
        rw [List.length_drop] at h2
        simp at h2
        omega⟩, rfl, ?_, ?_, ?_, by rw [HR.out]; exact hK, hB⟩
      · rw [← HPD.out, ← HNP.out]; exact hP
      · rw [← HQD.out, ← HND.out]; exact hD
      · rw [← HPD.out, ← HQD.out, ← HNP.out, ← HND.out, HR.out]; exact hI
    | cons x r' =>
      have hkl : k < l.length := by
        rcases Nat.lt_or_ge k l.length with h | h
        · exact h
        · have := HR.out
          rw [List.drop_eq_nil_of_le h] at this
          cases this
      have hx : l[k]? = some x := by
        rw [List.getElem?_eq_getElem hkl]
        have := HR.out
        rw [List.drop_eq_getElem_cons hkl] at this
        exact congrArg some (List.cons.inj this).1
      have hr' : l.drop (k + 1) = r' := by
        have := HR.out
        rw [bf_drop hx] at this
        exact (List.cons.inj this).2
      have HX := Lib.hid hx
      have HR' := Lib.hid hr'
      obtain ⟨f0, f1⟩ := HFF.out x (List.mem_of_getElem? hx)
      have hage : IntKind.i64.wrap (T - x.f) = T - x.f := by rw [IntKind.wrap_i64]; omega
      have hbp : bfParts (x :: r') ≤ 1099511627776 := by rw [← HR.out]; exact Nat.le_trans (bfParts_drop l k) hp
      have hbb : bfBytes (x :: r') ≤ 1099511627776 := by rw [← HR.out]; exact Nat.le_trans (bfBytes_drop l k) hby
      have HBP := Lib.hid hbp
      have HBB := Lib.hid hbb
      clear hx hr' hbp hbb f0 f1
      obtain ⟨ga, off, c, hv', hlc, hcm, hcell, _⟩ := bfV_at hI.own 0 x rfl
      cases hv'
      rw [Nat.add_zero] at hcell
      have hlc' : 0 < (x :: r').length := by simp
      have hpos : (0 : Int) < ((x :: r').length : Int) := by omega
      generalize (x :: r').length = nr at *
      have HFX := Lib.hid (hI.fr.fr x List.mem_cons_self)
      have HFI := Lib.hid (spFirst_q HFX.out)
      have HWH := Lib.hid (spWhole_q HFX.out)
      have HI := Lib.hid hI
      go_upto_region 7 with (first | (go_at_call 23; refine (HT.out _).mono ?_; rintro e w' ⟨rfl, hq⟩; have hq2 := hq.symm; subst hq2) | (go_at_call 24; refine HFI.out.mono ?_; rintro e w' ⟨rfl, hq⟩; have hq2 := hq.symm; subst hq2))
      go_cut [35] (fun z wx => z = .bool (p x) ∧ wx = wr)
      case first =>
        have hpx : Hid (p x = (decide (spH x.P = spK x.c) && decide (delay ≤ T - x.f))) := Lib.hid (by rw [HPD.out]; rfl)
        by_cases hw : spH x.P = spK x.c
        · have hwd : decide (spH x.P = spK x.c) = true := decide_eq_true hw
          rw [hwd] at HWH
          go_wp2_with (first | (go_at_call 25; refine HWH.out.mono ?_; rintro e w' ⟨rfl, hq⟩; have hq2 := hq.symm; subst hq2))
          go_meet
          exact ⟨by rw [hpx.out, hwd]; rfl, rfl⟩
        · have hwd : decide (spH x.P = spK x.c) = false := decide_eq_false hw
          rw [hwd] at HWH
          go_wp2_with (first | (go_at_call 25; refine HWH.out.mono ?_; rintro e w' ⟨rfl, hq⟩; have hq2 := hq.symm; subst hq2))
          go_meet
          exact ⟨by rw [hpx.out, hwd]; rfl, rfl⟩
      case rest =>
      obtain ⟨rfl, rfl⟩ := hcut
      rename World => wr
      have hqe : q x = (!p x && decide (most ≤ T - x.f)) := by rw [HQD.out, HPD.out]; rfl
      have hpe : p x = (decide (spH x.P = spK x.c) && decide (delay ≤ T - x.f)) := by rw [HPD.out]; rfl
      have hnpl : np ≤ 100000 := by omega
      have hndl : nd ≤ 100000 := by omega
      obtain ⟨pb, hpb⟩ : ∃ z, p x = z := ⟨_, rfl⟩
      rw [hpb]
      cases pb with
      | true =>
        have HPX := Lib.hid hpb
        have HQX : Hid (q x = false) := Lib.hid (by rw [hqe, hpb]; rfl)
        have hw : spH x.P = spK x.c := by
          rw [hpb] at hpe
          have := hpe.symm
          rw [Bool.and_eq_true] at this
          exact of_decide_eq_true this.1
        have HDA := Lib.hid (spDataYes HFX.out hw (by have := HBB.out; rw [bfBytes_cons] at this; omega))
        clear hpb hqe hpe hw
        go_wp2_with fail
        refine HDA.out.mono ?_
        rintro e w5 ⟨rfl, hk5⟩
        have hI5 := hI.later hk5
        have hP5 := hP.later hk5
        have hD5 := hD.later hk5
        have hK5 := hK.trans (bKeep_below hk5)
        have hB5 : Below base w w5 := hB.trans (hk5.mono (by omega))
        have hsz5 : w.heap.size ≤ w5.heap.size := Nat.le_trans hsz hk5.size
        have HFX5 := Lib.hid (HFX.out.later hk5)
        clear hI hP hD hK hB hsz HDA hk5
        have hal := (Below.refl w5.heap.size w5).alloc (Nat.le_refl _) (.cells #[.int .u32 x.t, .string (bfD x)] 38)
        have hwp : IntKind.i64.wrap (s.pl + (np : Int) + 1) = s.pl + (np : Int) + 1 := by have := HE0.out; have := HE1.out; rw [IntKind.wrap_i64]; omega
        go_wp2_with (first | (go_at_call 27; refine (spTime_q HFX5.out).mono ?_; rintro e w' ⟨rfl, hq⟩; have hq2 := hq.symm; subst hq2) | (at_builtin; refine append_recG (W := w5) rfl (.tmp 48) (.tmp 53) 33 rfl 38 i0 (.agg #[.int .u32 0, .string ByteArray.empty]) 2 24 Try.underlying33 hi hz0 hz1 hz2 rfl (by decide) w.heap.size (.slice pa np pc) np _ rfl hP5 #[.int .u32 x.t, .string (bfD x)] rfl rfl ?d0 ?d1 ?d2 hsz5 w.heap.size (Nat.le_refl _) (Below.refl _ _) ?_))
        case d0 => first | rfl | exact ⟨rfl, rfl⟩ | decide
        case d1 => unfold maxLen; omega
        case d2 => omega
        intro tv6 w6 hR6 hb6 hg6 _
        have hI6 := (hI5.later hal).grown hg6 (fun i hi => by
          obtain ⟨cs, hcs⟩ := (hP5.alloc (.cells #[.int .u32 x.t, .string (bfD x)] 38)).2 i hi
          exact ⟨cs, _, hcs, by decide, by decide, by decide⟩)
        have hO6 := (hD5.alloc (.cells #[.int .u32 x.t, .string (bfD x)] 38)).grownO hg6 (fun i hi => (hP5.alloc (.cells #[.int .u32 x.t, .string (bfD x)] 38)).2 i hi) (by decide)
        have hK6 : BKeep gb v l w w6 _ (x :: r') := ⟨Nat.le_trans hsz5 hb6.size, fun i hi hf => (hb6.block i hi).trans (hK5.block i hi hf), hK5.foot⟩
        have hB6 : Below base w w6 := hB5.trans (hb6.mono (by omega))
        have hsz6 : w.heap.size ≤ w6.heap.size := Nat.le_trans hsz5 hb6.size
        clear hb6 hg6 hal hK5 hB5 hI5 hP5 hD5 hsz5 hcell
        obtain ⟨_, _, _, _, _, _, _, _, _, _⟩ := AtS.cells10 hI6.at10
        have hf6 : ∀ i, w6.frozen? ⟨gb, i, none⟩ = false := fun i => AtS.free hI6.at10 i
        go_upto_region 14 with fail
        have ho8 := (Only.refl gb w6).setCell 6 (.int .i64 (s.pl + (np : Int) + 1))
        have hI8 : BIn (w6.setCell ⟨gb, 6, none⟩ (.int .i64 (s.pl + (np : Int) + 1))) base gb { s with least := bfLst s.least (l.take k), pl := s.pl + (np : Int) + 1, dr := s.dr + (nd : Int) } _ (x :: r') := hI6.cells ho8 (at10_set6 hI6.at10 _) hI6.up
        have hK8 := hK6.trans (bKeep_only ho8 (fun _ h => h) : BKeep gb _ _ _ _ _ (x :: r'))
        have hB8 := hB6.trans (ho8.below hbs)
        have hR8 := hR6.other hI6.at10 ho8 (by decide)
        have hO8 := hO6.other hI6.at10 ho8 (by decide)
        have hsz8 : w.heap.size ≤ (w6.setCell ⟨gb, 6, none⟩ (.int .i64 (s.pl + (np : Int) + 1))).heap.size := by rw [ho8.size]; exact hsz6
        generalize w6.setCell ⟨gb, 6, none⟩ (.int .i64 (s.pl + (np : Int) + 1)) = w8 at hI8 hK8 hB8 hR8 hO8 hsz8 ⊢
        clear hI6 hK6 hB6 hR6 hO6 hsz6 hf6 ho8
        have HL := Lib.hid (bfLeave_any hI8 HBP.out HBB.out)
        go_wp2_with fail
        refine HL.out.mono ?_
        rintro e w9 ⟨rfl, ⟨v9, hI9, hK9⟩, hB9⟩
        have hR9 := hK9.row hI8 hR8 (by decide) (by decide) (by decide)
        have hO9 := hK9.row hI8 hO8 (by decide) (by decide) (by decide)
        have hsz9 := hK9.size
        have hK10 := hK8.trans hK9
        have hB10 := hB8.trans hB9
        obtain ⟨ra9, rc9, rfl⟩ := hR9.formG
        clear hI8 hK8 hB8 hR8 hO8 HL
        have HFP := filter_snoc HX.out p
        have HFQ := filter_snoc HX.out q
        rw [HPX.out] at HFP
        rw [HQX.out] at HFQ
        have HFP2 := Lib.hid HFP
        have HFQ2 := Lib.hid HFQ
        clear HFP HFQ
        go_wp2_with fail
        go_roundw
        case rel => exact ⟨k + 1, v9, ra9, da, rc9, dc, np + 1, nd, rfl, rfl, by rw [HFP2.out, HNP.out]; simp, by rw [HFQ2.out, HND.out]; simp, by omega, hkl, Lib.hid (fun j y hj hy => by
          rcases Nat.lt_or_ge j k with h | h
          · exact hall.out j y h hy
          · obtain rfl : j = k := by omega
            rw [HX.out] at hy
            cases hy
            exact .inl HPX.out), by rw [HFP2.out]; simpa [bfFs_snoc] using hR9, by rw [HFQ2.out]; simpa using hO9, by rw [HR'.out, bf_take HX.out, bfLst_snoc]; simpa [Int.add_assoc] using hI9, by rw [HR'.out]; exact hK10, hB10, by omega⟩
        case measure => simp; omega
      | false =>
        have HPX := Lib.hid hpb
        rw [hpb] at hqe
        have hqe2 : q x = decide (most ≤ T - x.f) := by rw [hqe]; rfl
        clear hpb hqe hpe
        by_cases hm : most ≤ T - x.f
        · have hmd : decide (most ≤ T - x.f) = true := decide_eq_true hm
          have HQX : Hid (q x = true) := Lib.hid (by rw [hqe2, hmd])
          have HFX5 := HFX
          have hI5 := hI
          have hP5 := hP
          have hD5 := hD
          have hK5 := hK
          have hB5 := hB
          have hsz5 := hsz
          clear hI hP hD hK hB hsz hqe2
          have hal := (Below.refl wr.heap.size wr).alloc (Nat.le_refl _) (.cells #[.int .u32 x.t] 30)
          have hwp : IntKind.i64.wrap (s.dr + (nd : Int) + 1) = s.dr + (nd : Int) + 1 := by have := HE0.out; have := HE1.out; rw [IntKind.wrap_i64]; omega
          go_wp2_with (first | (go_at_call 27; refine (spTime_q HFX5.out).mono ?_; rintro e w' ⟨rfl, hq⟩; have hq2 := hq.symm; subst hq2) | (at_builtin; refine append_recG (W := wr) rfl (.tmp 68) (.tmp 71) 34 rfl 30 j0 (.int .u32 0) 1 4 Try.underlying34 hj hy0 hy1 hy2 rfl (by decide) w.heap.size (.slice da nd dc) nd _ rfl hD5 #[.int .u32 x.t] rfl rfl ?d0 ?d1 ?d2 hsz5 w.heap.size (Nat.le_refl _) (Below.refl _ _) ?_))
          case d0 => first | rfl | exact ⟨rfl, rfl⟩ | decide
          case d1 => unfold maxLen; omega
          case d2 => omega
          intro tv6 w6 hR6 hb6 hg6 _
          have hI6 := (hI5.later hal).grown hg6 (fun i hi => by
            obtain ⟨cs, hcs⟩ := (hD5.alloc (.cells #[.int .u32 x.t] 30)).2 i hi
            exact ⟨cs, _, hcs, by decide, by decide, by decide⟩)
          have hO6 := (hP5.alloc (.cells #[.int .u32 x.t] 30)).grownO hg6 (fun i hi => (hD5.alloc (.cells #[.int .u32 x.t] 30)).2 i hi) (by decide)
          have hK6 : BKeep gb v l w w6 _ (x :: r') := ⟨Nat.le_trans hsz5 hb6.size, fun i hi hf => (hb6.block i hi).trans (hK5.block i hi hf), hK5.foot⟩
          have hB6 : Below base w w6 := hB5.trans (hb6.mono (by omega))
          have hsz6 : w.heap.size ≤ w6.heap.size := Nat.le_trans hsz5 hb6.size
          clear hb6 hg6 hal hK5 hB5 hI5 hP5 hD5 hsz5 hcell
          obtain ⟨_, _, _, _, _, _, _, _, _, _⟩ := AtS.cells10 hI6.at10
          have hf6 : ∀ i, w6.frozen? ⟨gb, i, none⟩ = false := fun i => AtS.free hI6.at10 i
          go_upto_region 14 with fail
          have ho8 := (Only.refl gb w6).setCell 7 (.int .i64 (s.dr + (nd : Int) + 1))
          have hI8 : BIn (w6.setCell ⟨gb, 7, none⟩ (.int .i64 (s.dr + (nd : Int) + 1))) base gb { s with least := bfLst s.least (l.take k), pl := s.pl + (np : Int), dr := s.dr + (nd : Int) + 1 } _ (x :: r') := hI6.cells ho8 (at10_set7 hI6.at10 _) hI6.up
          have hK8 := hK6.trans (bKeep_only ho8 (fun _ h => h) : BKeep gb _ _ _ _ _ (x :: r'))
          have hB8 := hB6.trans (ho8.below hbs)
          have hR8 := hR6.other hI6.at10 ho8 (by decide)
          have hO8 := hO6.other hI6.at10 ho8 (by decide)
          have hsz8 : w.heap.size ≤ (w6.setCell ⟨gb, 7, none⟩ (.int .i64 (s.dr + (nd : Int) + 1))).heap.size := by rw [ho8.size]; exact hsz6
          generalize w6.setCell ⟨gb, 7, none⟩ (.int .i64 (s.dr + (nd : Int) + 1)) = w8 at hI8 hK8 hB8 hR8 hO8 hsz8 ⊢
          clear hI6 hK6 hB6 hR6 hO6 hsz6 hf6 ho8
          have HL := Lib.hid (bfLeave_any hI8 HBP.out HBB.out)
          go_wp2_with fail
          refine HL.out.mono ?_
          rintro e w9 ⟨rfl, ⟨v9, hI9, hK9⟩, hB9⟩
          have hR9 := hK9.row hI8 hR8 (by decide) (by decide) (by decide)
          have hO9 := hK9.row hI8 hO8 (by decide) (by decide) (by decide)
          have hsz9 := hK9.size
          have hK10 := hK8.trans hK9
          have hB10 := hB8.trans hB9
          obtain ⟨ra9, rc9, rfl⟩ := hR9.formG
          clear hI8 hK8 hB8 hR8 hO8 HL
          have HFP := filter_snoc HX.out p
          have HFQ := filter_snoc HX.out q
          rw [HPX.out] at HFP
          rw [HQX.out] at HFQ
          have HFP2 := Lib.hid HFP
          have HFQ2 := Lib.hid HFQ
          clear HFP HFQ
          go_wp2_with fail
          go_roundw
          case rel => exact ⟨k + 1, v9, pa, ra9, pc, rc9, np, nd + 1, rfl, rfl, by rw [HFP2.out, HNP.out]; simp, by rw [HFQ2.out, HND.out]; simp, by omega, hkl, Lib.hid (fun j y hj hy => by
            rcases Nat.lt_or_ge j k with h | h
            · exact hall.out j y h hy
            · obtain rfl : j = k := by omega
              rw [HX.out] at hy
              cases hy
              exact .inr HQX.out), by rw [HFP2.out]; simpa using hO9, by rw [HFQ2.out]; simpa [bfTs_snoc] using hR9, by rw [HR'.out, bf_take HX.out, bfLst_snoc]; simpa [Int.add_assoc] using hI9, by rw [HR'.out]; exact hK10, hB10, by omega⟩
          case measure => simp; omega
        · have hmd : decide (most ≤ T - x.f) = false := decide_eq_false hm
          have HQX : Hid (q x = false) := Lib.hid (by rw [hqe2, hmd])
          go_wp2_with fail
          refine bodyPost_ret (v := .tuple #[.slice pa np pc, .slice da nd dc]) (by simp [results, Try.results9, go_sem]) rfl ?_
          refine ⟨k, _, _, _, ⟨hk, fun j y hj hy => by rw [← HPD.out, ← HQD.out]; exact hall.out j y hj hy, fun y hy => by rw [HX.out] at hy; cases hy; rw [← HPD.out, ← HQD.out]; exact ⟨HPX.out, HQX.out⟩⟩, rfl, ?_, ?_, ?_, by rw [HR.out]; exact hK, hB⟩
          · rw [← HPD.out, ← HNP.out]; exact hP
          · rw [← HQD.out, ← HND.out]; exact hD
          · rw [← HPD.out, ← HQD.out, ← HNP.out, ← HND.out, HR.out]; exact hI
end Go.Proofs.Ytgomijhckmcfeaa
