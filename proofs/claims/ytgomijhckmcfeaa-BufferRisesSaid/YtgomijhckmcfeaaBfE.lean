/- buffer: what keeps a Buffer, and what a Buffer's calls keep; evict. -/
import Derived.Test.YtgomijhckmcfeaaBfD
namespace Go.Proofs.Ytgomijhckmcfeaa
open Go.RowKit
set_option linter.unusedVariables false
set_option linter.unusedSimpArgs false
section
variable {W W' : World} {base gb : Nat} {s : BS} {v : Value} {l : List BF}
theorem BIn.foot_of (h : BIn W base gb s v l) {k : Nat} (hf : Foot gb v l k) : (∃ cs T, W.heap[k]? = some (.cells cs T (0, 0)) ∧ (T = 51 ∨ T = 66 ∨ T = 95)) ∨ ∃ es cl, W.heap[k]? = some (.map es cl) := by
  rcases hf with rfl | e | ⟨x, hx, e | e⟩
  · exact .inl ⟨_, _, h.at10, .inl rfl⟩
  · obtain ⟨cs, hcs⟩ := h.own.2 _ e
    exact .inl ⟨_, _, hcs, .inr (.inl rfl)⟩
  · subst e
    exact .inl ⟨_, _, (h.fr.fr x hx).at5, .inr (.inr rfl)⟩
  · exact .inr ((h.fr.fr x hx).isMap _ e)
theorem BIn.foot_lt (h : BIn W base gb s v l) {k : Nat} (hf : Foot gb v l k) : k < W.heap.size := by
  rcases h.foot_of hf with ⟨_, _, h, _⟩ | ⟨_, _, h⟩ <;> exact lt_of_block h
theorem BIn.keep (h : BIn W base gb s v l) (hs : W.heap.size ≤ W'.heap.size) (hb : ∀ k, Foot gb v l k → W'.heap[k]? = W.heap[k]?) : BIn W' base gb s v l :=
  ⟨h.bs, by have := h.at10; unfold BS.at AtS at this ⊢; rw [hb gb (.inl rfl)]; exact this, h.own.keep hs (fun k cs hk _ => hb k (.inr (.inl hk))), h.fr.same (fun x hx => ⟨hb _ (.inr (.inr ⟨x, hx, .inl rfl⟩)), fun b e => hb b (.inr (.inr ⟨x, hx, .inr e⟩))⟩), h.up⟩
theorem BIn.heap (h : BIn W base gb s v l) (hh : W'.heap = W.heap) : BIn W' base gb s v l := h.keep (by rw [hh]; exact Nat.le_refl _) (fun k _ => by rw [hh])
/-- A row of another type that grows keeps the Buffer. -/
theorem BIn.grown (h : BIn W base gb s v l) {row : Option Nat} (hg : W.grownBy W' row) (hr : ∀ k, row = some k → ∃ cs T, W.heap[k]? = some (.cells cs T (0, 0)) ∧ T ≠ 51 ∧ T ≠ 66 ∧ T ≠ 95) : BIn W' base gb s v l :=
  h.keep hg.size (fun k hf => hg.block k (h.foot_lt hf) (fun e => by
    obtain ⟨cs, T, hc, h1, h2, h3⟩ := hr k e.symm
    rcases h.foot_of hf with ⟨cs', T', hc', hT⟩ | ⟨es, cl, hm⟩
    · rw [hc] at hc'
      simp only [Option.some.injEq, Obj.cells.injEq] at hc'
      rw [← hc'.2.1] at hT
      rcases hT with e | e | e
      · exact h1 e
      · exact h2 e
      · exact h3 e
    · rw [hc] at hm
      cases hm))
end
/-- A block of another type stays. -/
theorem BKeep.blk {gb : Nat} {v v' : Value} {l l' : List BF} {w w' : World} {base : Nat} {s : BS} (k : BKeep gb v l w w' v' l') (h : BIn w base gb s v l) {b : Nat} {cs : Array Value} {T : TypeId} (hc : w.heap[b]? = some (.cells cs T (0, 0))) (h1 : T ≠ 51) (h2 : T ≠ 66) (h3 : T ≠ 95) : w'.heap[b]? = w.heap[b]? :=
  k.block b (lt_of_block hc) (fun hf => by
    rcases h.foot_of hf with ⟨cs', T', hc', hT⟩ | ⟨es, cl, hm⟩
    · rw [hc] at hc'
      simp only [Option.some.injEq, Obj.cells.injEq] at hc'
      rw [← hc'.2.1] at hT
      rcases hT with e | e | e
      · exact h1 e
      · exact h2 e
      · exact h3 e
    · rw [hc] at hm
      cases hm)
theorem BKeep.row {gb : Nat} {v v' : Value} {l l' : List BF} {w w' : World} {base : Nat} {s : BS} (k : BKeep gb v l w w' v' l') (h : BIn w base gb s v l) {b : Nat} {e : TypeId} {size : Nat} {u : Value} {n : Nat} {xs : List Value} (ho : OwnE w b e size u n xs) (h1 : e ≠ 51) (h2 : e ≠ 66) (h3 : e ≠ 95) : OwnE w' b e size u n xs :=
  ho.keep k.size (fun i cs _ hc => k.blk h hc h1 h2 h3)
/-- Does more wait than may? -/
def bfOv (F Pk B : Int) (l : List BF) : Bool := decide (F < (l.length : Int)) || decide (Pk < (bfParts l : Int)) || decide (B < (bfBytes l : Int))
/-- The least time that isn't over, behind these. -/
def bfLst (d : Int) (l : List BF) : Int := match l.getLast? with
  | some x => x.t + 1
  | none => d
theorem bfLst_snoc (d : Int) (l : List BF) (x : BF) : bfLst d (l ++ [x]) = x.t + 1 := by simp [bfLst]
theorem bfLst_nil (d : Int) : bfLst d [] = d := rfl
def bfTs (l : List BF) : List Value := l.map (fun x => .int .u32 x.t)
theorem bfTs_snoc (l : List BF) (x : BF) : bfTs (l ++ [x]) = bfTs l ++ [.int .u32 x.t] := by simp [bfTs]
theorem bf_drop {l : List BF} {k : Nat} {x : BF} (h : l[k]? = some x) : l.drop k = x :: l.drop (k + 1) := by
  obtain ⟨h1, rfl⟩ := List.getElem?_eq_some_iff.1 h
  exact (List.drop_eq_getElem_cons h1)
theorem bf_take {l : List BF} {k : Nat} {x : BF} (h : l[k]? = some x) : l.take (k + 1) = l.take k ++ [x] := by
  rw [List.take_add_one, h]
  rfl
theorem bfParts_drop (l : List BF) (k : Nat) : bfParts (l.drop k) ≤ bfParts l := by
  conv => rhs; rw [← List.take_append_drop k l, bfParts_app]
  omega
theorem bfBytes_drop (l : List BF) (k : Nat) : bfBytes (l.drop k) ≤ bfBytes l := by
  conv => rhs; rw [← List.take_append_drop k l, bfBytes_app]
  omega
theorem bfOv_nil (F Pk B : Int) (h1 : 1 ≤ F) (h2 : 1 ≤ Pk) (h3 : 1 ≤ B) : bfOv F Pk B [] = false := by
  unfold bfOv bfParts bfBytes
  simp
  omega
theorem infoU32 : (Try.prog.info? 30).map (fun i => (i.zero, i.size, i.bytes)) = some (some (.int .u32 0), 1, 4) := by kernel_rfl
set_option maxRecDepth 100000 in
set_option maxHeartbeats 6400000 in
theorem bfEvict_any {w : World} {base gb : Nat} {s : BS} {v : Value} {l : List BF} (h : BIn w base gb s v l) (hp : bfParts l ≤ 1099511627776) (hby : bfBytes l ≤ 1099511627776) (hln : l.length ≤ 1000000) (e0 : 0 ≤ s.ev) (e1 : s.ev ≤ 1099511627776) :
    Calls Try.prog 32 #[.pointer (some ⟨gb, 0, none⟩)] w fun e w' => ∃ (k : Nat) (tv v' : Value), k ≤ l.length ∧ (∀ j, j < k → bfOv (am 1 s.cf 1024) (am 1 s.cp 65536) (am 1 s.cb 67108864) (l.drop j) = true) ∧ bfOv (am 1 s.cf 1024) (am 1 s.cp 65536) (am 1 s.cb 67108864) (l.drop k) = false ∧
      e = .returned tv ∧ OwnE w' w.heap.size 30 1 tv k (bfTs (l.take k)) ∧ BIn w' base gb { s with least := bfLst s.least (l.take k), ev := s.ev + k } v' (l.drop k) ∧ BKeep gb v l w w' v' (l.drop k) ∧ Below base w w' := by
  have HC := Lib.hid (fun W => bfClip_any s.cf s.cp s.cb W)
  have hF1 : 1 ≤ am 1 s.cf 1024 := am_lo 1 s.cf 1024 (by omega)
  have hP1 : 1 ≤ am 1 s.cp 65536 := am_lo 1 s.cp 65536 (by omega)
  have hB1 : 1 ≤ am 1 s.cb 67108864 := am_lo 1 s.cb 67108864 (by omega)
  generalize am 1 s.cf 1024 = F at *
  generalize am 1 s.cp 65536 = Pk at *
  generalize am 1 s.cb 67108864 = B at *
  have HNIL := Lib.hid (bfOv_nil F Pk B hF1 hP1 hB1)
  clear hF1 hP1 hB1
  obtain ⟨j0, hj, hy0, hy1, hy2⟩ := info_parts infoU32
  have h10 := h.at10
  have hgw : gb < w.heap.size := AtS.lt h10
  have hbs := h.bs
  have HIN0 := Lib.hid h
  obtain ⟨_, _, _, _, _, _, _, _, _, _⟩ := AtS.cells10 h10
  go_enter Try.func32, Try.ntmps32
  go_wp2_with fail
  refine (HC.out _).mono ?_
  rintro e w3 ⟨rfl, hk3⟩
  have hX := at3_new 28 w3 w3.heap.size (.int .i64 F) (.int .i64 Pk) (.int .i64 B) rfl
  have hb4 : Below w.heap.size w (w3.alloc (.cells #[.int .i64 F, .int .i64 Pk, .int .i64 B] 28)) := hk3.alloc hk3.size _
  have hl3 := hk3.size
  go_upto_region 2 with fail
  generalize w3.alloc (.cells #[.int .i64 F, .int .i64 Pk, .int .i64 B] 28) = w4 at hX hb4 ⊢
  generalize w3.heap.size = gc at hX hl3 ⊢
  clear h10 hk3 HC
  have hI4 : BIn w4 base gb s v l := h.later hb4
  have hK4 : BKeep gb v l w w4 v l := bKeep_below hb4
  have hB4 : Below base w w4 := hb4.mono (by omega)
  clear h
  go_wp2_with fail
  go_loopw [4] (fun tv wr => ∃ (k : Nat) (v' : Value) (ta : Option Addr) (tc : Nat), tv = .slice ta k tc ∧ k ≤ l.length ∧ Hid (∀ j, j < k → bfOv F Pk B (l.drop j) = true) ∧ OwnE wr w.heap.size 30 1 (.slice ta k tc) k (bfTs (l.take k)) ∧ BIn wr base gb { s with least := bfLst s.least (l.take k), ev := s.ev + k } v' (l.drop k) ∧ BKeep gb v l w wr v' (l.drop k) ∧ Below base w wr ∧ At3 28 wr gc (.int .i64 F) (.int .i64 Pk) (.int .i64 B) ∧ w.heap.size ≤ wr.heap.size) (fun tv _ => match tv with | .slice _ n _ => l.length - n | _ => 0)
  case atStart => exact ⟨0, v, none, 0, rfl, Nat.zero_le _, Lib.hid (fun j hj => by omega), ownE_nil _ _ _ _, by simpa [bfLst_nil] using hI4, by simpa using hK4, hB4, hX, hb4.size⟩
  case round =>
    obtain ⟨k, v', ta, tc, rfl, hk, hov, hT, hI, hK, hB, hC, hsz⟩ := hrel
    clear hI4 hK4 hB4 hX hb4 HIN0
    obtain ⟨r, hr⟩ : ∃ r, l.drop k = r := ⟨_, rfl⟩
    have HR := Lib.hid hr
    rw [hr] at hI hK
    clear hr
    obtain ⟨_, _, _⟩ := hC.cells
    go_upto_region 3 with fail
    go_cut [28] (fun z wx => z = .bool (bfOv F Pk B r) ∧ wx.heap = wr.heap ∧ Below wr.heap.size wr wx)
    case first =>
      by_cases h1 : F < (r.length : Int)
      · have d1 : decide (F < (r.length : Int)) = true := decide_eq_true h1
        go_quiet (first | (go_at_call 19; exact Calls.quiet_of_same (bfLen_q (hI.heap rfl))) | (go_at_call 20; exact Calls.quiet_of_same (bfPackets_q (hI.heap rfl))) | (go_at_call 21; exact Calls.quiet_of_same (bfBytes_q (hI.heap rfl))))
        go_wp2
        go_meet
        exact ⟨by simp [bfOv, h1], rfl, ⟨rfl, rfl, rfl, Nat.le_refl _, fun _ _ => rfl⟩⟩
      · have d1 : decide (F < (r.length : Int)) = false := decide_eq_false h1
        by_cases h2 : Pk < (bfParts r : Int)
        · have d2 : decide (Pk < (bfParts r : Int)) = true := decide_eq_true h2
          go_quiet (first | (go_at_call 19; exact Calls.quiet_of_same (bfLen_q (hI.heap rfl))) | (go_at_call 20; exact Calls.quiet_of_same (bfPackets_q (hI.heap rfl))) | (go_at_call 21; exact Calls.quiet_of_same (bfBytes_q (hI.heap rfl))))
          go_wp2
          go_meet
          exact ⟨by simp [bfOv, h1, h2], rfl, ⟨rfl, rfl, rfl, Nat.le_refl _, fun _ _ => rfl⟩⟩
        · have d2 : decide (Pk < (bfParts r : Int)) = false := decide_eq_false h2
          obtain ⟨z, hz⟩ : ∃ z, decide (B < (bfBytes r : Int)) = z := ⟨_, rfl⟩
          go_quiet (first | (go_at_call 19; exact Calls.quiet_of_same (bfLen_q (hI.heap rfl))) | (go_at_call 20; exact Calls.quiet_of_same (bfPackets_q (hI.heap rfl))) | (go_at_call 21; exact Calls.quiet_of_same (bfBytes_q (hI.heap rfl))))
          go_wp2
          go_meet
          exact ⟨by unfold bfOv; rw [d1, d2, hz]; rfl, rfl, ⟨rfl, rfl, rfl, Nat.le_refl _, fun _ _ => rfl⟩⟩
    case rest =>
    obtain ⟨rfl, hh, hbx⟩ := hcut
    rename World => w5
    have hI5 : BIn w5 base gb { s with least := bfLst s.least (l.take k), ev := s.ev + k } v' r := hI.heap hh
    have hT5 := hT.later hbx
    have hK5 := hK.trans (bKeep_below hbx)
    have hB5 : Below base w w5 := hB.trans (hbx.mono (by omega))
    have hC5 := hC.later hbx
    have hsz5 : w.heap.size ≤ w5.heap.size := by rw [hh]; exact hsz
    clear hI hT hK hB hC hh hbx hsz
    obtain ⟨ov, hovr⟩ : ∃ z, bfOv F Pk B r = z := ⟨_, rfl⟩
    rw [hovr]
    cases ov with
    | false =>
      go_wp2_with fail
      go_ret
      exact ⟨k, _, v', hk, hov.out, by rw [HR.out]; exact hovr, rfl, hT5, by rw [HR.out]; exact hI5, by rw [HR.out]; exact hK5, hB5⟩
    | true =>
      cases r with
      | nil => rw [HNIL.out] at hovr; cases hovr
      | cons x r' =>
        have hkl : k < l.length := by
          rcases Nat.lt_or_ge k l.length with h | h
          · exact h
          · have := HR.out
            rw [List.drop_eq_nil_of_le h] at this
            cases this
        have hx : l[k]? = some x := by
          rw [List.getElem?_eq_getElem hkl]
          have := HR.out
          rw [List.drop_eq_getElem_cons hkl] at this
          exact congrArg some (List.cons.inj this).1
        have hr' : l.drop (k + 1) = r' := by
          have := HR.out
          rw [bf_drop hx] at this
          exact (List.cons.inj this).2
        have HX := Lib.hid hx
        have HR' := Lib.hid hr'
        have HO := Lib.hid hovr
        have hbp : bfParts (x :: r') ≤ 1099511627776 := by rw [← HR.out]; exact Nat.le_trans (bfParts_drop l k) hp
        have hbb : bfBytes (x :: r') ≤ 1099511627776 := by rw [← HR.out]; exact Nat.le_trans (bfBytes_drop l k) hby
        have HBP := Lib.hid hbp
        have HBB := Lib.hid hbb
        clear hx hr' hovr hbp hbb
        obtain ⟨ga, off, c, hv', hlc, hcm, hcell, _⟩ := bfV_at hI5.own 0 x rfl
        subst hv'
        rw [Nat.add_zero] at hcell
        have hlc' : 0 < (x :: r').length := by simp
        have hpos : (0 : Int) < ((x :: r').length : Int) := by omega
        have HLEN : Hid ((x :: r').length = r'.length + 1) := Lib.hid rfl
        generalize (x :: r').length = nr at hI5 hK5 hcell hlc hlc' hpos HLEN
        have HTM := Lib.hid (fun (W : World) (hh : W.heap = w5.heap) => spTime_q ((hI5.heap hh).fr.fr x List.mem_cons_self))
        have hI6 := Lib.hid hI5
        obtain ⟨_, _, _, _, _, _, _, _, _, _⟩ := AtS.cells10 hI5.at10
        have hev : IntKind.i64.wrap (s.ev + (k : Int) + 1) = s.ev + (k : Int) + 1 := by rw [IntKind.wrap_i64]; omega
        go_wp2_with fail
        refine (HTM.out _ rfl).mono ?_
        rintro e w' ⟨rfl, hq⟩
        subst hq
        go_wp2_with (at_builtin; refine append_recG (W := w') rfl (.tmp 29) (.tmp 37) 34 rfl 30 j0 (.int .u32 0) 1 4 Try.underlying34 hj hy0 hy1 hy2 rfl (by decide) w.heap.size (.slice ta k tc) k _ rfl hT5 #[.int .u32 x.t] rfl rfl ?d0 ?d1 ?d2 hsz5 w.heap.size (Nat.le_refl _) (Below.refl _ _) ?_)
        case d0 => first | rfl | exact fun u hu => by simp at hu; rw [hu]; rfl
        case d1 => unfold maxLen; omega
        case d2 => omega
        intro tv6 w6 hT6 hb6 hg6 _
        have hal := ((Below.refl w'.heap.size w').alloc (Nat.le_refl _) (.cells #[.int .u32 x.t] 30))
        have hI7 : BIn w6 base gb { s with least := bfLst s.least (l.take k), ev := s.ev + k } (.slice (some ⟨ga, off, none⟩) nr c) (x :: r') := (hI6.out.later hal).grown hg6 (fun i hi => by
          obtain ⟨cs, hcs⟩ := (hT5.alloc (.cells #[.int .u32 x.t] 30)).2 i hi
          exact ⟨cs, _, hcs, by decide, by decide, by decide⟩)
        have hK7 : BKeep gb v l w w6 (.slice (some ⟨ga, off, none⟩) nr c) (x :: r') := ⟨Nat.le_trans hsz5 hb6.size |> fun h => h, fun i hi hf => (hb6.block i hi).trans (hK5.block i hi hf), hK5.foot⟩
        have hB7 : Below base w w6 := hB5.trans (hb6.mono (by omega))
        have hC7 : At3 28 w6 gc (.int .i64 F) (.int .i64 Pk) (.int .i64 B) := by
          have hCa := hC5.alloc (.cells #[.int .u32 x.t] 30)
          have hTa := hT5.alloc (.cells #[.int .u32 x.t] 30)
          unfold At3 at hCa ⊢
          rw [hg6.block gc (lt_of_block hCa) (fun e => by
            obtain ⟨cs, hcs⟩ := hTa.2 gc e.symm
            exact blk_ne hCa hcs (by decide) rfl)]
          exact hCa
        have hsz7 : w.heap.size ≤ w6.heap.size := Nat.le_trans hsz5 hb6.size
        have htk := bf_take HX.out
        have hT7 : OwnE w6 w.heap.size 30 1 tv6 (k + 1) (bfTs (l.take (k + 1))) := by rw [htk, bfTs_snoc]; exact hT6
        clear htk hT5 hK5 hB5 hC5 hsz5 hI5 hI6 hT6 hb6 hg6 hal HTM hcell
        obtain ⟨_, _, _, _, _, _, _, _, _, _⟩ := AtS.cells10 hI7.at10
        have hf7 : ∀ i, w6.frozen? ⟨gb, i, none⟩ = false := fun i => AtS.free hI7.at10 i
        go_upto_region 6 with fail
        have ho8 := (Only.refl gb w6).setCell 8 (.int .i64 (s.ev + (k : Int) + 1))
        have hI8 : BIn (w6.setCell ⟨gb, 8, none⟩ (.int .i64 (s.ev + (k : Int) + 1))) base gb { s with least := bfLst s.least (l.take k), ev := s.ev + k + 1 } (.slice (some ⟨ga, off, none⟩) nr c) (x :: r') := hI7.cells ho8 (at10_set8 hI7.at10 _) hI7.up
        have hK8 := hK7.trans (bKeep_only ho8 (fun _ h => h) : BKeep gb _ _ _ _ (.slice (some ⟨ga, off, none⟩) nr c) (x :: r'))
        have hB8 := hB7.trans (ho8.below hbs)
        have hgcb : gc ≠ gb := fun e => by
          have h1 := hC7
          unfold At3 at h1
          exact blk_ne h1 hI7.at10 (by decide) e
        have hC8 := hC7.only hgcb ho8
        have hT8 : OwnE (w6.setCell ⟨gb, 8, none⟩ (.int .i64 (s.ev + (k : Int) + 1))) w.heap.size 30 1 tv6 (k + 1) (bfTs (l.take (k + 1))) := hT7.keep (by rw [ho8.size]; exact Nat.le_refl _) (fun i cs _ hc => ho8.block i (fun e => by rw [e] at hc; exact blk_ne hI7.at10 hc (by decide) rfl))
        have hsz8 : w.heap.size ≤ (w6.setCell ⟨gb, 8, none⟩ (.int .i64 (s.ev + (k : Int) + 1))).heap.size := by rw [ho8.size]; exact hsz7
        generalize w6.setCell ⟨gb, 8, none⟩ (.int .i64 (s.ev + (k : Int) + 1)) = w8 at hI8 hK8 hB8 hC8 hT8 hsz8 ⊢
        clear hI7 hK7 hB7 hC7 hT7 hsz7 hf7 ho8 hgcb
        have HL := Lib.hid (bfLeave_any hI8 HBP.out HBB.out)
        go_wp2_with fail
        refine HL.out.mono ?_
        rintro e w9 ⟨rfl, ⟨v9, hI9, hK9⟩, hB9⟩
        have hT9 := hK9.row hI8 hT8 (by decide) (by decide) (by decide)
        have hC9 : At3 28 w9 gc (.int .i64 F) (.int .i64 Pk) (.int .i64 B) := by
          unfold At3 at hC8 ⊢
          rw [hK9.blk hI8 hC8 (by decide) (by decide) (by decide)]
          exact hC8
        have hsz9 := hK9.size
        have hK10 := hK8.trans hK9
        have hB10 := hB8.trans hB9
        obtain ⟨ta9, tc9, rfl⟩ := hT9.formG
        clear hI8 hK8 hB8 hC8 hT8 HL
        go_wp2_with fail
        go_roundw
        case rel => exact ⟨k + 1, v9, ta9, tc9, rfl, hkl, Lib.hid (fun j hj => by
          rcases Nat.lt_or_ge j k with h | h
          · exact hov.out j h
          · obtain rfl : j = k := by omega
            rw [HR.out]
            exact HO.out), hT9, by rw [HR'.out, bf_take HX.out, bfLst_snoc]; simpa [Int.add_assoc] using hI9, by rw [HR'.out]; exact hK10, hB10, hC9, by omega⟩
        case measure => simp; omega
end Go.Proofs.Ytgomijhckmcfeaa
