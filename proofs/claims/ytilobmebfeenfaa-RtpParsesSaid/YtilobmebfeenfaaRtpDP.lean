/- rtp: the document's Parse. -/
import Derived.Test.YtilobmebfeenfaaRtpBP
import Derived.Test.YtilobmebfeenfaaRtpDM
namespace Go.Proofs.Ytilobmebfeenfaa
open Go.RowKit rtpApart
set_option linter.unusedVariables false
def zeroD : Value := .agg #[.bool false, .int .i64 0, .int .i64 0, .int .i64 0, .int .i64 0, .slice none 0 0, .bool false, .int .i64 0, .string { data := #[] }, .string { data := #[] }, .int .i64 0]
/-- What the document's Parse answers. -/
def ParsedD (s : ByteArray) (w : World) (e : Ending) (w' : World) : Prop :=
  Below w.heap.size w w' ∧ ((∃ er : Int, e = .returned (.tuple #[zeroD, .int .i64 er]) ∧ refP s = .inl er) ∨
    ∃ (p : PK) (a : Option Addr) (c : Nat), e = .returned (.tuple #[.agg (p.rcells a c), .int .i64 0]) ∧ refP s = .inr p ∧ w'.ownsRow w.heap.size 3 1 (.slice a p.others.length c) p.others.length (p.others.map (Value.int .i64)))
theorem parsedDBad {s : ByteArray} {w w' : World} {e : Ending} (er : Int) (hb : Below w.heap.size w w') (he : e = .returned (.tuple #[zeroD, .int .i64 er])) (hr : Hid (refP s = .inl er)) : ParsedD s w e w' := ⟨hb, .inl ⟨er, he, hr.out⟩⟩
theorem parsedDGood {s : ByteArray} {w w' : World} {e : Ending} (P : PK) (a : Option Addr) (c : Nat) (hb : Below w.heap.size w w') (he : e = .returned (.tuple #[.agg (P.rcells a c), .int .i64 0])) (hr : Hid (refP s = .inr P)) (hv : w'.ownsRow w.heap.size 3 1 (.slice a P.others.length c) P.others.length (P.others.map (Value.int .i64))) : ParsedD s w e w' := ⟨hb, .inr ⟨P, a, c, he, hr.out, hv⟩⟩
/-- The answer's variable, while it is zero. -/
def ZIn (W : World) (b : Nat) : Prop := RkIn W b (.bool false) (.int .i64 0) (.int .i64 0) (.int .i64 0) (.int .i64 0) (.slice none 0 0) (.bool false) (.int .i64 0) (.string { data := #[] }) (.string { data := #[] }) (.int .i64 0)
theorem ZIn.later {w w' : World} {b : Nat} (h : ZIn w b) (hb : Below w.heap.size w w') : ZIn w' b := RkIn.later h hb
/-- All cells of such a block are set. -/
theorem rk_put {W : World} {b : Nat} {c0 c1 c2 c3 c4 c5 c6 c7 c8 c9 c10 : Value} (h : RkIn W b c0 c1 c2 c3 c4 c5 c6 c7 c8 c9 c10) (d0 d1 d2 d3 d4 d5 d6 d7 d8 d9 d10 : Value) : RkIn (((((((((((W.setCell ⟨b, 0, none⟩ d0).setCell ⟨b, 1, none⟩ d1).setCell ⟨b, 2, none⟩ d2).setCell ⟨b, 3, none⟩ d3).setCell ⟨b, 4, none⟩ d4).setCell ⟨b, 5, none⟩ d5).setCell ⟨b, 6, none⟩ d6).setCell ⟨b, 7, none⟩ d7).setCell ⟨b, 8, none⟩ d8).setCell ⟨b, 9, none⟩ d9).setCell ⟨b, 10, none⟩ d10) b d0 d1 d2 d3 d4 d5 d6 d7 d8 d9 d10 := by
  have h0 : RkIn (W.setCell ⟨b, 0, none⟩ d0) b d0 c1 c2 c3 c4 c5 c6 c7 c8 c9 c10 := RkIn.set h 0 d0
  have h1 : RkIn ((W.setCell ⟨b, 0, none⟩ d0).setCell ⟨b, 1, none⟩ d1) b d0 d1 c2 c3 c4 c5 c6 c7 c8 c9 c10 := RkIn.set h0 1 d1
  have h2 : RkIn (((W.setCell ⟨b, 0, none⟩ d0).setCell ⟨b, 1, none⟩ d1).setCell ⟨b, 2, none⟩ d2) b d0 d1 d2 c3 c4 c5 c6 c7 c8 c9 c10 := RkIn.set h1 2 d2
  have h3 : RkIn ((((W.setCell ⟨b, 0, none⟩ d0).setCell ⟨b, 1, none⟩ d1).setCell ⟨b, 2, none⟩ d2).setCell ⟨b, 3, none⟩ d3) b d0 d1 d2 d3 c4 c5 c6 c7 c8 c9 c10 := RkIn.set h2 3 d3
  have h4 : RkIn (((((W.setCell ⟨b, 0, none⟩ d0).setCell ⟨b, 1, none⟩ d1).setCell ⟨b, 2, none⟩ d2).setCell ⟨b, 3, none⟩ d3).setCell ⟨b, 4, none⟩ d4) b d0 d1 d2 d3 d4 c5 c6 c7 c8 c9 c10 := RkIn.set h3 4 d4
  have h5 : RkIn ((((((W.setCell ⟨b, 0, none⟩ d0).setCell ⟨b, 1, none⟩ d1).setCell ⟨b, 2, none⟩ d2).setCell ⟨b, 3, none⟩ d3).setCell ⟨b, 4, none⟩ d4).setCell ⟨b, 5, none⟩ d5) b d0 d1 d2 d3 d4 d5 c6 c7 c8 c9 c10 := RkIn.set h4 5 d5
  have h6 : RkIn (((((((W.setCell ⟨b, 0, none⟩ d0).setCell ⟨b, 1, none⟩ d1).setCell ⟨b, 2, none⟩ d2).setCell ⟨b, 3, none⟩ d3).setCell ⟨b, 4, none⟩ d4).setCell ⟨b, 5, none⟩ d5).setCell ⟨b, 6, none⟩ d6) b d0 d1 d2 d3 d4 d5 d6 c7 c8 c9 c10 := RkIn.set h5 6 d6
  have h7 : RkIn ((((((((W.setCell ⟨b, 0, none⟩ d0).setCell ⟨b, 1, none⟩ d1).setCell ⟨b, 2, none⟩ d2).setCell ⟨b, 3, none⟩ d3).setCell ⟨b, 4, none⟩ d4).setCell ⟨b, 5, none⟩ d5).setCell ⟨b, 6, none⟩ d6).setCell ⟨b, 7, none⟩ d7) b d0 d1 d2 d3 d4 d5 d6 d7 c8 c9 c10 := RkIn.set h6 7 d7
  have h8 : RkIn (((((((((W.setCell ⟨b, 0, none⟩ d0).setCell ⟨b, 1, none⟩ d1).setCell ⟨b, 2, none⟩ d2).setCell ⟨b, 3, none⟩ d3).setCell ⟨b, 4, none⟩ d4).setCell ⟨b, 5, none⟩ d5).setCell ⟨b, 6, none⟩ d6).setCell ⟨b, 7, none⟩ d7).setCell ⟨b, 8, none⟩ d8) b d0 d1 d2 d3 d4 d5 d6 d7 d8 c9 c10 := RkIn.set h7 8 d8
  have h9 : RkIn ((((((((((W.setCell ⟨b, 0, none⟩ d0).setCell ⟨b, 1, none⟩ d1).setCell ⟨b, 2, none⟩ d2).setCell ⟨b, 3, none⟩ d3).setCell ⟨b, 4, none⟩ d4).setCell ⟨b, 5, none⟩ d5).setCell ⟨b, 6, none⟩ d6).setCell ⟨b, 7, none⟩ d7).setCell ⟨b, 8, none⟩ d8).setCell ⟨b, 9, none⟩ d9) b d0 d1 d2 d3 d4 d5 d6 d7 d8 d9 c10 := RkIn.set h8 9 d9
  have h10 : RkIn (((((((((((W.setCell ⟨b, 0, none⟩ d0).setCell ⟨b, 1, none⟩ d1).setCell ⟨b, 2, none⟩ d2).setCell ⟨b, 3, none⟩ d3).setCell ⟨b, 4, none⟩ d4).setCell ⟨b, 5, none⟩ d5).setCell ⟨b, 6, none⟩ d6).setCell ⟨b, 7, none⟩ d7).setCell ⟨b, 8, none⟩ d8).setCell ⟨b, 9, none⟩ d9).setCell ⟨b, 10, none⟩ d10) b d0 d1 d2 d3 d4 d5 d6 d7 d8 d9 d10 := RkIn.set h9 10 d10
  exact h10
theorem rk_putOnly (W : World) (b : Nat) (d0 d1 d2 d3 d4 d5 d6 d7 d8 d9 d10 : Value) : Only b W (((((((((((W.setCell ⟨b, 0, none⟩ d0).setCell ⟨b, 1, none⟩ d1).setCell ⟨b, 2, none⟩ d2).setCell ⟨b, 3, none⟩ d3).setCell ⟨b, 4, none⟩ d4).setCell ⟨b, 5, none⟩ d5).setCell ⟨b, 6, none⟩ d6).setCell ⟨b, 7, none⟩ d7).setCell ⟨b, 8, none⟩ d8).setCell ⟨b, 9, none⟩ d9).setCell ⟨b, 10, none⟩ d10) := ((((((((((((Only.refl b W).setCell 0 d0).setCell 1 d1).setCell 2 d2).setCell 3 d3).setCell 4 d4).setCell 5 d5).setCell 6 d6).setCell 7 d7).setCell 8 d8).setCell 9 d9).setCell 10 d10)
/-- A world that is the one. -/
def SameW (w w' : World) : Prop := w = w'
theorem step_doc {ops : Array Oper} {o : Oper} {a : Act} {w : World} {K : Act → World → Prop} {Q : Exit → Act → World → Prop} {E : Prop} (hgd : o.guard = none) (s x : Operand)
    (ho : o.op = .call { callee := .builtin .append, args := #[s, x], argTypes := #[34, 34] })
    (B g b : Nat) (v : Value) (xs : List Int) (r : Int) (c0 c1 c2 c3 c4 c6 c7 c8 c9 c10 : Value)
    (hP : RkIn w g c0 c1 c2 c3 c4 v c6 c7 c8 c9 c10) (hZ : ZIn w b) (hv : w.ownsRow B 3 1 v xs.length (xs.map (Value.int .i64))) (hB : B ≤ g) (hl : xs.length ≤ 1000) (hs : a.eval s = v) (hx : a.eval x = .slice (some ⟨w.heap.size, 0, none⟩) 1 1)
    (h : ∀ ad c w', Hid (w'.ownsRow B 3 1 (.slice ad (xs.length + 1) c) (xs.length + 1) ((xs ++ [r]).map (Value.int .i64)) ∧ RkIn w' g c0 c1 c2 c3 c4 v c6 c7 c8 c9 c10 ∧ ZIn w' b ∧ Below B w w') → w'.cell? ⟨g, 5, none⟩ = some v → w'.frozen? ⟨g, 5, none⟩ = false → K (a.put o.dst (.slice ad (xs.length + 1) c)) w') :
    if Region.wanted o (yielded ops a.tmps) = true then Oper.wp Try.prog o a (w.alloc (.cells #[.int .i64 r] 3)) K Q else E := by
  obtain ⟨i0, hi, hz0, hz1, hz2⟩ := info_parts info64r
  have hv1 := hv.alloc (.cells #[.int .i64 r] 3)
  have hP1 : RkIn (w.alloc (.cells #[.int .i64 r] 3)) g c0 c1 c2 c3 c4 v c6 c7 c8 c9 c10 := hP.later ((Below.refl _ _).alloc (Nat.le_refl _) _)
  have hZ1 : RkIn (w.alloc (.cells #[.int .i64 r] 3)) b (.bool false) (.int .i64 0) (.int .i64 0) (.int .i64 0) (.int .i64 0) (.slice none 0 0) (.bool false) (.int .i64 0) (.string { data := #[] }) (.string { data := #[] }) (.int .i64 0) := RkIn.later hZ ((Below.refl _ _).alloc (Nat.le_refl _) _)
  have hlt := hP.lt
  refine step_append_own hgd s x _ ho B 3 i0 (.int .i64 0) 1 8 Try.underlying34 hi hz0 hz1 hz2 rfl (by decide) v xs.length (xs.map (Value.int .i64)) hs hv1 ⟨w.heap.size, 0, none⟩ 1 1 [.int .i64 r] hx rfl ?_ ?_ (by unfold maxLen; omega) (by omega) (by simp; omega) ?_
  · intro j u' hj
    match j, hj with
    | 0, hj => simp at hj; subst hj; simp [Addr.add]
  · intro u' hu; simp at hu; subst hu; rfl
  · intro v' w' hown hgrow _
    obtain ⟨ad, c, rfl⟩ := own_slice hown
    have hP2 : RkIn w' g c0 c1 c2 c3 c4 v c6 c7 c8 c9 c10 := by unfold RkIn; rw [hgrow.block g hP1.lt (row_ne hv1 hP1 (rk_ne _))]; exact hP1
    have hZ2 : ZIn w' b := by unfold ZIn RkIn; rw [hgrow.block b hZ1.lt (row_ne hv1 hZ1 (rk_ne _))]; exact hZ1
    obtain ⟨_, _, _, _, _, q5, _⟩ := hP2.cells
    refine h ad c w' ⟨by rw [List.map_append]; exact hown, hP2, hZ2, ?_⟩ q5 (hP2.free 5)
    refine ((Below.refl _ _).alloc (by omega) _).grown hgrow (by simp; omega) ?_
    intro k hk
    exact (hv1.lt k hk).1
theorem hpA_cells (s : ByteArray) (n : Nat) (hx : Bool) (prof : Int) (ext data : ByteArray) (pad : Int) (ad : Option Addr) (cc G : Nat) (xs : List Int) (mk : Bool) (q3 : Nat) (E1 : fB s 1 = G) (Hmk : decide ((128 : Int) ≤ (G : Int)) = mk) (Hq3 : G % 128 = q3) (hxs : osA s n = xs) :
    (hpA s n hx prof ext data pad).rcells ad cc = #[.bool mk, .int .i64 (q3 : Nat), .int .i64 (gN s 2 4 : Nat), .int .i64 (gN s 4 8 : Nat), .int .i64 (gN s 8 12 : Nat), .slice ad xs.length cc, .bool hx, .int .i64 prof, .string ext, .string data, .int .i64 pad] := by
  have hm : decide (128 ≤ fB s 1) = mk := by rw [← Hmk, E1, Bool.eq_iff_iff, decide_eq_true_eq, decide_eq_true_eq]; omega
  unfold PK.rcells hpA
  simp only
  rw [hm, hxs, E1, Hq3]
set_option maxRecDepth 100000 in
set_option maxHeartbeats 1600000 in
theorem refParseShort_any (s : ByteArray) (w : World) (hs : s.size < 12) : Calls Try.prog 9 #[.string s] w (ParsedD s w) := by
  have hr : Hid (refP s = .inl 2) := by show _ = _; unfold refP; rw [if_pos hs]
  go_enter Try.func9, Try.ntmps9
  go_wp2
  refine bodyPost_ret (v := .tuple #[zeroD, .int .i64 2]) (by simp [results, Try.results9, go_sem, zeroD]) rfl (parsedDBad 2 ?_ rfl hr)
  go_grown
set_option maxRecDepth 100000 in
set_option maxHeartbeats 20000000 in
theorem refParseLong_any (s : ByteArray) (w : World) (hs : ¬ s.size < 12) (hs2 : s.size ≤ 1099511627776) : Calls Try.prog 9 #[.string s] w (ParsedD s w) := by
  have hZ1 : ZIn (w.alloc (.cells #[.bool false, .int .i64 0, .int .i64 0, .int .i64 0, .int .i64 0, .slice none 0 0, .bool false, .int .i64 0, .string { data := #[] }, .string { data := #[] }, .int .i64 0] 36)) w.heap.size := rk_new w w.heap.size (.bool false) (.int .i64 0) (.int .i64 0) (.int .i64 0) (.int .i64 0) (.slice none 0 0) (.bool false) (.int .i64 0) (.string { data := #[] }) (.string { data := #[] }) (.int .i64 0) rfl
  have hb1 : Below w.heap.size w (w.alloc (.cells #[.bool false, .int .i64 0, .int .i64 0, .int .i64 0, .int .i64 0, .slice none 0 0, .bool false, .int .i64 0, .string { data := #[] }, .string { data := #[] }, .int .i64 0] 36)) := by go_grown
  have i0 : (0 : Int) < (s.size : Int) := by omega
  have i1 : (1 : Int) < (s.size : Int) := by omega
  have hs3 : (12 : Int) ≤ (s.size : Int) := by omega
  have h0 : 0 < s.size := by omega
  have h1 : 1 < s.size := by omega
  have e0 : fB s 0 = s[0].toNat := by unfold fB; rw [by_at s 0 h0]
  have e1 : fB s 1 = s[1].toNat := by unfold fB; rw [by_at s 1 h1]
  have hF := UInt8.toNat_lt s[0]
  have hG := UInt8.toNat_lt s[1]
  by_cases k1 : fB s 0 / 64 ≠ 2
  · have hr : Hid (refP s = .inl 1) := by show _ = _; unfold refP; rw [if_neg hs, if_pos k1]
    have k2 : ((s[0].toNat : Int) / 64 != 2) = true := by rw [bne_iff_ne]; omega
    clear k1 hs
    have E0 := Lib.hid e0
    have E1 := Lib.hid e1
    clear e0 e1
    go_enter Try.func9, Try.ntmps9
    go_wp2_with fail
    refine bodyPost_ret (v := .tuple #[zeroD, .int .i64 1]) (by simp [results, Try.results9, go_sem, zeroD]) rfl (parsedDBad 1 ?_ rfl hr)
    go_grown
  · have k2 : ((s[0].toNat : Int) / 64 != 2) = false := by rw [bne_eq_false_iff_eq]; omega
    clear hs
    have E0 := Lib.hid e0
    have E1 := Lib.hid e1
    have K1 := Lib.hid k1
    clear e0 e1 k1
    go_enter Try.func9, Try.ntmps9
    go_upto_region 7 with fail
    generalize w.alloc (.cells #[.bool false, .int .i64 0, .int .i64 0, .int .i64 0, .int .i64 0, .slice none 0 0, .bool false, .int .i64 0, .string { data := #[] }, .string { data := #[] }, .int .i64 0] 36) = w1 at hZ1 hb1 ⊢
    have j4 : (4 : Int) ≤ (s.size : Int) := by omega
    have j8 : (8 : Int) ≤ (s.size : Int) := by omega
    have HG1 : Hid (∀ W : World, Calls Try.prog 32 #[.string (s.extract 2 4)] W fun e w' => e = .returned (.int .i64 (gN s 2 4 : Nat)) ∧ W = w') := Lib.hid fun W => get_any _ W (by rw [ByteArray.size_extract]; omega)
    have HG2 : Hid (∀ W : World, Calls Try.prog 32 #[.string (s.extract 4 8)] W fun e w' => e = .returned (.int .i64 (gN s 4 8 : Nat)) ∧ W = w') := Lib.hid fun W => get_any _ W (by rw [ByteArray.size_extract]; omega)
    have HG3 : Hid (∀ W : World, Calls Try.prog 32 #[.string (s.extract 8 12)] W fun e w' => e = .returned (.int .i64 (gN s 8 12 : Nat)) ∧ W = w') := Lib.hid fun W => get_any _ W (by rw [ByteArray.size_extract]; omega)
    generalize s[0].toNat = F at hF k2 E0 ⊢
    generalize s[1].toNat = G at hG E1 ⊢
    generalize hg2 : w.heap.size = g2 at hZ1 ⊢
    have Hg2 := Lib.hid hg2
    clear hg2 k2
    have w1e : IntKind.i64.wrap ((F : Int) / 16) = (F : Int) / 16 := IntWalk.i64_in _ (by omega)
    have w2e : ((F : Int) / 16).tmod 2 = ((F / 16 % 2 : Nat) : Int) := by rw [Int.tmod_eq_emod_of_nonneg (by omega)]; omega
    have w3e : ((G : Int)).tmod 128 = ((G % 128 : Nat) : Int) := by rw [Int.tmod_eq_emod_of_nonneg (by omega)]; omega
    obtain ⟨hx, hhx⟩ : ∃ b : Bool, b = true ↔ F / 16 % 2 = 1 := ⟨decide (F / 16 % 2 = 1), by simp⟩
    have w4e : (((F / 16 % 2 : Nat) : Int) == 1) = hx := by rw [Bool.eq_iff_iff, hhx, beq_iff_eq]; omega
    generalize hq2 : F / 16 % 2 = q2 at w2e w4e hhx
    generalize hq3 : G % 128 = q3 at w3e
    have Hq2 := Lib.hid hq2
    have Hq3 := Lib.hid hq3
    have Hhx := Lib.hid hhx
    clear hq2 hq3 hhx
    obtain ⟨mk, hmk⟩ : ∃ b : Bool, decide ((128 : Int) ≤ (G : Int)) = b := ⟨_, rfl⟩
    go_cut [6] (fun z wx => z = .pointer (some ⟨w1.heap.size, 0, none⟩) ∧ wx = w1.drew.alloc (.cells #[.bool mk, .int .i64 (q3 : Nat), .int .i64 (gN s 2 4 : Nat), .int .i64 (gN s 4 8 : Nat), .int .i64 (gN s 8 12 : Nat), .slice none 0 0, .bool hx, .int .i64 0, .string { data := #[] }, .string { data := #[] }, .int .i64 0] 36))
    case first =>
      go_region_law (first | (go_simp; go_at_call_of 32 (Value.string (s.extract 2 4)); refine (HG1.out _).mono ?_; rintro e w' ⟨rfl, rfl⟩) | (go_simp; go_at_call_of 32 (Value.string (s.extract 4 8)); refine (HG2.out _).mono ?_; rintro e w' ⟨rfl, rfl⟩) | (go_simp; go_at_call_of 32 (Value.string (s.extract 8 12)); refine (HG3.out _).mono ?_; rintro e w' ⟨rfl, rfl⟩))
      all_goals
        go_wp2_with fail
        go_meet
        exact ⟨rfl, rfl⟩
    case rest =>
    obtain ⟨rfl, rfl⟩ := hcut
    have hP3 := rk_new w1.drew w1.heap.size (.bool mk) (.int .i64 (q3 : Nat)) (.int .i64 (gN s 2 4 : Nat)) (.int .i64 (gN s 4 8 : Nat)) (.int .i64 (gN s 8 12 : Nat)) (.slice none 0 0) (.bool hx) (.int .i64 0) (.string { data := #[] }) (.string { data := #[] }) (.int .i64 0) rfl
    have hZ3 := (show ZIn w1.drew g2 from hZ1).later ((Below.refl _ _).alloc (Nat.le_refl _) (.cells #[.bool mk, .int .i64 (q3 : Nat), .int .i64 (gN s 2 4 : Nat), .int .i64 (gN s 4 8 : Nat), .int .i64 (gN s 8 12 : Nat), .slice none 0 0, .bool hx, .int .i64 0, .string { data := #[] }, .string { data := #[] }, .int .i64 0] 36))
    have hb3 := hb1.drew.alloc hb1.drew.size (.cells #[.bool mk, .int .i64 (q3 : Nat), .int .i64 (gN s 2 4 : Nat), .int .i64 (gN s 4 8 : Nat), .int .i64 (gN s 8 12 : Nat), .slice none 0 0, .bool hx, .int .i64 0, .string { data := #[] }, .string { data := #[] }, .int .i64 0] 36)
    have hne : g2 ≠ w1.heap.size := by have := RkIn.lt hZ1; omega
    have hBg : w.heap.size ≤ w1.heap.size := hb1.size
    generalize w1.drew.alloc (.cells #[.bool mk, .int .i64 (q3 : Nat), .int .i64 (gN s 2 4 : Nat), .int .i64 (gN s 4 8 : Nat), .int .i64 (gN s 8 12 : Nat), .slice none 0 0, .bool hx, .int .i64 0, .string { data := #[] }, .string { data := #[] }, .int .i64 0] 36) = w3 at hP3 hZ3 hb3 ⊢
    generalize w1.heap.size = g at hP3 hne hBg ⊢
    clear hZ1 hb1 w1e w2e w3e w4e HG1 HG2 HG3 j4 j8 i0 i1
    generalize hA1 : gN s 2 4 = A1 at hP3 ⊢
    generalize hA2 : gN s 4 8 = A2 at hP3 ⊢
    generalize hA3 : gN s 8 12 = A3 at hP3 ⊢
    have HA1 := Lib.hid hA1
    have HA2 := Lib.hid hA2
    have HA3 := Lib.hid hA3
    clear hA1 hA2 hA3
    have Hmk := Lib.hid hmk
    clear hmk
    obtain ⟨n, hn⟩ : ∃ n : Nat, F % 16 = n := ⟨_, rfl⟩
    have hn16 : n < 16 := by omega
    have hnt : ((F : Int)).tmod 16 = (n : Int) := by rw [Int.tmod_eq_emod_of_nonneg (by omega)]; omega
    have Hn : Hid (fB s 0 % 16 = n) := by show _ = _; rw [E0.out]; exact hn
    clear hn
    go_wp2_with fail
    go_loopw [7, 8] (fun at_ i wr => ∃ (xs : List Int) (a : Nat) (v : Value), Hid (xs = osA s xs.length) ∧ xs.length ≤ n ∧ Hid (a = 12 + 4 * xs.length) ∧ (12 ≤ a ∧ a ≤ s.size) ∧ at_ = .int .i64 (a : Nat) ∧ i = .int .i64 (xs.length : Nat) ∧ wr.ownsRow w.heap.size 3 1 v xs.length (xs.map (Value.int .i64)) ∧ RkIn wr g (.bool mk) (.int .i64 (q3 : Nat)) (.int .i64 (A1 : Nat)) (.int .i64 (A2 : Nat)) (.int .i64 (A3 : Nat)) (v) (.bool hx) (.int .i64 0) (.string { data := #[] }) (.string { data := #[] }) (.int .i64 0) ∧ ZIn wr g2 ∧ Below w.heap.size w wr) (fun _ i _ => n - (intOf i).toNat)
    case atStart => exact ⟨[], 12, _, Lib.hid rfl, Nat.zero_le _, Lib.hid rfl, ⟨Nat.le_refl _, by omega⟩, rfl, rfl, World.ownsRow_nil _ _ _ _, hP3, hZ3, hb3⟩
    case round =>
      obtain ⟨xs, a, v, hxs, hxn, ha, ⟨has1, has⟩, rfl, rfl, hv, hP, hZ, hb⟩ := hrel
      clear hP3 hZ3 hb3
      have hg2B : w.heap.size ≤ g2 := Nat.le_of_eq Hg2.out
      by_cases hlt : xs.length < n
      · by_cases hend : (s.size : Int) < (a : Int) + 4
        · have hr : Hid (refP s = .inl 2) := by
            show _ = _
            unfold refP
            rw [if_neg (by omega), if_neg K1.out, if_pos (by rw [Hn.out]; have := ha.out; omega)]
          obtain ⟨z0, z1, z2, z3, z4, z5, z6, z7, z8, z9, z10⟩ := RkIn.cells hZ
          obtain ⟨f0, f1, f2, f3, f4, f5, f6, f7, f8, f9, f10⟩ := RkIn.frees hZ
          have hZp := rk_put hZ (.bool false) (.int .i64 0) (.int .i64 0) (.int .i64 0) (.int .i64 0) (.slice none 0 0) (.bool false) (.int .i64 0) (.string { data := #[] }) (.string { data := #[] }) (.int .i64 0)
          have HZP := Lib.hid hZp
          have HOP := Lib.hid (rk_putOnly wr g2 (.bool false) (.int .i64 0) (.int .i64 0) (.int .i64 0) (.int .i64 0) (.slice none 0 0) (.bool false) (.int .i64 0) (.string { data := #[] }) (.string { data := #[] }) (.int .i64 0))
          have HBP := Lib.hid (hb.trans (HOP.out.below hg2B))
          clear hZp
          repeat ((fail_if_success (with_reducible (show Exit.then _ _ Exit.ret _ _))); (first | go_skip | go_guarded | go_step | go_upon | go_back))
          show bodyPost Try.prog Try.f9 (ParsedD s w) Exit.ret _ _
          obtain ⟨d0, d1, d2, d3, d4, d5, d6, d7, d8, d9, d10⟩ := RkIn.cells HZP.out
          refine bodyPost_ret (v := .tuple #[zeroD, .int .i64 2]) (by simp [results, Try.results9, go_sem, zeroD, d0, d1, d2, d3, d4, d5, d6, d7, d8, d9, d10]) rfl (parsedDBad 2 HBP.out rfl hr)
        · have ha4 : (a : Int) + 4 ≤ (s.size : Int) := by omega
          have hol : xs.length ≤ 1000 := by omega
          obtain ⟨b, hbq⟩ : ∃ b : Nat, a + 4 = b := ⟨_, rfl⟩
          have hwb : IntKind.i64.wrap ((a : Int) + 4) = (b : Int) := by rw [show (a : Int) + 4 = (b : Int) by omega]; exact IntWalk.i64_in _ (by omega)
          have hb0 : (0 : Int) ≤ (b : Int) := by omega
          have hb1 : (b : Int) ≤ (s.size : Int) := by omega
          have hb2 : (a : Int) ≤ (b : Int) := by omega
          have hb3 : a ≤ b := by omega
          have Hbq := Lib.hid hbq
          clear hbq ha4
          have HGa : Hid (∀ (W : World) (x : ByteArray), x = s.extract a b → Calls Try.prog 32 #[.string x] W fun e w' => e = .returned (.int .i64 (gN s a b : Nat)) ∧ W = w') := Lib.hid fun W x hx => by
            subst hx
            exact get_any _ W (by rw [ByteArray.size_extract]; have := Hbq.out; omega)
          obtain ⟨c0, c1, c2, c3, c4, c5, c6, c7, c8, c9, c10⟩ := hP.cells
          have hgl := hP.lt
          have hnew : Hid (xs ++ [((gN s a b : Nat) : Int)] = osA s (xs.length + 1)) := by
            show _ = _
            rw [osA_succ, ← hxs.out, ← ha.out, Hbq.out]
          generalize gN s a b = rr at HGa hnew
          go_wp2_with fail
          go_region_law (first | (refine step_doc rfl (.tmp 57) (.tmp 64) rfl w.heap.size g g2 v xs (rr : Nat) _ _ _ _ _ _ _ _ _ _ (show RkIn wr.drew g _ _ _ _ _ _ _ _ _ _ _ from hP) (show ZIn wr.drew g2 from hZ) hv.drew hBg hol rfl rfl ?_; intro ad3 cq w10 H10 hc10 hf10) | (go_simp; go_at_call 32; refine (HGa.out _ _ (by first | rfl | (congr 1; omega) | (congr 1 <;> omega))).mono ?_; rintro e w' ⟨rfl, rfl⟩))
          all_goals
            obtain ⟨hv10, hP10, hZ10, hb10⟩ := H10.out
            have hP11 : RkIn (w10.setCell ⟨g, 5, none⟩ (.slice ad3 (xs.length + 1) cq)) g (.bool mk) (.int .i64 (q3 : Nat)) (.int .i64 (A1 : Nat)) (.int .i64 (A2 : Nat)) (.int .i64 (A3 : Nat)) (.slice ad3 (xs.length + 1) cq) (.bool hx) (.int .i64 0) (.string { data := #[] }) (.string { data := #[] }) (.int .i64 0) := block_setCell hP10
            have hZ11 : ZIn (w10.setCell ⟨g, 5, none⟩ (.slice ad3 (xs.length + 1) cq)) g2 := rk_set hZ10 hne
            have hv11 : (w10.setCell ⟨g, 5, none⟩ (.slice ad3 (xs.length + 1) cq)).ownsRow w.heap.size 3 1 (.slice ad3 (xs.length + 1) cq) (xs.length + 1) ((xs ++ [((rr : Nat) : Int)]).map (Value.int .i64)) := ownsRow_setCell_other hv10 (fun e => row_ne hv10 hP10 (rk_ne _) e.symm) _
            have hb11 := (hb.drew.trans hb10).setCell (p := ⟨g, 5, none⟩) hBg (.slice ad3 (xs.length + 1) cq)
            have el : (xs ++ [((rr : Nat) : Int)]).length = xs.length + 1 := by simp
            have E5 := Lib.hid (And.intro hP11 (And.intro hZ11 (And.intro hv11 (And.intro hb11 el))))
            clear hP11 hZ11 hv11 hb11 el H10 hv10 hP10 hZ10 hb10
            go_wp2
            go_roundw
            case rel =>
              obtain ⟨hP11, hZ11, hv11, hb11, el⟩ := E5.out
              exact ⟨xs ++ [((rr : Nat) : Int)], b, _, Lib.hid (by rw [el]; exact hnew.out), by rw [el]; omega, Lib.hid (by rw [el]; have := ha.out; have := Hbq.out; omega), ⟨by omega, by omega⟩, rfl, by rw [el]; go_num, by rw [el]; exact hv11, hP11, hZ11, hb11⟩
            case measure => simp [intOf]; omega
      · have hln : xs.length = n := by omega
        have hxs2 : Hid (osA s n = xs) := by show _ = _; rw [← hln]; exact hxs.out.symm
        have ha2 : Hid (a = 12 + 4 * n) := by show _ = _; rw [ha.out, hln]
        have HQ : Hid (hx = true ↔ fB s 0 / 16 % 2 = 1) := by show _ ↔ _; rw [E0.out, Hq2.out]; exact Hhx.out
        have hge : (n : Int) ≤ (xs.length : Int) := by omega
        clear hxs ha hxn hlt hln
        obtain ⟨c0, c1, c2, c3, c4, c5, c6, c7, c8, c9, c10⟩ := hP.cells
        obtain ⟨k0, k1, k2, k3, k4, k5, k6, k7, k8, k9, k10⟩ := hP.frees
        obtain ⟨z0, z1, z2, z3, z4, z5, z6, z7, z8, z9, z10⟩ := RkIn.cells hZ
        obtain ⟨f0, f1, f2, f3, f4, f5, f6, f7, f8, f9, f10⟩ := RkIn.frees hZ
        have hne' := hne.symm
        go_upto_if 70 with fail
        go_cut [7, 9] (fun at_ n9 wx => ∃ (c : Nat) (prof : Int) (ext : ByteArray), Hid (refP s = finP s hx c prof ext) ∧ (c ≤ s.size) ∧ at_ = .int .i64 (c : Nat) ∧ RkIn wx g (.bool mk) (.int .i64 (q3 : Nat)) (.int .i64 (A1 : Nat)) (.int .i64 (A2 : Nat)) (.int .i64 (A3 : Nat)) (v) (.bool hx) (.int .i64 prof) (.string ext) (.string { data := #[] }) (.int .i64 0) ∧ ZIn wx g2 ∧ wx.ownsRow w.heap.size 3 1 v xs.length (xs.map (Value.int .i64)) ∧ Below w.heap.size w wx)
        case first =>
          cases hx
          · have hr : Hid (refP s = finP s false a 0 { data := #[] }) := by
              show _ = _
              have h1 : ¬ fB s 0 / 16 % 2 = 1 := fun h => by have := HQ.out.2 h; cases this
              unfold refP
              rw [if_neg (by omega), if_neg K1.out, if_neg (by rw [Hn.out]; have := ha2.out; omega), if_neg h1, Hn.out, ← ha2.out]
            go_wp2_with fail
            go_meet
            exact ⟨a, 0, _, hr, has, rfl, hP, hZ, hv, hb⟩
          · have h1 : fB s 0 / 16 % 2 = 1 := HQ.out.1 rfl
            have H1 := Lib.hid h1
            clear h1
            by_cases hend : (s.size : Int) < (a : Int) + 4
            · have hr : Hid (refP s = .inl 2) := by
                show _ = _
                unfold refP
                rw [if_neg (by omega), if_neg K1.out, if_neg (by rw [Hn.out]; have := ha2.out; omega), if_pos H1.out, if_pos (by rw [Hn.out]; have := ha2.out; omega)]
              have hZp := rk_put hZ (.bool false) (.int .i64 0) (.int .i64 0) (.int .i64 0) (.int .i64 0) (.slice none 0 0) (.bool false) (.int .i64 0) (.string { data := #[] }) (.string { data := #[] }) (.int .i64 0)
              have HZP := Lib.hid hZp
              have HOP := Lib.hid (rk_putOnly wr g2 (.bool false) (.int .i64 0) (.int .i64 0) (.int .i64 0) (.int .i64 0) (.slice none 0 0) (.bool false) (.int .i64 0) (.string { data := #[] }) (.string { data := #[] }) (.int .i64 0))
              have HBP := Lib.hid (hb.trans (HOP.out.below hg2B))
              clear hZp
              repeat ((fail_if_success (with_reducible (show Exit.then _ _ Exit.ret _ _))); (first | go_skip | go_guarded | go_step | go_upon | go_back))
              show bodyPost Try.prog Try.f9 (ParsedD s w) Exit.ret _ _
              obtain ⟨d0, d1, d2, d3, d4, d5, d6, d7, d8, d9, d10⟩ := RkIn.cells HZP.out
              refine bodyPost_ret (v := .tuple #[zeroD, .int .i64 2]) (by simp [results, Try.results9, go_sem, zeroD, d0, d1, d2, d3, d4, d5, d6, d7, d8, d9, d10]) rfl (parsedDBad 2 HBP.out rfl hr)
            · obtain ⟨b2, hb2q⟩ : ∃ b2 : Nat, a + 2 = b2 := ⟨_, rfl⟩
              obtain ⟨b, hbq⟩ : ∃ b : Nat, a + 4 = b := ⟨_, rfl⟩
              have hbs : (b : Int) ≤ (s.size : Int) := by omega
              have hend' : ¬ (s.size : Int) < (b : Int) := by omega
              have g1 : gN s a b2 ≤ 65535 := by have := gN_lt s a b2 2 (by omega); omega
              have g2' : gN s b2 b ≤ 65535 := by have := gN_lt s b2 b 2 (by omega); omega
              have HG1 : Hid (∀ (W : World) (x : ByteArray), x = s.extract a b2 → Calls Try.prog 32 #[.string x] W fun e w' => e = .returned (.int .i64 (gN s a b2 : Nat)) ∧ W = w') := Lib.hid fun W x hx => by
                subst hx
                exact get_any _ W (by rw [ByteArray.size_extract]; omega)
              have HG2 : Hid (∀ (W : World) (x : ByteArray), x = s.extract b2 b → Calls Try.prog 32 #[.string x] W fun e w' => e = .returned (.int .i64 (gN s b2 b : Nat)) ∧ W = w') := Lib.hid fun W x hx => by
                subst hx
                exact get_any _ W (by rw [ByteArray.size_extract]; omega)
              have hr0 : Hid (refP s = if s.size < b + 4 * gN s b2 b then .inl 2 else finP s true (b + 4 * gN s b2 b) (gN s a b2 : Nat) (s.extract b (b + 4 * gN s b2 b))) := by
                show _ = _
                have e1 : 12 + 4 * n = a := ha2.out.symm
                have e2 : 14 + 4 * n = b2 := by omega
                have e3 : 16 + 4 * n = b := by omega
                unfold refP
                rw [if_neg (by omega), if_neg K1.out, if_neg (by rw [Hn.out]; omega), if_pos H1.out, if_neg (by rw [Hn.out]; omega), Hn.out, e1, e2, e3]
              generalize gN s a b2 = prof at HG1 hr0 g1
              generalize gN s b2 b = mm at HG2 hr0 g2'
              have Hb2q := Lib.hid hb2q
              have Hbq := Lib.hid hbq
              clear hend' hb2q hbq
              go_wp2_with fail
              refine (HG1.out _ _ (by rw [Hb2q.out])).mono ?_
              rintro e w' ⟨rfl, rfl⟩
              have hP4 : RkIn (wr.setCell ⟨g, 7, none⟩ (.int .i64 (prof : Nat))) g (.bool mk) (.int .i64 (q3 : Nat)) (.int .i64 (A1 : Nat)) (.int .i64 (A2 : Nat)) (.int .i64 (A3 : Nat)) (v) (.bool true) (.int .i64 (prof : Nat)) (.string { data := #[] }) (.string { data := #[] }) (.int .i64 0) := block_setCell hP
              have hZ4 : ZIn (wr.setCell ⟨g, 7, none⟩ (.int .i64 (prof : Nat))) g2 := rk_set hZ hne
              have hv4 := ownsRow_setCell_other hv (fun e => row_ne hv hP (rk_ne _) e.symm) (.int .i64 (prof : Nat)) (a := ⟨g, 7, none⟩)
              have hb4 := hb.setCell (p := ⟨g, 7, none⟩) hBg (.int .i64 (prof : Nat))
              go_upto_region 20 with fail
              generalize wr.setCell ⟨g, 7, none⟩ (.int .i64 (prof : Nat)) = w4 at hP4 hZ4 hv4 hb4 ⊢
              clear hP hZ hv hb c0 c1 c2 c3 c4 c5 c6 c7 c8 c9 c10 k0 k1 k2 k3 k4 k5 k6 k7 k8 k9 k10 z0 z1 z2 z3 z4 z5 z6 z7 z8 z9 z10 f0 f1 f2 f3 f4 f5 f6 f7 f8 f9 f10
              obtain ⟨c0, c1, c2, c3, c4, c5, c6, c7, c8, c9, c10⟩ := hP4.cells
              obtain ⟨k0, k1, k2, k3, k4, k5, k6, k7, k8, k9, k10⟩ := hP4.frees
              obtain ⟨z0, z1, z2, z3, z4, z5, z6, z7, z8, z9, z10⟩ := RkIn.cells hZ4
              obtain ⟨f0, f1, f2, f3, f4, f5, f6, f7, f8, f9, f10⟩ := RkIn.frees hZ4
              go_wp2_with fail
              refine (HG2.out _ _ (by rw [Hb2q.out, Hbq.out])).mono ?_
              rintro e w' ⟨rfl, rfl⟩
              by_cases hend2 : (s.size : Int) < (a : Int) + 4 + 4 * (mm : Int)
              · have hr : Hid (refP s = .inl 2) := by show _ = _; rw [hr0.out, if_pos (by have := Hbq.out; omega)]
                have hZp := rk_put hZ4 (.bool false) (.int .i64 0) (.int .i64 0) (.int .i64 0) (.int .i64 0) (.slice none 0 0) (.bool false) (.int .i64 0) (.string { data := #[] }) (.string { data := #[] }) (.int .i64 0)
                have HZP := Lib.hid hZp
                have HOP := Lib.hid (rk_putOnly w4 g2 (.bool false) (.int .i64 0) (.int .i64 0) (.int .i64 0) (.int .i64 0) (.slice none 0 0) (.bool false) (.int .i64 0) (.string { data := #[] }) (.string { data := #[] }) (.int .i64 0))
                have HBP := Lib.hid (hb4.trans (HOP.out.below hg2B))
                clear hZp
                dsimp only
                repeat ((fail_if_success (with_reducible (show Exit.then _ _ Exit.ret _ _))); (first | go_skip | go_guarded | go_step | go_upon | go_back))
                show bodyPost Try.prog Try.f9 (ParsedD s w) Exit.ret _ _
                obtain ⟨d0, d1, d2, d3, d4, d5, d6, d7, d8, d9, d10⟩ := RkIn.cells HZP.out
                refine bodyPost_ret (v := .tuple #[zeroD, .int .i64 2]) (by simp [results, Try.results9, go_sem, zeroD, d0, d1, d2, d3, d4, d5, d6, d7, d8, d9, d10]) rfl (parsedDBad 2 HBP.out rfl hr)
              · have hend3 : (a : Int) + 4 + 4 * (mm : Int) ≤ (s.size : Int) := by omega
                clear hend2
                have hr : Hid (refP s = finP s true (b + 4 * mm) (prof : Nat) (s.extract b (b + 4 * mm))) := by show _ = _; rw [hr0.out, if_neg (by have := Hbq.out; omega)]
                have hPe : RkIn (w4.setCell ⟨g, 8, none⟩ (.string (s.extract (a + 4) (a + 4 + 4 * mm)))) g (.bool mk) (.int .i64 (q3 : Nat)) (.int .i64 (A1 : Nat)) (.int .i64 (A2 : Nat)) (.int .i64 (A3 : Nat)) (v) (.bool true) (.int .i64 (prof : Nat)) (.string (s.extract (a + 4) (a + 4 + 4 * mm))) (.string { data := #[] }) (.int .i64 0) := block_setCell hP4
                have hZe : ZIn (w4.setCell ⟨g, 8, none⟩ (.string (s.extract (a + 4) (a + 4 + 4 * mm)))) g2 := rk_set hZ4 hne
                have hve := ownsRow_setCell_other hv4 (fun e => row_ne hv4 hP4 (rk_ne _) e.symm) (.string (s.extract (a + 4) (a + 4 + 4 * mm))) (a := ⟨g, 8, none⟩)
                have hbe := hb4.setCell (p := ⟨g, 8, none⟩) hBg (.string (s.extract (a + 4) (a + 4 + 4 * mm)))
                have Ee := Lib.hid (And.intro hPe (And.intro hZe (And.intro hve hbe)))
                clear hPe hZe hve hbe
                go_wp2_with fail
                go_meet
                obtain ⟨hPe, hZe, hve, hbe⟩ := Ee.out
                exact ⟨b + 4 * mm, (prof : Nat), s.extract (a + 4) (a + 4 + 4 * mm), by rw [← Hbq.out] at hr ⊢; exact hr, by have := Hbq.out; omega, by congr 1; have := Hbq.out; omega, hPe, hZe, hve, hbe⟩
        case rest =>
        obtain ⟨c, prof, ext, hfin, hcs, rfl, hP5, hZ5, hv5, hb5⟩ := hcut
        rename World => w5
        clear hP hZ hv hb c0 c1 c2 c3 c4 c5 c6 c7 c8 c9 c10 k0 k1 k2 k3 k4 k5 k6 k7 k8 k9 k10 z0 z1 z2 z3 z4 z5 z6 z7 z8 z9 z10 f0 f1 f2 f3 f4 f5 f6 f7 f8 f9 f10
        obtain ⟨ad, cc, rfl⟩ := own_slice hv5
        obtain ⟨D, hD⟩ : ∃ D, s.extract c s.size = D := ⟨_, rfl⟩
        have hDs : D.size ≤ 1099511627776 := by rw [← hD, ext_size]; omega
        have hfin2 : Hid (refP s = if fB s 0 / 32 % 2 = 1 then (if padOk D then .inr (hpA s n hx prof ext (D.extract 0 (D.size - lastN D)) (lastN D : Nat)) else .inl 1) else .inr (hpA s n hx prof ext D 0)) := by
          show _ = _
          rw [hfin.out]
          unfold finP
          rw [hD, Hn.out]
        have HD := Lib.hid hD
        clear hD hfin
        have hci : (c : Int) ≤ (s.size : Int) := by omega
        obtain ⟨c0, c1, c2, c3, c4, c5, c6, c7, c8, c9, c10⟩ := hP5.cells
        obtain ⟨k0, k1, k2, k3, k4, k5, k6, k7, k8, k9, k10⟩ := hP5.frees
        obtain ⟨z0, z1, z2, z3, z4, z5, z6, z7, z8, z9, z10⟩ := RkIn.cells hZ5
        obtain ⟨f0, f1, f2, f3, f4, f5, f6, f7, f8, f9, f10⟩ := RkIn.frees hZ5
        go_upto_region 27 with fail
        simp only [HD.out]
        have hPF : RkIn (w5.setCell ⟨g, 9, none⟩ (.string D)) g (.bool mk) (.int .i64 (q3 : Nat)) (.int .i64 (A1 : Nat)) (.int .i64 (A2 : Nat)) (.int .i64 (A3 : Nat)) (.slice ad xs.length cc) (.bool hx) (.int .i64 prof) (.string ext) (.string D) (.int .i64 0) := block_setCell hP5
        have hZF : ZIn (w5.setCell ⟨g, 9, none⟩ (.string D)) g2 := rk_set hZ5 hne
        have hvF := ownsRow_setCell_other hv5 (fun e => row_ne hv5 hP5 (rk_ne _) e.symm) (.string D) (a := ⟨g, 9, none⟩)
        have hbF := hb5.setCell (p := ⟨g, 9, none⟩) hBg (.string D)
        generalize w5.setCell ⟨g, 9, none⟩ (.string D) = w6 at hPF hZF hvF hbF ⊢
        clear hP5 hZ5 hv5 hb5 c0 c1 c2 c3 c4 c5 c6 c7 c8 c9 c10 k0 k1 k2 k3 k4 k5 k6 k7 k8 k9 k10 z0 z1 z2 z3 z4 z5 z6 z7 z8 z9 z10 f0 f1 f2 f3 f4 f5 f6 f7 f8 f9 f10
        obtain ⟨c0, c1, c2, c3, c4, c5, c6, c7, c8, c9, c10⟩ := hPF.cells
        obtain ⟨k0, k1, k2, k3, k4, k5, k6, k7, k8, k9, k10⟩ := hPF.frees
        obtain ⟨z0, z1, z2, z3, z4, z5, z6, z7, z8, z9, z10⟩ := RkIn.cells hZF
        obtain ⟨f0, f1, f2, f3, f4, f5, f6, f7, f8, f9, f10⟩ := RkIn.frees hZF
        have s5e : ((F : Int) / 32).tmod 2 = ((F / 32 % 2 : Nat) : Int) := by rw [Int.tmod_eq_emod_of_nonneg (by omega)]; omega
        by_cases hpd : F / 32 % 2 = 1
        · have s6e : (((F / 32 % 2 : Nat) : Int) == 1) = true := by rw [hpd]; rfl
          have hfin3 : Hid (refP s = if padOk D then .inr (hpA s n hx prof ext (D.extract 0 (D.size - lastN D)) (lastN D : Nat)) else .inl 1) := by show _ = _; rw [hfin2.out, if_pos (by rw [E0.out]; exact hpd)]
          generalize F / 32 % 2 = q5 at s5e s6e
          clear hfin2 hpd
          have hemp := isEmpty_size D
          by_cases hD0 : D.size = 0
          · have hr : Hid (refP s = .inl 1) := by show _ = _; rw [hfin3.out, if_neg (fun h => h.1 hD0)]
            rw [decide_eq_true hD0] at hemp
            clear hD0
            have hZp := rk_put hZF (.bool false) (.int .i64 0) (.int .i64 0) (.int .i64 0) (.int .i64 0) (.slice none 0 0) (.bool false) (.int .i64 0) (.string { data := #[] }) (.string { data := #[] }) (.int .i64 0)
            have HZP := Lib.hid hZp
            have HOP := Lib.hid (rk_putOnly w6 g2 (.bool false) (.int .i64 0) (.int .i64 0) (.int .i64 0) (.int .i64 0) (.slice none 0 0) (.bool false) (.int .i64 0) (.string { data := #[] }) (.string { data := #[] }) (.int .i64 0))
            have HBP := Lib.hid (hbF.trans (HOP.out.below hg2B))
            clear hZp
            repeat ((fail_if_success (with_reducible (show Exit.then _ _ Exit.ret _ _))); (first | go_skip | go_guarded | go_step | go_upon | go_back))
            show bodyPost Try.prog Try.f9 (ParsedD s w) Exit.ret _ _
            obtain ⟨d0, d1, d2, d3, d4, d5, d6, d7, d8, d9, d10⟩ := RkIn.cells HZP.out
            refine bodyPost_ret (v := .tuple #[zeroD, .int .i64 1]) (by simp [results, Try.results9, go_sem, zeroD, d0, d1, d2, d3, d4, d5, d6, d7, d8, d9, d10]) rfl (parsedDBad 1 HBP.out rfl hr)
          · rw [decide_eq_false hD0] at hemp
            have hltD : D.size - 1 < D.size := by omega
            have hla : lastN D = (D[D.size - 1]'hltD).toNat := by unfold lastN; rw [by_at D _ hltD]
            have hbq := UInt8.toNat_lt (D[D.size - 1]'hltD)
            have i1 : (0 : Int) ≤ (D.size : Int) - 1 := by omega
            have i2 : (D.size : Int) - 1 < (D.size : Int) := by omega
            have i3 : ((D.size : Int) - 1).toNat = D.size - 1 := by omega
            have HLA := Lib.hid hla
            clear hla
            go_upto_region 31 with fail
            generalize (D[D.size - 1]'hltD).toNat = q at HLA hbq ⊢
            by_cases k1 : q = 0
            · have hqb : ((q : Int) == 0) = true := by simp; omega
              have hr : Hid (refP s = .inl 1) := by show _ = _; rw [hfin3.out, if_neg (fun h => h.2.1 (by rw [HLA.out]; exact k1))]
              clear k1
              have hZp := rk_put hZF (.bool false) (.int .i64 0) (.int .i64 0) (.int .i64 0) (.int .i64 0) (.slice none 0 0) (.bool false) (.int .i64 0) (.string { data := #[] }) (.string { data := #[] }) (.int .i64 0)
              have HZP := Lib.hid hZp
              have HOP := Lib.hid (rk_putOnly w6 g2 (.bool false) (.int .i64 0) (.int .i64 0) (.int .i64 0) (.int .i64 0) (.slice none 0 0) (.bool false) (.int .i64 0) (.string { data := #[] }) (.string { data := #[] }) (.int .i64 0))
              have HBP := Lib.hid (hbF.trans (HOP.out.below hg2B))
              clear hZp
              repeat ((fail_if_success (with_reducible (show Exit.then _ _ Exit.ret _ _))); (first | go_skip | go_guarded | go_step | go_upon | go_back))
              show bodyPost Try.prog Try.f9 (ParsedD s w) Exit.ret _ _
              obtain ⟨d0, d1, d2, d3, d4, d5, d6, d7, d8, d9, d10⟩ := RkIn.cells HZP.out
              refine bodyPost_ret (v := .tuple #[zeroD, .int .i64 1]) (by simp [results, Try.results9, go_sem, zeroD, d0, d1, d2, d3, d4, d5, d6, d7, d8, d9, d10]) rfl (parsedDBad 1 HBP.out rfl hr)
            · have hqb : ((q : Int) == 0) = false := by simp; omega
              by_cases k2 : (D.size : Int) < (q : Int)
              · have hr : Hid (refP s = .inl 1) := by show _ = _; rw [hfin3.out, if_neg (fun h => by have := h.2.2.1; rw [HLA.out] at this; omega)]
                have hZp := rk_put hZF (.bool false) (.int .i64 0) (.int .i64 0) (.int .i64 0) (.int .i64 0) (.slice none 0 0) (.bool false) (.int .i64 0) (.string { data := #[] }) (.string { data := #[] }) (.int .i64 0)
                have HZP := Lib.hid hZp
                have HOP := Lib.hid (rk_putOnly w6 g2 (.bool false) (.int .i64 0) (.int .i64 0) (.int .i64 0) (.int .i64 0) (.slice none 0 0) (.bool false) (.int .i64 0) (.string { data := #[] }) (.string { data := #[] }) (.int .i64 0))
                have HBP := Lib.hid (hbF.trans (HOP.out.below hg2B))
                clear hZp
                repeat ((fail_if_success (with_reducible (show Exit.then _ _ Exit.ret _ _))); (first | go_skip | go_guarded | go_step | go_upon | go_back))
                show bodyPost Try.prog Try.f9 (ParsedD s w) Exit.ret _ _
                obtain ⟨d0, d1, d2, d3, d4, d5, d6, d7, d8, d9, d10⟩ := RkIn.cells HZP.out
                refine bodyPost_ret (v := .tuple #[zeroD, .int .i64 1]) (by simp [results, Try.results9, go_sem, zeroD, d0, d1, d2, d3, d4, d5, d6, d7, d8, d9, d10]) rfl (parsedDBad 1 HBP.out rfl hr)
              · have k3 : (q : Int) ≤ (D.size : Int) := by omega
                obtain ⟨z, hz⟩ : ∃ z : Nat, D.size - q = z := ⟨_, rfl⟩
                have hzi : (D.size : Int) - (q : Int) = (z : Int) := by omega
                have Hzq : Hid (z + q = D.size) := by show _ = _; omega
                have hzl : z ≤ D.size := by omega
                have Hzi := Lib.hid hzi
                have Hk1 := Lib.hid k1
                clear hz hzi k1 k2
                go_wp2_with fail
                try rw [Hzi.out]
                go_loopw [11] (fun i wr => ∃ j : Nat, j + 1 ≤ q ∧ i = .int .i64 ((z + j : Nat)) ∧ Hid (∀ t, t < j → (by_ D)[z + t]?.getD 0 = 0) ∧ SameW wr w6) (fun i _ => D.size - (intOf i).toNat)
                case atStart => exact ⟨0, by have := Hk1.out; omega, rfl, Lib.hid (fun t ht => absurd ht (Nat.not_lt_zero _)), rfl⟩
                case round =>
                  obtain ⟨j, hj, rfl, hjz, hw6⟩ := hrel
                  obtain rfl : wr = w6 := hw6
                  obtain ⟨ij, hij⟩ : ∃ ij : Nat, z + j = ij := ⟨_, rfl⟩
                  rw [hij]
                  by_cases hlt : j + 1 < q
                  · have hidx : ij < D.size := by have := Hzq.out; omega
                    have hii : (ij : Int) < (D.size : Int) - 1 := by have := Hzq.out; omega
                    have hi2 : (ij : Int) < (D.size : Int) := by omega
                    have hat := by_at D ij hidx
                    have hb9 := UInt8.toNat_lt (D[ij]'hidx)
                    by_cases hb0 : (D[ij]'hidx).toNat = 0
                    · have hbz : ((((D[ij]'hidx).toNat : Nat) : Int) != 0) = false := by rw [bne_eq_false_iff_eq]; omega
                      have hnx : Hid (∀ t, t < j + 1 → (by_ D)[z + t]?.getD 0 = 0) := by
                        intro t ht
                        by_cases htj : t < j
                        · exact hjz.out t htj
                        · obtain rfl : t = j := by omega
                          rw [hij, hat]
                          exact UInt8.toNat_inj.1 hb0
                      have Hij := Lib.hid hij
                      clear hb0 hat hij
                      go_wp2_with fail
                      go_roundw
                      case rel => exact ⟨j + 1, by omega, by rw [← Nat.add_assoc, Hij.out]; go_num, hnx, rfl⟩
                      case measure => simp [intOf]; omega
                    · have hbz : ((((D[ij]'hidx).toNat : Nat) : Int) != 0) = true := by rw [bne_iff_ne]; omega
                      have hr : Hid (refP s = .inl 1) := by
                        show _ = _
                        rw [hfin3.out, if_neg ?_]
                        intro h
                        have := padOk_zero D q z h HLA.out Hzq.out j hlt
                        rw [hij, hat] at this
                        exact hb0 (by rw [this]; rfl)
                      clear hb0 hat hij hjz
                      have hZp := rk_put hZF (.bool false) (.int .i64 0) (.int .i64 0) (.int .i64 0) (.int .i64 0) (.slice none 0 0) (.bool false) (.int .i64 0) (.string { data := #[] }) (.string { data := #[] }) (.int .i64 0)
                      have HZP := Lib.hid hZp
                      have HOP := Lib.hid (rk_putOnly wr g2 (.bool false) (.int .i64 0) (.int .i64 0) (.int .i64 0) (.int .i64 0) (.slice none 0 0) (.bool false) (.int .i64 0) (.string { data := #[] }) (.string { data := #[] }) (.int .i64 0))
                      have HBP := Lib.hid (hbF.trans (HOP.out.below hg2B))
                      clear hZp
                      repeat ((fail_if_success (with_reducible (show Exit.then _ _ Exit.ret _ _))); (first | go_skip | go_guarded | go_step | go_upon | go_back))
                      show bodyPost Try.prog Try.f9 (ParsedD s w) Exit.ret _ _
                      obtain ⟨d0, d1, d2, d3, d4, d5, d6, d7, d8, d9, d10⟩ := RkIn.cells HZP.out
                      refine bodyPost_ret (v := .tuple #[zeroD, .int .i64 1]) (by simp [results, Try.results9, go_sem, zeroD, d0, d1, d2, d3, d4, d5, d6, d7, d8, d9, d10]) rfl (parsedDBad 1 HBP.out rfl hr)
                  · have hpo := padOk_of D q z HLA.out Hk1.out Hzq.out (fun t ht => hjz.out t (by omega))
                    have hr : Hid (refP s = .inr (hpA s n hx prof ext (D.extract 0 (D.size - q)) (q : Nat))) := by
                      show _ = _
                      rw [hfin3.out, if_pos hpo, HLA.out]
                    have hii : ¬ (ij : Int) < (D.size : Int) - 1 := by have := Hzq.out; omega
                    clear hpo hjz hij
                    have m1 : (0 : Int) ≤ (D.size : Int) - (q : Int) := by omega
                    have m2 : (D.size : Int) - (q : Int) ≤ (D.size : Int) := by omega
                    go_upto_region 40 with fail
                    have hPx : RkIn (wr.setCell ⟨g, 10, none⟩ (.int .i64 (q : Nat))) g (.bool mk) (.int .i64 (q3 : Nat)) (.int .i64 (A1 : Nat)) (.int .i64 (A2 : Nat)) (.int .i64 (A3 : Nat)) (.slice ad xs.length cc) (.bool hx) (.int .i64 prof) (.string ext) (.string D) (.int .i64 (q : Nat)) := block_setCell hPF
                    have hPy : RkIn ((wr.setCell ⟨g, 10, none⟩ (.int .i64 (q : Nat))).setCell ⟨g, 9, none⟩ (.string (D.extract 0 (D.size - q)))) g (.bool mk) (.int .i64 (q3 : Nat)) (.int .i64 (A1 : Nat)) (.int .i64 (A2 : Nat)) (.int .i64 (A3 : Nat)) (.slice ad xs.length cc) (.bool hx) (.int .i64 prof) (.string ext) (.string (D.extract 0 (D.size - q))) (.int .i64 (q : Nat)) := block_setCell hPx
                    have hZy : ZIn ((wr.setCell ⟨g, 10, none⟩ (.int .i64 (q : Nat))).setCell ⟨g, 9, none⟩ (.string (D.extract 0 (D.size - q)))) g2 := rk_set (rk_set hZF hne) hne
                    have hvy := ownsRow_setCell_other (a := ⟨g, 9, none⟩) (ownsRow_setCell_other (a := ⟨g, 10, none⟩) hvF (fun e => row_ne hvF hPF (rk_ne _) e.symm) (.int .i64 (q : Nat))) (fun e => row_ne hvF hPF (rk_ne _) e.symm) (.string (D.extract 0 (D.size - q)))
                    have hby := (hbF.setCell (p := ⟨g, 10, none⟩) hBg (.int .i64 (q : Nat))).setCell (p := ⟨g, 9, none⟩) hBg (.string (D.extract 0 (D.size - q)))
                    clear c0 c1 c2 c3 c4 c5 c6 c7 c8 c9 c10 k0 k1 k2 k3 k4 k5 k6 k7 k8 k9 k10 z0 z1 z2 z3 z4 z5 z6 z7 z8 z9 z10 f0 f1 f2 f3 f4 f5 f6 f7 f8 f9 f10
                    generalize (wr.setCell ⟨g, 10, none⟩ (.int .i64 (q : Nat))).setCell ⟨g, 9, none⟩ (.string (D.extract 0 (D.size - q))) = w7 at hPy hZy hvy hby ⊢
                    clear hPx hPF hZF hvF hbF
                    have hZF := hZy
                    have hvF := hvy
                    clear hZy hvy
                    obtain ⟨c0, c1, c2, c3, c4, c5, c6, c7, c8, c9, c10⟩ := hPy.cells
                    obtain ⟨k0, k1, k2, k3, k4, k5, k6, k7, k8, k9, k10⟩ := hPy.frees
                    obtain ⟨z0, z1, z2, z3, z4, z5, z6, z7, z8, z9, z10⟩ := RkIn.cells hZF
                    obtain ⟨f0, f1, f2, f3, f4, f5, f6, f7, f8, f9, f10⟩ := RkIn.frees hZF
                    have hZp := rk_put hZF (.bool mk) (.int .i64 (q3 : Nat)) (.int .i64 (A1 : Nat)) (.int .i64 (A2 : Nat)) (.int .i64 (A3 : Nat)) (.slice ad xs.length cc) (.bool hx) (.int .i64 prof) (.string ext) (.string (D.extract 0 (D.size - q))) (.int .i64 (q : Nat))
                    have HZP := Lib.hid hZp
                    have HOP := Lib.hid (rk_putOnly w7 g2 (.bool mk) (.int .i64 (q3 : Nat)) (.int .i64 (A1 : Nat)) (.int .i64 (A2 : Nat)) (.int .i64 (A3 : Nat)) (.slice ad xs.length cc) (.bool hx) (.int .i64 prof) (.string ext) (.string (D.extract 0 (D.size - q))) (.int .i64 (q : Nat)))
                    have HBP := Lib.hid (hby.trans (HOP.out.below hg2B))
                    clear hZp
                    repeat ((fail_if_success (with_reducible (show Exit.then _ _ Exit.ret _ _))); (first | go_skip | go_guarded | go_step | go_upon | go_back))
                    show bodyPost Try.prog Try.f9 (ParsedD s w) Exit.ret _ _
                    obtain ⟨d0, d1, d2, d3, d4, d5, d6, d7, d8, d9, d10⟩ := RkIn.cells HZP.out
                    refine bodyPost_ret (v := .tuple #[.agg #[.bool mk, .int .i64 (q3 : Nat), .int .i64 (A1 : Nat), .int .i64 (A2 : Nat), .int .i64 (A3 : Nat), .slice ad xs.length cc, .bool hx, .int .i64 prof, .string ext, .string (D.extract 0 (D.size - q)), .int .i64 (q : Nat)], .int .i64 0]) (by simp [results, Try.results9, go_sem, d0, d1, d2, d3, d4, d5, d6, d7, d8, d9, d10]) rfl (parsedDGood (hpA s n hx prof ext (D.extract 0 (D.size - q)) (q : Nat)) ad cc HBP.out ?_ hr ?_)
                    · rw [hpA_cells s n hx prof ext (D.extract 0 (D.size - q)) (q : Nat) ad cc G xs mk q3 E1.out Hmk.out Hq3.out hxs2.out, HA1.out, HA2.out, HA3.out]
                    · rw [show (hpA s n hx prof ext (D.extract 0 (D.size - q)) (q : Nat)).others = xs from hxs2.out]
                      exact own_only hvF hZF (rk_ne _) HOP.out
        · have s6e : (((F / 32 % 2 : Nat) : Int) == 1) = false := by rw [beq_eq_false_iff_ne]; omega
          have hr : Hid (refP s = .inr (hpA s n hx prof ext D 0)) := by show _ = _; rw [hfin2.out, if_neg (by rw [E0.out]; exact hpd)]
          generalize F / 32 % 2 = q5 at s5e s6e
          clear hfin2 hpd
          have hZp := rk_put hZF (.bool mk) (.int .i64 (q3 : Nat)) (.int .i64 (A1 : Nat)) (.int .i64 (A2 : Nat)) (.int .i64 (A3 : Nat)) (.slice ad xs.length cc) (.bool hx) (.int .i64 prof) (.string ext) (.string D) (.int .i64 0)
          have HZP := Lib.hid hZp
          have HOP := Lib.hid (rk_putOnly w6 g2 (.bool mk) (.int .i64 (q3 : Nat)) (.int .i64 (A1 : Nat)) (.int .i64 (A2 : Nat)) (.int .i64 (A3 : Nat)) (.slice ad xs.length cc) (.bool hx) (.int .i64 prof) (.string ext) (.string D) (.int .i64 0))
          have HBP := Lib.hid (hbF.trans (HOP.out.below hg2B))
          clear hZp
          repeat ((fail_if_success (with_reducible (show Exit.then _ _ Exit.ret _ _))); (first | go_skip | go_guarded | go_step | go_upon | go_back))
          show bodyPost Try.prog Try.f9 (ParsedD s w) Exit.ret _ _
          obtain ⟨d0, d1, d2, d3, d4, d5, d6, d7, d8, d9, d10⟩ := RkIn.cells HZP.out
          refine bodyPost_ret (v := .tuple #[.agg #[.bool mk, .int .i64 (q3 : Nat), .int .i64 (A1 : Nat), .int .i64 (A2 : Nat), .int .i64 (A3 : Nat), .slice ad xs.length cc, .bool hx, .int .i64 prof, .string ext, .string D, .int .i64 0], .int .i64 0]) (by simp [results, Try.results9, go_sem, d0, d1, d2, d3, d4, d5, d6, d7, d8, d9, d10]) rfl (parsedDGood (hpA s n hx prof ext D 0) ad cc HBP.out ?_ hr ?_)
          · rw [hpA_cells s n hx prof ext D 0 ad cc G xs mk q3 E1.out Hmk.out Hq3.out hxs2.out, HA1.out, HA2.out, HA3.out]
          · rw [show (hpA s n hx prof ext D 0).others = xs from hxs2.out]
            exact own_only hvF hZF (rk_ne _) HOP.out
end Go.Proofs.Ytilobmebfeenfaa
