/- notes.back, for who goes; ToBye. -/
import Derived.Test.YtjoikidnnhjogaaNtG
import Derived.Test.YtjoikidnnhjogaaNtD
namespace Go.Proofs.Ytjoikidnnhjogaa
open Go.RowKit
set_option linter.unusedVariables false
def toBE (p : PC) : Int := if p.kind ≠ 203 then 5 else if byP (byRd p) = p then 0 else 1
def toB (p : PC) : BY := if toBE p = 0 then byRd p else zeroBY
/-- What ToBye leaves. -/
def ToBd (p : PC) (w : World) (e : Ending) (w' : World) : Prop := Below w.heap.size w w' ∧ ∃ a c, e = .returned (.tuple #[.agg #[.string (toB p).reason, .slice a (toB p).srcs.length c], .int .i64 (toBE p)]) ∧ Reads .u32 w' a (toB p).srcs
theorem reads_only2 {T : TypeId} {W W' : World} {g : Nat} {a a2 : Option Addr} {n2 c2 : Nat} {s : ByteArray} {zs : List Int} {k : IntKind} (h : Reads k W a zs) (hA : AtC T W g #[.string s, .slice a2 n2 c2]) (ho : Only g W W') : Reads k W' a zs := by
  rcases h with h | ⟨b, off, ha, hc⟩
  · exact .inl h
  · by_cases hl : zs = []
    · exact .inl hl
    · refine .inr ⟨b, off, ha, fun i hi => ?_⟩
      have hne : b ≠ g := by
        rintro rfl
        have h1 := hc i hi
        rw [hA.cell] at h1
        match off + i, h1 with
        | 0, h1 => simp at h1
        | 1, h1 => simp at h1
        | (n + 2), h1 => simp at h1
      have hb := ho.block b hne
      have := hc i hi
      unfold World.cell? at this ⊢
      simp only at this ⊢
      rw [hb]
      exact this
theorem byRd_len (p : PC) : (byRd p).srcs.length ≤ 31 := by
  unfold byRd byN
  rw [osF_len]
  omega
theorem byRs_le (st : ByteArray × Int) : (byRs st).size ≤ st.1.size := by
  unfold byRs
  split
  · exact Nat.zero_le _
  · skip
    have h2 := (rawT_size (rd st 1).1 ((getN (by_ (rawT st.1 1)) : Nat) : Int)).2
    have h3 : (rd st 1).1.size ≤ st.1.size := rawS_le _ _ _
    omega
set_option maxRecDepth 100000 in
set_option maxHeartbeats 3200000 in
theorem backBye_any (p : PC) (w : World) (hs : p.body.size ≤ 1099511627776) :
    Calls Try.prog 74 #[.agg #[.int .i64 p.count, .int .i64 p.kind, .string p.body], .int .i64 203, .func (.func 75) #[] #[], .func (.func 24) #[] #[]] w (ToBd p w) := by
  unfold ToBd
  have hRd := fun W => readBye_any p W hs
  unfold RdBy at hRd
  have hrs : (byRd p).reason.size ≤ 9223372036854775807 := by
    have h1 := byRs_le (rds (p.body, 0) (byN p))
    have h2 := rds_le (p.body, (0 : Int)) (byN p)
    have h3 : (byRd p).reason = byRs (rds (p.body, 0) (byN p)) := rfl
    rw [h3]
    have h4 : (p.body, (0 : Int)).1.size = p.body.size := rfl
    omega
  have hln := byRd_len p
  have HPi := Lib.hid (fun W a c h => byePiece_any (byRd p) a c W h (by omega) hrs)
  have hE : toBE p = if p.kind ≠ 203 then 5 else if byP (byRd p) = p then 0 else 1 := rfl
  have hT : toB p = if toBE p = 0 then byRd p else zeroBY := rfl
  generalize toB p = tA at hT ⊢
  generalize toBE p = tE at hE hT ⊢
  generalize byP (byRd p) = q at HPi hE
  generalize byRd p = nt at HPi hRd hT
  clear hrs hln
  obtain ⟨nrs, nsr⟩ := nt
  obtain ⟨count, kind, s⟩ := p
  obtain ⟨qc, qk, qs⟩ := q
  simp only at *
  have HRd := Lib.hid hRd
  clear hRd
  have hX1 := pc_new w ⟨count, kind, s⟩
  have hX2 := hX1.alloc (.cells #[.string { data := #[] }, .slice none 0 0] 52)
  have hY2 := atC_new 52 (w.alloc (.cells #[.int .i64 count, .int .i64 kind, .string s] 33)) #[.string { data := #[] }, .slice none 0 0]
  have hb2 : Below w.heap.size w ((w.alloc (.cells #[.int .i64 count, .int .i64 kind, .string s] 33)).alloc (.cells #[.string { data := #[] }, .slice none 0 0] 52)) := by go_grown
  have hne : (w.alloc (.cells #[.int .i64 count, .int .i64 kind, .string s] 33)).heap.size = w.heap.size + 1 := by simp
  rw [hne] at hY2
  clear hX1 hne
  go_enter Try.func74, Try.ntmps74
  go_upto_region 1 with fail
  generalize (w.alloc (.cells #[.int .i64 count, .int .i64 kind, .string s] 33)).alloc (.cells #[.string { data := #[] }, .slice none 0 0] 52) = w2 at hX2 hY2 hb2 ⊢
  have hgB : w.heap.size ≤ w.heap.size + 1 := by omega
  have hgn : w.heap.size ≠ w.heap.size + 1 := by omega
  generalize hg2 : w.heap.size + 1 = g2 at hY2 hgB hgn ⊢
  generalize hg : w.heap.size = g at hX2 hb2 hgB hgn ⊢
  have HG := Lib.hid hg
  clear hg2 hg
  have hX3 := hX2.alloc (.cells #[.string { data := #[] }, .slice none 0 0] 52)
  have hY3 := hY2.alloc (.cells #[.string { data := #[] }, .slice none 0 0] 52)
  have hN3 := atC_new 52 w2 #[.string { data := #[] }, .slice none 0 0]
  have hb3 := hb2.alloc (by have := hX2.lt; omega) (.cells #[.string { data := #[] }, .slice none 0 0] 52)
  have hn3 : g2 < w2.heap.size := hY2.lt
  go_upto_region 2 with fail
  generalize w2.alloc (.cells #[.string { data := #[] }, .slice none 0 0] 52) = w3 at hX3 hY3 hN3 hb3 ⊢
  generalize w2.heap.size = g3 at hN3 hn3 ⊢
  clear hX2 hY2 hb2
  obtain ⟨x0, x1, x2, _⟩ := pcAt_S hX3
  obtain ⟨z0, z1⟩ := hN3.cells2
  have hg3 : g < w3.heap.size := hX3.lt
  by_cases hk : kind = 203
  · subst hk
    rw [if_neg (by simp)] at hE
    go_wp2_with fail
    refine (HRd.out _).mono ?_
    rintro e w4 ⟨hb4, a4, c4, rfl, hr4⟩
    have hal : Below w4.heap.size w4 (w4.alloc (.cells #[.string nrs, .slice a4 nsr.length c4] 52)) := (Below.refl _ _).alloc (Nat.le_refl _) _
    have hX5 := (hX3.later hb4).alloc (.cells #[.string nrs, .slice a4 nsr.length c4] 52)
    have hY5 := (hY3.later hb4).alloc (.cells #[.string nrs, .slice a4 nsr.length c4] 52)
    have hN5 := (hN3.later hb4).alloc (.cells #[.string nrs, .slice a4 nsr.length c4] 52)
    have hM5 := atC_new 52 w4 #[.string nrs, .slice a4 nsr.length c4]
    have hr5 := hr4.later hal
    have hbb4 := hb3.trans (hb4.mono (by omega))
    have hg4 : g < w4.heap.size := by have := hb4.size; omega
    have hbb5 := hbb4.trans (hal.mono (by omega))
    clear hX3 hY3 hN3 hb3 hb4 hal hbb4 HRd hr4 x0 x1 x2 z0 z1
    go_upto_region 5 with fail
    generalize w4.alloc (.cells #[.string nrs, .slice a4 nsr.length c4] 52) = w5 at hX5 hY5 hN5 hM5 hbb5 hr5 ⊢
    generalize w4.heap.size = g4 at hM5 hg4 ⊢
    obtain ⟨x0, x1, x2, _⟩ := pcAt_S hX5
    obtain ⟨m0, m1⟩ := hM5.cells2
    have hg5 : g ≤ w5.heap.size := by have := hX5.lt; omega
    have hd5 : Below w5.heap.size w5 w5.drew := by go_grown
    have HR5 := Lib.hid (fun W (h : Below w5.heap.size w5 W) => hr5.later h)
    clear hr5
    by_cases hq : (⟨qc, qk, qs⟩ : PC) = ⟨count, 203, s⟩
    · rw [if_pos hq] at hE
      cases hq
      subst hE
      rw [if_pos rfl] at hT
      subst hT
      go_cut [24] (fun z wx => z = .bool false ∧ Below w5.heap.size w5 wx)
      case first =>
        go_region_law (first | (go_simp; refine (HPi.out _ _ _ (HR5.out _ hd5)).mono ?_; rintro e w6 ⟨rfl, hb6⟩; have hh6 := hd5.trans hb6; obtain ⟨_, _, _, _⟩ := pcAt_S (hX5.later hh6)))
        all_goals
          go_wp2_with fail
          go_meet
          exact ⟨by simp, hh6⟩
      case rest =>
      obtain ⟨rfl, hb6⟩ := hcut
      rename World => w6
      have hY6 := hY5.later hb6
      have hM6 := hM5.later hb6
      have hr6 := HR5.out _ hb6
      have hbb6 := hbb5.trans (hb6.mono hg5)
      clear hX5 hY5 hN5 hM5 hbb5 hb6 x0 x1 x2 m0 m1 hd5 HR5
      obtain ⟨m0, m1⟩ := hM6.cells2
      obtain ⟨y0, y1⟩ := hY6.cells2
      have f0 := hY6.free 0
      have f1 := hY6.free 1
      have hZ0 : AtC 52 (w6.setCell ⟨g2, 0, none⟩ (.string nrs)) g2 #[.string nrs, .slice none 0 0] := block_setCell hY6
      have hZz : AtC 52 ((w6.setCell ⟨g2, 0, none⟩ (.string nrs)).setCell ⟨g2, 1, none⟩ (.slice a4 nsr.length c4)) g2 #[.string nrs, .slice a4 nsr.length c4] := block_setCell hZ0
      have hoz := ((Only.refl g2 w6).setCell 0 (.string nrs)).setCell 1 (.slice a4 nsr.length c4)
      have hbz := hbb6.trans (hoz.below hgB)
      have hrz := reads_only2 hr6 hY6 hoz
      go_wp2_with fail
      generalize ((w6.setCell ⟨g2, 0, none⟩ (.string nrs)).setCell ⟨g2, 1, none⟩ (.slice a4 nsr.length c4)) = wz at hZz hoz hbz hrz ⊢
      obtain ⟨d0, d1⟩ := hZz.cells2
      clear f0 f1 y0 y1
      refine bodyPost_ret (v := .tuple #[.agg #[.string nrs, .slice a4 nsr.length c4], .int .i64 0]) (by simp [results, Try.results74, go_sem, d0, d1]) rfl ?_
      first | exact ⟨by rw [HG.out]; exact hbz, a4, c4, rfl, hrz⟩ | exact ⟨by rw [HG.out]; exact hbz, a4, ⟨c4, rfl⟩, hrz⟩
    · rw [if_neg hq] at hE
      subst hE
      rw [if_neg (by decide)] at hT
      subst hT
      have h3 : (¬ qc = count) ∨ (qc = count ∧ ¬ qk = 203) ∨ (qc = count ∧ qk = 203 ∧ ¬ qs.toList = s.toList) := by
        by_cases c1 : qc = count
        · by_cases c2 : qk = 203
          · refine .inr (.inr ⟨c1, c2, fun c3 => hq ?_⟩)
            have c4 : qs = s := by
              have := texts_eq qs s
              rw [c3] at this
              simp at this
              exact this
            rw [c1, c2, c4]
          · exact .inr (.inl ⟨c1, c2⟩)
        · exact .inl c1
      clear hq
      go_cut [24] (fun z wx => z = .bool true ∧ Below w5.heap.size w5 wx)
      case first =>
        rcases h3 with c1 | ⟨rfl, c2⟩ | ⟨rfl, rfl, c3⟩
        all_goals
          go_region_law (first | (go_simp; refine (HPi.out _ _ _ (HR5.out _ hd5)).mono ?_; rintro e w6 ⟨rfl, hb6⟩; have hh6 := hd5.trans hb6; obtain ⟨_, _, _, _⟩ := pcAt_S (hX5.later hh6)))
          all_goals
            go_wp2_with fail
            go_meet
            exact ⟨rfl, hh6⟩
      case rest =>
      obtain ⟨rfl, hb6⟩ := hcut
      rename World => w6
      have hY6 := hY5.later hb6
      have hN6 := hN5.later hb6
      have hbb6 := hbb5.trans (hb6.mono hg5)
      clear hX5 hY5 hN5 hM5 hbb5 hb6 x0 x1 x2 m0 m1 hd5 h3 HR5
      obtain ⟨m0, m1⟩ := hN6.cells2
      obtain ⟨y0, y1⟩ := hY6.cells2
      have f0 := hY6.free 0
      have f1 := hY6.free 1
      have hZ0 : AtC 52 (w6.setCell ⟨g2, 0, none⟩ (.string { data := #[] })) g2 #[.string { data := #[] }, .slice none 0 0] := block_setCell hY6
      have hZz : AtC 52 ((w6.setCell ⟨g2, 0, none⟩ (.string { data := #[] })).setCell ⟨g2, 1, none⟩ (.slice none 0 0)) g2 #[.string { data := #[] }, .slice none 0 0] := block_setCell hZ0
      have hoz := ((Only.refl g2 w6).setCell 0 (.string { data := #[] })).setCell 1 (.slice none 0 0)
      have hbz := hbb6.trans (hoz.below hgB)
      go_wp2_with fail
      generalize ((w6.setCell ⟨g2, 0, none⟩ (.string { data := #[] })).setCell ⟨g2, 1, none⟩ (.slice none 0 0)) = wz at hZz hoz hbz ⊢
      obtain ⟨d0, d1⟩ := hZz.cells2
      clear f0 f1 y0 y1
      refine bodyPost_ret (v := .tuple #[.agg #[.string { data := #[] }, .slice none 0 0], .int .i64 1]) (by simp [results, Try.results74, go_sem, d0, d1]) rfl ?_
      first | exact ⟨by rw [HG.out]; exact hbz, none, 0, rfl, .inl rfl⟩ | exact ⟨by rw [HG.out]; exact hbz, none, ⟨0, rfl⟩, .inl rfl⟩
  · rw [if_pos hk] at hE
    subst hE
    rw [if_neg (by decide)] at hT
    subst hT
    have n0 : (kind != 203) = true := by simp [hk]
    obtain ⟨y0, y1⟩ := hY3.cells2
    have f0 := hY3.free 0
    have f1 := hY3.free 1
    have hZ0 : AtC 52 (w3.setCell ⟨g2, 0, none⟩ (.string { data := #[] })) g2 #[.string { data := #[] }, .slice none 0 0] := block_setCell hY3
    have hZz : AtC 52 ((w3.setCell ⟨g2, 0, none⟩ (.string { data := #[] })).setCell ⟨g2, 1, none⟩ (.slice none 0 0)) g2 #[.string { data := #[] }, .slice none 0 0] := block_setCell hZ0
    have hoz := ((Only.refl g2 w3).setCell 0 (.string { data := #[] })).setCell 1 (.slice none 0 0)
    have hbz := hb3.trans (hoz.below hgB)
    go_wp2_with fail
    generalize ((w3.setCell ⟨g2, 0, none⟩ (.string { data := #[] })).setCell ⟨g2, 1, none⟩ (.slice none 0 0)) = wz at hZz hoz hbz ⊢
    obtain ⟨d0, d1⟩ := hZz.cells2
    clear f0 f1 y0 y1
    refine bodyPost_ret (v := .tuple #[.agg #[.string { data := #[] }, .slice none 0 0], .int .i64 5]) (by simp [results, Try.results74, go_sem, d0, d1]) rfl ?_
    first | exact ⟨by rw [HG.out]; exact hbz, none, 0, rfl, .inl rfl⟩ | exact ⟨by rw [HG.out]; exact hbz, none, ⟨0, rfl⟩, .inl rfl⟩
set_option maxHeartbeats 1600000 in
theorem toBye_any (p : PC) (w : World) (hs : p.body.size ≤ 1099511627776) :
    Calls Try.prog 27 #[.agg #[.int .i64 p.count, .int .i64 p.kind, .string p.body]] w (ToBd p w) := by
  have hB := fun W => backBye_any p W hs
  unfold ToBd at hB ⊢
  generalize toB p = tA at hB ⊢
  generalize toBE p = tE at hB ⊢
  obtain ⟨nrs, nsr⟩ := tA
  obtain ⟨count, kind, s⟩ := p
  simp only at *
  have HB := Lib.hid hB
  clear hB
  have hX1 := pc_new w ⟨count, kind, s⟩
  have hX2 := hX1.alloc (.cells #[.string { data := #[] }, .slice none 0 0] 52)
  have hY2 := atC_new 52 (w.alloc (.cells #[.int .i64 count, .int .i64 kind, .string s] 33)) #[.string { data := #[] }, .slice none 0 0]
  have hb2 : Below w.heap.size w ((w.alloc (.cells #[.int .i64 count, .int .i64 kind, .string s] 33)).alloc (.cells #[.string { data := #[] }, .slice none 0 0] 52)) := by go_grown
  have hne : (w.alloc (.cells #[.int .i64 count, .int .i64 kind, .string s] 33)).heap.size = w.heap.size + 1 := by simp
  rw [hne] at hY2
  clear hX1 hne
  go_enter Try.func27, Try.ntmps27
  go_upto_region 1 with fail
  generalize (w.alloc (.cells #[.int .i64 count, .int .i64 kind, .string s] 33)).alloc (.cells #[.string { data := #[] }, .slice none 0 0] 52) = w2 at hX2 hY2 hb2 ⊢
  have hgB : w.heap.size ≤ w.heap.size + 1 := by omega
  generalize hg2 : w.heap.size + 1 = g2 at hY2 hgB ⊢
  generalize hg : w.heap.size = g at hX2 hb2 hgB ⊢
  have HG := Lib.hid hg
  clear hg2 hg
  obtain ⟨x0, x1, x2, _⟩ := pcAt_S hX2
  go_wp2_with fail
  refine (HB.out _).mono ?_
  rintro e w3 ⟨hb3, a3, c3, rfl, hr3⟩
  have hY3 := hY2.later hb3
  have hbb3 := hb2.trans (hb3.mono (by have := hX2.lt; omega))
  clear hX2 hY2 hb2 hb3 x0 x1 x2
  obtain ⟨y0, y1⟩ := hY3.cells2
  have f0 := hY3.free 0
  have f1 := hY3.free 1
  have hZ0 : AtC 52 (w3.setCell ⟨g2, 0, none⟩ (.string nrs)) g2 #[.string nrs, .slice none 0 0] := block_setCell hY3
  have hZz : AtC 52 ((w3.setCell ⟨g2, 0, none⟩ (.string nrs)).setCell ⟨g2, 1, none⟩ (.slice a3 nsr.length c3)) g2 #[.string nrs, .slice a3 nsr.length c3] := block_setCell hZ0
  have hoz := ((Only.refl g2 w3).setCell 0 (.string nrs)).setCell 1 (.slice a3 nsr.length c3)
  have hbz := hbb3.trans (hoz.below hgB)
  have hrz := reads_only2 hr3 hY3 hoz
  go_wp2_with fail
  generalize ((w3.setCell ⟨g2, 0, none⟩ (.string nrs)).setCell ⟨g2, 1, none⟩ (.slice a3 nsr.length c3)) = wz at hZz hoz hbz hrz ⊢
  obtain ⟨d0, d1⟩ := hZz.cells2
  clear f0 f1 y0 y1
  refine bodyPost_ret (v := .tuple #[.agg #[.string nrs, .slice a3 nsr.length c3], .int .i64 tE]) (by simp [results, Try.results27, go_sem, d0, d1]) rfl ?_
  first | exact ⟨by rw [HG.out]; exact hbz, a3, c3, rfl, hrz⟩ | exact ⟨by rw [HG.out]; exact hbz, a3, ⟨c3, rfl⟩, hrz⟩
end Go.Proofs.Ytjoikidnnhjogaa

