/- subflow: reading all lines. -/
import Derived.Test.YtjoikidnnhjogaaMSfR
import Derived.Test.YtjoikidnnhjogaaMSfC
namespace Go.Proofs.Ytjoikidnnhjogaa
open Go.RowKit
set_option linter.unusedVariables false
theorem liNx_le (st : ByteArray × Int) : (liNx st).1.size ≤ st.1.size := liS_le st 10
def lisRd : Nat → ByteArray × Int → List LI
  | 0, _ => []
  | n + 1, st => if st.1.size = 0 then [] else liRd st :: lisRd n (liNx st)
def lsRd (s : ByteArray) : LS := ⟨(getN (by_ (rawT s 4)) : Nat), lisRd 15 (rd (s, 0) 4)⟩
theorem lisRd_step (n k : Nat) (st st' : ByteArray × Int) (xs : List LI) (hk : k < n) (h : xs ++ lisRd (n - k) st' = lisRd n st) (h0 : st'.1.size ≠ 0) : (xs ++ [liRd st']) ++ lisRd (n - (k + 1)) (liNx st') = lisRd n st := by
  rw [← h, show n - k = (n - (k + 1)) + 1 from by omega]
  rw [lisRd, if_neg h0]
  simp
theorem lisRd_end0 (n k : Nat) (st st' : ByteArray × Int) (xs : List LI) (h : xs ++ lisRd (n - k) st' = lisRd n st) (h0 : st'.1.size = 0 ∨ k = n) : xs = lisRd n st := by
  rw [← h]
  rcases h0 with h0 | h0
  · cases hn : n - k with
    | zero => simp [lisRd]
    | succ m => rw [lisRd, if_pos h0, List.append_nil]
  · rw [h0, Nat.sub_self]; simp [lisRd]
/-- What readAll leaves. -/
def RdAllL (b : Nat) (l : List LI) (w : World) (e : Ending) (w' : World) : Prop :=
  Ex b w w' ∧ ∃ a c, e = .returned (.slice a l.length c) ∧ ReadsL LI.vals w' a l
set_option maxRecDepth 100000 in
set_option maxHeartbeats 1600000 in
theorem readAllL_any (b : Nat) (st : ByteArray × Int) (w : World) (hI : InAt w b st.1 st.2) (hs : st.1.size ≤ 1099511627776) :
    Calls Try.prog 97 #[.pointer (some ⟨b, 0, none⟩), .func (.func 98) #[] #[]] w (RdAllL b (lisRd 15 st) w) := by
  obtain ⟨i0, hi, hz0, hz1, hz2⟩ := info_parts infoLi
  unfold RdAllL
  obtain ⟨R, hR⟩ : ∃ R, lisRd 15 st = R := ⟨_, rfl⟩
  have HST : Hid (([] : List LI) ++ lisRd (15 - 0) st = R) := Lib.hid (by rw [← hR]; rfl)
  have HSP := Lib.hid (fun (k : Nat) (st' : ByteArray × Int) (xs : List LI) (hk : k < 15) (h : xs ++ lisRd (15 - k) st' = R) (h0 : st'.1.size ≠ 0) => (by rw [← hR] at h ⊢; exact lisRd_step 15 k st st' xs hk h h0 : (xs ++ [liRd st']) ++ lisRd (15 - (k + 1)) (liNx st') = R))
  have HEN := Lib.hid (fun (k : Nat) (st' : ByteArray × Int) (xs : List LI) (h : xs ++ lisRd (15 - k) st' = R) (h0 : st'.1.size = 0 ∨ k = 15) => (by rw [← hR] at h ⊢; exact lisRd_end0 15 k st st' xs h h0 : xs = R))
  rw [hR]
  clear hR
  have hbw := hI.lt
  obtain ⟨g, hg⟩ : ∃ g, w.heap.size = g := ⟨_, rfl⟩
  have hgw : g ≤ w.heap.size := by omega
  have HG := Lib.hid hg
  clear hg
  go_enter Try.func97, Try.ntmps97
  go_wp2_with fail
  go_loopw [5] (fun z wr => ∃ (a : Option Addr) (k c : Nat) (xs : List LI) (st' : ByteArray × Int), z = .slice a k c ∧ xs.length = k ∧ k ≤ 15 ∧ wr.ownsRow g 128 8 (.slice a k c) k (lisV xs) ∧ InAt wr b st'.1 st'.2 ∧ Ex b w wr ∧ st'.1.size ≤ 1099511627776 ∧ Hid (xs ++ lisRd (15 - k) st' = R)) (fun z _ => 15 - lenV z)
  case atStart => exact ⟨none, 0, 0, [], st, rfl, rfl, by omega, World.ownsRow_nil _ _ _ _, hI, Ex.refl _ _, hs, HST⟩
  case round =>
    obtain ⟨a, k, c, xs, st', rfl, hxl, hk, hv, hI1, hx1, hs1, HJ⟩ := hrel
    clear hI HST
    have HL := Lib.hid (fun W (h : InAt W b st'.1 st'.2) => left_any b st'.1 st'.2 W h)
    by_cases h15 : k < 15
    · by_cases h0 : st'.1.size = 0
      · have h0' : ((st'.1.size : Nat) : Int) = 0 := by omega
        have hE := HEN.out k st' xs HJ.out (.inl h0)
        clear HSP HEN HJ h0
        go_wp2_with fail
        refine (HL.out _ hI1).mono ?_
        rintro e w' ⟨rfl, rfl⟩
        go_wp2
        go_ret
        subst hE
        first | exact ⟨hx1, a, c, by rw [hxl]; rfl, own_readsL hv⟩ | exact ⟨hx1, a, ⟨c, by rw [hxl]; rfl⟩, own_readsL hv⟩
      · have h0' : (0 : Int) < ((st'.1.size : Nat) : Int) := by omega
        have HJ2 := Lib.hid (HSP.out k st' xs h15 HJ.out h0)
        have hRA := Lib.hid (fun W (h : InAt W b st'.1 st'.2) => readLine_any b st' W h (by omega))
        unfold RdLi at hRA
        have hs2 : (liNx st').1.size ≤ 1099511627776 := by
          exact Nat.le_trans (liNx_le _) hs1
        have hAV : Hid (lisV (xs ++ [liRd st']) = lisV xs ++ [.int .i64 (liRd st').path, .int .i64 (liRd st').frac, .int .i64 (liRd st').lost, .int .u32 (liRd st').high, .int .u32 (liRd st').jit, .int .u32 (liRd st').bytes, .int .u32 (liRd st').last, .int .u32 (liRd st').delay]) := Lib.hid (by unfold lisV; simp [LI.vals])
        generalize liRd st' = p at HJ2 hRA hAV
        generalize liNx st' = st2 at HJ2 hRA hs2
        obtain ⟨path, frac, lost, high, jit, bytes, last, delay⟩ := p
        simp only at hRA hAV
        clear HSP HEN HJ h0
        go_wp2_with fail
        refine (HL.out _ hI1).mono ?_
        rintro e w' ⟨rfl, rfl⟩
        go_wp2_with fail
        refine (hRA.out _ hI1).mono ?_
        rintro e w5 ⟨rfl, hxx, hI5⟩
        have hv5 : w5.ownsRow g 128 8 (.slice a k c) k (lisV xs) := own_ex hv hxx (row_neP hv hI1 (by intro cur q e; cases e))
        have hx5 := hx1.trans hxx
        have hg5 : g ≤ w5.heap.size := Nat.le_trans hgw hx5.size
        clear hv hI1 hx1 hxx HL h0'
        go_wp2_with (at_builtin; refine append_rec (by rfl) (.tmp 14) (.tmp 18) 27 (by rfl) g 128 i0 (.agg #[.int .i64 0, .int .i64 0, .int .i64 0, .int .u32 0, .int .u32 0, .int .u32 0, .int .u32 0, .int .u32 0]) 8 48 Try.underlying27 hi hz0 hz1 hz2 rfl (by decide) _ k (lisV xs) (by rfl) hv5 #[.int .i64 path, .int .i64 frac, .int .i64 lost, .int .u32 high, .int .u32 jit, .int .u32 bytes, .int .u32 last, .int .u32 delay] rfl (by rfl) ?d1 ?d2 ?d3 g (Nat.le_refl _) hg5 (Below.refl g w5) ?_)
        case d1 => exact ⟨rfl, rfl, rfl, rfl, rfl, rfl, rfl, rfl⟩
        case d2 => unfold maxLen; omega
        case d3 => omega
        intro v' w6 hown6 hb6 hg6
        obtain ⟨ad, cq, rfl⟩ : ∃ ad cq, v' = .slice ad (k + 1) cq := by
          rcases hown6.2 with ⟨_, h0⟩ | ⟨g', cap, cur, rfl, _⟩
          · omega
          · exact ⟨_, _, rfl⟩
        have hown7 : w6.ownsRow g 128 8 (.slice ad (k + 1) cq) (k + 1) (lisV (xs ++ [⟨path, frac, lost, high, jit, bytes, last, delay⟩])) := by rw [hAV.out]; exact hown6
        have hI5a := hI5.alloc (.cells #[.int .i64 path, .int .i64 frac, .int .i64 lost, .int .u32 high, .int .u32 jit, .int .u32 bytes, .int .u32 last, .int .u32 delay] 128)
        have hI6 : InAt w6 b st2.1 st2.2 := by
          unfold InAt
          rw [hg6.block b hI5a.lt (row_neP (hv5.alloc (.cells #[.int .i64 path, .int .i64 frac, .int .i64 lost, .int .u32 high, .int .u32 jit, .int .u32 bytes, .int .u32 last, .int .u32 delay] 128)) hI5a (by intro cur q e; cases e))]
          exact hI5a
        have hx6 : Ex b w w6 := ⟨hb6.os.trans hx5.os, hb6.tape.trans hx5.tape, hb6.output.trans hx5.output, Nat.le_trans hx5.size hb6.size, fun i hi hne => (hb6.block i (by rw [← HG.out]; exact hi)).trans (hx5.block i hi hne)⟩
        clear hown6 hb6 hg6 hv5 hI5 hI5a hx5
        go_wp2
        go_roundw
        case rel => exact ⟨ad, k + 1, cq, xs ++ [⟨path, frac, lost, high, jit, bytes, last, delay⟩], st2, rfl, by simp [hxl], by omega, hown7, hI6, hx6, hs2, HJ2⟩
        case measure => simp [lenV]; omega
    · obtain rfl : k = 15 := by omega
      have hE := HEN.out 15 st' xs HJ.out (.inr rfl)
      clear HSP HEN HJ
      go_wp2
      go_ret
      subst hE
      first | exact ⟨hx1, a, c, by rw [hxl]; rfl, own_readsL hv⟩ | exact ⟨hx1, a, ⟨c, by rw [hxl]; rfl⟩, own_readsL hv⟩
def lsAt (st : ByteArray × Int) : LS := ⟨(getN (by_ (rawT st.1 4)) : Nat), lisRd 15 (rd st 4)⟩
theorem lsRd_at (s : ByteArray) : lsRd s = lsAt (s, 0) := rfl
theorem lsAt_ok (st : ByteArray × Int) : 0 ≤ (lsAt st).src ∧ (lsAt st).src ≤ 4294967295 ∧ (lsAt st).all.length ≤ 15 := by
  have h := getN_raw st.1 4
  have hl : ∀ (n : Nat) (st : ByteArray × Int), (lisRd n st).length ≤ n := by
    intro n
    induction n with
    | zero => intro st; simp [lisRd]
    | succ n ih =>
      intro st
      rw [lisRd]
      split
      · simp
      · have := ih (liNx st); simp; omega
  have h2 := hl 15 (rd st 4)
  rw [show (((4 : Nat) : Int)) = 4 from rfl] at h
  unfold lsAt
  simp only
  exact ⟨by omega, by omega, h2⟩
/-- What readAdverts leaves. -/
def RdLis (b : Nat) (q : LS) (w : World) (e : Ending) (w' : World) : Prop :=
  Ex b w w' ∧ ∃ a c, e = .returned (.agg #[.int .u32 q.src, .slice a q.all.length c]) ∧ ReadsL LI.vals w' a q.all
theorem ReadsL.only {T : TypeId} {W W' : World} {g : Nat} {a : Option Addr} {l : List LI} {cs : Array Value} (h : ReadsL LI.vals W a l) (hA : AtC T W g cs) (hne : cs.size = 2) (ho : Only g W W') : ReadsL LI.vals W' a l := by
  rcases h with h | ⟨b, off, ha, hc⟩
  · exact .inl h
  · by_cases hl : l = []
    · exact .inl hl
    · refine .inr ⟨b, off, ha, fun i hi j v hv => ?_⟩
      have hne : b ≠ g := by
        rintro rfl
        have h3 := hc i hi 2 _ rfl
        rw [hA.cell] at h3
        have q3 := (Array.getElem?_eq_some_iff.1 h3).1
        omega
      have hb := ho.block b hne
      have := hc i hi j v hv
      unfold World.cell? at this ⊢
      simp only at this ⊢
      rw [hb]
      exact this
set_option maxRecDepth 100000 in
set_option maxHeartbeats 1600000 in
theorem readLines_any (b : Nat) (st : ByteArray × Int) (w : World) (hI : InAt w b st.1 st.2) (hs : st.1.size ≤ 1099511627776) :
    Calls Try.prog 57 #[.pointer (some ⟨b, 0, none⟩)] w (RdLis b (lsAt st) w) := by
  have hU := fun W h => inU32_any b st.1 st.2 W h (by omega)
  have hA := fun W h => readAllL_any b (rd st 4) W h (Nat.le_trans (rawS_le _ _ _) hs)
  unfold RdLis
  have e1 : (lsAt st).src = (getN (by_ (rawT st.1 4)) : Nat) := rfl
  have e2 : (lsAt st).all = lisRd 15 (rd st 4) := rfl
  rw [e1, e2]
  clear e1 e2
  unfold RdAllL at hA
  have hU2 : ∀ W, InAt W b st.1 st.2 → Calls Try.prog 94 #[.pointer (some ⟨b, 0, none⟩)] W (Took b (.int .u32 (getN (by_ (rawT st.1 4)) : Int)) (rd st 4).1 (rd st 4).2 W) := hU
  generalize ((getN (by_ (rawT st.1 4)) : Nat) : Int) = v1 at hU2 ⊢
  generalize lisRd 15 (rd st 4) = l at hA ⊢
  generalize rd st 4 = st1 at hA hU2
  have HU := Lib.hid hU2
  have HA := Lib.hid hA
  clear hU hU2 hA
  have hX0 := atC_new 29 w #[.int .u32 0, .slice none 0 0]
  have hI0 := hI.alloc (.cells #[.int .u32 0, .slice none 0 0] 29)
  have hx0 := (Ex.refl b w).alloc (.cells #[.int .u32 0, .slice none 0 0] 29)
  have hgb : w.heap.size ≠ b := by have := hI.lt; omega
  go_enter Try.func57, Try.ntmps57
  go_wp2_with fail
  generalize w.alloc (.cells #[.int .u32 0, .slice none 0 0] 29) = w1 at hX0 hI0 hx0 ⊢
  generalize hgg : w.heap.size = g at hX0 hgb ⊢
  have HG := Lib.hid hgg
  clear hgg hI
  refine (HU.out _ hI0).mono ?_
  rintro e w2 ⟨rfl, hI1, ho1⟩
  have hx1 := hx0.trans ho1.ex
  have hX1 := hX0.only hgb ho1
  clear hI0 hx0 hX0 ho1
  go_wp2_with fail
  refine (HA.out _ hI1).mono ?_
  rintro e w3 ⟨hxx, a3, c3, rfl, hr3⟩
  have hx3 := hx1.trans hxx
  have hX3 : AtC 29 w3 g #[.int .u32 0, .slice none 0 0] := hX1.ex hgb hxx
  clear hI1 hx1 hX1 hxx HU HA
  obtain ⟨c0, c1⟩ := hX3.cells2
  have f0 := hX3.free 0
  have f1 := hX3.free 1
  have hZ0 : AtC 29 (w3.setCell ⟨g, 0, none⟩ (.int .u32 v1)) g #[.int .u32 v1, .slice none 0 0] := block_setCell hX3
  have hXz : AtC 29 ((w3.setCell ⟨g, 0, none⟩ (.int .u32 v1)).setCell ⟨g, 1, none⟩ (.slice a3 l.length c3)) g #[.int .u32 v1, .slice a3 l.length c3] := block_setCell hZ0
  have hoz := ((Only.refl g w3).setCell 0 (.int .u32 v1)).setCell 1 (.slice a3 l.length c3)
  have hrz := hr3.only hX3 rfl hoz
  have hxz := Only.exNew hx3 (by rw [HG.out]; exact Nat.le_refl _) hoz
  go_wp2_with fail
  generalize ((w3.setCell ⟨g, 0, none⟩ (.int .u32 v1)).setCell ⟨g, 1, none⟩ (.slice a3 l.length c3)) = wz at hXz hoz hrz hxz ⊢
  clear c0 c1 f0 f1 hX3 hx3 hoz hZ0
  obtain ⟨d0, d1⟩ := hXz.cells2
  refine bodyPost_ret (v := .agg #[.int .u32 v1, .slice a3 l.length c3]) (by simp [results, Try.results57, go_sem, d0, d1]) rfl ?_
  first | exact ⟨hxz, a3, c3, rfl, hrz⟩ | exact ⟨hxz, a3, ⟨c3, rfl⟩, hrz⟩
end Go.Proofs.Ytjoikidnnhjogaa

