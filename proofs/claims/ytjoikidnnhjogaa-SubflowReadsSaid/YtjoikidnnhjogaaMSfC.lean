/- subflow: reading adverts. -/
import Derived.Test.YtjoikidnnhjogaaMSfA
import Derived.Test.YtjoikidnnhjogaaMb
namespace Go.Proofs.Ytjoikidnnhjogaa
open Go.RowKit
set_option linter.unusedVariables false
/-- What readAdvert leaves. -/
def RdAdv (b : Nat) (st : ByteArray × Int) (w : World) (e : Ending) (w' : World) : Prop :=
  e = .returned (.agg #[.int .i64 (adRd st).path, .bool (adRd st).up, .int .i64 (adRd st).rate]) ∧ Ex b w w' ∧ InAt w' b (adNx st).1 (adNx st).2
set_option maxRecDepth 100000 in
set_option maxHeartbeats 1600000 in
theorem readAdvert_any (b : Nat) (st : ByteArray × Int) (w : World) (hI : InAt w b st.1 st.2) (hs : st.1.size ≤ 9223372036854775807) :
    Calls Try.prog 100 #[.pointer (some ⟨b, 0, none⟩)] w (RdAdv b st w) := by
  obtain ⟨st1, h1⟩ : ∃ x, rd st 1 = x := ⟨_, rfl⟩
  obtain ⟨st2, h2⟩ : ∃ x, rd st1 1 = x := ⟨_, rfl⟩
  obtain ⟨st3, h3⟩ : ∃ x, rd st2 2 = x := ⟨_, rfl⟩
  have le : ∀ (st : ByteArray × Int) (n : Int), st.1.size ≤ 9223372036854775807 → (rd st n).1.size ≤ 9223372036854775807 := fun st n h => Nat.le_trans (rawS_le _ _ _) h
  have l1 := le _ 1 hs
  rw [h1] at l1
  have l2 := le _ 1 l1
  rw [h2] at l2
  have H1 := fun W h => u8_st b st W h hs
  have H2 := fun W h => u8_st b st1 W h l1
  have H3 := fun W h => u16_st b st2 W h l2
  rw [h1] at H1
  rw [h2] at H2
  rw [h3] at H3
  have hA : adRd st = ⟨(getN (by_ (rawT st.1 1)) : Nat), decide (((getN (by_ (rawT st1.1 1)) : Nat) : Int) = 1), (getN (by_ (rawT st2.1 2)) : Nat)⟩ := by unfold adRd; rw [h1, h2]
  have hN : adNx st = st3 := by unfold adNx; rw [h1, h2, h3]
  unfold RdAdv
  rw [hA, hN]
  clear hA hN h1 h2 h3 le l1 l2 hs
  generalize ((getN (by_ (rawT st.1 1)) : Nat) : Int) = v1 at H1 ⊢
  generalize ((getN (by_ (rawT st1.1 1)) : Nat) : Int) = v2 at H2 ⊢
  generalize ((getN (by_ (rawT st2.1 2)) : Nat) : Int) = v3 at H3 ⊢
  simp only
  have K1 := Lib.hid H1
  have K2 := Lib.hid H2
  have K3 := Lib.hid H3
  clear H1 H2 H3
  obtain ⟨bu, hbu⟩ : ∃ bu : Bool, decide (v2 = 1) = bu := ⟨_, rfl⟩
  rw [hbu]
  have HBU := Lib.hid hbu
  clear hbu
  have hX0 := atC_new 115 w #[.int .i64 0, .bool false, .int .i64 0]
  have hI0 := hI.alloc (.cells #[.int .i64 0, .bool false, .int .i64 0] 115)
  have hx0 := (Ex.refl b w).alloc (.cells #[.int .i64 0, .bool false, .int .i64 0] 115)
  have hgb : w.heap.size ≠ b := by have := hI.lt; omega
  go_enter Try.func100, Try.ntmps100
  go_wp2_with fail
  generalize w.alloc (.cells #[.int .i64 0, .bool false, .int .i64 0] 115) = w1 at hX0 hI0 hx0 ⊢
  generalize hgg : w.heap.size = g at hX0 hgb ⊢
  have HG := Lib.hid hgg
  clear hgg hI
  refine (K1.out _ hI0).mono ?_
  rintro e w2 ⟨rfl, hI1, ho1⟩
  have hx1 := hx0.trans ho1.ex
  have hX1 := hX0.only hgb ho1
  clear hI0 hx0 hX0 ho1
  go_wp2_with fail
  refine (K2.out _ hI1).mono ?_
  rintro e w3 ⟨rfl, hI2, ho2⟩
  have hx2 := hx1.trans ho2.ex
  have hX2 := hX1.only hgb ho2
  clear hI1 hx1 hX1 ho2
  have hq : (v2 == 1) = bu := by rw [← HBU.out]; rfl
  go_wp2_with fail
  refine (K3.out _ hI2).mono ?_
  rintro e w4 ⟨rfl, hI3, ho3⟩
  have hx3 := hx2.trans ho3.ex
  have hX3 := hX2.only hgb ho3
  clear hI2 hx2 hX2 ho3 K1 K2 K3
  obtain ⟨c0, c1, c2⟩ := hX3.cells3
  have f0 := hX3.free 0
  have f1 := hX3.free 1
  have f2 := hX3.free 2
  have hXz := at3_store (.int .i64 v1) (.bool bu) (.int .i64 v3) hX3
  have hoz := store3_only w4 g (.int .i64 v1) (.bool bu) (.int .i64 v3)
  have hIz := hI3.only hgb.symm hoz
  have hxz := Only.exNew hx3 (by rw [HG.out]; exact Nat.le_refl _) hoz
  go_wp2_with fail
  generalize (((w4.setCell ⟨g, 0, none⟩ (.int .i64 v1)).setCell ⟨g, 1, none⟩ (.bool bu)).setCell ⟨g, 2, none⟩ (.int .i64 v3)) = wz at hXz hoz hIz hxz ⊢
  clear c0 c1 c2 f0 f1 f2 hX3 hI3 hx3 hoz
  obtain ⟨d0, d1, d2⟩ := hXz.cells3
  refine bodyPost_ret (v := .agg #[.int .i64 v1, .bool bu, .int .i64 v3]) (by simp [results, Try.results100, go_sem, d0, d1, d2]) rfl ⟨rfl, hxz, hIz⟩
def adsV : List AD → List Value
  | [] => []
  | p :: l => p.vals ++ adsV l
theorem adsV_append : ∀ l m, adsV (l ++ m) = adsV l ++ adsV m
  | [], m => rfl
  | p :: l, m => by show p.vals ++ adsV (l ++ m) = _; rw [adsV_append l m, ← List.append_assoc]; rfl
theorem adsV_len : ∀ l, (adsV l).length = l.length * 3
  | [] => rfl
  | p :: l => by show (p.vals ++ adsV l).length = _; rw [List.length_append, adsV_len l]; show 3 + l.length * 3 = (l.length + 1) * 3; omega
theorem adsV_at : ∀ (l : List AD) (i j : Nat) (v : Value), i < l.length → (l[i]?.getD zeroAD).vals[j]? = some v → (adsV l)[i * 3 + j]? = some v
  | [], i, j, v, h, _ => by simp at h
  | p :: l, 0, j, v, _, hv => by
    have h3 : p.vals.length = 3 := rfl
    have hj : j < p.vals.length := (List.getElem?_eq_some_iff.1 hv).1
    show (p.vals ++ adsV l)[0 * 3 + j]? = some v
    rw [Nat.zero_mul, Nat.zero_add, List.getElem?_append_left hj]
    exact hv
  | p :: l, i + 1, j, v, h, hv => by
    have h3 : p.vals.length = 3 := rfl
    show (p.vals ++ adsV l)[(i + 1) * 3 + j]? = some v
    rw [List.getElem?_append_right (by omega), h3, show (i + 1) * 3 + j - 3 = i * 3 + j from by omega]
    exact adsV_at l i j v (by simp at h; omega) (by simpa using hv)
theorem own_readsA {w : World} {B : Nat} {e : TypeId} {a : Option Addr} {n c : Nat} {l : List AD} (h : w.ownsRow B e 3 (.slice a n c) n (adsV l)) : ReadsA w a l := by
  have hn : n = l.length := by have := h.1; rw [adsV_len] at this; omega
  rcases h.2 with ⟨e1, hn0⟩ | ⟨g, cap, cur, e1, _, hg, hl, hm, hz, ht⟩
  · exact .inl (List.length_eq_zero_iff.1 (by omega))
  · cases e1
    refine .inr ⟨g, 0, rfl, fun i hi j v hv => ?_⟩
    have h1 := adsV_at l i j v hi hv
    rw [Nat.zero_add, cell_of_row w g _ _ _ (0, 0) hg, ← Array.getElem?_toList]
    rw [← ht] at h1
    have hlt : i * 3 + j < n * 3 := by
      have := (List.getElem?_eq_some_iff.1 h1).1
      rw [List.length_take] at this
      omega
    rw [List.getElem?_take_of_lt hlt] at h1
    exact h1
theorem infoAd : (Try.prog.info? 115).map (fun i => (i.zero, i.size, i.bytes)) = some (some (.agg #[.int .i64 0, .bool false, .int .i64 0]), 3, 24) := by kernel_rfl
def lenV : Value → Nat
  | .slice _ n _ => n
  | _ => 0
theorem adsRd_step (n k : Nat) (st st' : ByteArray × Int) (xs : List AD) (hk : k < n) (h : xs ++ adsRd (n - k) st' = adsRd n st) (h0 : st'.1.size ≠ 0) : (xs ++ [adRd st']) ++ adsRd (n - (k + 1)) (adNx st') = adsRd n st := by
  rw [← h, show n - k = (n - (k + 1)) + 1 from by omega]
  rw [adsRd, if_neg h0]
  simp
theorem adsRd_end0 (n k : Nat) (st st' : ByteArray × Int) (xs : List AD) (h : xs ++ adsRd (n - k) st' = adsRd n st) (h0 : st'.1.size = 0 ∨ k = n) : xs = adsRd n st := by
  rw [← h]
  rcases h0 with h0 | h0
  · cases hn : n - k with
    | zero => simp [adsRd]
    | succ m => rw [adsRd, if_pos h0, List.append_nil]
  · rw [h0, Nat.sub_self]; simp [adsRd]
/-- What readAll leaves. -/
def RdAll (b : Nat) (l : List AD) (w : World) (e : Ending) (w' : World) : Prop :=
  Ex b w w' ∧ ∃ a c, e = .returned (.slice a l.length c) ∧ ReadsA w' a l
set_option maxRecDepth 100000 in
set_option maxHeartbeats 1600000 in
theorem readAllA_any (b : Nat) (st : ByteArray × Int) (w : World) (hI : InAt w b st.1 st.2) (hs : st.1.size ≤ 1099511627776) :
    Calls Try.prog 99 #[.pointer (some ⟨b, 0, none⟩), .func (.func 100) #[] #[]] w (RdAll b (adsRd 15 st) w) := by
  obtain ⟨i0, hi, hz0, hz1, hz2⟩ := info_parts infoAd
  unfold RdAll
  obtain ⟨R, hR⟩ : ∃ R, adsRd 15 st = R := ⟨_, rfl⟩
  have HST : Hid (([] : List AD) ++ adsRd (15 - 0) st = R) := Lib.hid (by rw [← hR]; rfl)
  have HSP := Lib.hid (fun (k : Nat) (st' : ByteArray × Int) (xs : List AD) (hk : k < 15) (h : xs ++ adsRd (15 - k) st' = R) (h0 : st'.1.size ≠ 0) => (by rw [← hR] at h ⊢; exact adsRd_step 15 k st st' xs hk h h0 : (xs ++ [adRd st']) ++ adsRd (15 - (k + 1)) (adNx st') = R))
  have HEN := Lib.hid (fun (k : Nat) (st' : ByteArray × Int) (xs : List AD) (h : xs ++ adsRd (15 - k) st' = R) (h0 : st'.1.size = 0 ∨ k = 15) => (by rw [← hR] at h ⊢; exact adsRd_end0 15 k st st' xs h h0 : xs = R))
  rw [hR]
  clear hR
  have hbw := hI.lt
  obtain ⟨g, hg⟩ : ∃ g, w.heap.size = g := ⟨_, rfl⟩
  have hgw : g ≤ w.heap.size := by omega
  have HG := Lib.hid hg
  clear hg
  go_enter Try.func99, Try.ntmps99
  go_wp2_with fail
  go_loopw [5] (fun z wr => ∃ (a : Option Addr) (k c : Nat) (xs : List AD) (st' : ByteArray × Int), z = .slice a k c ∧ xs.length = k ∧ k ≤ 15 ∧ wr.ownsRow g 115 3 (.slice a k c) k (adsV xs) ∧ InAt wr b st'.1 st'.2 ∧ Ex b w wr ∧ st'.1.size ≤ 1099511627776 ∧ Hid (xs ++ adsRd (15 - k) st' = R)) (fun z _ => 15 - lenV z)
  case atStart => exact ⟨none, 0, 0, [], st, rfl, rfl, by omega, World.ownsRow_nil _ _ _ _, hI, Ex.refl _ _, hs, HST⟩
  case round =>
    obtain ⟨a, k, c, xs, st', rfl, hxl, hk, hv, hI1, hx1, hs1, HJ⟩ := hrel
    clear hI HST
    have HL := Lib.hid (fun W (h : InAt W b st'.1 st'.2) => left_any b st'.1 st'.2 W h)
    by_cases h15 : k < 15
    · by_cases h0 : st'.1.size = 0
      · have h0' : ((st'.1.size : Nat) : Int) = 0 := by omega
        have hE := HEN.out k st' xs HJ.out (.inl h0)
        clear HSP HEN HJ h0
        go_wp2_with fail
        refine (HL.out _ hI1).mono ?_
        rintro e w' ⟨rfl, rfl⟩
        go_wp2
        go_ret
        subst hE
        first | exact ⟨hx1, a, c, by rw [hxl]; rfl, own_readsA hv⟩ | exact ⟨hx1, a, ⟨c, by rw [hxl]; rfl⟩, own_readsA hv⟩
      · have h0' : (0 : Int) < ((st'.1.size : Nat) : Int) := by omega
        have HJ2 := Lib.hid (HSP.out k st' xs h15 HJ.out h0)
        have hRA := Lib.hid (fun W (h : InAt W b st'.1 st'.2) => readAdvert_any b st' W h (by omega))
        unfold RdAdv at hRA
        have hs2 : (adNx st').1.size ≤ 1099511627776 := by
          unfold adNx
          exact Nat.le_trans (rawS_le _ _ _) (Nat.le_trans (rawS_le _ _ _) (Nat.le_trans (rawS_le _ _ _) hs1))
        have hAV : Hid (adsV (xs ++ [adRd st']) = adsV xs ++ [.int .i64 (adRd st').path, .bool (adRd st').up, .int .i64 (adRd st').rate]) := Lib.hid (by rw [adsV_append]; rfl)
        generalize adRd st' = p at HJ2 hRA hAV
        generalize adNx st' = st2 at HJ2 hRA hs2
        obtain ⟨path, up, rate⟩ := p
        simp only at hRA hAV
        clear HSP HEN HJ h0
        go_wp2_with fail
        refine (HL.out _ hI1).mono ?_
        rintro e w' ⟨rfl, rfl⟩
        go_wp2_with fail
        refine (hRA.out _ hI1).mono ?_
        rintro e w5 ⟨rfl, hxx, hI5⟩
        have hv5 : w5.ownsRow g 115 3 (.slice a k c) k (adsV xs) := own_ex hv hxx (row_neP hv hI1 (by intro cur q e; cases e))
        have hx5 := hx1.trans hxx
        have hg5 : g ≤ w5.heap.size := Nat.le_trans hgw hx5.size
        clear hv hI1 hx1 hxx HL h0'
        go_wp2_with (at_builtin; refine append_rec (by rfl) (.tmp 14) (.tmp 18) 37 (by rfl) g 115 i0 (.agg #[.int .i64 0, .bool false, .int .i64 0]) 3 24 Try.underlying37 hi hz0 hz1 hz2 rfl (by decide) _ k (adsV xs) (by rfl) hv5 #[.int .i64 path, .bool up, .int .i64 rate] rfl (by rfl) ?d1 ?d2 ?d3 g (Nat.le_refl _) hg5 (Below.refl g w5) ?_)
        case d1 => exact ⟨rfl, rfl, rfl⟩
        case d2 => unfold maxLen; omega
        case d3 => omega
        intro v' w6 hown6 hb6 hg6
        obtain ⟨ad, cq, rfl⟩ : ∃ ad cq, v' = .slice ad (k + 1) cq := by
          rcases hown6.2 with ⟨_, h0⟩ | ⟨g', cap, cur, rfl, _⟩
          · omega
          · exact ⟨_, _, rfl⟩
        have hown7 : w6.ownsRow g 115 3 (.slice ad (k + 1) cq) (k + 1) (adsV (xs ++ [⟨path, up, rate⟩])) := by rw [hAV.out]; exact hown6
        have hI5a := hI5.alloc (.cells #[.int .i64 path, .bool up, .int .i64 rate] 115)
        have hI6 : InAt w6 b st2.1 st2.2 := by
          unfold InAt
          rw [hg6.block b hI5a.lt (row_neP (hv5.alloc (.cells #[.int .i64 path, .bool up, .int .i64 rate] 115)) hI5a (by intro cur q e; cases e))]
          exact hI5a
        have hx6 : Ex b w w6 := ⟨hb6.os.trans hx5.os, hb6.tape.trans hx5.tape, hb6.output.trans hx5.output, Nat.le_trans hx5.size hb6.size, fun i hi hne => (hb6.block i (by rw [← HG.out]; exact hi)).trans (hx5.block i hi hne)⟩
        clear hown6 hb6 hg6 hv5 hI5 hI5a hx5
        go_wp2
        go_roundw
        case rel => exact ⟨ad, k + 1, cq, xs ++ [⟨path, up, rate⟩], st2, rfl, by simp [hxl], by omega, hown7, hI6, hx6, hs2, HJ2⟩
        case measure => simp [lenV]; omega
    · obtain rfl : k = 15 := by omega
      have hE := HEN.out 15 st' xs HJ.out (.inr rfl)
      clear HSP HEN HJ
      go_wp2
      go_ret
      subst hE
      first | exact ⟨hx1, a, c, by rw [hxl]; rfl, own_readsA hv⟩ | exact ⟨hx1, a, ⟨c, by rw [hxl]; rfl⟩, own_readsA hv⟩
def asAt (st : ByteArray × Int) : AS := ⟨(getN (by_ (rawT st.1 4)) : Nat), adsRd 15 (rd st 4)⟩
theorem asRd_at (s : ByteArray) : asRd s = asAt (s, 0) := rfl
theorem asAt_ok (st : ByteArray × Int) : 0 ≤ (asAt st).src ∧ (asAt st).src ≤ 4294967295 ∧ (asAt st).all.length ≤ 15 := by
  have h := getN_raw st.1 4
  have hl : ∀ (n : Nat) (st : ByteArray × Int), (adsRd n st).length ≤ n := by
    intro n
    induction n with
    | zero => intro st; simp [adsRd]
    | succ n ih =>
      intro st
      rw [adsRd]
      split
      · simp
      · have := ih (adNx st); simp; omega
  have h2 := hl 15 (rd st 4)
  rw [show (((4 : Nat) : Int)) = 4 from rfl] at h
  unfold asAt
  simp only
  exact ⟨by omega, by omega, h2⟩
/-- What readAdverts leaves. -/
def RdAds (b : Nat) (q : AS) (w : World) (e : Ending) (w' : World) : Prop :=
  Ex b w w' ∧ ∃ a c, e = .returned (.agg #[.int .u32 q.src, .slice a q.all.length c]) ∧ ReadsA w' a q.all
theorem ReadsA.only {T : TypeId} {W W' : World} {g : Nat} {a : Option Addr} {l : List AD} {cs : Array Value} (h : ReadsA W a l) (hA : AtC T W g cs) (hne : cs.size = 2) (ho : Only g W W') : ReadsA W' a l := by
  rcases h with h | ⟨b, off, ha, hc⟩
  · exact .inl h
  · by_cases hl : l = []
    · exact .inl hl
    · refine .inr ⟨b, off, ha, fun i hi j v hv => ?_⟩
      have hne : b ≠ g := by
        rintro rfl
        have h3 := hc i hi 2 _ rfl
        rw [hA.cell] at h3
        have q3 := (Array.getElem?_eq_some_iff.1 h3).1
        omega
      have hb := ho.block b hne
      have := hc i hi j v hv
      unfold World.cell? at this ⊢
      simp only at this ⊢
      rw [hb]
      exact this
set_option maxRecDepth 100000 in
set_option maxHeartbeats 1600000 in
theorem readAdverts_any (b : Nat) (st : ByteArray × Int) (w : World) (hI : InAt w b st.1 st.2) (hs : st.1.size ≤ 1099511627776) :
    Calls Try.prog 60 #[.pointer (some ⟨b, 0, none⟩)] w (RdAds b (asAt st) w) := by
  have hU := fun W h => inU32_any b st.1 st.2 W h (by omega)
  have hA := fun W h => readAllA_any b (rd st 4) W h (Nat.le_trans (rawS_le _ _ _) hs)
  unfold RdAds
  have e1 : (asAt st).src = (getN (by_ (rawT st.1 4)) : Nat) := rfl
  have e2 : (asAt st).all = adsRd 15 (rd st 4) := rfl
  rw [e1, e2]
  clear e1 e2
  unfold RdAll at hA
  have hU2 : ∀ W, InAt W b st.1 st.2 → Calls Try.prog 94 #[.pointer (some ⟨b, 0, none⟩)] W (Took b (.int .u32 (getN (by_ (rawT st.1 4)) : Int)) (rd st 4).1 (rd st 4).2 W) := hU
  generalize ((getN (by_ (rawT st.1 4)) : Nat) : Int) = v1 at hU2 ⊢
  generalize adsRd 15 (rd st 4) = l at hA ⊢
  generalize rd st 4 = st1 at hA hU2
  have HU := Lib.hid hU2
  have HA := Lib.hid hA
  clear hU hU2 hA
  have hX0 := atC_new 39 w #[.int .u32 0, .slice none 0 0]
  have hI0 := hI.alloc (.cells #[.int .u32 0, .slice none 0 0] 39)
  have hx0 := (Ex.refl b w).alloc (.cells #[.int .u32 0, .slice none 0 0] 39)
  have hgb : w.heap.size ≠ b := by have := hI.lt; omega
  go_enter Try.func60, Try.ntmps60
  go_wp2_with fail
  generalize w.alloc (.cells #[.int .u32 0, .slice none 0 0] 39) = w1 at hX0 hI0 hx0 ⊢
  generalize hgg : w.heap.size = g at hX0 hgb ⊢
  have HG := Lib.hid hgg
  clear hgg hI
  refine (HU.out _ hI0).mono ?_
  rintro e w2 ⟨rfl, hI1, ho1⟩
  have hx1 := hx0.trans ho1.ex
  have hX1 := hX0.only hgb ho1
  clear hI0 hx0 hX0 ho1
  go_wp2_with fail
  refine (HA.out _ hI1).mono ?_
  rintro e w3 ⟨hxx, a3, c3, rfl, hr3⟩
  have hx3 := hx1.trans hxx
  have hX3 : AtC 39 w3 g #[.int .u32 0, .slice none 0 0] := hX1.ex hgb hxx
  clear hI1 hx1 hX1 hxx HU HA
  obtain ⟨c0, c1⟩ := hX3.cells2
  have f0 := hX3.free 0
  have f1 := hX3.free 1
  have hZ0 : AtC 39 (w3.setCell ⟨g, 0, none⟩ (.int .u32 v1)) g #[.int .u32 v1, .slice none 0 0] := block_setCell hX3
  have hXz : AtC 39 ((w3.setCell ⟨g, 0, none⟩ (.int .u32 v1)).setCell ⟨g, 1, none⟩ (.slice a3 l.length c3)) g #[.int .u32 v1, .slice a3 l.length c3] := block_setCell hZ0
  have hoz := ((Only.refl g w3).setCell 0 (.int .u32 v1)).setCell 1 (.slice a3 l.length c3)
  have hrz := hr3.only hX3 rfl hoz
  have hxz := Only.exNew hx3 (by rw [HG.out]; exact Nat.le_refl _) hoz
  go_wp2_with fail
  generalize ((w3.setCell ⟨g, 0, none⟩ (.int .u32 v1)).setCell ⟨g, 1, none⟩ (.slice a3 l.length c3)) = wz at hXz hoz hrz hxz ⊢
  clear c0 c1 f0 f1 hX3 hx3 hoz hZ0
  obtain ⟨d0, d1⟩ := hXz.cells2
  refine bodyPost_ret (v := .agg #[.int .u32 v1, .slice a3 l.length c3]) (by simp [results, Try.results60, go_sem, d0, d1]) rfl ?_
  first | exact ⟨hxz, a3, c3, rfl, hrz⟩ | exact ⟨hxz, a3, ⟨c3, rfl⟩, hrz⟩
end Go.Proofs.Ytjoikidnnhjogaa

