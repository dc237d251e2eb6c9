/- NetOrder: the walk. -/
import Derived.Test.YtmicpmcmjnbcjaaNeI
import Derived.Test.YtmicpmcmjnbcjaaCut
namespace Go.Proofs.Ytmicpmcmjnbcjaa
open Go.RowKit Go.Maps
set_option linter.unusedVariables false
set_option linter.unusedSimpArgs false
theorem neCut (s : ByteArray) (m : Nat) : (cutB s m).size ≤ m := by
  unfold cutB
  split
  · rw [ByteArray.size_extract]; omega
  · omega
theorem neSum_leB {l : List ByteArray} {B : Nat} (h : ∀ s ∈ l, s.size ≤ B) : neSum l ≤ B * l.length := by
  induction l with
  | nil => simp [neSum]
  | cons s l ih =>
    have e : neSum (s :: l) = s.size + neSum l := by simp [neSum]
    have h1 := h s List.mem_cons_self
    have h2 := ih (fun t ht => h t (List.mem_cons_of_mem _ ht))
    rw [e, List.length_cons, Nat.mul_add]
    omega
theorem neField2 (c0 c1 c2 c3 c4 c5 : Int) (W : World) : (Instr.field 52 (.agg #[.int .i64 c0, .int .i64 c1, .int .i64 c2, .int .i64 c3, .int .i64 c4, .int .i64 c5]) 2).run Try.prog W = .ok (.int .i64 c2) W := by kernel_rfl
theorem nePaths_nil {x : NE} {a : Int} (h : ∀ p, x.G a p = []) (k : Nat) : nePaths x a k = [] := by
  unfold nePaths
  refine List.filter_eq_nil_iff.2 (fun p _ => ?_)
  rw [h p]
  simp
/-- What holds between the calls: a Net, a list of texts of the law's own. -/
structure OrdIn (w0 W : World) (g B gn n : Nat) (a p : Int) (x : NE) (L : List ByteArray) (k t : Int) (sv : Value) (Ls : List ByteArray) : Prop where
  nin : NIn W B gn n x
  at_ : NeAt x 50 1048576 a p L k
  el : ∀ a' p', ¬ (a' = a ∧ p' = p) → x.G a' p' = []
  tk : x.c 2 = t
  own : OwnE W g 9 1 sv Ls.length (neV Ls)
  ap : ∀ k, sv.ownBlock = some k → ¬ NFoot gn x k
  bel : Below g w0 W
  gB : g ≤ B
section
variable {w0 W W' : World} {g B gn n : Nat} {a p : Int} {x x' : NE} {L L' : List ByteArray} {k k' t t' : Int} {sv : Value} {Ls : List ByteArray}
theorem OrdIn.gW (h : OrdIn w0 W g B gn n a p x L k t sv Ls) : g ≤ W.heap.size := Nat.le_trans h.gB (Nat.le_trans h.nin.bs (Nat.le_of_lt h.nin.at9.lt))
theorem OrdIn.later (h : OrdIn w0 W g B gn n a p x L k t sv Ls) (hb : Below W.heap.size W W') : OrdIn w0 W' g B gn n a p x L k t sv Ls :=
  ⟨h.nin.later hb, h.at_, h.el, h.tk, h.own.later hb, h.ap, h.bel.trans (hb.mono h.gW), h.gB⟩
theorem OrdIn.call {n' : Nat} (h : OrdIn w0 W g B gn n a p x L k t sv Ls) (hK : NKeep gn x W W' x') (hI : NIn W' B gn n' x') (hA : NeAt x' 50 1048576 a p L' k') (he : ∀ a' p', ¬ (a' = a ∧ p' = p) → x'.G a' p' = x.G a' p') (ht : x'.c 2 = t') : OrdIn w0 W' g B gn n' a p x' L' k' t' sv Ls := by
  refine ⟨hI, hA, fun a' p' hne => (he a' p' hne).trans (h.el a' p' hne), ht, h.own.keep hK.size (fun k cs hk hc => hK.block k (lt_of_block hc) (h.ap k hk)), fun k hk hf => ?_, h.bel.trans ((hK.below h.nin).mono h.gB), h.gB⟩
  rcases hK.foot k hf with e | e
  · exact h.ap k hk e
  · have := (h.own.1.lt k hk).2
    omega
theorem OrdIn.app (h : OrdIn w0 W g B gn n a p x L k t sv Ls) (s : ByteArray) {sv' : Value} (hO : OwnE W' g 9 1 sv' (Ls.length + 1) (neV Ls ++ [.string s])) (hb : Below g W W') (hg : (W.alloc (.cells #[.string s] 9)).grownBy W' sv.ownBlock) (hv : sv'.ownBlock = sv.ownBlock ∨ ∃ k, sv'.ownBlock = some k ∧ W.heap.size ≤ k) : OrdIn w0 W' g B gn n a p x L k t sv' (Ls ++ [s]) := by
  have hal : Below W.heap.size W (W.alloc (.cells #[.string s] 9)) := (Below.refl _ _).alloc (Nat.le_refl _) _
  refine ⟨(h.nin.later hal).keep hg.size (fun k hf => hg.block k ((h.nin.later hal).foot_lt hf).2 (fun e => h.ap k e.symm hf)), h.at_, h.el, h.tk, ?_, fun k hk hf => ?_, h.bel.trans hb, h.gB⟩
  · rw [neV_app, List.length_append]
    exact hO
  · rcases hv with e | ⟨k', e, hk'⟩
    · rw [e] at hk
      exact h.ap k hk hf
    · rw [e] at hk
      cases hk
      have := (h.nin.foot_lt hf).2
      omega
end
theorem NePut.c2 {x x' : NE} {a p : Int} {s : ByteArray} {q : Nat} {r : Bool} (h : NePut x a p s q r x') (hq : q ≠ 2) : x'.c 2 = x.c 2 := by
  cases h with
  | yes hok v' mp' => exact bump_other x.c (fun e => hq e.symm)
  | no hok => exact bump_other x.c (show (2 : Nat) ≠ 1 by decide)
theorem NeEnd.take_c2 {x x' : NE} {a p i : Int} {s : ByteArray} (h : NeEnd x a p i 2 (Option.some s) x') : x'.c 2 = x.c 2 + 1 := by
  cases h with
  | some k s hk hs v' => exact bump_same x.c 2
theorem neT_at {l : List ByteArray} {j : Nat} {s : ByteArray} (h : l[j]? = some s) : (neV l)[j]? = some (.string s) := by unfold neV; rw [List.getElem?_map, h]; rfl
namespace netOrder
set_option maxRecDepth 100000 in
set_option maxHeartbeats 6400000 in
theorem walk (p0 : Option Addr) (len0 cap0 : Nat) (z0 : List ByteArray) (a1 a2 : Int) (w1 : (Lit.int .i64 a1).wf = true) (w2 : (Lit.int .i64 a2).wf = true) (w : World) (w0 : IsTexts w p0 len0 cap0 z0) :
    Calls Try.prog 5 #[.slice p0 len0 cap0, .int .i64 a1, .int .i64 a2] w fun e w' => e = .returned (.bool true) ∧ Below w.heap.size w w' := by
  obtain ⟨zs, rfl, l1, l2, hr0, hz0⟩ := w0.reads
  have HR := Lib.hid (fun (W : World) (h : Below w.heap.size w W) => hr0.later h)
  have HZ := Lib.hid hz0
  obtain ⟨i0, hi, hy0, hy1, hy2⟩ := info_parts info_strN
  clear w0 hr0 hz0 w1 w2
  have hm1 : bits .and .i64 a1 1 = a1 % 2 := i64_mask a1 1 (by omega)
  have hm7 : bits .and .i64 a2 7 = a2 % 8 := i64_mask a2 3 (by omega)
  have hwp : IntKind.i64.wrap (1 + a2 % 8) = 1 + a2 % 8 := IntWalk.i64_in _ ⟨by omega, by omega⟩
  have his : neIs (a1 % 2) (1 + a2 % 8) = true := by
    have h1 : a1 % 2 = 0 ∨ a1 % 2 = 1 := by omega
    unfold neIs
    rcases h1 with h1 | h1 <;> simp [h1] <;> omega
  go_enter Try.func5, Try.ntmps5
  go_wp2_with fail
  refine (neAwake_any w).mono ?_
  rintro e wa ⟨rfl, hba⟩
  go_wp2_with (first | rw [hm1] | rw [hm7])
  try rw [hwp]
  generalize a1 % 2 = a at his ⊢
  generalize 1 + a2 % 8 = p at his ⊢
  have hk2 := neIs_wf his
  refine (neNew_any 50 1048576 wa).mono ?_
  rintro e wb ⟨gn, rfl, hIb, hkb⟩
  have hg0 : w.heap.size ≤ wa.heap.size := hba.size
  have hO0 : OrdIn w wb w.heap.size wa.heap.size gn 0 a p (neNew 50 1048576) [] 0 0 (.slice none 0 0) [] := ⟨hIb, neAt_new _ _ _ _, fun _ _ _ => rfl, rfl, ownE_nil _ _ _ _, fun k h => (by cases h), hba.trans (hkb.mono hg0), hg0⟩
  generalize neNew 50 1048576 = x0 at hO0
  generalize hg : w.heap.size = g at hO0
  generalize wa.heap.size = B at hO0
  have HG := Lib.hid hg
  clear hg hIb hkb hba hg0 hm1 hm7 hwp
  go_wp2_with fail
  go_loopw [8, 9] (fun s8 s9 wr => ∃ (k n : Nat) (x : NE) (L : List ByteArray), k ≤ zs.length ∧ k ≤ 40 ∧ n ≤ k ∧ L.length ≤ k ∧ s9 = .int .i64 k ∧ OrdIn w wr g B gn n a p x L k 0 s8 L ∧ Hid (∀ s ∈ L, s.size ≤ 40 ∧ s.size ≠ 0)) (fun _ s9 _ => 40 - (intOf s9).toNat)
  case atStart => exact ⟨0, 0, x0, [], Nat.zero_le _, by omega, Nat.le_refl _, Nat.le_refl _, rfl, hO0, Lib.hid (by simp)⟩
  case round =>
    obtain ⟨k, n, x, L, hk, hk40, hn, hL, rfl, hI, HS⟩ := hrel
    clear hO0
    by_cases hlt : k < zs.length ∧ k < 40
    · obtain ⟨hlt, hlt40⟩ := hlt
      obtain ⟨ab, off, rfl, hcell⟩ := (HR.out wr (by rw [HG.out]; exact hI.bel)).at hlt
      have hzz : (zs[k]?.getD ByteArray.empty).size ≤ 9223372036854775807 := by
        have := HZ.out _ (show zs[k]?.getD ByteArray.empty ∈ zs by rw [List.getElem?_eq_getElem hlt]; exact List.getElem_mem hlt)
        unfold maxLen at this
        omega
      generalize zs[k]?.getD ByteArray.empty = z at hcell hzz
      have hcs := neCut z 40
      have HCUT := Lib.hid (cut_any z 40 wr hzz (by omega))
      generalize cutB z 40 = s at hcs HCUT
      have hNP := neOk_of hI.at_ s
      have HSE := Lib.hid (neSend_any hI.nin hk2 s (by omega) (by omega) (fun i => by have := hI.at_.c i; omega))
      go_wp2_with fail
      refine HCUT.out.mono ?_
      rintro e w' ⟨rfl, hq⟩
      subst hq
      rename World => wr
      go_wp2_with fail
      refine HSE.out.mono ?_
      rintro e w3 ⟨r, x3, rfl, hp, hI3, hK3⟩
      obtain ⟨hr, hA3⟩ := hp.at hI.at_
      have hJ := hI.call hK3 hI3 hA3 (fun a' p' hne => hp.else hne) ((hp.c2 (by decide)).trans hI.tk)
      rw [hNP, his, show am 1 50 1024 = 50 from by decide, show am 1 1048576 16777216 = 1048576 from by decide] at hr
      clear hI HCUT HSE hcell hNP hp hI3 hK3 hA3
      by_cases h0 : s.size = 0
      · obtain rfl := ba_size0 h0
        obtain rfl : r = false := by rw [hr]; rfl
        clear hr
        simp only [Bool.false_eq_true, if_false] at hJ
        go_wp2_with fail
        go_roundw
        case rel => exact ⟨k + 1, n + 1, x3, L, by omega, by omega, by omega, by omega, by go_num, by push_cast; exact hJ, HS⟩
        case measure => simp [intOf]; omega
      · have hsm := neSum_leB (fun t ht => (HS.out t ht).1)
        obtain rfl : r = true := by
          rw [hr]
          simp [h0]
          omega
        clear hr
        simp only [if_true] at hJ
        obtain ⟨hne3, hne4⟩ := ba_toList h0
        obtain ⟨va, vc, hsv⟩ := hJ.own.formG
        subst hsv
        have hgw := hJ.gW
        have hOW := hJ.own
        go_wp2_with (at_builtin; refine append_recG (W := w3) rfl (.tmp 51) (.tmp 53) 56 rfl 9 i0 (.string ⟨#[]⟩) 1 16 Try.underlying56 hi hy0 hy1 hy2 rfl (by decide) g _ _ _ rfl hOW #[.string s] rfl rfl ?d0 ?d1 ?d2 hgw g (Nat.le_refl _) (Below.refl _ _) ?_)
        case d0 => first | rfl | exact ⟨rfl, rfl⟩ | decide | (intro u hu; simp at hu; subst hu; rfl)
        case d1 => unfold maxLen; omega
        case d2 => omega
        intro v6 w6 hO6 hb6 hg6 hv6
        have hJ6 := hJ.app s hO6 hb6 hg6 hv6
        clear hJ hOW hO6 hb6 hg6 hv6
        have HS6 : Hid (∀ t ∈ L ++ [s], t.size ≤ 40 ∧ t.size ≠ 0) := Lib.hid (fun t ht => by
          rcases List.mem_append.1 ht with e | e
          · exact HS.out t e
          · have : t = s := by simpa using e
            rw [this]; exact ⟨hcs, h0⟩)
        go_wp2_with fail
        go_roundw
        case rel => exact ⟨k + 1, n + 1, x3, L ++ [s], by omega, by omega, by omega, by simp; omega, by go_num, by push_cast; exact hJ6, HS6⟩
        case measure => simp [intOf]; omega
    · by_cases hk1 : k < zs.length
      · have hd1 : decide ((k : Int) < (zs.length : Int)) = true := decide_eq_true (by omega)
        have hd2 : decide ((k : Int) < 40) = false := decide_eq_false (by omega)
        have HI1 := hI
        obtain ⟨sa, sc, hsv⟩ := hI.own.formG
        subst hsv
        have HSL := HS
        have hkL : k ≤ 40 := hk40
        clear HI1
        go_wp2_with fail
        go_loopw [57] (fun i wz => ∃ (j n' : Nat) (x' : NE), j ≤ L.length ∧ i = .int .i64 j ∧ n' ≤ k + j ∧ OrdIn w wz g B gn n' a p x' (L.drop j) (k + j) j (.slice sa L.length sc) L) (fun i _ => L.length - (intOf i).toNat)
        case atStart => exact ⟨0, n, x, Nat.zero_le _, rfl, by omega, by simpa using hI⟩
        case round =>
          obtain ⟨j, n2, x2, hj, rfl, hn2, hJ⟩ := hrel
          clear hI
          rename World => wz
          by_cases hjl : j < L.length
          · obtain ⟨s, hs⟩ : ∃ s, L[j]? = some s := ⟨_, List.getElem?_eq_getElem hjl⟩
            obtain ⟨gt, ot, cc, e6, _, _, _, _, hcz⟩ := hJ.own.row (by omega)
            cases e6
            have q0 := (hcz j _ (neT_at hs)).1
            have hdr : L.drop j = s :: L.drop (j + 1) := by
              obtain ⟨h1, rfl⟩ := List.getElem?_eq_some_iff.1 hs
              exact List.drop_eq_getElem_cons h1
            have HTK := Lib.hid (neTake_any hJ.nin hk2 0 (by omega) (fun i => by have := hJ.at_.c i; omega))
            have i0 : (0 : Int) ≤ (j : Int) := by omega
            have i1 : (j : Int) < (L.length : Int) := by omega
            clear hcz
            go_wp2_with fail
            refine HTK.out.mono ?_
            rintro e w3 ⟨r, x3, rfl, hp, hI3, hK3⟩
            obtain ⟨rfl, hA3⟩ := NeEnd.at (j := 0) hp hJ.at_ (by rw [hdr]; rfl)
            have hc2 := hp.take_c2
            rw [hJ.tk] at hc2
            have hJ3 := hJ.call hK3 hI3 hA3 (fun a' p' hne => hp.else hne) hc2
            have hdr2 : (L.drop j).eraseIdx 0 = L.drop (j + 1) := by rw [hdr]; rfl
            rw [hdr2] at hJ3
            clear hJ HTK hp hI3 hK3 hA3 hdr hdr2 hs q0
            simp only [Option.getD, Option.isSome]
            go_wp2_with fail
            go_roundw
            case rel => exact ⟨j + 1, n2 + 1, x3, by omega, by go_num, by omega, by push_cast; rw [← Int.add_assoc]; exact hJ3⟩
            case measure => simp [intOf]; omega
          · obtain rfl : j = L.length := by omega
            rw [List.drop_length] at hJ
            have hnil : ∀ p', x2.G a p' = [] := fun p' => by
              by_cases e : p' = p
              · rw [e]; exact hJ.at_.G
              · exact hJ.el a p' (fun h => e h.2)
            have HL := Lib.hid (neLen_q hJ.nin hk2)
            rw [hnil p] at HL
            have HPA := Lib.hid (nePaths_any hJ.nin hk2.1)
            rw [nePaths_nil hnil] at HPA
            have htk := hJ.tk
            go_wp2_with fail
            refine HL.out.mono ?_
            rintro e w3 ⟨rfl, hq⟩
            subst hq
            rename World => wz
            go_wp2_with fail
            refine HPA.out.mono ?_
            rintro e w4 ⟨pv, rfl, hO4, hk4⟩
            have hJ4 := hJ.later hk4
            obtain ⟨pa, pc, rfl⟩ := hO4.formG
            have HCT := Lib.hid (neCounts_any hJ4.nin)
            have hfl := fun W => neField2 (x2.c 0) (x2.c 1) (x2.c 2) (x2.c 3) (x2.c 4) (x2.c 5) W
            rw [htk] at HCT hfl
            clear HL HPA hO4 hJ
            go_wp2_with fail
            refine HCT.out.mono ?_
            rintro e w5 ⟨rfl, hk5⟩
            have hJ5 := hJ4.later hk5
            have hbel := hJ5.bel
            have hfl5 := hfl w5
            clear hfl HCT hJ4 hJ5
            go_wp2_with fail
            go_ret
            exact ⟨by simp, by rw [HG.out]; exact hbel⟩
      · have hd1 : decide ((k : Int) < (zs.length : Int)) = false := decide_eq_false (by omega)
        have HI1 := hI
        obtain ⟨sa, sc, hsv⟩ := hI.own.formG
        subst hsv
        have HSL := HS
        have hkL : k ≤ 40 := hk40
        clear HI1
        go_wp2_with fail
        go_loopw [57] (fun i wz => ∃ (j n' : Nat) (x' : NE), j ≤ L.length ∧ i = .int .i64 j ∧ n' ≤ k + j ∧ OrdIn w wz g B gn n' a p x' (L.drop j) (k + j) j (.slice sa L.length sc) L) (fun i _ => L.length - (intOf i).toNat)
        case atStart => exact ⟨0, n, x, Nat.zero_le _, rfl, by omega, by simpa using hI⟩
        case round =>
          obtain ⟨j, n2, x2, hj, rfl, hn2, hJ⟩ := hrel
          clear hI
          rename World => wz
          by_cases hjl : j < L.length
          · obtain ⟨s, hs⟩ : ∃ s, L[j]? = some s := ⟨_, List.getElem?_eq_getElem hjl⟩
            obtain ⟨gt, ot, cc, e6, _, _, _, _, hcz⟩ := hJ.own.row (by omega)
            cases e6
            have q0 := (hcz j _ (neT_at hs)).1
            have hdr : L.drop j = s :: L.drop (j + 1) := by
              obtain ⟨h1, rfl⟩ := List.getElem?_eq_some_iff.1 hs
              exact List.drop_eq_getElem_cons h1
            have HTK := Lib.hid (neTake_any hJ.nin hk2 0 (by omega) (fun i => by have := hJ.at_.c i; omega))
            have i0 : (0 : Int) ≤ (j : Int) := by omega
            have i1 : (j : Int) < (L.length : Int) := by omega
            clear hcz
            go_wp2_with fail
            refine HTK.out.mono ?_
            rintro e w3 ⟨r, x3, rfl, hp, hI3, hK3⟩
            obtain ⟨rfl, hA3⟩ := NeEnd.at (j := 0) hp hJ.at_ (by rw [hdr]; rfl)
            have hc2 := hp.take_c2
            rw [hJ.tk] at hc2
            have hJ3 := hJ.call hK3 hI3 hA3 (fun a' p' hne => hp.else hne) hc2
            have hdr2 : (L.drop j).eraseIdx 0 = L.drop (j + 1) := by rw [hdr]; rfl
            rw [hdr2] at hJ3
            clear hJ HTK hp hI3 hK3 hA3 hdr hdr2 hs q0
            simp only [Option.getD, Option.isSome]
            go_wp2_with fail
            go_roundw
            case rel => exact ⟨j + 1, n2 + 1, x3, by omega, by go_num, by omega, by push_cast; rw [← Int.add_assoc]; exact hJ3⟩
            case measure => simp [intOf]; omega
          · obtain rfl : j = L.length := by omega
            rw [List.drop_length] at hJ
            have hnil : ∀ p', x2.G a p' = [] := fun p' => by
              by_cases e : p' = p
              · rw [e]; exact hJ.at_.G
              · exact hJ.el a p' (fun h => e h.2)
            have HL := Lib.hid (neLen_q hJ.nin hk2)
            rw [hnil p] at HL
            have HPA := Lib.hid (nePaths_any hJ.nin hk2.1)
            rw [nePaths_nil hnil] at HPA
            have htk := hJ.tk
            go_wp2_with fail
            refine HL.out.mono ?_
            rintro e w3 ⟨rfl, hq⟩
            subst hq
            rename World => wz
            go_wp2_with fail
            refine HPA.out.mono ?_
            rintro e w4 ⟨pv, rfl, hO4, hk4⟩
            have hJ4 := hJ.later hk4
            obtain ⟨pa, pc, rfl⟩ := hO4.formG
            have HCT := Lib.hid (neCounts_any hJ4.nin)
            have hfl := fun W => neField2 (x2.c 0) (x2.c 1) (x2.c 2) (x2.c 3) (x2.c 4) (x2.c 5) W
            rw [htk] at HCT hfl
            clear HL HPA hO4 hJ
            go_wp2_with fail
            refine HCT.out.mono ?_
            rintro e w5 ⟨rfl, hk5⟩
            have hJ5 := hJ4.later hk5
            have hbel := hJ5.bel
            have hfl5 := hfl w5
            clear hfl HCT hJ4 hJ5
            go_wp2_with fail
            go_ret
            exact ⟨by simp, by rw [HG.out]; exact hbel⟩
end netOrder
end Go.Proofs.Ytmicpmcmjnbcjaa
