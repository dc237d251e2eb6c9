/- net: where the i-th one is, plain, and the document's place. -/
import Derived.Test.YtbmbomojnljccaaNeS
namespace Go.Proofs.Ytbmbomojnljccaa
open Go.RowKit Go.Maps
set_option linter.unusedVariables false
set_option linter.unusedSimpArgs false
/-- The k-th of all is the i-th there. -/
structure OdAt (l : List OD) (a p i : Int) (k : Nat) (r : OD) : Prop where
  hk : l[k]? = some r
  is : odIs a p r = true
  ct : ((odG (l.take k) a p).length : Int) = i
/-- There is no i-th one. -/
def OdNone (l : List OD) (a p i : Int) : Prop := i < 0 ∨ ((odG l a p).length : Int) ≤ i
theorem odG_app (l l' : List OD) (a p : Int) : odG (l ++ l') a p = odG l a p ++ odG l' a p := by simp [odG]
theorem odG_cons (r : OD) (l : List OD) (a p : Int) : odG (r :: l) a p = (if odIs a p r = true then [r.s] else []) ++ odG l a p := by
  unfold odG
  by_cases h : odIs a p r = true
  · simp [List.filter_cons, h]
  · simp [List.filter_cons, h]
theorem od_split {l : List OD} {k : Nat} {r : OD} (h : l[k]? = some r) : l = l.take k ++ r :: l.drop (k + 1) := by
  obtain ⟨hk, e⟩ := List.getElem?_eq_some_iff.1 h
  rw [← e]
  simp
theorem odIs_iff {a p : Int} {r : OD} : odIs a p r = true ↔ r.a = a ∧ r.p = p := by simp [odIs]
section
variable {l : List OD} {a p i : Int} {k : Nat} {r : OD}
theorem OdAt.lt (h : OdAt l a p i k r) : k < l.length := (List.getElem?_eq_some_iff.1 h.hk).1
theorem OdAt.all (h : OdAt l a p i k r) : odG l a p = odG (l.take k) a p ++ r.s :: odG (l.drop (k + 1)) a p := by
  have e := congrArg (fun z => odG z a p) (od_split h.hk)
  simp only [odG_app, odG_cons, if_pos h.is] at e
  exact e
theorem OdAt.nth (h : OdAt l a p i k r) : ∃ j : Nat, i = j ∧ (odG l a p)[j]? = some r.s := by
  refine ⟨(odG (l.take k) a p).length, h.ct.symm, ?_⟩
  rw [h.all]
  simp
theorem OdAt.neAt (h : OdAt l a p i k r) : neAt (odG l a p) i = some r.s := by
  obtain ⟨j, e, hj⟩ := h.nth
  unfold Go.Proofs.Ytbmbomojnljccaa.neAt
  rw [if_pos (by omega), e]
  exact hj
theorem OdAt.mem (h : OdAt l a p i k r) : r ∈ l := List.mem_of_getElem? h.hk
theorem OdAt.other (h : OdAt l a p i k r) {a' p' : Int} (hne : ¬ (a' = a ∧ p' = p)) : odIs a' p' r = false := by
  have := odIs_iff.1 h.is
  cases hh : odIs a' p' r with
  | false => rfl
  | true =>
    have := odIs_iff.1 hh
    exact absurd ⟨by omega, by omega⟩ hne
theorem OdAt.erase (h : OdAt l a p i k r) : odG (l.take k ++ l.drop (k + 1)) a p = (odG l a p).eraseIdx i.toNat := by
  have hj : i.toNat = (odG (l.take k) a p).length := by have := h.ct; omega
  rw [h.all, odG_app, hj, List.eraseIdx_append_of_length_le (Nat.le_refl _)]
  simp
theorem OdAt.erase_other (h : OdAt l a p i k r) {a' p' : Int} (hne : ¬ (a' = a ∧ p' = p)) : odG (l.take k ++ l.drop (k + 1)) a' p' = odG l a' p' := by
  have e := congrArg (fun z => odG z a' p') (od_split h.hk)
  simp only [odG_app, odG_cons, h.other hne] at e
  rw [e, odG_app]
  simp
theorem OdAt.set (h : OdAt l a p i k r) (u : ByteArray) : odG (l.set k ⟨r.a, r.p, u⟩) a p = (odG l a p).set i.toNat u := by
  have hj : i.toNat = (odG (l.take k) a p).length := by have := h.ct; omega
  have e : l.set k ⟨r.a, r.p, u⟩ = l.take k ++ ⟨r.a, r.p, u⟩ :: l.drop (k + 1) := by
    rw [List.set_eq_take_append_cons_drop, if_pos h.lt]
  have hi : odIs a p ⟨r.a, r.p, u⟩ = true := odIs_iff.2 (odIs_iff.1 h.is)
  rw [e, odG_app, odG_cons, if_pos hi, h.all, hj]
  simp
theorem OdAt.set_other (h : OdAt l a p i k r) (u : ByteArray) {a' p' : Int} (hne : ¬ (a' = a ∧ p' = p)) : odG (l.set k ⟨r.a, r.p, u⟩) a' p' = odG l a' p' := by
  have e : l.set k ⟨r.a, r.p, u⟩ = l.take k ++ ⟨r.a, r.p, u⟩ :: l.drop (k + 1) := by
    rw [List.set_eq_take_append_cons_drop, if_pos h.lt]
  have hi : odIs a' p' ⟨r.a, r.p, u⟩ = false := by
    have := h.other hne
    cases hh : odIs a' p' ⟨r.a, r.p, u⟩ with
    | false => rfl
    | true => exact absurd (odIs_iff.2 (odIs_iff.1 hh) : odIs a' p' r = true) (by rw [this]; decide)
  have e' := congrArg (fun z => odG z a' p') (od_split h.hk)
  simp only [odG_app, odG_cons, h.other hne] at e'
  rw [e, odG_app, odG_cons, hi, e']
  simp
end
theorem OdNone.neAt {l : List OD} {a p i : Int} (h : OdNone l a p i) : neAt (odG l a p) i = none := by
  unfold Go.Proofs.Ytbmbomojnljccaa.neAt
  by_cases h0 : 0 ≤ i
  · rw [if_pos h0]
    rcases h with h | h
    · omega
    · exact List.getElem?_eq_none (by omega)
  · rw [if_neg h0]
set_option maxRecDepth 100000 in
set_option maxHeartbeats 3200000 in
theorem refNePlace_any {w : World} {vl : Value} {l : List OD} {n : Nat} (m b c0 c1 c2 c3 c4 c5 a p i : Int) (hL : OwnE w 0 84 3 vl n (odV l)) (hn : n ≤ 65535) :
    Calls Try.prog 41 #[neRv m b vl c0 c1 c2 c3 c4 c5, .int .i64 a, .int .i64 p, .int .i64 i] w fun e w' => ∃ r : Int, e = .returned (.int .i64 r) ∧ ((r = -1 ∧ OdNone l a p i) ∨ ∃ (k : Nat) (o : OD), r = k ∧ OdAt l a p i k o) ∧ Below w.heap.size w w' := by
  unfold neRv
  obtain ⟨ax, cap, rfl, hnc, hcm, hln, hrd⟩ := hL.rdo
  unfold maxLen at hcm
  have hX0 := atQ_new 34 w w.heap.size #[.int .i64 m, .int .i64 b, .slice ax n cap, .int .i64 c0, .int .i64 c1, .int .i64 c2, .int .i64 c3, .int .i64 c4, .int .i64 c5] rfl
  have hb : Below w.heap.size w (w.alloc (.cells #[.int .i64 m, .int .i64 b, .slice ax n cap, .int .i64 c0, .int .i64 c1, .int .i64 c2, .int .i64 c3, .int .i64 c4, .int .i64 c5] 34)) := (Below.refl _ _).alloc (Nat.le_refl _) _
  go_enter Try.func41, Try.ntmps41
  go_upto_region 1 with fail
  generalize (w.alloc (.cells #[.int .i64 m, .int .i64 b, .slice ax n cap, .int .i64 c0, .int .i64 c1, .int .i64 c2, .int .i64 c3, .int .i64 c4, .int .i64 c5] 34)) = w2 at hX0 hb ⊢
  have hrd2 := hrd.later hb
  generalize hg0 : w.heap.size = g0 at *
  have HG := Lib.hid hg0
  have hsz2 : g0 ≤ w2.heap.size := Nat.le_of_lt hX0.lt
  clear hg0 hL hrd
  have HR := Lib.hid (fun W (h : Below w2.heap.size w2 W) => hrd2.later h)
  have HFt := Lib.hid (odG_take l a p)
  have HFl := Lib.hid (odG_le)
  have HLN := Lib.hid hln
  obtain ⟨_, _, _, _, _, _, _, _, _⟩ := hX0.cells9
  clear hX0 hrd2 hln
  go_wp2_with fail
  go_loopw [9, 15] (fun vk q wr => ∃ k : Nat, k ≤ n ∧ q = .int .i64 k ∧ vk = .int .i64 ((odG (l.take k) a p).length : Int) ∧ (i < 0 ∨ ((odG (l.take k) a p).length : Int) ≤ i) ∧ Below w2.heap.size w2 wr) (fun _ q _ => n - (intOf q).toNat)
  case atStart => exact ⟨0, Nat.zero_le _, rfl, rfl, by simp [odG]; omega, Below.refl _ _⟩
  case round =>
    obtain ⟨k, hk, rfl, rfl, hci, hbw⟩ := hrel
    by_cases hlt : k < n
    · obtain ⟨r, hr⟩ : ∃ r, l[k]? = some r := ⟨_, List.getElem?_eq_getElem (by have := HLN.out; omega)⟩
      have HAT := Lib.hid (fun (h1 : odIs a p r = true) (h2 : ((odG (l.take k) a p).length : Int) = i) => (⟨hr, h1, h2⟩ : OdAt l a p i k r))
      obtain ⟨g, off, rfl, e0, e1, e2⟩ := HR.out _ hbw k r hr
      have HK1 := Lib.hid (HFt.out k r hr)
      have hkl : (odG (l.take k) a p).length ≤ k := Nat.le_trans (HFl.out _ _ _) (by rw [List.length_take]; omega)
      obtain ⟨ra, rp, rs⟩ := r
      have hX := atQ_new 84 wr wr.heap.size #[.int .i64 ra, .int .i64 rp, .string rs] rfl
      have hb3 := hbw.alloc hbw.size (.cells #[.int .i64 ra, .int .i64 rp, .string rs] 84)
      clear hr
      go_upto_region 5 with fail
      generalize wr.alloc (.cells #[.int .i64 ra, .int .i64 rp, .string rs] 84) = w4 at hX hb3 ⊢
      generalize wr.heap.size = g4 at hX ⊢
      clear hbw e0 e1 e2
      obtain ⟨_, _, _⟩ := hX.cells3
      unfold odIs at HK1 HAT
      simp only at HK1 HAT
      by_cases he : ra = a
      · by_cases he2 : rp = p
        · have HK2 : Hid (odG (l.take (k + 1)) a p = odG (l.take k) a p ++ [rs]) := Lib.hid (by rw [HK1.out, if_pos (by simp [he, he2])])
          have HAT2 := Lib.hid (HAT.out (by simp [he, he2]))
          clear HK1 HAT
          have HE := Lib.hid (And.intro he he2)
          have hd1 : (ra == a) = true := by simpa using he
          have hd2 : (rp == p) = true := by simpa using he2
          clear he he2
          generalize odG (l.take k) a p = xs at *
          by_cases he3 : (xs.length : Int) = i
          · have hd3 : ((xs.length : Int) == i) = true := by simpa using he3
            have HZ := Lib.hid (HAT2.out he3)
            clear he3 HAT2
            go_wp2_with fail
            go_ret
            exact ⟨_, rfl, .inr ⟨k, _, rfl, HZ.out⟩, by rw [HG.out]; exact hb.trans (hb3.mono hsz2)⟩
          · have hd3 : ((xs.length : Int) == i) = false := by simpa using he3
            have hc2 : i < 0 ∨ (xs.length : Int) + 1 ≤ i := by omega
            have hwr : IntKind.i64.wrap ((xs.length : Int) + 1) = (xs.length : Int) + 1 := IntWalk.i64_in _ ⟨by omega, by omega⟩
            clear he3 HAT2 hci
            go_wp2_with fail
            go_roundw
            case rel => exact ⟨k + 1, by omega, by go_num, by rw [HK2.out, List.length_append]; rfl, by rw [HK2.out, List.length_append]; exact hc2, hb3⟩
            case measure => simp [intOf]; omega
        · have HK2 : Hid (odG (l.take (k + 1)) a p = odG (l.take k) a p) := Lib.hid (by rw [HK1.out, if_neg (by simp [he2]), List.append_nil])
          have hd1 : (ra == a) = true := by simpa using he
          have hd2 : (rp == p) = false := by simpa using he2
          clear HK1 he he2 HAT
          go_wp2_with fail
          go_roundw
          case rel => exact ⟨k + 1, by omega, by go_num, by rw [HK2.out], by rw [HK2.out]; exact hci, hb3⟩
          case measure => simp [intOf]; omega
      · have HK2 : Hid (odG (l.take (k + 1)) a p = odG (l.take k) a p) := Lib.hid (by rw [HK1.out, if_neg (by simp [he]), List.append_nil])
        have hd1 : (ra == a) = false := by simpa using he
        clear HK1 he HAT
        go_wp2_with fail
        go_roundw
        case rel => exact ⟨k + 1, by omega, by go_num, by rw [HK2.out], by rw [HK2.out]; exact hci, hb3⟩
        case measure => simp [intOf]; omega
    · obtain rfl : k = n := by omega
      have HT : Hid (l.take l.length = l) := Lib.hid (List.take_length ..)
      have HLN2 := HLN.out
      subst HLN2
      rw [HT.out] at hci
      go_wp2_with fail
      go_ret
      exact ⟨_, rfl, .inl ⟨rfl, hci⟩, by rw [HG.out]; exact hb.trans (hbw.mono hsz2)⟩
end Go.Proofs.Ytbmbomojnljccaa
