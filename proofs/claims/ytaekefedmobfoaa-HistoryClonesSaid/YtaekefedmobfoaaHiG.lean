/- history: Put. -/
import Derived.Test.YtaekefedmobfoaaHiF
namespace Go.Proofs.Ytaekefedmobfoaa
open Go.RowKit
set_option linter.unusedVariables false
set_option linter.unusedSimpArgs false
theorem addr_addE (g j : Nat) : (⟨g, 0, none⟩ : Addr).add j = ⟨g, j, none⟩ := by unfold Addr.add; split <;> simp_all
/-- 'append' of one record to a slice of the call's own, behind the making of what is appended. -/
theorem append_recE {P : Program} {w W : World} {ops : Array Oper} {rest : List Oper} {o : Oper} {a : Act} {Q : Exit → Act → World → Prop}
    (hg : o.guard = none) (s x : Operand) (t : TypeId) (hop : o.op = Op.call { callee := Callee.builtin Builtin.append, args := #[s, x], argTypes := #[t, t] })
    (e : TypeId) (i : TypeInfo) (z : Value) (size bytes : Nat) (h1 : P.underlying t = some (.slice e)) (h2 : P.info? e = some i) (h3 : i.zero = some z) (h4 : i.size = size) (h5 : i.bytes = bytes) (h6 : z.cells.size = size) (h7 : 0 < size)
    (base : Nat) (v : Value) (n : Nat) (xs : List Value) (hs : a.eval s = v) (hown : OwnE w base e size v n xs)
    (cs : Array Value) (hcs : cs.size = size) (hx : a.eval x = .slice (some ⟨w.heap.size, 0, none⟩) 1 1) (h1c : ∀ u ∈ cs.toList, u.oneCell' = true)
    (b1 : n + 1 ≤ maxLen) (b2 : (n + 1) * bytes ≤ 140737488355328) (hbase : base ≤ w.heap.size) (B : Nat) (hB : B ≤ base) (hbel : Below B W w)
    (hK : ∀ v' w', OwnE w' base e size v' (n + 1) (xs ++ cs.toList) → Below B W w' → (w.alloc (.cells cs e)).grownBy w' v.ownBlock → (v'.ownBlock = v.ownBlock ∨ ∃ k, v'.ownBlock = some k ∧ w.heap.size ≤ k) → wpList P ops Q rest (a.put o.dst v') w') :
    wpList P ops Q (o :: rest) a (w.alloc (.cells cs e)) := by
  refine append_atE _ hg s x t hop e i z size bytes h1 h2 h3 h4 h5 h6 h7 base v n xs hs (hown.alloc _) ⟨w.heap.size, 0, none⟩ 1 1 cs.toList hx (by simp [hcs]) ?_ h1c b1 b2 (by simp; omega) ?_
  · intro j u hj
    rw [addr_addE, cell_of_row _ w.heap.size j cs e (0, 0) (heap_alloc_new w _), ← Array.getElem?_toList]
    exact hj
  · intro v' w' r1 r2 r3
    refine hK v' w' r1 ?_ r2 ?_
    · refine (hbel.alloc (by omega) _).grown r2 (by simp; omega) ?_
      intro k hk
      exact Nat.le_trans hB (hown.1.lt k hk).1
    · rcases r3 with r3 | ⟨k, r3, r4⟩
      · exact .inl r3
      · exact .inr ⟨k, r3, by simp at r4; omega⟩
theorem own_nn (a : Option Addr) (n c n' c' : Nat) : Value.ownBlock (.slice a n c) = Value.ownBlock (.slice a n' c') := by cases a <;> rfl
theorem info_hrec : (Try.prog.info? 64).map (fun i => (i.zero, i.size, i.bytes)) = some (some (.agg #[.int .i64 0, .int .i64 0, .int .i64 0, .string ByteArray.empty]), 4, 40) := by kernel_rfl
theorem At4.grownH {T : TypeId} {W W' : World} {g : Nat} {c0 c1 c2 c3 : Value} {row : Option Nat} (h : At4 T W g c0 c1 c2 c3) (hg : W.grownBy W' row) (hr : row ≠ some g) : At4 T W' g c0 c1 c2 c3 := by
  unfold At4 at h ⊢
  rw [hg.block g (lt_of_block h) (fun e => hr e.symm)]
  exact h
theorem hiAmongC (m : Int) (w : World) : Calls Try.prog 69 #[.int .i64 1, .int .i64 m, .int .i64 65535] w fun e w' => e = .returned (.int .i64 (hiC m)) ∧ w' = w := hiAmong_q 1 m 65535 w
theorem hiAmongT (m : Int) (w : World) : Calls Try.prog 69 #[.int .i64 0, .int .i64 m, .int .i64 100] w fun e w' => e = .returned (.int .i64 (hiT m)) ∧ w' = w := hiAmong_q 0 m 100 w
/-- Put of a number that is not above all. -/
theorem hiPutNo {w : World} {base gh : Nat} {m t : Int} {v : Value} {l : List HR} {ag : Int} (h : HIn w base gh m t v l ag) (x : HR) (hx : hiOk x.s l = false) :
    Calls Try.prog 30 #[.pointer (some ⟨gh, 0, none⟩), .int .i64 x.s, .int .i64 x.p, .string x.d] w fun e w' => e = .returned (.bool false) ∧ w' = w := by
  have hpos : 0 < l.length := by
    rcases Nat.eq_zero_or_pos l.length with h0 | h0
    · rw [List.length_eq_zero_iff] at h0
      subst h0
      cases hx
    · exact h0
  obtain ⟨r, hr⟩ : ∃ r, l[l.length - 1]? = some r := ⟨_, List.getElem?_eq_getElem (by omega)⟩
  have hge : x.s ≤ r.s := by
    rcases Int.lt_or_le r.s x.s with h1 | h1
    · rw [hiOk_last h.up x.s r hr h1] at hx
      cases hx
    · exact h1
  have hsm := h.small
  obtain ⟨a, cap, rfl, hnc, hcm, _, hrd⟩ := h.own.rdr
  unfold maxLen at hcm
  obtain ⟨g, off, rfl, c0, _, _, _⟩ := hrd _ r hr
  obtain ⟨_, _, _, _⟩ := h.at4.cells
  generalize l.length = n at *
  have hi1 : (1 : Int) ≤ n := by omega
  have hi2 : (0 : Int) ≤ (n : Int) - 1 := by omega
  have hi3 : (n : Int) - 1 < n := by omega
  have hi4 : ((n : Int) - 1).toNat = n - 1 := by omega
  have hi5 : n - 1 < n := by omega
  have hi6 : 1 ≤ n := hpos
  clear h hr hx hrd
  go_enter Try.func30, Try.ntmps30
  go_wp2_with fail
  go_ret
  exact ⟨rfl, rfl⟩

set_option maxRecDepth 100000 in
set_option maxHeartbeats 3200000 in
theorem hiPutRoom {w : World} {base gh : Nat} {m t : Int} {v : Value} {l : List HR} {ag : Int} (h : HIn w base gh m t v l ag) (x : HR) (hxt : x.t = 0) (hx : hiOk x.s l = true) (hful : (l.length : Int) < hiC m) :
    Calls Try.prog 30 #[.pointer (some ⟨gh, 0, none⟩), .int .i64 x.s, .int .i64 x.p, .string x.d] w fun e w' => e = .returned (.bool true) ∧ (∃ v', HIn w' base gh m t v' (l ++ [x]) ag) ∧ Below base w w' ∧ KeptH w w' ∧ KeptV gh v.ownBlock w w' := by
  have hsm := h.small
  have hbs := h.bs
  have hguard : l.length = 0 ∨ ∃ r, 0 < l.length ∧ l[l.length - 1]? = some r ∧ r.s < x.s := by
    rcases Nat.eq_zero_or_pos l.length with h0 | h0
    · exact .inl h0
    · obtain ⟨r, hr⟩ : ∃ r, l[l.length - 1]? = some r := ⟨_, List.getElem?_eq_getElem (by omega)⟩
      refine .inr ⟨r, h0, hr, ?_⟩
      rcases Int.lt_or_le r.s x.s with h1 | h1
      · exact h1
      · rw [hiOk_no x.s _ r hr h1] at hx
        cases hx
  obtain ⟨i0, hi, hz0, hz1, hz2⟩ := info_parts info_hrec
  obtain ⟨a, cap, rfl, hnc, hcm, _, hrd⟩ := h.own.rdr
  unfold maxLen at hcm
  have HQ := Lib.hid h
  have HA := Lib.hid (hiAmongC m)
  have hMb := hiC_bd m
  have hlen := h.len
  have hdd : decide (hiC m ≤ (l.length : Int)) = false := by simp; omega
  obtain ⟨xs, xt, xp, xd⟩ := x
  simp only at hxt
  subst hxt
  simp only at *
  have HX := Lib.hid hx
  obtain ⟨_, _, _, _⟩ := h.at4.cells
  have h4 := h.at4
  have HN := Lib.hid (hiV_len)
  clear hx h
  go_enter Try.func30, Try.ntmps30
  go_upto_region 2 with fail
  go_cut [29] (fun y wz => y = .bool false ∧ wz = w)
  case first =>
    rcases hguard with h0 | ⟨r, hpos, hr, hlt⟩
    · have hz1 : decide (0 < l.length) = false := decide_eq_false (by omega)
      have hz2 : decide ((0 : Int) < (l.length : Int)) = false := decide_eq_false (by omega)
      go_wp2_with fail
      go_meet
      exact ⟨by simp, by rfl⟩
    · obtain ⟨g, off, rfl, c0, _, _, _⟩ := hrd _ r hr
      generalize l.length = n at *
      have hi1 : (1 : Int) ≤ n := by omega
      have hi2 : (0 : Int) ≤ (n : Int) - 1 := by omega
      have hi3 : (n : Int) - 1 < n := by omega
      have hi4 : ((n : Int) - 1).toNat = n - 1 := by omega
      have hi5 : n - 1 < n := by omega
      have hi6 : 1 ≤ n := hpos
      clear hr hrd
      go_wp2_with fail
      go_meet
      exact ⟨by simp; omega, by rfl⟩
  case rest =>
  obtain ⟨rfl, rfl⟩ := hcut
  clear hguard hrd
  rename World => w1
  go_upto_region 4 with fail
  go_region_held3 (fun W => W.cell? ⟨gh, 0, none⟩ = some (.int .i64 m) ∧ W.cell? ⟨gh, 2, none⟩ = some (.slice a l.length cap)) (first | (go_keep; done) | (go_split_ands <;> assumption)) (first | (go_at_call 69; refine (HA.out _).mono ?_; rintro e w' ⟨rfl, rfl⟩))
  all_goals
    have hQ2 := HQ.out.drew
    have hb2 : Below base w1 w1.drew := (Below.refl _ _).drew
    have hK2 : KeptH w1 w1.drew := (KeptH.refl _).drew
    have hV2 : KeptV gh (Value.ownBlock (.slice a l.length cap)) w1 w1.drew := fun _ _ _ _ => rfl
    have hsv2 : w1.heap.size ≤ w1.drew.heap.size := Nat.le_refl _
    generalize hw2 : w1.drew = w2 at hQ2 hb2 hK2 hV2 hsv2 ⊢
    clear hw2
    have hQ3 := hQ2
    have hb3 := hb2
    have hK3 := hK2
    have hV3 := hV2
    have hsv3 := hsv2
    have hv3 : Value.ownBlock (.slice a l.length cap) = Value.ownBlock (.slice a l.length cap) := rfl
    clear hQ2 hb2 hK2 hV2 hsv2
    generalize w2 = w3 at *
    have hlen0 : (l).length ≤ 65535 := hQ3.small
    have hlenM : ((l).length : Int) + 1 ≤ hiC m := by omega
    have HP : Hid (∀ (W : World) (v' : Value), At4 123 W gh (.int .i64 m) (.int .i64 t) v' (.int .i64 ag) → OwnE W base 64 4 v' ((l).length + 1) (hiV (l) ++ (⟨xs, 0, xp, xd⟩ : HR).cs) → HIn W base gh m t v' (l ++ [⟨xs, 0, xp, xd⟩]) ag) := Lib.hid (fun W v' x y => ⟨hbs, x, by rw [List.length_append, hiV_snoc]; exact y, by rw [List.length_append]; simp only [List.length_cons, List.length_nil]; omega, hiUp_snoc HQ.out.up ⟨xs, 0, xp, xd⟩ HX.out⟩)
    have hX := hQ3.at4
    have hO := hQ3.own
    have HOB : Hid (∃ ob, ob = Value.ownBlock (.slice a l.length cap)) := Lib.hid ⟨_, rfl⟩
    obtain ⟨ob, hob⟩ := HOB.out
    rw [← hob] at hv3 hV3
    have HOB2 := Lib.hid hob
    have HV3 := Lib.hid hv3
    clear hob HOB hv3
    have hap := hQ3.apart
    have hbase : base ≤ w3.heap.size := by have := hX.lt; omega
    have HLE : Hid (∃ z, z = l) := Lib.hid ⟨_, rfl⟩
    obtain ⟨ll, hll⟩ := HLE.out
    first | rw [← hll] at HP hX hO hap hlen0 | rw [← hll] at HP hO hlen0
    have HLL := Lib.hid hll
    clear hll hQ3 hlenM HLE
    generalize ll.length = nn at *
    generalize hiV ll = cs at *
    obtain ⟨a3, c3, e3⟩ := hO.form4
    first | subst e3 | cases e3
    obtain ⟨_, _, _, _⟩ := hX.cells
    obtain ⟨_, _, _, _⟩ := hX.frees
    go_wp2_with (at_builtin; refine append_recE (W := w1) rfl (.tmp 47) (.tmp 52) 121 rfl 64 i0 (.agg #[.int .i64 0, .int .i64 0, .int .i64 0, .string ByteArray.empty]) 4 40 Try.underlying121 hi hz0 hz1 hz2 rfl (by decide) base _ nn cs rfl hO #[.int .i64 xs, .int .i64 0, .int .i64 xp, .string xd] rfl rfl ?d0 ?d1 ?d2 hbase base (Nat.le_refl _) hb3 ?_)
    case d0 => exact ⟨rfl, rfl, rfl, rfl⟩
    case d1 => unfold maxLen; omega
    case d2 => omega
    intro v' w4 hO4 hb4 hg4 hf4
    have hX4 := (hX.alloc (.cells #[.int .i64 xs, .int .i64 0, .int .i64 xp, .string xd] 64)).grownH hg4 hap
    have hne4 : v'.ownBlock ≠ some gh := by
      rcases hf4 with e | ⟨k, e, hk⟩
      · rw [e]; exact hap
      · rw [e]
        intro e2
        cases e2
        have := hX.lt
        omega
    have hK4 : KeptH w1 w4 := (hK3.trans (keptH_below ((Below.refl _ _).alloc (Nat.le_refl _) _))).trans (keptH_row (fun k hk => (hO.alloc _).2 k hk) hg4)
    have hV4 : KeptV gh ob w1 w4 := (hV3.trans hsv3 (keptV_below ((Below.refl _ _).alloc (Nat.le_refl _) (.cells #[.int .i64 xs, .int .i64 0, .int .i64 xp, .string xd] 64)))).trans (by simp; omega) (by first | (rw [← HV3.out]; exact keptV_grown hg4) | (rw [HOB2.out, own_nn a l.length cap nn cap]; exact keptV_grown hg4))
    have hsv4 : w1.heap.size ≤ w4.heap.size := hb4.size
    clear hX hO hap hg4 hf4 hb3 hK3 hV3 hsv3
    obtain ⟨a4, c4, rfl⟩ := hO4.form4
    obtain ⟨_, _, _, _⟩ := hX4.cells
    obtain ⟨_, _, _, _⟩ := hX4.frees
    go_upto_region 7 with fail
    have ho5 := (Only.refl gh w4).setCell 2 (.slice a4 (nn + 1) c4)
    have hX5 := at4h_set2 hX4 (.slice a4 (nn + 1) c4)
    have hO5 : OwnE (w4.setCell ⟨gh, 2, none⟩ (.slice a4 (nn + 1) c4)) base 64 4 (.slice a4 (nn + 1) c4) (nn + 1) (cs ++ (⟨xs, 0, xp, xd⟩ : HR).cs) := hO4.keep (by rw [ho5.size]; exact Nat.le_refl _) (fun k cs hk _ => ho5.block k (fun e => hne4 (by rw [hk, e])))
    go_wp2_with fail
    go_ret
    exact ⟨rfl, ⟨_, by rw [← HLL.out]; exact HP.out _ _ hX5 hO5⟩, hb4.trans (ho5.below hbs), hK4.trans (keptH_only hX4 ho5), by rw [← HOB2.out]; exact hV4.trans hsv4 (keptV_only ho5)⟩

set_option maxRecDepth 100000 in
set_option maxHeartbeats 3200000 in
theorem hiPutFull {w : World} {base gh : Nat} {m t : Int} {v : Value} {l : List HR} {ag : Int} (h : HIn w base gh m t v l ag) (x : HR) (hxt : x.t = 0) (hx : hiOk x.s l = true) (hful : hiC m ≤ (l.length : Int)) :
    Calls Try.prog 30 #[.pointer (some ⟨gh, 0, none⟩), .int .i64 x.s, .int .i64 x.p, .string x.d] w fun e w' => e = .returned (.bool true) ∧ (∃ v', HIn w' base gh m t v' (l.drop 1 ++ [x]) ag) ∧ Below base w w' ∧ KeptH w w' ∧ KeptV gh v.ownBlock w w' := by
  have hsm := h.small
  have hbs := h.bs
  have hguard : l.length = 0 ∨ ∃ r, 0 < l.length ∧ l[l.length - 1]? = some r ∧ r.s < x.s := by
    rcases Nat.eq_zero_or_pos l.length with h0 | h0
    · exact .inl h0
    · obtain ⟨r, hr⟩ : ∃ r, l[l.length - 1]? = some r := ⟨_, List.getElem?_eq_getElem (by omega)⟩
      refine .inr ⟨r, h0, hr, ?_⟩
      rcases Int.lt_or_le r.s x.s with h1 | h1
      · exact h1
      · rw [hiOk_no x.s _ r hr h1] at hx
        cases hx
  obtain ⟨i0, hi, hz0, hz1, hz2⟩ := info_parts info_hrec
  obtain ⟨a, cap, rfl, hnc, hcm, _, hrd⟩ := h.own.rdr
  unfold maxLen at hcm
  have HQ := Lib.hid h
  have HA := Lib.hid (hiAmongC m)
  have hMb := hiC_bd m
  have hlen := h.len
  have hdd : decide (hiC m ≤ (l.length : Int)) = true := by simp; omega
  obtain ⟨xs, xt, xp, xd⟩ := x
  simp only at hxt
  subst hxt
  simp only at *
  have HX := Lib.hid hx
  obtain ⟨_, _, _, _⟩ := h.at4.cells
  have h4 := h.at4
  have HN := Lib.hid (hiV_len)
  clear hx h
  go_enter Try.func30, Try.ntmps30
  go_upto_region 2 with fail
  go_cut [29] (fun y wz => y = .bool false ∧ wz = w)
  case first =>
    rcases hguard with h0 | ⟨r, hpos, hr, hlt⟩
    · have hz1 : decide (0 < l.length) = false := decide_eq_false (by omega)
      have hz2 : decide ((0 : Int) < (l.length : Int)) = false := decide_eq_false (by omega)
      go_wp2_with fail
      go_meet
      exact ⟨by simp, by rfl⟩
    · obtain ⟨g, off, rfl, c0, _, _, _⟩ := hrd _ r hr
      generalize l.length = n at *
      have hi1 : (1 : Int) ≤ n := by omega
      have hi2 : (0 : Int) ≤ (n : Int) - 1 := by omega
      have hi3 : (n : Int) - 1 < n := by omega
      have hi4 : ((n : Int) - 1).toNat = n - 1 := by omega
      have hi5 : n - 1 < n := by omega
      have hi6 : 1 ≤ n := hpos
      clear hr hrd
      go_wp2_with fail
      go_meet
      exact ⟨by simp; omega, by rfl⟩
  case rest =>
  obtain ⟨rfl, rfl⟩ := hcut
  clear hguard hrd
  rename World => w1
  go_upto_region 4 with fail
  go_region_held3 (fun W => W.cell? ⟨gh, 0, none⟩ = some (.int .i64 m) ∧ W.cell? ⟨gh, 2, none⟩ = some (.slice a l.length cap)) (first | (go_keep; done) | (go_split_ands <;> assumption)) (first | (go_at_call 69; refine (HA.out _).mono ?_; rintro e w' ⟨rfl, rfl⟩))
  all_goals
    have hQ2 := HQ.out.drew
    have hb2 : Below base w1 w1.drew := (Below.refl _ _).drew
    have hK2 : KeptH w1 w1.drew := (KeptH.refl _).drew
    have hV2 : KeptV gh (Value.ownBlock (.slice a l.length cap)) w1 w1.drew := fun _ _ _ _ => rfl
    have hsv2 : w1.heap.size ≤ w1.drew.heap.size := Nat.le_refl _
    generalize hw2 : w1.drew = w2 at hQ2 hb2 hK2 hV2 hsv2 ⊢
    clear hw2
    have HD := Lib.hid (hiDrop_any hQ2 1 (by omega))
    rw [show (((1 : Nat) : Int)) = 1 from rfl] at HD
    go_wp2_with fail
    refine HD.out.mono ?_
    rintro e w3 ⟨rfl, ⟨v3, hQ3, hv3⟩, hk3, hK3', hV3'⟩
    have hV3 := hV2.trans hsv2 hV3'
    have hsv3 : w1.heap.size ≤ w3.heap.size := Nat.le_trans hsv2 hK3'.size
    have hb3 := hb2.trans hk3
    have hK3 := hK2.trans hK3'
    clear HD hQ2 hb2 hK2 hk3 hK3' 
    have hlen0 : (l.drop 1).length ≤ 65535 := hQ3.small
    have hlenM : ((l.drop 1).length : Int) + 1 ≤ hiC m := by rw [List.length_drop]; omega
    have HP : Hid (∀ (W : World) (v' : Value), At4 123 W gh (.int .i64 m) (.int .i64 t) v' (.int .i64 ag) → OwnE W base 64 4 v' ((l.drop 1).length + 1) (hiV (l.drop 1) ++ (⟨xs, 0, xp, xd⟩ : HR).cs) → HIn W base gh m t v' (l.drop 1 ++ [⟨xs, 0, xp, xd⟩]) ag) := Lib.hid (fun W v' x y => ⟨hbs, x, by rw [List.length_append, hiV_snoc]; exact y, by rw [List.length_append]; simp only [List.length_cons, List.length_nil]; omega, by
        have h1 := hiUp_snoc HQ.out.up ⟨xs, 0, xp, xd⟩ HX.out
        have h2 := hiUp_drop h1 1
        rw [List.drop_append_of_le_length (by omega)] at h2
        exact h2⟩)
    have hX := hQ3.at4
    have hO := hQ3.own
    have HOB : Hid (∃ ob, ob = Value.ownBlock (.slice a l.length cap)) := Lib.hid ⟨_, rfl⟩
    obtain ⟨ob, hob⟩ := HOB.out
    rw [← hob] at hv3 hV3
    have HOB2 := Lib.hid hob
    have HV3 := Lib.hid hv3
    clear hob HOB hv3
    have hap := hQ3.apart
    have hbase : base ≤ w3.heap.size := by have := hX.lt; omega
    have HLE : Hid (∃ z, z = l.drop 1) := Lib.hid ⟨_, rfl⟩
    obtain ⟨ll, hll⟩ := HLE.out
    first | rw [← hll] at HP hX hO hap hlen0 | rw [← hll] at HP hO hlen0
    have HLL := Lib.hid hll
    clear hll hQ3 hlenM HLE
    generalize ll.length = nn at *
    generalize hiV ll = cs at *
    obtain ⟨a3, c3, e3⟩ := hO.form4
    first | subst e3 | cases e3
    obtain ⟨_, _, _, _⟩ := hX.cells
    obtain ⟨_, _, _, _⟩ := hX.frees
    go_wp2_with (at_builtin; refine append_recE (W := w1) rfl (.tmp 47) (.tmp 52) 121 rfl 64 i0 (.agg #[.int .i64 0, .int .i64 0, .int .i64 0, .string ByteArray.empty]) 4 40 Try.underlying121 hi hz0 hz1 hz2 rfl (by decide) base _ nn cs rfl hO #[.int .i64 xs, .int .i64 0, .int .i64 xp, .string xd] rfl rfl ?d0 ?d1 ?d2 hbase base (Nat.le_refl _) hb3 ?_)
    case d0 => exact ⟨rfl, rfl, rfl, rfl⟩
    case d1 => unfold maxLen; omega
    case d2 => omega
    intro v' w4 hO4 hb4 hg4 hf4
    have hX4 := (hX.alloc (.cells #[.int .i64 xs, .int .i64 0, .int .i64 xp, .string xd] 64)).grownH hg4 hap
    have hne4 : v'.ownBlock ≠ some gh := by
      rcases hf4 with e | ⟨k, e, hk⟩
      · rw [e]; exact hap
      · rw [e]
        intro e2
        cases e2
        have := hX.lt
        omega
    have hK4 : KeptH w1 w4 := (hK3.trans (keptH_below ((Below.refl _ _).alloc (Nat.le_refl _) _))).trans (keptH_row (fun k hk => (hO.alloc _).2 k hk) hg4)
    have hV4 : KeptV gh ob w1 w4 := (hV3.trans hsv3 (keptV_below ((Below.refl _ _).alloc (Nat.le_refl _) (.cells #[.int .i64 xs, .int .i64 0, .int .i64 xp, .string xd] 64)))).trans (by simp; omega) (by first | (rw [← HV3.out]; exact keptV_grown hg4) | (rw [HOB2.out, own_nn a l.length cap nn cap]; exact keptV_grown hg4))
    have hsv4 : w1.heap.size ≤ w4.heap.size := hb4.size
    clear hX hO hap hg4 hf4 hb3 hK3 hV3 hsv3
    obtain ⟨a4, c4, rfl⟩ := hO4.form4
    obtain ⟨_, _, _, _⟩ := hX4.cells
    obtain ⟨_, _, _, _⟩ := hX4.frees
    go_upto_region 7 with fail
    have ho5 := (Only.refl gh w4).setCell 2 (.slice a4 (nn + 1) c4)
    have hX5 := at4h_set2 hX4 (.slice a4 (nn + 1) c4)
    have hO5 : OwnE (w4.setCell ⟨gh, 2, none⟩ (.slice a4 (nn + 1) c4)) base 64 4 (.slice a4 (nn + 1) c4) (nn + 1) (cs ++ (⟨xs, 0, xp, xd⟩ : HR).cs) := hO4.keep (by rw [ho5.size]; exact Nat.le_refl _) (fun k cs hk _ => ho5.block k (fun e => hne4 (by rw [hk, e])))
    go_wp2_with fail
    go_ret
    exact ⟨rfl, ⟨_, by rw [← HLL.out]; exact HP.out _ _ hX5 hO5⟩, hb4.trans (ho5.below hbs), hK4.trans (keptH_only hX4 ho5), by rw [← HOB2.out]; exact hV4.trans hsv4 (keptV_only ho5)⟩

end Go.Proofs.Ytaekefedmobfoaa
