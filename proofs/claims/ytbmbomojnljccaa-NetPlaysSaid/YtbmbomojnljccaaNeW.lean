/- net: the document's Turn. -/
import Derived.Test.YtbmbomojnljccaaNeV
import Derived.Test.YtbmbomojnljccaaNeP2
import Derived.Test.YtbmbomojnljccaaCrcU
namespace Go.Proofs.Ytbmbomojnljccaa
open Go.RowKit Go.Maps
set_option linter.unusedVariables false
set_option linter.unusedSimpArgs false
/-- How Turn ends. -/
inductive NeTurnR (l : List OD) (a p i at_ : Int) (mk : Nat) : Bool → List OD → Prop
  | none (h : OdNone l a p i) : NeTurnR l a p i at_ mk false l
  | some (k : Nat) (r : OD) (h : OdAt l a p i k r) : NeTurnR l a p i at_ mk true (l.set k ⟨r.a, r.p, turnB r.s at_ mk⟩)
set_option maxRecDepth 100000 in
set_option maxHeartbeats 6400000 in
theorem refNeTurn_any {w : World} {vl : Value} {l : List OD} {n : Nat} (m b c0 c1 c2 c3 c4 c5 a p i bit : Int) (mk : Nat) (hmk : mk < 4294967296) (hL : OwnE w 0 84 3 vl n (odV l)) (hn : n ≤ 65535) (hx : ∀ o ∈ l, 0 < o.s.size ∧ o.s.size ≤ 1500) (hq : 0 ≤ c4 ∧ c4 ≤ 1099511627776) :
    Calls Try.prog 26 #[neRv m b vl c0 c1 c2 c3 c4 c5, .int .i64 a, .int .i64 p, .int .i64 i, .int .i64 bit, .int .u32 (mk : Int)] w fun e w' => ∃ (r : Bool) (l' : List OD) (v' : Value), e = .returned (.tuple #[neRv m b v' c0 c1 c2 c3 (if r = true then c4 + 1 else c4) c5, .bool r]) ∧ NeTurnR l a p i bit mk r l' ∧ OwnE w' 0 84 3 v' l'.length (odV l') ∧ Below w.heap.size w w' := by
  unfold neRv
  obtain ⟨ax, cap, rfl, hnc, hcm, hln, _⟩ := hL.rdo
  unfold maxLen at hcm
  have hX1 := atQ_new 34 (w.alloc (.cells #[.int .i64 m, .int .i64 b, .slice ax n cap, .int .i64 c0, .int .i64 c1, .int .i64 c2, .int .i64 c3, .int .i64 c4, .int .i64 c5] 34)) (w.heap.size + 1) #[.int .i64 0, .int .i64 0, .slice none 0 0, .int .i64 0, .int .i64 0, .int .i64 0, .int .i64 0, .int .i64 0, .int .i64 0] (by simp)
  have hX0 := (atQ_new 34 w w.heap.size #[.int .i64 m, .int .i64 b, .slice ax n cap, .int .i64 c0, .int .i64 c1, .int .i64 c2, .int .i64 c3, .int .i64 c4, .int .i64 c5] rfl).later (W' := ((w.alloc (.cells #[.int .i64 m, .int .i64 b, .slice ax n cap, .int .i64 c0, .int .i64 c1, .int .i64 c2, .int .i64 c3, .int .i64 c4, .int .i64 c5] 34)).alloc (.cells #[.int .i64 0, .int .i64 0, .slice none 0 0, .int .i64 0, .int .i64 0, .int .i64 0, .int .i64 0, .int .i64 0, .int .i64 0] 34))) ((Below.refl _ _).alloc (Nat.le_refl _) _)
  have hb : Below w.heap.size w ((w.alloc (.cells #[.int .i64 m, .int .i64 b, .slice ax n cap, .int .i64 c0, .int .i64 c1, .int .i64 c2, .int .i64 c3, .int .i64 c4, .int .i64 c5] 34)).alloc (.cells #[.int .i64 0, .int .i64 0, .slice none 0 0, .int .i64 0, .int .i64 0, .int .i64 0, .int .i64 0, .int .i64 0, .int .i64 0] 34)) := ((Below.refl _ _).alloc (Nat.le_refl _) _).alloc (by simp) _
  go_enter Try.func26, Try.ntmps26
  go_upto_region 1 with fail
  generalize ((w.alloc (.cells #[.int .i64 m, .int .i64 b, .slice ax n cap, .int .i64 c0, .int .i64 c1, .int .i64 c2, .int .i64 c3, .int .i64 c4, .int .i64 c5] 34)).alloc (.cells #[.int .i64 0, .int .i64 0, .slice none 0 0, .int .i64 0, .int .i64 0, .int .i64 0, .int .i64 0, .int .i64 0, .int .i64 0] 34)) = w2 at hX0 hX1 hb ⊢
  have hL2 := hL.later hb
  generalize hg1 : w.heap.size + 1 = g1 at *
  generalize hg0 : w.heap.size = g0 at *
  have HG := Lib.hid hg0
  have hle1 : g0 ≤ g1 := by omega
  have hne01 : g0 ≠ g1 := by omega
  have hne10 : g1 ≠ g0 := by omega
  have hsz2 : g0 ≤ w2.heap.size := Nat.le_of_lt hX0.lt
  clear hg0 hg1 hL
  obtain ⟨z0, z1, z2, z3, z4, z5, z6, z7, z8⟩ := hX0.cells9
  have HA := Lib.hid (refNePlace_any m b c0 c1 c2 c3 c4 c5 a p i hL2 hn)
  unfold neRv at HA
  go_wp2_with fail
  refine HA.out.mono ?_
  rintro e w3 ⟨at_, rfl, hpl, hb3⟩
  have hX0' := hX0.later hb3
  have hX1' := hX1.later hb3
  have hL3 := hL2.later hb3
  have hb3' := hb.trans (hb3.mono hsz2)
  have hsz3 : g0 ≤ w3.heap.size := Nat.le_trans hsz2 hb3.size
  clear hX0 hX1 hL2 HA hb hb3 z0 z1 z2 z3 z4 z5 z6 z7 z8
  rcases hpl with ⟨rfl, hno⟩ | ⟨k, o, rfl, hat⟩
  · obtain ⟨_, _, _, _, _, _, _, _, _⟩ := hX0'.cells9
    obtain ⟨_, _, _, _, _, _, _, _, _⟩ := hX1'.frees9
    obtain ⟨_, _, _, _, _, _, _, _, _⟩ := hX1'.cells9
    have hZ := atQ9_put hX1' (.int .i64 m) (.int .i64 b) (.slice ax n cap) (.int .i64 c0) (.int .i64 c1) (.int .i64 c2) (.int .i64 c3) (.int .i64 c4) (.int .i64 c5)
    have hbz := hb3'.trans ((put9_only w3 g1 (.int .i64 m) (.int .i64 b) (.slice ax n cap) (.int .i64 c0) (.int .i64 c1) (.int .i64 c2) (.int .i64 c3) (.int .i64 c4) (.int .i64 c5)).below hle1)
    have hLz := hL3.keep (W' := (((((((((w3.setCell ⟨g1, 0, none⟩ (.int .i64 m)).setCell ⟨g1, 1, none⟩ (.int .i64 b)).setCell ⟨g1, 2, none⟩ (.slice ax n cap)).setCell ⟨g1, 3, none⟩ (.int .i64 c0)).setCell ⟨g1, 4, none⟩ (.int .i64 c1)).setCell ⟨g1, 5, none⟩ (.int .i64 c2)).setCell ⟨g1, 6, none⟩ (.int .i64 c3)).setCell ⟨g1, 7, none⟩ (.int .i64 c4)).setCell ⟨g1, 8, none⟩ (.int .i64 c5))) (by rw [(put9_only w3 g1 (.int .i64 m) (.int .i64 b) (.slice ax n cap) (.int .i64 c0) (.int .i64 c1) (.int .i64 c2) (.int .i64 c3) (.int .i64 c4) (.int .i64 c5)).size]; exact Nat.le_refl _) (fun k cs hk hc => (put9_only w3 g1 (.int .i64 m) (.int .i64 b) (.slice ax n cap) (.int .i64 c0) (.int .i64 c1) (.int .i64 c2) (.int .i64 c3) (.int .i64 c4) (.int .i64 c5)).block k (fun e' => by
      subst e'
      exact blkQ_ne (T := 84) (T' := 34) hc hX1' (by decide) rfl))
    obtain ⟨d0, d1, d2, d3, d4, d5, d6, d7, d8⟩ := hZ.cells9
    have HBZ := Lib.hid hbz
    have HLZ := Lib.hid hLz
    clear hX0' hX1' hL3 hb3' hZ hbz hLz
    go_upto_region 3 with fail
    repeat (first | go_skip | go_guarded | go_step | go_upon | go_back)
    subst hln
    refine bodyPost_ret (v := .tuple #[.agg #[.int .i64 m, .int .i64 b, .slice ax l.length cap, .int .i64 c0, .int .i64 c1, .int .i64 c2, .int .i64 c3, .int .i64 c4, .int .i64 c5], .bool false]) (by simp [results, Try.results26, go_sem, d0, d1, d2, d3, d4, d5, d6, d7, d8]) rfl ⟨false, l, .slice ax l.length cap, rfl, .none hno, HLZ.out, by rw [HG.out]; exact HBZ.out⟩
  · have hkl := hat.lt
    have hd0 : decide ((k : Int) < 0) = false := decide_eq_false (by omega)
    have hxo := hx o hat.mem
    obtain ⟨i0, hi, hz0, hz1, hz2⟩ := info_parts info_one
    have hal : Below w3.heap.size w3 (w3.alloc (.cells #[] 84)) := (Below.refl _ _).alloc (Nat.le_refl _) _
    have hE : OwnE (w3.alloc (.cells #[] 84)) w3.heap.size 84 3 (.slice (some ⟨w3.heap.size, 0, none⟩) 0 0) 0 [] := ownE_of (World.ownsRow_lit w3 #[] 0 (Nat.le_refl _) (Nat.zero_le _) rfl)
    obtain ⟨ya, yc, ey, hnn, hcc, hvl⟩ := (hL3.later hal).srcG
    simp only [Value.slice.injEq, true_and] at ey
    obtain ⟨rfl, rfl⟩ := ey
    have HC3 := Lib.hid hcc
    have HN3 := Lib.hid hnn
    have HV3 := Lib.hid hvl
    have H13 := Lib.hid (odV_one l)
    clear hcc hnn hvl
    obtain ⟨_, _, _, _, _, _, _, _, _⟩ := (hX0'.later hal).cells9
    go_wp2_with (at_builtin; refine append_anyG _ rfl (.tmp 24) (.tmp 26) 30 rfl 84 i0 (.agg #[.int .i64 0, .int .i64 0, .string ByteArray.empty]) 3 32 Try.underlying30 hi hz0 hz1 hz2 rfl (by decide) w3.heap.size _ 0 [] rfl hE ax n cap (odV l) rfl HV3.out HN3.out HC3.out H13.out ?m1 ?m2 (by simp) ?_)
    case m1 => unfold maxLen; omega
    case m2 => omega
    intro v4 w4 hO4 hg4 _
    have hb4 : Below w3.heap.size w3 w4 := hal.grown hg4 (by simp) (fun k hk => by cases hk; exact Nat.le_refl _)
    clear hE hal HC3 HN3 HV3 H13 hg4
    (try rw [Nat.zero_add] at hO4)
    (try rw [List.nil_append] at hO4)
    obtain ⟨g5, off5, cap5, rfl, hc5a, hc5b, hge5, hlt5, hcl5⟩ := hO4.row (by omega)
    have hsz4 := hb4.size
    have hrow : (odV l)[k * 3 + 2]? = some (.string o.s) := rowsV_at OD.rs_len l k o hat.hk 2 _ rfl
    obtain ⟨e2, f2⟩ := hcl5 (k * 3 + 2) _ hrow
    rw [← Nat.add_assoc] at e2 f2
    have HTU := Lib.hid (refTurn_any o.s bit mk w4 (by omega) hxo.1 hmk)
    have hkn : (k : Int) < n := by omega
    have hc5c : cap5 ≤ 9223372036854775807 := by unfold maxLen at hc5b; omega
    clear hcl5
    go_wp2_with fail
    refine HTU.out.mono ?_
    rintro e w5 ⟨rfl, hb5⟩
    rw [show ofL (turnL (by_ o.s) bit mk) = turnB o.s bit mk from rfl]
    have hO5 := hO4.later hb5
    have hb45 := hb4.trans (hb5.mono hsz4)
    have hX0c := hX0'.later hb45
    have hX1c := hX1'.later hb45
    have hbc := hb3'.trans (hb45.mono hsz3)
    have e2' : w5.cell? ⟨g5, off5 + k * 3 + 2, none⟩ = some (.string o.s) := by rw [hb5.cell (p := ⟨g5, off5 + k * 3 + 2, none⟩) hlt5]; exact e2
    have f2' : w5.frozen? ⟨g5, off5 + k * 3 + 2, none⟩ = false := by rw [hb5.frozen (p := ⟨g5, off5 + k * 3 + 2, none⟩) hlt5]; exact f2
    clear e2 f2 HTU hO4 hb4 hb5 hX0' hX1' hL3 hb3'
    have hset := hO5.setAt (k * 3 + 2) (.string (turnB o.s bit mk)) (List.getElem?_eq_some_iff.1 hrow).1
    rw [← Nat.add_assoc, show (odV l).set (k * 3 + 2) (.string (turnB o.s bit mk)) = odV (l.set k ⟨o.a, o.p, turnB o.s bit mk⟩) from (rowsV_set OD.rs_len l k o ⟨o.a, o.p, turnB o.s bit mk⟩ hat.hk 2 _ (by decide) rfl).symm] at hset
    have ho5 := (Only.refl g5 w5).setCell (off5 + k * 3 + 2) (.string (turnB o.s bit mk))
    have hg5 : g5 ≠ g0 ∧ g5 ≠ g1 := by
      have := hX0c.lt
      obtain ⟨cs, hcs⟩ := hO5.2 g5 rfl
      exact ⟨blkQ_ne hcs hX0c (by decide), blkQ_ne hcs hX1c (by decide)⟩
    have hX0e := hX0c.only hg5.1.symm ho5
    have hX1e := hX1c.only hg5.2.symm ho5
    have hbe := hbc.trans (ho5.below (by omega))
    go_upto_region 6 with fail
    generalize (w5.setCell ⟨g5, off5 + k * 3 + 2, none⟩ (.string (turnB o.s bit mk))) = w6 at *
    clear e2' f2' hX0c hX1c hbc hO5 ho5
    have hll : (l.set k ⟨o.a, o.p, turnB o.s bit mk⟩).length = n := by rw [List.length_set]; exact hln
    have HOT := Lib.hid (NeTurnR.some (at_ := bit) (mk := mk) k o hat)
    generalize l.set k ⟨o.a, o.p, turnB o.s bit mk⟩ = l6 at *
    obtain ⟨_, _, _, _, _, _, _, _, _⟩ := hX0e.cells9
    obtain ⟨_, _, _, _, _, _, _, _, _⟩ := hX0e.frees9
    have ho6 := (Only.refl g0 w6).setCell 2 (.slice (some ⟨g5, off5, none⟩) n cap5)
    have hXf := atQ9_set2 hX0e (.slice (some ⟨g5, off5, none⟩) n cap5)
    have hX1f := hX1e.only hne10 ho6
    have hbf := hbe.trans (ho6.below (Nat.le_refl _))
    have hOf := hset.keep (W' := w6.setCell ⟨g0, 2, none⟩ (.slice (some ⟨g5, off5, none⟩) n cap5)) (by rw [ho6.size]; exact Nat.le_refl _) (fun k cs hk hc => ho6.block k (fun e' => by
      subst e'
      exact blkQ_ne (T := 84) (T' := 34) hc hX0e (by decide) rfl))
    go_upto_region 7 with fail
    generalize (w6.setCell ⟨g0, 2, none⟩ (.slice (some ⟨g5, off5, none⟩) n cap5)) = w7 at *
    clear hX0e hX1e hbe hset ho6
    obtain ⟨_, _, _, _, _, _, _, _, _⟩ := hXf.cells9
    obtain ⟨_, _, _, _, _, _, _, _, _⟩ := hXf.frees9
    have hwr : IntKind.i64.wrap (c4 + 1) = c4 + 1 := IntWalk.i64_in _ ⟨by omega, by omega⟩
    have ho7 := (Only.refl g0 w7).setCell 7 (.int .i64 (c4 + 1))
    have hXg := atQ9_set7 hXf (.int .i64 (c4 + 1))
    have hX1g := hX1f.only hne10 ho7
    have hbg := hbf.trans (ho7.below (Nat.le_refl _))
    have hOg := hOf.keep (W' := w7.setCell ⟨g0, 7, none⟩ (.int .i64 (c4 + 1))) (by rw [ho7.size]; exact Nat.le_refl _) (fun k cs hk hc => ho7.block k (fun e' => by
      subst e'
      exact blkQ_ne (T := 84) (T' := 34) hc hXf (by decide) rfl))
    go_upto_region 8 with fail
    generalize (w7.setCell ⟨g0, 7, none⟩ (.int .i64 (c4 + 1))) = w8 at *
    clear hXf hX1f hbf hOf ho7
    obtain ⟨_, _, _, _, _, _, _, _, _⟩ := hXg.cells9
    obtain ⟨_, _, _, _, _, _, _, _, _⟩ := hX1g.frees9
    obtain ⟨_, _, _, _, _, _, _, _, _⟩ := hX1g.cells9
    have hZ := atQ9_put hX1g (.int .i64 m) (.int .i64 b) (.slice (some ⟨g5, off5, none⟩) n cap5) (.int .i64 c0) (.int .i64 c1) (.int .i64 c2) (.int .i64 c3) (.int .i64 (c4 + 1)) (.int .i64 c5)
    have hbz := hbg.trans ((put9_only w8 g1 (.int .i64 m) (.int .i64 b) (.slice (some ⟨g5, off5, none⟩) n cap5) (.int .i64 c0) (.int .i64 c1) (.int .i64 c2) (.int .i64 c3) (.int .i64 (c4 + 1)) (.int .i64 c5)).below hle1)
    have hLz := hOg.keep (W' := (((((((((w8.setCell ⟨g1, 0, none⟩ (.int .i64 m)).setCell ⟨g1, 1, none⟩ (.int .i64 b)).setCell ⟨g1, 2, none⟩ (.slice (some ⟨g5, off5, none⟩) n cap5)).setCell ⟨g1, 3, none⟩ (.int .i64 c0)).setCell ⟨g1, 4, none⟩ (.int .i64 c1)).setCell ⟨g1, 5, none⟩ (.int .i64 c2)).setCell ⟨g1, 6, none⟩ (.int .i64 c3)).setCell ⟨g1, 7, none⟩ (.int .i64 (c4 + 1))).setCell ⟨g1, 8, none⟩ (.int .i64 c5))) (by rw [(put9_only w8 g1 (.int .i64 m) (.int .i64 b) (.slice (some ⟨g5, off5, none⟩) n cap5) (.int .i64 c0) (.int .i64 c1) (.int .i64 c2) (.int .i64 c3) (.int .i64 (c4 + 1)) (.int .i64 c5)).size]; exact Nat.le_refl _) (fun k cs hk hc => (put9_only w8 g1 (.int .i64 m) (.int .i64 b) (.slice (some ⟨g5, off5, none⟩) n cap5) (.int .i64 c0) (.int .i64 c1) (.int .i64 c2) (.int .i64 c3) (.int .i64 (c4 + 1)) (.int .i64 c5)).block k (fun e' => by
      subst e'
      exact blkQ_ne (T := 84) (T' := 34) hc hX1g (by decide) rfl))
    obtain ⟨d0, d1, d2, d3, d4, d5, d6, d7, d8⟩ := hZ.cells9
    have HBZ := Lib.hid hbz
    have HLZ := Lib.hid hLz
    clear hXg hX1g hbg hOg hZ hbz hLz
    repeat (first | go_skip | go_guarded | go_step | go_upon | go_back)
    refine bodyPost_ret (v := .tuple #[.agg #[.int .i64 m, .int .i64 b, .slice (some ⟨g5, off5, none⟩) n cap5, .int .i64 c0, .int .i64 c1, .int .i64 c2, .int .i64 c3, .int .i64 (c4 + 1), .int .i64 c5], .bool true]) (by simp [results, Try.results26, go_sem, d0, d1, d2, d3, d4, d5, d6, d7, d8]) rfl ⟨true, l6, .slice (some ⟨g5, off5, none⟩) n cap5, rfl, HOT.out, by rw [hll]; exact (HLZ.out).base (Nat.zero_le _), by rw [HG.out]; exact HBZ.out⟩
end Go.Proofs.Ytbmbomojnljccaa
