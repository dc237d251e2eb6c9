/- Subflow: the document's ToLines. -/
import Derived.Test.YtjoikidnnhjogaaMSfV
import Derived.Test.YtjoikidnnhjogaaMSfX
namespace Go.Proofs.Ytjoikidnnhjogaa
open Go.RowKit
set_option linter.unusedVariables false
def lisVR (l : List LI) : List Value := (l.map LI.rvals).flatten
theorem lisVR_len (l : List LI) : (lisVR l).length = l.length * 8 := by
  unfold lisVR
  induction l with
  | nil => rfl
  | cons p l ih => simp only [List.map_cons, List.flatten_cons, List.length_append, ih, List.length_cons]; rw [Nat.add_mul, Nat.one_mul, Nat.add_comm]; rfl
theorem lisVR_at : ∀ (l : List LI) (i j : Nat) (v : Value), i < l.length → (l[i]?.getD zeroLI).rvals[j]? = some v → (lisVR l)[i * 8 + j]? = some v
  | [], i, j, v, h, _ => by simp at h
  | p :: l, 0, j, v, _, hv => by
    have hj : j < 8 := (List.getElem?_eq_some_iff.1 hv).1
    show (p.rvals ++ lisVR l)[0 * 8 + j]? = _
    rw [show 0 * 8 + j = j from by omega, List.getElem?_append_left (by show j < 8; exact hj)]
    simpa using hv
  | p :: l, i + 1, j, v, h, hv => by
    show (p.rvals ++ lisVR l)[(i + 1) * 8 + j]? = _
    rw [List.getElem?_append_right (by show 8 ≤ (i + 1) * 8 + j; omega), show (i + 1) * 8 + j - p.rvals.length = i * 8 + j from by show (i + 1) * 8 + j - 8 = _; omega]
    exact lisVR_at l i j v (by simpa using h) (by simpa using hv)
theorem own_readsLR {w : World} {B : Nat} {e : TypeId} {a : Option Addr} {n c : Nat} {l : List LI} (h : w.ownsRow B e 8 (.slice a n c) n (lisVR l)) : ReadsL LI.rvals w a l := by
  have hn : n = l.length := by have := h.1; rw [lisVR_len] at this; omega
  rcases h.2 with ⟨hv, hn0⟩ | ⟨g, cap, cur, hv, _, _, hl, hm, _, _⟩
  · exact .inl (List.length_eq_zero_iff.1 (by omega))
  · cases hv
    refine .inr ⟨g, 0, rfl, fun i hi j v' hv' => ?_⟩
    have hj : j < 8 := (List.getElem?_eq_some_iff.1 hv').1
    rw [Nat.zero_add, h.cellAt (i * 8 + j) (by omega), lisVR_at l i j v' hi hv']
theorem infoLiR : (Try.prog.info? 122).map (fun i => (i.zero, i.size, i.bytes)) = some (some (.agg #[.int .i64 0, .int .i64 0, .int .i64 0, .int .i64 0, .int .i64 0, .int .i64 0, .int .i64 0, .int .i64 0]), 8, 64) := by kernel_rfl
theorem dLis_succ (s : ByteArray) (k : Nat) : dLis s (k + 1) = dLis s k ++ [liAt s (4 + 28 * k)] := by unfold dLis; rw [List.range_succ, List.map_append]; rfl
theorem ext_midS (s : ByteArray) (A n m k : Nat) (hk : k ≤ n) (h : A + n ≤ s.size) : (s.extract A (A + n)).extract m k = s.extract (A + m) (A + k) := by
  rw [ByteArray.extract_extract]
  congr 1
  omega
theorem fB_gN (s : ByteArray) (q j : Nat) (hj : j < 28) (h : q + 28 ≤ s.size) : fB (s.extract q (q + 28)) j = fB s (q + j) := by
  rw [← gN_1 _ j (by rw [ByteArray.size_extract]; omega), ← gN_1 s (q + j) (by omega)]
  unfold gN
  rw [ext_midS s q 28 j (j + 1) (by omega) h]
  rfl
/-- A line, in the words of its own 28 bytes. -/
theorem liAt_x (s : ByteArray) (q : Nat) (h : q + 28 ≤ s.size) : liAt s q = liAt (s.extract q (q + 28)) 0 := by
  have g : ∀ m k, k ≤ 28 → gN s (q + m) (q + k) = gN (s.extract q (q + 28)) m k := fun m k hk => by unfold gN; rw [ext_midS s q 28 m k hk h]
  unfold liAt
  rw [fB_gN s q 0 (by decide) h, fB_gN s q (0 + 1) (by decide) h, g 4 7 (by decide), g 8 12 (by decide), g 12 16 (by decide), g 16 20 (by decide), g 20 24 (by decide), g 24 28 (by decide)]
  rfl
theorem liD_x (s : ByteArray) (last : Int) (q : Nat) (h : q + 28 ≤ s.size) : liD s last q ↔ liD (s.extract q (q + 28)) last 0 := by
  unfold liD
  rw [fB_gN s q 0 (by decide) h, fB_gN s q (0 + 2) (by decide) h, fB_gN s q (0 + 3) (by decide) h, fB_gN s q (0 + 7) (by decide) h]
  rfl
/-- What the document's ToLines leaves. -/
def RefLis (p : PC) (w : World) (e : Ending) (w' : World) : Prop :=
  Below w.heap.size w w' ∧ ∃ (a : Option Addr) (c : Nat) (L : List LI) (S : Int), (toLE p = 0 → L = dLis p.body ((p.body.size - 4) / 28) ∧ S = (gN p.body 0 4 : Nat)) ∧ (toLE p ≠ 0 → L = [] ∧ S = 0) ∧ ReadsL LI.rvals w' a L ∧ e = .returned (.tuple #[.int .i64 S, .slice a L.length c, .int .i64 (toLE p)])
theorem refLis_err (p : PC) (w w' : World) (E : Int) (h : toLE p = E) (hE : E ≠ 0) (hb : Below w.heap.size w w') : RefLis p w (.returned (.tuple #[.int .i64 0, .slice none 0 0, .int .i64 E])) w' := by
  subst h
  exact ⟨hb, none, 0, [], 0, fun h0 => absurd h0 hE, fun _ => ⟨rfl, rfl⟩, .inl rfl, rfl⟩
set_option maxRecDepth 100000 in
set_option maxHeartbeats 12800000 in
theorem refToLis_any (p : PC) (w : World) (hs : p.body.size ≤ 500) :
    Calls Try.prog 15 #[.agg #[.int .i64 p.count, .int .i64 p.kind, .string p.body]] w (RefLis p w) := by
  have hE := Lib.hid (toLE_doc p)
  have HX := Lib.hid (fun w' E h hE hb => refLis_err p w w' E h hE hb)
  have HY := Lib.hid (fun (w' : World) (h0 : toLE p = 0) (hb : Below w.heap.size w w') (a : Option Addr) (c n : Nat) (hn : n = (p.body.size - 4) / 28) (hr : ReadsL LI.rvals w' a (dLis p.body n)) => show RefLis p w (.returned (.tuple #[.int .i64 (gN p.body 0 4 : Nat), .slice a n c, .int .i64 0])) w' from ⟨hb, a, c, dLis p.body n, _, fun _ => ⟨by rw [hn], rfl⟩, fun h => absurd h0 h, hr, by rw [dLis_len, h0]⟩)
  obtain ⟨i0, hi, hz0, hz1, hz2⟩ := info_parts infoLiR
  generalize hR : RefLis p w = R at HX HY ⊢
  clear hR
  obtain ⟨ct, kd, s⟩ := p
  generalize toLE ⟨ct, kd, s⟩ = T at hE HX HY
  simp only at hs hE HY
  have hX1 := atC_new 23 w #[.int .i64 ct, .int .i64 kd, .string s]
  have hb1 : Below w.heap.size w (w.alloc (.cells #[.int .i64 ct, .int .i64 kd, .string s] 23)) := (Below.refl _ _).alloc (Nat.le_refl _) _
  have hlq := hX1.lt
  go_enter Try.func15, Try.ntmps15
  by_cases k1 : kd = 211 ∧ ct = 1
  · obtain ⟨rfl, rfl⟩ := k1
    have hE : Hid _ := Lib.hid (hE.out.trans (if_neg (by omega)))
    by_cases k2 : s.size < 32 ∨ s.size % 28 ≠ 4
    · have E1 := Lib.hid (fun w' => HX.out w' 1 (hE.out.trans (if_pos k2)) (by decide))
      have HB1 := Lib.hid hb1
      have hor : (s.size : Int) < 32 ∨ ((32 : Int) ≤ (s.size : Int) ∧ (s.size : Int) % 28 ≠ 4) := by omega
      clear hE HX HY hb1 k2
      have a3 : (32 : Int) ≤ (s.size : Int) ∧ (s.size : Int) % 28 ≠ 4 → ((s.size : Int) % 28 != 4) = true := fun h => by simp; omega
      rcases hor with a1 | a1
      · clear a3
        go_wp2_with fail
        all_goals first | exact E1.out _ HB1.out | (go_ret; exact E1.out _ HB1.out)
      · have a4 := a3 a1
        obtain ⟨a1, a2⟩ := a1
        clear a3 a2
        go_wp2_with fail
        all_goals first | exact E1.out _ HB1.out | (go_ret; exact E1.out _ HB1.out) | exact E1.out _ (by exact HB1.out)
    · have hE : Hid _ := Lib.hid (hE.out.trans (if_neg k2))
      obtain ⟨n, hn⟩ : ∃ n, (s.size - 4) / 28 = n := ⟨_, rfl⟩
      rw [hn] at hE HY
      have hsz : s.size = 4 + 28 * n := by omega
      have q1 : (32 : Int) ≤ (s.size : Int) := by omega
      have q2 : (s.size : Int) % 28 = 4 := by omega
      clear k2 hn
      have HS := Lib.hid hsz
      go_wp2_with fail
      go_loopw [6, 7, 8] (fun z l i wr => ∃ (k : Nat) (a : Option Addr) (c : Nat), k ≤ n ∧ i = .int .i64 ((4 + 28 * k : Nat) : Int) ∧ l = .int .i64 (prevE s k) ∧ z = .slice a k c ∧ wr.ownsRow (w.heap.size + 1) 122 8 (.slice a k c) k (lisVR (dLis s k)) ∧ Below w.heap.size w wr ∧ w.heap.size + 1 ≤ wr.heap.size ∧ Hid (lisD s k)) (fun _ _ i _ => 4 + 28 * n - (intOf i).toNat)
      case atStart => exact ⟨0, some ⟨w.heap.size + 1, 0, none⟩, 0, Nat.zero_le _, rfl, rfl, rfl, made_at _ _ _ _ (by simp), hb1.alloc (by simp) _, by simp, Lib.hid (fun j hj => absurd hj (Nat.not_lt_zero _))⟩
      case round =>
        obtain ⟨k, a, c, hk, rfl, rfl, rfl, hv, hb, hg3, hd⟩ := hrel
        by_cases hlt : k < n
        · have hbad := Lib.hid (fun (w' : World) (hb' : Below w.heap.size w w') (h : ¬ liD s (prevE s k) (4 + 28 * k)) => HX.out w' 1 (hE.out.trans (if_neg (fun hh => h (hh k hlt)))) (by decide) hb')
          have hgood : Hid (liD s (prevE s k) (4 + 28 * k) → lisD s (k + 1)) := Lib.hid (fun h j hj => by
            by_cases hjk : j = k
            · subst hjk; exact h
            · exact hd.out j (by omega))
          have hsucc := Lib.hid (dLis_succ s k)
          have hprev := Lib.hid (show prevE s (k + 1) = ((fB s (4 + 28 * k) : Nat) : Int) from rfl)
          obtain ⟨q, hq⟩ : ∃ q : Nat, 4 + 28 * k = q := ⟨_, rfl⟩
          have HQ := Lib.hid hq
          rw [hq] at hbad hgood hsucc hprev ⊢
          have r1 : (q : Int) < (s.size : Int) := by omega
          have r2 : q + 28 ≤ s.size := by omega
          rw [liAt_x s q r2] at hsucc
          rw [liD_x s _ q r2] at hbad hgood
          rw [show fB s q = fB (s.extract q (q + 28)) 0 from by rw [fB_gN s q 0 (by decide) r2]; rfl] at hprev
          have hxs : (s.extract q (q + 28)).size = 28 := by rw [ByteArray.size_extract]; omega
          obtain ⟨b, hbq⟩ : ∃ b : Nat, q + 28 = b := ⟨_, rfl⟩
          rw [hbq] at hsucc hbad hgood hprev hxs
          have hwb : IntKind.i64.wrap ((q : Int) + 28) = (b : Int) := by rw [show (q : Int) + 28 = (b : Int) by omega]; exact IntWalk.i64_in _ (by omega)
          have hd2 : (b : Int) ≤ 4 + 28 * (n : Int) := by omega
          have hd1 : (q : Int) ≤ (b : Int) := by omega
          have hd3 : q ≤ b := by omega
          obtain ⟨x, hx⟩ : ∃ x, s.extract q b = x := ⟨_, rfl⟩
          rw [hx] at hsucc hbad hgood hprev hxs
          clear hX1 hb1 HX HY
          have HG := Lib.hid (fun (W : World) (m k : Nat) (h : k ≤ m + 7) => get_atS x m k h W)
          have hl0 : gN x 4 7 < 16777216 := gN_lt x 4 7 3 (by omega)
          go_upto_if 47 with ((go_at_call 58; refine (HG.out _ 4 7 (by decide)).mono ?_; rintro e w' ⟨rfl, rfl⟩))
          go_cut [10] (fun z wx => wx = wr ∧ z = .int .i64 (sgnS ((gN x 4 7 : Nat) : Int)))
          case first =>
            by_cases hl : (8388607 : Int) < ((gN x 4 7 : Nat) : Int)
            · have hw : IntKind.i64.wrap (((gN x 4 7 : Nat) : Int) - 16777216) = ((gN x 4 7 : Nat) : Int) - 16777216 := IntWalk.i64_in _ ⟨by omega, by omega⟩
              go_wp2_with fail
              go_meet
              exact ⟨rfl, by unfold sgnS; rw [if_pos hl]⟩
            · go_wp2_with fail
              go_meet
              exact ⟨rfl, by unfold sgnS; rw [if_neg (by omega)]⟩
          case rest =>
          obtain ⟨rfl, rfl⟩ := hcut
          rename World => wr
          have g0 : gN x 0 1 = fB x 0 := gN_1 x 0 (by omega)
          have g1 : gN x 1 2 = fB x 1 := gN_1 x 1 (by omega)
          have h2 : 2 < x.size := by omega
          have h3 : 3 < x.size := by omega
          have h7 : 7 < x.size := by omega
          have hf2 : fB x 2 = x[2].toNat := by unfold fB; rw [by_at x 2 h2]
          have hf3 : fB x 3 = x[3].toNat := by unfold fB; rw [by_at x 3 h3]
          have hf7 : fB x 7 = x[7].toNat := by unfold fB; rw [by_at x 7 h7]
          have hAD := Lib.hid (show liD x (prevE s k) 0 ↔ prevE s k < (fB x 0 : Nat) ∧ fB x 0 ≤ 15 ∧ fB x 2 = 0 ∧ fB x 3 = 0 ∧ fB x 7 = 0 from Iff.rfl)
          rw [hf2, hf3, hf7] at hAD
          have hA2 : Hid (lisVR (dLis s (k + 1)) = lisVR (dLis s k) ++ [.int .i64 (fB x 0 : Nat), .int .i64 (fB x 1 : Nat), .int .i64 (sgnS ((gN x 4 7 : Nat) : Int)), .int .i64 (gN x 8 12 : Nat), .int .i64 (gN x 12 16 : Nat), .int .i64 (gN x 16 20 : Nat), .int .i64 (gN x 20 24 : Nat), .int .i64 (gN x 24 28 : Nat)]) := Lib.hid (by rw [hsucc.out]; unfold lisVR liAt; simp [LI.rvals])
          have hv8 := (hv.alloc (.cells #[.int .i64 (fB x 0 : Nat), .int .i64 (fB x 1 : Nat), .int .i64 (sgnS ((gN x 4 7 : Nat) : Int)), .int .i64 (gN x 8 12 : Nat), .int .i64 (gN x 12 16 : Nat), .int .i64 (gN x 16 20 : Nat), .int .i64 (gN x 20 24 : Nat), .int .i64 (gN x 24 28 : Nat)] 122)).drew
          have hX8 := (atC_new 122 wr #[.int .i64 (fB x 0 : Nat), .int .i64 (fB x 1 : Nat), .int .i64 (sgnS ((gN x 4 7 : Nat) : Int)), .int .i64 (gN x 8 12 : Nat), .int .i64 (gN x 12 16 : Nat), .int .i64 (gN x 16 20 : Nat), .int .i64 (gN x 20 24 : Nat), .int .i64 (gN x 24 28 : Nat)]).drew
          have hb8 := (hb.alloc (by omega) (.cells #[.int .i64 (fB x 0 : Nat), .int .i64 (fB x 1 : Nat), .int .i64 (sgnS ((gN x 4 7 : Nat) : Int)), .int .i64 (gN x 8 12 : Nat), .int .i64 (gN x 12 16 : Nat), .int .i64 (gN x 16 20 : Nat), .int .i64 (gN x 20 24 : Nat), .int .i64 (gN x 24 28 : Nat)] 122)).drew
          have hg8 : w.heap.size + 1 ≤ (wr.alloc (.cells #[.int .i64 (fB x 0 : Nat), .int .i64 (fB x 1 : Nat), .int .i64 (sgnS ((gN x 4 7 : Nat) : Int)), .int .i64 (gN x 8 12 : Nat), .int .i64 (gN x 12 16 : Nat), .int .i64 (gN x 16 20 : Nat), .int .i64 (gN x 20 24 : Nat), .int .i64 (gN x 24 28 : Nat)] 122)).drew.heap.size := by show _ ≤ (wr.alloc _).heap.size; simp; omega
          generalize liD x (prevE s k) 0 = AA at hAD hbad hgood
          generalize prevE s k = last at hAD ⊢
          clear hf2 hf3 hf7 hv hb
          go_upto_region 15 with fail
          go_cut [11] (fun z wx => wx = (wr.alloc (.cells #[.int .i64 (fB x 0 : Nat), .int .i64 (fB x 1 : Nat), .int .i64 (sgnS ((gN x 4 7 : Nat) : Int)), .int .i64 (gN x 8 12 : Nat), .int .i64 (gN x 12 16 : Nat), .int .i64 (gN x 16 20 : Nat), .int .i64 (gN x 20 24 : Nat), .int .i64 (gN x 24 28 : Nat)] 122)).drew ∧ z = .pointer (some ⟨wr.heap.size, 0, none⟩))
          case first =>
            go_region_law (first | (go_simp; go_at_call 58; refine (HG.out _ _ _ (by decide)).mono ?_; rintro e w' ⟨rfl, rfl⟩))
            all_goals
              go_wp2_with fail
              go_meet
              exact ⟨rfl, rfl⟩
          case rest =>
          obtain ⟨rfl, rfl⟩ := hcut
          generalize (wr.alloc (.cells #[.int .i64 (fB x 0 : Nat), .int .i64 (fB x 1 : Nat), .int .i64 (sgnS ((gN x 4 7 : Nat) : Int)), .int .i64 (gN x 8 12 : Nat), .int .i64 (gN x 12 16 : Nat), .int .i64 (gN x 16 20 : Nat), .int .i64 (gN x 20 24 : Nat), .int .i64 (gN x 24 28 : Nat)] 122)).drew = w8 at hv8 hX8 hb8 hg8 ⊢
          generalize wr.heap.size = ge at hX8 ⊢
          generalize fB x 0 = f at hprev hAD hA2 hX8 ⊢
          generalize fB x 1 = f1 at hA2 hX8 ⊢
          generalize sgnS ((gN x 4 7 : Nat) : Int) = f2 at hA2 hX8 ⊢
          generalize gN x 8 12 = f3 at hA2 hX8 ⊢
          generalize gN x 12 16 = f4 at hA2 hX8 ⊢
          generalize gN x 16 20 = f5 at hA2 hX8 ⊢
          generalize gN x 20 24 = f6 at hA2 hX8 ⊢
          generalize gN x 24 28 = f7 at hA2 hX8 ⊢
          obtain ⟨x0, x1, x2, x3, x4, x5, x6, x7⟩ := hX8.cells8
          clear g0 g1 hl0 HG
          by_cases hA : last < (f : Nat) ∧ f ≤ 15 ∧ x[2].toNat = 0 ∧ x[3].toNat = 0 ∧ x[7].toNat = 0
          · have hG := Lib.hid (hgood.out (hAD.out.2 hA))
            obtain ⟨a1, a2, a3, a4, a5⟩ := hA
            have a2' : (f : Int) ≤ 15 := by omega
            clear hbad hgood hAD
            go_wp2_with (at_builtin; refine append_rec (by rfl) (.tmp 99) (.tmp 101) 34 (by rfl) (w.heap.size + 1) 122 i0 (.agg #[.int .i64 0, .int .i64 0, .int .i64 0, .int .i64 0, .int .i64 0, .int .i64 0, .int .i64 0, .int .i64 0]) 8 64 Try.underlying34 hi hz0 hz1 hz2 rfl (by decide) _ k (lisVR (dLis s k)) (by rfl) hv8 #[.int .i64 (f : Nat), .int .i64 (f1 : Nat), .int .i64 f2, .int .i64 (f3 : Nat), .int .i64 (f4 : Nat), .int .i64 (f5 : Nat), .int .i64 (f6 : Nat), .int .i64 (f7 : Nat)] rfl (by rfl) ?d1 ?d2 ?d3 w.heap.size (Nat.le_succ _) hg8 hb8 ?_)
            case d1 => exact ⟨rfl, rfl, rfl, rfl, rfl, rfl, rfl, rfl⟩
            case d2 => unfold maxLen; omega
            case d3 => omega
            intro v' w10 hown10 hb10 hg10
            obtain ⟨ad, cq, rfl⟩ : ∃ ad cq, v' = .slice ad (k + 1) cq := by
              rcases hown10.2 with ⟨_, h0⟩ | ⟨g', cap, cur, rfl, _⟩
              · omega
              · exact ⟨_, _, rfl⟩
            have hown11 : w10.ownsRow (w.heap.size + 1) 122 8 (.slice ad (k + 1) cq) (k + 1) (lisVR (dLis s (k + 1))) := by rw [hA2.out]; exact hown10
            have hs10 : w.heap.size + 1 ≤ w10.heap.size := by
              rcases hown11.2 with ⟨_, h0⟩ | ⟨g', cap, cur, _, hB', hgc, _⟩
              · omega
              · have := lt_of_block hgc; omega
            clear hown10 hA2 hX8 hv8 hb8 x0 x1 x2 x3 x4 x5 x6 x7
            go_wp2
            go_roundw
            case rel => exact ⟨k + 1, ad, cq, by omega, by go_num, by rw [hprev.out], rfl, hown11, hb10, by omega, hG⟩
            case measure => simp [intOf]; omega
          · have hB := Lib.hid (hbad.out w8 hb8 (fun h => hA (hAD.out.1 h)))
            have hor : (f : Int) ≤ last ∨ (last < (f : Int) ∧ 15 < (f : Int)) ∨ (last < (f : Int) ∧ (f : Int) ≤ 15 ∧ (((x[2].toNat : Nat) : Int) != 0) = true) ∨ (last < (f : Int) ∧ (f : Int) ≤ 15 ∧ (((x[2].toNat : Nat) : Int) != 0) = false ∧ (((x[3].toNat : Nat) : Int) != 0) = true) ∨ (last < (f : Int) ∧ (f : Int) ≤ 15 ∧ (((x[2].toNat : Nat) : Int) != 0) = false ∧ (((x[3].toNat : Nat) : Int) != 0) = false ∧ (((x[7].toNat : Nat) : Int) != 0) = true) := by
              simp only [bne_iff_ne, bne_eq_false_iff_eq, ne_eq]
              omega
            clear hbad hgood hAD hA hA2 hprev
            rcases hor with a1 | ⟨a1, a2⟩ | ⟨a1, a2, a3⟩ | ⟨a1, a2, a3, a4⟩ | ⟨a1, a2, a3, a4, a5⟩
            all_goals
              go_wp2_with fail
              all_goals first | exact hB.out | (go_ret; exact hB.out) | (trace_state; sorry)
        · obtain rfl : k = n := by omega
          have EY := Lib.hid (HY.out wr (hE.out.trans (if_pos hd.out)) hb a c k rfl (own_readsLR hv))
          have HG1 := Lib.hid (fun (W : World) => get_atS s 0 4 (by omega) W)
          generalize gN s 0 4 = sr at EY HG1
          have r1 : ¬ ((4 + 28 * k : Nat) : Int) < (s.size : Int) := by omega
          clear hE HX HY hd hv hb hb1 hX1
          go_wp2_with ((go_at_call 58; refine (HG1.out _).mono ?_; rintro e w' ⟨rfl, rfl⟩))
          all_goals
            first | exact EY.out | (go_ret; exact EY.out) | trace_state
  · have hE : T = 5 := hE.out.trans (if_pos (by omega))
    have E1 := Lib.hid (fun w' => HX.out w' 5 hE (by decide))
    have HB1 := Lib.hid hb1
    have hor : kd ≠ 211 ∨ (kd = 211 ∧ ct ≠ 1) := by omega
    clear hE HX HY hb1 k1
    rcases hor with a1 | ⟨rfl, a2⟩
    all_goals
      go_wp2_with fail
      all_goals first | exact E1.out _ HB1.out | (go_ret; exact E1.out _ HB1.out) | (trace_state; exact E1.out _ HB1.out)
end Go.Proofs.Ytjoikidnnhjogaa

