/- Subflow: the document's ToAdverts. -/
import Derived.Test.YtjoikidnnhjogaaMSfU
import Derived.Test.YtjoikidnnhjogaaMSfE
import Derived.Test.YtjoikidnnhjogaaMSfQ
namespace Go.Proofs.Ytjoikidnnhjogaa
open Go.RowKit
set_option linter.unusedVariables false
/-- What the document's ToAdverts leaves. -/
def RefAds (p : PC) (w : World) (e : Ending) (w' : World) : Prop :=
  Below w.heap.size w w' ∧ ∃ (a : Option Addr) (c : Nat) (L : List AD) (S : Int), (toSE p = 0 → L = dAds p.body ((p.body.size - 4) / 4) ∧ S = (gN p.body 0 4 : Nat)) ∧ (toSE p ≠ 0 → L = [] ∧ S = 0) ∧ ReadsA w' a L ∧ e = .returned (.tuple #[.int .i64 S, .slice a L.length c, .int .i64 (toSE p)])
theorem readsA_nil (w : World) : ReadsA w none [] := .inl rfl
theorem refAds_err (p : PC) (w w' : World) (E : Int) (h : toSE p = E) (hE : E ≠ 0) (hb : Below w.heap.size w w') : RefAds p w (.returned (.tuple #[.int .i64 0, .slice none 0 0, .int .i64 E])) w' := by
  subst h
  exact ⟨hb, none, 0, [], 0, fun h0 => absurd h0 hE, fun _ => ⟨rfl, rfl⟩, readsA_nil _, rfl⟩
theorem infoAdR : (Try.prog.info? 126).map (fun i => (i.zero, i.size, i.bytes)) = some (some (.agg #[.int .i64 0, .bool false, .int .i64 0]), 3, 24) := by kernel_rfl
theorem get_atS (s : ByteArray) (a b : Nat) (hb : b ≤ a + 7) (w : World) : Calls Try.prog 58 #[.string (s.extract a b)] w fun e w' => e = .returned (.int .i64 (gN s a b : Nat)) ∧ w = w' := get_any (s.extract a b) w (by rw [ByteArray.size_extract]; omega)
theorem dAds_succ (s : ByteArray) (k : Nat) : dAds s (k + 1) = dAds s k ++ [adAt s (4 + 4 * k)] := by unfold dAds; rw [List.range_succ, List.map_append]; rfl
/-- 'out = append(out, x)' in a region that draws its order. -/
theorem step_advR {ops : Array Oper} {o : Oper} {a : Act} {w : World} {K : Act → World → Prop} {Q : Exit → Act → World → Prop} {E : Prop} (hgd : o.guard = none) (s x : Operand)
    (ho : o.op = .call { callee := .builtin .append, args := #[s, x], argTypes := #[42, 42] })
    (B : Nat) (v : Value) (k : Nat) (xs : List AD) (p : AD)
    (hv : w.ownsRow B 126 3 v k (adsV xs)) (hB : B ≤ w.heap.size) (hl : k ≤ 1000) (hs : a.eval s = v) (hx : a.eval x = .slice (some ⟨w.heap.size, 0, none⟩) 1 1)
    (h : ∀ ad c w', Hid (w'.ownsRow B 126 3 (.slice ad (k + 1) c) (k + 1) (adsV (xs ++ [p])) ∧ B ≤ w'.heap.size ∧ (∀ B0 w0, B0 ≤ B → Below B0 w0 w → Below B0 w0 w')) → K (a.put o.dst (.slice ad (k + 1) c)) w') :
    if Region.wanted o (yielded ops a.tmps) = true then Oper.wp Try.prog o a (w.alloc (.cells #[.int .i64 p.path, .bool p.up, .int .i64 p.rate] 126)).drew K Q else E := by
  obtain ⟨i0, hi, hz0, hz1, hz2⟩ := info_parts infoAdR
  have hv1 : (w.alloc (.cells #[.int .i64 p.path, .bool p.up, .int .i64 p.rate] 126)).drew.ownsRow B 126 3 v k (adsV xs) := World.ownsRow.drew (hv.alloc (.cells #[.int .i64 p.path, .bool p.up, .int .i64 p.rate] 126))
  refine step_append_own hgd s x _ ho B 126 i0 _ 3 24 Try.underlying42 hi hz0 hz1 hz2 rfl (by decide) v k (adsV xs) hs hv1 ⟨w.heap.size, 0, none⟩ 1 1 p.vals hx rfl ?_ ?_ (by unfold maxLen; omega) (by omega) (by show B ≤ (w.alloc _).heap.size; simp; omega) ?_
  · intro j u hj
    rw [addr_add, cell_of_row _ w.heap.size j _ 126 (0, 0) (heap_at_drew (heap_alloc_new w _)), ← Array.getElem?_toList]
    exact hj
  · intro u hu
    unfold AD.vals at hu
    simp only [List.mem_cons, List.not_mem_nil, or_false] at hu
    rcases hu with rfl | rfl | rfl <;> rfl
  · intro v' w' hown hgrow _
    obtain ⟨ad, c, rfl⟩ : ∃ ad c, v' = .slice ad (k + 1) c := by
      rcases hown.2 with ⟨_, h0⟩ | ⟨g, cap, cur, rfl, _⟩
      · omega
      · exact ⟨_, _, rfl⟩
    have hbl : ∀ B0 w0, B0 ≤ B → Below B0 w0 w → Below B0 w0 w' := fun B0 w0 h0 hb => ((hb.alloc (by omega) _).drew).grown hgrow (by show B0 ≤ (w.alloc _).heap.size; simp; omega) (fun k hk => Nat.le_trans h0 (hv1.lt k hk).1)
    refine h ad c w' (Lib.hid ⟨?_, Nat.le_trans hB (hbl _ _ (Nat.le_refl _) (Below.refl B w)).size, hbl⟩)
    have e : adsV (xs ++ [p]) = adsV xs ++ p.vals := by rw [adsV_append]; show adsV xs ++ (p.vals ++ []) = _; rw [List.append_nil]
    rw [e]
    exact hown
theorem made_at (w : World) (e : TypeId) (B m : Nat) (h : w.heap.size = B) : (w.alloc (.cells #[] e)).ownsRow B e m (.slice (some ⟨B, 0, none⟩) 0 0) 0 [] := by
  subst h
  exact World.ownsRow_made _ _ _ (Nat.le_refl _) (by decide) (by simp)
set_option maxRecDepth 100000 in
set_option maxHeartbeats 1600000 in
theorem refToAds_any (p : PC) (w : World) (hs : p.body.size ≤ 500) :
    Calls Try.prog 17 #[.agg #[.int .i64 p.count, .int .i64 p.kind, .string p.body]] w (RefAds p w) := by
  have hE := Lib.hid (toSE_doc p)
  have HX := Lib.hid (fun w' E h hE hb => refAds_err p w w' E h hE hb)
  have HY := Lib.hid (fun (w' : World) (h0 : toSE p = 0) (hb : Below w.heap.size w w') (a : Option Addr) (c n : Nat) (hn : n = (p.body.size - 4) / 4) (hr : ReadsA w' a (dAds p.body n)) => show RefAds p w (.returned (.tuple #[.int .i64 (gN p.body 0 4 : Nat), .slice a n c, .int .i64 0])) w' from ⟨hb, a, c, dAds p.body n, _, fun _ => ⟨by rw [hn], rfl⟩, fun h => absurd h0 h, hr, by rw [dAds_len, h0]⟩)
  generalize hR : RefAds p w = R at HX HY ⊢
  clear hR
  obtain ⟨ct, kd, s⟩ := p
  generalize toSE ⟨ct, kd, s⟩ = T at hE HX HY
  simp only at hs hE HY
  have hX1 := atC_new 23 w #[.int .i64 ct, .int .i64 kd, .string s]
  have hb1 : Below w.heap.size w (w.alloc (.cells #[.int .i64 ct, .int .i64 kd, .string s] 23)) := (Below.refl _ _).alloc (Nat.le_refl _) _
  have hlq := hX1.lt
  go_enter Try.func17, Try.ntmps17
  by_cases k1 : kd = 211 ∧ ct = 2
  · obtain ⟨rfl, rfl⟩ := k1
    have hE : Hid _ := Lib.hid (hE.out.trans (if_neg (by omega)))
    by_cases k2 : s.size < 4 ∨ s.size % 4 ≠ 0
    · have E1 := Lib.hid (fun w' => HX.out w' 1 (hE.out.trans (if_pos k2)) (by decide))
      have HB1 := Lib.hid hb1
      have hor : (s.size : Int) < 4 ∨ ((4 : Int) ≤ (s.size : Int) ∧ (s.size : Int) % 4 ≠ 0) := by omega
      clear hE HX HY hb1 k2
      have a3 : (4 : Int) ≤ (s.size : Int) ∧ (s.size : Int) % 4 ≠ 0 → ((s.size : Int) % 4 != 0) = true := fun h => by simp; omega
      rcases hor with a1 | a1
      · clear a3
        go_wp2_with fail
        all_goals first | exact E1.out _ HB1.out | (go_ret; exact E1.out _ HB1.out)
      · have a4 := a3 a1
        obtain ⟨a1, a2⟩ := a1
        clear a3 a2
        go_wp2_with fail
        all_goals first | exact E1.out _ HB1.out | (go_ret; exact E1.out _ HB1.out) | exact E1.out _ (by exact HB1.out)
    · have hE : Hid _ := Lib.hid (hE.out.trans (if_neg k2))
      obtain ⟨n, hn⟩ : ∃ n, (s.size - 4) / 4 = n := ⟨_, rfl⟩
      rw [hn] at hE HY
      have hsz : s.size = 4 + 4 * n := by omega
      have q1 : (4 : Int) ≤ (s.size : Int) := by omega
      have q2 : (s.size : Int) % 4 = 0 := by omega
      clear k2 hn
      have HS := Lib.hid hsz
      go_wp2_with fail
      go_loopw [6, 7, 8] (fun z l i wr => ∃ (k : Nat) (a : Option Addr) (c : Nat), k ≤ n ∧ i = .int .i64 ((4 + 4 * k : Nat) : Int) ∧ l = .int .i64 (prevD s k) ∧ z = .slice a k c ∧ wr.ownsRow (w.heap.size + 1) 126 3 (.slice a k c) k (adsV (dAds s k)) ∧ Below w.heap.size w wr ∧ w.heap.size + 1 ≤ wr.heap.size ∧ Hid (adsD s k)) (fun _ _ i _ => 4 + 4 * n - (intOf i).toNat)
      case atStart => exact ⟨0, some ⟨w.heap.size + 1, 0, none⟩, 0, Nat.zero_le _, rfl, rfl, rfl, made_at _ _ _ _ (by simp), hb1.alloc (by simp) _, by simp, Lib.hid (fun j hj => absurd hj (Nat.not_lt_zero _))⟩
      case round =>
        obtain ⟨k, a, c, hk, rfl, rfl, rfl, hv, hb, hg3, hd⟩ := hrel
        by_cases hlt : k < n
        · have hbad := Lib.hid (fun (h : ¬ adD s (prevD s k) (4 + 4 * k)) => HX.out wr 1 (hE.out.trans (if_neg (fun hh => h (hh k hlt)))) (by decide) hb)
          have hgood : Hid (adD s (prevD s k) (4 + 4 * k) → adsD s (k + 1)) := Lib.hid (fun h j hj => by
            by_cases hjk : j = k
            · subst hjk; exact h
            · exact hd.out j (by omega))
          have hsucc := Lib.hid (dAds_succ s k)
          have hprev := Lib.hid (show prevD s (k + 1) = ((fB s (4 + 4 * k) : Nat) : Int) from rfl)
          obtain ⟨q, hq⟩ : ∃ q : Nat, 4 + 4 * k = q := ⟨_, rfl⟩
          have HQ := Lib.hid hq
          rw [hq] at hbad hgood hsucc hprev ⊢
          have r1 : (q : Int) < (s.size : Int) := by omega
          have r2 : q + 4 ≤ s.size := by omega
          obtain ⟨b, hbq⟩ : ∃ b : Nat, q + 1 = b := ⟨_, rfl⟩
          obtain ⟨d, hdq⟩ : ∃ d : Nat, q + 2 = d := ⟨_, rfl⟩
          obtain ⟨e4, heq⟩ : ∃ d : Nat, q + 4 = d := ⟨_, rfl⟩
          have hwb : IntKind.i64.wrap ((q : Int) + 1) = (b : Int) := by rw [show (q : Int) + 1 = (b : Int) by omega]; exact IntWalk.i64_in _ (by omega)
          have hwd : IntKind.i64.wrap ((q : Int) + 2) = (d : Int) := by rw [show (q : Int) + 2 = (d : Int) by omega]; exact IntWalk.i64_in _ (by omega)
          have hwe : IntKind.i64.wrap ((q : Int) + 4) = (e4 : Int) := by rw [show (q : Int) + 4 = (e4 : Int) by omega]; exact IntWalk.i64_in _ (by omega)
          have hb0 : (0 : Int) ≤ (b : Int) := by omega
          have hb1'' : (b : Int) < (s.size : Int) := by omega
          have hb1' : (b : Int) ≤ (s.size : Int) := by omega
          have hb2 : (q : Int) ≤ (b : Int) := by omega
          have hb3 : q ≤ b := by omega
          have hd1 : (d : Int) ≤ (e4 : Int) := by omega
          have hd2 : (e4 : Int) ≤ 4 + 4 * (n : Int) := by omega
          have hd3 : d ≤ e4 := by omega
          have hbs : b < s.size := by omega
          have HG1 : Hid (∀ (W : World) (x : ByteArray), x = s.extract q b → Calls Try.prog 58 #[.string x] W fun e w' => e = .returned (.int .i64 (fB s q : Nat)) ∧ W = w') := Lib.hid (fun W x hx => by
            subst hx
            rw [← hbq, ← gN_1 s q (by omega)]
            exact get_atS s q (q + 1) (by omega) W)
          have HG2 : Hid (∀ (W : World) (x : ByteArray), x = s.extract d e4 → Calls Try.prog 58 #[.string x] W fun e w' => e = .returned (.int .i64 (gN s d e4 : Nat)) ∧ W = w') := Lib.hid (fun W x hx => by
            subst hx
            exact get_atS s d e4 (by omega) W)
          have hf1 : fB s b = s[b].toNat := by unfold fB; rw [by_at s b hbs]
          have hAt : adAt s q = ⟨(fB s q : Nat), decide (((s[b].toNat : Nat) : Int) = 1), (gN s d e4 : Nat)⟩ := by unfold adAt; rw [hbq, hdq, heq, hf1]
          have hA2 : Hid (adsV (dAds s k ++ [⟨(fB s q : Nat), decide (((s[b].toNat : Nat) : Int) = 1), (gN s d e4 : Nat)⟩]) = adsV (dAds s (k + 1))) := Lib.hid (by rw [hsucc.out, hAt])
          have hAD := Lib.hid (show adD s (prevD s k) q ↔ prevD s k < (fB s q : Nat) ∧ fB s q ≤ 15 ∧ fB s (q + 1) ≤ 1 from Iff.rfl)
          rw [hbq, hf1] at hAD
          generalize adD s (prevD s k) q = AA at hAD hbad hgood
          generalize prevD s k = last at hAD ⊢
          generalize fB s q = f at HG1 hAD hA2 hprev
          generalize gN s d e4 = rr at HG2 hA2
          have hfl := UInt8.toNat_lt s[b]
          clear hf1 hq hsucc hAt hd HX HY hX1 hb1 hlq
          by_cases hA : last < (f : Nat) ∧ f ≤ 15 ∧ s[b].toNat ≤ 1
          · obtain ⟨a1, a2, a3⟩ := hA
            have hG := Lib.hid (hgood.out (hAD.out.2 ⟨a1, a2, a3⟩))
            have a2' : (f : Int) ≤ 15 := by omega
            have a3' : ((s[b].toNat : Nat) : Int) ≤ 1 := by omega
            clear hbad hgood hAD
            go_wp2_with ((go_at_call 58; refine (HG1.out _ _ rfl).mono ?_; rintro e w' ⟨rfl, rfl⟩))
            clear HG1
            go_region_law (first | (refine step_advR rfl (.tmp 57) (.tmp 72) rfl (w.heap.size + 1) (.slice a k c) k (dAds s k) ⟨(f : Nat), decide (((s[b].toNat : Nat) : Int) = 1), (rr : Nat)⟩ ?a1 ?a2 (by omega) (by rfl) (by rfl) ?_; (case a1 => first | exact hv | exact hv.drew); (case a2 => first | exact hg3 | (simp; exact hg3)); intro ad3 cq w10 H10) | (go_simp; go_at_call 58; refine (HG2.out _ _ rfl).mono ?_; rintro e w' ⟨rfl, rfl⟩))
            all_goals
              obtain ⟨ho10, hs10, hbl10⟩ := H10.out
              have hb10 := hbl10 _ _ (Nat.le_succ _) hb
              rw [hA2.out] at ho10
              clear H10 hbl10 hA2
              go_wp2
              go_roundw
              case rel => exact ⟨k + 1, ad3, cq, by omega, by rw [← heq, ← HQ.out]; rfl, by rw [hprev.out], rfl, ho10, hb10, hs10, hG⟩
              case measure => simp [intOf]; omega
          · have hB := Lib.hid (hbad.out (fun h => hA (hAD.out.1 h)))
            have hor : (f : Int) ≤ last ∨ (last < (f : Int) ∧ 15 < (f : Int)) ∨ (last < (f : Int) ∧ (f : Int) ≤ 15 ∧ 1 < ((s[b].toNat : Nat) : Int)) := by omega
            clear hbad hgood hAD hA hA2 HG2 hprev
            rcases hor with a1 | ⟨a1, a2⟩ | ⟨a1, a2, a3⟩
            all_goals
              go_wp2_with ((go_at_call 58; refine (HG1.out _ _ rfl).mono ?_; rintro e w' ⟨rfl, rfl⟩))
              first | exact hB.out | (go_ret; exact hB.out) | trace_state
        · obtain rfl : k = n := by omega
          have EY := Lib.hid (HY.out wr (hE.out.trans (if_pos hd.out)) hb a c k rfl (own_readsA hv))
          have HG1 := Lib.hid (fun (W : World) => get_atS s 0 4 (by omega) W)
          generalize gN s 0 4 = sr at EY HG1
          have r1 : ¬ ((4 + 4 * k : Nat) : Int) < (s.size : Int) := by omega
          clear hE HX HY hd hv hb hb1 hX1
          go_wp2_with ((go_at_call 58; refine (HG1.out _).mono ?_; rintro e w' ⟨rfl, rfl⟩))
          all_goals
            first | exact EY.out | (go_ret; exact EY.out) | trace_state
  · have hE : T = 5 := hE.out.trans (if_pos (by omega))
    have E1 := Lib.hid (fun w' => HX.out w' 5 hE (by decide))
    have HB1 := Lib.hid hb1
    have hor : kd ≠ 211 ∨ (kd = 211 ∧ ct ≠ 2) := by omega
    clear hE HX HY hb1 k1
    rcases hor with a1 | ⟨rfl, a2⟩
    all_goals
      go_wp2_with fail
      all_goals first | exact E1.out _ HB1.out | (go_ret; exact E1.out _ HB1.out) | (trace_state; exact E1.out _ HB1.out)
end Go.Proofs.Ytjoikidnnhjogaa

