/- notes.readBye. -/
import Derived.Test.YtjoikidnnhjogaaNtE
import Derived.Test.YtjoikidnnhjogaaRpO
import Derived.Test.YtjoikidnnhjogaaRtpH
namespace Go.Proofs.Ytjoikidnnhjogaa
open Go.RowKit
set_option linter.unusedVariables false
/-- What the program reads of a piece. -/
def byN (p : PC) : Nat := (min p.count 31).toNat
def byRs (st : ByteArray × Int) : ByteArray := if st.1.size = 0 then { data := #[] } else rawT (rd st 1).1 ((getN (by_ (rawT st.1 1)) : Nat) : Int)
def byRd (p : PC) : BY := ⟨byRs (rds (p.body, 0) (byN p)), osF (p.body, 0) (byN p)⟩
/-- 'b.Sources = append(b.Sources, n)', the append. -/
theorem step_src {ops : Array Oper} {o : Oper} {a : Act} {w : World} {K : Act → World → Prop} {Q : Exit → Act → World → Prop} {E : Prop} (hgd : o.guard = none) (s x : Operand)
    (ho : o.op = .call { callee := .builtin .append, args := #[s, x], argTypes := #[50, 50] })
    (B r : Nat) (v : Value) (xs : List Int) (u : Int) (c0 : Value)
    (hX : AtC 52 w r #[c0, v]) (hv : w.ownsRow B 26 1 v xs.length (xs.map (Value.int .u32))) (hB : B ≤ w.heap.size) (hl : xs.length ≤ 1000) (hs : a.eval s = v) (hx : a.eval x = .slice (some ⟨w.heap.size, 0, none⟩) 1 1)
    (h : ∀ ad c w', Hid (w'.ownsRow B 26 1 (.slice ad (xs.length + 1) c) (xs.length + 1) ((xs ++ [u]).map (Value.int .u32)) ∧ (∀ (k : Nat) (o : Obj), w.heap[k]? = some o → (∀ cur q, o ≠ .cells cur 26 q) → w'.heap[k]? = some o) ∧ (∀ B0 w0, B0 ≤ B → Below B0 w0 w → Below B0 w0 w')) → w'.cell? ⟨r, 1, none⟩ = some v → w'.frozen? ⟨r, 1, none⟩ = false → K (a.put o.dst (.slice ad (xs.length + 1) c)) w') :
    if Region.wanted o (yielded ops a.tmps) = true then Oper.wp Try.prog o a (w.alloc (.cells #[.int .u32 u] 26)) K Q else E := by
  obtain ⟨i0, hi, hz0, hz1, hz2⟩ := info_parts info32
  have hv1 := hv.alloc (.cells #[.int .u32 u] 26)
  refine step_append_own hgd s x _ ho B 26 i0 (.int .u32 0) 1 4 Try.underlying50 hi hz0 hz1 hz2 rfl (by decide) v xs.length (xs.map (Value.int .u32)) hs hv1 ⟨w.heap.size, 0, none⟩ 1 1 [.int .u32 u] hx rfl ?_ ?_ (by unfold maxLen; omega) (by omega) (by simp; omega) ?_
  · intro j u' hj
    match j, hj with
    | 0, hj => simp at hj; subst hj; simp [Addr.add]
  · intro u' hu; simp at hu; subst hu; rfl
  · intro v' w' hown hgrow _
    obtain ⟨ad, c, rfl⟩ := own_slice hown
    have hk : ∀ (k : Nat) (o : Obj), w.heap[k]? = some o → (∀ cur q, o ≠ .cells cur 26 q) → w'.heap[k]? = some o := fun k o hk hn => by
      rw [hgrow.block k (by have := lt_of_block hk; simp; omega) (row_neP hv hk hn)]
      exact heap_at_old _ _ _ _ hk
    have hX2 : AtC 52 w' r #[c0, v] := hk _ _ hX (by intro cur q e; cases e)
    obtain ⟨_, q1⟩ := hX2.cells2
    refine h ad c w' (Lib.hid ⟨by rw [List.map_append]; exact hown, hk, fun B0 w0 h0 hb => ?_⟩) q1 (hX2.free 1)
    exact (hb.alloc (by omega) _).grown hgrow (by simp; omega) (fun k hk => Nat.le_trans h0 (hv1.lt k hk).1)
theorem ownC_store {w : World} {T : TypeId} {B g i : Nat} {e : TypeId} {m : Nat} {v u : Value} {n : Nat} {xs : List Value} {cs : Array Value} (h : w.ownsRow B e m v n xs) (hP : AtC T w g cs) (hne : T ≠ e) : (w.setCell ⟨g, i, none⟩ u).ownsRow B e m v n xs :=
  ownsRow_setCell_other h (fun x => row_neP h hP (by intro cur p q; simp at q; exact hne q.2.1) x.symm) _
theorem ownC_only {w w' : World} {T : TypeId} {B g m : Nat} {e : TypeId} {v : Value} {n : Nat} {xs : List Value} {cs : Array Value} (h : w.ownsRow B e m v n xs) (hk : AtC T w g cs) (hne : T ≠ e) (ho : Only g w w') : w'.ownsRow B e m v n xs := by
  refine h.kept (row := some g) ⟨ho.os, ho.tape, ho.output, by rw [ho.size]; exact Nat.le_refl _, fun k _ hkb => ho.block k (fun e => hkb (by rw [e]))⟩ (.inr (fun x => row_neP h hk (by intro cur p q; simp at q; exact hne q.2.1) x.symm))
theorem own_in {w w' : World} {B b m : Nat} {e : TypeId} {v : Value} {n : Nat} {xs : List Value} {s : ByteArray} {er : Int} (h : w.ownsRow B e m v n xs) (hk : InAt w b s er) (hne : 189 ≠ e) (ho : Only b w w') : w'.ownsRow B e m v n xs := by
  refine h.kept (row := some b) ⟨ho.os, ho.tape, ho.output, by rw [ho.size]; exact Nat.le_refl _, fun k _ hkb => ho.block k (fun e => hkb (by rw [e]))⟩ (.inr (fun x => row_neP h hk (by intro cur p q; simp at q; exact hne q.2.1) x.symm))
/-- What readBye leaves. -/
def RdBy (y : BY) (w : World) (e : Ending) (w' : World) : Prop := Below w.heap.size w w' ∧ ∃ a c, e = .returned (.agg #[.string y.reason, .slice a y.srcs.length c]) ∧ Reads .u32 w' a y.srcs
set_option maxRecDepth 100000 in
set_option maxHeartbeats 3200000 in
theorem readBye_any (p : PC) (w : World) (hs : p.body.size ≤ 1099511627776) :
    Calls Try.prog 75 #[.agg #[.int .i64 p.count, .int .i64 p.kind, .string p.body]] w (RdBy (byRd p) w) := by
  obtain ⟨count, kind, s⟩ := p
  unfold byRd byN RdBy
  simp only at *
  obtain ⟨m, hm⟩ : ∃ m : Int, min count 31 = m := ⟨_, rfl⟩
  have hm31 : m ≤ 31 := by omega
  rw [hm]
  have hle : ∀ k, (rds (s, 0) k).1.size ≤ 1099511627776 := fun k => Nat.le_trans (rds_le _ k) hs
  have HU := Lib.hid (fun (b k : Nat) W (h : InAt W b (rds (s, 0) k).1 (rds (s, 0) k).2) => u32_st b (rds (s, 0) k) W h (by have := hle k; omega))
  have HSs := Lib.hid (fun k => osF_succ (s, 0) k)
  have HLn := Lib.hid (fun k => osF_len (s, 0) k)
  have hst : Hid (osF (s, 0) 0 = []) := Lib.hid rfl
  obtain ⟨stn, hstn⟩ : ∃ st, rds (s, 0) m.toNat = st := ⟨_, rfl⟩
  have l0 : stn.1.size ≤ 1099511627776 := by rw [← hstn]; exact hle _
  have l1 : (rd stn 1).1.size ≤ 1099511627776 := Nat.le_trans (rawS_le _ _ _) l0
  have HL := Lib.hid (fun (b : Nat) W (h : InAt W b stn.1 stn.2) => left_any b stn.1 stn.2 W h)
  have H8 := Lib.hid (fun (b : Nat) W (h : InAt W b stn.1 stn.2) => u8_st b stn W h (by omega))
  have HW := Lib.hid (fun (b : Nat) (n : Int) W (h : InAt W b (rd stn 1).1 (rd stn 1).2) => raw_st b (rd stn 1) n W h (by omega))
  have HSt := Lib.hid hstn
  rw [hstn]
  have hRs0 : stn.1.size = 0 → Hid (byRs stn = { data := #[] }) := fun h => Lib.hid (by unfold byRs; rw [if_pos h])
  have hRs1 : stn.1.size ≠ 0 → Hid (byRs stn = rawT (rd stn 1).1 ((getN (by_ (rawT stn.1 1)) : Nat) : Int)) := fun h => Lib.hid (by unfold byRs; rw [if_neg h])
  generalize byRs stn = RS at hRs0 hRs1 ⊢
  have hOf := Lib.hid (fun W => of_any s W)
  clear hle hstn
  have hX1 := pc_new w ⟨count, kind, s⟩
  have hX2 := hX1.alloc (.cells #[.string { data := #[] }, .slice none 0 0] 52)
  have hY2 := atC_new 52 (w.alloc (.cells #[.int .i64 count, .int .i64 kind, .string s] 33)) #[.string { data := #[] }, .slice none 0 0]
  have hb2 : Below w.heap.size w ((w.alloc (.cells #[.int .i64 count, .int .i64 kind, .string s] 33)).alloc (.cells #[.string { data := #[] }, .slice none 0 0] 52)) := by go_grown
  have hne : (w.alloc (.cells #[.int .i64 count, .int .i64 kind, .string s] 33)).heap.size = w.heap.size + 1 := by simp
  rw [hne] at hY2
  clear hX1 hne
  go_enter Try.func75, Try.ntmps75
  go_upto_region 1 with fail
  generalize (w.alloc (.cells #[.int .i64 count, .int .i64 kind, .string s] 33)).alloc (.cells #[.string { data := #[] }, .slice none 0 0] 52) = w2 at hX2 hY2 hb2 ⊢
  have hgB : w.heap.size ≤ w.heap.size + 1 := by omega
  have hgn : w.heap.size ≠ w.heap.size + 1 := by omega
  generalize hg2 : w.heap.size + 1 = g2 at hY2 hgB hgn ⊢
  generalize hg : w.heap.size = g at hX2 hb2 hgB hgn ⊢
  have HG := Lib.hid hg
  clear hg2 hg
  obtain ⟨x0, x1, x2, _⟩ := pcAt_S hX2
  go_wp2_with fail
  refine (hOf.out _).mono ?_
  rintro e w3 ⟨rfl, rfl⟩
  have hI3 := inAt_new s w2
  have hX3 := hX2.alloc (.cells #[.string s, .int .i64 0] 189)
  have hY3 := hY2.alloc (.cells #[.string s, .int .i64 0] 189)
  have hb3 := hb2.alloc (by have := hX2.lt; omega) (.cells #[.string s, .int .i64 0] 189)
  have hnb : g2 < w2.heap.size := hY2.lt
  go_upto_region 2 with fail
  generalize w2.alloc (.cells #[.string s, .int .i64 0] 189) = w4 at hI3 hX3 hY3 hb3 ⊢
  generalize w2.heap.size = n at hI3 hnb ⊢
  clear hX2 hY2 hb2 x0 x1 x2
  have hg4 : g < w4.heap.size := hX3.lt
  have hn4 : n < w4.heap.size := hI3.lt
  have hI5 := hI3.alloc (.cells #[.string { data := #[] }, .slice none 0 0] 52)
  have hX5 := hX3.alloc (.cells #[.string { data := #[] }, .slice none 0 0] 52)
  have hY5 := hY3.alloc (.cells #[.string { data := #[] }, .slice none 0 0] 52)
  have hR5 := atC_new 52 w4 #[.string { data := #[] }, .slice none 0 0]
  have hb5 := hb3.alloc (by omega) (.cells #[.string { data := #[] }, .slice none 0 0] 52)
  go_upto_region 3 with fail
  generalize w4.alloc (.cells #[.string { data := #[] }, .slice none 0 0] 52) = w5 at hI5 hX5 hY5 hR5 hb5 ⊢
  generalize w4.heap.size = r at hR5 hn4 hg4 ⊢
  clear hI3 hX3 hY3 hb3
  obtain ⟨x0, x1, x2, _⟩ := pcAt_S hX5
  have hv5 := World.ownsRow_nil w5 g 26 1
  have hr5 := hR5.lt
  go_wp2_with fail
  go_loopw [11] (fun i wr => ∃ (k : Nat) (v : Value), i = .int .i64 k ∧ k ≤ m.toNat ∧ AtC 52 wr r #[.string { data := #[] }, v] ∧ wr.ownsRow g 26 1 v (osF (s, 0) k).length ((osF (s, 0) k).map (Value.int .u32)) ∧ InAt wr n (rds (s, 0) k).1 (rds (s, 0) k).2 ∧ AtC 52 wr g2 #[.string { data := #[] }, .slice none 0 0] ∧ Below g w wr) (fun i _ => m.toNat - (intOf i).toNat)
  case atStart => exact ⟨0, .slice none 0 0, rfl, Nat.zero_le _, hR5, hv5, hI5, hY5, hb5⟩
  case round =>
    obtain ⟨k, v, rfl, hk, hRz, hvz, hIz, hYz, hbbz⟩ := hrel
    clear hR5 hv5 hI5 hX5 hY5 hb5 x0 x1 x2
    obtain ⟨r0, r1⟩ := hRz.cells2
    by_cases hlt : (k : Int) < m
    · have HUk := Lib.hid (fun W h => HU.out n k W h)
      have hsn := Lib.hid (HSs.out k)
      have hll : (osF (s, 0) k).length ≤ 1000 := by rw [HLn.out]; omega
      have hrk : Hid (rd (rds (s, 0) k) 4 = rds (s, 0) (k + 1)) := Lib.hid rfl
      generalize ((getN (by_ (rawT (rds (s, 0) k).1 4)) : Nat) : Int) = u at HUk hsn
      generalize osF (s, 0) k = xs at hvz hll hsn
      generalize rds (s, 0) k = stk at HUk hIz hrk
      have hgr : g ≤ wr.heap.size := by have := hRz.lt; omega
      go_wp2_with fail
      go_region_law (first | (refine step_src rfl (.tmp 14) (.tmp 17) rfl g r v xs u _ hR9 hv9 hg9 hll (by rfl) (by rfl) ?_; intro ad3 cq w10 H10 hc10 hf10) | (go_simp; go_at_call 94; refine (HUk.out _ (show InAt wr.drew n _ _ from hIz)).mono ?_; rintro e w9 ⟨rfl, hI9, ho9⟩; have hR9 := (show AtC 52 wr.drew r _ from hRz).only (by omega) ho9; have hv9 := own_in (show wr.drew.ownsRow g 26 1 _ _ _ from hvz) (show InAt wr.drew n _ _ from hIz) (by decide) ho9; have hY9 := (show AtC 52 wr.drew g2 _ from hYz).only (by omega) ho9; have hb9 := hbbz.drew.trans (ho9.below (by omega)); obtain ⟨_, d1⟩ := hR9.cells2; have hr9 := hR9.lt; have hg9 : g ≤ w9.heap.size := by omega))
      all_goals
        obtain ⟨hv10, hk10, hbl10⟩ := H10.out
        have hR10 : AtC 52 w10 r #[.string { data := #[] }, v] := hk10 _ _ hR9 (by intro cur p e; cases e)
        have hY10 : AtC 52 w10 g2 #[.string { data := #[] }, .slice none 0 0] := hk10 _ _ hY9 (by intro cur p e; cases e)
        have hI10 : InAt w10 n (rd stk 4).1 (rd stk 4).2 := hk10 _ _ hI9 (by intro cur p e; cases e)
        have hb10 := hbl10 _ _ (Nat.le_refl _) hb9
        have hR11 : AtC 52 (w10.setCell ⟨r, 1, none⟩ (.slice ad3 (xs.length + 1) cq)) r #[.string { data := #[] }, .slice ad3 (xs.length + 1) cq] := block_setCell hR10
        have ho11 := (Only.refl r w10).setCell 1 (.slice ad3 (xs.length + 1) cq)
        have hY11 := hY10.only (b := r) (by omega) ho11
        have hI11 := inAt_set (i := 1) (u := .slice ad3 (xs.length + 1) cq) hI10 (show r ≠ n by omega)
        have hb11 := hb10.trans (ho11.below (by omega))
        have hv11 := ownC_store (i := 1) (u := .slice ad3 (xs.length + 1) cq) hv10 hR10 (by decide)
        rw [hrk.out] at hI11
        clear H10 hc10 hf10 hv10 hR10 hY10 hI10 hb10 hk10 hbl10 ho11 hb9 hR9 hv9 hY9 hI9 ho9 hg9 hr9 d1 r0 r1 hRz hvz hIz hYz hbbz
        go_wp2
        go_roundw
        case rel => exact ⟨k + 1, _, by go_num, by omega, hR11, by rw [hsn.out, List.length_append]; exact hv11, hI11, hY11, hb11⟩
        case measure => simp [intOf]; omega
    · have hkn : k = m.toNat := by omega
      subst hkn
      rw [HSt.out] at hIz
      obtain ⟨xs, hxs⟩ : ∃ xs, osF (s, 0) m.toNat = xs := ⟨_, rfl⟩
      rw [hxs] at hvz
      have HXS := Lib.hid hxs
      clear hxs
      by_cases h0 : stn.1.size = 0
      · have hE := hRs0 h0
        have h0' : ((stn.1.size : Nat) : Int) = 0 := by omega
        clear hRs0 hRs1 h0
        go_wp2_with fail
        refine (HL.out n _ hIz).mono ?_
        rintro e w' ⟨rfl, rfl⟩
        obtain ⟨y0, y1⟩ := hYz.cells2
        have f0 := hYz.free 0
        have f1 := hYz.free 1
        obtain ⟨av, cv, rfl, _, _, _, _⟩ := own_reads hvz
        have hZ0 : AtC 52 (wr.setCell ⟨g2, 0, none⟩ (.string { data := #[] })) g2 #[.string { data := #[] }, .slice none 0 0] := block_setCell hYz
        have hZz : AtC 52 ((wr.setCell ⟨g2, 0, none⟩ (.string { data := #[] })).setCell ⟨g2, 1, none⟩ (.slice av xs.length cv)) g2 #[.string { data := #[] }, .slice av xs.length cv] := block_setCell hZ0
        have hoz := ((Only.refl g2 wr).setCell 0 (.string { data := #[] })).setCell 1 (.slice av xs.length cv)
        have hbz := hbbz.trans (hoz.below hgB)
        obtain ⟨av2, cv2, ev, _, _, _, hrz⟩ := own_reads (ownC_only hvz hYz (by decide) hoz)
        cases ev
        go_wp2_with fail
        generalize ((wr.setCell ⟨g2, 0, none⟩ (.string { data := #[] })).setCell ⟨g2, 1, none⟩ (.slice av xs.length cv)) = wz at hZz hoz hbz hrz ⊢
        obtain ⟨d0, d1⟩ := hZz.cells2
        clear f0 f1 y0 y1 r0 r1
        refine bodyPost_ret (v := .agg #[.string { data := #[] }, .slice av xs.length cv]) (by simp [results, Try.results75, go_sem, d0, d1]) rfl ?_
        first | exact ⟨by rw [HG.out]; exact hbz, av, cv, by rw [hE.out, HXS.out], by rw [HXS.out]; exact hrz⟩ | exact ⟨by rw [HG.out]; exact hbz, av, ⟨cv, by rw [hE.out, HXS.out]⟩, by rw [HXS.out]; exact hrz⟩
      · have hE := hRs1 h0
        have h0' : (0 : Int) < ((stn.1.size : Nat) : Int) := by omega
        have H8' := Lib.hid (fun W h => H8.out n W h)
        clear hRs0 hRs1 h0
        generalize ((getN (by_ (rawT stn.1 1)) : Nat) : Int) = u8 at H8' hE
        have HW' := Lib.hid (fun W h => HW.out n u8 W h)
        generalize rawT (rd stn 1).1 u8 = RT at HW' hE
        generalize rd (rd stn 1) u8 = st9 at HW'
        generalize rd stn 1 = st8 at H8' HW'
        go_wp2_with fail
        refine (HL.out n _ hIz).mono ?_
        rintro e w' ⟨rfl, rfl⟩
        go_wp2_with fail
        refine (H8'.out _ hIz).mono ?_
        rintro e w6 ⟨rfl, hI6, ho6⟩
        have hR6 := hRz.only (by omega) ho6
        have hY6 := hYz.only (by omega) ho6
        have hv6 := own_in hvz hIz (by decide) ho6
        have hb6 := hbbz.trans (ho6.below (by omega))
        clear hRz hYz hvz hIz hbbz ho6 r0 r1
        go_wp2_with fail
        refine (HW'.out _ hI6).mono ?_
        rintro e w7 ⟨rfl, hI7, ho7⟩
        have hR7 := hR6.only (by omega) ho7
        have hY7 := hY6.only (by omega) ho7
        have hv7 := own_in hv6 hI6 (by decide) ho7
        have hb7 := hb6.trans (ho7.below (by omega))
        clear hR6 hY6 hv6 hI6 hb6 ho7 hI7
        have q0 := hR7.free 0
        obtain ⟨r0, r1⟩ := hR7.cells2
        have hR8 : AtC 52 (w7.setCell ⟨r, 0, none⟩ (.string RT)) r #[.string RT, v] := block_setCell hR7
        have ho8 := (Only.refl r w7).setCell 0 (.string RT)
        have hY8 := hY7.only (b := r) (by omega) ho8
        have hv8 := ownC_only hv7 hR7 (by decide) ho8
        have hb8 := hb7.trans (ho8.below (by omega))
        go_upto_region 9 with fail
        generalize w7.setCell ⟨r, 0, none⟩ (.string RT) = w8 at hR8 hY8 hv8 hb8 ⊢
        clear hR7 hY7 hv7 hb7 ho8 q0 r0 r1
        obtain ⟨r0, r1⟩ := hR8.cells2
        obtain ⟨y0, y1⟩ := hY8.cells2
        have f0 := hY8.free 0
        have f1 := hY8.free 1
        obtain ⟨av, cv, rfl, _, _, _, _⟩ := own_reads hv8
        have hZ0 : AtC 52 (w8.setCell ⟨g2, 0, none⟩ (.string RT)) g2 #[.string RT, .slice none 0 0] := block_setCell hY8
        have hZz : AtC 52 ((w8.setCell ⟨g2, 0, none⟩ (.string RT)).setCell ⟨g2, 1, none⟩ (.slice av xs.length cv)) g2 #[.string RT, .slice av xs.length cv] := block_setCell hZ0
        have hoz := ((Only.refl g2 w8).setCell 0 (.string RT)).setCell 1 (.slice av xs.length cv)
        have hbz := hb8.trans (hoz.below hgB)
        obtain ⟨av2, cv2, ev, _, _, _, hrz⟩ := own_reads (ownC_only hv8 hY8 (by decide) hoz)
        cases ev
        go_wp2_with fail
        generalize ((w8.setCell ⟨g2, 0, none⟩ (.string RT)).setCell ⟨g2, 1, none⟩ (.slice av xs.length cv)) = wz at hZz hoz hbz hrz ⊢
        obtain ⟨d0, d1⟩ := hZz.cells2
        clear f0 f1 y0 y1 r0 r1
        refine bodyPost_ret (v := .agg #[.string RT, .slice av xs.length cv]) (by simp [results, Try.results75, go_sem, d0, d1]) rfl ?_
        first | exact ⟨by rw [HG.out]; exact hbz, av, cv, by rw [hE.out, HXS.out], by rw [HXS.out]; exact hrz⟩ | exact ⟨by rw [HG.out]; exact hbz, av, ⟨cv, by rw [hE.out, HXS.out]⟩, by rw [HXS.out]; exact hrz⟩
end Go.Proofs.Ytjoikidnnhjogaa

