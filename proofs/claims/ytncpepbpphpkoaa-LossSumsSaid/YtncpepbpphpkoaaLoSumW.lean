/- LossSums: the walk. -/
import Derived.Test.YtncpepbpphpkoaaLoB
namespace Go.Proofs.Ytncpepbpphpkoaa
open Go.RowKit
set_option linter.unusedVariables false
theorem so_two' (f f1 : Int) (h0 : 0 ≤ f) (h1 : f < 65536) (hf : (f + 1) % 65536 = f1) : (SR.new f).run [f, f1] = (⟨f1, 0, f1, 65537, 0, 1⟩, 1) := by
  subst hf; exact SR.two f h0 h1
namespace lossSums
set_option maxRecDepth 100000 in
set_option maxHeartbeats 6400000 in
theorem walk (a0 : Int) (p1 : Option Addr) (len1 cap1 : Nat) (z1 : List Int) (p2 : Option Addr) (len2 cap2 : Nat) (B : Nat → Bool) (w0 : (Lit.int .u16 a0).wf = true) (w : World) (w1 : IsRow .u16 w p1 len1 cap1 z1) (w2 : IsBools w p2 len2 B) :
    Calls Try.prog 7 #[.int .u16 a0, .slice p1 len1 cap1, .slice p2 len2 cap2] w fun e w' => e = .returned (.bool true) ∧ Below w.heap.size w w' := by
  obtain ⟨b1, b2⟩ := u16_bd w0
  obtain ⟨es, rfl, l1, l2, hr0, hwf⟩ := w1.reads
  clear w1 hwf w0
  have HR := Lib.hid (fun (W : World) (h : Below w.heap.size w W) => hr0.later h)
  have HB := Lib.hid (fun (W : World) (h : Below w.heap.size w W) => w2.later h)
  clear hr0 w2
  obtain ⟨f1, hf1⟩ : ∃ f1, (a0 + 1) % 65536 = f1 := ⟨_, rfl⟩
  have g1 : 0 ≤ f1 := by omega
  have g2 : f1 < 65536 := by omega
  have hf := u16_add1 a0
  rw [hf1] at hf
  have HTWO := Lib.hid (so_two' a0 f1 b1 (by omega) hf1)
  have HOK := Lib.hid (so_ok0 a0 b1 (by omega))
  have HCS := Lib.hid (SR.cnt_start f1 g1 g2)
  have HOK1 : Hid ((⟨f1, 0, f1, 65537, 0, 1⟩ : SR).Ok 2) := Lib.hid (by constructor <;> (try simp only []) <;> omega)
  have HN := Lib.hid (fun W => soNew_any a0 b1 (by omega) W)
  have hN0 := next_any 0 0 ⟨f1, 0, f1, 65537, 0, 1⟩ 2 HOK1.out (by omega) (by omega) (by omega) (by omega) (by omega)
  rw [show SR.exp ⟨f1, 0, f1, 65537, 0, 1⟩ = 1 from by unfold SR.exp; rw [if_neg (by simp)]; simp only; omega] at hN0
  generalize frac (1 - 0) ((⟨f1, 0, f1, 65537, 0, 1⟩ : SR).rc - 0) = fr0 at hN0
  generalize lostN (1 - (⟨f1, 0, f1, 65537, 0, 1⟩ : SR).rc) = ls0 at hN0
  simp only [SR.val] at hN0
  have HN0 := Lib.hid hN0
  clear hf1 hN0
  go_enter Try.func7, Try.ntmps7
  go_wp2_with fail
  refine (loAwake_any _).mono ?_
  rintro e wa ⟨rfl, hba⟩
  go_wp2_with fail
  refine (HN.out _).mono ?_
  rintro e w3 ⟨rfl, hb3⟩
  have hb3' := hba.trans (hb3.mono hba.size)
  go_wp2_with fail
  have hr : Reads .u16 (w3.alloc (.cells #[.int .u16 a0, .int .u16 f1] 22)) (some ⟨w3.heap.size, 0, none⟩) [a0, f1] := by
    refine Or.inr ⟨_, _, rfl, fun i hi => ?_⟩
    match i, hi with
    | 0, _ => simp
    | 1, _ => simp
  refine (soRun_any (SR.new a0) 0 HOK.out [a0, f1] _ 2 _ hr (by intro n hn; simp at hn; omega) (by simp)).mono ?_
  rw [HTWO.out]
  rintro e w5 ⟨rfl, hb5⟩
  simp only [SR.val]
  have hb6 : Below w.heap.size w w5 := (hb3'.alloc hb3'.size _).trans (hb5.mono (by simp; have := hb3'.size; omega))
  have hX := at6_new 26 w5 _ (.int .u16 f1) (.int .i64 0) (.int .i64 f1) (.int .i64 65537) (.int .i64 0) (.int .i64 1) rfl
  have hb7 := hb6.alloc hb6.size (.cells #[.int .u16 f1, .int .i64 0, .int .i64 f1, .int .i64 65537, .int .i64 0, .int .i64 1] 26)
  have hle := hb6.size
  go_upto_region 4 with fail
  generalize w5.alloc (.cells #[.int .u16 f1, .int .i64 0, .int .i64 f1, .int .i64 65537, .int .i64 0, .int .i64 1] 26) = w7 at hX hb7 ⊢
  generalize w5.heap.size = g at hX hle ⊢
  clear hr hb3 hb3' hb5 hb6 hba
  obtain ⟨_, _, _, _, _, _⟩ := hX.cells
  have hlt := hX.lt
  go_wp2_with fail
  refine (HN0.out _).mono ?_
  rintro e w8 ⟨rfl, hb8⟩
  have hX8 := (hX.later hb8).alloc (.cells #[.int .i64 1, .int .i64 1] 49)
  have hT8 := at2_new 49 w8 _ (.int .i64 1) (.int .i64 1) rfl
  have hb8' := (hb7.trans (hb8.mono (by omega))).alloc (by have := (hX.later hb8).lt; omega) (.cells #[.int .i64 1, .int .i64 1] 49)
  have hgt : w.heap.size ≤ w8.heap.size := by have := (hX.later hb8).lt; omega
  have hne : g ≠ w8.heap.size := by have := (hX.later hb8).lt; omega
  go_upto_region 5 with fail
  generalize w8.alloc (.cells #[.int .i64 1, .int .i64 1] 49) = w9 at hX8 hT8 hb8' ⊢
  generalize w8.heap.size = gt at hT8 hgt hne ⊢
  clear hX hb7 hb8 hlt
  go_wp2_with fail
  go_loopw [12, 13, 14, 15] (fun zn zl zs zi wr => ∃ (k j : Nat) (n L s : Int) (T : Int) (t : SR) (te tr : Int), k ≤ 100 ∧ k ≤ len2 ∧ zi = .int .i64 k ∧ zn = .int .u16 n ∧ zl = .int .i64 L ∧ zs = .int .i64 s ∧ Hid (n = (f1 + k) % 65536) ∧ Hid (L = T - f1 - j) ∧ Hid (s = f1 + k - T) ∧ 0 ≤ n ∧ n < 65536 ∧ 0 ≤ L ∧ L ≤ 100 ∧ 0 ≤ s ∧ s ≤ 100 ∧ Hid (t.Ok (j + 2)) ∧ Hid (t.Cnt f1 j T) ∧ f1 ≤ T ∧ j ≤ k ∧ 0 ≤ te ∧ te ≤ 1000 ∧ 0 ≤ tr ∧ tr ≤ 1000 ∧ At6 26 wr g (.int .u16 t.mx) (.int .i64 t.cy) (.int .i64 t.ba) (.int .i64 t.bd) (.int .i64 t.pr) (.int .i64 t.rc) ∧ At2 49 wr gt (.int .i64 te) (.int .i64 tr) ∧ Below w.heap.size w wr) (fun _ _ _ i _ => 100 - (intOf i).toNat)
  case atStart => exact ⟨0, 0, f1, 0, 0, f1, ⟨f1, 0, f1, 65537, 0, 1⟩, 1, 1, by omega, by omega, rfl, rfl, rfl, rfl, Lib.hid (by omega), Lib.hid (by omega), Lib.hid (by omega), by omega, by omega, by omega, by omega, by omega, by omega, HOK1, HCS, by omega, by omega, by omega, by omega, by omega, by omega, hX8, hT8, hb8'⟩
  case round =>
    obtain ⟨k, j, n, L, s, T, t, te, tr, hk100, hk, rfl, rfl, rfl, rfl, hn, hL, hs, n0, n1, L0, L1, s0, s1, ht, hcn, hfT, hjk, te0, te1, tr0, tr1, hXk, hTk, hbk⟩ := hrel
    clear hX8 hT8 hb8'
    by_cases hlt : k < len2
    · by_cases hlt8 : k < 100
      · obtain ⟨n2, hn2⟩ : ∃ n2, (f1 + (k + 1)) % 65536 = n2 := ⟨_, rfl⟩
        have hwn : IntKind.u16.wrap (n + 1) = n2 := by rw [u16_add1, hn.out, ← hn2]; omega
        have n20 : 0 ≤ n2 := by omega
        have n21 : n2 < 65536 := by omega
        have hor := HB.out wr hbk
        rcases hor with h0 | ⟨bb, boff, rfl, hcellb⟩
        · omega
        have hcb := hcellb k hlt
        clear hcellb
        generalize B k = dr at hcb
        cases dr
        · have hst := SR.cnt_step hcn.out (s + 1) (by omega) (by omega)
          have hTs : T + (s + 1) = f1 + (k + 1) := by have := hs.out; omega
          rw [hTs, hn2, if_pos (by omega)] at hst
          have hU := soUpd_any t (j + 2) ht.out (by omega) n2 n20 n21
          have hok := SR.upd_ok ht.out n2 n20 n21
          obtain ⟨mx1, cy1, ba1, bd1, pr1, rc1⟩ := t
          generalize SR.upd ⟨mx1, cy1, ba1, bd1, pr1, rc1⟩ n2 = UP at hst hU hok
          obtain ⟨⟨mx2, cy2, ba2, bd2, pr2, rc2⟩, cb⟩ := UP
          simp only [SR.val] at hst hU hok hXk
          obtain ⟨hcb', hc2⟩ := hst
          subst hcb'
          obtain ⟨e1, e2, e3, e4, e5, e6, e7, e8, e9⟩ := id hc2
          simp only at e1 e2 e3 e4 e5 e8 e9
          have hj : (j : Int) + (T - f1 - j) + f1 = T := by omega
          have hLs : 0 ≤ (k : Int) - j ∧ (k : Int) - j ≤ 100 := by omega
          have hF := next_any te tr ⟨mx2, cy2, ba2, bd2, pr2, rc2⟩ (j + 2 + 1) hok (by omega) (by omega) (by omega) (by omega) (by omega)
          have E2 : SR.exp ⟨mx2, cy2, ba2, bd2, pr2, rc2⟩ = (k : Int) + 2 := by unfold SR.exp; rw [if_neg (by simp only; omega)]; simp only; omega
          rw [E2] at hF
          rw [show lostN ((k : Int) + 2 - rc2) = (k : Int) - j from by rw [lostN_in _ (by omega) (by omega)]; omega] at hF
          obtain ⟨fb0, fb1⟩ := frac_bd ((k : Int) + 2 - te) (rc2 - tr)
          simp only at hF
          generalize frac ((k : Int) + 2 - te) (rc2 - tr) = fr at hF fb0 fb1
          have hrc0 : 0 ≤ rc2 := by omega
          have hrc1 : rc2 ≤ 1000 := by omega
          have hLw : L + s = (k : Int) - j := by have := hL.out; have := hs.out; omega
          have hLw2 : IntKind.i64.wrap (L + s) = (k : Int) - j := by rw [hLw]; exact IntWalk.i64_in _ ⟨by omega, by omega⟩
          obtain ⟨LL, hLL⟩ : ∃ LL : Int, (k : Int) - j = LL := ⟨_, rfl⟩
          rw [hLL] at hF hLw hLw2 hLs
          obtain ⟨ex, hex⟩ : ∃ ex : Int, (k : Int) + 2 = ex := ⟨_, rfl⟩
          rw [hex] at hF
          have hex0 : 0 ≤ ex := by omega
          have hex1 : ex ≤ 1000 := by omega
          obtain ⟨LL0, LL1⟩ := hLs
          simp only [SR.val] at hF
          have HF := Lib.hid hF
          have HU := Lib.hid hU
          have HK := Lib.hid hok
          have HC := Lib.hid hc2
          have HLL := Lib.hid hLL
          have HN2 : Hid (n2 = (f1 + ((k + 1 : Nat) : Int)) % 65536) := Lib.hid (by rw [← hn2]; congr 1)
          clear hn2 e1 e2 e3 e4 e5 e6 e7 e8 e9 hU hF hok hc2 hcn ht hLL hex hTs hj E2 hL hs hn
          obtain ⟨_, _, _, _, _, _⟩ := hXk.cells
          have hgl := hXk.lt
          go_wp2_with fail
          refine (HU.out _).mono ?_
          rintro e w10 ⟨rfl, hk10⟩
          have hX10 := (hXk.later hk10).alloc (.cells #[.int .u16 mx2, .int .i64 cy2, .int .i64 ba2, .int .i64 bd2, .int .i64 pr2, .int .i64 rc2] 26)
          have hT10 := (hTk.later hk10).alloc (.cells #[.int .u16 mx2, .int .i64 cy2, .int .i64 ba2, .int .i64 bd2, .int .i64 pr2, .int .i64 rc2] 26)
          have hb10 := (hbk.trans (hk10.mono (by omega))).alloc (by have := (hXk.later hk10).lt; omega) (.cells #[.int .u16 mx2, .int .i64 cy2, .int .i64 ba2, .int .i64 bd2, .int .i64 pr2, .int .i64 rc2] 26)
          have hN10 := at6_new 26 w10 _ (.int .u16 mx2) (.int .i64 cy2) (.int .i64 ba2) (.int .i64 bd2) (.int .i64 pr2) (.int .i64 rc2) rfl
          go_upto_region 13 with fail
          generalize w10.alloc (.cells #[.int .u16 mx2, .int .i64 cy2, .int .i64 ba2, .int .i64 bd2, .int .i64 pr2, .int .i64 rc2] 26) = w11 at hX10 hT10 hN10 hb10 ⊢
          generalize w10.heap.size = gn at hN10 ⊢
          clear hk10 hXk hTk hbk hgl
          obtain ⟨_, _, _, _, _, _⟩ := hN10.cells
          obtain ⟨_, _, _, _, _, _⟩ := hX10.frees
          obtain ⟨_, _, _, _, _, _⟩ := hX10.cells
          go_upto_region 14 with fail
          have hX12 := at6_store hX10 (.int .u16 mx2) (.int .i64 cy2) (.int .i64 ba2) (.int .i64 bd2) (.int .i64 pr2) (.int .i64 rc2)
          have ho12 := store6_only w11 g (.int .u16 mx2) (.int .i64 cy2) (.int .i64 ba2) (.int .i64 bd2) (.int .i64 pr2) (.int .i64 rc2)
          have hT12 := hT10.only (fun e => hne e.symm) ho12
          have hb12 := hb10.trans (ho12.below hle)
          generalize ((((((w11.setCell ⟨g, 0, none⟩ (.int .u16 mx2)).setCell ⟨g, 1, none⟩ (.int .i64 cy2)).setCell ⟨g, 2, none⟩ (.int .i64 ba2)).setCell ⟨g, 3, none⟩ (.int .i64 bd2)).setCell ⟨g, 4, none⟩ (.int .i64 pr2)).setCell ⟨g, 5, none⟩ (.int .i64 rc2)) = w12 at hX12 hT12 hb12 ⊢
          clear ho12 hX10 hT10 hb10 hN10
          go_upto_region 17 with fail
          by_cases hkl : k < es.length
          · obtain ⟨ab, off, rfl, hcell⟩ := (HR.out w12 hb12).at hkl
            generalize es[k]?.getD 0 = x at hcell
            obtain ⟨b, hb⟩ : ∃ b, (bits .and .u16 x 7 == 0) = b := ⟨_, rfl⟩
            cases b
            · go_wp2_with fail
              go_roundw
              case rel => exact ⟨k + 1, j + 1, n2, LL, 0, f1 + (k + 1), ⟨mx2, cy2, ba2, bd2, pr2, rc2⟩, te, tr, by omega, by omega, by go_num, rfl, rfl, rfl, HN2, Lib.hid (by have := HLL.out; omega), Lib.hid (by omega), n20, n21, LL0, LL1, by omega, by omega, HK, HC, by omega, by omega, by omega, by omega, by omega, by omega, hX12, hT12, hb12⟩
              case measure => simp [intOf]; omega
            · obtain ⟨_, _, _, _, _, _⟩ := hX12.cells
              obtain ⟨_, _⟩ := hT12.cells
              have hgl := hX12.lt
              go_wp2_with fail
              refine (HF.out _).mono ?_
              rintro e w13 ⟨rfl, hk13⟩
              have hX13 := (hX12.later hk13).alloc (.cells #[.int .i64 ex, .int .i64 rc2] 49)
              have hT13 := (hT12.later hk13).alloc (.cells #[.int .i64 ex, .int .i64 rc2] 49)
              have hb13 := (hb12.trans (hk13.mono (by omega))).alloc (by have := (hX12.later hk13).lt; omega) (.cells #[.int .i64 ex, .int .i64 rc2] 49)
              have hN13 := at2_new 49 w13 _ (.int .i64 ex) (.int .i64 rc2) rfl
              go_upto_region 19 with fail
              generalize w13.alloc (.cells #[.int .i64 ex, .int .i64 rc2] 49) = w14 at hX13 hT13 hN13 hb13 ⊢
              generalize w13.heap.size = gm at hN13 ⊢
              clear hk13 hX12 hT12 hb12 hgl
              obtain ⟨_, _⟩ := hN13.cells
              obtain ⟨_, _⟩ := hT13.cells
              obtain ⟨_, _⟩ := hT13.frees
              go_upto_region 20 with fail
              have hT15 := at2_store hT13 (.int .i64 ex) (.int .i64 rc2)
              have ho15 := store2_only w14 gt (.int .i64 ex) (.int .i64 rc2)
              have hX15 := hX13.only hne ho15
              have hb15 := hb13.trans (ho15.below hgt)
              generalize (w14.setCell ⟨gt, 0, none⟩ (.int .i64 ex)).setCell ⟨gt, 1, none⟩ (.int .i64 rc2) = w15 at hX15 hT15 hb15 ⊢
              clear ho15 hX13 hT13 hb13 hN13
              go_wp2_with fail
              go_roundw
              case rel => exact ⟨k + 1, j + 1, n2, LL, 0, f1 + (k + 1), ⟨mx2, cy2, ba2, bd2, pr2, rc2⟩, ex, rc2, by omega, by omega, by go_num, rfl, rfl, rfl, HN2, Lib.hid (by have := HLL.out; omega), Lib.hid (by omega), n20, n21, LL0, LL1, by omega, by omega, HK, HC, by omega, by omega, by omega, by omega, by omega, by omega, hX15, hT15, hb15⟩
              case measure => simp [intOf]; omega
          · go_wp2_with fail
            go_roundw
            case rel => exact ⟨k + 1, j + 1, n2, LL, 0, f1 + (k + 1), ⟨mx2, cy2, ba2, bd2, pr2, rc2⟩, te, tr, by omega, by omega, by go_num, rfl, rfl, rfl, HN2, Lib.hid (by have := HLL.out; omega), Lib.hid (by omega), n20, n21, LL0, LL1, by omega, by omega, HK, HC, by omega, by omega, by omega, by omega, by omega, by omega, hX12, hT12, hb12⟩
            case measure => simp [intOf]; omega
        · have HN2 : Hid (n2 = (f1 + ((k + 1 : Nat) : Int)) % 65536) := Lib.hid (by rw [← hn2]; congr 1)
          have hs2 : Hid (s + 1 = f1 + ((k + 1 : Nat) : Int) - T) := Lib.hid (by have := hs.out; omega)
          have s2 : s + 1 ≤ 100 := by have := hs.out; omega
          clear hn2
          go_wp2_with fail
          go_roundw
          case rel => exact ⟨k + 1, j, n2, L, s + 1, T, t, te, tr, by omega, by omega, by go_num, rfl, rfl, rfl, HN2, hL, hs2, n20, n21, L0, L1, by omega, s2, ht, hcn, hfT, by omega, te0, te1, tr0, tr1, hXk, hTk, hbk⟩
          case measure => simp [intOf]; omega
      · have : k = 100 := by omega
        subst this
        obtain ⟨mx1, cy1, ba1, bd1, pr1, rc1⟩ := t
        simp only at hXk
        have hF := next_any 0 0 ⟨mx1, cy1, ba1, bd1, pr1, rc1⟩ (j + 2) ht.out (by omega) (by omega) (by omega) (by omega) (by omega)
        have hT := fun W => told_any mx1 cy1 ba1 bd1 pr1 rc1 hcn.out.m0 hcn.out.m1 W
        have hE := fun W => refExp_any ⟨mx1, cy1, ba1, bd1, pr1, rc1⟩ (j + 2) ht.out (by omega) W
        obtain ⟨c1, c2, c3, c4, c5, c6, c7, c8, c9⟩ := id hcn.out
        simp only at c1 c2 c3 c4 c5 c8 c9
        have E2 : SR.exp ⟨mx1, cy1, ba1, bd1, pr1, rc1⟩ = T - f1 + 1 := by unfold SR.exp; rw [if_neg (by simp only; omega)]; simp only; omega
        rw [E2] at hF hE
        have hLL := hL.out
        rw [show lostN (T - f1 + 1 - rc1) = L from by rw [lostN_in _ (by omega) (by omega)]; omega] at hF
        generalize frac (T - f1 + 1 - 0) (rc1 - 0) = fr at hF
        have hw : IntKind.i64.wrap (T - f1 + 1 - rc1) = L := by rw [IntWalk.i64_in _ ⟨by omega, by omega⟩]; omega
        generalize T - f1 + 1 = ex at hF hE hw
        simp only [SR.val, SR.ref] at hF hE
        have HF := Lib.hid hF
        have HT := Lib.hid hT
        have HE := Lib.hid hE
        clear hF hT hE hLL c1 c2 c3 c4 c5 c6 c7 c8 c9 E2 hcn ht
        obtain ⟨_, _, _, _, _, _⟩ := hXk.cells
        have hgl := hXk.lt
        go_wp2_with fail
        refine (HF.out _).mono ?_
        rintro e w6 ⟨rfl, hk6⟩
        have hX6 := (hXk.later hk6).alloc (.cells #[.int .i64 ex, .int .i64 rc1] 49)
        have hb6 := (hbk.trans (hk6.mono (by omega))).alloc (by have := (hXk.later hk6).lt; omega) (.cells #[.int .i64 ex, .int .i64 rc1] 49)
        go_upto_region 23 with fail
        generalize w6.alloc (.cells #[.int .i64 ex, .int .i64 rc1] 49) = w7 at hX6 hb6 ⊢
        clear hk6 hXk hbk hgl
        obtain ⟨_, _, _, _, _, _⟩ := hX6.cells
        go_region_held3 (fun W => W.cell? ⟨g, 0, none⟩ = some (.int .u16 mx1) ∧ W.cell? ⟨g, 1, none⟩ = some (.int .i64 cy1) ∧ W.cell? ⟨g, 2, none⟩ = some (.int .i64 ba1) ∧ W.cell? ⟨g, 3, none⟩ = some (.int .i64 bd1) ∧ W.cell? ⟨g, 4, none⟩ = some (.int .i64 pr1) ∧ W.cell? ⟨g, 5, none⟩ = some (.int .i64 rc1) ∧ At6 26 W g (.int .u16 mx1) (.int .i64 cy1) (.int .i64 ba1) (.int .i64 bd1) (.int .i64 pr1) (.int .i64 rc1) ∧ Below w.heap.size w W) (first | (go_keep; done) | exact so_start hX6.drew hb6.drew | exact so_step hle (by go_split_ands; assumption) (by go_split_ands; assumption) (by assumption)) (first | (go_at_call 14; refine (HT.out _).mono ?_; rintro e w8 ⟨rfl, hk8⟩) | (go_at_call 18; refine (HE.out _).mono ?_; rintro e w9 ⟨rfl, hk9⟩))
        all_goals
          go_wp2_with fail
          go_ret
          exact ⟨rfl, by go_split_ands; assumption⟩
    · skip
      obtain ⟨mx1, cy1, ba1, bd1, pr1, rc1⟩ := t
      simp only at hXk
      have hF := next_any 0 0 ⟨mx1, cy1, ba1, bd1, pr1, rc1⟩ (j + 2) ht.out (by omega) (by omega) (by omega) (by omega) (by omega)
      have hT := fun W => told_any mx1 cy1 ba1 bd1 pr1 rc1 hcn.out.m0 hcn.out.m1 W
      have hE := fun W => refExp_any ⟨mx1, cy1, ba1, bd1, pr1, rc1⟩ (j + 2) ht.out (by omega) W
      obtain ⟨c1, c2, c3, c4, c5, c6, c7, c8, c9⟩ := id hcn.out
      simp only at c1 c2 c3 c4 c5 c8 c9
      have E2 : SR.exp ⟨mx1, cy1, ba1, bd1, pr1, rc1⟩ = T - f1 + 1 := by unfold SR.exp; rw [if_neg (by simp only; omega)]; simp only; omega
      rw [E2] at hF hE
      have hLL := hL.out
      rw [show lostN (T - f1 + 1 - rc1) = L from by rw [lostN_in _ (by omega) (by omega)]; omega] at hF
      generalize frac (T - f1 + 1 - 0) (rc1 - 0) = fr at hF
      have hw : IntKind.i64.wrap (T - f1 + 1 - rc1) = L := by rw [IntWalk.i64_in _ ⟨by omega, by omega⟩]; omega
      generalize T - f1 + 1 = ex at hF hE hw
      simp only [SR.val, SR.ref] at hF hE
      have HF := Lib.hid hF
      have HT := Lib.hid hT
      have HE := Lib.hid hE
      clear hF hT hE hLL c1 c2 c3 c4 c5 c6 c7 c8 c9 E2 hcn ht
      obtain ⟨_, _, _, _, _, _⟩ := hXk.cells
      have hgl := hXk.lt
      go_wp2_with fail
      refine (HF.out _).mono ?_
      rintro e w6 ⟨rfl, hk6⟩
      have hX6 := (hXk.later hk6).alloc (.cells #[.int .i64 ex, .int .i64 rc1] 49)
      have hb6 := (hbk.trans (hk6.mono (by omega))).alloc (by have := (hXk.later hk6).lt; omega) (.cells #[.int .i64 ex, .int .i64 rc1] 49)
      go_upto_region 23 with fail
      generalize w6.alloc (.cells #[.int .i64 ex, .int .i64 rc1] 49) = w7 at hX6 hb6 ⊢
      clear hk6 hXk hbk hgl
      obtain ⟨_, _, _, _, _, _⟩ := hX6.cells
      go_region_held3 (fun W => W.cell? ⟨g, 0, none⟩ = some (.int .u16 mx1) ∧ W.cell? ⟨g, 1, none⟩ = some (.int .i64 cy1) ∧ W.cell? ⟨g, 2, none⟩ = some (.int .i64 ba1) ∧ W.cell? ⟨g, 3, none⟩ = some (.int .i64 bd1) ∧ W.cell? ⟨g, 4, none⟩ = some (.int .i64 pr1) ∧ W.cell? ⟨g, 5, none⟩ = some (.int .i64 rc1) ∧ At6 26 W g (.int .u16 mx1) (.int .i64 cy1) (.int .i64 ba1) (.int .i64 bd1) (.int .i64 pr1) (.int .i64 rc1) ∧ Below w.heap.size w W) (first | (go_keep; done) | exact so_start hX6.drew hb6.drew | exact so_step hle (by go_split_ands; assumption) (by go_split_ands; assumption) (by assumption)) (first | (go_at_call 14; refine (HT.out _).mono ?_; rintro e w8 ⟨rfl, hk8⟩) | (go_at_call 18; refine (HE.out _).mono ?_; rintro e w9 ⟨rfl, hk9⟩))
      all_goals
        go_wp2_with fail
        go_ret
        exact ⟨rfl, by go_split_ands; assumption⟩
end lossSums
end Go.Proofs.Ytncpepbpphpkoaa
