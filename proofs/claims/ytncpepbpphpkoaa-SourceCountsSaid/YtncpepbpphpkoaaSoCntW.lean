/- SourceCounts: the walk. -/
import Derived.Test.YtncpepbpphpkoaaSoW
import Derived.Test.YtncpepbpphpkoaaSoN
import Derived.Test.YtncpepbpphpkoaaSerC
namespace Go.Proofs.Ytncpepbpphpkoaa
open Go.RowKit
set_option linter.unusedVariables false
theorem so_two (f f1 : Int) (h0 : 0 ≤ f) (h1 : f < 65536) (hf : (f + 1) % 65536 = f1) : (SR.new f).run [f, f1] = (⟨f1, 0, f1, 65537, 0, 1⟩, 1) := by
  subst hf; exact SR.two f h0 h1
namespace sourceCounts
set_option maxRecDepth 100000 in
set_option maxHeartbeats 3200000 in
theorem walk (a0 : Int) (p1 : Option Addr) (len1 cap1 : Nat) (z1 : List Int) (w0 : (Lit.int .u16 a0).wf = true) (w : World) (w1 : IsRow .i64 w p1 len1 cap1 z1) :
    Calls Try.prog 4 #[.int .u16 a0, .slice p1 len1 cap1] w fun e w' => e = .returned (.bool true) ∧ Below w.heap.size w w' := by
  obtain ⟨b1, b2⟩ := u16_bd w0
  obtain ⟨es, rfl, l1, l2, hr0, hwf⟩ := w1.reads
  clear w1 hwf w0
  have HR := Lib.hid (fun (W : World) (h : Below w.heap.size w W) => hr0.later h)
  clear hr0
  obtain ⟨f1, hf1⟩ : ∃ f1, (a0 + 1) % 65536 = f1 := ⟨_, rfl⟩
  have g1 : 0 ≤ f1 := by omega
  have g2 : f1 < 65536 := by omega
  have hf := u16_add1 a0
  rw [hf1] at hf
  have hi := i64_16 f1 g1 g2
  have HTWO := Lib.hid (so_two a0 f1 b1 (by omega) hf1)
  have HOK := Lib.hid (so_ok0 a0 b1 (by omega))
  have HCS := Lib.hid (SR.cnt_start f1 g1 g2)
  have HOK1 : Hid ((⟨f1, 0, f1, 65537, 0, 1⟩ : SR).Ok 2) := Lib.hid (by constructor <;> (try simp only []) <;> omega)
  have HN := Lib.hid (fun W => soNew_any a0 b1 (by omega) W)
  clear hf1
  go_enter Try.func4, Try.ntmps4
  go_wp2_with fail
  refine (soAwake_any _).mono ?_
  rintro e wa ⟨rfl, hba⟩
  go_wp2_with fail
  refine (HN.out _).mono ?_
  rintro e w3 ⟨rfl, hb3⟩
  have hb3' := hba.trans (hb3.mono hba.size)
  go_wp2_with fail
  have hr : Reads .u16 (w3.alloc (.cells #[.int .u16 a0, .int .u16 f1] 22)) (some ⟨w3.heap.size, 0, none⟩) [a0, f1] := by
    refine Or.inr ⟨_, _, rfl, fun i hi => ?_⟩
    match i, hi with
    | 0, _ => simp
    | 1, _ => simp
  refine (soRun_any (SR.new a0) 0 HOK.out [a0, f1] _ 2 _ hr (by intro n hn; simp at hn; omega) (by simp)).mono ?_
  rw [HTWO.out]
  rintro e w5 ⟨rfl, hb5⟩
  simp only [SR.val]
  have hb6 : Below w.heap.size w w5 := (hb3'.alloc hb3'.size _).trans (hb5.mono (by simp; have := hb3'.size; omega))
  have hX := at6_new 26 w5 _ (.int .u16 f1) (.int .i64 0) (.int .i64 f1) (.int .i64 65537) (.int .i64 0) (.int .i64 1) rfl
  have hb7 := hb6.alloc hb6.size (.cells #[.int .u16 f1, .int .i64 0, .int .i64 f1, .int .i64 65537, .int .i64 0, .int .i64 1] 26)
  have hle := hb6.size
  go_upto_region 4 with fail
  generalize w5.alloc (.cells #[.int .u16 f1, .int .i64 0, .int .i64 f1, .int .i64 65537, .int .i64 0, .int .i64 1] 26) = w7 at hX hb7 ⊢
  generalize w5.heap.size = g at hX hle ⊢
  clear hr hb3 hb3' hb5 hb6 hba
  obtain ⟨_, _, _, _, _, _⟩ := hX.cells
  have hlt := hX.lt
  have HH : ∀ W : World, Calls Try.prog 15 #[.agg #[.int .u16 f1, .int .i64 0, .int .i64 f1, .int .i64 65537, .int .i64 0, .int .i64 1]] W fun e w' => e = .returned (.int .i64 f1) ∧ Below W.heap.size W w' := fun W => by
    have h := soHigh_any ⟨f1, 0, f1, 65537, 0, 1⟩ 2 HOK1.out (by decide) W
    rw [show SR.high ⟨f1, 0, f1, 65537, 0, 1⟩ = f1 from by simp [SR.high]] at h
    exact h
  go_wp2_with fail
  refine (HH _).mono ?_
  rintro e w8 ⟨rfl, hb8⟩
  have hX8 := hX.later hb8
  have hb8' := hb7.trans (hb8.mono (by omega))
  clear HH hX hb7 hb8 hlt
  go_wp2_with fail
  go_loopw [7, 8] (fun z i wr => ∃ (k : Nat) (t : SR) (T : Int), k ≤ 80 ∧ k ≤ es.length ∧ i = .int .i64 k ∧ z = .int .i64 T ∧ Hid (t.Ok (k + 2)) ∧ Hid (t.Cnt f1 k T) ∧ 0 ≤ T ∧ T ≤ 1000000 ∧ At6 26 wr g (.int .u16 t.mx) (.int .i64 t.cy) (.int .i64 t.ba) (.int .i64 t.bd) (.int .i64 t.pr) (.int .i64 t.rc) ∧ Below w.heap.size w wr) (fun _ i _ => 80 - (intOf i).toNat)
  case atStart => exact ⟨0, ⟨f1, 0, f1, 65537, 0, 1⟩, f1, by omega, by omega, rfl, rfl, HOK1, HCS, by omega, by omega, hX8, hb8'⟩
  case round =>
    obtain ⟨k, t, T, hk80, hk, rfl, rfl, ht, hcn, hT0, hT1, hXk, hbk⟩ := hrel
    clear hX8 hb8'
    by_cases hlt : k < es.length
    · by_cases hlt8 : k < 80
      · obtain ⟨ab, off, rfl, hcell⟩ := (HR.out wr hbk).at hlt
        generalize es[k]?.getD 0 = x at hcell
        have hx := i64_and4095 x
        have hx0 : 0 ≤ x % 4096 := by omega
        have hx1 : x % 4096 < 4096 := by omega
        generalize x % 4096 = y at hx hx0 hx1
        go_upto_if 54 with fail
        go_cut [9] (fun z9 wx => wx = wr ∧ ∃ d : Int, z9 = .int .i64 d ∧ -99 ≤ d ∧ d ≤ 2999)
        case first =>
          by_cases hd : 3000 ≤ y - 99
          · go_wp2_with fail
            go_meet
            exact ⟨rfl, _, rfl, by omega, by omega⟩
          · go_wp2_with fail
            go_meet
            exact ⟨rfl, _, rfl, by omega, by omega⟩
        case rest =>
        obtain ⟨rfl, d, rfl, d0, d1⟩ := hcut
        clear hx hx0 hx1 hcell
        obtain ⟨n, hn⟩ : ∃ n, (T + d) % 65536 = n := ⟨_, rfl⟩
        have n0 : 0 ≤ n := by omega
        have n1 : n < 65536 := by omega
        have hn1 : IntKind.u16.wrap (T + d) = n := by rw [low_wrap, hn]
        have hst := SR.cnt_step hcn.out d d0 d1
        rw [hn] at hst
        have hU := soUpd_any t (k + 2) ht.out (by omega) n n0 n1
        have hok := SR.upd_ok ht.out n n0 n1
        obtain ⟨mx1, cy1, ba1, bd1, pr1, rc1⟩ := t
        generalize SR.upd ⟨mx1, cy1, ba1, bd1, pr1, rc1⟩ n = UP at hst hU hok
        obtain ⟨⟨mx2, cy2, ba2, bd2, pr2, rc2⟩, cb⟩ := UP
        simp only [SR.val] at hst hU hok hXk
        obtain ⟨hcb, hc2⟩ := hst
        subst hcb
        obtain ⟨e1, e2, e3, e4, e5, e6, e7, e8, e9⟩ := id hc2
        simp only at e1 e2 e3 e4 e5 e8 e9
        have E1 : SR.high ⟨mx2, cy2, ba2, bd2, pr2, rc2⟩ = (if 0 < d then T + d else T) := e2
        have E2 : SR.exp ⟨mx2, cy2, ba2, bd2, pr2, rc2⟩ = (if 0 < d then T + d else T) - f1 + 1 := by unfold SR.exp; rw [if_neg (by simp only; omega)]; simp only; omega
        have E3 := ext_back (if 0 < d then T + d else T) d T (by split <;> omega) (by split <;> omega) d0 d1 rfl
        rw [hn] at E3
        have hH := fun W => soHigh_any ⟨mx2, cy2, ba2, bd2, pr2, rc2⟩ (k + 2 + 1) hok (by omega) W
        have hE := fun W => soExp_any ⟨mx2, cy2, ba2, bd2, pr2, rc2⟩ (k + 2 + 1) hok (by omega) W
        have hX := fun W => soExt_any ⟨mx2, cy2, ba2, bd2, pr2, rc2⟩ (k + 2 + 1) hok (by omega) n W
        rw [E1] at hH
        rw [E2] at hE
        rw [E1, E3] at hX
        simp only [SR.val] at hH hE hX
        obtain rfl : rc2 = (k : Int) + 2 := by omega
        have HT : Hid (0 ≤ (if 0 < d then T + d else T) ∧ (if 0 < d then T + d else T) ≤ 65535 + 3000 * ((k + 1 : Nat) : Int)) := Lib.hid ⟨e6, e7⟩
        have HU := Lib.hid hU
        have HH := Lib.hid hH
        have HE := Lib.hid hE
        have HX := Lib.hid hX
        have HK := Lib.hid hok
        have HC := Lib.hid hc2
        clear hn e1 e2 e3 e4 e5 e6 e7 e8 e9 E1 E2 E3 hU hH hE hX hok hc2 hcn ht
        obtain ⟨_, _, _, _, _, _⟩ := hXk.cells
        have hgl := hXk.lt
        go_wp2_with fail
        refine (HU.out _).mono ?_
        rintro e w9 ⟨rfl, hk9⟩
        have hb9 := (hbk.trans (hk9.mono (by omega))).alloc (by have := (hXk.later hk9).lt; omega) (.cells #[.int .u16 mx2, .int .i64 cy2, .int .i64 ba2, .int .i64 bd2, .int .i64 pr2, .int .i64 ((k : Int) + 2)] 26)
        have hX9 := (hXk.later hk9).alloc (.cells #[.int .u16 mx2, .int .i64 cy2, .int .i64 ba2, .int .i64 bd2, .int .i64 pr2, .int .i64 ((k : Int) + 2)] 26)
        have hN9 := at6_new 26 w9 _ (.int .u16 mx2) (.int .i64 cy2) (.int .i64 ba2) (.int .i64 bd2) (.int .i64 pr2) (.int .i64 ((k : Int) + 2)) rfl
        go_upto_region 14 with fail
        generalize w9.alloc (.cells #[.int .u16 mx2, .int .i64 cy2, .int .i64 ba2, .int .i64 bd2, .int .i64 pr2, .int .i64 ((k : Int) + 2)] 26) = w10 at hX9 hN9 hb9 ⊢
        generalize w9.heap.size = gn at hN9 ⊢
        clear hk9 hXk hbk hgl
        obtain ⟨_, _, _, _, _, _⟩ := hN9.cells
        obtain ⟨_, _, _, _, _, _⟩ := hX9.frees
        obtain ⟨_, _, _, _, _, _⟩ := hX9.cells
        go_upto_region 15 with fail
        have hX11 := at6_store hX9 (.int .u16 mx2) (.int .i64 cy2) (.int .i64 ba2) (.int .i64 bd2) (.int .i64 pr2) (.int .i64 ((k : Int) + 2))
        have ho11 := store6_only w10 g (.int .u16 mx2) (.int .i64 cy2) (.int .i64 ba2) (.int .i64 bd2) (.int .i64 pr2) (.int .i64 ((k : Int) + 2))
        have hb11 := hb9.trans (ho11.below (by omega))
        generalize ((((((w10.setCell ⟨g, 0, none⟩ (.int .u16 mx2)).setCell ⟨g, 1, none⟩ (.int .i64 cy2)).setCell ⟨g, 2, none⟩ (.int .i64 ba2)).setCell ⟨g, 3, none⟩ (.int .i64 bd2)).setCell ⟨g, 4, none⟩ (.int .i64 pr2)).setCell ⟨g, 5, none⟩ (.int .i64 ((k : Int) + 2))) = w11 at hX11 hb11 ⊢
        clear ho11 hX9 hb9 hN9
        obtain ⟨_, _, _, _, _, _⟩ := hX11.cells
        have hgl := hX11.lt
        by_cases hd : 0 < d
        · rw [if_pos hd] at HT HH HE HC
          have hm1 : max T (T + d) = T + d := by omega
          have hm2 : max 0 (-d) = 0 := by omega
          have hT2 : 0 ≤ (T + d) ∧ (T + d) ≤ 1000000 := by have h := HT.out; constructor <;> omega
          go_wp2_with fail
          refine (HX.out _).mono ?_
          rintro e w12 ⟨rfl, hk12⟩
          have hX12 := hX11.later hk12
          have hb12 := hb11.trans (hk12.mono (by omega))
          clear hX11 hb11 hk12 hgl
          obtain ⟨_, _, _, _, _, _⟩ := hX12.cells
          have hgl := hX12.lt
          go_wp2_with fail
          refine (HH.out _).mono ?_
          rintro e w13 ⟨rfl, hk13⟩
          have hX13 := hX12.later hk13
          have hb13 := hb12.trans (hk13.mono (by omega))
          clear hX12 hb12 hk13 hgl
          obtain ⟨_, _, _, _, _, _⟩ := hX13.cells
          have hgl := hX13.lt
          go_wp2_with fail
          refine (HE.out _).mono ?_
          rintro e w14 ⟨rfl, hk14⟩
          have hX14 := hX13.later hk14
          have hb14 := hb13.trans (hk14.mono (by omega))
          clear hX13 hb13 hk14 hgl
          go_wp2_with fail
          go_roundw
          case rel => exact ⟨k + 1, ⟨mx2, cy2, ba2, bd2, pr2, (k : Int) + 2⟩, T + d, by omega, by omega, by go_num, rfl, HK, HC, by omega, by omega, hX14, hb14⟩
          case measure => simp [intOf]; omega
        · rw [if_neg hd] at HT HH HE HC
          have hm1 : max T (T + d) = T := by omega
          have hm2 : max 0 (-d) = -d := by omega
          have hT2 : 0 ≤ T ∧ T ≤ 1000000 := by have h := HT.out; constructor <;> omega
          go_wp2_with fail
          refine (HX.out _).mono ?_
          rintro e w12 ⟨rfl, hk12⟩
          have hX12 := hX11.later hk12
          have hb12 := hb11.trans (hk12.mono (by omega))
          clear hX11 hb11 hk12 hgl
          obtain ⟨_, _, _, _, _, _⟩ := hX12.cells
          have hgl := hX12.lt
          go_wp2_with fail
          refine (HH.out _).mono ?_
          rintro e w13 ⟨rfl, hk13⟩
          have hX13 := hX12.later hk13
          have hb13 := hb12.trans (hk13.mono (by omega))
          clear hX12 hb12 hk13 hgl
          obtain ⟨_, _, _, _, _, _⟩ := hX13.cells
          have hgl := hX13.lt
          go_wp2_with fail
          refine (HE.out _).mono ?_
          rintro e w14 ⟨rfl, hk14⟩
          have hX14 := hX13.later hk14
          have hb14 := hb13.trans (hk14.mono (by omega))
          clear hX13 hb13 hk14 hgl
          go_wp2_with fail
          go_roundw
          case rel => exact ⟨k + 1, ⟨mx2, cy2, ba2, bd2, pr2, (k : Int) + 2⟩, T, by omega, by omega, by go_num, rfl, HK, HC, by omega, by omega, hX14, hb14⟩
          case measure => simp [intOf]; omega
      · have : k = 80 := by omega
        subst this
        go_wp2_with fail
        go_ret
        exact ⟨rfl, hbk⟩
    · go_wp2_with fail
      go_ret
      exact ⟨rfl, hbk⟩
end sourceCounts
end Go.Proofs.Ytncpepbpphpkoaa
