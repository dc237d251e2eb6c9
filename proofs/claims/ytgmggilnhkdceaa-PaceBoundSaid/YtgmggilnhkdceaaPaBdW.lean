/- PaceBound: the walk. -/
import Derived.Test.YtgmggilnhkdceaaPaBdM
import Derived.Test.YtgmggilnhkdceaaPaPlW
namespace Go.Proofs.Ytgmggilnhkdceaa
open Go.RowKit
set_option linter.unusedVariables false
theorem own_ne {W : World} {b size n g : Nat} {v : Value} {xs : List Value} (h : OwnAt W b size v n xs) (hg : g < b) : v.ownBlock ≠ some g := fun e => by
  have := (h.lt g e).1
  omega
theorem sep_symm {a b : Option Nat} (h : a = none ∨ a ≠ b) : b = none ∨ a ≠ b := by
  rcases h with rfl | h
  · cases b with
    | none => exact .inl rfl
    | some k => exact .inr (by simp)
  · exact .inr h
theorem sep_grow {a b a' : Option Nat} {N : Nat} (h : a = none ∨ a ≠ b) (hb : ∀ k, b = some k → k < N) (hf : a' = a ∨ ∃ k, a' = some k ∧ N ≤ k) : a' = none ∨ a' ≠ b := by
  rcases hf with rfl | ⟨k, rfl, hk⟩
  · exact h
  · refine .inr (fun e => ?_)
    have := hb k e.symm
    omega
theorem At4.grownT {T : TypeId} {W W' : World} {g : Nat} {c0 c1 c2 c3 : Value} {row : Option Nat} (h : At4 T W g c0 c1 c2 c3) (hg : W.grownBy W' row) (hr : row ≠ some g) : At4 T W' g c0 c1 c2 c3 := by
  unfold At4 at h ⊢
  rw [hg.block g (lt_of_block h) (fun e => hr e.symm)]
  exact h
theorem take_vP (p : PP) (now n : Int) : ∃ p2 : PP, p.take now n = p2 := ⟨_, rfl⟩
namespace paceBound
set_option maxRecDepth 100000 in
set_option maxHeartbeats 6400000 in
theorem walk (a0 a1 : Int) (p2' : Option Addr) (len2 cap2 : Nat) (w0 : (Lit.int .i64 a0).wf = true) (w1 : (Lit.int .i64 a1).wf = true) (w : World) (wr2 : Recs paActP w p2' len2) (hl : len2 ≤ 9223372036854775807) :
    Calls Try.prog 7 #[.int .i64 a0, .int .i64 a1, .slice p2' len2 cap2] w fun e w' => e = .returned (.bool true) ∧ Below w.heap.size w w' := by
  clear w0 w1
  have HACT := Lib.hid (fun (k : Nat) (hk : k < len2) (W : World) (hb : Below w.heap.size w W) => paAct_at wr2 hb hk)
  have HA := Lib.hid (fun (W : World) => paAwake_any W)
  clear wr2
  have hmA : ∀ z : Int, bits .and .i64 z 4095 = z % 4096 := fun z => i64_mask z 12 (by omega)
  have hmB : ∀ z : Int, bits .and .i64 z 65535 = z % 65536 := fun z => i64_mask z 16 (by omega)
  have hmC : ∀ z : Int, bits .and .i64 z 31 = z % 32 := fun z => i64_mask z 5 (by omega)
  obtain ⟨r, hr⟩ : ∃ z, 1 + a0 % 4096 = z := ⟨_, rfl⟩
  obtain ⟨b, hbb⟩ : ∃ z, 1 + a1 % 65536 = z := ⟨_, rfl⟩
  have r0 : 1 ≤ r := by omega
  have r1 : r ≤ 4096 := by omega
  have b0 : 1 ≤ b := by omega
  have b1 : b ≤ 65536 := by omega
  have hwr : IntKind.i64.wrap r = r := IntWalk.i64_in _ ⟨by omega, by omega⟩
  have hwb : IntKind.i64.wrap b = b := IntWalk.i64_in _ ⟨by omega, by omega⟩
  have HN : Hid (∀ W : World, Calls Try.prog 30 #[.int .i64 r, .int .i64 b, .int .i64 0] W fun e w' => e = .returned (.agg #[.int .i64 r, .int .i64 b, .int .i64 b, .int .i64 0]) ∧ Below W.heap.size W w') := Lib.hid (fun W => by
    have e : PP.fit ⟨r, b, 1048576, 0⟩ = ⟨r, b, b, 0⟩ := by
      simp only [PP.fit, PP.mk.injEq]
      refine ⟨?_, ?_, ?_, ?_⟩ <;> omega
    have := paNew_any r b 0 W
    rw [e] at this
    exact this)
  have HI0 := Lib.hid (pbI_new r b r0 r1 b0 b1)
  go_enter Try.func7, Try.ntmps7
  go_wp2_with fail
  refine (HA.out _).mono ?_
  rintro e wa ⟨rfl, hba⟩
  go_wp2_with fail
  clear hr hbb
  refine (HN.out _).mono ?_
  rintro e wb ⟨rfl, hkb⟩
  have hbb := hba.trans (hkb.mono hba.size)
  have hX0 := at4_new 49 wb wb.heap.size (.int .i64 r) (.int .i64 b) (.int .i64 b) (.int .i64 0) rfl
  have hb := hbb.alloc hbb.size (.cells #[.int .i64 r, .int .i64 b, .int .i64 b, .int .i64 0] 49)
  have hleB := hbb.size
  go_upto_region 5 with fail
  generalize wb.alloc (.cells #[.int .i64 r, .int .i64 b, .int .i64 b, .int .i64 0] 49) = wc at hX0 hb ⊢
  generalize wb.heap.size = g0 at hX0 hleB ⊢
  clear hba hkb hbb HA HN
  go_wp2_with fail
  obtain ⟨i0, hi, hz0, hz1, hz2⟩ := info_parts info_i64p
  go_loopw [8, 9, 10, 11] (fun z va vt i wr => ∃ (k : Nat) (p : PP) (now : Int) (h : List (Int × Int)), k ≤ len2 ∧ k ≤ 60 ∧ i = .int .i64 k ∧ z = .int .i64 now ∧ 0 ≤ now ∧ now ≤ 31 * k ∧ Hid (h.length = k) ∧ Hid (PbI r b now p h) ∧ At4 49 wr g0 (.int .i64 p.r) (.int .i64 p.b) (.int .i64 p.k) (.int .i64 p.l) ∧ OwnAt wr (g0 + 1) 1 va k (hisA h) ∧ OwnAt wr (g0 + 1) 1 vt k (hisN h) ∧ Hid (va.ownBlock = none ∨ va.ownBlock ≠ vt.ownBlock) ∧ Below w.heap.size w wr) (fun _ _ _ i _ => 60 - (intOf i).toNat)
  case atStart => exact ⟨0, ⟨r, b, b, 0⟩, 0, [], Nat.zero_le _, by omega, rfl, rfl, by omega, by omega, Lib.hid rfl, HI0, hX0, ownAt_nil _ _ _, ownAt_nil _ _ _, Lib.hid (.inl rfl), hb⟩
  case round =>
    obtain ⟨k, p, now, h, hk, hk60, rfl, rfl, hn0, hn1, HL, HI, hX7, hA7, hT7, HD, hb7⟩ := hrel
    clear hX0 hb HI0
    by_cases hlt : k < len2 ∧ k < 60
    · obtain ⟨hlt, hlt60⟩ := hlt
      obtain ⟨ab, off, rfl, habl, kd, z, lt, ha0, ha1, ha2⟩ := HACT.out k hlt wr hb7
      have hX8 := hX7.alloc (.cells #[.int .i64 kd, .int .i64 z, .int .i64 lt] 51)
      have hA8 := hA7.alloc (.cells #[.int .i64 kd, .int .i64 z, .int .i64 lt] 51)
      have hT8 := hT7.alloc (.cells #[.int .i64 kd, .int .i64 z, .int .i64 lt] 51)
      have hb8 := hb7.alloc hb7.size (.cells #[.int .i64 kd, .int .i64 z, .int .i64 lt] 51)
      have hY8 := at3_new 51 wr wr.heap.size (.int .i64 kd) (.int .i64 z) (.int .i64 lt) rfl
      go_upto_region 11 with fail
      generalize wr.alloc (.cells #[.int .i64 kd, .int .i64 z, .int .i64 lt] 51) = w8 at hX8 hA8 hT8 hb8 hY8 ⊢
      generalize wr.heap.size = g1 at hY8 ⊢
      clear hX7 hA7 hT7 hb7 ha0 ha1 ha2
      obtain ⟨_, _, _⟩ := hY8.cells
      obtain ⟨_, _, _, _⟩ := hX8.cells
      obtain ⟨nw, hnw⟩ : ∃ y, now + lt % 32 = y := ⟨_, rfl⟩
      have hz0' : 0 ≤ nw := by omega
      have hz1' : nw ≤ 31 * (k + 1) := by omega
      have hzn : now ≤ nw := by omega
      have hwn : IntKind.i64.wrap nw = nw := IntWalk.i64_in _ ⟨by omega, by omega⟩
      obtain ⟨n, hn⟩ : ∃ y, z % 65536 = y := ⟨_, rfl⟩
      have hnn0 : 0 ≤ n := by omega
      have hnn1 : n ≤ 65535 := by omega
      have HT := Lib.hid (fun W => paTake_any p nw n W)
      have HS := Lib.hid (HI.out.step nw n hzn (by omega) hnn0 hnn1 hz0')
      obtain ⟨ok, hok⟩ : ∃ y, decide (p.can nw n) = y := ⟨_, rfl⟩
      have hif : (if p.can nw n then n else 0) = (if ok = true then n else 0) := by rw [← hok]; by_cases hc : p.can nw n <;> simp [hc]
      rw [hif] at HS
      rw [hok] at HT
      obtain ⟨p2, hp2⟩ := take_vP p nw n
      rw [hp2] at HT HS
      clear hok hif hp2
      simp only [PP.val] at HT
      go_upto_region 13 with fail
      clear hnw hn
      go_wp2_with fail
      refine (HT.out _).mono ?_
      rintro e w9 ⟨rfl, hk9⟩
      have hX9 := (hX8.later hk9).alloc (.cells #[.int .i64 p2.r, .int .i64 p2.b, .int .i64 p2.k, .int .i64 p2.l] 49)
      have hA9 := (hA8.later hk9).alloc (.cells #[.int .i64 p2.r, .int .i64 p2.b, .int .i64 p2.k, .int .i64 p2.l] 49)
      have hT9 := (hT8.later hk9).alloc (.cells #[.int .i64 p2.r, .int .i64 p2.b, .int .i64 p2.k, .int .i64 p2.l] 49)
      have hb9' := hb8.trans (hk9.mono hb8.size)
      have hb9 := hb9'.alloc hb9'.size (.cells #[.int .i64 p2.r, .int .i64 p2.b, .int .i64 p2.k, .int .i64 p2.l] 49)
      have hQ9 := at4_new 49 w9 w9.heap.size (.int .i64 p2.r) (.int .i64 p2.b) (.int .i64 p2.k) (.int .i64 p2.l) rfl
      have hlt9 := (hX8.later hk9).lt
      go_upto_region 14 with fail
      generalize w9.alloc (.cells #[.int .i64 p2.r, .int .i64 p2.b, .int .i64 p2.k, .int .i64 p2.l] 49) = w10 at hX9 hA9 hT9 hb9 hQ9 ⊢
      generalize w9.heap.size = g2 at hQ9 hlt9 ⊢
      clear hX8 hA8 hT8 hb8 hY8 hk9 hb9'
      obtain ⟨_, _, _, _⟩ := hQ9.cells
      obtain ⟨_, _, _, _⟩ := hX9.frees
      obtain ⟨_, _, _, _⟩ := hX9.cells
      go_upto_region 15 with fail
      have hX11 := at4_put hX9 (.int .i64 p2.r) (.int .i64 p2.b) (.int .i64 p2.k) (.int .i64 p2.l)
      have ho11 := put4_only w10 g0 (.int .i64 p2.r) (.int .i64 p2.b) (.int .i64 p2.k) (.int .i64 p2.l)
      have hA11 := hA9.only ho11 (own_ne hA9 (Nat.lt_succ_self _))
      have hT11 := hT9.only ho11 (own_ne hT9 (Nat.lt_succ_self _))
      have hb11 := hb9.trans (ho11.below hleB)
      generalize ((((w10.setCell ⟨g0, 0, none⟩ (.int .i64 p2.r)).setCell ⟨g0, 1, none⟩ (.int .i64 p2.b)).setCell ⟨g0, 2, none⟩ (.int .i64 p2.k)).setCell ⟨g0, 3, none⟩ (.int .i64 p2.l)) = w11 at hX11 hA11 hT11 hb11 ⊢
      clear hX9 hA9 hT9 hb9 hQ9 ho11 hlt9
      go_upto_if 60 with fail
      go_cut [13] (fun y wx => y = .int .i64 (if ok = true then n else 0) ∧ wx = w11)
      case first =>
        cases ok
        · go_wp2_with fail
          go_meet
          exact ⟨rfl, rfl⟩
        · go_wp2_with fail
          go_meet
          exact ⟨rfl, rfl⟩
      case rest =>
      obtain ⟨rfl, rfl⟩ := hcut
      generalize (if ok = true then n else 0) = m at HS ⊢
      clear HT hnn0 hnn1
      have HD2 := HD
      go_wp2_with (at_builtin; refine append_at1 (W := w) rfl (.tmp 61) (.tmp 63) 30 rfl 3 i0 (.int .i64 0) 8 Try.underlying30 hi hz0 hz1 hz2 rfl (g0 + 1) _ k (hisA h) rfl hA11 (.int .i64 nw) rfl rfl ?c1 ?c2 hX11.lt w.heap.size (by omega) hb11 ?_)
      case c1 => unfold maxLen; omega
      case c2 => omega
      intro va2 w12 hA12 hb12 hg12 hf12
      have hsepT : u9.ownBlock = none ∨ u10.ownBlock ≠ u9.ownBlock := by
        rcases HD.out with h | h
        · exact .inl h
        · exact .inr (fun e => h e.symm)
      have hX12 := (hX11.alloc (.cells #[.int .i64 nw] 3)).grownT hg12 (own_ne hA11 (Nat.lt_succ_self _))
      have hT12 := (hT11.alloc (.cells #[.int .i64 nw] 3)).grown hg12 hsepT
      have hD12 := sep_grow HD.out (fun k hk => (hT11.lt k hk).2) hf12
      clear hX11 hA11 hT11 hb11 hg12 hf12 hsepT
      go_wp2_with (at_builtin; refine append_at1 (W := w) rfl (.tmp 65) (.tmp 67) 30 rfl 3 i0 (.int .i64 0) 8 Try.underlying30 hi hz0 hz1 hz2 rfl (g0 + 1) _ k (hisN h) rfl hT12 (.int .i64 m) rfl rfl ?c3 ?c4 hX12.lt w.heap.size (by omega) hb12 ?_)
      case c3 => unfold maxLen; omega
      case c4 => omega
      intro vt2 w13 hT13 hb13 hg13 hf13
      have hX13 := (hX12.alloc (.cells #[.int .i64 m] 3)).grownT hg13 (own_ne hT12 (Nat.lt_succ_self _))
      have hA13 := (hA12.alloc (.cells #[.int .i64 m] 3)).grown hg13 (sep_symm hD12)
      have hD13 : Hid (va2.ownBlock = none ∨ va2.ownBlock ≠ vt2.ownBlock) := Lib.hid (by
        rcases hD12 with h | h
        · exact .inl h
        · rcases sep_grow (a := u10.ownBlock) (b := va2.ownBlock) (.inr (fun e => h e.symm)) (fun k hk => (hA12.lt k hk).2) hf13 with e | e
          · exact .inr (fun e2 => h (by rw [e2, e]; rcases hf13 with e3 | ⟨k, e3, _⟩; rw [← e3, e]; rw [e3] at e; cases e))
          · exact .inr (fun e2 => e e2.symm))
      rw [← hisA_cons nw m h] at hA13
      rw [← hisN_cons nw m h] at hT13
      have HL2 : Hid (((nw, m) :: h).length = k + 1) := Lib.hid (by rw [List.length_cons, HL.out])
      clear hX12 hT12 hA12 hb12 hg13 hf13 hD12 HD
      generalize (nw, m) :: h = h2 at HS hA13 hT13 HL2
      have hAt := Lib.hid (fun i j (e : i + j + 1 = h2.length) => HS.out.at i j e)
      have hBd := Lib.hid (fun j hj => sumH_bd HS.out j hj)
      have hMl := Lib.hid (fun d d0 d1 => HS.out.mul_bd r1 d d0 d1)
      have hZ := Lib.hid (sumH_zero h2)
      obtain ⟨ga, oa, ca, rfl, _, _, _, _, hcA⟩ := hA13.cells (by omega)
      obtain ⟨gt, ot, ct, rfl, _, _, _, _, hcT⟩ := hT13.cells (by omega)
      have HCA := Lib.hid hcA
      have HCT := Lib.hid hcT
      clear hcA hcT
      go_wp2_with fail
      go_loop [16, 17] (fun s i => ∃ j i0 : Nat, i0 + j = k + 1 ∧ i = .int .i64 ((i0 : Int) - 1) ∧ s = .int .i64 (sumH h2 j)) (fun _ i => (intOf i + 1).toNat)
      case atStart => exact ⟨0, k + 1, rfl, by congr 1; omega, by rw [hZ.out]⟩
      case round =>
        obtain ⟨j, i0, hij, rfl, rfl⟩ := hrel
        cases i0 with
        | zero =>
          clear hAt hBd hMl
          generalize sumH h2 j = S
          go_wp2_with fail
          go_roundw
          case rel => exact ⟨k + 1, p2, nw, h2, by omega, by omega, by go_num, rfl, hz0', by omega, HL2, HS, hX13, hA13, hT13, hD13, hb13⟩
          case measure => simp [intOf]; omega
        | succ i1 =>
          obtain ⟨t, mm, ht, hm, t0, t1, m0, m1, hs1, hs2⟩ := hAt.out i1 j (by rw [HL2.out]; omega)
          have hct := (HCA.out i1 _ ht).1
          have hcm := (HCT.out i1 _ hm).1
          obtain ⟨S0, S1⟩ := hBd.out j (by omega)
          obtain ⟨M0, M1⟩ := hMl.out (nw - t) (by omega) (by omega)
          have hidx : ((i1 + 1 : Nat) : Int) - 1 = (i1 : Int) := by omega
          rw [hidx]
          clear hAt hBd hMl ht hm
          generalize hSg : sumH h2 j = S at hs1 hs2 S0 S1 ⊢
          have HS2 : Hid (sumH h2 (j + 1) = S + mm) := Lib.hid hs1
          rw [hs1] at hs2
          clear hs1 hSg
          obtain ⟨M, hM⟩ : ∃ y, r * (nw - t) = y := ⟨_, rfl⟩
          rw [hM] at M0 M1 hs2
          have hv1 : IntKind.i64.wrap (S + mm) = S + mm := IntWalk.i64_in _ ⟨by omega, by omega⟩
          have hv2 : IntKind.i64.wrap (nw - t) = nw - t := IntWalk.i64_in _ ⟨by omega, by omega⟩
          have hv3 : IntKind.i64.wrap (r * (nw - t)) = M := by rw [hM]; exact IntWalk.i64_in _ ⟨by omega, by omega⟩
          have hv4 : IntKind.i64.wrap (b + M) = b + M := IntWalk.i64_in _ ⟨by omega, by omega⟩
          clear hM
          go_wp2_with fail
          go_round
          case rel => exact ⟨j + 1, i1, by omega, by go_num, by rw [HS2.out]⟩
          case measure => simp [intOf]
    · by_cases hk1 : k < len2
      · have hk2 : k = 60 := by omega
        subst hk2
        go_wp2_with fail
        go_ret
        exact ⟨rfl, hb7⟩
      · have hk2 : k = len2 := by omega
        subst hk2
        go_wp2_with fail
        go_ret
        exact ⟨rfl, hb7⟩
end paceBound
end Go.Proofs.Ytgmggilnhkdceaa
