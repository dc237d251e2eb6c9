/- CordelleNumbers: the walk. -/
import Derived.Test.YtpmcbnnbhjolmaaPenL
import Derived.Test.YtpmcbnnbhjolmaaSerE
namespace Go.Proofs.Ytpmcbnnbhjolmaa
open Go.RowKit
set_option linter.unusedVariables false
theorem info64' : (Try.prog.info? 3).map (fun i => (i.zero, i.size, i.bytes)) = some (some (.int .i64 0), 1, 8) := by kernel_rfl
/-- The whole numbers, one behind the other. -/
def nAt (n : Int) (zs : List Int) : Nat → Int
  | 0 => n
  | k + 1 => nAt n zs k + (zs[k]?.getD 0 % 32768 - 16383)
def nums (n : Int) (zs : List Int) (k : Nat) : List Int := (List.range k).map fun j => nAt n zs (j + 1)
theorem nums_succ (n : Int) (zs : List Int) (k : Nat) : nums n zs (k + 1) = nums n zs k ++ [nAt n zs (k + 1)] := by simp [nums, List.range_succ]
theorem nums_len (n : Int) (zs : List Int) (k : Nat) : (nums n zs k).length = k := by simp [nums]
theorem nums_at (n : Int) (zs : List Int) (k j : Nat) (h : j < k) : (nums n zs k)[j]?.getD 0 = nAt n zs (j + 1) := by simp [nums, h]
theorem nAt_bd (n : Int) (zs : List Int) (h0 : 0 ≤ n) (h1 : n ≤ 1099511627776) : ∀ k : Nat, -16383 * (k : Int) ≤ nAt n zs k ∧ nAt n zs k ≤ 1099511627776 + 16384 * (k : Int)
  | 0 => by simp [nAt]; omega
  | k + 1 => by
    have := nAt_bd n zs h0 h1 k
    simp only [nAt]
    omega
theorem own_others {w w' : World} {B b : Nat} {vo : Value} {L : List UInt8} {v : Value} {n : Nat} {xs : List Value} (h : w.ownsRow B 3 1 v n xs) (hO : OutAt w B b vo L) (ho : Others b w w') (hs : w.heap.size ≤ w'.heap.size) : w'.ownsRow B 3 1 v n xs := by
  refine ⟨h.1, ?_⟩
  rcases h.2 with hn | ⟨g, cap, cur, rfl, hb, hg, rest⟩
  · exact .inl hn
  · refine .inr ⟨g, cap, cur, rfl, hb, ?_, rest⟩
    refine ho g _ hg ?_ (by intro cur' p e; cases e)
    rintro rfl
    have := hO.1
    rw [hg] at this
    cases this
theorem out_grown {w w' : World} {B b : Nat} {vo : Value} {L : List UInt8} {v : Value} {n : Nat} {xs : List Value} (h : w.ownsRow B 3 1 v n xs) (hO : OutAt w B b vo L) (hg : w.grownBy w' v.ownBlock) : OutAt w' B b vo L := by
  have hne : ∀ k o, w.heap[k]? = some o → (∀ cur p, o ≠ .cells cur 3 p) → some k ≠ v.ownBlock := by
    intro k o hk hn e
    rcases h.2 with ⟨rfl, _⟩ | ⟨g, cap, cur, rfl, _, hgg, _⟩
    · cases e
    · simp only [Value.ownBlock, Option.some.injEq] at e
      subst e
      rw [hgg] at hk
      exact hn _ _ (Option.some.inj hk).symm
  refine ⟨?_, hO.2.1, ?_⟩
  · rw [hg.block b hO.lt (hne b _ hO.1 (by intro cur p e; cases e))]; exact hO.1
  · refine hO.2.2.kept hg ?_
    rcases hO.2.2.2 with ⟨rfl, _⟩ | ⟨g, cap, cur, rfl, _, hgg, _⟩
    · exact .inl rfl
    · exact .inr (hne g _ hgg (by intro cur p e; cases e))
theorem ext_num (last w : Int) (h0 : -4611686018427387904 ≤ last) (h1 : last ≤ 4611686018427387904) (h2 : -16383 ≤ w - last) (h3 : w - last ≤ 16384) : near62 last + d16 (near62 last % 65536) (w % 65536) = w := by
  unfold near62 d16; omega
namespace cordelleNumbers
set_option maxRecDepth 100000 in
set_option maxHeartbeats 3200000 in
theorem walk (a0 : Int) (p1 : Option Addr) (len1 cap1 : Nat) (z1 : List Int) (w0 : (Lit.int .i64 a0).wf = true) (w : World) (w1 : IsRow .i64 w p1 len1 cap1 z1) :
    Calls Try.prog 12 #[.int .i64 a0, .slice p1 len1 cap1] w fun e w' => e = .returned (.bool true) ∧ Below w.heap.size w w' := by
  clear w0
  obtain ⟨i0, hi, hz0, hz1, hz2⟩ := info_parts info64'
  obtain ⟨zs, rfl, _, hl, hr, _⟩ := w1.reads
  clear w1
  obtain ⟨n0, hn0⟩ : ∃ n0, max 0 (min a0 1099511627776) = n0 := ⟨_, rfl⟩
  have hn1 : 0 ≤ n0 := by omega
  have hn2 : n0 ≤ 1099511627776 := by omega
  have hE : near62 65535 + d16 (near62 65535 % 65536) 0 = 65536 := by decide
  go_enter Try.func12, Try.ntmps12
  go_wp2_with ((go_at_call 50; refine (extend_any _ _ _).mono ?_; rintro e w' ⟨rfl, rfl⟩))
  have hO := out_new w w.heap.size (Nat.le_refl _)
  have hb1 : Below w.heap.size w (w.alloc (.cells #[.slice none 0 0] 26)) := (Below.refl _ _).alloc (Nat.le_refl _) _
  have hBB : w.heap.size ≤ w.heap.size := Nat.le_refl _
  have Hn0 := Lib.hid hn0
  clear hn0 hE
  generalize w.alloc (.cells #[.slice none 0 0] 26) = w2 at hO hb1 ⊢
  obtain ⟨b, hb⟩ : ∃ b, w.heap.size = b := ⟨_, rfl⟩
  obtain ⟨B, hB⟩ : ∃ B, w.heap.size = B := ⟨_, rfl⟩
  have hO : OutAt w2 B b (.slice none 0 0) [] := by rw [← hB, ← hb]; exact hO
  have hb1 : Below B w w2 := by rw [← hB]; exact hb1
  rw [hb]
  have HB := Lib.hid hB
  clear hb hB hBB
  go_loopw [5, 8, 9] (fun x v i wr => ∃ (k : Nat) (vo : Value), k ≤ zs.length ∧ k ≤ 60 ∧ i = .int .i64 k ∧ x = .int .i64 (nAt n0 zs k) ∧ OutAt wr B b vo (bes (nums n0 zs k) 2) ∧ wr.ownsRow B 3 1 v k ((nums n0 zs k).map (Value.int .i64)) ∧ Below B w wr) (fun _ _ i _ => 60 - (intOf i).toNat)
  case atStart => exact ⟨0, _, Nat.zero_le _, by decide, rfl, rfl, hO, World.ownsRow_nil _ _ _ _, hb1⟩
  case round =>
    obtain ⟨k, vo, hk, hk60, rfl, rfl, hO1, hown, hb2⟩ := hrel
    clear hO hb1
    have hend : k = zs.length ∨ k = 60 → True := fun _ => trivial
    by_cases hgo : k < zs.length ∧ k < 60
    · obtain ⟨hlt, hlt2⟩ := hgo
      have hr' : Reads .i64 wr p1 zs := hr.later (by rw [HB.out]; exact hb2)
      obtain ⟨bd1, bd2⟩ := nAt_bd n0 zs hn1 hn2 k
      obtain ⟨ab, off, rfl, hcell⟩ := hr'.at hlt
      have hns := Lib.hid (nums_succ n0 zs k)
      have hbs : Hid (bes (nums n0 zs (k + 1)) 2 = bes (nums n0 zs k) 2 ++ bes [nAt n0 zs (k + 1)] 2) := by show _ = _; rw [nums_succ]; simp [bes]
      have hst : Hid (nAt n0 zs (k + 1) = nAt n0 zs k + (zs[k]?.getD 0 % 32768 - 16383)) := rfl
      have hbl := bes_len (nums n0 zs k) 2
      rw [nums_len] at hbl
      have hblen : (bes (nums n0 zs k) 2).length ≤ 120 := by omega
      clear hbl
      generalize zs[k]?.getD 0 = z at hcell hst
      have hz := i64_mask z 15 (by decide)
      simp only [show (2 ^ 15 - 1 : Nat) = 32767 from rfl, show (2 ^ 15 : Nat) = 32768 from rfl] at hz
      have hz' : bits .and .i64 z 32767 = z % 32768 := hz
      clear hz
      have hz1' : 0 ≤ z % 32768 := by omega
      have hz2' : z % 32768 ≤ 32767 := by omega
      generalize z % 32768 = y at hz' hz1' hz2' hst
      generalize nAt n0 zs k = x at hst bd1 bd2
      have hst' : x + (y - 16383) = nAt n0 zs (k + 1) := hst.out.symm
      have xb1 : -1100000 ≤ x := by omega
      have xb2 : x ≤ 1099512727776 := by omega
      clear bd1 bd2 hst
      generalize nAt n0 zs (k + 1) = x' at hst' hbs hns
      generalize bes (nums n0 zs k) 2 = L at hO1 hblen hbs
      clear hr
      go_wp2_with fail
      refine (u16_lit _ _ _ _ [x'] _ 1 _ _ rfl hO1 (by rfl) rfl (by simp; omega) (by simp)).mono ?_
      rintro e w3 ⟨rfl, vo3, hO3, h3, ho3⟩
      have hown3 := own_others hown hO1 ho3 h3.size
      have hb4 := hb2.trans h3
      have hOa := hO3.alloc (.cells #[.int .i64 x'] 3)
      clear hO1 hown hb2 h3 ho3 hcell hr'
      go_wp2_with (at_builtin; refine wpList_append_own _ rfl (.tmp 40) (.tmp 42) 64 rfl B 3 i0 (.int .i64 0) 1 8 Try.underlying64 hi hz0 hz1 hz2 rfl (by decide) _ k _ rfl (hown3.alloc _) ⟨w3.heap.size, 0, none⟩ 1 1 [.int .i64 x'] rfl rfl ?d1 ?d2 ?d3 ?d4 ?d5 ?_)
      case d1 => intro j u' hj; match j, hj with | 0, hj => simp at hj; subst hj; simp [Addr.add]
      case d2 => intro u' hu; simp at hu; subst hu; rfl
      case d3 => unfold maxLen; omega
      case d4 => omega
      case d5 => have := hb4.size; have := HB.out; simp; omega
      intro v' w4 hown4 hgrow _
      have hO4 := out_grown (hown3.alloc _) hOa hgrow
      have hb5 : Below B w w4 := (hb4.alloc (by have := hb4.size; have := HB.out; omega) _).grown hgrow (by have := hb4.size; have := HB.out; simp; omega) (fun k' hk' => (hown3.lt k' hk').1)
      have hown5 : w4.ownsRow B 3 1 v' (k + 1) ((nums n0 zs (k + 1)).map (Value.int .i64)) := by rw [hns.out, List.map_append]; exact hown4
      have hO5 : OutAt w4 B b vo3 (bes (nums n0 zs (k + 1)) 2) := by rw [hbs.out]; exact hO4
      clear hO3 hown3 hb4 hOa hown4 hgrow hO4
      have hx'' : nAt n0 zs (k + 1) = x' := by
        have := congrArg (fun l => l[k]?.getD 0) hns.out
        simp [nums] at this
        exact this
      have HX := Lib.hid hx''
      clear hx'' hst'
      go_wp2
      go_roundw
      case rel => exact ⟨k + 1, vo3, by omega, by omega, by go_num, by rw [HX.out], hO5, hown5, hb5⟩
      case measure => simp [intOf]; omega
    · have hcase : (k < zs.length ∧ 60 ≤ k) ∨ zs.length ≤ k := by omega
      clear hgo hend
      have hsteps : ∀ j, j < k → -16383 ≤ nAt n0 zs (j + 1) - nAt n0 zs j ∧ nAt n0 zs (j + 1) - nAt n0 zs j ≤ 16384 := by
        intro j _; simp only [nAt]; omega
      have hbds : ∀ j, -4611686018427387904 ≤ nAt n0 zs j ∨ 281474976710656 < j := by
        intro j; have := nAt_bd n0 zs hn1 hn2 j; omega
      have hlo : ∀ j, j ≤ k → -4611686018427387904 ≤ nAt n0 zs j ∧ nAt n0 zs j ≤ 4611686018427387904 := by
        intro j _; have := nAt_bd n0 zs hn1 hn2 j; omega
      have Hsteps := Lib.hid hsteps
      have Hlo := Lib.hid hlo
      obtain ⟨av, cv, rfl, hkk, hkc, hcv, hrd⟩ := own_reads hown
      clear hkk
      have hwl := nums_len n0 zs k
      have Hws : Hid (∀ j, j < k → (nums n0 zs k)[j]?.getD 0 = nAt n0 zs (j + 1)) := fun j hj => nums_at n0 zs k j hj
      have hBw : B ≤ wr.heap.size := by have := hb2.size; have := HB.out; omega
      generalize nums n0 zs k = ws at hO1 hrd hwl Hws
      have Hwl := Lib.hid hwl
      clear hsteps hbds hlo hr hown hwl
      have hI := inAt_new (ofL (bes ws 2)) wr
      have hrd2 : Reads .i64 (wr.alloc (.cells #[.string (ofL (bes ws 2)), .int .i64 0] 89)) av ws := hrd.later ((Below.refl _ _).alloc (Nat.le_refl _) _)
      have hb3 := hb2.alloc hBw (.cells #[.string (ofL (bes ws 2)), .int .i64 0] 89)
      have hcase2 : (k < zs.length ∧ decide ((k : Int) < 60) = false) ∨ zs.length ≤ k := by
        rcases hcase with ⟨hlt, h60⟩ | hge
        · exact .inl ⟨hlt, by simp; omega⟩
        · exact .inr hge
      clear hcase
      rcases hcase2 with ⟨hlt, h60⟩ | hge
      all_goals
        go_wp2_with (first | (go_at_call 21; refine (bytes_any _ _ _ _ _ hO1).mono ?_; rintro e w' ⟨rfl, rfl⟩) | (go_at_call 22; refine (of_any _ _).mono ?_; rintro e w' ⟨rfl, rfl⟩))
        clear hO1 hO hb1 hrd2
        have hbB : B ≤ wr.heap.size := hBw
        have hlow : Below wr.heap.size wr (wr.alloc (.cells #[.string (ofL (bes ws 2)), .int .i64 0] 89)) := (Below.refl _ _).alloc (Nat.le_refl _) _
        obtain ⟨w4, rfl⟩ : ∃ w4 : World, w4 = wr := ⟨_, rfl⟩
        generalize w4.alloc (.cells #[.string (ofL (bes ws 2)), .int .i64 0] 89) = w5 at hI hb3 hlow ⊢
        have hrd0 : ∀ w', Below w4.heap.size w4 w' → Reads .i64 w' av ws := fun w' h => hrd.later h
        have Hrd := Lib.hid hrd0
        clear hrd hrd0 hb2 hBw
        generalize w4.heap.size = b2 at hI hbB hlow Hrd ⊢
        go_loopw [6, 50] (fun x i w6 => ∃ (j : Nat), j ≤ k ∧ i = .int .i64 j ∧ x = .int .i64 (nAt n0 zs j) ∧ InAt w6 b2 (ofL (bes (ws.drop j) 2)) 0 ∧ Below B w w6 ∧ Below b2 w4 w6) (fun _ i _ => k - (intOf i).toNat)
        case atStart => exact ⟨0, by omega, rfl, rfl, by rw [List.drop_zero]; exact hI, hb3, hlow⟩
        case round =>
          obtain ⟨j, hj, rfl, rfl, hI1, hb4, hlw⟩ := hrel
          clear hI hb3 hlow
          by_cases hjk : j < k
          · obtain ⟨ac, offc, rfl, hcell⟩ := (Hrd.out _ hlw).at (i := j) (by rw [Hwl.out]; exact hjk)
            rw [Hws.out j hjk] at hcell
            obtain ⟨s1, s2⟩ := Hsteps.out j hjk
            obtain ⟨l1, l2⟩ := Hlo.out j (by omega)
            have hbe : bes (ws.drop j) 2 = be (nAt n0 zs (j + 1)) 2 ++ bes (ws.drop (j + 1)) 2 := by
              have hjw : j < ws.length := by rw [Hwl.out]; exact hjk
              rw [List.drop_eq_getElem_cons hjw]
              have := Hws.out j hjk
              rw [List.getElem?_eq_getElem hjw] at this
              simp only [Option.getD_some] at this
              rw [this]
              simp [bes]
            have hsz : (ofL (bes (ws.drop j) 2)).size ≤ 9223372036854775807 := by rw [ofL_size, bes_len, List.length_drop, Hwl.out]; omega
            have HU := inU16_any _ _ _ _ hI1 hsz
            rw [hbe] at HU
            obtain ⟨r1, r2, r3⟩ := raw_ahead (be (nAt n0 zs (j + 1)) 2) (bes (ws.drop (j + 1)) 2) 0 2 (by rw [be_len]; rfl)
            rw [r1, r2, r3, by_ofL, getN_be2] at HU
            have hX := ext_num (nAt n0 zs j) (nAt n0 zs (j + 1)) l1 l2 s1 s2
            have hy1 : 0 ≤ nAt n0 zs (j + 1) % 65536 := by omega
            have hy2 : nAt n0 zs (j + 1) % 65536 ≤ 65535 := by omega
            have HX := Lib.hid hX
            clear hX r1 r2 r3 hbe hsz l1 l2 s1 s2 hI1
            generalize nAt n0 zs (j + 1) % 65536 = y at HU HX hy1 hy2
            have hEx : ∀ W : World, Calls Try.prog 50 #[.int .i64 (nAt n0 zs j), .int .u16 y] W fun e w' => e = .returned (.int .i64 (nAt n0 zs (j + 1))) ∧ W = w' := by
              intro W
              have h := extend_any (nAt n0 zs j) y W
              rw [HX.out] at h
              exact h
            have HEx := Lib.hid hEx
            clear hEx HX
            have HLt : Hid (nAt n0 zs (j + 1) = nAt n0 zs (j + 1)) := rfl
            obtain ⟨x', hx'⟩ : ∃ x', nAt n0 zs (j + 1) = x' := ⟨_, rfl⟩
            rw [hx'] at hcell HEx
            have HX' := Lib.hid hx'
            clear hx' HLt
            go_wp2_with fail
            refine HU.mono ?_
            rintro e w6 ⟨rfl, hI2, ho⟩
            have hb5 := hb4.trans (ho.below hbB)
            clear HU hb4
            go_wp2_with ((go_at_call 50; refine (HEx.out _).mono ?_; rintro e w' ⟨rfl, rfl⟩))
            go_roundw
            case rel => exact ⟨j + 1, by omega, by go_num, by rw [HX'.out], hI2, hb5, hlw.trans (ho.below (Nat.le_refl _))⟩
            case measure => simp [intOf]; omega
          · obtain rfl : j = k := by omega
            have hd : ws.drop j = [] := List.drop_of_length_le (by rw [Hwl.out]; exact Nat.le_refl _)
            rw [hd] at hI1
            have HE := end_any _ _ _ _ hI1
            have e6 : endE (ofL (bes [] 2)) 0 = 0 := by decide
            rw [e6] at HE
            go_wp2_with ((go_at_call 33; refine (HE).mono ?_; rintro e w' ⟨rfl, rfl⟩))
            go_ret
            exact ⟨rfl, by rw [HB.out]; exact hb4⟩
end cordelleNumbers
end Go.Proofs.Ytpmcbnnbhjolmaa
