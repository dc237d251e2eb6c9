/- Adverts.Up; the document's AdvertsPiece; the statements' sameAdverts. -/
import Derived.Test.YtjoikidnnhjogaaMSfA
import Derived.Test.YtjoikidnnhjogaaMc
import Derived.Deep.RegionHeld3
import Derived.Deep.QuietTactic
import Derived.BigQuiet
namespace Go.Proofs.Ytjoikidnnhjogaa
open Go.RowKit
set_option linter.unusedVariables false
/-- The paths that are there. -/
def upsL (l : List AD) : List Int := (l.filter (fun a => a.up)).map (fun a => a.path)
theorem upsL_take (l : List AD) (k : Nat) (h : k < l.length) : upsL (l.take (k + 1)) = upsL (l.take k) ++ (if (l[k]?.getD zeroAD).up then [(l[k]?.getD zeroAD).path] else []) := by
  rw [List.take_succ_eq_append_getElem h]
  unfold upsL
  rw [List.filter_append, List.map_append]
  congr 1
  rw [List.getElem?_eq_getElem h]
  simp only [Option.getD_some]
  cases hu : (l[k]).up <;> simp [hu]
theorem upsL_len (l : List AD) : (upsL l).length ≤ l.length := by unfold upsL; rw [List.length_map]; exact List.length_filter_le _ _
set_option maxRecDepth 100000 in
set_option maxHeartbeats 1600000 in
theorem advUp_any (src : Int) (l : List AD) (a : Option Addr) (c : Nat) (w : World) (hr : ReadsA w a l) (hl : l.length ≤ 1000) :
    Calls Try.prog 55 #[.agg #[.int .u32 src, .slice a l.length c]] w fun e w' =>
      Below w.heap.size w w' ∧ ∃ a' c', e = .returned (.slice a' (upsL l).length c') ∧ Reads .i64 w' a' (upsL l) := by
  obtain ⟨i0, hi, hz0, hz1, hz2⟩ := info_parts info64r
  have HR := Lib.hid (fun W (h : Below w.heap.size w W) => hr.later h)
  have HT := Lib.hid (fun k h => upsL_take l k h)
  have HLn : Hid (∀ k, k ≤ l.length → (upsL (l.take k)).length ≤ k) := Lib.hid (fun k hk => by have := upsL_len (l.take k); rw [List.length_take] at this; omega)
  have HF : Hid (upsL (l.take l.length) = upsL l) := Lib.hid (by rw [List.take_length])
  have H0 : Hid (upsL (l.take 0) = []) := Lib.hid rfl
  generalize upsL l = UL at HF ⊢
  clear hr
  have hX1 := atC_new 39 w #[.int .u32 src, .slice a l.length c]
  have hb1 : Below w.heap.size w (w.alloc (.cells #[.int .u32 src, .slice a l.length c] 39)) := (Below.refl _ _).alloc (Nat.le_refl _) _
  go_enter Try.func55, Try.ntmps55
  go_upto_region 1 with fail
  generalize w.alloc (.cells #[.int .u32 src, .slice a l.length c] 39) = w2 at hX1 hb1 ⊢
  generalize hg : w.heap.size = g at hX1 hb1 HR ⊢
  have HG := Lib.hid hg
  clear hg
  have hgl := hX1.lt
  obtain ⟨x0, x1⟩ := hX1.cells2
  go_wp2_with fail
  go_loopw [3, 9] (fun z i wr => ∃ (k m : Nat) (av : Option Addr) (cv : Nat), k ≤ l.length ∧ i = .int .i64 k ∧ z = .slice av m cv ∧ (upsL (l.take k)).length = m ∧ wr.ownsRow g 3 1 (.slice av m cv) m ((upsL (l.take k)).map (Value.int .i64)) ∧ Below g w wr ∧ g ≤ wr.heap.size) (fun _ i _ => l.length - (intOf i).toNat)
  case atStart => exact ⟨0, 0, none, 0, Nat.zero_le _, rfl, rfl, by rw [H0.out]; rfl, by rw [H0.out]; exact World.ownsRow_nil _ _ _ _, hb1, by omega⟩
  case round =>
    obtain ⟨k, m, av, cv, hk, rfl, rfl, hm, hv, hb, hg3⟩ := hrel
    clear hX1 hb1 hgl x0 x1
    by_cases hlt : k < l.length
    · obtain ⟨ab, off, rfl, x0, x1, x2⟩ := (HR.out _ hb).at hlt
      have hT := Lib.hid (HT.out k hlt)
      have hm2 := HLn.out k hk
      have HM := Lib.hid hm
      rw [hm] at hm2
      clear hm
      generalize l[k]?.getD zeroAD = p at x0 x1 x2 hT
      generalize upsL (l.take k) = UK at hT hv HM
      obtain ⟨path, up, rate⟩ := p
      simp only at x0 x1 x2 hT
      have hba := hb.alloc hg3 (.cells #[.int .i64 path, .bool up, .int .i64 rate] 115)
      have hva := hv.alloc (.cells #[.int .i64 path, .bool up, .int .i64 rate] 115)
      have hPa := atC_new 115 wr #[.int .i64 path, .bool up, .int .i64 rate]
      have hga : g ≤ (wr.alloc (.cells #[.int .i64 path, .bool up, .int .i64 rate] 115)).heap.size := by simp; omega
      go_upto_region 5 with fail
      generalize wr.alloc (.cells #[.int .i64 path, .bool up, .int .i64 rate] 115) = w5 at hba hva hPa hga ⊢
      generalize wr.heap.size = gp at hPa ⊢
      clear x0 x1 x2 hb hv hg3
      obtain ⟨x0, x1, x2⟩ := hPa.cells3
      cases up
      · have hUN : Hid (upsL (l.take (k + 1)) = UK) := Lib.hid (by rw [hT.out]; simp)
        clear hT
        go_wp2
        go_roundw
        case rel => exact ⟨k + 1, m, av, cv, by omega, by go_num, rfl, by rw [hUN.out]; exact HM.out, by rw [hUN.out]; exact hva, hba, hga⟩
        case measure => simp [intOf]; omega
      · have hUN : Hid (upsL (l.take (k + 1)) = UK ++ [path]) := Lib.hid (by rw [hT.out]; simp)
        clear hT
        go_wp2_with (at_builtin; refine append_one rfl (.tmp 15) (.tmp 18) 53 rfl g 3 i0 (.int .i64 0) 8 Try.underlying53 hi hz0 hz1 hz2 rfl (.slice av m cv) m (UK.map (Value.int .i64)) rfl hva (.int .i64 path) rfl rfl ?d1 ?d2 g (Nat.le_refl _) hga hba ?_)
        case d1 => unfold maxLen; omega
        case d2 => omega
        intro v' w6 hown6 hb6
        obtain ⟨ad, cq, rfl⟩ := own_slice hown6
        have hown7 : w6.ownsRow g 3 1 (.slice ad (m + 1) cq) (m + 1) ((upsL (l.take (k + 1))).map (Value.int .i64)) := by rw [hUN.out, List.map_append]; exact hown6
        have hg6 : g ≤ w6.heap.size := by rw [← HG.out]; exact hb6.size
        clear hown6 hva hPa hba hga x0 x1 x2
        go_wp2
        go_roundw
        case rel => exact ⟨k + 1, m + 1, ad, cq, by omega, by go_num, rfl, by rw [hUN.out, List.length_append, HM.out]; rfl, hown7, hb6, hg6⟩
        case measure => simp [intOf]; omega
    · obtain rfl : k = l.length := by omega
      rw [HF.out] at hm hv
      obtain ⟨_, _, e5, _, _, _, hrd⟩ := own_reads hv
      cases e5
      go_wp2
      go_ret
      rw [HG.out]
      first | exact ⟨hb, av, cv, by rw [hm]; rfl, hrd⟩ | exact ⟨hb, av, ⟨cv, by rw [hm]; rfl⟩, hrd⟩
theorem prevA_geJ (l : List AD) : ∀ k, (∀ j, j < k → adMay (prevA l j) (l[j]?.getD zeroAD)) → (k : Int) ≤ prevA l k
  | 0, _ => Int.le_refl _
  | k + 1, h => by
    have h1 := prevA_geJ l k (fun j hj => h j (by omega))
    have h2 := (h k (by omega)).1
    show ((k + 1 : Nat) : Int) ≤ (l[k]?.getD zeroAD).path
    omega
theorem boxAt_newC (W : World) (p : PC) : BoxAt (W.alloc (.cells #[.int .i64 p.count, .int .i64 p.kind, .string p.body] 23)) W.heap.size p := heap_alloc_new W _
theorem be_up (u : Bool) : ({ data := if u then #[1] else #[0] } : ByteArray) = ofL (be (upN u) 1) := by cases u <;> kernel_rfl
set_option maxHeartbeats 1600000 in
theorem sameAds_any (l : List AD) (a a2 : Option Addr) (n c c2 : Nat) (w : World) (hn : n = l.length) (hr : ReadsA w a l) (hr2 : ReadsA w a2 l) (hl : l.length ≤ 1000000) :
    Calls Try.prog 20 #[.slice a n c, .slice a2 n c2] w fun e w' => e = .returned (.bool true) ∧ Below w.heap.size w w' := by
  subst hn
  have HR := Lib.hid (fun W (h : Below w.heap.size w W) => hr.later h)
  have HR2 := Lib.hid (fun W (h : Below w.heap.size w W) => hr2.later h)
  clear hr hr2
  go_enter Try.func20, Try.ntmps20
  go_wp2
  go_loopw [13] (fun i wr => ∃ k : Nat, k ≤ l.length ∧ i = .int .i64 k ∧ Below w.heap.size w wr) (fun i _ => l.length - (intOf i).toNat)
  case atStart => exact ⟨0, Nat.zero_le _, rfl, Below.refl _ _⟩
  case round =>
    obtain ⟨k, hk, rfl, hb1⟩ := hrel
    by_cases hlt : k < l.length
    · obtain ⟨ab, off, rfl, c0, c1, c2'⟩ := (HR.out _ hb1).at hlt
      obtain ⟨ab2, off2, rfl, d0, d1, d2⟩ := (HR2.out _ hb1).at hlt
      generalize l[k]?.getD zeroAD = p at c0 c1 c2' d0 d1 d2
      have i1 : (k : Int) < (l.length : Int) := by omega
      go_wp2_with fail
      go_quiet (fail)
      have hb2 := below_drewN hb1 nq
      go_wp2
      go_roundw
      case rel => exact ⟨k + 1, by omega, by go_num, hb2⟩
      case measure => simp [intOf]; omega
    · obtain rfl : k = l.length := by omega
      go_wp2
      go_ret
      exact ⟨rfl, hb1⟩
end Go.Proofs.Ytjoikidnnhjogaa

