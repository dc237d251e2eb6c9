/- The document's Split; the statements' Is. -/
import Derived.Test.YtjoikidnnhjogaaPcT
import Derived.Deep.QuietTactic
import Derived.BigQuiet
namespace Go.Proofs.Ytjoikidnnhjogaa
open Go.RowKit
set_option linter.unusedVariables false
theorem spl_err (s s1 : ByteArray) (l : List PC) (h : split s = ((split s1).1, l ++ (split s1).2)) (h0 : s1.size ≠ 0) (k : Int) (hk : pcE s1 = k) (hk0 : k ≠ 0) : (split s).1 = k ∧ finL s = [] := by
  have e : (split s).1 = k := by rw [h, split_bad s1 h0 (by rw [hk]; exact hk0), hk]
  refine ⟨e, ?_⟩
  unfold finL
  rw [e, if_neg hk0]
theorem spl_step (s s1 : ByteArray) (l : List PC) (h : split s = ((split s1).1, l ++ (split s1).2)) (h0 : s1.size ≠ 0) (hk : pcE s1 = 0) : split s = ((split (pcR s1)).1, (l ++ [pcF s1]) ++ (split (pcR s1)).2) := by
  rw [h, split_good1 s1 h0 hk, split_good2 s1 h0 hk, List.append_assoc, List.singleton_append]
theorem spl_end (s s1 : ByteArray) (l : List PC) (h : split s = ((split s1).1, l ++ (split s1).2)) (h0 : s1.size = 0) : (split s).1 = 0 ∧ finL s = l := by
  have e : split s = (0, l) := by rw [h, split_nil s1 h0, List.append_nil]
  refine ⟨by rw [e], ?_⟩
  unfold finL; rw [e, if_pos rfl]
theorem pcE_2 (s : ByteArray) (h : s.size < 4) : pcE s = 2 := by unfold pcE; rw [if_pos h]
theorem pcE_1 (s : ByteArray) (h : ¬ s.size < 4) (h1 : fB s 0 / 32 ≠ 4) : pcE s = 1 := by unfold pcE; rw [if_neg h, if_pos h1]
theorem pcE_5 (s : ByteArray) (h : ¬ s.size < 4) (h1 : fB s 0 / 32 = 4) (h2 : fB s 1 < 192 ∨ 223 < fB s 1) : pcE s = 5 := by unfold pcE; rw [if_neg h, if_neg (fun x => x h1), if_pos h2]
theorem pcE_2b (s : ByteArray) (h : ¬ s.size < 4) (h1 : fB s 0 / 32 = 4) (h2 : ¬ (fB s 1 < 192 ∨ 223 < fB s 1)) (h3 : s.size < 4 + 4 * gN s 2 4) : pcE s = 2 := by unfold pcE; rw [if_neg h, if_neg (fun x => x h1), if_neg h2, if_pos h3]
theorem pcE_0 (s : ByteArray) (h : ¬ s.size < 4) (h1 : fB s 0 / 32 = 4) (h2 : ¬ (fB s 1 < 192 ∨ 223 < fB s 1)) (h3 : ¬ s.size < 4 + 4 * gN s 2 4) : pcE s = 0 := by unfold pcE; rw [if_neg h, if_neg (fun x => x h1), if_neg h2, if_neg h3]
theorem get24 (s : ByteArray) (w : World) : Calls Try.prog 58 #[.string (s.extract 2 4)] w fun e w' => e = .returned (.int .i64 (gN s 2 4 : Nat)) ∧ w = w' := get_any (s.extract 2 4) w (by rw [ByteArray.size_extract]; omega)
end Go.Proofs.Ytjoikidnnhjogaa

