/- notes.App: mayBe, Piece. -/
import Derived.Test.YtjoikidnnhjogaaNtM
import Derived.Test.YtjoikidnnhjogaaPcP
import Derived.Deep.RegionHeld3
namespace Go.Proofs.Ytjoikidnnhjogaa
open Go.RowKit
set_option linter.unusedVariables false
set_option maxHeartbeats 800000 in
theorem apMay_any (a : AP) (w : World) (hn : a.name.size ≤ 9223372036854775807) (hd : a.data.size ≤ 9223372036854775807) (b : Bool) (hb : b = true ↔ apMay a) :
    Calls Try.prog 80 #[.agg #[.int .i64 a.sub, .int .u32 a.src, .string a.name, .string a.data]] w fun e w' => e = .returned (.bool b) ∧ Below w.heap.size w w' := by
  obtain ⟨sub, src, name, data⟩ := a
  unfold apMay at hb
  simp only at *
  by_cases k1 : sub < 0
  · obtain rfl : b = false := by
      cases b with
      | false => rfl
      | true => exact absurd (hb.1 rfl) (by omega)
    clear hb
    go_enter Try.func80, Try.ntmps80
    go_wp2
    go_ret
    exact ⟨rfl, (Below.refl _ _).alloc (Nat.le_refl _) _⟩
  · by_cases k2 : 31 < sub
    · obtain rfl : b = false := by
        cases b with
        | false => rfl
        | true => exact absurd (hb.1 rfl) (by omega)
      clear hb
      go_enter Try.func80, Try.ntmps80
      go_wp2
      go_ret
      exact ⟨rfl, (Below.refl _ _).alloc (Nat.le_refl _) _⟩
    · by_cases k3 : name.size = 4
      · have k3' : (name.size : Int) = 4 := by omega
        by_cases k4 : data.size % 4 = 0
        · have k4' : (data.size : Int) % 4 = 0 := by omega
          by_cases k5 : data.size ≤ 1024
          · have k5' : decide ((data.size : Int) ≤ 1024) = true := by simp; omega
            obtain rfl : b = true := hb.2 (by omega)
            clear hb k3 k4 k5
            go_enter Try.func80, Try.ntmps80
            go_wp2
            go_ret
            exact ⟨rfl, (Below.refl _ _).alloc (Nat.le_refl _) _⟩
          · have k5' : decide ((data.size : Int) ≤ 1024) = false := by simp; omega
            obtain rfl : b = false := by
              cases b with
              | false => rfl
              | true => exact absurd (hb.1 rfl) (by omega)
            clear hb k3 k4 k5
            go_enter Try.func80, Try.ntmps80
            go_wp2
            go_ret
            exact ⟨rfl, (Below.refl _ _).alloc (Nat.le_refl _) _⟩
        · have k4' : ((data.size : Int) % 4 == 0) = false := by simp; omega
          have k4'' : decide ((data.size : Int) % 4 = 0) = false := by simp; omega
          obtain rfl : b = false := by
            cases b with
            | false => rfl
            | true => exact absurd (hb.1 rfl) (by omega)
          clear hb k3
          go_enter Try.func80, Try.ntmps80
          go_wp2
          go_ret
          exact ⟨rfl, (Below.refl _ _).alloc (Nat.le_refl _) _⟩
      · have k3' : ((name.size : Int) != 4) = true := by simp; omega
        obtain rfl : b = false := by
          cases b with
          | false => rfl
          | true => exact absurd (hb.1 rfl) (by omega)
        clear hb
        go_enter Try.func80, Try.ntmps80
        go_wp2
        go_ret
        exact ⟨rfl, (Below.refl _ _).alloc (Nat.le_refl _) _⟩
end Go.Proofs.Ytjoikidnnhjogaa

