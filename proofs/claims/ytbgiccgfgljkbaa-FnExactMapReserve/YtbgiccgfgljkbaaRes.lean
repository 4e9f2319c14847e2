/- How many blocks a map has: MapReserve of the program and of the model, at every number of blocks. -/
import Derived.Test.YtbgiccgfgljkbaaBase
import Derived.Test.YtbgiccgfgljkbaaRows
import Derived.WalkLawsBesides

namespace Go.Proofs.Ytbgiccgfgljkbaa
set_option linter.unusedVariables false
set_option linter.unusedSimpArgs false
open Go.RowKit

/-- The document's number. -/
def resV (x : Int) : Int := if x < 64 ∨ 2048 < x then 0 else if 1536 < x then (x + 127) / 128 + 1 else (x + 127) / 128

theorem blocksOf4 (x : Int) (w : World) (h0 : 64 ≤ x) (h1 : x ≤ 2048) : Calls Try.prog 24 #[.int .i64 (4 * x)] w fun e w' => e = .returned (.int .i64 ((x + 127) / 128)) ∧ w = w' := by
  obtain ⟨s, hs⟩ : ∃ s : Int, s = 4 * x := ⟨_, rfl⟩
  have HE := hide hs
  rw [← hs]
  have h2 : 256 ≤ s := by omega
  have h3 : s ≤ 8192 := by omega
  have H := hide (And.intro h0 h1)
  clear hs h0 h1
  by_cases hr : s % 512 = 0
  · have hq : (s % 512 != 0) = false := by simp [hr]
    have HR := hide hr
    clear hr
    go_enter Try.func24, Try.ntmps24
    go_wp2
    go_ret
    exact ⟨ret_int (by have := HR.out; have := HE.out; omega), rfl⟩
  · have hq : (s % 512 != 0) = true := by simpa using hr
    have HR := hide hr
    clear hr
    go_enter Try.func24, Try.ntmps24
    go_wp2
    go_ret
    exact ⟨ret_int (by have := HR.out; have := HE.out; omega), rfl⟩

theorem implRes (x : Int) (w : World) : Calls Try.prog 9 #[.int .i64 x] w fun e w' => e = .returned (.int .i64 (resV x)) ∧ w = w' := by
  by_cases h0 : x < 64
  · have HR := hide (show resV x = 0 by unfold resV; rw [if_pos (by omega)])
    go_enter Try.func9, Try.ntmps9
    go_wp2
    go_ret
    exact ⟨ret_int HR.out.symm, rfl⟩
  · by_cases h1 : 2048 < x
    · have HR := hide (show resV x = 0 by unfold resV; rw [if_pos (by omega)])
      go_enter Try.func9, Try.ntmps9
      go_wp2
      go_ret
      exact ⟨ret_int HR.out.symm, rfl⟩
    · have a0 : 64 ≤ x := by omega
      have a1 : x ≤ 2048 := by omega
      obtain ⟨m, hm⟩ : ∃ m : Int, m = (x + 127) / 128 := ⟨_, rfl⟩
      have HC := hide (fun w => blocksOf4 x w a0 a1)
      rw [← hm] at HC
      have m0 : 0 ≤ m := by omega
      have m1 : m ≤ 16 := by omega
      by_cases h2 : 1536 < x
      · have HR := hide (show resV x = m + 1 by unfold resV; rw [if_neg (by omega), if_pos h2, hm])
        have m2 : 12 < m := by omega
        clear hm
        go_enter Try.func9, Try.ntmps9
        go_wp2_with (go_at_call 24; refine (HC.out _).mono ?_; rintro e w' ⟨rfl, rfl⟩)
        go_ret
        exact ⟨ret_int HR.out.symm, rfl⟩
      · have HR := hide (show resV x = m by unfold resV; rw [if_neg (by omega), if_neg h2, hm])
        have m2 : m ≤ 12 := by omega
        clear hm
        go_enter Try.func9, Try.ntmps9
        go_wp2_with (go_at_call 24; refine (HC.out _).mono ?_; rintro e w' ⟨rfl, rfl⟩)
        go_ret
        exact ⟨ret_int HR.out.symm, rfl⟩

theorem specRes (x : Int) (w : World) : Calls Try.prog 8 #[.int .i64 x] w fun e w' => e = .returned (.int .i64 (resV x)) ∧ w = w' := by
  by_cases h0 : x < 64
  · have HR := hide (show resV x = 0 by unfold resV; rw [if_pos (by omega)])
    go_enter Try.func8, Try.ntmps8
    go_wp2
    go_ret
    exact ⟨ret_int HR.out.symm, rfl⟩
  · by_cases h1 : 2048 < x
    · have HR := hide (show resV x = 0 by unfold resV; rw [if_pos (by omega)])
      go_enter Try.func8, Try.ntmps8
      go_wp2
      go_ret
      exact ⟨ret_int HR.out.symm, rfl⟩
    · have a0 : 64 ≤ x := by omega
      have a1 : x ≤ 2048 := by omega
      by_cases h2 : 1536 < x
      · have HR := hide (show resV x = (x + 127) / 128 + 1 by unfold resV; rw [if_neg (by omega), if_pos h2])
        have m2 : 12 < (x + 127) / 128 := by omega
        have m1 : (x + 127) / 128 ≤ 16 := by omega
        go_enter Try.func8, Try.ntmps8
        go_wp2
        go_ret
        exact ⟨ret_int HR.out.symm, rfl⟩
      · have HR := hide (show resV x = (x + 127) / 128 by unfold resV; rw [if_neg (by omega), if_neg h2])
        have m2 : (x + 127) / 128 ≤ 12 := by omega
        have m1 : 0 ≤ (x + 127) / 128 := by omega
        go_enter Try.func8, Try.ntmps8
        go_wp2
        go_ret
        exact ⟨ret_int HR.out.symm, rfl⟩

theorem lawRes (x : Int) (w : World) :
    Calls Try.prog 3 #[.int .i64 x] w fun e w' => e = .returned (.bool true) ∧ Below w.heap.size w w' := by
  obtain ⟨m, hm⟩ : ∃ m, m = resV x := ⟨_, rfl⟩
  have HI := hide (implRes x)
  have HS := hide (specRes x)
  rw [← hm] at HI HS
  clear hm
  have hcc : (m != m) = false := by simp
  go_enter Try.func3, Try.ntmps3
  go_wp2_with (first | (go_at_call 8; refine (HS.out _).mono ?_; rintro e w' ⟨rfl, rfl⟩) | (go_at_call 9; refine (HI.out _).mono ?_; rintro e w' ⟨rfl, rfl⟩))
  go_ret
  exact ⟨rfl, Below.refl _ _⟩
end Go.Proofs.Ytbgiccgfgljkbaa
