/- An image's size: rightInSize of the program, L01Blocks of the model. -/
import Derived.Test.YtlegmaadcemgnaaDoorInoE
import Derived.Test.YtlegmaadcemgnaaDoorPure
namespace Go.Proofs.YtlegmaadcemgnaaDoor
set_option linter.unusedVariables false
set_option linter.unusedSimpArgs false
open Go.RowKit

/-- An image of so many bytes is right in size. -/
def szOk (n : Nat) : Bool := decide (n % 512 = 0) && (decide (64 ≤ n / 512) && decide (n / 512 ≤ 2048))
theorem rightInSize_any (v : Value) (zs : List Int) (w : World) (h : Rd .u8 w v zs) (hz : zs.length ≤ 140737488355328) :
    Calls Tryd.prog 62 #[v] w fun e w' => e = .returned (.bool (szOk zs.length)) ∧ w = w' := by
  obtain ⟨a, cap, rfl⟩ : ∃ a cap, v = .slice a zs.length cap := by obtain ⟨a, cap, h1, _⟩ := h; exact ⟨a, cap, h1⟩
  clear h
  generalize zs.length = n at hz ⊢
  by_cases h1 : n % 512 = 0
  · have hq1 : ((n : Int) % 512 == 0) = true := by simp; omega
    by_cases h2 : 64 ≤ n / 512
    · have hq2 : decide ((64 : Int) ≤ (n : Int) / 512) = true := by simp; omega
      have HR := hide (show szOk n = decide ((n : Int) / 512 ≤ 2048) from by unfold szOk; rw [decide_eq_true h1, decide_eq_true h2, Bool.true_and, Bool.true_and, decide_eq_decide]; omega)
      clear h1 h2
      go_enter Tryd.func62, Tryd.ntmps62
      go_wp2
      go_ret
      exact ⟨ret_bool (by rw [HR.out]), rfl⟩
    · have hq2 : decide ((64 : Int) ≤ (n : Int) / 512) = false := by simp; omega
      have HR := hide (show szOk n = false from by unfold szOk; rw [decide_eq_false h2, Bool.false_and, Bool.and_false])
      clear h1 h2
      go_enter Tryd.func62, Tryd.ntmps62
      go_wp2
      go_ret
      exact ⟨ret_bool (by first | rfl | rw [HR.out]), rfl⟩
  · have hq1 : ((n : Int) % 512 == 0) = false := by simp; omega
    have HR := hide (show szOk n = false from by unfold szOk; rw [decide_eq_false h1, Bool.false_and])
    clear h1
    go_enter Tryd.func62, Tryd.ntmps62
    go_wp2
    go_ret
    exact ⟨ret_bool (by first | rfl | rw [HR.out]), rfl⟩
theorem blocks_any (v : Value) (zs : List Int) (w : World) (h : Rd .u8 w v zs) (hz : zs.length ≤ 140737488355328) :
    Calls Tryd.prog 53 #[v] w fun e w' => e = .returned (.int .i64 (if szOk zs.length = true then ((zs.length / 512 : Nat) : Int) else 0)) ∧ w = w' := by
  obtain ⟨a, cap, rfl⟩ : ∃ a cap, v = .slice a zs.length cap := by obtain ⟨a, cap, h1, _⟩ := h; exact ⟨a, cap, h1⟩
  clear h
  generalize zs.length = n at hz ⊢
  obtain ⟨m, hm⟩ : ∃ m, m = n / 512 := ⟨_, rfl⟩
  have e1 : (n : Int) / 512 = (m : Int) := by omega
  rw [← hm]
  by_cases h1 : n % 512 = 0
  · have hq1 : (((m : Int) * 512) != (n : Int)) = false := by simp; omega
    by_cases h2 : 64 ≤ n / 512
    · have hq2 : decide ((m : Int) < 64) = false := by simp; omega
      by_cases h3 : n / 512 ≤ 2048
      · have hq3 : decide ((2048 : Int) < (m : Int)) = false := by simp; omega
        have HR := hide (show (if szOk n = true then ((m : Nat) : Int) else 0) = (m : Int) from by unfold szOk; rw [decide_eq_true h1, decide_eq_true h2, decide_eq_true h3]; rfl)
        rw [HR.out]
        have hm9 : m ≤ 2048 := by omega
        clear h1 h2 h3 hm
        go_enter Tryd.func53, Tryd.ntmps53
        go_wp2
        go_ret
        exact ⟨rfl, rfl⟩
      · have hq3 : decide ((2048 : Int) < (m : Int)) = true := by simp; omega
        have HR := hide (show (if szOk n = true then ((m : Nat) : Int) else 0) = 0 from by unfold szOk; rw [decide_eq_false h3, Bool.and_false, Bool.and_false]; rfl)
        rw [HR.out]
        have hm9 : m ≤ 300000000000 := by omega
        clear h1 h2 h3 hm
        go_enter Tryd.func53, Tryd.ntmps53
        go_wp2
        go_ret
        exact ⟨rfl, rfl⟩
    · have hq2 : decide ((m : Int) < 64) = true := by simp; omega
      have HR := hide (show (if szOk n = true then ((m : Nat) : Int) else 0) = 0 from by unfold szOk; rw [decide_eq_false h2, Bool.false_and, Bool.and_false]; rfl)
      rw [HR.out]
      have hm9 : m ≤ 2048 := by omega
      clear h1 h2 hm
      go_enter Tryd.func53, Tryd.ntmps53
      go_wp2
      go_ret
      exact ⟨rfl, rfl⟩
  · have hq1 : (((m : Int) * 512) != (n : Int)) = true := by simp; omega
    have HR := hide (show (if szOk n = true then ((m : Nat) : Int) else 0) = 0 from by unfold szOk; rw [decide_eq_false h1, Bool.false_and]; rfl)
    rw [HR.out]
    have hm9 : m ≤ 300000000000 := by omega
    clear h1 hm
    go_enter Tryd.func53, Tryd.ntmps53
    go_wp2
    go_ret
    exact ⟨rfl, rfl⟩
end Go.Proofs.YtlegmaadcemgnaaDoor
