/- An image's size: rightInSize of the program, L01Blocks of the model. An image and its blocks: rightInSize and bytesAt of the program, L01Blocks and l09At of the model; which record is chosen. -/
import Derived.Test.YtfkmnmopkblopaaDoorZk16
import Derived.Test.YtfkmnmopkblopaaDoorZk02
import Derived.Test.YtfkmnmopkblopaaDoorZk42
namespace Go.Proofs.YtfkmnmopkblopaaDoor
set_option linter.unusedVariables false
set_option linter.unusedSimpArgs false
open Go.RowKit

/-- An image of so many bytes is right in size. -/
def szOk (n : Nat) : Bool := decide (n % 512 = 0) && (decide (64 ≤ n / 512) && decide (n / 512 ≤ 2048))
theorem rightInSize_any (v : Value) (zs : List Int) (w : World) (h : Rd .u8 w v zs) (hz : zs.length ≤ 140737488355328) :
    Calls Tryd.prog 19 #[v] w fun e w' => e = .returned (.bool (szOk zs.length)) ∧ w = w' := by
  obtain ⟨a, cap, rfl⟩ : ∃ a cap, v = .slice a zs.length cap := by obtain ⟨a, cap, h1, _⟩ := h; exact ⟨a, cap, h1⟩
  clear h
  generalize zs.length = n at hz ⊢
  by_cases h1 : n % 512 = 0
  · have hq1 : ((n : Int) % 512 == 0) = true := by simp; omega
    by_cases h2 : 64 ≤ n / 512
    · have hq2 : decide ((64 : Int) ≤ (n : Int) / 512) = true := by simp; omega
      have HR := hide (show szOk n = decide ((n : Int) / 512 ≤ 2048) from by unfold szOk; rw [decide_eq_true h1, decide_eq_true h2, Bool.true_and, Bool.true_and, decide_eq_decide]; omega)
      clear h1 h2
      go_enter Tryd.func19, Tryd.ntmps19
      go_wp2
      go_ret
      exact ⟨ret_bool (by rw [HR.out]), rfl⟩
    · have hq2 : decide ((64 : Int) ≤ (n : Int) / 512) = false := by simp; omega
      have HR := hide (show szOk n = false from by unfold szOk; rw [decide_eq_false h2, Bool.false_and, Bool.and_false])
      clear h1 h2
      go_enter Tryd.func19, Tryd.ntmps19
      go_wp2
      go_ret
      exact ⟨ret_bool (by first | rfl | rw [HR.out]), rfl⟩
  · have hq1 : ((n : Int) % 512 == 0) = false := by simp; omega
    have HR := hide (show szOk n = false from by unfold szOk; rw [decide_eq_false h1, Bool.false_and])
    clear h1
    go_enter Tryd.func19, Tryd.ntmps19
    go_wp2
    go_ret
    exact ⟨ret_bool (by first | rfl | rw [HR.out]), rfl⟩
theorem blocks_any (v : Value) (zs : List Int) (w : World) (h : Rd .u8 w v zs) (hz : zs.length ≤ 140737488355328) :
    Calls Tryd.prog 9 #[v] w fun e w' => e = .returned (.int .i64 (if szOk zs.length = true then ((zs.length / 512 : Nat) : Int) else 0)) ∧ w = w' := by
  obtain ⟨a, cap, rfl⟩ : ∃ a cap, v = .slice a zs.length cap := by obtain ⟨a, cap, h1, _⟩ := h; exact ⟨a, cap, h1⟩
  clear h
  generalize zs.length = n at hz ⊢
  obtain ⟨m, hm⟩ : ∃ m, m = n / 512 := ⟨_, rfl⟩
  have e1 : (n : Int) / 512 = (m : Int) := by omega
  rw [← hm]
  by_cases h1 : n % 512 = 0
  · have hq1 : (((m : Int) * 512) != (n : Int)) = false := by simp; omega
    by_cases h2 : 64 ≤ n / 512
    · have hq2 : decide ((m : Int) < 64) = false := by simp; omega
      by_cases h3 : n / 512 ≤ 2048
      · have hq3 : decide ((2048 : Int) < (m : Int)) = false := by simp; omega
        have HR := hide (show (if szOk n = true then ((m : Nat) : Int) else 0) = (m : Int) from by unfold szOk; rw [decide_eq_true h1, decide_eq_true h2, decide_eq_true h3]; rfl)
        rw [HR.out]
        have hm9 : m ≤ 2048 := by omega
        clear h1 h2 h3 hm
        go_enter Tryd.func9, Tryd.ntmps9
        go_wp2
        go_ret
        exact ⟨rfl, rfl⟩
      · have hq3 : decide ((2048 : Int) < (m : Int)) = true := by simp; omega
        have HR := hide (show (if szOk n = true then ((m : Nat) : Int) else 0) = 0 from by unfold szOk; rw [decide_eq_false h3, Bool.and_false, Bool.and_false]; rfl)
        rw [HR.out]
        have hm9 : m ≤ 300000000000 := by omega
        clear h1 h2 h3 hm
        go_enter Tryd.func9, Tryd.ntmps9
        go_wp2
        go_ret
        exact ⟨rfl, rfl⟩
    · have hq2 : decide ((m : Int) < 64) = true := by simp; omega
      have HR := hide (show (if szOk n = true then ((m : Nat) : Int) else 0) = 0 from by unfold szOk; rw [decide_eq_false h2, Bool.false_and, Bool.and_false]; rfl)
      rw [HR.out]
      have hm9 : m ≤ 2048 := by omega
      clear h1 h2 hm
      go_enter Tryd.func9, Tryd.ntmps9
      go_wp2
      go_ret
      exact ⟨rfl, rfl⟩
  · have hq1 : (((m : Int) * 512) != (n : Int)) = true := by simp; omega
    have HR := hide (show (if szOk n = true then ((m : Nat) : Int) else 0) = 0 from by unfold szOk; rw [decide_eq_false h1, Bool.false_and]; rfl)
    rw [HR.out]
    have hm9 : m ≤ 300000000000 := by omega
    clear h1 hm
    go_enter Tryd.func9, Tryd.ntmps9
    go_wp2
    go_ret
    exact ⟨rfl, rfl⟩
end Go.Proofs.YtfkmnmopkblopaaDoor

namespace Go.Proofs.YtfkmnmopkblopaaDoor
set_option linter.unusedVariables false
set_option linter.unusedSimpArgs false
open Go.RowKit

/-- Block k of an image. -/
def blkZ (zs : List Int) (k : Nat) : List Int := (zs.drop (512 * k)).take 512
theorem blkZ_len {zs : List Int} {k : Nat} (h : 512 * k + 512 ≤ zs.length) : (blkZ zs k).length = 512 := by unfold blkZ; simp; omega
theorem blkZ_bd {zs : List Int} (h : ∀ z ∈ zs, 0 ≤ z ∧ z < 256) (k : Nat) : ∀ z ∈ blkZ zs k, 0 ≤ z ∧ z < 256 := bytes_cut h _ _
theorem bytesAt_any (v : Value) (zs : List Int) (k : Nat) (w : World) (h : Rd .u8 w v zs) (hk : 512 * k + 512 ≤ zs.length) (hz : zs.length ≤ 140737488355328) :
    Calls Tryd.prog 21 #[v, .int .i64 k] w fun e w' => ∃ sv, e = .returned sv ∧ Rd .u8 w sv (blkZ zs k) ∧ w = w' := by
  have HR := hide h
  obtain ⟨bd, off, cap, rfl, hbw, hcl, hcm, hcell⟩ := h.partsC (by omega)
  unfold maxLen at hcm
  have HS := hide (show Rd .u8 w (.slice (some ⟨bd, off + 512 * k, none⟩) 512 (cap - 512 * k)) (blkZ zs k) from Rd.cut2 (512 * k) 512 HR.out (by omega) (by omega))
  obtain ⟨q, hq⟩ : ∃ q : Nat, q = 512 * k := ⟨_, rfl⟩
  rw [← hq] at HS
  have hqa : (k : Int) * 512 = (q : Int) := by omega
  have hqb : ((k : Int) + 1) * 512 = (q : Int) + 512 := by omega
  have hq3 : q + 512 ≤ cap := by omega
  have hq4 : ¬ cap = q := by omega
  have hq5 : q ≤ 140737488355328 := by omega
  have hk5 : k ≤ 300000000000 := by omega
  have hsub : q + 512 - q = 512 := by omega
  clear h hcell hq
  go_enter Tryd.func21, Tryd.ntmps21
  go_wp2
  go_ret
  exact ⟨_, rfl, by first | exact HS.out | (rw [hsub]; exact HS.out), rfl⟩
theorem l09At_any (v : Value) (zs : List Int) (k : Nat) (w : World) (h : Rd .u8 w v zs) (hk : 512 * k + 512 ≤ zs.length) (hz : zs.length ≤ 140737488355328) :
    Calls Tryd.prog 11 #[v, .int .i64 k] w fun e w' => ∃ sv, e = .returned sv ∧ Rd .u8 w sv (blkZ zs k) ∧ w = w' := by
  have HR := hide h
  obtain ⟨bd, off, cap, rfl, hbw, hcl, hcm, hcell⟩ := h.partsC (by omega)
  unfold maxLen at hcm
  have HS := hide (show Rd .u8 w (.slice (some ⟨bd, off + 512 * k, none⟩) 512 (cap - 512 * k)) (blkZ zs k) from Rd.cut2 (512 * k) 512 HR.out (by omega) (by omega))
  obtain ⟨q, hq⟩ : ∃ q : Nat, q = 512 * k := ⟨_, rfl⟩
  rw [← hq] at HS
  have hqa : (k : Int) * 512 = (q : Int) := by omega
  have hqb : ((k : Int) + 1) * 512 = (q : Int) + 512 := by omega
  have hq3 : q + 512 ≤ cap := by omega
  have hq4 : ¬ cap = q := by omega
  have hq5 : q ≤ 140737488355328 := by omega
  have hk5 : k ≤ 300000000000 := by omega
  have hsub : q + 512 - q = 512 := by omega
  clear h hcell hq
  go_enter Tryd.func11, Tryd.ntmps11
  go_wp2
  go_ret
  exact ⟨_, rfl, by first | exact HS.out | (rw [hsub]; exact HS.out), rfl⟩

/-- The record in block k, its number of blocks and its Gen; whether it counts. -/
def blZ (zs : List Int) (k : Nat) : Int := (decFs (blkZ zs k)).getD 1 0
def genZ (zs : List Int) (k : Nat) : Int := (decFs (blkZ zs k)).getD 0 0
def goodZ (zs : List Int) (k : Nat) : Bool := decide (codeDF (blkZ zs k) = 0) && decide (blZ zs k = ((zs.length / 512 : Nat) : Int))
def takeZ (zs : List Int) (st : Option Nat) (k : Nat) : Bool := goodZ zs k && (match st with | none => true | some s => decide (genZ zs s < genZ zs k))
/-- Which of the first k blocks is chosen. -/
def chz (zs : List Int) : Nat → Option Nat
  | 0 => none
  | k + 1 => if takeZ zs (chz zs k) k = true then some k else chz zs k
theorem chz_lt (zs : List Int) : ∀ k s, chz zs k = some s → s < k
  | 0, _, h => by cases h
  | k + 1, s, h => by
    rw [chz] at h
    split at h
    · obtain rfl := Option.some.inj h; omega
    · have := chz_lt zs k s h; omega
theorem codeDF_two (zs : List Int) : codeDF zs = 0 ∨ codeDF zs = 21 := by
  unfold codeDF
  split
  · exact .inl rfl
  · exact .inr rfl
/-- What ChooseFsinfo tells. -/
def choR (zs : List Int) : List Int := if szOk zs.length = true then (match chz zs 2 with | none => noFs | some s => decFs (blkZ zs s)) else noFs
def choS (zs : List Int) : Int := if szOk zs.length = true then (match chz zs 2 with | none => 0 | some s => (s : Int)) else 0
def choC (zs : List Int) : Int := if szOk zs.length = true then (match chz zs 2 with | none => 21 | some s => 0) else 7
theorem szOk_len {n : Nat} (h : szOk n = true) : 32768 ≤ n ∧ n ≤ 1048576 := by
  unfold szOk at h
  simp only [Bool.and_eq_true, decide_eq_true_eq] at h
  omega
theorem choR_len (zs : List Int) : (choR zs).length = 68 := by
  unfold choR
  split
  · split
    · rfl
    · exact decFs_len _
  · rfl
end Go.Proofs.YtfkmnmopkblopaaDoor
