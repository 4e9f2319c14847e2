/- A number of a script is what strconv.Atoi reads: mathematics. -/
import Derived.Test.YtnljpaohkkdjjaaGreatDoorPlC
import Derived.Lib.AtoiTie
namespace Go.Proofs.YtnljpaohkkdjjaaGreatDoor
set_option linter.unusedVariables false
set_option linter.unusedSimpArgs false

theorem decFrom_valI : ∀ (l : List UInt8) (acc : Nat), l.all isDg = true → ∃ n : Nat, Lib.decFrom acc l = some n ∧ (n : Int) = l.foldl (fun v c => v * 10 + (c.toNat : Int) - 48) (acc : Int)
  | [], acc, _ => ⟨acc, rfl, rfl⟩
  | c :: l, acc, h => by
    rw [List.all_cons, Bool.and_eq_true] at h
    have hc := (isDg_iff c).1 h.1
    obtain ⟨n, h1, h2⟩ := decFrom_valI l (acc * 10 + (c.toNat - 48)) h.2
    refine ⟨n, ?_, ?_⟩
    · rw [Lib.decFrom]
      have hd : Lib.digitVal c = some (c.toNat - 48) := by
        unfold Lib.digitVal
        rw [if_pos hc]
      rw [hd]
      exact h1
    · rw [h2, List.foldl_cons]
      congr 1
      omega
theorem decNat_valI (l : List UInt8) (h : l.all isDg = true) (hne : l ≠ []) : ∃ n : Nat, Lib.decNat l = some n ∧ (n : Int) = valI l := by
  obtain ⟨n, h1, h2⟩ := decFrom_valI l 0 h
  cases l with
  | nil => exact absurd rfl hne
  | cons c l => exact ⟨n, h1, h2⟩
theorem atoi_num (w : List UInt8) (h : numOk w = true) : Lib.atoiAll w = .ok (numV w) := by
  unfold numOk at h
  simp only [Bool.and_eq_true, decide_eq_true_eq] at h
  obtain ⟨⟨⟨h1, h2⟩, h3⟩, h4⟩ := h
  cases w with
  | nil => simp at h1
  | cons b r =>
    by_cases hb : b = 45
    · subst hb
      simp only [List.head?_cons, if_true, List.drop_succ_cons, List.drop_zero] at h1 h2 h3
      obtain ⟨n, e1, e2⟩ := decNat_valI r h3 (fun e => by rw [e] at h1; simp at h1)
      rw [Lib.atoiAll_short _ (by simp; omega)]
      have : Lib.atoi (45 :: r) = some (numV (45 :: r)) := by
        have ea : Lib.atoi (45 :: r) = (Lib.decNat r).map fun (m : Nat) => -(m : Int) := rfl
        rw [ea, e1]
        unfold numV
        simp [e2]
      rw [this]
      rfl
    · have hh : ((b :: r).head? = some 45) = False := by simp [hb]
      simp only [hh, if_false] at h1 h2 h3
      obtain ⟨n, e1, e2⟩ := decNat_valI (b :: r) h3 (by simp)
      rw [Lib.atoiAll_short _ (by omega)]
      have h43 : (b == 43) = false := by
        rw [beq_eq_false_iff_ne]
        intro e
        rw [e] at h3
        simp [isDg] at h3
      have : Lib.atoi (b :: r) = some (numV (b :: r)) := by
        have ea : Lib.atoi (b :: r) = (Lib.decNat (b :: r)).map fun (m : Nat) => (m : Int) := by
          have h45 : (b == 45) = false := by simpa using hb
          unfold Lib.atoi
          simp only [h45, h43, Bool.false_eq_true, if_false]
        rw [ea, e1]
        unfold numV
        rw [if_neg (by simp [hb])]
        simp [e2]
      rw [this]
      rfl
end Go.Proofs.YtnljpaohkkdjjaaGreatDoor
