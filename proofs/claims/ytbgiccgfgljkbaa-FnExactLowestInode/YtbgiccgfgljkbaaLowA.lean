/- LowestInode, the program's and the model's: one text, walked twice. -/
import Derived.Test.YtbgiccgfgljkbaaTabA
namespace Go.Proofs.Ytbgiccgfgljkbaa
set_option linter.unusedVariables false
set_option linter.unusedSimpArgs false
open Go.RowKit

/-- From number k on, m more: the least that is free or lacking, or 0. -/
def lowG (zs : List Int) (n : Nat) : Nat → Nat → Nat
  | 0, _ => 0
  | m + 1, k => if n ≤ k ∨ zs.getD (k * 24) 0 = 0 then k else lowG zs n m (k + 1)
theorem lowG_stop (zs : List Int) (n k : Nat) (hk : k < 1001) (h : n ≤ k ∨ zs.getD (k * 24) 0 = 0) : lowG zs n (1001 - k) k = k := by
  have e : 1001 - k = (1001 - (k + 1)) + 1 := by omega
  rw [e, lowG, if_pos h]
theorem lowG_next (zs : List Int) (n k : Nat) (hk : k < 1001) (h : ¬ (n ≤ k ∨ zs.getD (k * 24) 0 = 0)) : lowG zs n (1001 - k) k = lowG zs n (1001 - (k + 1)) (k + 1) := by
  have e : 1001 - k = (1001 - (k + 1)) + 1 := by omega
  rw [e, lowG, if_neg h]

set_option maxRecDepth 100000 in
theorem implLow_any (v : Value) (n : Nat) (zs : List Int) (w : World) (h : RdT w v n zs) :
    Calls Try.prog 22 #[v] w fun e w' => e = .returned (.int .i64 (lowG zs n 999 2)) ∧ w' = w := by
  have hm := h.len
  have hz := h.1
  unfold maxLen at hm
  rcases h.parts with ⟨a, cap, rfl, hlow⟩ | ⟨b, off, cap, rfl, hbw, hcell⟩
  all_goals
    clear h
    go_enter Try.func22, Try.ntmps22
    go_wp2
    go_loop [3] (fun i => ∃ k : Nat, 2 ≤ k ∧ k ≤ 1001 ∧ i = .int .i64 k ∧ lowG zs n 999 2 = lowG zs n (1001 - k) k) (fun i => 1001 - (intOf i).toNat)
    case atStart => exact ⟨2, by omega, by omega, rfl, rfl⟩
    case round =>
      obtain ⟨k, hk2, hk, rfl, he⟩ := hrel
      have HE := hide he
      clear he
      by_cases hlt : k < 1001
      · by_cases hn : n ≤ k
        · have HS := hide (HE.out.trans (lowG_stop zs n k hlt (.inl hn)))
          go_wp2
          go_ret
          exact ⟨ret_int (by rw [HS.out]), rfl⟩
        · first
          | omega
          | (have c1 := hcell (k * 24) (by omega)
             by_cases hf : zs.getD (k * 24) 0 = 0
             · have HS := hide (HE.out.trans (lowG_stop zs n k hlt (.inr hf)))
               rw [hf] at c1
               clear hcell hf
               go_wp2
               go_ret
               exact ⟨ret_int (by rw [HS.out]), rfl⟩
             · have HS := hide (HE.out.trans (lowG_next zs n k hlt (by omega)))
               generalize zs.getD (k * 24) 0 = z at c1 hf
               have hb : (z == 0) = false := by simpa using hf
               clear hcell
               go_wp2
               go_round
               case rel => exact ⟨k + 1, by omega, by omega, by go_num, HS.out⟩
               case measure => simp [intOf]; omega)
      · have hk1 : k = 1001 := by omega
        subst hk1
        have HS := hide (HE.out.trans (show lowG zs n (1001 - 1001) 1001 = 0 from rfl))
        go_wp2
        go_ret
        exact ⟨ret_int (by rw [HS.out]; rfl), rfl⟩

set_option maxRecDepth 100000 in
theorem specLow_any (v : Value) (n : Nat) (zs : List Int) (w : World) (h : RdT w v n zs) :
    Calls Try.prog 20 #[v] w fun e w' => e = .returned (.int .i64 (lowG zs n 999 2)) ∧ w' = w := by
  have hm := h.len
  have hz := h.1
  unfold maxLen at hm
  rcases h.parts with ⟨a, cap, rfl, hlow⟩ | ⟨b, off, cap, rfl, hbw, hcell⟩
  all_goals
    clear h
    go_enter Try.func20, Try.ntmps20
    go_wp2
    go_loop [3] (fun i => ∃ k : Nat, 2 ≤ k ∧ k ≤ 1001 ∧ i = .int .i64 k ∧ lowG zs n 999 2 = lowG zs n (1001 - k) k) (fun i => 1001 - (intOf i).toNat)
    case atStart => exact ⟨2, by omega, by omega, rfl, rfl⟩
    case round =>
      obtain ⟨k, hk2, hk, rfl, he⟩ := hrel
      have HE := hide he
      clear he
      by_cases hlt : k < 1001
      · by_cases hn : n ≤ k
        · have HS := hide (HE.out.trans (lowG_stop zs n k hlt (.inl hn)))
          go_wp2
          go_ret
          exact ⟨ret_int (by rw [HS.out]), rfl⟩
        · first
          | omega
          | (have c1 := hcell (k * 24) (by omega)
             by_cases hf : zs.getD (k * 24) 0 = 0
             · have HS := hide (HE.out.trans (lowG_stop zs n k hlt (.inr hf)))
               rw [hf] at c1
               clear hcell hf
               go_wp2
               go_ret
               exact ⟨ret_int (by rw [HS.out]), rfl⟩
             · have HS := hide (HE.out.trans (lowG_next zs n k hlt (by omega)))
               generalize zs.getD (k * 24) 0 = z at c1 hf
               have hb : (z == 0) = false := by simpa using hf
               clear hcell
               go_wp2
               go_round
               case rel => exact ⟨k + 1, by omega, by omega, by go_num, HS.out⟩
               case measure => simp [intOf]; omega)
      · have hk1 : k = 1001 := by omega
        subst hk1
        have HS := hide (HE.out.trans (show lowG zs n (1001 - 1001) 1001 = 0 from rfl))
        go_wp2
        go_ret
        exact ⟨ret_int (by rw [HS.out]; rfl), rfl⟩
end Go.Proofs.Ytbgiccgfgljkbaa
