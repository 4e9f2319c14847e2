/- The model's digits and modes (l15Digit, l15Mode). -/
import Derived.Test.YtnljpaohkkdjjaaGreatDoorTaA
namespace Go.Proofs.YtnljpaohkkdjjaaGreatDoor
set_option linter.unusedVariables false
set_option linter.unusedSimpArgs false
open Go.RowKit

/-- What a hexadecimal digit counts; -1 for any other byte. -/
def digI (c : Int) : Int := if 48 ≤ c ∧ c ≤ 57 then c - 48 else if 97 ≤ c ∧ c ≤ 102 then c - 87 else -1
theorem hxd_toNat (k : Nat) (h : k < 16) : ((hxd k).toNat : Int) = if (k : Int) < 10 then 48 + k else 87 + k := by
  have : k = 0 ∨ k = 1 ∨ k = 2 ∨ k = 3 ∨ k = 4 ∨ k = 5 ∨ k = 6 ∨ k = 7 ∨ k = 8 ∨ k = 9 ∨ k = 10 ∨ k = 11 ∨ k = 12 ∨ k = 13 ∨ k = 14 ∨ k = 15 := by omega
  rcases this with rfl | rfl | rfl | rfl | rfl | rfl | rfl | rfl | rfl | rfl | rfl | rfl | rfl | rfl | rfl | rfl <;> rfl
theorem digI_hit (k : Nat) (h : k < 16) (c : Int) (e : ((hxd k).toNat : Int) = c) : digI c = k := by
  rw [hxd_toNat k h] at e
  unfold digI
  split at e
  · rw [if_pos (by omega)]; omega
  · rw [if_neg (by omega), if_pos (by omega)]; omega
theorem digI_miss (c : Int) (h : ∀ k, k < 16 → ((hxd k).toNat : Int) ≠ c) : digI c = -1 := by
  unfold digI
  rw [if_neg (fun h1 => h (c - 48).toNat (by omega) (by rw [hxd_toNat _ (by omega), if_pos (by omega)]; omega)), if_neg (fun h1 => h (c - 87).toNat (by omega) (by rw [hxd_toNat _ (by omega), if_neg (by omega)]; omega))]
theorem digI_bd (c : Int) : -1 ≤ digI c ∧ digI c ≤ 15 := by
  unfold digI
  split
  · omega
  · split
    · omega
    · omega
set_option maxRecDepth 100000 in
theorem hex_atI (w : World) (n : Nat) (h1 : n < 16) : (Instr.index 9 (.string (⟨#[48, 49, 50, 51, 52, 53, 54, 55, 56, 57, 97, 98, 99, 100, 101, 102]⟩ : ByteArray)) (.int .i64 (n : Int))).run Tryz.prog w = .ok (.int .u8 ((hxd n).toNat : Int)) w := by
  match n, h1 with
  | 0, _ => rfl
  | 1, _ => rfl
  | 2, _ => rfl
  | 3, _ => rfl
  | 4, _ => rfl
  | 5, _ => rfl
  | 6, _ => rfl
  | 7, _ => rfl
  | 8, _ => rfl
  | 9, _ => rfl
  | 10, _ => rfl
  | 11, _ => rfl
  | 12, _ => rfl
  | 13, _ => rfl
  | 14, _ => rfl
  | 15, _ => rfl
  | n + 16, h => omega
set_option maxRecDepth 100000 in
set_option maxHeartbeats 1000000 in
theorem digit_any (c : Int) (w : World) (h0 : 0 ≤ c) (h1 : c < 256) :
    Calls Tryz.prog 22 #[.int .u8 c] w fun e w' => e = .returned (.int .i64 (digI c)) ∧ w' = w := by
  go_enter Tryz.func22, Tryz.ntmps22
  go_wp2
  go_loop [4] (fun i => ∃ k : Nat, k ≤ 16 ∧ i = .int .i64 (k : Int) ∧ Hid (∀ j, j < k → ((hxd j).toNat : Int) ≠ c)) (fun i => 16 - (intOf i).toNat)
  case atStart => exact ⟨0, by omega, rfl, fun j hj => by omega⟩
  case round =>
    obtain ⟨k, hk, rfl, HK⟩ := hrel
    by_cases hlt : k < 16
    · have hx := hex_atI w k hlt
      have HX := hide (digI_hit k hlt c)
      have HN := hide (show ((hxd k).toNat : Int) ≠ c → ∀ j, j < k + 1 → ((hxd j).toNat : Int) ≠ c from fun h j hj => by
        by_cases e : j = k
        · rw [e]; exact h
        · exact HK.out j (by omega))
      generalize ((hxd k).toNat : Int) = z at hx HX HN
      by_cases hz : (z == c) = true
      · have HE := hide (HX.out (by simpa using hz))
        go_wp2
        go_ret
        refine ⟨ret_val ?_, rfl⟩
        rw [HE.out]
        rfl
      · have hz : (z == c) = false := by simpa using hz
        have HN2 := hide (HN.out (by simpa using hz))
        go_wp2
        go_round
        case rel => exact ⟨k + 1, by omega, by go_num, HN2⟩
        case measure => simp [intOf]; omega
    · have HM := hide (digI_miss c (fun j hj => HK.out j (by omega)))
      go_wp2
      go_ret
      refine ⟨ret_val ?_, rfl⟩
      rw [HM.out]
      rfl
end Go.Proofs.YtnljpaohkkdjjaaGreatDoor
