/- The model's numbers (l15Number). -/
import Derived.Test.YtnljpaohkkdjjaaGreatDoorPlB
namespace Go.Proofs.YtnljpaohkkdjjaaGreatDoor
set_option linter.unusedVariables false
set_option linter.unusedSimpArgs false
open Go.RowKit

theorem numOk_neg (d : List UInt8) (h1 : 1 ≤ d.length) (h2 : d.length ≤ 15) : numOk (45 :: d) = decide (Lib.itoa (-valI d) = 45 :: d) ∧ numV (45 :: d) = -valI d := by
  have hne : d ≠ [] := fun e => by rw [e] at h1; simp at h1
  refine ⟨?_, by simp [numV]⟩
  unfold numOk
  simp only [List.head?_cons, if_true, List.drop_succ_cons, List.drop_zero, decide_eq_true h1, decide_eq_true h2, Bool.true_and]
  rw [Bool.eq_iff_iff, decide_eq_true_eq, num_neg d hne, Bool.and_eq_true, Bool.or_eq_true, decide_eq_true_eq, decide_eq_true_eq]
  constructor
  · rintro ⟨a, b | b⟩
    · simp at b
    · exact ⟨a, b⟩
  · rintro ⟨a, b⟩
    exact ⟨a, .inr b⟩
theorem numOk_pos (w : List UInt8) (h : w.head? ≠ some 45) (h1 : 1 ≤ w.length) (h2 : w.length ≤ 15) : numOk w = decide (Lib.itoa (valI w) = w) ∧ numV w = valI w := by
  have hne : w ≠ [] := fun e => by rw [e] at h1; simp at h1
  refine ⟨?_, by unfold numV; rw [if_neg h]⟩
  unfold numOk
  simp only [if_neg h, decide_eq_true h1, decide_eq_true h2, Bool.true_and]
  rw [Bool.eq_iff_iff, decide_eq_true_eq, num_pos w h hne, Bool.and_eq_true, Bool.or_eq_true, decide_eq_true_eq, decide_eq_true_eq]
theorem numOk_short (w : List UInt8) (h : ((if w.head? = some 45 then w.drop 1 else w).length < 1) ∨ 15 < (if w.head? = some 45 then w.drop 1 else w).length) : numOk w = false := by
  unfold numOk
  rcases h with h | h
  · simp only [decide_eq_false (Nat.not_le_of_lt h), Bool.false_and]
  · simp only [decide_eq_false (Nat.not_le_of_lt h), Bool.false_and, Bool.and_false]
theorem ext_data (s : ByteArray) (h : 0 < s.size) : (s.extract 1 s.size).data.toList = s.data.toList.drop 1 ∧ (s.extract 1 s.size).size = s.size - 1 := by
  constructor
  · rw [ByteArray.data_extract, Array.toList_extract, List.extract_eq_take_drop]
    rw [List.take_of_length_le (by rw [List.length_drop]; exact Nat.le_refl _)]
  · simp
theorem beq_mk (l : List UInt8) (s : ByteArray) : ((mk l).toList == s.toList) = decide (l = s.data.toList) := by
  rw [ByteArray.toList_eq, ByteArray.toList_eq, mk_toList]
  rw [Bool.eq_iff_iff]
  simp
set_option maxRecDepth 100000 in
set_option maxHeartbeats 1000000 in
theorem number_neg (s : ByteArray) (w : World) (hs : s.size ≤ 1048576) (h0 : 0 < s.size) (h45 : s[0] = 45) :
    Calls Tryz.prog 11 #[.string s] w fun e w' => ∃ V, e = .returned (.tuple #[.int .i64 V, .bool (numOk s.data.toList)]) ∧ (numOk s.data.toList = true → V = numV s.data.toList) ∧ Below w.heap.size w w' := by
  have hz : ((s[0].toNat : Int) == 45) = true := by rw [h45]; rfl
  have HH := hide (show s.data.toList = 45 :: s.data.toList.drop 1 from by
    have h1 := byte_at s 0 h0
    rw [h45] at h1
    cases hl : s.data.toList with
    | nil => rw [hl] at h1; simp at h1
    | cons a l => rw [hl] at h1; simp at h1; rw [h1]; rfl)
  have hex := ext_data s h0
  generalize hd : s.extract 1 s.size = d at hex
  have HX := hide hex
  have hdn := hex.2
  clear hex h45
  generalize hnk : numOk s.data.toList = nk
  have HNK := hide hnk
  clear hnk
  have HDL := hide (show d.data.toList.length = d.size from rfl)
  have hdn2 : d.size ≤ 1048576 := by omega
  have hlt : d.size < s.size := by omega
  have HSH := hide (show (d.size < 1 ∨ 15 < d.size) → nk = false from fun h => by
    rw [← HNK.out]
    apply numOk_short
    rw [HH.out]
    simp only [List.head?_cons, if_true, List.drop_succ_cons, List.drop_zero]
    rw [← HX.out.1, HDL.out]
    exact h)
  have HOK := hide (show 1 ≤ d.size → d.size ≤ 15 → ((mk (Lib.itoa (-valI d.data.toList))).toList == s.toList) = nk ∧ numV s.data.toList = -valI d.data.toList from fun h1 h2 => by
    have h3 := numOk_neg d.data.toList (by rw [HDL.out]; exact h1) (by rw [HDL.out]; exact h2)
    rw [beq_mk, ← HNK.out, HH.out, ← HX.out.1]
    exact ⟨h3.1.symm, h3.2⟩)
  by_cases ha : d.size < 1
  · have HF := hide (HSH.out (.inl ha))
    have hb : ((d.size : Nat) : Int) < 1 := by omega
    go_enter Tryz.func11, Tryz.ntmps11
    go_wp2
    go_ret2
    refine ⟨0, ret_val ?_, fun h => ?_, Below.refl _ _⟩
    · rw [HF.out]; rfl
    · rw [HF.out] at h; cases h
  by_cases hb : 15 < d.size
  · have HF := hide (HSH.out (.inr hb))
    have hb1 : ¬ ((d.size : Nat) : Int) < 1 := by omega
    have hb2 : (15 : Int) < ((d.size : Nat) : Int) := by omega
    go_enter Tryz.func11, Tryz.ntmps11
    go_wp2
    go_ret2
    refine ⟨0, ret_val ?_, fun h => ?_, Below.refl _ _⟩
    · rw [HF.out]; rfl
    · rw [HF.out] at h; cases h
  have hb1 : decide (((d.size : Nat) : Int) < 1) = false := by simp; omega
  have hb2 : decide ((15 : Int) < ((d.size : Nat) : Int)) = false := by simp; omega
  have HE := hide (HOK.out (by omega) (by omega))
  go_enter Tryz.func11, Tryz.ntmps11
  go_wp2
  clear hb1 hb2
  go_loop [5, 6] (fun v i => ∃ k : Nat, k ≤ d.size ∧ i = .int .i64 (k : Int) ∧ v = .int .i64 (valI (d.data.toList.take k))) (fun _ i => d.size - (intOf i).toNat)
  case atStart => exact ⟨0, by omega, rfl, rfl⟩
  case round =>
    obtain ⟨k, hk, rfl, rfl⟩ := hrel
    have hvb := valI_bound (d.data.toList.take k) (by have h : (d.data.toList.take k).length ≤ d.data.toList.length := List.length_take_le' _ _; rw [HDL.out] at h; omega)
    by_cases hlk : k < d.size
    · have HC := hide (byte_at d k hlk)
      have hcb : (d[k].toNat : Int) < 256 := by have := UInt8.toNat_lt d[k]; omega
      have HM := hide (valI_snoc (d.data.toList.take k) d[k])
      have HN := hide (show valI (d.data.toList.take (k + 1)) = valI (d.data.toList.take k) * 10 + (d[k].toNat : Int) - 48 from by rw [take_at HC.out]; exact HM.out)
      clear HM
      generalize valI (d.data.toList.take k) = v at hvb HN
      go_wp2
      go_round
      case rel => exact ⟨k + 1, by omega, by go_num, by rw [HN.out]⟩
      case measure => simp [intOf]; omega
    · have HT := hide (show valI (d.data.toList.take k) = valI d.data.toList from by rw [List.take_of_length_le (by rw [HDL.out]; omega)])
      rw [HT.out] at hvb
      rw [HT.out]
      have hbe := HE.out.1
      generalize hv : valI d.data.toList = v at hvb hbe HE
      clear hv
      go_wp2_with (go_at_call 21; refine (dec_any _ _ (by omega) (by omega)).mono ?_; rintro e w1 ⟨rfl, b1⟩; have B1 := hide b1; clear b1)
      go_ret2
      exact ⟨-v, rfl, fun _ => HE.out.2.symm, B1.out⟩

set_option maxRecDepth 100000 in
set_option maxHeartbeats 1000000 in
theorem number_pos (s : ByteArray) (w : World) (hs : s.size ≤ 1048576) (hcase : s.size = 0 ∨ ∃ h : 0 < s.size, s[0] ≠ 45) :
    Calls Tryz.prog 11 #[.string s] w fun e w' => ∃ V, e = .returned (.tuple #[.int .i64 V, .bool (numOk s.data.toList)]) ∧ (numOk s.data.toList = true → V = numV s.data.toList) ∧ Below w.heap.size w w' := by
  have hll : s.data.toList.length = s.size := rfl
  have HH := hide (show s.data.toList.head? ≠ some 45 from by
    rcases hcase with h | ⟨h, hne⟩
    · rw [show s.data.toList = [] from List.eq_nil_of_length_eq_zero (by rw [hll]; exact h)]; simp
    · have h1 := byte_at s 0 h
      rw [← List.head?_eq_getElem?] at h1
      rw [h1]
      simpa using hne)
  generalize hnk : numOk s.data.toList = nk
  have HNK := hide hnk
  clear hnk
  have HDL := hide hll
  have HSH := hide (show (s.size < 1 ∨ 15 < s.size) → nk = false from fun h => by
    rw [← HNK.out]
    apply numOk_short
    rw [if_neg HH.out, HDL.out]
    exact h)
  have HOK := hide (show 1 ≤ s.size → s.size ≤ 15 → ((mk (Lib.itoa (valI s.data.toList))).toList == s.toList) = nk ∧ numV s.data.toList = valI s.data.toList from fun h1 h2 => by
    have h3 := numOk_pos s.data.toList HH.out (by rw [HDL.out]; exact h1) (by rw [HDL.out]; exact h2)
    rw [beq_mk, ← HNK.out]
    exact ⟨h3.1.symm, h3.2⟩)
  by_cases hs0 : s.size < 1
  · have HF := hide (HSH.out (.inl hs0))
    have hs1 : ¬ (0 : Int) < (s.size : Int) := by omega
    clear hll hcase
    go_enter Tryz.func11, Tryz.ntmps11
    go_wp2
    go_ret2
    refine ⟨0, ret_val ?_, fun h => ?_, Below.refl _ _⟩
    · rw [HF.out]; rfl
    · rw [HF.out] at h; cases h
  have h0 : 0 < s.size := by omega
  have hz : ((s[0].toNat : Int) == 45) = false := by
    rcases hcase with h | ⟨h, hne⟩
    · omega
    · rw [beq_eq_false_iff_ne]
      intro e
      apply hne
      apply UInt8.toNat_inj.1
      have : (45 : UInt8).toNat = 45 := rfl
      omega
  have hs1 : (0 : Int) < (s.size : Int) := by omega
  clear hll hcase
  by_cases ha : s.size < 1
  · have HF := hide (HSH.out (.inl ha))
    have hb : ((s.size : Nat) : Int) < 1 := by omega
    go_enter Tryz.func11, Tryz.ntmps11
    go_wp2
    go_ret2
    refine ⟨0, ret_val ?_, fun h => ?_, Below.refl _ _⟩
    · rw [HF.out]; rfl
    · rw [HF.out] at h; cases h
  by_cases hb : 15 < s.size
  · have HF := hide (HSH.out (.inr hb))
    have hb1 : ¬ ((s.size : Nat) : Int) < 1 := by omega
    have hb2 : (15 : Int) < ((s.size : Nat) : Int) := by omega
    go_enter Tryz.func11, Tryz.ntmps11
    go_wp2
    go_ret2
    refine ⟨0, ret_val ?_, fun h => ?_, Below.refl _ _⟩
    · rw [HF.out]; rfl
    · rw [HF.out] at h; cases h
  have hb1 : decide (((s.size : Nat) : Int) < 1) = false := by simp; omega
  have hb2 : decide ((15 : Int) < ((s.size : Nat) : Int)) = false := by simp; omega
  have HE := hide (HOK.out (by omega) (by omega))
  go_enter Tryz.func11, Tryz.ntmps11
  go_wp2
  clear hb1 hb2
  go_loop [5, 6] (fun v i => ∃ k : Nat, k ≤ s.size ∧ i = .int .i64 (k : Int) ∧ v = .int .i64 (valI (s.data.toList.take k))) (fun _ i => s.size - (intOf i).toNat)
  case atStart => exact ⟨0, by omega, rfl, rfl⟩
  case round =>
    obtain ⟨k, hk, rfl, rfl⟩ := hrel
    have hvb := valI_bound (s.data.toList.take k) (by have h : (s.data.toList.take k).length ≤ s.data.toList.length := List.length_take_le' _ _; rw [HDL.out] at h; omega)
    by_cases hlk : k < s.size
    · have HC := hide (byte_at s k hlk)
      have hcb : (s[k].toNat : Int) < 256 := by have := UInt8.toNat_lt s[k]; omega
      have HM := hide (valI_snoc (s.data.toList.take k) s[k])
      have HN := hide (show valI (s.data.toList.take (k + 1)) = valI (s.data.toList.take k) * 10 + (s[k].toNat : Int) - 48 from by rw [take_at HC.out]; exact HM.out)
      clear HM
      generalize valI (s.data.toList.take k) = v at hvb HN
      go_wp2
      go_round
      case rel => exact ⟨k + 1, by omega, by go_num, by rw [HN.out]⟩
      case measure => simp [intOf]; omega
    · have HT := hide (show valI (s.data.toList.take k) = valI s.data.toList from by rw [List.take_of_length_le (by rw [HDL.out]; omega)])
      rw [HT.out] at hvb
      rw [HT.out]
      have hbe := HE.out.1
      generalize hv : valI s.data.toList = v at hvb hbe HE
      clear hv
      go_wp2_with (go_at_call 21; refine (dec_any _ _ (by omega) (by omega)).mono ?_; rintro e w1 ⟨rfl, b1⟩; have B1 := hide b1; clear b1)
      go_ret2
      exact ⟨v, rfl, fun _ => HE.out.2.symm, B1.out⟩

theorem number_any (s : ByteArray) (w : World) (hs : s.size ≤ 1048576) :
    Calls Tryz.prog 11 #[.string s] w fun e w' => ∃ V, e = .returned (.tuple #[.int .i64 V, .bool (numOk s.data.toList)]) ∧ (numOk s.data.toList = true → V = numV s.data.toList) ∧ Below w.heap.size w w' := by
  by_cases h0 : 0 < s.size
  · by_cases h45 : s[0] = 45
    · exact number_neg s w hs h0 h45
    · exact number_pos s w hs (.inr ⟨h0, h45⟩)
  · exact number_pos s w hs (.inl (by omega))
end Go.Proofs.YtnljpaohkkdjjaaGreatDoor
