/- A line's words are the same in the program and in the model: mathematics. -/
import Derived.Test.YtnljpaohkkdjjaaGreatDoorPlP
import Derived.Test.YtnljpaohkkdjjaaGreatDoorPlG
import Derived.Test.YtnljpaohkkdjjaaGreatDoorPlD
namespace Go.Proofs.YtnljpaohkkdjjaaGreatDoor
set_option linter.unusedVariables false
set_option linter.unusedSimpArgs false

theorem cut_snoc (c : UInt8) : ∀ l : List UInt8, ∃ P q, cutL c l = P ++ [q] ∧ cutL c (l ++ [c]) = P ++ [q] ++ [[]] ∧ ∀ x, x ≠ c → cutL c (l ++ [x]) = P ++ [q ++ [x]]
  | [] => ⟨[], [], rfl, by simp [cutL], fun x hx => by simp [cutL, hx]⟩
  | a :: l => by
    obtain ⟨P, q, h1, h2, h3⟩ := cut_snoc c l
    by_cases ha : a = c
    · refine ⟨[] :: P, q, ?_, ?_, fun x hx => ?_⟩
      · simp [cutL, ha, h1]
      · rw [List.cons_append]; simp only [cutL, if_pos ha]; rw [h2]; simp
      · rw [List.cons_append]; simp only [cutL, if_pos ha]; rw [h3 x hx]; simp
    · cases P with
      | nil =>
        refine ⟨[], a :: q, ?_, ?_, fun x hx => ?_⟩
        · simp [cutL, ha, h1]
        · rw [List.cons_append]; simp only [cutL, if_neg ha]; rw [h2]; rfl
        · rw [List.cons_append]; simp only [cutL, if_neg ha]; rw [h3 x hx]; rfl
      | cons h t =>
        refine ⟨(a :: h) :: t, q, ?_, ?_, fun x hx => ?_⟩
        · simp [cutL, ha, h1]
        · rw [List.cons_append]; simp only [cutL, if_neg ha]; rw [h2]; rfl
        · rw [List.cons_append]; simp only [cutL, if_neg ha]; rw [h3 x hx]; rfl
theorem last_inj {P P' : List (List UInt8)} {q q' : List UInt8} (h : P ++ [q] = P' ++ [q']) : P = P' ∧ q = q' := by
  have h1 := List.append_inj' h rfl
  exact ⟨h1.1, by simpa using h1.2⟩
/-- What is cut of the first k bytes, both ways. -/
theorem both_cut (s : ByteArray) : ∀ k, k ≤ s.size → ∃ P q, cutL 32 (s.data.toList.take k) = P ++ [q] ∧ (Spw.cutTo s k).1.map (fun x => s.extract x.1 x.2) = (P.filter neL).map mk ∧
    ((Spw.cutTo s k).2 = none ∧ q = [] ∨ ∃ a, (Spw.cutTo s k).2 = some a ∧ a < k ∧ q = (s.data.toList.drop a).take (k - a))
  | 0, _ => ⟨[], [], by simp [cutL], by simp [Spw.cutTo], .inl ⟨rfl, rfl⟩⟩
  | k + 1, hk => by
    obtain ⟨P, q, h1, h2, h3⟩ := both_cut s k (by omega)
    have hb := byte_at s k (by omega)
    have hg : s.get! k = s[k] := Chk.get_k s k (by omega)
    obtain ⟨P', q', e1, e2, e3⟩ := cut_snoc 32 (s.data.toList.take k)
    obtain ⟨rfl, rfl⟩ := last_inj (h1.symm.trans e1)
    by_cases h : s[k] = 32
    · rw [h] at hb
      have h47 : s.get! k = 32 := by rw [hg]; exact h
      refine ⟨P ++ [q], [], by rw [take_at hb]; exact e2, ?_, .inl ⟨?_, rfl⟩⟩
      · rcases h3 with ⟨hn, hq⟩ | ⟨a, hn, hak, hq⟩
        · rw [Spw.cutTo_slash_none s k h47 hn, h2, hq]
          simp [neL]
        · rw [Spw.cutTo_slash_some s k a h47 hn, List.map_append, h2, List.filter_append]
          have hne : neL q = true := by
            unfold neL
            cases hqq : q with
            | nil => rw [hqq] at hq; have := congrArg List.length hq; have hl : s.data.toList.length = s.size := rfl; simp at this; omega
            | cons _ _ => rfl
          simp [hne]
          rw [ext_mk s a k (by omega), ← hq]
      · rcases h3 with ⟨hn, hq⟩ | ⟨a, hn, hak, hq⟩
        · rw [Spw.cutTo_slash_none s k h47 hn]
        · rw [Spw.cutTo_slash_some s k a h47 hn]
    · have h47 : s.get! k ≠ 32 := by rw [hg]; exact h
      refine ⟨P, q ++ [s[k]], by rw [take_at hb]; exact e3 _ h, ?_, .inr ?_⟩
      · rcases h3 with ⟨hn, hq⟩ | ⟨a, hn, hak, hq⟩
        · rw [Spw.cutTo_more_none s k h47 hn]; exact h2
        · rw [Spw.cutTo_more_some s k a h47 hn]; exact h2
      · rcases h3 with ⟨hn, hq⟩ | ⟨a, hn, hak, hq⟩
        · refine ⟨k, by rw [Spw.cutTo_more_none s k h47 hn], by omega, ?_⟩
          rw [hq, show k + 1 - k = 1 by omega, drop_at hb]
          rfl
        · refine ⟨a, by rw [Spw.cutTo_more_some s k a h47 hn], by omega, ?_⟩
          rw [hq, show k + 1 - a = (k - a) + 1 by omega]
          rw [take_at (l := s.data.toList.drop a) (k := k - a) (c := s[k]) (by rw [List.getElem?_drop, show a + (k - a) = k by omega]; exact hb)]
theorem names_words (s : ByteArray) : Spw.names s = (wordsL s.data.toList).map mk := by
  obtain ⟨P, q, h1, h2, h3⟩ := both_cut s s.size (Nat.le_refl _)
  have hl : s.data.toList.take s.size = s.data.toList := List.take_of_length_le (Nat.le_refl _)
  rw [hl] at h1
  unfold wordsL Spw.names
  rw [h1, List.filter_append]
  rcases h3 with ⟨hn, hq⟩ | ⟨a, hn, hak, hq⟩
  · unfold Lib.closeSpans
    rw [hn, hq]
    simp only [h2]
    simp [neL]
  · have hne : neL q = true := by
      unfold neL
      cases hqq : q with
      | nil => rw [hqq] at hq; have := congrArg List.length hq; have hl : s.data.toList.length = s.size := rfl; simp at this; omega
      | cons _ _ => rfl
    unfold Lib.closeSpans
    rw [hn]
    simp only [List.map_append, h2]
    simp [hne]
    rw [ext_mk s a s.size (Nat.le_refl _), ← hq]
end Go.Proofs.YtnljpaohkkdjjaaGreatDoor
