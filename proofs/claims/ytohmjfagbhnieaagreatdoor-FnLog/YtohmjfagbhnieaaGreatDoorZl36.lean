/- The model reads pieces: l11Unsigned, l11Part. -/
import Derived.Test.YtohmjfagbhnieaaGreatDoorZl26
import Derived.Test.YtohmjfagbhnieaaGreatDoorZl18
namespace Go.Proofs.YtohmjfagbhnieaaGreatDoor
set_option linter.unusedVariables false
set_option linter.unusedSimpArgs false
open Go.RowKit

theorem unle_dropU (ts : List Int) (hbd : ∀ z ∈ ts, 0 ≤ z ∧ z < 256) (hl : ts.length = 8) (j : Nat) (hj : 1 ≤ j) : unle (ts.drop j) < 72057594037927936 := by
  have h1 := unle_lt (ts.drop j) (fun z hz => hbd z (List.mem_of_mem_drop hz))
  rw [List.length_drop, hl] at h1
  have h2 : 256 ^ (8 - j) ≤ 256 ^ 7 := Nat.pow_le_pow_right (by decide) (by omega)
  omega
theorem rd_take {w : World} {b off L cap : Nat} {ts : List Int} (h : Rd .u8 w (.slice (some ⟨b, off, none⟩) L cap) ts) (i n c : Nat) (hn : i + n ≤ ts.length) (hc : n ≤ c) (hc2 : c ≤ maxLen) : Rd .u8 w (.slice (some ⟨b, off + i, none⟩) n c) ((ts.drop i).take n) := by
  obtain ⟨a, cp, e, hm, hcell, h1, h2⟩ := h
  injection e with e1 e2 e3
  subst e1
  have hl : ((ts.drop i).take n).length = n := by rw [List.length_take, List.length_drop]; omega
  refine ⟨_, _, by rw [hl], by rw [hl]; omega, fun hne => ?_, by rw [hl]; exact hc, hc2⟩
  have hne2 : ts ≠ [] := by rintro rfl; simp at hne
  obtain ⟨b', off', e, hlt, hc3⟩ := hcell hne2
  injection e with e
  injection e with e4 e5
  subst e4 e5
  refine ⟨_, _, rfl, hlt, fun j hj => ?_⟩
  rw [hl] at hj
  rw [Nat.add_assoc, hc3 (i + j) (by omega)]
  congr 2
  simp [List.getD_eq_getElem?_getD, List.getElem?_take, List.getElem?_drop, hj]
theorem rd_empty (w : World) (a : Option Addr) (c : Nat) (hc : c ≤ maxLen) : Rd .u8 w (.slice a 0 c) [] := ⟨a, c, rfl, by simp, fun h => absurd rfl h, by simp, hc⟩
end Go.Proofs.YtohmjfagbhnieaaGreatDoor
