/- EncodeSnap of the program. -/
import Derived.Test.YtfkmnmopkblopaaGreatDoorZs23
namespace Go.Proofs.YtfkmnmopkblopaaGreatDoor
set_option linter.unusedVariables false
set_option linter.unusedSimpArgs false
open Go.RowKit

def encS (pl : Int) (nm : ByteArray) (ge cl s : Int) (ds : List Int) (p q : Int) : List Int := if rightS pl nm ge cl s ds p q = true then sealed (bytesS pl.toNat nm ge.toNat cl.toNat s ds p q) else []
def codeS (pl : Int) (nm : ByteArray) (ge cl s : Int) (ds : List Int) (p q : Int) : Int := if rightS pl nm ge cl s ds p q = true then 0 else 7
theorem le_few : ∀ (m n : Nat), ∀ z ∈ le m n, 0 ≤ z ∧ z < 256
  | 0, _, z, h => by cases h
  | m + 1, n, z, h => by
    rw [le, List.mem_cons] at h
    rcases h with rfl | h
    · omega
    · exact le_few m _ z h
theorem bytesS_bd (a : Nat) (nm : ByteArray) (b c : Nat) (s : Int) (ds : List Int) (p q : Int) : ∀ z ∈ bytesS a nm b c s ds p q, 0 ≤ z ∧ z < 256 := by
  intro z h
  unfold bytesS at h
  simp only [List.mem_append] at h
  rcases h with ((((((h | h) | h) | h) | h) | h) | h) | h
  · simp only [snapLet, List.mem_cons, List.not_mem_nil, or_false] at h
    omega
  · exact le_few _ _ z h
  · exact le_few _ _ z h
  · exact strInts_bd nm z h
  · rw [(List.mem_replicate.1 h).2]; omega
  · exact le_few _ _ z h
  · exact le_few _ _ z h
  · unfold bytesR bytesW at h
    rw [List.mem_append] at h
    rcases h with h | h
    · exact le_few _ _ z h
    · obtain ⟨v, _, hv⟩ := List.mem_flatMap.1 h
      exact le_few _ _ z hv
theorem chk_size {nm : ByteArray} (h : (Chk.chkS nm == 0) = true) : nm.size ≤ 26 ∧ 0 < nm.size := by
  have h0 : Chk.chkS nm = 0 := by simpa using h
  unfold Chk.chkS at h0
  split at h0
  · omega
  · rename_i hn
    split at h0
    · omega
    · refine ⟨by omega, ?_⟩
      rcases Nat.eq_zero_or_pos nm.size with hz | hz
      · exact absurd (.inl (by rw [ByteArray.toList_eq]; exact List.eq_nil_of_length_eq_zero (by rw [Array.length_toList]; exact hz))) hn
      · exact hz
theorem snap_bd {pl : Int} {nm : ByteArray} {ge cl s : Int} {ds : List Int} {p q : Int} (hd : ds.length = 12) (h : rightS pl nm ge cl s ds p q = true) : (0 ≤ pl ∧ pl < 256) ∧ (nm.size ≤ 26 ∧ 0 < nm.size) ∧ (0 ≤ ge ∧ ge < 281474976710656) ∧ (0 ≤ cl ∧ cl < 281474976710656) ∧ (0 ≤ s ∧ s ≤ 262144) ∧ ∀ z ∈ ds ++ [p, q], 0 ≤ z ∧ z < 2048 := by
  unfold rightS at h
  simp only [Bool.and_eq_true] at h
  obtain ⟨⟨⟨⟨h1, h2⟩, h3⟩, h4⟩, h5, _⟩ := h
  have g1 := wi_true h1
  have g3 := wi_true h3
  have g4 := wi_true h4
  have g5 := right_bd hd h5
  exact ⟨by omega, chk_size h2, by omega, by omega, g5.1, g5.2⟩

theorem encS_len (pl : Int) (nm : ByteArray) (ge cl s : Int) (ds : List Int) (p q : Int) (hd : ds.length = 12) : (encS pl nm ge cl s ds p q).length ≤ 512 := by
  unfold encS
  split
  · rename_i h
    rw [sealed_len _ (by rw [bytesS_len _ _ _ _ _ _ _ _ hd (snap_bd hd h).2.1.1]; omega)]
    omega
  · simp
end Go.Proofs.YtfkmnmopkblopaaGreatDoor
