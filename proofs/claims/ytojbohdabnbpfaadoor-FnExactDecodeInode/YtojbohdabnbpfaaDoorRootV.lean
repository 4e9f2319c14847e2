/- Bytes that are a root, read by the program and by the model: the same. -/
import Derived.Test.YtojbohdabnbpfaaDoorRootU
import Derived.Test.YtojbohdabnbpfaaDoorRootH

namespace Go.Proofs.YtojbohdabnbpfaaDoor
set_option linter.unusedVariables false
set_option linter.unusedSimpArgs false
open Go.RowKit

theorem le_unle : ∀ (ts : List Int), (∀ z ∈ ts, 0 ≤ z ∧ z < 256) → le ts.length (unle ts) = ts
  | [], _ => rfl
  | z :: ts, h => by
    have h1 := h z (by simp)
    have ih := le_unle ts (fun y hy => h y (by simp [hy]))
    rw [List.length_cons, le, unle]
    obtain ⟨n, rfl⟩ := Int.eq_ofNat_of_zero_le h1.1
    have hn : n < 256 := by omega
    rw [Int.toNat_natCast, show (n + 256 * unle ts) % 256 = n from by omega, show (n + 256 * unle ts) / 256 = unle ts from by omega, ih]
theorem bytes_cut {zs : List Int} (h : ∀ z ∈ zs, 0 ≤ z ∧ z < 256) (lo n : Nat) : ∀ z ∈ (zs.drop lo).take n, 0 ≤ z ∧ z < 256 := fun z hz => h z (List.mem_of_mem_drop (List.mem_of_mem_take hz))
theorem bytesW_words (zs : List Int) (p : Nat) (h : ∀ z ∈ zs, 0 ≤ z ∧ z < 256) : ∀ n, p + 4 * n ≤ zs.length → bytesW (wordsFrom zs p n) = (zs.drop p).take (4 * n)
  | 0, _ => by simp [wordsFrom, bytesW]
  | n + 1, hl => by
    have ih := bytesW_words zs p h n (by omega)
    rw [wordsFrom_succ, bytesW_append, ih]
    have hlen : ((zs.drop (p + 4 * n)).take 4).length = 4 := by simp; omega
    have h1 : bytesW [((unle ((zs.drop (p + 4 * n)).take 4) : Nat) : Int)] = (zs.drop (p + 4 * n)).take 4 := by
      have h2 := le_unle _ (bytes_cut h (p + 4 * n) 4)
      rw [hlen] at h2
      unfold bytesW
      simp only [List.flatMap_cons, List.flatMap_nil, List.append_nil, Int.toNat_natCast]
      exact h2
    rw [h1, show 4 * (n + 1) = 4 * n + 4 from by omega, List.take_add, List.drop_drop]
theorem gval4 (zs : List Int) (h : ∀ z ∈ zs, 0 ≤ z ∧ z < 256) (lo : Nat) : gval ((zs.drop lo).take 4) = unle ((zs.drop lo).take 4) := by
  apply gval_small
  have h1 := unle_lt _ (bytes_cut h lo 4)
  have h2 : ((zs.drop lo).take 4).length ≤ 4 := by simp; omega
  have h3 : 256 ^ ((zs.drop lo).take 4).length ≤ 256 ^ 4 := Nat.pow_le_pow_right (by decide) h2
  omega
theorem gwords_words (zs : List Int) (h : ∀ z ∈ zs, 0 ≤ z ∧ z < 256) (n : Nat) : gwords zs n = wordsFrom zs 8 n := by
  unfold gwords wordsFrom
  congr 1
  funext i
  rw [gval4 zs h]
theorem rightR_size {s : Int} {ds : List Int} {p q : Int} (h : s < 0 ∨ 262144 < s) : rightR s ds p q = false := by
  unfold rightR
  rcases h with h | h
  · rw [decide_eq_false (show ¬ 0 ≤ s by omega)]; rfl
  · rw [decide_eq_false (show ¬ s ≤ 262144 by omega), Bool.and_false]; rfl

/-- What the program reads is what the model reads. -/
theorem root_agree (zs : List Int) (s : Int) (ds : List Int) (p q : Int) (h : ∀ z ∈ zs, 0 ≤ z ∧ z < 256) (hz : zs.length = 64) (hd : ds.length = 12) (hr : RootAt zs 0 s ds p q) :
    ds = gwords zs 12 ∧ p = ((gval ((zs.drop 56).take 4) : Nat) : Int) ∧ q = ((gval ((zs.drop 60).take 4) : Nat) : Int) ∧ (rightR s ds p q = rightR ((gval (zs.take 8) : Nat) : Int) ds p q) ∧
      (rightR s ds p q = true → s = ((gval (zs.take 8) : Nat) : Int) ∧ bytesR s ds p q = zs) := by
  obtain ⟨h1, h2⟩ := hr
  rw [Nat.zero_add] at h2
  rw [List.drop_zero] at h1
  have h3 : wordsFrom zs 8 14 = gwords zs 12 ++ [((gval ((zs.drop 56).take 4) : Nat) : Int), ((gval ((zs.drop 60).take 4) : Nat) : Int)] := by
    rw [wordsFrom_succ, wordsFrom_succ, gwords_words zs h, gval4 zs h, gval4 zs h]
    simp
  have h2' := h2
  rw [h3] at h2'
  obtain ⟨e1, e2⟩ := List.append_inj h2' (by rw [hd, gwords_len])
  simp at e2
  have hb8 : ∀ z ∈ zs.take 8, 0 ≤ z ∧ z < 256 := fun z hz => h z (List.mem_of_mem_take hz)
  have hX := unle_lt (zs.take 8) hb8
  have hl8 : (zs.take 8).length = 8 := by simp; omega
  rw [hl8] at hX
  have hle := le_unle (zs.take 8) hb8
  rw [hl8] at hle
  have hw := bytesW_words zs 8 h 14 (by omega)
  have hbig : (256 : Nat) ^ 8 = 18446744073709551616 := by decide
  rw [hbig] at hX
  refine ⟨e1, e2.1, e2.2, ?_, ?_⟩
  · by_cases hs : unle (zs.take 8) < 18014398509481984
    · rw [gval_small _ hs, h1]
      congr 1
      unfold wrap64
      omega
    · rw [rightR_size (s := s), rightR_size]
      · right
        unfold gval
        rw [if_pos (by omega)]
        decide
      · rw [h1]
        unfold wrap64
        omega
  · intro hR
    have hs : unle (zs.take 8) < 18014398509481984 := by
      refine Classical.byContradiction fun hn => ?_
      rw [rightR_size (s := s)] at hR
      · cases hR
      · rw [h1]
        unfold wrap64
        omega
    have hsx : s = ((unle (zs.take 8) : Nat) : Int) := by
      rw [h1]
      unfold wrap64
      omega
    refine ⟨by rw [gval_small _ hs, hsx], ?_⟩
    unfold bytesR
    rw [hsx, Int.toNat_natCast, hle, h2, hw]
    rw [List.take_of_length_le (show (zs.drop 8).length ≤ 4 * 14 by simp; omega)]
    exact List.take_append_drop 8 zs
end Go.Proofs.YtojbohdabnbpfaaDoor
