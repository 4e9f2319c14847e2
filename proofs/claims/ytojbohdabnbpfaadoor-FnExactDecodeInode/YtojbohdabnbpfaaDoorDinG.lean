/- DecodeInode of the model: what it tells; the law on DecodeInode, walked. -/
import Derived.Test.YtojbohdabnbpfaaDoorDinD
import Derived.Test.YtojbohdabnbpfaaDoorDinE
import Derived.Test.YtojbohdabnbpfaaDoorDinF
namespace Go.Proofs.YtojbohdabnbpfaaDoor
set_option linter.unusedVariables false
set_option linter.unusedSimpArgs false
open Go.RowKit

theorem le_bd : ∀ (m n : Nat), ∀ z ∈ le m n, 0 ≤ z ∧ z < 256
  | 0, _, z, h => by cases h
  | m + 1, n, z, h => by
    rw [le, List.mem_cons] at h
    rcases h with rfl | h
    · omega
    · exact le_bd m _ z h
theorem rep_bd (n : Nat) : ∀ z ∈ List.replicate n (0 : Int), 0 ≤ z ∧ z < 256 := fun z h => by rw [(List.mem_replicate.1 h).2]; omega
theorem bytesR_bd (s : Int) (ds : List Int) (p q : Int) : ∀ z ∈ bytesR s ds p q, 0 ≤ z ∧ z < 256 := by
  intro z h
  unfold bytesR bytesW at h
  rw [List.mem_append] at h
  rcases h with h | h
  · exact le_bd _ _ z h
  · obtain ⟨v, _, hv⟩ := List.mem_flatMap.1 h
    exact le_bd _ _ z hv
theorem encI_bd (k0 k1 k2 k3 k4 k5 k6 k7 k8 s : Int) (ds : List Int) (p q : Int) : ∀ z ∈ encI k0 k1 k2 k3 k4 k5 k6 k7 k8 s ds p q, 0 ≤ z ∧ z < 256 := by
  intro z h
  unfold encI at h
  split at h
  · unfold bytesIno at h
    simp only [List.mem_append] at h
    rcases h with (((((((((((h | h) | h) | h) | h) | h) | h) | h) | h) | h) | h) | h) | h
    all_goals first | exact le_bd _ _ z h | exact rep_bd _ z h | exact bytesR_bd _ _ _ _ z h
  · cases h
theorem zero_rightR {s : Int} {ds : List Int} {p q : Int} (hd : ds.length = 12) (hs : s = 0) (hp : ∀ z ∈ ds ++ [p, q], z = 0) : rightR s ds p q = true := by
  obtain ⟨d0, d1, d2, d3, d4, d5, d6, d7, d8, d9, d10, d11, rfl⟩ := list12 hd
  simp only [List.cons_append, List.nil_append, List.forall_mem_cons] at hp
  obtain ⟨rfl, rfl, rfl, rfl, rfl, rfl, rfl, rfl, rfl, rfl, rfl, rfl, rfl, rfl, _⟩ := hp
  subst hs
  decide
theorem rightIno_root {k0 k1 k2 k3 k4 k5 k6 k7 k8 s : Int} {ds : List Int} {p q : Int} (hd : ds.length = 12) (h : rightIno k0 k1 k2 k3 k4 k5 k6 k7 k8 s ds p q = true) : rightR s ds p q = true := by
  unfold rightIno at h
  rw [Bool.or_eq_true] at h
  rcases h with h | h
  · rw [zeroB_iff] at h
    refine zero_rightR hd (h s (by simp [inoI, rootI])) (fun z hz => h z ?_)
    unfold inoI rootI
    exact List.mem_append_right _ (List.mem_cons_of_mem _ hz)
  · rw [Bool.and_eq_true] at h
    exact h.2
theorem eight_right (ts : List Int) (hX : unle ts < 18446744073709551616) (h : (((gval ts : Nat) : Int) : Int) < 281474976710656) : gval ts = unle ts := by
  rcases eight ts hX with ⟨_, e⟩ | ⟨_, h0, _, h1⟩
  · exact e
  · unfold gval at h ⊢
    split
    · rename_i hc
      rw [if_pos hc] at h
      exact absurd h (by decide)
    · rfl
theorem enc_gaps (zs : List Int) (h : ∀ z ∈ zs, 0 ≤ z ∧ z < 256) (hz : zs.length = 128) (hR : rightIno (zs.getD 0 0) ((gval ((zs.drop 2).take 2) : Nat) : Int) ((gval ((zs.drop 4).take 2) : Nat) : Int) ((gval ((zs.drop 6).take 2) : Nat) : Int) ((gval ((zs.drop 8).take 2) : Nat) : Int) ((gval ((zs.drop 12).take 4) : Nat) : Int) ((gval ((zs.drop 16).take 8) : Nat) : Int) ((gval ((zs.drop 24).take 8) : Nat) : Int) ((gval ((zs.drop 32).take 8) : Nat) : Int) ((gval (((zs.drop 40).take 64).take 8) : Nat) : Int) (gwords ((zs.drop 40).take 64) 12) ((gval ((((zs.drop 40).take 64).drop 56).take 4) : Nat) : Int) ((gval ((((zs.drop 40).take 64).drop 60).take 4) : Nat) : Int) = true) : decide (encI (zs.getD 0 0) ((gval ((zs.drop 2).take 2) : Nat) : Int) ((gval ((zs.drop 4).take 2) : Nat) : Int) ((gval ((zs.drop 6).take 2) : Nat) : Int) ((gval ((zs.drop 8).take 2) : Nat) : Int) ((gval ((zs.drop 12).take 4) : Nat) : Int) ((gval ((zs.drop 16).take 8) : Nat) : Int) ((gval ((zs.drop 24).take 8) : Nat) : Int) ((gval ((zs.drop 32).take 8) : Nat) : Int) ((gval (((zs.drop 40).take 64).take 8) : Nat) : Int) (gwords ((zs.drop 40).take 64) 12) ((gval ((((zs.drop 40).take 64).drop 56).take 4) : Nat) : Int) ((gval ((((zs.drop 40).take 64).drop 60).take 4) : Nat) : Int) = zs) = gapsZ zs := by
  have hzp : ((zs.drop 40).take 64).length = 64 := by simp; omega
  have hbp : ∀ z ∈ ((zs.drop 40).take 64), 0 ≤ z ∧ z < 256 := bytes_cut h 40 64
  have hroot := spec_bytes ((zs.drop 40).take 64) hbp hzp (rightIno_root (gwords_len _ 12) hR)
  obtain ⟨b0, b1, b2, b3, b4, b5, b6, b7, b8, bs, bp⟩ := ino_bd (gwords_len _ 12) hR
  have e6 := eight_right _ (unle8_lt zs h 16) b6.2
  have e7 := eight_right _ (unle8_lt zs h 24) b7.2
  have e8 := eight_right _ (unle8_lt zs h 32) b8.2
  have he : encI (zs.getD 0 0) ((gval ((zs.drop 2).take 2) : Nat) : Int) ((gval ((zs.drop 4).take 2) : Nat) : Int) ((gval ((zs.drop 6).take 2) : Nat) : Int) ((gval ((zs.drop 8).take 2) : Nat) : Int) ((gval ((zs.drop 12).take 4) : Nat) : Int) ((gval ((zs.drop 16).take 8) : Nat) : Int) ((gval ((zs.drop 24).take 8) : Nat) : Int) ((gval ((zs.drop 32).take 8) : Nat) : Int) ((gval (((zs.drop 40).take 64).take 8) : Nat) : Int) (gwords ((zs.drop 40).take 64) 12) ((gval ((((zs.drop 40).take 64).drop 56).take 4) : Nat) : Int) ((gval ((((zs.drop 40).take 64).drop 60).take 4) : Nat) : Int) = bytesIno (zs.getD 0 0).toNat ((gval ((zs.drop 2).take 2) : Nat) : Int).toNat ((gval ((zs.drop 4).take 2) : Nat) : Int).toNat ((gval ((zs.drop 6).take 2) : Nat) : Int).toNat ((gval ((zs.drop 8).take 2) : Nat) : Int).toNat ((gval ((zs.drop 12).take 4) : Nat) : Int).toNat ((gval ((zs.drop 16).take 8) : Nat) : Int).toNat ((gval ((zs.drop 24).take 8) : Nat) : Int).toNat ((gval ((zs.drop 32).take 8) : Nat) : Int).toNat ((gval (((zs.drop 40).take 64).take 8) : Nat) : Int) (gwords ((zs.drop 40).take 64) 12) ((gval ((((zs.drop 40).take 64).drop 56).take 4) : Nat) : Int) ((gval ((((zs.drop 40).take 64).drop 60).take 4) : Nat) : Int) := by
    unfold encI
    rw [if_pos hR]
  cases hg : gapsZ zs with
  | true =>
    have hw := bytes_whole zs h hz hg _ _ _ _ hroot
    rw [decide_eq_true_eq, he, kind_one zs h hz]
    simp only [Int.toNat_natCast]
    rw [gval_few zs h 2 2 (by omega), gval_few zs h 4 2 (by omega), gval_few zs h 6 2 (by omega), gval_few zs h 8 2 (by omega), gval_few zs h 12 4 (by omega), e6, e7, e8]
    exact hw
  | false =>
    rw [decide_eq_false_iff_not]
    intro hn
    rw [he] at hn
    have := gaps_bytes (zs.getD 0 0).toNat ((gval ((zs.drop 2).take 2) : Nat) : Int).toNat ((gval ((zs.drop 4).take 2) : Nat) : Int).toNat ((gval ((zs.drop 6).take 2) : Nat) : Int).toNat ((gval ((zs.drop 8).take 2) : Nat) : Int).toNat ((gval ((zs.drop 12).take 4) : Nat) : Int).toNat ((gval ((zs.drop 16).take 8) : Nat) : Int).toNat ((gval ((zs.drop 24).take 8) : Nat) : Int).toNat ((gval ((zs.drop 32).take 8) : Nat) : Int).toNat ((gval (((zs.drop 40).take 64).take 8) : Nat) : Int) (gwords ((zs.drop 40).take 64) 12) ((gval ((((zs.drop 40).take 64).drop 56).take 4) : Nat) : Int) ((gval ((((zs.drop 40).take 64).drop 60).take 4) : Nat) : Int) (gwords_len _ 12)
    rw [hn, hg] at this
    cases this

theorem specDI_any (v : Value) (zs : List Int) (w : World) (h : Rd .u8 w v zs) (hbd : ∀ z ∈ zs, 0 ≤ z ∧ z < 256) :
    Calls Tryd.prog 30 #[v] w fun e w' => e = .returned (.tuple #[.agg (cellsI (decI zs)), .int .i64 (codeDI zs)]) ∧ Below w.heap.size w w' := by
  by_cases hz : zs.length = 128
  · obtain ⟨d0, d1, d2, d3, d4, d5, d6, d7, d8, d9, d10, d11, ed⟩ := list12 (gwords_len ((zs.drop 40).take 64) 12)
    have hok : okDI zs = (rightIno (zs.getD 0 0) ((gval ((zs.drop 2).take 2) : Nat) : Int) ((gval ((zs.drop 4).take 2) : Nat) : Int) ((gval ((zs.drop 6).take 2) : Nat) : Int) ((gval ((zs.drop 8).take 2) : Nat) : Int) ((gval ((zs.drop 12).take 4) : Nat) : Int) ((gval ((zs.drop 16).take 8) : Nat) : Int) ((gval ((zs.drop 24).take 8) : Nat) : Int) ((gval ((zs.drop 32).take 8) : Nat) : Int) ((gval (((zs.drop 40).take 64).take 8) : Nat) : Int) (gwords ((zs.drop 40).take 64) 12) ((gval ((((zs.drop 40).take 64).drop 56).take 4) : Nat) : Int) ((gval ((((zs.drop 40).take 64).drop 60).take 4) : Nat) : Int) && decide (encI (zs.getD 0 0) ((gval ((zs.drop 2).take 2) : Nat) : Int) ((gval ((zs.drop 4).take 2) : Nat) : Int) ((gval ((zs.drop 6).take 2) : Nat) : Int) ((gval ((zs.drop 8).take 2) : Nat) : Int) ((gval ((zs.drop 12).take 4) : Nat) : Int) ((gval ((zs.drop 16).take 8) : Nat) : Int) ((gval ((zs.drop 24).take 8) : Nat) : Int) ((gval ((zs.drop 32).take 8) : Nat) : Int) ((gval (((zs.drop 40).take 64).take 8) : Nat) : Int) (gwords ((zs.drop 40).take 64) 12) ((gval ((((zs.drop 40).take 64).drop 56).take 4) : Nat) : Int) ((gval ((((zs.drop 40).take 64).drop 60).take 4) : Nat) : Int) = zs)) := by
      unfold okDI
      rw [decide_eq_true hz, Bool.true_and]
      cases hR : rightIno (zs.getD 0 0) ((gval ((zs.drop 2).take 2) : Nat) : Int) ((gval ((zs.drop 4).take 2) : Nat) : Int) ((gval ((zs.drop 6).take 2) : Nat) : Int) ((gval ((zs.drop 8).take 2) : Nat) : Int) ((gval ((zs.drop 12).take 4) : Nat) : Int) ((gval ((zs.drop 16).take 8) : Nat) : Int) ((gval ((zs.drop 24).take 8) : Nat) : Int) ((gval ((zs.drop 32).take 8) : Nat) : Int) ((gval (((zs.drop 40).take 64).take 8) : Nat) : Int) (gwords ((zs.drop 40).take 64) 12) ((gval ((((zs.drop 40).take 64).drop 56).take 4) : Nat) : Int) ((gval ((((zs.drop 40).take 64).drop 60).take 4) : Nat) : Int) with
      | false => rfl
      | true => rw [enc_gaps zs hbd hz hR]
    have hC := specDI_128 v zs w h hbd hz _ _ _ _ _ _ _ _ _ _ _ _ d0 d1 d2 d3 d4 d5 d6 d7 d8 d9 d10 d11 rfl rfl rfl rfl rfl rfl rfl rfl rfl rfl ed rfl rfl (encI_bd _ _ _ _ _ _ _ _ _ _ _ _ _) _ _ rfl rfl
    rw [← ed] at hC
    rw [← hok] at hC
    exact hC
  · have hC := specDI_bad v zs w h hz
    have e : okDI zs = false := by unfold okDI; rw [decide_eq_false hz, Bool.false_and]
    unfold decI codeDI
    rw [e]
    exact hC
end Go.Proofs.YtojbohdabnbpfaaDoor
