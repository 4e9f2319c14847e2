/- Bytes that are an inode, read by the program and by the model: the same. The program's look at a snapshot: snapFault. -/
import Derived.Test.YtkbbnflblkkepaaGreatDoorZm30
import Derived.Test.YtkbbnflblkkepaaGreatDoorZm31
import Derived.Test.YtkbbnflblkkepaaGreatDoorZm32
import Derived.WalkKit
import Derived.Laws.RangeAny
import Derived.Test.YtkbbnflblkkepaaGreatDoorRows
import Derived.WalkLawsBesides
import Derived.Test.YtkbbnflblkkepaaGreatDoorZm27
namespace Go.Proofs.YtkbbnflblkkepaaGreatDoor
set_option linter.unusedVariables false
set_option linter.unusedSimpArgs false
open Go.RowKit

theorem gval_few (zs : List Int) (h : ∀ z ∈ zs, 0 ≤ z ∧ z < 256) (lo n : Nat) (hn : n ≤ 6) : gval ((zs.drop lo).take n) = unle ((zs.drop lo).take n) := by
  apply gval_small
  have h1 := unle_lt _ (bytes_cut h lo n)
  have h2 : ((zs.drop lo).take n).length ≤ 6 := by simp; omega
  have h3 : 256 ^ ((zs.drop lo).take n).length ≤ 256 ^ 6 := Nat.pow_le_pow_right (by decide) h2
  have h4 : (256 : Nat) ^ 6 = 281474976710656 := by decide
  omega
theorem unle8_lt (zs : List Int) (h : ∀ z ∈ zs, 0 ≤ z ∧ z < 256) (lo : Nat) : unle ((zs.drop lo).take 8) < 18446744073709551616 := by
  have h1 := unle_lt _ (bytes_cut h lo 8)
  have h2 : ((zs.drop lo).take 8).length ≤ 8 := by simp; omega
  have h3 : 256 ^ ((zs.drop lo).take 8).length ≤ 256 ^ 8 := Nat.pow_le_pow_right (by decide) h2
  have h4 : (256 : Nat) ^ 8 = 18446744073709551616 := by decide
  omega
/-- A number of eight bytes: the same for both, or out of all bounds for both. -/
theorem eight (ts : List Int) (hX : unle ts < 18446744073709551616) : (wrap64 ((unle ts : Nat) : Int) = ((gval ts : Nat) : Int) ∧ gval ts = unle ts) ∨ (wrap64 ((unle ts : Nat) : Int) ≠ 0 ∧ ((gval ts : Nat) : Int) ≠ 0 ∧ wi (wrap64 ((unle ts : Nat) : Int)) 1 1099511627776 = false ∧ wi ((gval ts : Nat) : Int) 1 1099511627776 = false) := by
  by_cases hs : unle ts < 18014398509481984
  · left
    rw [gval_small _ hs]
    refine ⟨?_, rfl⟩
    unfold wrap64
    omega
  · right
    have hg : gval ts = 4611686018427387904 := by
      unfold gval
      rw [if_pos (by omega)]
    rw [hg]
    have hw : wrap64 ((unle ts : Nat) : Int) < 0 ∨ 18014398509481984 ≤ wrap64 ((unle ts : Nat) : Int) := by
      unfold wrap64
      omega
    refine ⟨by omega, by decide, ?_, by decide⟩
    unfold wi
    rcases hw with hw | hw
    · rw [decide_eq_false (show ¬ (1 : Int) ≤ wrap64 ((unle ts : Nat) : Int) by omega), Bool.false_and]
    · rw [decide_eq_false (show ¬ wrap64 ((unle ts : Nat) : Int) ≤ 1099511627776 by omega), Bool.and_false]
theorem rightIno_no {k0 k1 k2 k3 k4 k5 k6 k7 k8 s : Int} {ds : List Int} {p q x : Int} (hx : x ∈ inoI [k0, k1, k2, k3, k4, k5, k6, k7, k8] s ds p q) (h0 : x ≠ 0) (hf : (fieldsB k0 k1 k2 k3 k4 k5 k6 k7 k8 && rightR s ds p q) = false) : rightIno k0 k1 k2 k3 k4 k5 k6 k7 k8 s ds p q = false := by
  unfold rightIno
  rw [hf, Bool.or_false]
  cases hz : zeroB (inoI [k0, k1, k2, k3, k4, k5, k6, k7, k8] s ds p q) with
  | false => rfl
  | true =>
    rw [zeroB_iff] at hz
    exact absurd (hz x hx) h0
theorem wordsFrom_shift (zs : List Int) (lo m p : Nat) : ∀ n, p + 4 * n ≤ m → wordsFrom ((zs.drop lo).take m) p n = wordsFrom zs (lo + p) n
  | 0, _ => by simp [wordsFrom]
  | n + 1, h => by
    rw [wordsFrom_succ, wordsFrom_succ, wordsFrom_shift zs lo m p n (by omega)]
    congr 1
    rw [List.drop_take, List.take_take, List.drop_drop, Nat.min_eq_left (by omega), Nat.add_assoc]
theorem root_shift {zs : List Int} {s : Int} {ds : List Int} {p q : Int} (h : RootAt zs 40 s ds p q) : RootAt ((zs.drop 40).take 64) 0 s ds p q := by
  obtain ⟨h1, h2⟩ := h
  refine ⟨?_, ?_⟩
  · rw [h1, List.drop_zero, List.take_take]
    rfl
  · rw [h2, wordsFrom_shift zs 40 64 (0 + 8) 14 (by omega)]
theorem allz_rep : ∀ (ts : List Int), allz ts = true → ts = List.replicate ts.length 0
  | [], _ => rfl
  | t :: ts, h => by
    have h' : (decide (t = 0) && allz ts) = true := h
    rw [Bool.and_eq_true] at h'
    have h1 : t = 0 := by simpa using h'.1
    rw [List.length_cons, List.replicate_succ, ← allz_rep ts h'.2, h1]
theorem allz_of_rep (n : Nat) : allz (List.replicate n 0) = true := by
  unfold allz
  rw [List.all_eq_true]
  intro x hx
  rw [(List.mem_replicate.1 hx).2]
  rfl
theorem gaps_bytes (a0 a1 a2 a3 a4 a5 a6 a7 a8 : Nat) (s : Int) (ds : List Int) (p q : Int) (hd : ds.length = 12) : gapsZ (bytesIno a0 a1 a2 a3 a4 a5 a6 a7 a8 s ds p q) = true := by
  have e1 : allz (((bytesIno a0 a1 a2 a3 a4 a5 a6 a7 a8 s ds p q).drop 1).take 1) = true := rfl
  have e2 : allz (((bytesIno a0 a1 a2 a3 a4 a5 a6 a7 a8 s ds p q).drop 10).take 2) = true := rfl
  have e3 : allz (((bytesIno a0 a1 a2 a3 a4 a5 a6 a7 a8 s ds p q).drop 104).take 24) = true := by
    unfold bytesIno
    rw [List.drop_append_of_le_length (by simp only [List.length_append, le_len, List.length_replicate, bytesR_len s ds p q hd]; omega)]
    rw [List.drop_of_length_le (by simp only [List.length_append, le_len, List.length_replicate, bytesR_len s ds p q hd]; omega), List.nil_append]
    rfl
  unfold gapsZ gaps2
  rw [e1, e2, e3]
  rfl
theorem cut_at (zs : List Int) (lo n : Nat) : zs.drop lo = (zs.drop lo).take n ++ zs.drop (lo + n) := by
  conv => lhs; rw [← List.take_append_drop n (zs.drop lo)]
  rw [List.drop_drop]
theorem bytes_whole (zs : List Int) (h : ∀ z ∈ zs, 0 ≤ z ∧ z < 256) (hz : zs.length = 128) (hg : gapsZ zs = true) (s : Int) (ds : List Int) (p q : Int) (hr : bytesR s ds p q = ((zs.drop 40).take 64)) :
    bytesIno (unle ((zs.drop 0).take 1)) (unle ((zs.drop 2).take 2)) (unle ((zs.drop 4).take 2)) (unle ((zs.drop 6).take 2)) (unle ((zs.drop 8).take 2)) (unle ((zs.drop 12).take 4)) (unle ((zs.drop 16).take 8)) (unle ((zs.drop 24).take 8)) (unle ((zs.drop 32).take 8)) s ds p q = zs := by
  have hl : ∀ lo n, lo + n ≤ 128 → le n (unle ((zs.drop lo).take n)) = (zs.drop lo).take n := fun lo n hn => by
    have h1 := le_unle _ (bytes_cut h lo n)
    rw [show ((zs.drop lo).take n).length = n by simp; omega] at h1
    exact h1
  unfold gapsZ gaps2 at hg
  rw [Bool.and_eq_true, Bool.and_eq_true, Bool.and_eq_true] at hg
  obtain ⟨⟨⟨_, g1⟩, g2⟩, g3⟩ := hg
  have r1 := allz_rep _ g1
  have r2 := allz_rep _ g2
  have r3 := allz_rep _ g3
  rw [show ((zs.drop 1).take 1).length = 1 by simp; omega] at r1
  rw [show ((zs.drop 10).take 2).length = 2 by simp; omega] at r2
  rw [show ((zs.drop 104).take 24).length = 24 by simp; omega] at r3
  unfold bytesIno
  rw [hl 0 1 (by omega), hl 2 2 (by omega), hl 4 2 (by omega), hl 6 2 (by omega), hl 8 2 (by omega), hl 12 4 (by omega), hl 16 8 (by omega), hl 24 8 (by omega), hl 32 8 (by omega), hr, ← r1, ← r2, ← r3]
  have e : zs = zs.drop 0 := rfl
  conv => rhs; rw [e, cut_at zs 0 1, cut_at zs (0 + 1) 1, cut_at zs (0 + 1 + 1) 2, cut_at zs (0 + 1 + 1 + 2) 2, cut_at zs (0 + 1 + 1 + 2 + 2) 2, cut_at zs (0 + 1 + 1 + 2 + 2 + 2) 2, cut_at zs (0 + 1 + 1 + 2 + 2 + 2 + 2) 2, cut_at zs (0 + 1 + 1 + 2 + 2 + 2 + 2 + 2) 4, cut_at zs (0 + 1 + 1 + 2 + 2 + 2 + 2 + 2 + 4) 8, cut_at zs (0 + 1 + 1 + 2 + 2 + 2 + 2 + 2 + 4 + 8) 8, cut_at zs (0 + 1 + 1 + 2 + 2 + 2 + 2 + 2 + 4 + 8 + 8) 8, cut_at zs (0 + 1 + 1 + 2 + 2 + 2 + 2 + 2 + 4 + 8 + 8 + 8) 64, cut_at zs (0 + 1 + 1 + 2 + 2 + 2 + 2 + 2 + 4 + 8 + 8 + 8 + 64) 24, List.drop_of_length_le (show zs.length ≤ 0 + 1 + 1 + 2 + 2 + 2 + 2 + 2 + 4 + 8 + 8 + 8 + 64 + 24 by omega), List.append_nil]
  simp only [List.append_assoc]
theorem kind_one (zs : List Int) (h : ∀ z ∈ zs, 0 ≤ z ∧ z < 256) (hz : zs.length = 128) : zs.getD 0 0 = ((unle ((zs.drop 0).take 1) : Nat) : Int) := by
  match zs, hz with
  | z :: zs, _ =>
    have hb := h z (by simp)
    simp [unle]
    omega

/-- What the program reads is what the model reads. -/
theorem ino_agree (zs : List Int) (k0 k1 k2 k3 k4 k5 k6 k7 k8 s : Int) (ds : List Int) (p q : Int) (h : ∀ z ∈ zs, 0 ≤ z ∧ z < 256) (hz : zs.length = 128) (hd : ds.length = 12) (hr : InoAt zs k0 k1 k2 k3 k4 k5 k6 k7 k8 s ds p q) :
    rightIno k0 k1 k2 k3 k4 k5 k6 k7 k8 s ds p q = rightIno (zs.getD 0 0) ((gval ((zs.drop 2).take 2) : Nat) : Int) ((gval ((zs.drop 4).take 2) : Nat) : Int) ((gval ((zs.drop 6).take 2) : Nat) : Int) ((gval ((zs.drop 8).take 2) : Nat) : Int) ((gval ((zs.drop 12).take 4) : Nat) : Int) ((gval ((zs.drop 16).take 8) : Nat) : Int) ((gval ((zs.drop 24).take 8) : Nat) : Int) ((gval ((zs.drop 32).take 8) : Nat) : Int) ((gval (((zs.drop 40).take 64).take 8) : Nat) : Int) (gwords ((zs.drop 40).take 64) 12) ((gval ((((zs.drop 40).take 64).drop 56).take 4) : Nat) : Int) ((gval ((((zs.drop 40).take 64).drop 60).take 4) : Nat) : Int) ∧ (rightIno k0 k1 k2 k3 k4 k5 k6 k7 k8 s ds p q = true → inoI [k0, k1, k2, k3, k4, k5, k6, k7, k8] s ds p q = inoI [(zs.getD 0 0), ((gval ((zs.drop 2).take 2) : Nat) : Int), ((gval ((zs.drop 4).take 2) : Nat) : Int), ((gval ((zs.drop 6).take 2) : Nat) : Int), ((gval ((zs.drop 8).take 2) : Nat) : Int), ((gval ((zs.drop 12).take 4) : Nat) : Int), ((gval ((zs.drop 16).take 8) : Nat) : Int), ((gval ((zs.drop 24).take 8) : Nat) : Int), ((gval ((zs.drop 32).take 8) : Nat) : Int)] ((gval (((zs.drop 40).take 64).take 8) : Nat) : Int) (gwords ((zs.drop 40).take 64) 12) ((gval ((((zs.drop 40).take 64).drop 56).take 4) : Nat) : Int) ((gval ((((zs.drop 40).take 64).drop 60).take 4) : Nat) : Int)) := by
  obtain ⟨r0, r1, r2, r3, r4, r5, r6, r7, r8, rR⟩ := hr
  have hzp : ((zs.drop 40).take 64).length = 64 := by simp; omega
  have hbp : ∀ z ∈ ((zs.drop 40).take 64), 0 ≤ z ∧ z < 256 := bytes_cut h 40 64
  obtain ⟨q1, q2, q3, q4, q5⟩ := root_agree ((zs.drop 40).take 64) s ds p q hbp hzp hd (root_shift rR)
  rw [← kind_one zs h hz] at r0
  rw [← gval_few zs h 2 2 (by omega)] at r1
  rw [← gval_few zs h 4 2 (by omega)] at r2
  rw [← gval_few zs h 6 2 (by omega)] at r3
  rw [← gval_few zs h 8 2 (by omega)] at r4
  rw [← gval_few zs h 12 4 (by omega)] at r5
  have E6 := eight _ (unle8_lt zs h 16)
  have E7 := eight _ (unle8_lt zs h 24)
  have E8 := eight _ (unle8_lt zs h 32)
  have ES : s = ((gval (((zs.drop 40).take 64).take 8) : Nat) : Int) ∨ (s ≠ 0 ∧ ((gval (((zs.drop 40).take 64).take 8) : Nat) : Int) ≠ 0) := by
    have e := rR.1
    have et : ((zs.drop 40).take 64).take 8 = (zs.drop 40).take 8 := by rw [List.take_take]; rfl
    rw [et, e]
    rcases eight _ (unle8_lt zs h 40) with ⟨e1, _⟩ | ⟨e1, e2, _, _⟩
    · exact .inl e1
    · exact .inr ⟨e1, e2⟩
  rw [← r6] at E6
  rw [← r7] at E7
  rw [← r8] at E8
  rw [← r0, ← r1, ← r2, ← r3, ← r4, ← r5, ← q1, ← q2, ← q3]
  generalize ((gval ((zs.drop 16).take 8) : Nat) : Int) = y6 at E6 ⊢
  generalize ((gval ((zs.drop 24).take 8) : Nat) : Int) = y7 at E7 ⊢
  generalize ((gval ((zs.drop 32).take 8) : Nat) : Int) = y8 at E8 ⊢
  generalize ((gval (((zs.drop 40).take 64).take 8) : Nat) : Int) = ys at q4 q5 ES ⊢
  clear r0 r1 r2 r3 r4 r5 r6 r7 r8 rR q1 q2 q3
  rcases E6 with ⟨e6, _⟩ | ⟨n6, m6, f6, g6⟩
  · rcases E7 with ⟨e7, _⟩ | ⟨n7, m7, f7, g7⟩
    · rcases E8 with ⟨e8, _⟩ | ⟨n8, m8, f8, g8⟩
      · subst e6 e7 e8
        rcases ES with es | ⟨s0, ys0⟩
        · subst es
          exact ⟨rfl, fun _ => rfl⟩
        · cases hR : rightR s ds p q with
          | true =>
            have es := (q5 hR).1
            subst es
            exact ⟨rfl, fun _ => rfl⟩
          | false =>
            have hR2 : rightR ys ds p q = false := by rw [← q4]; exact hR
            have hA := rightIno_no (k0 := k0) (k1 := k1) (k2 := k2) (k3 := k3) (k4 := k4) (k5 := k5) (k6 := k6) (k7 := k7) (k8 := k8) (s := s) (ds := ds) (p := p) (q := q) (x := s) (by simp [inoI, rootI]) s0 (by rw [hR, Bool.and_false])
            have hB := rightIno_no (k0 := k0) (k1 := k1) (k2 := k2) (k3 := k3) (k4 := k4) (k5 := k5) (k6 := k6) (k7 := k7) (k8 := k8) (s := ys) (ds := ds) (p := p) (q := q) (x := ys) (by simp [inoI, rootI]) ys0 (by rw [hR2, Bool.and_false])
            exact ⟨by rw [hA, hB], fun h => by rw [hA] at h; cases h⟩
      · have hA : rightIno k0 k1 k2 k3 k4 k5 k6 k7 k8 s ds p q = false := rightIno_no (x := k8) (by simp [inoI]) n8 (by simp [fieldsB, f8])
        have hB : rightIno k0 k1 k2 k3 k4 k5 y6 y7 y8 ys ds p q = false := rightIno_no (x := y8) (by simp [inoI]) m8 (by simp [fieldsB, g8])
        exact ⟨by rw [hA, hB], fun h => by rw [hA] at h; cases h⟩
    · have hA : rightIno k0 k1 k2 k3 k4 k5 k6 k7 k8 s ds p q = false := rightIno_no (x := k7) (by simp [inoI]) n7 (by simp [fieldsB, f7])
      have hB : rightIno k0 k1 k2 k3 k4 k5 y6 y7 y8 ys ds p q = false := rightIno_no (x := y7) (by simp [inoI]) m7 (by simp [fieldsB, g7])
      exact ⟨by rw [hA, hB], fun h => by rw [hA] at h; cases h⟩
  · have hA : rightIno k0 k1 k2 k3 k4 k5 k6 k7 k8 s ds p q = false := rightIno_no (x := k6) (by simp [inoI]) n6 (by simp [fieldsB, f6])
    have hB : rightIno k0 k1 k2 k3 k4 k5 y6 y7 y8 ys ds p q = false := rightIno_no (x := y6) (by simp [inoI]) m6 (by simp [fieldsB, g6])
    exact ⟨by rw [hA, hB], fun h => by rw [hA] at h; cases h⟩

/-- What DecodeInode tells of bytes. -/
def okDI (zs : List Int) : Bool := decide (zs.length = 128) && (rightIno (zs.getD 0 0) ((gval ((zs.drop 2).take 2) : Nat) : Int) ((gval ((zs.drop 4).take 2) : Nat) : Int) ((gval ((zs.drop 6).take 2) : Nat) : Int) ((gval ((zs.drop 8).take 2) : Nat) : Int) ((gval ((zs.drop 12).take 4) : Nat) : Int) ((gval ((zs.drop 16).take 8) : Nat) : Int) ((gval ((zs.drop 24).take 8) : Nat) : Int) ((gval ((zs.drop 32).take 8) : Nat) : Int) ((gval (((zs.drop 40).take 64).take 8) : Nat) : Int) (gwords ((zs.drop 40).take 64) 12) ((gval ((((zs.drop 40).take 64).drop 56).take 4) : Nat) : Int) ((gval ((((zs.drop 40).take 64).drop 60).take 4) : Nat) : Int) && gapsZ zs)
def decI (zs : List Int) : List Int := if okDI zs = true then inoI [(zs.getD 0 0), ((gval ((zs.drop 2).take 2) : Nat) : Int), ((gval ((zs.drop 4).take 2) : Nat) : Int), ((gval ((zs.drop 6).take 2) : Nat) : Int), ((gval ((zs.drop 8).take 2) : Nat) : Int), ((gval ((zs.drop 12).take 4) : Nat) : Int), ((gval ((zs.drop 16).take 8) : Nat) : Int), ((gval ((zs.drop 24).take 8) : Nat) : Int), ((gval ((zs.drop 32).take 8) : Nat) : Int)] ((gval (((zs.drop 40).take 64).take 8) : Nat) : Int) (gwords ((zs.drop 40).take 64) 12) ((gval ((((zs.drop 40).take 64).drop 56).take 4) : Nat) : Int) ((gval ((((zs.drop 40).take 64).drop 60).take 4) : Nat) : Int) else noIno
def codeDI (zs : List Int) : Int := if okDI zs = true then 0 else 21
theorem decI_ino (zs : List Int) : ∃ k0 k1 k2 k3 k4 k5 k6 k7 k8 s ds p q, ds.length = 12 ∧ decI zs = inoI [k0, k1, k2, k3, k4, k5, k6, k7, k8] s ds p q := by
  unfold decI
  split
  · exact ⟨_, _, _, _, _, _, _, _, _, _, _, _, _, gwords_len _ 12, rfl⟩
  · exact ⟨0, 0, 0, 0, 0, 0, 0, 0, 0, 0, List.replicate 12 0, 0, 0, rfl, rfl⟩
end Go.Proofs.YtkbbnflblkkepaaGreatDoor

namespace Go.Proofs.YtkbbnflblkkepaaGreatDoor.Chk
open Go

def isBad (b : UInt8) : Bool := b == 47 || b == 0
def anyBad (l : List UInt8) : Bool := l.any isBad
def chk (l : List UInt8) : Int := if l = [] ∨ l = [46] ∨ l = [46, 46] then 7 else if 26 < l.length then 12 else if anyBad l = true then 7 else 0

theorem isBad_iff (b : UInt8) : isBad b = true ↔ b.toNat = 47 ∨ b.toNat = 0 := by
  unfold isBad
  simp only [Bool.or_eq_true, beq_iff_eq]
  constructor
  · rintro (rfl | rfl) <;> simp
  · rintro (h | h)
    · left; exact UInt8.toNat_inj.mp (by simpa using h)
    · right; exact UInt8.toNat_inj.mp (by simpa using h)

theorem anyBad_snoc (s : ByteArray) (k : Nat) (h : k < s.size) : anyBad (s.data.toList.take (k + 1)) = (anyBad (s.data.toList.take k) || isBad s[k]) := by
  unfold anyBad
  rw [List.take_succ_eq_append_getElem (by simpa using h)]
  simp
  rfl

theorem anyBad_of_get (s : ByteArray) (k : Nat) (h : k < s.size) (hb : isBad s[k] = true) : anyBad s.data.toList = true := by
  unfold anyBad
  rw [List.any_eq_true]
  exact ⟨s[k], by simp [ByteArray.getElem_eq_getElem_data], hb⟩

theorem anyBad_end (s : ByteArray) (k : Nat) (h : ¬ k < s.size) : anyBad (s.data.toList.take k) = anyBad s.data.toList := by
  rw [List.take_of_length_le]
  simp; simpa using h

theorem get_k (s : ByteArray) (p : Nat) (h : p < s.size) : s.get! p = s[p]'h := by
  simp [ByteArray.get!, getElem!_pos, h]
  rfl

/-- Bytes that a rune of more than a byte takes are all high. -/
theorem decode_cont (s : ByteArray) (pos : Nat) (h : pos < s.size) (ha : 128 ≤ (s[pos]'h).toNat) (j : Nat) (hj : j < (Utf8.decode s pos).2) :
    ∃ hp : pos + j < s.size, 128 ≤ (s[pos + j]'hp).toNat := by
  by_cases hj0 : j = 0
  · subst hj0; exact ⟨h, ha⟩
  have key : pos + j < s.size ∧ (s.get! (pos + j)).toNat / 64 = 2 := by
    have hn : ¬ (s[pos]'h).toNat < 128 := by omega
    simp only [Utf8.decode, get_at s pos h, hn, if_false] at hj
    repeat' split at hj
    all_goals simp_all
    all_goals first | omega | skip
    · obtain rfl : j = 1 := by omega
      simp_all
    · have : j = 1 ∨ j = 2 := by omega
      rcases this with rfl | rfl <;> simp_all
    · have : j = 1 ∨ j = 2 ∨ j = 3 := by omega
      rcases this with rfl | rfl | rfl <;> simp_all
  refine ⟨key.1, ?_⟩
  have := key.2
  rw [get_k s _ key.1] at this
  omega

theorem isBad_high (b : UInt8) (h : 128 ≤ b.toNat) : isBad b = false := by
  cases hb : isBad b with
  | false => rfl
  | true => rw [isBad_iff] at hb; omega

theorem anyBad_more (s : ByteArray) (pos n : Nat) (h0 : anyBad (s.data.toList.take pos) = false) (h : ∀ j, j < n → ∃ hp : pos + j < s.size, isBad (s[pos + j]'hp) = false) :
    anyBad (s.data.toList.take (pos + n)) = false := by
  induction n with
  | zero => exact h0
  | succ n ih =>
    obtain ⟨hp, hb⟩ := h n (by omega)
    rw [← Nat.add_assoc, anyBad_snoc s (pos + n) hp, ih (fun j hj => h j (by omega)), hb]
    rfl

/-- One rune that is neither of the two leads on. -/
theorem step_rune (s : ByteArray) (pos : Nat) (hp : pos < s.size) (h0 : anyBad (s.data.toList.take pos) = false)
    (h1 : ¬ ((Utf8.decode s pos).1 : Int) = 47) (h2 : ¬ ((Utf8.decode s pos).1 : Int) = 0) : anyBad (s.data.toList.take (pos + (Utf8.decode s pos).2)) = false := by
  by_cases ha : (s[pos]'hp).toNat < 128
  · rw [decode_ascii s pos hp ha] at h1 h2 ⊢
    rw [anyBad_snoc s pos hp, h0]
    cases hb : isBad (s[pos]'hp) with
    | false => rfl
    | true => rw [isBad_iff] at hb; simp at h1 h2; omega
  · refine anyBad_more s pos _ h0 fun j hj => ?_
    obtain ⟨q, hq⟩ := decode_cont s pos hp (by omega) j hj
    exact ⟨q, isBad_high _ hq⟩

/-- One of the two is a bad byte there. -/
theorem hit_rune (s : ByteArray) (pos : Nat) (hp : pos < s.size) (h : ((Utf8.decode s pos).1 : Int) = 47 ∨ ((Utf8.decode s pos).1 : Int) = 0) : anyBad s.data.toList = true := by
  by_cases ha : (s[pos]'hp).toNat < 128
  · rw [decode_ascii s pos hp ha] at h
    refine anyBad_of_get s pos hp ?_
    rw [isBad_iff]; simp at h; omega
  · have := (decode_high s pos hp (by omega)).1; omega

theorem width_pos (s : ByteArray) (pos : Nat) (h : pos < s.size) : 1 ≤ (Utf8.decode s pos).2 := by
  by_cases ha : (s[pos]'h).toNat < 128
  · rw [decode_ascii s pos h ha]
    exact Nat.le_refl _
  · exact (decode_high s pos h (by omega)).2
end Go.Proofs.YtkbbnflblkkepaaGreatDoor.Chk

namespace Go.Proofs.YtkbbnflblkkepaaGreatDoor.Chk
open Go.RowKit

/-- What both give, in the walk's words. -/
def chkS (s : ByteArray) : Int := if s.toList = [] ∨ s.toList = [46] ∨ s.toList = [46, 46] then 7 else if 26 < s.size then 12 else if anyBad s.data.toList = true then 7 else 0
theorem ret_int {k : IntKind} {a b : Int} (h : a = b) : Ending.returned (.int k a) = .returned (.int k b) := by rw [h]
theorem spell1 (s : ByteArray) (h : s.toList = []) : chkS s = 7 := by simp [chkS, h]
theorem spell2 (s : ByteArray) (h : s.toList = [46]) : chkS s = 7 := by simp [chkS, h]
theorem spell3 (s : ByteArray) (h : (s.toList.isEmpty = true ∨ (s.toList == [46]) = true) ∨ (s.toList == [46, 46]) = true) : chkS s = 7 := by
  unfold chkS
  rw [if_pos]
  rcases h with (h | h) | h
  · left; simpa using h
  · right; left; simpa using h
  · right; right; simpa using h
theorem spell_no (s : ByteArray) (h : (s.toList.isEmpty = false ∧ (s.toList == [46]) = false) ∧ (s.toList == [46, 46]) = false) : ¬ (s.toList = [] ∨ s.toList = [46] ∨ s.toList = [46, 46]) := by
  obtain ⟨⟨h1, h2⟩, h3⟩ := h
  simp at h1 h2 h3
  simp [h1, h2, h3]
theorem spell4 (s : ByteArray) (h : (s.toList.isEmpty = false ∧ (s.toList == [46]) = false) ∧ (s.toList == [46, 46]) = false) (h4 : (26 : Int) < (s.size : Int)) : chkS s = 12 := by
  unfold chkS
  rw [if_neg (spell_no s h), if_pos (by omega)]
theorem spell5 (s : ByteArray) (h : (s.toList.isEmpty = false ∧ (s.toList == [46]) = false) ∧ (s.toList == [46, 46]) = false) (h4 : (s.size : Int) ≤ 26) : chkS s = if anyBad s.data.toList = true then 7 else 0 := by
  unfold chkS
  rw [if_neg (spell_no s h), if_neg (by omega)]

theorem or_beq {a b c : Int} (h : (a == b) = true ∨ (a == c) = true) : a = b ∨ a = c := by simpa using h
theorem nor_beq {a b c : Int} (h : (a == b) = false ∧ (a == c) = false) : ¬ a = b ∧ ¬ a = c := by simpa using h
theorem hit_byte (s : ByteArray) (k : Nat) (hk : k < s.size) (h : (s[k].toNat : Int) = 47 ∨ (s[k].toNat : Int) = 0) : isBad s[k] = true := by
  rw [isBad_iff]; omega
theorem hit_byte2 (s : ByteArray) (k : Nat) (hk : k < s.size) (h : ((s[k].toNat : Int) == 47) = true ∨ ((s[k].toNat : Int) == 0) = true) : isBad s[k] = true :=
  hit_byte s k hk (or_beq h)
theorem step_byte (s : ByteArray) (k : Nat) (hk : k < s.size) (h0 : anyBad (s.data.toList.take k) = false) (h : ((s[k].toNat : Int) == 47) = false ∧ ((s[k].toNat : Int) == 0) = false) :
    anyBad (s.data.toList.take (k + 1)) = false := by
  rw [anyBad_snoc s k hk, h0]
  cases hb : isBad s[k] with
  | false => rfl
  | true => rw [isBad_iff] at hb; have := nor_beq h; omega

theorem frozen_iter (w : World) (s : ByteArray) (pos : Nat) (a : Addr) : (w.iter s pos).frozen? a = w.frozen? a := by
  by_cases h : a.block = w.heap.size
  · have e1 : (w.iter s pos).heap[a.block]? = some (.stringIter s pos) := by rw [h]; exact World.iter_heap w s pos
    have e2 : w.heap[a.block]? = none := by rw [h]; simp
    simp [World.frozen?, e1, e2]
  · have e1 : (w.iter s pos).heap[a.block]? = w.heap[a.block]? := by
      show (w.heap.push (Obj.stringIter s pos))[a.block]? = _
      rw [Array.getElem?_push]; simp [h]
    simp [World.frozen?, e1]
theorem grown_iter (w : World) (s : ByteArray) (pos : Nat) : Grown w (w.iter s pos) := ⟨World.keptBut_alloc w _ _, frozen_iter w s pos, by simp [World.iter]⟩

end Go.Proofs.YtkbbnflblkkepaaGreatDoor.Chk

namespace Go.Proofs.YtkbbnflblkkepaaGreatDoor
set_option linter.unusedVariables false
set_option linter.unusedSimpArgs false
open Go.RowKit

/-- A snapshot as cells: its plane, its name, two numbers, its root. -/
def snapC (pl : Int) (nm : ByteArray) (ge cl s : Int) (ds : List Int) (p q : Int) : Array Value := (([.int .i64 pl, .string nm, .int .i64 ge, .int .i64 cl] : List Value) ++ (rootI s ds p q).map (Value.int .i64)).toArray
theorem snapC_size (pl : Int) (nm : ByteArray) (ge cl s : Int) (ds : List Int) (p q : Int) (hd : ds.length = 12) : (snapC pl nm ge cl s ds p q).size = 19 := by
  have := rootI_len s ds p q hd
  simp [snapC, this]
theorem snapC_one (pl : Int) (nm : ByteArray) (ge cl s : Int) (ds : List Int) (p q : Int) : (snapC pl nm ge cl s ds p q).all (·.oneCell') = true := by
  rw [Array.all_eq_true_iff_forall_mem]
  intro v hv
  simp [snapC] at hv
  rcases hv with rfl | rfl | rfl | rfl | ⟨z, _, rfl⟩ <;> rfl
theorem snap_range (pl : Int) (nm : ByteArray) (ge cl s : Int) (ds : List Int) (p q : Int) {w : World} {b : Nat} {t : TypeId} (h : Blk w b (snapC pl nm ge cl s ds p q) t) : w.rangeAt b 4 ((rootI s ds p q).map (Value.int .i64)) := by
  intro j v hv
  rw [h.cell (4 + j)]
  unfold snapC
  rw [List.getElem?_toArray, List.getElem?_append_right (by simp)]
  simpa using hv
def rightS (pl : Int) (nm : ByteArray) (ge cl s : Int) (ds : List Int) (p q : Int) : Bool := wi pl 1 31 && (Chk.chkS nm == 0) && wi ge 1 1099511627776 && wi cl 1 1099511627776 && (rightR s ds p q && tabB s)
theorem Below.iter (w : World) (s : ByteArray) (pos : Nat) : Below w.heap.size w (w.iter s pos) := (Below.refl _ _).alloc (Nat.le_refl _) _

end Go.Proofs.YtkbbnflblkkepaaGreatDoor
