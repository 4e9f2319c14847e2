/- Bytes that are an inode, read by the program and by the model: the same. A copy of an inode: toInode. -/
import Derived.Test.YtlgafpjmifacmaaDoorZt20
import Derived.Test.YtlgafpjmifacmaaDoorZt25
import Derived.Test.YtlgafpjmifacmaaDoorZt28
import Derived.Test.YtlgafpjmifacmaaDoorZt04
namespace Go.Proofs.YtlgafpjmifacmaaDoor
set_option linter.unusedVariables false
set_option linter.unusedSimpArgs false
open Go.RowKit

theorem gval_few (zs : List Int) (h : ∀ z ∈ zs, 0 ≤ z ∧ z < 256) (lo n : Nat) (hn : n ≤ 6) : gval ((zs.drop lo).take n) = unle ((zs.drop lo).take n) := by
  apply gval_small
  have h1 := unle_lt _ (bytes_cut h lo n)
  have h2 : ((zs.drop lo).take n).length ≤ 6 := by simp; omega
  have h3 : 256 ^ ((zs.drop lo).take n).length ≤ 256 ^ 6 := Nat.pow_le_pow_right (by decide) h2
  have h4 : (256 : Nat) ^ 6 = 281474976710656 := by decide
  omega
theorem unle8_lt (zs : List Int) (h : ∀ z ∈ zs, 0 ≤ z ∧ z < 256) (lo : Nat) : unle ((zs.drop lo).take 8) < 18446744073709551616 := by
  have h1 := unle_lt _ (bytes_cut h lo 8)
  have h2 : ((zs.drop lo).take 8).length ≤ 8 := by simp; omega
  have h3 : 256 ^ ((zs.drop lo).take 8).length ≤ 256 ^ 8 := Nat.pow_le_pow_right (by decide) h2
  have h4 : (256 : Nat) ^ 8 = 18446744073709551616 := by decide
  omega
/-- A number of eight bytes: the same for both, or out of all bounds for both. -/
theorem eight (ts : List Int) (hX : unle ts < 18446744073709551616) : (wrap64 ((unle ts : Nat) : Int) = ((gval ts : Nat) : Int) ∧ gval ts = unle ts) ∨ (wrap64 ((unle ts : Nat) : Int) ≠ 0 ∧ ((gval ts : Nat) : Int) ≠ 0 ∧ wi (wrap64 ((unle ts : Nat) : Int)) 1 1099511627776 = false ∧ wi ((gval ts : Nat) : Int) 1 1099511627776 = false) := by
  by_cases hs : unle ts < 18014398509481984
  · left
    rw [gval_small _ hs]
    refine ⟨?_, rfl⟩
    unfold wrap64
    omega
  · right
    have hg : gval ts = 4611686018427387904 := by
      unfold gval
      rw [if_pos (by omega)]
    rw [hg]
    have hw : wrap64 ((unle ts : Nat) : Int) < 0 ∨ 18014398509481984 ≤ wrap64 ((unle ts : Nat) : Int) := by
      unfold wrap64
      omega
    refine ⟨by omega, by decide, ?_, by decide⟩
    unfold wi
    rcases hw with hw | hw
    · rw [decide_eq_false (show ¬ (1 : Int) ≤ wrap64 ((unle ts : Nat) : Int) by omega), Bool.false_and]
    · rw [decide_eq_false (show ¬ wrap64 ((unle ts : Nat) : Int) ≤ 1099511627776 by omega), Bool.and_false]
theorem rightIno_no {k0 k1 k2 k3 k4 k5 k6 k7 k8 s : Int} {ds : List Int} {p q x : Int} (hx : x ∈ inoI [k0, k1, k2, k3, k4, k5, k6, k7, k8] s ds p q) (h0 : x ≠ 0) (hf : (fieldsB k0 k1 k2 k3 k4 k5 k6 k7 k8 && rightR s ds p q) = false) : rightIno k0 k1 k2 k3 k4 k5 k6 k7 k8 s ds p q = false := by
  unfold rightIno
  rw [hf, Bool.or_false]
  cases hz : zeroB (inoI [k0, k1, k2, k3, k4, k5, k6, k7, k8] s ds p q) with
  | false => rfl
  | true =>
    rw [zeroB_iff] at hz
    exact absurd (hz x hx) h0
theorem wordsFrom_shift (zs : List Int) (lo m p : Nat) : ∀ n, p + 4 * n ≤ m → wordsFrom ((zs.drop lo).take m) p n = wordsFrom zs (lo + p) n
  | 0, _ => by simp [wordsFrom]
  | n + 1, h => by
    rw [wordsFrom_succ, wordsFrom_succ, wordsFrom_shift zs lo m p n (by omega)]
    congr 1
    rw [List.drop_take, List.take_take, List.drop_drop, Nat.min_eq_left (by omega), Nat.add_assoc]
theorem root_shift {zs : List Int} {s : Int} {ds : List Int} {p q : Int} (h : RootAt zs 40 s ds p q) : RootAt ((zs.drop 40).take 64) 0 s ds p q := by
  obtain ⟨h1, h2⟩ := h
  refine ⟨?_, ?_⟩
  · rw [h1, List.drop_zero, List.take_take]
    rfl
  · rw [h2, wordsFrom_shift zs 40 64 (0 + 8) 14 (by omega)]
theorem allz_rep : ∀ (ts : List Int), allz ts = true → ts = List.replicate ts.length 0
  | [], _ => rfl
  | t :: ts, h => by
    have h' : (decide (t = 0) && allz ts) = true := h
    rw [Bool.and_eq_true] at h'
    have h1 : t = 0 := by simpa using h'.1
    rw [List.length_cons, List.replicate_succ, ← allz_rep ts h'.2, h1]
theorem allz_of_rep (n : Nat) : allz (List.replicate n 0) = true := by
  unfold allz
  rw [List.all_eq_true]
  intro x hx
  rw [(List.mem_replicate.1 hx).2]
  rfl
theorem gaps_bytes (a0 a1 a2 a3 a4 a5 a6 a7 a8 : Nat) (s : Int) (ds : List Int) (p q : Int) (hd : ds.length = 12) : gapsZ (bytesIno a0 a1 a2 a3 a4 a5 a6 a7 a8 s ds p q) = true := by
  have e1 : allz (((bytesIno a0 a1 a2 a3 a4 a5 a6 a7 a8 s ds p q).drop 1).take 1) = true := rfl
  have e2 : allz (((bytesIno a0 a1 a2 a3 a4 a5 a6 a7 a8 s ds p q).drop 10).take 2) = true := rfl
  have e3 : allz (((bytesIno a0 a1 a2 a3 a4 a5 a6 a7 a8 s ds p q).drop 104).take 24) = true := by
    unfold bytesIno
    rw [List.drop_append_of_le_length (by simp only [List.length_append, le_len, List.length_replicate, bytesR_len s ds p q hd]; omega)]
    rw [List.drop_of_length_le (by simp only [List.length_append, le_len, List.length_replicate, bytesR_len s ds p q hd]; omega), List.nil_append]
    rfl
  unfold gapsZ gaps2
  rw [e1, e2, e3]
  rfl
theorem cut_at (zs : List Int) (lo n : Nat) : zs.drop lo = (zs.drop lo).take n ++ zs.drop (lo + n) := by
  conv => lhs; rw [← List.take_append_drop n (zs.drop lo)]
  rw [List.drop_drop]
theorem bytes_whole (zs : List Int) (h : ∀ z ∈ zs, 0 ≤ z ∧ z < 256) (hz : zs.length = 128) (hg : gapsZ zs = true) (s : Int) (ds : List Int) (p q : Int) (hr : bytesR s ds p q = ((zs.drop 40).take 64)) :
    bytesIno (unle ((zs.drop 0).take 1)) (unle ((zs.drop 2).take 2)) (unle ((zs.drop 4).take 2)) (unle ((zs.drop 6).take 2)) (unle ((zs.drop 8).take 2)) (unle ((zs.drop 12).take 4)) (unle ((zs.drop 16).take 8)) (unle ((zs.drop 24).take 8)) (unle ((zs.drop 32).take 8)) s ds p q = zs := by
  have hl : ∀ lo n, lo + n ≤ 128 → le n (unle ((zs.drop lo).take n)) = (zs.drop lo).take n := fun lo n hn => by
    have h1 := le_unle _ (bytes_cut h lo n)
    rw [show ((zs.drop lo).take n).length = n by simp; omega] at h1
    exact h1
  unfold gapsZ gaps2 at hg
  rw [Bool.and_eq_true, Bool.and_eq_true, Bool.and_eq_true] at hg
  obtain ⟨⟨⟨_, g1⟩, g2⟩, g3⟩ := hg
  have r1 := allz_rep _ g1
  have r2 := allz_rep _ g2
  have r3 := allz_rep _ g3
  rw [show ((zs.drop 1).take 1).length = 1 by simp; omega] at r1
  rw [show ((zs.drop 10).take 2).length = 2 by simp; omega] at r2
  rw [show ((zs.drop 104).take 24).length = 24 by simp; omega] at r3
  unfold bytesIno
  rw [hl 0 1 (by omega), hl 2 2 (by omega), hl 4 2 (by omega), hl 6 2 (by omega), hl 8 2 (by omega), hl 12 4 (by omega), hl 16 8 (by omega), hl 24 8 (by omega), hl 32 8 (by omega), hr, ← r1, ← r2, ← r3]
  have e : zs = zs.drop 0 := rfl
  conv => rhs; rw [e, cut_at zs 0 1, cut_at zs (0 + 1) 1, cut_at zs (0 + 1 + 1) 2, cut_at zs (0 + 1 + 1 + 2) 2, cut_at zs (0 + 1 + 1 + 2 + 2) 2, cut_at zs (0 + 1 + 1 + 2 + 2 + 2) 2, cut_at zs (0 + 1 + 1 + 2 + 2 + 2 + 2) 2, cut_at zs (0 + 1 + 1 + 2 + 2 + 2 + 2 + 2) 4, cut_at zs (0 + 1 + 1 + 2 + 2 + 2 + 2 + 2 + 4) 8, cut_at zs (0 + 1 + 1 + 2 + 2 + 2 + 2 + 2 + 4 + 8) 8, cut_at zs (0 + 1 + 1 + 2 + 2 + 2 + 2 + 2 + 4 + 8 + 8) 8, cut_at zs (0 + 1 + 1 + 2 + 2 + 2 + 2 + 2 + 4 + 8 + 8 + 8) 64, cut_at zs (0 + 1 + 1 + 2 + 2 + 2 + 2 + 2 + 4 + 8 + 8 + 8 + 64) 24, List.drop_of_length_le (show zs.length ≤ 0 + 1 + 1 + 2 + 2 + 2 + 2 + 2 + 4 + 8 + 8 + 8 + 64 + 24 by omega), List.append_nil]
  simp only [List.append_assoc]
theorem kind_one (zs : List Int) (h : ∀ z ∈ zs, 0 ≤ z ∧ z < 256) (hz : zs.length = 128) : zs.getD 0 0 = ((unle ((zs.drop 0).take 1) : Nat) : Int) := by
  match zs, hz with
  | z :: zs, _ =>
    have hb := h z (by simp)
    simp [unle]
    omega

/-- What the program reads is what the model reads. -/
theorem ino_agree (zs : List Int) (k0 k1 k2 k3 k4 k5 k6 k7 k8 s : Int) (ds : List Int) (p q : Int) (h : ∀ z ∈ zs, 0 ≤ z ∧ z < 256) (hz : zs.length = 128) (hd : ds.length = 12) (hr : InoAt zs k0 k1 k2 k3 k4 k5 k6 k7 k8 s ds p q) :
    rightIno k0 k1 k2 k3 k4 k5 k6 k7 k8 s ds p q = rightIno (zs.getD 0 0) ((gval ((zs.drop 2).take 2) : Nat) : Int) ((gval ((zs.drop 4).take 2) : Nat) : Int) ((gval ((zs.drop 6).take 2) : Nat) : Int) ((gval ((zs.drop 8).take 2) : Nat) : Int) ((gval ((zs.drop 12).take 4) : Nat) : Int) ((gval ((zs.drop 16).take 8) : Nat) : Int) ((gval ((zs.drop 24).take 8) : Nat) : Int) ((gval ((zs.drop 32).take 8) : Nat) : Int) ((gval (((zs.drop 40).take 64).take 8) : Nat) : Int) (gwords ((zs.drop 40).take 64) 12) ((gval ((((zs.drop 40).take 64).drop 56).take 4) : Nat) : Int) ((gval ((((zs.drop 40).take 64).drop 60).take 4) : Nat) : Int) ∧ (rightIno k0 k1 k2 k3 k4 k5 k6 k7 k8 s ds p q = true → inoI [k0, k1, k2, k3, k4, k5, k6, k7, k8] s ds p q = inoI [(zs.getD 0 0), ((gval ((zs.drop 2).take 2) : Nat) : Int), ((gval ((zs.drop 4).take 2) : Nat) : Int), ((gval ((zs.drop 6).take 2) : Nat) : Int), ((gval ((zs.drop 8).take 2) : Nat) : Int), ((gval ((zs.drop 12).take 4) : Nat) : Int), ((gval ((zs.drop 16).take 8) : Nat) : Int), ((gval ((zs.drop 24).take 8) : Nat) : Int), ((gval ((zs.drop 32).take 8) : Nat) : Int)] ((gval (((zs.drop 40).take 64).take 8) : Nat) : Int) (gwords ((zs.drop 40).take 64) 12) ((gval ((((zs.drop 40).take 64).drop 56).take 4) : Nat) : Int) ((gval ((((zs.drop 40).take 64).drop 60).take 4) : Nat) : Int)) := by
  obtain ⟨r0, r1, r2, r3, r4, r5, r6, r7, r8, rR⟩ := hr
  have hzp : ((zs.drop 40).take 64).length = 64 := by simp; omega
  have hbp : ∀ z ∈ ((zs.drop 40).take 64), 0 ≤ z ∧ z < 256 := bytes_cut h 40 64
  obtain ⟨q1, q2, q3, q4, q5⟩ := root_agree ((zs.drop 40).take 64) s ds p q hbp hzp hd (root_shift rR)
  rw [← kind_one zs h hz] at r0
  rw [← gval_few zs h 2 2 (by omega)] at r1
  rw [← gval_few zs h 4 2 (by omega)] at r2
  rw [← gval_few zs h 6 2 (by omega)] at r3
  rw [← gval_few zs h 8 2 (by omega)] at r4
  rw [← gval_few zs h 12 4 (by omega)] at r5
  have E6 := eight _ (unle8_lt zs h 16)
  have E7 := eight _ (unle8_lt zs h 24)
  have E8 := eight _ (unle8_lt zs h 32)
  have ES : s = ((gval (((zs.drop 40).take 64).take 8) : Nat) : Int) ∨ (s ≠ 0 ∧ ((gval (((zs.drop 40).take 64).take 8) : Nat) : Int) ≠ 0) := by
    have e := rR.1
    have et : ((zs.drop 40).take 64).take 8 = (zs.drop 40).take 8 := by rw [List.take_take]; rfl
    rw [et, e]
    rcases eight _ (unle8_lt zs h 40) with ⟨e1, _⟩ | ⟨e1, e2, _, _⟩
    · exact .inl e1
    · exact .inr ⟨e1, e2⟩
  rw [← r6] at E6
  rw [← r7] at E7
  rw [← r8] at E8
  rw [← r0, ← r1, ← r2, ← r3, ← r4, ← r5, ← q1, ← q2, ← q3]
  generalize ((gval ((zs.drop 16).take 8) : Nat) : Int) = y6 at E6 ⊢
  generalize ((gval ((zs.drop 24).take 8) : Nat) : Int) = y7 at E7 ⊢
  generalize ((gval ((zs.drop 32).take 8) : Nat) : Int) = y8 at E8 ⊢
  generalize ((gval (((zs.drop 40).take 64).take 8) : Nat) : Int) = ys at q4 q5 ES ⊢
  clear r0 r1 r2 r3 r4 r5 r6 r7 r8 rR q1 q2 q3
  rcases E6 with ⟨e6, _⟩ | ⟨n6, m6, f6, g6⟩
  · rcases E7 with ⟨e7, _⟩ | ⟨n7, m7, f7, g7⟩
    · rcases E8 with ⟨e8, _⟩ | ⟨n8, m8, f8, g8⟩
      · subst e6 e7 e8
        rcases ES with es | ⟨s0, ys0⟩
        · subst es
          exact ⟨rfl, fun _ => rfl⟩
        · cases hR : rightR s ds p q with
          | true =>
            have es := (q5 hR).1
            subst es
            exact ⟨rfl, fun _ => rfl⟩
          | false =>
            have hR2 : rightR ys ds p q = false := by rw [← q4]; exact hR
            have hA := rightIno_no (k0 := k0) (k1 := k1) (k2 := k2) (k3 := k3) (k4 := k4) (k5 := k5) (k6 := k6) (k7 := k7) (k8 := k8) (s := s) (ds := ds) (p := p) (q := q) (x := s) (by simp [inoI, rootI]) s0 (by rw [hR, Bool.and_false])
            have hB := rightIno_no (k0 := k0) (k1 := k1) (k2 := k2) (k3 := k3) (k4 := k4) (k5 := k5) (k6 := k6) (k7 := k7) (k8 := k8) (s := ys) (ds := ds) (p := p) (q := q) (x := ys) (by simp [inoI, rootI]) ys0 (by rw [hR2, Bool.and_false])
            exact ⟨by rw [hA, hB], fun h => by rw [hA] at h; cases h⟩
      · have hA : rightIno k0 k1 k2 k3 k4 k5 k6 k7 k8 s ds p q = false := rightIno_no (x := k8) (by simp [inoI]) n8 (by simp [fieldsB, f8])
        have hB : rightIno k0 k1 k2 k3 k4 k5 y6 y7 y8 ys ds p q = false := rightIno_no (x := y8) (by simp [inoI]) m8 (by simp [fieldsB, g8])
        exact ⟨by rw [hA, hB], fun h => by rw [hA] at h; cases h⟩
    · have hA : rightIno k0 k1 k2 k3 k4 k5 k6 k7 k8 s ds p q = false := rightIno_no (x := k7) (by simp [inoI]) n7 (by simp [fieldsB, f7])
      have hB : rightIno k0 k1 k2 k3 k4 k5 y6 y7 y8 ys ds p q = false := rightIno_no (x := y7) (by simp [inoI]) m7 (by simp [fieldsB, g7])
      exact ⟨by rw [hA, hB], fun h => by rw [hA] at h; cases h⟩
  · have hA : rightIno k0 k1 k2 k3 k4 k5 k6 k7 k8 s ds p q = false := rightIno_no (x := k6) (by simp [inoI]) n6 (by simp [fieldsB, f6])
    have hB : rightIno k0 k1 k2 k3 k4 k5 y6 y7 y8 ys ds p q = false := rightIno_no (x := y6) (by simp [inoI]) m6 (by simp [fieldsB, g6])
    exact ⟨by rw [hA, hB], fun h => by rw [hA] at h; cases h⟩

/-- What DecodeInode tells of bytes. -/
def okDI (zs : List Int) : Bool := decide (zs.length = 128) && (rightIno (zs.getD 0 0) ((gval ((zs.drop 2).take 2) : Nat) : Int) ((gval ((zs.drop 4).take 2) : Nat) : Int) ((gval ((zs.drop 6).take 2) : Nat) : Int) ((gval ((zs.drop 8).take 2) : Nat) : Int) ((gval ((zs.drop 12).take 4) : Nat) : Int) ((gval ((zs.drop 16).take 8) : Nat) : Int) ((gval ((zs.drop 24).take 8) : Nat) : Int) ((gval ((zs.drop 32).take 8) : Nat) : Int) ((gval (((zs.drop 40).take 64).take 8) : Nat) : Int) (gwords ((zs.drop 40).take 64) 12) ((gval ((((zs.drop 40).take 64).drop 56).take 4) : Nat) : Int) ((gval ((((zs.drop 40).take 64).drop 60).take 4) : Nat) : Int) && gapsZ zs)
def decI (zs : List Int) : List Int := if okDI zs = true then inoI [(zs.getD 0 0), ((gval ((zs.drop 2).take 2) : Nat) : Int), ((gval ((zs.drop 4).take 2) : Nat) : Int), ((gval ((zs.drop 6).take 2) : Nat) : Int), ((gval ((zs.drop 8).take 2) : Nat) : Int), ((gval ((zs.drop 12).take 4) : Nat) : Int), ((gval ((zs.drop 16).take 8) : Nat) : Int), ((gval ((zs.drop 24).take 8) : Nat) : Int), ((gval ((zs.drop 32).take 8) : Nat) : Int)] ((gval (((zs.drop 40).take 64).take 8) : Nat) : Int) (gwords ((zs.drop 40).take 64) 12) ((gval ((((zs.drop 40).take 64).drop 56).take 4) : Nat) : Int) ((gval ((((zs.drop 40).take 64).drop 60).take 4) : Nat) : Int) else noIno
def codeDI (zs : List Int) : Int := if okDI zs = true then 0 else 21
theorem decI_ino (zs : List Int) : ∃ k0 k1 k2 k3 k4 k5 k6 k7 k8 s ds p q, ds.length = 12 ∧ decI zs = inoI [k0, k1, k2, k3, k4, k5, k6, k7, k8] s ds p q := by
  unfold decI
  split
  · exact ⟨_, _, _, _, _, _, _, _, _, _, _, _, _, gwords_len _ 12, rfl⟩
  · exact ⟨0, 0, 0, 0, 0, 0, 0, 0, 0, 0, List.replicate 12 0, 0, 0, rfl, rfl⟩
theorem implDI_same (v : Value) (zs : List Int) (w : World) (h : Rd .u8 w v zs) (hbd : ∀ z ∈ zs, 0 ≤ z ∧ z < 256) (hz : zs.length ≤ 140737488355328) (hg : ErrT w) :
    Calls Tryd.prog 58 #[v] w fun e w' => e = .returned (.tuple #[.agg (cellsI (decI zs)), .int .i64 (codeDI zs)]) ∧ Below w.heap.size w w' := by
  refine (implDI_any v zs w h hbd hz hg).mono ?_
  rintro e w' ⟨k0, k1, k2, k3, k4, k5, k6, k7, k8, s, ds, p, q, ok, ⟨hd, h1, h2⟩, rfl, hb⟩
  refine ⟨?_, hb⟩
  have e6 : okDI zs = ok ∧ (ok = true → inoI [k0, k1, k2, k3, k4, k5, k6, k7, k8] s ds p q = inoI [(zs.getD 0 0), ((gval ((zs.drop 2).take 2) : Nat) : Int), ((gval ((zs.drop 4).take 2) : Nat) : Int), ((gval ((zs.drop 6).take 2) : Nat) : Int), ((gval ((zs.drop 8).take 2) : Nat) : Int), ((gval ((zs.drop 12).take 4) : Nat) : Int), ((gval ((zs.drop 16).take 8) : Nat) : Int), ((gval ((zs.drop 24).take 8) : Nat) : Int), ((gval ((zs.drop 32).take 8) : Nat) : Int)] ((gval (((zs.drop 40).take 64).take 8) : Nat) : Int) (gwords ((zs.drop 40).take 64) 12) ((gval ((((zs.drop 40).take 64).drop 56).take 4) : Nat) : Int) ((gval ((((zs.drop 40).take 64).drop 60).take 4) : Nat) : Int)) := by
    by_cases h128 : zs.length = 128
    · cases hgz : gapsZ zs with
      | true =>
        obtain ⟨hr, hok⟩ := h2 h128 hgz
        obtain ⟨e1, e2⟩ := ino_agree zs k0 k1 k2 k3 k4 k5 k6 k7 k8 s ds p q hbd h128 hd hr
        refine ⟨?_, fun ho => e2 (hok ▸ ho)⟩
        unfold okDI
        rw [decide_eq_true h128, Bool.true_and, hgz, Bool.and_true, ← e1, hok]
      | false =>
        have e8 : ok = false := by
          cases ok with
          | false => rfl
          | true => have := (h1 rfl).2.2.2; rw [hgz] at this; cases this
        subst e8
        refine ⟨?_, fun ho => by cases ho⟩
        unfold okDI
        rw [hgz, Bool.and_false, Bool.and_false]
    · have e8 : ok = false := by
        cases ok with
        | false => rfl
        | true => exact absurd (h1 rfl).2.2.1 h128
      subst e8
      refine ⟨?_, fun ho => by cases ho⟩
      unfold okDI
      rw [decide_eq_false h128, Bool.false_and]
  unfold decI codeDI
  rw [e6.1]
  cases ok with
  | false => rfl
  | true =>
    rw [if_pos rfl, if_pos rfl, ← e6.2 rfl]
    rfl
end Go.Proofs.YtlgafpjmifacmaaDoor

namespace Go.Proofs.YtlgafpjmifacmaaDoor
set_option linter.unusedVariables false
set_option linter.unusedSimpArgs false
open Go.RowKit

theorem over_ino (k0 k1 k2 k3 k4 k5 k6 k7 k8 s : Int) (ds : List Int) (p q : Int) (hd : ds.length = 12) : over ([k0, k1, k2, k3, k4, k5, k6, k7, k8] ++ List.replicate 15 0) 9 (rootI s ds p q) = inoI [k0, k1, k2, k3, k4, k5, k6, k7, k8] s ds p q := by
  have hl := rootI_len s ds p q hd
  unfold over inoI
  rw [hl]
  simp

set_option maxRecDepth 100000 in
set_option maxHeartbeats 2000000 in
theorem toInode_any (k0 k1 k2 k3 k4 k5 k6 k7 k8 s : Int) (ds : List Int) (p q : Int) (w : World) (hd : ds.length = 12) :
    Calls Tryd.prog 26 #[.agg (cellsI (inoI [k0, k1, k2, k3, k4, k5, k6, k7, k8] s ds p q))] w fun e w' => e = .returned (.agg (cellsI (inoI [k0, k1, k2, k3, k4, k5, k6, k7, k8] s ds p q))) ∧ Below w.heap.size w w' := by
  have HD := hide hd
  have HLen := hide (show (cellsI (rootI s ds p q)).size = 15 from by rw [cellsI_size]; exact rootI_len s ds p q HD.out)
  have HZ := hide (show (cellsI (inoI [k0, k1, k2, k3, k4, k5, k6, k7, k8] s ds p q)).size = 24 from by rw [cellsI_size]; exact inoI_len _ _ _ _ _ rfl HD.out)
  have c0 : ∀ o1 o2, (((w.alloc (.cells (cellsI (inoI [k0, k1, k2, k3, k4, k5, k6, k7, k8] s ds p q)) 50)).alloc o1).alloc o2).cell? ⟨w.heap.size, 0, none⟩ = some (.int .i64 k0) := fun o1 o2 => by rw [(((Blk.new w _ _).alloc o1).alloc o2).cell 0]; rfl
  have c1 : ∀ o1 o2, (((w.alloc (.cells (cellsI (inoI [k0, k1, k2, k3, k4, k5, k6, k7, k8] s ds p q)) 50)).alloc o1).alloc o2).cell? ⟨w.heap.size, 1, none⟩ = some (.int .i64 k1) := fun o1 o2 => by rw [(((Blk.new w _ _).alloc o1).alloc o2).cell 1]; rfl
  have c2 : ∀ o1 o2, (((w.alloc (.cells (cellsI (inoI [k0, k1, k2, k3, k4, k5, k6, k7, k8] s ds p q)) 50)).alloc o1).alloc o2).cell? ⟨w.heap.size, 2, none⟩ = some (.int .i64 k2) := fun o1 o2 => by rw [(((Blk.new w _ _).alloc o1).alloc o2).cell 2]; rfl
  have c3 : ∀ o1 o2, (((w.alloc (.cells (cellsI (inoI [k0, k1, k2, k3, k4, k5, k6, k7, k8] s ds p q)) 50)).alloc o1).alloc o2).cell? ⟨w.heap.size, 3, none⟩ = some (.int .i64 k3) := fun o1 o2 => by rw [(((Blk.new w _ _).alloc o1).alloc o2).cell 3]; rfl
  have c4 : ∀ o1 o2, (((w.alloc (.cells (cellsI (inoI [k0, k1, k2, k3, k4, k5, k6, k7, k8] s ds p q)) 50)).alloc o1).alloc o2).cell? ⟨w.heap.size, 4, none⟩ = some (.int .i64 k4) := fun o1 o2 => by rw [(((Blk.new w _ _).alloc o1).alloc o2).cell 4]; rfl
  have c5 : ∀ o1 o2, (((w.alloc (.cells (cellsI (inoI [k0, k1, k2, k3, k4, k5, k6, k7, k8] s ds p q)) 50)).alloc o1).alloc o2).cell? ⟨w.heap.size, 5, none⟩ = some (.int .i64 k5) := fun o1 o2 => by rw [(((Blk.new w _ _).alloc o1).alloc o2).cell 5]; rfl
  have c6 : ∀ o1 o2, (((w.alloc (.cells (cellsI (inoI [k0, k1, k2, k3, k4, k5, k6, k7, k8] s ds p q)) 50)).alloc o1).alloc o2).cell? ⟨w.heap.size, 6, none⟩ = some (.int .i64 k6) := fun o1 o2 => by rw [(((Blk.new w _ _).alloc o1).alloc o2).cell 6]; rfl
  have c7 : ∀ o1 o2, (((w.alloc (.cells (cellsI (inoI [k0, k1, k2, k3, k4, k5, k6, k7, k8] s ds p q)) 50)).alloc o1).alloc o2).cell? ⟨w.heap.size, 7, none⟩ = some (.int .i64 k7) := fun o1 o2 => by rw [(((Blk.new w _ _).alloc o1).alloc o2).cell 7]; rfl
  have c8 : ∀ o1 o2, (((w.alloc (.cells (cellsI (inoI [k0, k1, k2, k3, k4, k5, k6, k7, k8] s ds p q)) 50)).alloc o1).alloc o2).cell? ⟨w.heap.size, 8, none⟩ = some (.int .i64 k8) := fun o1 o2 => by rw [(((Blk.new w _ _).alloc o1).alloc o2).cell 8]; rfl
  clear hd
  go_enter Tryd.func26, Tryd.ntmps26
  go_wp2_with (first
    | (refine wpList_load_mid rfl 48 _ rfl w.heap.size 9 rfl ((rootI s ds p q).map (Value.int .i64)) _ (ino_range k0 k1 k2 k3 k4 k5 k6 k7 k8 s ds p q HD.out (((Blk.new w (cellsI (inoI [k0, k1, k2, k3, k4, k5, k6, k7, k8] s ds p q)) 50).alloc _).alloc _)) Tryd.underlying48 rfl (by rw [List.length_map, ← cellsI_size, HLen.out]; exact infoL15) ?_)
    | (go_at_call 48; fail))
  refine (toRoot_any s ds p q _ HD.out).mono ?_
  rintro e w1 ⟨rfl, hb1⟩
  have kz : Blk w1 (w.heap.size + 1) (cellsI (List.replicate 24 0)) 44 := by
    have h := ((Blk.new (w.alloc (.cells (cellsI (inoI [k0, k1, k2, k3, k4, k5, k6, k7, k8] s ds p q)) 50)) (cellsI (List.replicate 24 0)) 44).alloc (.cells (cellsI ([k0, k1, k2, k3, k4, k5, k6, k7, k8] ++ List.replicate 15 0)) 44)).below hb1 (by simp)
    rw [World.size_alloc] at h
    exact h
  have ko : Blk w1 (w.heap.size + 1 + 1) (cellsI ([k0, k1, k2, k3, k4, k5, k6, k7, k8] ++ List.replicate 15 0)) 44 := by
    have h := (Blk.new ((w.alloc (.cells (cellsI (inoI [k0, k1, k2, k3, k4, k5, k6, k7, k8] s ds p q)) 50)).alloc (.cells (cellsI (List.replicate 24 0)) 44)) (cellsI ([k0, k1, k2, k3, k4, k5, k6, k7, k8] ++ List.replicate 15 0)) 44).below hb1 (by simp)
    rw [World.size_alloc, World.size_alloc] at h
    exact h
  have hB : Below w.heap.size w w1 := ((((Below.refl w.heap.size w).alloc (Nat.le_refl _) (.cells (cellsI (inoI [k0, k1, k2, k3, k4, k5, k6, k7, k8] s ds p q)) 50)).alloc (by simp) (.cells (cellsI (List.replicate 24 0)) 44)).alloc (by simp; omega) (.cells (cellsI ([k0, k1, k2, k3, k4, k5, k6, k7, k8] ++ List.replicate 15 0)) 44)).trans (hb1.mono (by simp; omega))
  have K := hide (And.intro kz (And.intro ko hB))
  clear kz ko hB hb1 c0 c1 c2 c3 c4 c5 c6 c7 c8
  have K2 := hide (show Blk (w1.setCells (w.heap.size + 1 + 1) 9 (cellsI (rootI s ds p q)).toList) (w.heap.size + 1) (cellsI (List.replicate 24 0)) 44 ∧ Blk (w1.setCells (w.heap.size + 1 + 1) 9 (cellsI (rootI s ds p q)).toList) (w.heap.size + 1 + 1) (cellsI (inoI [k0, k1, k2, k3, k4, k5, k6, k7, k8] s ds p q)) 44 ∧ Below w.heap.size w (w1.setCells (w.heap.size + 1 + 1) 9 (cellsI (rootI s ds p q)).toList) from
    ⟨Blk.cells_other _ 9 K.out.1 (by omega), by rw [← over_ino k0 k1 k2 k3 k4 k5 k6 k7 k8 s ds p q HD.out]; exact Blk.cells (rootI s ds p q) 9 K.out.2.1 (by rw [rootI_len s ds p q HD.out]; simp), below_cells (by omega) _ 9 K.out.2.2⟩)
  go_wp2_with (first | (refine wpList_store_mid rfl 42 _ _ rfl (w.heap.size + 1 + 1) 9 (cellsI (rootI s ds p q)) rfl rfl (K.out.2.1.there 9 _ (by rw [HLen.out, cellsI_size]; simp)) (by rw [HLen.out]; exact info15) (cellsI_one _) ?_; generalize w1.setCells (w.heap.size + 1 + 1) 9 (cellsI (rootI s ds p q)).toList = w2 at K2 ⊢) | (refine wpList_load_row rfl 44 _ rfl (w.heap.size + 1 + 1) rfl 44 (cellsI (inoI [k0, k1, k2, k3, k4, k5, k6, k7, k8] s ds p q)) (0, 0) _ K2.out.2.1 Tryd.underlying44 rfl (by rw [HZ.out]; exact info24) ?_) | (refine wpList_store_row rfl 44 _ _ rfl (w.heap.size + 1) (cellsI (inoI [k0, k1, k2, k3, k4, k5, k6, k7, k8] s ds p q)) rfl rfl 44 _ K2.out.1 (by rw [HZ.out]; exact info24) (by rw [HZ.out]; rfl) (cellsI_one _) ?_))
  refine bodyPost_ret (v := .agg (cellsI (inoI [k0, k1, k2, k3, k4, k5, k6, k7, k8] s ds p q))) ?_ rfl ⟨rfl, ?_⟩
  · exact results_cell_row rfl _ _ (w.heap.size + 1) 44 (cellsI (inoI [k0, k1, k2, k3, k4, k5, k6, k7, k8] s ds p q)) (0, 0) _ rfl (K2.out.1.row _) Tryd.underlying44 rfl (by rw [HZ.out]; exact info24)
  · exact below_setRow K2.out.2.2 (by omega) _
end Go.Proofs.YtlgafpjmifacmaaDoor
