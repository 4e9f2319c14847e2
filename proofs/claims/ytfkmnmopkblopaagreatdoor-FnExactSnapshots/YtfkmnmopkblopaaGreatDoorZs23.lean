/- Bytes that are an inode, read by the program and by the model: the same. The program lays a snapshot down: layLetters, laySnap. The program lays a snapshot down: laySnap. -/
import Derived.Test.YtfkmnmopkblopaaGreatDoorZs20
import Derived.Test.YtfkmnmopkblopaaGreatDoorZs21
import Derived.Test.YtfkmnmopkblopaaGreatDoorZs22
import Derived.Test.YtfkmnmopkblopaaGreatDoorZs16
import Derived.Test.YtfkmnmopkblopaaGreatDoorZs13
import Derived.Deep.RegionHeld3
import Derived.Room.AppendFits
namespace Go.Proofs.YtfkmnmopkblopaaGreatDoor
set_option linter.unusedVariables false
set_option linter.unusedSimpArgs false
open Go.RowKit

theorem gval_few (zs : List Int) (h : ∀ z ∈ zs, 0 ≤ z ∧ z < 256) (lo n : Nat) (hn : n ≤ 6) : gval ((zs.drop lo).take n) = unle ((zs.drop lo).take n) := by
  apply gval_small
  have h1 := unle_lt _ (bytes_cut h lo n)
  have h2 : ((zs.drop lo).take n).length ≤ 6 := by simp; omega
  have h3 : 256 ^ ((zs.drop lo).take n).length ≤ 256 ^ 6 := Nat.pow_le_pow_right (by decide) h2
  have h4 : (256 : Nat) ^ 6 = 281474976710656 := by decide
  omega
theorem unle8_lt (zs : List Int) (h : ∀ z ∈ zs, 0 ≤ z ∧ z < 256) (lo : Nat) : unle ((zs.drop lo).take 8) < 18446744073709551616 := by
  have h1 := unle_lt _ (bytes_cut h lo 8)
  have h2 : ((zs.drop lo).take 8).length ≤ 8 := by simp; omega
  have h3 : 256 ^ ((zs.drop lo).take 8).length ≤ 256 ^ 8 := Nat.pow_le_pow_right (by decide) h2
  have h4 : (256 : Nat) ^ 8 = 18446744073709551616 := by decide
  omega
/-- A number of eight bytes: the same for both, or out of all bounds for both. -/
theorem eight (ts : List Int) (hX : unle ts < 18446744073709551616) : (wrap64 ((unle ts : Nat) : Int) = ((gval ts : Nat) : Int) ∧ gval ts = unle ts) ∨ (wrap64 ((unle ts : Nat) : Int) ≠ 0 ∧ ((gval ts : Nat) : Int) ≠ 0 ∧ wi (wrap64 ((unle ts : Nat) : Int)) 1 1099511627776 = false ∧ wi ((gval ts : Nat) : Int) 1 1099511627776 = false) := by
  by_cases hs : unle ts < 18014398509481984
  · left
    rw [gval_small _ hs]
    refine ⟨?_, rfl⟩
    unfold wrap64
    omega
  · right
    have hg : gval ts = 4611686018427387904 := by
      unfold gval
      rw [if_pos (by omega)]
    rw [hg]
    have hw : wrap64 ((unle ts : Nat) : Int) < 0 ∨ 18014398509481984 ≤ wrap64 ((unle ts : Nat) : Int) := by
      unfold wrap64
      omega
    refine ⟨by omega, by decide, ?_, by decide⟩
    unfold wi
    rcases hw with hw | hw
    · rw [decide_eq_false (show ¬ (1 : Int) ≤ wrap64 ((unle ts : Nat) : Int) by omega), Bool.false_and]
    · rw [decide_eq_false (show ¬ wrap64 ((unle ts : Nat) : Int) ≤ 1099511627776 by omega), Bool.and_false]
theorem rightIno_no {k0 k1 k2 k3 k4 k5 k6 k7 k8 s : Int} {ds : List Int} {p q x : Int} (hx : x ∈ inoI [k0, k1, k2, k3, k4, k5, k6, k7, k8] s ds p q) (h0 : x ≠ 0) (hf : (fieldsB k0 k1 k2 k3 k4 k5 k6 k7 k8 && rightR s ds p q) = false) : rightIno k0 k1 k2 k3 k4 k5 k6 k7 k8 s ds p q = false := by
  unfold rightIno
  rw [hf, Bool.or_false]
  cases hz : zeroB (inoI [k0, k1, k2, k3, k4, k5, k6, k7, k8] s ds p q) with
  | false => rfl
  | true =>
    rw [zeroB_iff] at hz
    exact absurd (hz x hx) h0
theorem wordsFrom_shift (zs : List Int) (lo m p : Nat) : ∀ n, p + 4 * n ≤ m → wordsFrom ((zs.drop lo).take m) p n = wordsFrom zs (lo + p) n
  | 0, _ => by simp [wordsFrom]
  | n + 1, h => by
    rw [wordsFrom_succ, wordsFrom_succ, wordsFrom_shift zs lo m p n (by omega)]
    congr 1
    rw [List.drop_take, List.take_take, List.drop_drop, Nat.min_eq_left (by omega), Nat.add_assoc]
theorem root_shift {zs : List Int} {s : Int} {ds : List Int} {p q : Int} (h : RootAt zs 40 s ds p q) : RootAt ((zs.drop 40).take 64) 0 s ds p q := by
  obtain ⟨h1, h2⟩ := h
  refine ⟨?_, ?_⟩
  · rw [h1, List.drop_zero, List.take_take]
    rfl
  · rw [h2, wordsFrom_shift zs 40 64 (0 + 8) 14 (by omega)]
theorem allz_rep : ∀ (ts : List Int), allz ts = true → ts = List.replicate ts.length 0
  | [], _ => rfl
  | t :: ts, h => by
    have h' : (decide (t = 0) && allz ts) = true := h
    rw [Bool.and_eq_true] at h'
    have h1 : t = 0 := by simpa using h'.1
    rw [List.length_cons, List.replicate_succ, ← allz_rep ts h'.2, h1]
theorem allz_of_rep (n : Nat) : allz (List.replicate n 0) = true := by
  unfold allz
  rw [List.all_eq_true]
  intro x hx
  rw [(List.mem_replicate.1 hx).2]
  rfl
theorem gaps_bytes (a0 a1 a2 a3 a4 a5 a6 a7 a8 : Nat) (s : Int) (ds : List Int) (p q : Int) (hd : ds.length = 12) : gapsZ (bytesIno a0 a1 a2 a3 a4 a5 a6 a7 a8 s ds p q) = true := by
  have e1 : allz (((bytesIno a0 a1 a2 a3 a4 a5 a6 a7 a8 s ds p q).drop 1).take 1) = true := rfl
  have e2 : allz (((bytesIno a0 a1 a2 a3 a4 a5 a6 a7 a8 s ds p q).drop 10).take 2) = true := rfl
  have e3 : allz (((bytesIno a0 a1 a2 a3 a4 a5 a6 a7 a8 s ds p q).drop 104).take 24) = true := by
    unfold bytesIno
    rw [List.drop_append_of_le_length (by simp only [List.length_append, le_len, List.length_replicate, bytesR_len s ds p q hd]; omega)]
    rw [List.drop_of_length_le (by simp only [List.length_append, le_len, List.length_replicate, bytesR_len s ds p q hd]; omega), List.nil_append]
    rfl
  unfold gapsZ gaps2
  rw [e1, e2, e3]
  rfl
theorem cut_at (zs : List Int) (lo n : Nat) : zs.drop lo = (zs.drop lo).take n ++ zs.drop (lo + n) := by
  conv => lhs; rw [← List.take_append_drop n (zs.drop lo)]
  rw [List.drop_drop]
theorem bytes_whole (zs : List Int) (h : ∀ z ∈ zs, 0 ≤ z ∧ z < 256) (hz : zs.length = 128) (hg : gapsZ zs = true) (s : Int) (ds : List Int) (p q : Int) (hr : bytesR s ds p q = ((zs.drop 40).take 64)) :
    bytesIno (unle ((zs.drop 0).take 1)) (unle ((zs.drop 2).take 2)) (unle ((zs.drop 4).take 2)) (unle ((zs.drop 6).take 2)) (unle ((zs.drop 8).take 2)) (unle ((zs.drop 12).take 4)) (unle ((zs.drop 16).take 8)) (unle ((zs.drop 24).take 8)) (unle ((zs.drop 32).take 8)) s ds p q = zs := by
  have hl : ∀ lo n, lo + n ≤ 128 → le n (unle ((zs.drop lo).take n)) = (zs.drop lo).take n := fun lo n hn => by
    have h1 := le_unle _ (bytes_cut h lo n)
    rw [show ((zs.drop lo).take n).length = n by simp; omega] at h1
    exact h1
  unfold gapsZ gaps2 at hg
  rw [Bool.and_eq_true, Bool.and_eq_true, Bool.and_eq_true] at hg
  obtain ⟨⟨⟨_, g1⟩, g2⟩, g3⟩ := hg
  have r1 := allz_rep _ g1
  have r2 := allz_rep _ g2
  have r3 := allz_rep _ g3
  rw [show ((zs.drop 1).take 1).length = 1 by simp; omega] at r1
  rw [show ((zs.drop 10).take 2).length = 2 by simp; omega] at r2
  rw [show ((zs.drop 104).take 24).length = 24 by simp; omega] at r3
  unfold bytesIno
  rw [hl 0 1 (by omega), hl 2 2 (by omega), hl 4 2 (by omega), hl 6 2 (by omega), hl 8 2 (by omega), hl 12 4 (by omega), hl 16 8 (by omega), hl 24 8 (by omega), hl 32 8 (by omega), hr, ← r1, ← r2, ← r3]
  have e : zs = zs.drop 0 := rfl
  conv => rhs; rw [e, cut_at zs 0 1, cut_at zs (0 + 1) 1, cut_at zs (0 + 1 + 1) 2, cut_at zs (0 + 1 + 1 + 2) 2, cut_at zs (0 + 1 + 1 + 2 + 2) 2, cut_at zs (0 + 1 + 1 + 2 + 2 + 2) 2, cut_at zs (0 + 1 + 1 + 2 + 2 + 2 + 2) 2, cut_at zs (0 + 1 + 1 + 2 + 2 + 2 + 2 + 2) 4, cut_at zs (0 + 1 + 1 + 2 + 2 + 2 + 2 + 2 + 4) 8, cut_at zs (0 + 1 + 1 + 2 + 2 + 2 + 2 + 2 + 4 + 8) 8, cut_at zs (0 + 1 + 1 + 2 + 2 + 2 + 2 + 2 + 4 + 8 + 8) 8, cut_at zs (0 + 1 + 1 + 2 + 2 + 2 + 2 + 2 + 4 + 8 + 8 + 8) 64, cut_at zs (0 + 1 + 1 + 2 + 2 + 2 + 2 + 2 + 4 + 8 + 8 + 8 + 64) 24, List.drop_of_length_le (show zs.length ≤ 0 + 1 + 1 + 2 + 2 + 2 + 2 + 2 + 4 + 8 + 8 + 8 + 64 + 24 by omega), List.append_nil]
  simp only [List.append_assoc]
theorem kind_one (zs : List Int) (h : ∀ z ∈ zs, 0 ≤ z ∧ z < 256) (hz : zs.length = 128) : zs.getD 0 0 = ((unle ((zs.drop 0).take 1) : Nat) : Int) := by
  match zs, hz with
  | z :: zs, _ =>
    have hb := h z (by simp)
    simp [unle]
    omega

/-- What the program reads is what the model reads. -/
theorem ino_agree (zs : List Int) (k0 k1 k2 k3 k4 k5 k6 k7 k8 s : Int) (ds : List Int) (p q : Int) (h : ∀ z ∈ zs, 0 ≤ z ∧ z < 256) (hz : zs.length = 128) (hd : ds.length = 12) (hr : InoAt zs k0 k1 k2 k3 k4 k5 k6 k7 k8 s ds p q) :
    rightIno k0 k1 k2 k3 k4 k5 k6 k7 k8 s ds p q = rightIno (zs.getD 0 0) ((gval ((zs.drop 2).take 2) : Nat) : Int) ((gval ((zs.drop 4).take 2) : Nat) : Int) ((gval ((zs.drop 6).take 2) : Nat) : Int) ((gval ((zs.drop 8).take 2) : Nat) : Int) ((gval ((zs.drop 12).take 4) : Nat) : Int) ((gval ((zs.drop 16).take 8) : Nat) : Int) ((gval ((zs.drop 24).take 8) : Nat) : Int) ((gval ((zs.drop 32).take 8) : Nat) : Int) ((gval (((zs.drop 40).take 64).take 8) : Nat) : Int) (gwords ((zs.drop 40).take 64) 12) ((gval ((((zs.drop 40).take 64).drop 56).take 4) : Nat) : Int) ((gval ((((zs.drop 40).take 64).drop 60).take 4) : Nat) : Int) ∧ (rightIno k0 k1 k2 k3 k4 k5 k6 k7 k8 s ds p q = true → inoI [k0, k1, k2, k3, k4, k5, k6, k7, k8] s ds p q = inoI [(zs.getD 0 0), ((gval ((zs.drop 2).take 2) : Nat) : Int), ((gval ((zs.drop 4).take 2) : Nat) : Int), ((gval ((zs.drop 6).take 2) : Nat) : Int), ((gval ((zs.drop 8).take 2) : Nat) : Int), ((gval ((zs.drop 12).take 4) : Nat) : Int), ((gval ((zs.drop 16).take 8) : Nat) : Int), ((gval ((zs.drop 24).take 8) : Nat) : Int), ((gval ((zs.drop 32).take 8) : Nat) : Int)] ((gval (((zs.drop 40).take 64).take 8) : Nat) : Int) (gwords ((zs.drop 40).take 64) 12) ((gval ((((zs.drop 40).take 64).drop 56).take 4) : Nat) : Int) ((gval ((((zs.drop 40).take 64).drop 60).take 4) : Nat) : Int)) := by
  obtain ⟨r0, r1, r2, r3, r4, r5, r6, r7, r8, rR⟩ := hr
  have hzp : ((zs.drop 40).take 64).length = 64 := by simp; omega
  have hbp : ∀ z ∈ ((zs.drop 40).take 64), 0 ≤ z ∧ z < 256 := bytes_cut h 40 64
  obtain ⟨q1, q2, q3, q4, q5⟩ := root_agree ((zs.drop 40).take 64) s ds p q hbp hzp hd (root_shift rR)
  rw [← kind_one zs h hz] at r0
  rw [← gval_few zs h 2 2 (by omega)] at r1
  rw [← gval_few zs h 4 2 (by omega)] at r2
  rw [← gval_few zs h 6 2 (by omega)] at r3
  rw [← gval_few zs h 8 2 (by omega)] at r4
  rw [← gval_few zs h 12 4 (by omega)] at r5
  have E6 := eight _ (unle8_lt zs h 16)
  have E7 := eight _ (unle8_lt zs h 24)
  have E8 := eight _ (unle8_lt zs h 32)
  have ES : s = ((gval (((zs.drop 40).take 64).take 8) : Nat) : Int) ∨ (s ≠ 0 ∧ ((gval (((zs.drop 40).take 64).take 8) : Nat) : Int) ≠ 0) := by
    have e := rR.1
    have et : ((zs.drop 40).take 64).take 8 = (zs.drop 40).take 8 := by rw [List.take_take]; rfl
    rw [et, e]
    rcases eight _ (unle8_lt zs h 40) with ⟨e1, _⟩ | ⟨e1, e2, _, _⟩
    · exact .inl e1
    · exact .inr ⟨e1, e2⟩
  rw [← r6] at E6
  rw [← r7] at E7
  rw [← r8] at E8
  rw [← r0, ← r1, ← r2, ← r3, ← r4, ← r5, ← q1, ← q2, ← q3]
  generalize ((gval ((zs.drop 16).take 8) : Nat) : Int) = y6 at E6 ⊢
  generalize ((gval ((zs.drop 24).take 8) : Nat) : Int) = y7 at E7 ⊢
  generalize ((gval ((zs.drop 32).take 8) : Nat) : Int) = y8 at E8 ⊢
  generalize ((gval (((zs.drop 40).take 64).take 8) : Nat) : Int) = ys at q4 q5 ES ⊢
  clear r0 r1 r2 r3 r4 r5 r6 r7 r8 rR q1 q2 q3
  rcases E6 with ⟨e6, _⟩ | ⟨n6, m6, f6, g6⟩
  · rcases E7 with ⟨e7, _⟩ | ⟨n7, m7, f7, g7⟩
    · rcases E8 with ⟨e8, _⟩ | ⟨n8, m8, f8, g8⟩
      · subst e6 e7 e8
        rcases ES with es | ⟨s0, ys0⟩
        · subst es
          exact ⟨rfl, fun _ => rfl⟩
        · cases hR : rightR s ds p q with
          | true =>
            have es := (q5 hR).1
            subst es
            exact ⟨rfl, fun _ => rfl⟩
          | false =>
            have hR2 : rightR ys ds p q = false := by rw [← q4]; exact hR
            have hA := rightIno_no (k0 := k0) (k1 := k1) (k2 := k2) (k3 := k3) (k4 := k4) (k5 := k5) (k6 := k6) (k7 := k7) (k8 := k8) (s := s) (ds := ds) (p := p) (q := q) (x := s) (by simp [inoI, rootI]) s0 (by rw [hR, Bool.and_false])
            have hB := rightIno_no (k0 := k0) (k1 := k1) (k2 := k2) (k3 := k3) (k4 := k4) (k5 := k5) (k6 := k6) (k7 := k7) (k8 := k8) (s := ys) (ds := ds) (p := p) (q := q) (x := ys) (by simp [inoI, rootI]) ys0 (by rw [hR2, Bool.and_false])
            exact ⟨by rw [hA, hB], fun h => by rw [hA] at h; cases h⟩
      · have hA : rightIno k0 k1 k2 k3 k4 k5 k6 k7 k8 s ds p q = false := rightIno_no (x := k8) (by simp [inoI]) n8 (by simp [fieldsB, f8])
        have hB : rightIno k0 k1 k2 k3 k4 k5 y6 y7 y8 ys ds p q = false := rightIno_no (x := y8) (by simp [inoI]) m8 (by simp [fieldsB, g8])
        exact ⟨by rw [hA, hB], fun h => by rw [hA] at h; cases h⟩
    · have hA : rightIno k0 k1 k2 k3 k4 k5 k6 k7 k8 s ds p q = false := rightIno_no (x := k7) (by simp [inoI]) n7 (by simp [fieldsB, f7])
      have hB : rightIno k0 k1 k2 k3 k4 k5 y6 y7 y8 ys ds p q = false := rightIno_no (x := y7) (by simp [inoI]) m7 (by simp [fieldsB, g7])
      exact ⟨by rw [hA, hB], fun h => by rw [hA] at h; cases h⟩
  · have hA : rightIno k0 k1 k2 k3 k4 k5 k6 k7 k8 s ds p q = false := rightIno_no (x := k6) (by simp [inoI]) n6 (by simp [fieldsB, f6])
    have hB : rightIno k0 k1 k2 k3 k4 k5 y6 y7 y8 ys ds p q = false := rightIno_no (x := y6) (by simp [inoI]) m6 (by simp [fieldsB, g6])
    exact ⟨by rw [hA, hB], fun h => by rw [hA] at h; cases h⟩

/-- What DecodeInode tells of bytes. -/
def okDI (zs : List Int) : Bool := decide (zs.length = 128) && (rightIno (zs.getD 0 0) ((gval ((zs.drop 2).take 2) : Nat) : Int) ((gval ((zs.drop 4).take 2) : Nat) : Int) ((gval ((zs.drop 6).take 2) : Nat) : Int) ((gval ((zs.drop 8).take 2) : Nat) : Int) ((gval ((zs.drop 12).take 4) : Nat) : Int) ((gval ((zs.drop 16).take 8) : Nat) : Int) ((gval ((zs.drop 24).take 8) : Nat) : Int) ((gval ((zs.drop 32).take 8) : Nat) : Int) ((gval (((zs.drop 40).take 64).take 8) : Nat) : Int) (gwords ((zs.drop 40).take 64) 12) ((gval ((((zs.drop 40).take 64).drop 56).take 4) : Nat) : Int) ((gval ((((zs.drop 40).take 64).drop 60).take 4) : Nat) : Int) && gapsZ zs)
def decI (zs : List Int) : List Int := if okDI zs = true then inoI [(zs.getD 0 0), ((gval ((zs.drop 2).take 2) : Nat) : Int), ((gval ((zs.drop 4).take 2) : Nat) : Int), ((gval ((zs.drop 6).take 2) : Nat) : Int), ((gval ((zs.drop 8).take 2) : Nat) : Int), ((gval ((zs.drop 12).take 4) : Nat) : Int), ((gval ((zs.drop 16).take 8) : Nat) : Int), ((gval ((zs.drop 24).take 8) : Nat) : Int), ((gval ((zs.drop 32).take 8) : Nat) : Int)] ((gval (((zs.drop 40).take 64).take 8) : Nat) : Int) (gwords ((zs.drop 40).take 64) 12) ((gval ((((zs.drop 40).take 64).drop 56).take 4) : Nat) : Int) ((gval ((((zs.drop 40).take 64).drop 60).take 4) : Nat) : Int) else noIno
def codeDI (zs : List Int) : Int := if okDI zs = true then 0 else 21
theorem decI_ino (zs : List Int) : ∃ k0 k1 k2 k3 k4 k5 k6 k7 k8 s ds p q, ds.length = 12 ∧ decI zs = inoI [k0, k1, k2, k3, k4, k5, k6, k7, k8] s ds p q := by
  unfold decI
  split
  · exact ⟨_, _, _, _, _, _, _, _, _, _, _, _, _, gwords_len _ 12, rfl⟩
  · exact ⟨0, 0, 0, 0, 0, 0, 0, 0, 0, 0, List.replicate 12 0, 0, 0, rfl, rfl⟩
end Go.Proofs.YtfkmnmopkblopaaGreatDoor

namespace Go.Proofs.YtfkmnmopkblopaaGreatDoor
set_option linter.unusedVariables false
set_option linter.unusedSimpArgs false
open Go.RowKit

theorem wp_append_fits {P : Program} (w : World) {o : Oper} {a : Act} {K : Act → World → Prop} {Q : Exit → Act → World → Prop}
    (s x : Operand) (t : TypeId) (hop : o.op = Op.call { callee := Callee.builtin Builtin.append, args := #[s, x], argTypes := #[t, t] })
    (base : Nat) (e : TypeId) (i : TypeInfo) (size : Nat) (h1 : P.underlying t = some (.slice e)) (h2 : P.info? e = some i) (h4 : i.size = size)
    (g k cap : Nat) (xs : List Value) (hs : a.eval s = .slice (some ⟨g, 0, none⟩) k cap) (hown : w.ownsRow base e size (.slice (some ⟨g, 0, none⟩) k cap) k xs) (ad : Addr) (m c : Nat) (news : List Value) (hx : a.eval x = .slice (some ad) m c) (hn : news.length = m * size)
    (hc : ∀ j u, news[j]? = some u → w.cell? (ad.add j) = some u) (h1c : ∀ u ∈ news, u.oneCell' = true) (b1 : k + m ≤ cap)
    (hK : ∀ w', w'.ownsRow base e size (.slice (some ⟨g, 0, none⟩) (k + m) cap) (k + m) (xs ++ news) → w.grownBy w' (some g) → K (a.put o.dst (.slice (some ⟨g, 0, none⟩) (k + m) cap)) w') :
    o.wp P a w K Q := by
  obtain ⟨w', hrun, r1, r2⟩ := run_append_fits (P := P) w base t o.type e i size h1 h2 h4 g k cap xs hown ad m c news hn hc h1c b1
  unfold Oper.wp
  simp [execOp, hop, resolve, invoke, builtin, hs, hx, hrun, Result.andThen]
  exact hK w' r1 r2
theorem make512 (w : World) : (Instr.makeSlice 22 (.int .i64 0) (.int .i64 512)).run Tryz.prog w = .ok (.slice (some ⟨w.heap.size, 0, none⟩) 0 512) (w.alloc (.cells (Array.replicate 512 (.int .u8 0)) 5)) := by kernel_rfl

end Go.Proofs.YtfkmnmopkblopaaGreatDoor

namespace Go.Proofs.YtfkmnmopkblopaaGreatDoor
set_option linter.unusedVariables false
set_option linter.unusedSimpArgs false
open Go.RowKit

/-- The letters of a snapshot, where the program's own start lays them. -/
def snapLet : List Int := [115, 110, 97, 112, 115, 104, 111, 116]
def LetS (w : World) : Prop := w.rangeAt 2 0 (snapLet.map (Value.int .u8))
theorem LetS.below {w w' : World} (h : LetS w) (hb : Below w.heap.size w w') : LetS w' := fun j v hv => by
  have h1 := h j v hv
  exact (hb.cell (p := ⟨2, 0 + j, none⟩) (cell_lt h1)).trans h1
theorem info8 : (Tryz.prog.info? 104).map (·.size) = some 8 := by kernel_rfl
def strInts (nm : ByteArray) : List Int := nm.data.toList.map fun b => (b.toNat : Int)
theorem strInts_cells (nm : ByteArray) : Go.Lib.strCells nm = (strInts nm).map (Value.int .u8) := by
  unfold Go.Lib.strCells strInts
  rw [List.map_map]
  rfl
theorem strInts_len (nm : ByteArray) : (strInts nm).length = nm.size := by
  unfold strInts
  rw [List.length_map, Array.length_toList]
  rfl
theorem strInts_bd (nm : ByteArray) : ∀ z ∈ strInts nm, 0 ≤ z ∧ z < 256 := by
  intro z hz
  unfold strInts at hz
  obtain ⟨b, _, rfl⟩ := List.mem_map.1 hz
  have := b.toNat_lt
  omega
/-- The bytes of a snapshot ahead of its sum. -/
def bytesS (a : Nat) (nm : ByteArray) (b c : Nat) (s : Int) (ds : List Int) (p q : Int) : List Int := snapLet ++ le 1 a ++ le 1 nm.size ++ strInts nm ++ List.replicate (40 - (10 + nm.size)) 0 ++ le 8 b ++ le 8 c ++ bytesR s ds p q
theorem bytesS_len (a : Nat) (nm : ByteArray) (b c : Nat) (s : Int) (ds : List Int) (p q : Int) (hd : ds.length = 12) (hn : nm.size ≤ 26) : (bytesS a nm b c s ds p q).length = 120 := by
  unfold bytesS
  simp only [List.length_append, le_len, List.length_replicate, bytesR_len s ds p q hd, strInts_len, snapLet, List.length_cons, List.length_nil]
  omega

/-- What the laying keeps, in a row of 512 bytes. -/
structure Ls (w wr : World) (g k : Nat) (xs : List Int) (C : Array Value) (t : TypeId) : Prop where
  own : wr.ownsRow w.heap.size 5 1 (.slice (some ⟨g, 0, none⟩) k 512) k (xs.map (Value.int .u8))
  blk : Blk wr w.heap.size C t
  old : Below w.heap.size w wr
  lt : w.heap.size < g
theorem Ls.step {w wr w' : World} {g k k' : Nat} {xs ys : List Int} {C : Array Value} {t : TypeId} (h : Ls w wr g k xs C t) (ho : w'.ownsRow w.heap.size 5 1 (.slice (some ⟨g, 0, none⟩) k' 512) k' (xs.map (Value.int .u8) ++ ys.map (Value.int .u8))) (hg : wr.grownBy w' (some g)) : Ls w w' g k' (xs ++ ys) C t :=
  ⟨by rw [List.map_append]; exact ho, (hg.block _ h.blk.lt (by have := h.lt; simp; omega)).trans h.blk, h.old.grown hg h.old.size (fun k e => by cases e; exact Nat.le_of_lt h.lt), h.lt⟩

end Go.Proofs.YtfkmnmopkblopaaGreatDoor
