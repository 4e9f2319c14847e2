/- The model's bytes of an inode: l02InodeBytes. EncodeInode, of the program and of the model. Bytes that are an inode, read by the program and by the model: the same. -/
import Derived.Test.YtkaennkfieebmaaDoorInoE
import Derived.Test.YtkaennkfieebmaaDoorInoF
import Derived.Deep.RegionHeld3
import Derived.Test.YtkaennkfieebmaaDoorKfA
import Derived.Test.YtkaennkfieebmaaDoorKfB
namespace Go.Proofs.YtkaennkfieebmaaDoor
set_option linter.unusedVariables false
set_option linter.unusedSimpArgs false
open Go.RowKit

theorem put_eq (x y : Value) (v n : Nat) (w : World) (hx : x = .int .i64 (v : Int)) (hy : y = .int .i64 (n : Int)) (hv : v < 281474976710656) (hn : n ≤ 8) (h0 : 0 < n) :
    Calls Tryd.prog 33 #[x, y] w fun e w' => ∃ g cp, e = .returned (.slice (some ⟨g, 0, none⟩) n cp) ∧ w'.ownsRow w.heap.size 5 1 (.slice (some ⟨g, 0, none⟩) n cp) n ((le n v).map (Value.int .u8)) ∧ Below w.heap.size w w' := by
  subst hx hy
  exact put_pos v n w hv hn h0
theorem held_next {w0 w w' : World} (h : Below w0.heap.size w0 w) (h2 : Below w.heap.size w w') : Below w0.heap.size w0 w' := h.trans (h2.mono h.size)
theorem held_alloc {w0 w : World} (h : Below w0.heap.size w0 w) (o : Obj) : Below w0.heap.size w0 (w.alloc o) := h.alloc h.size o
theorem held_drew {B : Nat} {w0 w : World} (h : Below B w0 w) : Below B w0 w.drew := h.drew
theorem rootBytes_pos (s : Int) (ds : List Int) (p q : Int) (w : World) (hd : ds.length = 12) (hs : 0 ≤ s ∧ s ≤ 262144) (hp : ∀ z ∈ ds ++ [p, q], 0 ≤ z ∧ z < 2048) :
    Calls Tryd.prog 36 #[.agg (cellsI (rootI s ds p q))] w fun e w' => ∃ g cp, e = .returned (.slice (some ⟨g, 0, none⟩) 64 cp) ∧ w'.ownsRow w.heap.size 5 1 (.slice (some ⟨g, 0, none⟩) 64 cp) 64 ((bytesR s ds p q).map (Value.int .u8)) ∧ Below w.heap.size w w' := by
  refine (rootBytes_any s ds p q w hd hs hp).mono ?_
  rintro e w' ⟨v', rfl, ho, hb⟩
  rcases ho.2 with ⟨rfl, hn0⟩ | ⟨g, cap, cur, rfl, _⟩
  · omega
  · exact ⟨g, cap, rfl, ho, hb⟩
theorem le2 (n : Nat) (h : n < 256) : le 2 n = le 1 n ++ List.replicate 1 0 := by
  have h1 : n / 256 % 256 = 0 := by omega
  simp [le, h1]
theorem bytesIno_join (a0 a1 a2 a3 a4 a5 a6 a7 a8 : Nat) (s : Int) (ds : List Int) (p q : Int) (hd : ds.length = 12) (h0 : a0 < 256) :
    (([le 2 a0, le 2 a1, le 2 a2, le 2 a3, le 2 a4, le 2 0, le 4 a5, le 8 a6, le 8 a7, le 8 a8, bytesR s ds p q] : List (List Int)).flatten ++ List.replicate (128 - ([le 2 a0, le 2 a1, le 2 a2, le 2 a3, le 2 a4, le 2 0, le 4 a5, le 8 a6, le 8 a7, le 8 a8, bytesR s ds p q] : List (List Int)).flatten.length) 0) = bytesIno a0 a1 a2 a3 a4 a5 a6 a7 a8 s ds p q := by
  have hl : ([le 2 a0, le 2 a1, le 2 a2, le 2 a3, le 2 a4, le 2 0, le 4 a5, le 8 a6, le 8 a7, le 8 a8, bytesR s ds p q] : List (List Int)).flatten.length = 104 := by
    simp only [List.flatten_cons, List.flatten_nil, List.length_append, le_len, bytesR_len s ds p q hd, List.length_nil]
  rw [hl]
  unfold bytesIno
  rw [le2 a0 h0, show le 2 0 = List.replicate 2 0 from rfl]
  simp only [List.flatten_cons, List.flatten_nil, List.append_nil, List.append_assoc]

theorem parts_len (a0 a1 a2 a3 a4 a5 a6 a7 a8 : Nat) (s : Int) (ds : List Int) (p q : Int) (hd : ds.length = 12) : ([le 2 a0, le 2 a1, le 2 a2, le 2 a3, le 2 a4, le 2 0, le 4 a5, le 8 a6, le 8 a7, le 8 a8, bytesR s ds p q] : List (List Int)).flatten.length = 104 := by
  simp only [List.flatten_cons, List.flatten_nil, List.length_append, le_len, bytesR_len s ds p q hd, List.length_nil]
theorem parts_pos (a0 a1 a2 a3 a4 a5 a6 a7 a8 : Nat) (s : Int) (ds : List Int) (p q : Int) (hd : ds.length = 12) : ∀ b ∈ ([le 2 a0, le 2 a1, le 2 a2, le 2 a3, le 2 a4, le 2 0, le 4 a5, le 8 a6, le 8 a7, le 8 a8, bytesR s ds p q] : List (List Int)), 0 < b.length := by
  intro b hb
  simp only [List.mem_cons, List.not_mem_nil, or_false] at hb
  rcases hb with rfl | rfl | rfl | rfl | rfl | rfl | rfl | rfl | rfl | rfl | rfl
  all_goals first | (rw [le_len]; omega) | (rw [bytesR_len s ds p q hd]; omega)

end Go.Proofs.YtkaennkfieebmaaDoor

namespace Go.Proofs.YtkaennkfieebmaaDoor
set_option linter.unusedVariables false
set_option linter.unusedSimpArgs false
open Go.RowKit

def encI (k0 k1 k2 k3 k4 k5 k6 k7 k8 s : Int) (ds : List Int) (p q : Int) : List Int := if rightIno k0 k1 k2 k3 k4 k5 k6 k7 k8 s ds p q = true then bytesIno k0.toNat k1.toNat k2.toNat k3.toNat k4.toNat k5.toNat k6.toNat k7.toNat k8.toNat s ds p q else []
def codeI (k0 k1 k2 k3 k4 k5 k6 k7 k8 s : Int) (ds : List Int) (p q : Int) : Int := if rightIno k0 k1 k2 k3 k4 k5 k6 k7 k8 s ds p q = true then 0 else 7
theorem encI_len (k0 k1 k2 k3 k4 k5 k6 k7 k8 s : Int) (ds : List Int) (p q : Int) (hd : ds.length = 12) : (encI k0 k1 k2 k3 k4 k5 k6 k7 k8 s ds p q).length ≤ 128 := by
  unfold encI
  split
  · rw [bytesIno_len _ _ _ _ _ _ _ _ _ s ds p q hd]; omega
  · simp
theorem ino_bd {k0 k1 k2 k3 k4 k5 k6 k7 k8 s : Int} {ds : List Int} {p q : Int} (hd : ds.length = 12) (h : rightIno k0 k1 k2 k3 k4 k5 k6 k7 k8 s ds p q = true) :
    (0 ≤ k0 ∧ k0 < 256) ∧ (0 ≤ k1 ∧ k1 < 65536) ∧ (0 ≤ k2 ∧ k2 < 65536) ∧ (0 ≤ k3 ∧ k3 < 65536) ∧ (0 ≤ k4 ∧ k4 < 65536) ∧ (0 ≤ k5 ∧ k5 < 4294967296) ∧ (0 ≤ k6 ∧ k6 < 281474976710656) ∧ (0 ≤ k7 ∧ k7 < 281474976710656) ∧ (0 ≤ k8 ∧ k8 < 281474976710656) ∧ (0 ≤ s ∧ s ≤ 262144) ∧ ∀ z ∈ ds ++ [p, q], 0 ≤ z ∧ z < 2048 := by
  unfold rightIno at h
  rw [Bool.or_eq_true] at h
  rcases h with h | h
  · rw [zeroB_iff] at h
    have hz : ∀ x ∈ inoI [k0, k1, k2, k3, k4, k5, k6, k7, k8] s ds p q, x = 0 := h
    have e0 := hz k0 (by simp [inoI])
    have e1 := hz k1 (by simp [inoI])
    have e2 := hz k2 (by simp [inoI])
    have e3 := hz k3 (by simp [inoI])
    have e4 := hz k4 (by simp [inoI])
    have e5 := hz k5 (by simp [inoI])
    have e6 := hz k6 (by simp [inoI])
    have e7 := hz k7 (by simp [inoI])
    have e8 := hz k8 (by simp [inoI])
    have es := hz s (by simp [inoI, rootI])
    refine ⟨by omega, by omega, by omega, by omega, by omega, by omega, by omega, by omega, by omega, by omega, fun z hm => ?_⟩
    have ez := hz z (by unfold inoI rootI; exact List.mem_append_right _ (List.mem_cons_of_mem _ hm))
    omega
  · rw [Bool.and_eq_true] at h
    have hb := right_bd hd h.2
    have hf := h.1
    unfold fieldsB at hf
    simp only [Bool.and_eq_true] at hf
    obtain ⟨⟨⟨⟨⟨⟨⟨⟨f0, f1⟩, f2⟩, f3⟩, f4⟩, f5⟩, f6⟩, f7⟩, f8⟩ := hf
    have g0 := wi_true f0
    have g1 := wi_true f1
    have g2 := wi_true f2
    have g3 := wi_true f3
    have g4 := wi_true f4
    have g6 := wi_true f6
    have g7 := wi_true f7
    have g8 := wi_true f8
    have g5 : 0 ≤ k5 ∧ k5 ≤ 1000 := by
      unfold parB at f5
      split at f5
      · have := wi_true f5; omega
      · simp at f5; omega
    exact ⟨by omega, by omega, by omega, by omega, by omega, by omega, by omega, by omega, by omega, hb.1, hb.2⟩

theorem openI {P : Prop} {k0 k1 k2 k3 k4 k5 k6 k7 k8 s : Int} {ds : List Int} {p q : Int} (hd : ds.length = 12) (hr : rightIno k0 k1 k2 k3 k4 k5 k6 k7 k8 s ds p q = true)
    (h : ∀ (a0 a1 a2 a3 a4 a5 a6 a7 a8 : Nat) (d0 d1 d2 d3 d4 d5 d6 d7 d8 d9 d10 d11 : Int), (k0 = (a0 : Int) ∧ k1 = (a1 : Int) ∧ k2 = (a2 : Int) ∧ k3 = (a3 : Int) ∧ k4 = (a4 : Int) ∧ k5 = (a5 : Int) ∧ k6 = (a6 : Int) ∧ k7 = (a7 : Int) ∧ k8 = (a8 : Int)) → ds = [d0, d1, d2, d3, d4, d5, d6, d7, d8, d9, d10, d11] → (a0 < 256 ∧ a1 < 65536 ∧ a2 < 65536 ∧ a3 < 65536 ∧ a4 < 65536 ∧ a5 < 4294967296 ∧ a6 < 281474976710656 ∧ a7 < 281474976710656 ∧ a8 < 281474976710656 ∧ (0 ≤ s ∧ s ≤ 262144) ∧ ∀ z ∈ ds ++ [p, q], 0 ≤ z ∧ z < 2048) → P) : P := by
  obtain ⟨b0, b1, b2, b3, b4, b5, b6, b7, b8, bs, bp⟩ := ino_bd hd hr
  obtain ⟨d0, d1, d2, d3, d4, d5, d6, d7, d8, d9, d10, d11, rfl⟩ := list12 hd
  exact h k0.toNat k1.toNat k2.toNat k3.toNat k4.toNat k5.toNat k6.toNat k7.toNat k8.toNat d0 d1 d2 d3 d4 d5 d6 d7 d8 d9 d10 d11 ⟨by omega, by omega, by omega, by omega, by omega, by omega, by omega, by omega, by omega⟩ rfl ⟨by omega, by omega, by omega, by omega, by omega, by omega, by omega, by omega, by omega, bs, bp⟩

end Go.Proofs.YtkaennkfieebmaaDoor

namespace Go.Proofs.YtkaennkfieebmaaDoor
set_option linter.unusedVariables false
set_option linter.unusedSimpArgs false
open Go.RowKit

theorem gval_few (zs : List Int) (h : ∀ z ∈ zs, 0 ≤ z ∧ z < 256) (lo n : Nat) (hn : n ≤ 6) : gval ((zs.drop lo).take n) = unle ((zs.drop lo).take n) := by
  apply gval_small
  have h1 := unle_lt _ (bytes_cut h lo n)
  have h2 : ((zs.drop lo).take n).length ≤ 6 := by simp; omega
  have h3 : 256 ^ ((zs.drop lo).take n).length ≤ 256 ^ 6 := Nat.pow_le_pow_right (by decide) h2
  have h4 : (256 : Nat) ^ 6 = 281474976710656 := by decide
  omega
theorem unle8_lt (zs : List Int) (h : ∀ z ∈ zs, 0 ≤ z ∧ z < 256) (lo : Nat) : unle ((zs.drop lo).take 8) < 18446744073709551616 := by
  have h1 := unle_lt _ (bytes_cut h lo 8)
  have h2 : ((zs.drop lo).take 8).length ≤ 8 := by simp; omega
  have h3 : 256 ^ ((zs.drop lo).take 8).length ≤ 256 ^ 8 := Nat.pow_le_pow_right (by decide) h2
  have h4 : (256 : Nat) ^ 8 = 18446744073709551616 := by decide
  omega
/-- A number of eight bytes: the same for both, or out of all bounds for both. -/
theorem eight (ts : List Int) (hX : unle ts < 18446744073709551616) : (wrap64 ((unle ts : Nat) : Int) = ((gval ts : Nat) : Int) ∧ gval ts = unle ts) ∨ (wrap64 ((unle ts : Nat) : Int) ≠ 0 ∧ ((gval ts : Nat) : Int) ≠ 0 ∧ wi (wrap64 ((unle ts : Nat) : Int)) 1 1099511627776 = false ∧ wi ((gval ts : Nat) : Int) 1 1099511627776 = false) := by
  by_cases hs : unle ts < 18014398509481984
  · left
    rw [gval_small _ hs]
    refine ⟨?_, rfl⟩
    unfold wrap64
    omega
  · right
    have hg : gval ts = 4611686018427387904 := by
      unfold gval
      rw [if_pos (by omega)]
    rw [hg]
    have hw : wrap64 ((unle ts : Nat) : Int) < 0 ∨ 18014398509481984 ≤ wrap64 ((unle ts : Nat) : Int) := by
      unfold wrap64
      omega
    refine ⟨by omega, by decide, ?_, by decide⟩
    unfold wi
    rcases hw with hw | hw
    · rw [decide_eq_false (show ¬ (1 : Int) ≤ wrap64 ((unle ts : Nat) : Int) by omega), Bool.false_and]
    · rw [decide_eq_false (show ¬ wrap64 ((unle ts : Nat) : Int) ≤ 1099511627776 by omega), Bool.and_false]
theorem rightIno_no {k0 k1 k2 k3 k4 k5 k6 k7 k8 s : Int} {ds : List Int} {p q x : Int} (hx : x ∈ inoI [k0, k1, k2, k3, k4, k5, k6, k7, k8] s ds p q) (h0 : x ≠ 0) (hf : (fieldsB k0 k1 k2 k3 k4 k5 k6 k7 k8 && rightR s ds p q) = false) : rightIno k0 k1 k2 k3 k4 k5 k6 k7 k8 s ds p q = false := by
  unfold rightIno
  rw [hf, Bool.or_false]
  cases hz : zeroB (inoI [k0, k1, k2, k3, k4, k5, k6, k7, k8] s ds p q) with
  | false => rfl
  | true =>
    rw [zeroB_iff] at hz
    exact absurd (hz x hx) h0
theorem wordsFrom_shift (zs : List Int) (lo m p : Nat) : ∀ n, p + 4 * n ≤ m → wordsFrom ((zs.drop lo).take m) p n = wordsFrom zs (lo + p) n
  | 0, _ => by simp [wordsFrom]
  | n + 1, h => by
    rw [wordsFrom_succ, wordsFrom_succ, wordsFrom_shift zs lo m p n (by omega)]
    congr 1
    rw [List.drop_take, List.take_take, List.drop_drop, Nat.min_eq_left (by omega), Nat.add_assoc]
theorem root_shift {zs : List Int} {s : Int} {ds : List Int} {p q : Int} (h : RootAt zs 40 s ds p q) : RootAt ((zs.drop 40).take 64) 0 s ds p q := by
  obtain ⟨h1, h2⟩ := h
  refine ⟨?_, ?_⟩
  · rw [h1, List.drop_zero, List.take_take]
    rfl
  · rw [h2, wordsFrom_shift zs 40 64 (0 + 8) 14 (by omega)]
theorem allz_rep : ∀ (ts : List Int), allz ts = true → ts = List.replicate ts.length 0
  | [], _ => rfl
  | t :: ts, h => by
    have h' : (decide (t = 0) && allz ts) = true := h
    rw [Bool.and_eq_true] at h'
    have h1 : t = 0 := by simpa using h'.1
    rw [List.length_cons, List.replicate_succ, ← allz_rep ts h'.2, h1]
theorem allz_of_rep (n : Nat) : allz (List.replicate n 0) = true := by
  unfold allz
  rw [List.all_eq_true]
  intro x hx
  rw [(List.mem_replicate.1 hx).2]
  rfl
theorem gaps_bytes (a0 a1 a2 a3 a4 a5 a6 a7 a8 : Nat) (s : Int) (ds : List Int) (p q : Int) (hd : ds.length = 12) : gapsZ (bytesIno a0 a1 a2 a3 a4 a5 a6 a7 a8 s ds p q) = true := by
  have e1 : allz (((bytesIno a0 a1 a2 a3 a4 a5 a6 a7 a8 s ds p q).drop 1).take 1) = true := rfl
  have e2 : allz (((bytesIno a0 a1 a2 a3 a4 a5 a6 a7 a8 s ds p q).drop 10).take 2) = true := rfl
  have e3 : allz (((bytesIno a0 a1 a2 a3 a4 a5 a6 a7 a8 s ds p q).drop 104).take 24) = true := by
    unfold bytesIno
    rw [List.drop_append_of_le_length (by simp only [List.length_append, le_len, List.length_replicate, bytesR_len s ds p q hd]; omega)]
    rw [List.drop_of_length_le (by simp only [List.length_append, le_len, List.length_replicate, bytesR_len s ds p q hd]; omega), List.nil_append]
    rfl
  unfold gapsZ gaps2
  rw [e1, e2, e3]
  rfl
theorem cut_at (zs : List Int) (lo n : Nat) : zs.drop lo = (zs.drop lo).take n ++ zs.drop (lo + n) := by
  conv => lhs; rw [← List.take_append_drop n (zs.drop lo)]
  rw [List.drop_drop]
theorem bytes_whole (zs : List Int) (h : ∀ z ∈ zs, 0 ≤ z ∧ z < 256) (hz : zs.length = 128) (hg : gapsZ zs = true) (s : Int) (ds : List Int) (p q : Int) (hr : bytesR s ds p q = ((zs.drop 40).take 64)) :
    bytesIno (unle ((zs.drop 0).take 1)) (unle ((zs.drop 2).take 2)) (unle ((zs.drop 4).take 2)) (unle ((zs.drop 6).take 2)) (unle ((zs.drop 8).take 2)) (unle ((zs.drop 12).take 4)) (unle ((zs.drop 16).take 8)) (unle ((zs.drop 24).take 8)) (unle ((zs.drop 32).take 8)) s ds p q = zs := by
  have hl : ∀ lo n, lo + n ≤ 128 → le n (unle ((zs.drop lo).take n)) = (zs.drop lo).take n := fun lo n hn => by
    have h1 := le_unle _ (bytes_cut h lo n)
    rw [show ((zs.drop lo).take n).length = n by simp; omega] at h1
    exact h1
  unfold gapsZ gaps2 at hg
  rw [Bool.and_eq_true, Bool.and_eq_true, Bool.and_eq_true] at hg
  obtain ⟨⟨⟨_, g1⟩, g2⟩, g3⟩ := hg
  have r1 := allz_rep _ g1
  have r2 := allz_rep _ g2
  have r3 := allz_rep _ g3
  rw [show ((zs.drop 1).take 1).length = 1 by simp; omega] at r1
  rw [show ((zs.drop 10).take 2).length = 2 by simp; omega] at r2
  rw [show ((zs.drop 104).take 24).length = 24 by simp; omega] at r3
  unfold bytesIno
  rw [hl 0 1 (by omega), hl 2 2 (by omega), hl 4 2 (by omega), hl 6 2 (by omega), hl 8 2 (by omega), hl 12 4 (by omega), hl 16 8 (by omega), hl 24 8 (by omega), hl 32 8 (by omega), hr, ← r1, ← r2, ← r3]
  have e : zs = zs.drop 0 := rfl
  conv => rhs; rw [e, cut_at zs 0 1, cut_at zs (0 + 1) 1, cut_at zs (0 + 1 + 1) 2, cut_at zs (0 + 1 + 1 + 2) 2, cut_at zs (0 + 1 + 1 + 2 + 2) 2, cut_at zs (0 + 1 + 1 + 2 + 2 + 2) 2, cut_at zs (0 + 1 + 1 + 2 + 2 + 2 + 2) 2, cut_at zs (0 + 1 + 1 + 2 + 2 + 2 + 2 + 2) 4, cut_at zs (0 + 1 + 1 + 2 + 2 + 2 + 2 + 2 + 4) 8, cut_at zs (0 + 1 + 1 + 2 + 2 + 2 + 2 + 2 + 4 + 8) 8, cut_at zs (0 + 1 + 1 + 2 + 2 + 2 + 2 + 2 + 4 + 8 + 8) 8, cut_at zs (0 + 1 + 1 + 2 + 2 + 2 + 2 + 2 + 4 + 8 + 8 + 8) 64, cut_at zs (0 + 1 + 1 + 2 + 2 + 2 + 2 + 2 + 4 + 8 + 8 + 8 + 64) 24, List.drop_of_length_le (show zs.length ≤ 0 + 1 + 1 + 2 + 2 + 2 + 2 + 2 + 4 + 8 + 8 + 8 + 64 + 24 by omega), List.append_nil]
  simp only [List.append_assoc]
theorem kind_one (zs : List Int) (h : ∀ z ∈ zs, 0 ≤ z ∧ z < 256) (hz : zs.length = 128) : zs.getD 0 0 = ((unle ((zs.drop 0).take 1) : Nat) : Int) := by
  match zs, hz with
  | z :: zs, _ =>
    have hb := h z (by simp)
    simp [unle]
    omega

/-- What the program reads is what the model reads. -/
theorem ino_agree (zs : List Int) (k0 k1 k2 k3 k4 k5 k6 k7 k8 s : Int) (ds : List Int) (p q : Int) (h : ∀ z ∈ zs, 0 ≤ z ∧ z < 256) (hz : zs.length = 128) (hd : ds.length = 12) (hr : InoAt zs k0 k1 k2 k3 k4 k5 k6 k7 k8 s ds p q) :
    rightIno k0 k1 k2 k3 k4 k5 k6 k7 k8 s ds p q = rightIno (zs.getD 0 0) ((gval ((zs.drop 2).take 2) : Nat) : Int) ((gval ((zs.drop 4).take 2) : Nat) : Int) ((gval ((zs.drop 6).take 2) : Nat) : Int) ((gval ((zs.drop 8).take 2) : Nat) : Int) ((gval ((zs.drop 12).take 4) : Nat) : Int) ((gval ((zs.drop 16).take 8) : Nat) : Int) ((gval ((zs.drop 24).take 8) : Nat) : Int) ((gval ((zs.drop 32).take 8) : Nat) : Int) ((gval (((zs.drop 40).take 64).take 8) : Nat) : Int) (gwords ((zs.drop 40).take 64) 12) ((gval ((((zs.drop 40).take 64).drop 56).take 4) : Nat) : Int) ((gval ((((zs.drop 40).take 64).drop 60).take 4) : Nat) : Int) ∧ (rightIno k0 k1 k2 k3 k4 k5 k6 k7 k8 s ds p q = true → inoI [k0, k1, k2, k3, k4, k5, k6, k7, k8] s ds p q = inoI [(zs.getD 0 0), ((gval ((zs.drop 2).take 2) : Nat) : Int), ((gval ((zs.drop 4).take 2) : Nat) : Int), ((gval ((zs.drop 6).take 2) : Nat) : Int), ((gval ((zs.drop 8).take 2) : Nat) : Int), ((gval ((zs.drop 12).take 4) : Nat) : Int), ((gval ((zs.drop 16).take 8) : Nat) : Int), ((gval ((zs.drop 24).take 8) : Nat) : Int), ((gval ((zs.drop 32).take 8) : Nat) : Int)] ((gval (((zs.drop 40).take 64).take 8) : Nat) : Int) (gwords ((zs.drop 40).take 64) 12) ((gval ((((zs.drop 40).take 64).drop 56).take 4) : Nat) : Int) ((gval ((((zs.drop 40).take 64).drop 60).take 4) : Nat) : Int)) := by
  obtain ⟨r0, r1, r2, r3, r4, r5, r6, r7, r8, rR⟩ := hr
  have hzp : ((zs.drop 40).take 64).length = 64 := by simp; omega
  have hbp : ∀ z ∈ ((zs.drop 40).take 64), 0 ≤ z ∧ z < 256 := bytes_cut h 40 64
  obtain ⟨q1, q2, q3, q4, q5⟩ := root_agree ((zs.drop 40).take 64) s ds p q hbp hzp hd (root_shift rR)
  rw [← kind_one zs h hz] at r0
  rw [← gval_few zs h 2 2 (by omega)] at r1
  rw [← gval_few zs h 4 2 (by omega)] at r2
  rw [← gval_few zs h 6 2 (by omega)] at r3
  rw [← gval_few zs h 8 2 (by omega)] at r4
  rw [← gval_few zs h 12 4 (by omega)] at r5
  have E6 := eight _ (unle8_lt zs h 16)
  have E7 := eight _ (unle8_lt zs h 24)
  have E8 := eight _ (unle8_lt zs h 32)
  have ES : s = ((gval (((zs.drop 40).take 64).take 8) : Nat) : Int) ∨ (s ≠ 0 ∧ ((gval (((zs.drop 40).take 64).take 8) : Nat) : Int) ≠ 0) := by
    have e := rR.1
    have et : ((zs.drop 40).take 64).take 8 = (zs.drop 40).take 8 := by rw [List.take_take]; rfl
    rw [et, e]
    rcases eight _ (unle8_lt zs h 40) with ⟨e1, _⟩ | ⟨e1, e2, _, _⟩
    · exact .inl e1
    · exact .inr ⟨e1, e2⟩
  rw [← r6] at E6
  rw [← r7] at E7
  rw [← r8] at E8
  rw [← r0, ← r1, ← r2, ← r3, ← r4, ← r5, ← q1, ← q2, ← q3]
  generalize ((gval ((zs.drop 16).take 8) : Nat) : Int) = y6 at E6 ⊢
  generalize ((gval ((zs.drop 24).take 8) : Nat) : Int) = y7 at E7 ⊢
  generalize ((gval ((zs.drop 32).take 8) : Nat) : Int) = y8 at E8 ⊢
  generalize ((gval (((zs.drop 40).take 64).take 8) : Nat) : Int) = ys at q4 q5 ES ⊢
  clear r0 r1 r2 r3 r4 r5 r6 r7 r8 rR q1 q2 q3
  rcases E6 with ⟨e6, _⟩ | ⟨n6, m6, f6, g6⟩
  · rcases E7 with ⟨e7, _⟩ | ⟨n7, m7, f7, g7⟩
    · rcases E8 with ⟨e8, _⟩ | ⟨n8, m8, f8, g8⟩
      · subst e6 e7 e8
        rcases ES with es | ⟨s0, ys0⟩
        · subst es
          exact ⟨rfl, fun _ => rfl⟩
        · cases hR : rightR s ds p q with
          | true =>
            have es := (q5 hR).1
            subst es
            exact ⟨rfl, fun _ => rfl⟩
          | false =>
            have hR2 : rightR ys ds p q = false := by rw [← q4]; exact hR
            have hA := rightIno_no (k0 := k0) (k1 := k1) (k2 := k2) (k3 := k3) (k4 := k4) (k5 := k5) (k6 := k6) (k7 := k7) (k8 := k8) (s := s) (ds := ds) (p := p) (q := q) (x := s) (by simp [inoI, rootI]) s0 (by rw [hR, Bool.and_false])
            have hB := rightIno_no (k0 := k0) (k1 := k1) (k2 := k2) (k3 := k3) (k4 := k4) (k5 := k5) (k6 := k6) (k7 := k7) (k8 := k8) (s := ys) (ds := ds) (p := p) (q := q) (x := ys) (by simp [inoI, rootI]) ys0 (by rw [hR2, Bool.and_false])
            exact ⟨by rw [hA, hB], fun h => by rw [hA] at h; cases h⟩
      · have hA : rightIno k0 k1 k2 k3 k4 k5 k6 k7 k8 s ds p q = false := rightIno_no (x := k8) (by simp [inoI]) n8 (by simp [fieldsB, f8])
        have hB : rightIno k0 k1 k2 k3 k4 k5 y6 y7 y8 ys ds p q = false := rightIno_no (x := y8) (by simp [inoI]) m8 (by simp [fieldsB, g8])
        exact ⟨by rw [hA, hB], fun h => by rw [hA] at h; cases h⟩
    · have hA : rightIno k0 k1 k2 k3 k4 k5 k6 k7 k8 s ds p q = false := rightIno_no (x := k7) (by simp [inoI]) n7 (by simp [fieldsB, f7])
      have hB : rightIno k0 k1 k2 k3 k4 k5 y6 y7 y8 ys ds p q = false := rightIno_no (x := y7) (by simp [inoI]) m7 (by simp [fieldsB, g7])
      exact ⟨by rw [hA, hB], fun h => by rw [hA] at h; cases h⟩
  · have hA : rightIno k0 k1 k2 k3 k4 k5 k6 k7 k8 s ds p q = false := rightIno_no (x := k6) (by simp [inoI]) n6 (by simp [fieldsB, f6])
    have hB : rightIno k0 k1 k2 k3 k4 k5 y6 y7 y8 ys ds p q = false := rightIno_no (x := y6) (by simp [inoI]) m6 (by simp [fieldsB, g6])
    exact ⟨by rw [hA, hB], fun h => by rw [hA] at h; cases h⟩

/-- What DecodeInode tells of bytes. -/
def okDI (zs : List Int) : Bool := decide (zs.length = 128) && (rightIno (zs.getD 0 0) ((gval ((zs.drop 2).take 2) : Nat) : Int) ((gval ((zs.drop 4).take 2) : Nat) : Int) ((gval ((zs.drop 6).take 2) : Nat) : Int) ((gval ((zs.drop 8).take 2) : Nat) : Int) ((gval ((zs.drop 12).take 4) : Nat) : Int) ((gval ((zs.drop 16).take 8) : Nat) : Int) ((gval ((zs.drop 24).take 8) : Nat) : Int) ((gval ((zs.drop 32).take 8) : Nat) : Int) ((gval (((zs.drop 40).take 64).take 8) : Nat) : Int) (gwords ((zs.drop 40).take 64) 12) ((gval ((((zs.drop 40).take 64).drop 56).take 4) : Nat) : Int) ((gval ((((zs.drop 40).take 64).drop 60).take 4) : Nat) : Int) && gapsZ zs)
def decI (zs : List Int) : List Int := if okDI zs = true then inoI [(zs.getD 0 0), ((gval ((zs.drop 2).take 2) : Nat) : Int), ((gval ((zs.drop 4).take 2) : Nat) : Int), ((gval ((zs.drop 6).take 2) : Nat) : Int), ((gval ((zs.drop 8).take 2) : Nat) : Int), ((gval ((zs.drop 12).take 4) : Nat) : Int), ((gval ((zs.drop 16).take 8) : Nat) : Int), ((gval ((zs.drop 24).take 8) : Nat) : Int), ((gval ((zs.drop 32).take 8) : Nat) : Int)] ((gval (((zs.drop 40).take 64).take 8) : Nat) : Int) (gwords ((zs.drop 40).take 64) 12) ((gval ((((zs.drop 40).take 64).drop 56).take 4) : Nat) : Int) ((gval ((((zs.drop 40).take 64).drop 60).take 4) : Nat) : Int) else noIno
def codeDI (zs : List Int) : Int := if okDI zs = true then 0 else 21
theorem decI_ino (zs : List Int) : ∃ k0 k1 k2 k3 k4 k5 k6 k7 k8 s ds p q, ds.length = 12 ∧ decI zs = inoI [k0, k1, k2, k3, k4, k5, k6, k7, k8] s ds p q := by
  unfold decI
  split
  · exact ⟨_, _, _, _, _, _, _, _, _, _, _, _, _, gwords_len _ 12, rfl⟩
  · exact ⟨0, 0, 0, 0, 0, 0, 0, 0, 0, 0, List.replicate 12 0, 0, 0, rfl, rfl⟩
end Go.Proofs.YtkaennkfieebmaaDoor
