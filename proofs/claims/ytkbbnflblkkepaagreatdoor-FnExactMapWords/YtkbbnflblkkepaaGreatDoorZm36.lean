/- Bytes that are a root record, read by the program and by the model: the same. The program reads a root record: readFsinfo. -/
import Derived.Test.YtkbbnflblkkepaaGreatDoorZm33
import Derived.Test.YtkbbnflblkkepaaGreatDoorZm35
import Derived.Test.YtkbbnflblkkepaaGreatDoorZm27
import Derived.Test.YtkbbnflblkkepaaGreatDoorZm28
namespace Go.Proofs.YtkbbnflblkkepaaGreatDoor
set_option linter.unusedVariables false
set_option linter.unusedSimpArgs false
open Go.RowKit

/-- What was read as a root record. -/
def FsAt (zs : List Int) (gen bl cu ck op ev lg s1 : Int) (ds1 : List Int) (p1 q1 s2 : Int) (ds2 : List Int) (p2 q2 : Int) (sn : List Int) : Prop :=
  gen = wrap64 ((unle ((zs.drop 8).take 8) : Nat) : Int) ∧ bl = ((unle ((zs.drop 16).take 4) : Nat) : Int) ∧ cu = ((unle ((zs.drop 20).take 4) : Nat) : Int) ∧ ck = wrap64 ((unle ((zs.drop 24).take 8) : Nat) : Int) ∧ op = wrap64 ((unle ((zs.drop 32).take 8) : Nat) : Int) ∧ ev = ((unle ((zs.drop 40).take 4) : Nat) : Int) ∧ lg = ((unle ((zs.drop 44).take 4) : Nat) : Int) ∧ RootAt zs 48 s1 ds1 p1 q1 ∧ RootAt zs 112 s2 ds2 p2 q2 ∧ sn = wordsFrom zs 176 31
/-- The model's number of n bytes from lo on. -/
def mg (zs : List Int) (lo n : Nat) : Int := ((gval ((zs.drop lo).take n) : Nat) : Int)
def mR (zs : List Int) (lo : Nat) : List Int := (zs.drop lo).take 64
def mS (rb : List Int) : Int := ((gval (rb.take 8) : Nat) : Int)
def mP (rb : List Int) : Int := ((gval ((rb.drop 56).take 4) : Nat) : Int)
def mQ (rb : List Int) : Int := ((gval ((rb.drop 60).take 4) : Nat) : Int)
def mSn (zs : List Int) (n : Nat) : List Int := (List.range n).map fun k => mg zs (176 + 4 * k) 4
theorem mSn_succ (zs : List Int) (n : Nat) : mSn zs (n + 1) = mSn zs n ++ [mg zs (176 + 4 * n) 4] := by simp [mSn, List.range_succ]
theorem mSn_len (zs : List Int) (n : Nat) : (mSn zs n).length = n := by simp [mSn]
theorem mSn_words (zs : List Int) (h : ∀ z ∈ zs, 0 ≤ z ∧ z < 256) (n : Nat) : mSn zs n = wordsFrom zs 176 n := by
  unfold mSn wordsFrom mg
  congr 1
  funext i
  rw [gval4 zs h]
theorem root_shiftL {zs : List Int} {lo : Nat} {s : Int} {ds : List Int} {p q : Int} (h : RootAt zs lo s ds p q) : RootAt (mR zs lo) 0 s ds p q := by
  obtain ⟨h1, h2⟩ := h
  refine ⟨?_, ?_⟩
  · unfold mR
    rw [h1, List.drop_zero, List.take_take]
    rfl
  · unfold mR
    rw [h2, wordsFrom_shift zs lo 64 (0 + 8) 14 (by omega)]
/-- A number of eight bytes: the same for both, or out of all bounds for both. -/
theorem eightB (ts : List Int) (hX : unle ts < 18446744073709551616) : (wrap64 ((unle ts : Nat) : Int) = ((gval ts : Nat) : Int) ∧ gval ts = unle ts) ∨ ∀ lo : Int, 0 ≤ lo → wi (wrap64 ((unle ts : Nat) : Int)) lo 1099511627776 = false ∧ wi ((gval ts : Nat) : Int) lo 1099511627776 = false := by
  by_cases hs : unle ts < 18014398509481984
  · left
    rw [gval_small _ hs]
    refine ⟨?_, rfl⟩
    unfold wrap64
    omega
  · right
    intro lo hlo
    have hg : gval ts = 4611686018427387904 := by
      unfold gval
      rw [if_pos (by omega)]
    rw [hg]
    have hw : wrap64 ((unle ts : Nat) : Int) < 0 ∨ 18014398509481984 ≤ wrap64 ((unle ts : Nat) : Int) := by
      unfold wrap64
      omega
    unfold wi
    refine ⟨?_, ?_⟩
    · rcases hw with hw | hw
      · rw [decide_eq_false (show ¬ lo ≤ wrap64 ((unle ts : Nat) : Int) by omega), Bool.false_and]
      · rw [decide_eq_false (show ¬ wrap64 ((unle ts : Nat) : Int) ≤ 1099511627776 by omega), Bool.and_false]
    · rw [decide_eq_false (show ¬ ((4611686018427387904 : Nat) : Int) ≤ 1099511627776 by omega), Bool.and_false]
theorem cut_take (zs : List Int) (lo a b : Nat) : (zs.drop lo).take (a + b) = (zs.drop lo).take a ++ (zs.drop (lo + a)).take b := by
  rw [List.take_add, List.drop_drop]
theorem le_at {zs : List Int} (h : ∀ z ∈ zs, 0 ≤ z ∧ z < 256) (lo n : Nat) (hn : lo + n ≤ zs.length) : le n (unle ((zs.drop lo).take n)) = (zs.drop lo).take n := by
  have h1 := le_unle _ (bytes_cut h lo n)
  rw [show ((zs.drop lo).take n).length = n by simp; omega] at h1
  exact h1
theorem fs_bytes (zs : List Int) (h : ∀ z ∈ zs, 0 ≤ z ∧ z < 256) (hz : 300 ≤ zs.length) (a0 a1 a2 a3 a4 a5 a6 : Nat) (h0 : a0 = unle ((zs.drop 8).take 8)) (h1 : a1 = unle ((zs.drop 16).take 4)) (h2 : a2 = unle ((zs.drop 20).take 4)) (h3 : a3 = unle ((zs.drop 24).take 8)) (h4 : a4 = unle ((zs.drop 32).take 8)) (h5 : a5 = unle ((zs.drop 40).take 4)) (h6 : a6 = unle ((zs.drop 44).take 4))
    (s1 : Int) (ds1 : List Int) (p1 q1 s2 : Int) (ds2 : List Int) (p2 q2 : Int) (r1 : bytesR s1 ds1 p1 q1 = mR zs 48) (r2 : bytesR s2 ds2 p2 q2 = mR zs 112) : bytesF a0 a1 a2 a3 a4 a5 a6 s1 ds1 p1 q1 s2 ds2 p2 q2 (wordsFrom zs 176 31) = fsLet ++ (zs.drop 8).take 292 := by
  unfold bytesF headF
  rw [r1, r2, h0, h1, h2, h3, h4, h5, h6, le_at h 8 8 (by omega), le_at h 16 4 (by omega), le_at h 20 4 (by omega), le_at h 24 8 (by omega), le_at h 32 8 (by omega), le_at h 40 4 (by omega), le_at h 44 4 (by omega), bytesW_words zs 176 h 31 (by omega)]
  unfold mR
  rw [show (292 : Nat) = 8 + (4 + (4 + (8 + (8 + (4 + (4 + (64 + (64 + 4 * 31)))))))) from rfl]
  rw [cut_take zs 8 8, cut_take zs (8 + 8) 4, cut_take zs (8 + 8 + 4) 4, cut_take zs (8 + 8 + 4 + 4) 8, cut_take zs (8 + 8 + 4 + 4 + 8) 8, cut_take zs (8 + 8 + 4 + 4 + 8 + 8) 4, cut_take zs (8 + 8 + 4 + 4 + 8 + 8 + 4) 4, cut_take zs (8 + 8 + 4 + 4 + 8 + 8 + 4 + 4) 64, cut_take zs (8 + 8 + 4 + 4 + 8 + 8 + 4 + 4 + 64) 64]
  simp only [List.append_assoc]

/-- What the program reads is what the model reads. -/
theorem fs_agree (zs : List Int) (h : ∀ z ∈ zs, 0 ≤ z ∧ z < 256) (hz : 300 ≤ zs.length) (gen bl cu ck op ev lg s1 : Int) (ds1 : List Int) (p1 q1 s2 : Int) (ds2 : List Int) (p2 q2 : Int) (sn : List Int) (hd1 : ds1.length = 12) (hd2 : ds2.length = 12) (hr : FsAt zs gen bl cu ck op ev lg s1 ds1 p1 q1 s2 ds2 p2 q2 sn) :
    rightF gen bl cu ck op ev lg s1 ds1 p1 q1 s2 ds2 p2 q2 sn = rightF (mg zs 8 8) (mg zs 16 4) (mg zs 20 4) (mg zs 24 8) (mg zs 32 8) (mg zs 40 4) (mg zs 44 4) (mS (mR zs 48)) (gwords (mR zs 48) 12) (mP (mR zs 48)) (mQ (mR zs 48)) (mS (mR zs 112)) (gwords (mR zs 112) 12) (mP (mR zs 112)) (mQ (mR zs 112)) (mSn zs 31) ∧
    (rightF gen bl cu ck op ev lg s1 ds1 p1 q1 s2 ds2 p2 q2 sn = true → fsI gen bl cu ck op ev lg s1 ds1 p1 q1 s2 ds2 p2 q2 sn = fsI (mg zs 8 8) (mg zs 16 4) (mg zs 20 4) (mg zs 24 8) (mg zs 32 8) (mg zs 40 4) (mg zs 44 4) (mS (mR zs 48)) (gwords (mR zs 48) 12) (mP (mR zs 48)) (mQ (mR zs 48)) (mS (mR zs 112)) (gwords (mR zs 112) 12) (mP (mR zs 112)) (mQ (mR zs 112)) (mSn zs 31) ∧
      bytesF (mg zs 8 8).toNat (mg zs 16 4).toNat (mg zs 20 4).toNat (mg zs 24 8).toNat (mg zs 32 8).toNat (mg zs 40 4).toNat (mg zs 44 4).toNat (mS (mR zs 48)) (gwords (mR zs 48) 12) (mP (mR zs 48)) (mQ (mR zs 48)) (mS (mR zs 112)) (gwords (mR zs 112) 12) (mP (mR zs 112)) (mQ (mR zs 112)) (mSn zs 31) = fsLet ++ (zs.drop 8).take 292) := by
  obtain ⟨e0, e1, e2, e3, e4, e5, e6, R1, R2, e7⟩ := hr
  have L1 : (mR zs 48).length = 64 := by unfold mR; simp; omega
  have L2 : (mR zs 112).length = 64 := by unfold mR; simp; omega
  have B1 : ∀ z ∈ mR zs 48, 0 ≤ z ∧ z < 256 := bytes_cut h 48 64
  have B2 : ∀ z ∈ mR zs 112, 0 ≤ z ∧ z < 256 := bytes_cut h 112 64
  obtain ⟨a1, a2, a3, a4, a5⟩ := root_agree (mR zs 48) s1 ds1 p1 q1 B1 L1 hd1 (root_shiftL R1)
  obtain ⟨b1, b2, b3, b4, b5⟩ := root_agree (mR zs 112) s2 ds2 p2 q2 B2 L2 hd2 (root_shiftL R2)
  have f1 : mg zs 16 4 = bl := by rw [e1]; unfold mg; rw [gval_few zs h 16 4 (by omega)]
  have f2 : mg zs 20 4 = cu := by rw [e2]; unfold mg; rw [gval_few zs h 20 4 (by omega)]
  have f5 : mg zs 40 4 = ev := by rw [e5]; unfold mg; rw [gval_few zs h 40 4 (by omega)]
  have f6 : mg zs 44 4 = lg := by rw [e6]; unfold mg; rw [gval_few zs h 44 4 (by omega)]
  have f7 : mSn zs 31 = sn := by rw [e7, mSn_words zs h]
  have E0 := eightB _ (unle8_lt zs h 8)
  have E3 := eightB _ (unle8_lt zs h 24)
  have E4 := eightB _ (unle8_lt zs h 32)
  rw [← e0] at E0
  rw [← e3] at E3
  rw [← e4] at E4
  have t1 : ∀ (n : Nat) (x : Int), x = ((n : Nat) : Int) → x.toNat = n := fun n x e => by rw [e]; simp
  have N1 := t1 _ _ e1
  have N2 := t1 _ _ e2
  have N5 := t1 _ _ e5
  have N6 := t1 _ _ e6
  rw [f1, f2, f5, f6, f7]
  change rightR s1 ds1 p1 q1 = rightR (mS (mR zs 48)) ds1 p1 q1 at a4
  change rightR s2 ds2 p2 q2 = rightR (mS (mR zs 112)) ds2 p2 q2 at b4
  change rightR s1 ds1 p1 q1 = true → s1 = mS (mR zs 48) ∧ bytesR s1 ds1 p1 q1 = mR zs 48 at a5
  change rightR s2 ds2 p2 q2 = true → s2 = mS (mR zs 112) ∧ bytesR s2 ds2 p2 q2 = mR zs 112 at b5
  change p1 = mP (mR zs 48) at a2
  change q1 = mQ (mR zs 48) at a3
  change p2 = mP (mR zs 112) at b2
  change q2 = mQ (mR zs 112) at b3
  rw [← a1, ← a2, ← a3, ← b1, ← b2, ← b3]
  clear a1 a2 a3 b1 b2 b3 f1 f2 f5 f6 f7
  generalize mS (mR zs 48) = y1 at a4 a5 ⊢
  generalize mS (mR zs 112) = y2 at b4 b5 ⊢
  have M0 : mg zs 8 8 = ((gval ((zs.drop 8).take 8) : Nat) : Int) := rfl
  have M3 : mg zs 24 8 = ((gval ((zs.drop 24).take 8) : Nat) : Int) := rfl
  have M4 : mg zs 32 8 = ((gval ((zs.drop 32).take 8) : Nat) : Int) := rfl
  rw [M0, M3, M4]
  rcases E0 with ⟨g0, k0⟩ | g0
  · rcases E3 with ⟨g3, k3⟩ | g3
    · rcases E4 with ⟨g4, k4⟩ | g4
      · rw [← g0, ← g3, ← g4]
        cases c1 : rightR s1 ds1 p1 q1 with
        | false =>
          rw [c1] at a4
          have hA : rightF gen bl cu ck op ev lg s1 ds1 p1 q1 s2 ds2 p2 q2 sn = false := by simp [rightF, c1]
          have hB : rightF gen bl cu ck op ev lg y1 ds1 p1 q1 y2 ds2 p2 q2 sn = false := by simp [rightF, ← a4]
          exact ⟨by rw [hA, hB], fun hh => by rw [hA] at hh; cases hh⟩
        | true =>
          obtain ⟨d1, d2⟩ := a5 c1
          subst d1
          cases c2 : rightR s2 ds2 p2 q2 with
          | false =>
            rw [c2] at b4
            have hA : rightF gen bl cu ck op ev lg s1 ds1 p1 q1 s2 ds2 p2 q2 sn = false := by simp [rightF, c2]
            have hB : rightF gen bl cu ck op ev lg s1 ds1 p1 q1 y2 ds2 p2 q2 sn = false := by simp [rightF, ← b4]
            exact ⟨by rw [hA, hB], fun hh => by rw [hA] at hh; cases hh⟩
          | true =>
            obtain ⟨d3, d4⟩ := b5 c2
            subst d3
            refine ⟨rfl, fun _ => ⟨rfl, ?_⟩⟩
            rw [e7]
            exact fs_bytes zs h hz _ _ _ _ _ _ _ (by rw [g0, k0]; simp) N1 N2 (by rw [g3, k3]; simp) (by rw [g4, k4]; simp) N5 N6 s1 ds1 p1 q1 s2 ds2 p2 q2 d2 d4
      · have hA : rightF gen bl cu ck op ev lg s1 ds1 p1 q1 s2 ds2 p2 q2 sn = false := by simp [rightF, (g4 0 (by omega)).1]
        refine ⟨?_, fun hh => by rw [hA] at hh; cases hh⟩
        rw [hA]
        simp [rightF, (g4 0 (by omega)).2]
    · have hA : rightF gen bl cu ck op ev lg s1 ds1 p1 q1 s2 ds2 p2 q2 sn = false := by simp [rightF, (g3 1 (by omega)).1]
      refine ⟨?_, fun hh => by rw [hA] at hh; cases hh⟩
      rw [hA]
      simp [rightF, (g3 1 (by omega)).2]
  · have hA : rightF gen bl cu ck op ev lg s1 ds1 p1 q1 s2 ds2 p2 q2 sn = false := by simp [rightF, (g0 1 (by omega)).1]
    refine ⟨?_, fun hh => by rw [hA] at hh; cases hh⟩
    rw [hA]
    simp [rightF, (g0 1 (by omega)).2]

theorem unle_le : ∀ (n c : Nat), unle (le n c) = c % 256 ^ n
  | 0, c => by simp [le, unle, Nat.mod_one]
  | n + 1, c => by
    rw [le, unle, unle_le n (c / 256), Int.toNat_natCast, Nat.pow_succ, Nat.mul_comm (256 ^ n) 256]
    exact (Nat.mod_mul (x := c) (a := 256) (b := 256 ^ n)).symm
/-- A block that is sealed is just this: its letters, its bytes, zeros, its sum. -/
theorem sealed_iff (zs L : List Int) (m : Nat) (h : ∀ z ∈ zs, 0 ≤ z ∧ z < 256) (hz : zs.length = 512) (hL : L.length = 8) (hLb : ∀ z ∈ L, 0 ≤ z ∧ z < 256) (hm : 8 + m ≤ 508) :
    sealed (L ++ (zs.drop 8).take m) = zs ↔ (zs.take 8 = L ∧ allz ((zs.drop (8 + m)).take (500 - m)) = true ∧ unle ((zs.drop 508).take 4) = Crc.crc (zs.take 508)) := by
  have hBl : (L ++ (zs.drop 8).take m).length = 8 + m := by simp; omega
  have hBb : ∀ z ∈ L ++ (zs.drop 8).take m, 0 ≤ z ∧ z < 256 := fun z hz => by
    rw [List.mem_append] at hz
    rcases hz with hz | hz
    · exact hLb z hz
    · exact bytes_cut h 8 m z hz
  have hp : pad (L ++ (zs.drop 8).take m) = L ++ ((zs.drop 8).take m ++ List.replicate (500 - m) 0) := by
    unfold pad
    rw [hBl, show 508 - (8 + m) = 500 - m by omega, List.append_assoc]
  have hpl : (pad (L ++ (zs.drop 8).take m)).length = 508 := pad_len _ (by omega)
  have hcl := crc_lt _ (pad_bd _ hBb)
  have hzz : zs = zs.take 8 ++ ((zs.drop 8).take m ++ ((zs.drop (8 + m)).take (500 - m) ++ (zs.drop 508).take 4)) := by
    have e : zs = (zs.drop 0).take (8 + (m + ((500 - m) + 4))) := by rw [List.drop_zero, List.take_of_length_le (by omega)]
    conv => lhs; rw [e]
    rw [cut_take zs 0 8, cut_take zs (0 + 8) m, cut_take zs (0 + 8 + m) (500 - m)]
    rw [show 0 + 8 + m + (500 - m) = 508 by omega, show 0 + 8 + m = 8 + m by omega]
    simp
  have ht508 : zs.take 508 = zs.take 8 ++ ((zs.drop 8).take m ++ (zs.drop (8 + m)).take (500 - m)) := by
    have e : zs.take 508 = (zs.drop 0).take (8 + (m + (500 - m))) := by rw [List.drop_zero]; congr 1; omega
    rw [e, cut_take zs 0 8, cut_take zs (0 + 8) m, show 0 + 8 + m = 8 + m by omega]
    simp
  have hzl : ((zs.drop (8 + m)).take (500 - m)).length = 500 - m := by simp; omega
  constructor
  · intro e
    unfold sealed at e
    have e1 : pad (L ++ (zs.drop 8).take m) = zs.take 508 := by
      have := congrArg (List.take 508) e
      rw [List.take_append_of_le_length (by omega), List.take_of_length_le (by omega)] at this
      exact this
    have e2 : le 4 (Crc.crc (pad (L ++ (zs.drop 8).take m))) = (zs.drop 508).take 4 := by
      have := congrArg (List.drop 508) e
      rw [List.drop_append_of_le_length (by omega), List.drop_of_length_le (by omega), List.nil_append] at this
      rw [this, List.take_of_length_le (by simp; omega)]
    rw [hp, ht508] at e1
    obtain ⟨x1, x2⟩ := List.append_inj e1 (by rw [hL]; simp; omega)
    have x3 := List.append_cancel_left x2
    refine ⟨x1.symm, ?_, ?_⟩
    · rw [← x3]; exact allz_of_rep _
    · rw [← e2, unle_le, ht508, ← e1, ← hp]
      exact Nat.mod_eq_of_lt hcl
  · rintro ⟨x1, x2, x3⟩
    have r := allz_rep _ x2
    rw [hzl] at r
    have e1 : pad (L ++ (zs.drop 8).take m) = zs.take 508 := by
      rw [hp, ht508, x1, ← r]
    unfold sealed
    rw [e1, ← x3, le_at h 508 4 (by omega), ht508]
    conv => rhs; rw [hzz]
    simp only [List.append_assoc]
end Go.Proofs.YtkbbnflblkkepaaGreatDoor

namespace Go.Proofs.YtkbbnflblkkepaaGreatDoor
set_option linter.unusedVariables false
set_option linter.unusedSimpArgs false
open Go.RowKit

/-- What a reading keeps: the result's block, the struct so far (its first integers, then zeros), the reader. -/
structure Rg (w0 w wr : World) (b lo : Nat) (dv : Value) (zs : List Int) (g n : Nat) (T : TypeId) (pre : List Int) (okr : Bool) (pr : Nat) : Prop where
  rdr : Rdr w0 wr b lo okr dv zs pr
  res : Blk wr w.heap.size (cellsI (List.replicate n 0)) T
  blk : Blk wr g (cellsI (pre ++ List.replicate (n - pre.length) 0)) T
  old : w.grownBy wr (some b)
theorem pre_get (pre : List Int) (n : Nat) (j : Nat) (h1 : pre.length ≤ j) : (pre ++ List.replicate (n - pre.length) (0 : Int)).getD j 0 = 0 := by
  rw [List.getD, List.getElem?_append_right h1, List.getElem?_replicate]
  split <;> rfl
theorem pre_cell (pre : List Int) (n : Nat) (h : pre.length < n) : (cellsI (pre ++ List.replicate (n - pre.length) 0))[pre.length]? = some (.int .i64 0) := by
  rw [cellsI_get _ _ (by simp; omega), pre_get _ _ _ (Nat.le_refl _)]
theorem pre_set (pre : List Int) (n : Nat) (x : Int) (h : pre.length < n) : (pre ++ List.replicate (n - pre.length) 0).set pre.length x = (pre ++ [x]) ++ List.replicate (n - (pre ++ [x]).length) 0 := by
  rw [List.set_append_right _ _ (Nat.le_refl _), Nat.sub_self, show n - pre.length = n - (pre ++ [x]).length + 1 by simp; omega, List.replicate_succ, List.set_cons_zero]
  simp
theorem pre_over (pre Z : List Int) (n : Nat) (h : pre.length + Z.length ≤ n) : over (pre ++ List.replicate (n - pre.length) 0) pre.length Z = (pre ++ Z) ++ List.replicate (n - (pre ++ Z).length) 0 := by
  have e : List.replicate (n - pre.length) (0 : Int) = List.replicate Z.length 0 ++ List.replicate (n - (pre ++ Z).length) 0 := by
    rw [List.replicate_append_replicate]
    congr 1
    simp
    omega
  rw [e, over_part pre (List.replicate Z.length 0) Z _ pre.length rfl (by simp)]
  simp
theorem Rg.set1 {w0 w wr : World} {b lo : Nat} {dv : Value} {zs : List Int} {g n : Nat} {T : TypeId} {pre : List Int} {okr : Bool} {pr : Nat} (h : Rg w0 w wr b lo dv zs g n T pre okr pr) (hg : w.heap.size < g) (hb : b < w.heap.size) (k : Nat) (x : Int) (hk : k = pre.length) (hn : k < n) : Rg w0 w (wr.setCell ⟨g, k, none⟩ (.int .i64 x)) b lo dv zs g n T (pre ++ [x]) okr pr := by
  subst hk
  refine ⟨h.rdr.storeC _ (by omega) ((h.blk.cell _).trans (pre_cell pre n hn)) (by decide), h.res.other _ _ (by show w.heap.size ≠ g; omega), ?_, grow_set h.old _ _ _ (by omega)⟩
  have h2 := h.blk.set pre.length (.int .i64 x)
  rw [cellsI_set, pre_set pre n x hn] at h2
  exact h2
theorem Rg.setN {w0 w wr : World} {b lo : Nat} {dv : Value} {zs : List Int} {g n : Nat} {T : TypeId} {pre : List Int} {okr : Bool} {pr : Nat} (h : Rg w0 w wr b lo dv zs g n T pre okr pr) (hg : w.heap.size < g) (hb : b < w.heap.size) (k : Nat) (Z : List Int) (hk : k = pre.length) (hn : k + Z.length ≤ n) : Rg w0 w (wr.setCells g k (cellsI Z).toList) b lo dv zs g n T (pre ++ Z) okr pr := by
  subst hk
  have e : (cellsI Z).toList = Z.map (Value.int .i64) := rfl
  rw [e]
  refine ⟨?_, Blk.cells_other _ _ h.res (by omega), ?_, grow_cells h.old g _ _ (by omega)⟩
  · exact Rdr.cellsC (by omega) Z pre.length h.rdr h.blk (by simp; omega) (fun j hj => by rw [pre_get _ _ _ hj]; decide)
  · have h2 := Blk.cells Z pre.length h.blk (by simp; omega)
    rw [pre_over pre Z n hn] at h2
    exact h2
theorem Rg.next {w0 w wr w' : World} {b lo : Nat} {dv : Value} {zs : List Int} {g n : Nat} {T : TypeId} {pre : List Int} {okr ok2 : Bool} {pr p2 : Nat} (h : Rg w0 w wr b lo dv zs g n T pre okr pr) (hg : w.heap.size < g) (hb : b < w.heap.size) (hr : Rdr w0 w' b lo ok2 dv zs p2) (hgr : wr.grownBy w' (some b)) : Rg w0 w w' b lo dv zs g n T pre ok2 p2 :=
  ⟨hr, (hgr.block _ h.res.lt (by simp; omega)).trans h.res, (hgr.block _ h.blk.lt (by simp; omega)).trans h.blk, grownBy_trans h.old hgr⟩
theorem Rg.cellK {w0 w wr : World} {b lo : Nat} {dv : Value} {zs : List Int} {g n : Nat} {T : TypeId} {pre : List Int} {okr : Bool} {pr : Nat} (h : Rg w0 w wr b lo dv zs g n T pre okr pr) (k : Nat) (hk : k = pre.length) (hn : k < n) : wr.cell? ⟨g, k, none⟩ = some (.int .i64 0) := by
  subst hk
  exact (h.blk.cell _).trans (pre_cell pre n hn)

set_option maxRecDepth 100000 in
set_option maxHeartbeats 4000000 in
theorem readFs_any (w0 w : World) (b lo : Nat) (ok0 : Bool) (dv : Value) (zs : List Int) (p0 : Nat) (C : Bool) (h : Rdr w0 w b lo ok0 dv zs p0) (hA : AdvC zs 8 C ok0 p0) (hz : zs.length ≤ 140737488355328) (hbd : ∀ z ∈ zs, 0 ≤ z ∧ z < 256) :
    Calls Tryz.prog 37 #[.pointer (some ⟨b, 0, none⟩)] w fun e w' => ∃ gen bl cu ck op ev lg s1 ds1 p1 q1 s2 ds2 p2 q2 sn okr pr, e = .returned (.agg (cellsI (fsI gen bl cu ck op ev lg s1 ds1 p1 q1 s2 ds2 p2 q2 sn))) ∧ ds1.length = 12 ∧ ds2.length = 12 ∧ sn.length = 31 ∧ Rdr w0 w' b lo okr dv zs pr ∧ AdvC zs 300 C okr pr ∧ (okr = true → FsAt zs gen bl cu ck op ev lg s1 ds1 p1 q1 s2 ds2 p2 q2 sn) ∧ w.grownBy w' (some b) := by
  have HB := hide hbd
  have hlt := h.ck.lt
  have hw1 : w.heap.size < w.heap.size + 1 := by omega
  have S0 := hide (show Rg w0 w ((w.alloc (.cells (cellsI (List.replicate 68 0)) 37)).alloc (.cells (cellsI (List.replicate 68 0)) 37)) b lo dv zs (w.heap.size + 1) 68 37 [] ok0 p0 from ⟨(h.alloc _).alloc _, (Blk.new w _ _).alloc _, by
    have h2 := Blk.new (w.alloc (.cells (cellsI (List.replicate 68 0)) 37)) (cellsI (List.replicate 68 0)) 37
    rw [World.size_alloc] at h2
    exact h2, grownBy_trans (World.grownBy_alloc w _ (some b)) (World.grownBy_alloc _ _ (some b))⟩)
  have A0 := hide hA
  clear h hbd hA
  go_enter Tryz.func37, Tryz.ntmps37
  go_wp2_with (go_at_call 65; fail)
  refine (number64_any w0 _ b lo ok0 dv zs p0 S0.out.rdr hz HB.out).mono ?_
  rintro e w1 ⟨x0, rfl, hN⟩
  obtain ⟨ok1, p1, r1, a1, v1, g1⟩ := AdvC.num A0.out hN
  have H1 := hide (S0.out.next hw1 hlt r1 g1)
  have A1 := hide a1
  have V1 := hide (show ok1 = true → ok0 = true ∧ wrap64 (x0 : Int) = wrap64 ((unle ((zs.drop 8).take 8) : Nat) : Int) from fun h => ⟨(v1 h).1, by rw [(v1 h).2]⟩)
  generalize wrap64 (x0 : Int) = y0 at V1 ⊢
  have c1 := H1.out.cellK 0 rfl (by omega)
  have f1 := H1.out.blk.frozen 0
  have S1 := hide (H1.out.set1 hw1 hlt 0 y0 rfl (by omega))
  clear r1 a1 v1 g1 hN H1 S0
  go_wp2_with (go_at_call 66; fail)
  clear c1 f1
  refine (number32_any w0 _ b lo ok1 dv zs p1 S1.out.rdr hz HB.out).mono ?_
  rintro e w2 ⟨x1, rfl, hN⟩
  obtain ⟨ok2, p2, r1, a1, v1, g1⟩ := AdvC.num A1.out hN
  have H1 := hide (S1.out.next hw1 hlt r1 g1)
  have A2 := hide a1
  have V2 := hide (show ok2 = true → ok1 = true ∧ (x1 : Int) = ((unle ((zs.drop 16).take 4) : Nat) : Int) from fun h => ⟨(v1 h).1, by rw [(v1 h).2]⟩)
  have c1 := H1.out.cellK 1 rfl (by omega)
  have f1 := H1.out.blk.frozen 1
  have S2 := hide (H1.out.set1 hw1 hlt 1 (x1 : Int) rfl (by omega))
  clear r1 a1 v1 g1 hN H1 S1
  go_wp2_with (go_at_call 66; fail)
  clear c1 f1
  refine (number32_any w0 _ b lo ok2 dv zs p2 S2.out.rdr hz HB.out).mono ?_
  rintro e w3 ⟨x2, rfl, hN⟩
  obtain ⟨ok3, p3, r1, a1, v1, g1⟩ := AdvC.num A2.out hN
  have H1 := hide (S2.out.next hw1 hlt r1 g1)
  have A3 := hide a1
  have V3 := hide (show ok3 = true → ok2 = true ∧ (x2 : Int) = ((unle ((zs.drop 20).take 4) : Nat) : Int) from fun h => ⟨(v1 h).1, by rw [(v1 h).2]⟩)
  have c1 := H1.out.cellK 2 rfl (by omega)
  have f1 := H1.out.blk.frozen 2
  have S3 := hide (H1.out.set1 hw1 hlt 2 (x2 : Int) rfl (by omega))
  clear r1 a1 v1 g1 hN H1 S2
  go_wp2_with (go_at_call 65; fail)
  clear c1 f1
  refine (number64_any w0 _ b lo ok3 dv zs p3 S3.out.rdr hz HB.out).mono ?_
  rintro e w4 ⟨x3, rfl, hN⟩
  obtain ⟨ok4, p4, r1, a1, v1, g1⟩ := AdvC.num A3.out hN
  have H1 := hide (S3.out.next hw1 hlt r1 g1)
  have A4 := hide a1
  have V4 := hide (show ok4 = true → ok3 = true ∧ wrap64 (x3 : Int) = wrap64 ((unle ((zs.drop 24).take 8) : Nat) : Int) from fun h => ⟨(v1 h).1, by rw [(v1 h).2]⟩)
  generalize wrap64 (x3 : Int) = y3 at V4 ⊢
  have c1 := H1.out.cellK 3 rfl (by omega)
  have f1 := H1.out.blk.frozen 3
  have S4 := hide (H1.out.set1 hw1 hlt 3 y3 rfl (by omega))
  clear r1 a1 v1 g1 hN H1 S3
  go_wp2_with (go_at_call 65; fail)
  clear c1 f1
  refine (number64_any w0 _ b lo ok4 dv zs p4 S4.out.rdr hz HB.out).mono ?_
  rintro e w5 ⟨x4, rfl, hN⟩
  obtain ⟨ok5, p5, r1, a1, v1, g1⟩ := AdvC.num A4.out hN
  have H1 := hide (S4.out.next hw1 hlt r1 g1)
  have A5 := hide a1
  have V5 := hide (show ok5 = true → ok4 = true ∧ wrap64 (x4 : Int) = wrap64 ((unle ((zs.drop 32).take 8) : Nat) : Int) from fun h => ⟨(v1 h).1, by rw [(v1 h).2]⟩)
  generalize wrap64 (x4 : Int) = y4 at V5 ⊢
  have c1 := H1.out.cellK 4 rfl (by omega)
  have f1 := H1.out.blk.frozen 4
  have S5 := hide (H1.out.set1 hw1 hlt 4 y4 rfl (by omega))
  clear r1 a1 v1 g1 hN H1 S4
  go_wp2_with (go_at_call 66; fail)
  clear c1 f1
  refine (number32_any w0 _ b lo ok5 dv zs p5 S5.out.rdr hz HB.out).mono ?_
  rintro e w6 ⟨x5, rfl, hN⟩
  obtain ⟨ok6, p6, r1, a1, v1, g1⟩ := AdvC.num A5.out hN
  have H1 := hide (S5.out.next hw1 hlt r1 g1)
  have A6 := hide a1
  have V6 := hide (show ok6 = true → ok5 = true ∧ (x5 : Int) = ((unle ((zs.drop 40).take 4) : Nat) : Int) from fun h => ⟨(v1 h).1, by rw [(v1 h).2]⟩)
  have c1 := H1.out.cellK 5 rfl (by omega)
  have f1 := H1.out.blk.frozen 5
  have S6 := hide (H1.out.set1 hw1 hlt 5 (x5 : Int) rfl (by omega))
  clear r1 a1 v1 g1 hN H1 S5
  go_wp2_with (go_at_call 66; fail)
  clear c1 f1
  refine (number32_any w0 _ b lo ok6 dv zs p6 S6.out.rdr hz HB.out).mono ?_
  rintro e w7 ⟨x6, rfl, hN⟩
  obtain ⟨ok7, p7, r1, a1, v1, g1⟩ := AdvC.num A6.out hN
  have H1 := hide (S6.out.next hw1 hlt r1 g1)
  have A7 := hide a1
  have V7 := hide (show ok7 = true → ok6 = true ∧ (x6 : Int) = ((unle ((zs.drop 44).take 4) : Nat) : Int) from fun h => ⟨(v1 h).1, by rw [(v1 h).2]⟩)
  have c1 := H1.out.cellK 6 rfl (by omega)
  have f1 := H1.out.blk.frozen 6
  have S7 := hide (H1.out.set1 hw1 hlt 6 (x6 : Int) rfl (by omega))
  clear r1 a1 v1 g1 hN H1 S6
  go_wp2_with (go_at_call 67; fail)
  clear c1 f1
  have HP7 := hide (show ([] ++ [y0] ++ [(x1 : Int)] ++ [(x2 : Int)] ++ [y3] ++ [y4] ++ [(x5 : Int)] ++ [(x6 : Int)] : List Int) = [y0, (x1 : Int), (x2 : Int), y3, y4, (x5 : Int), (x6 : Int)] from rfl)
  rw [HP7.out] at S7
  clear HP7
  refine (readRoot_any w0 _ b lo ok7 dv zs p7 S7.out.rdr hz HB.out).mono ?_
  rintro e w8 ⟨s1, ds1, q1a, q1b, ok8, p8, rfl, hd1, r1, a1, v1, g1⟩
  obtain ⟨a2, v2⟩ := AdvC.adv A7.out a1
  have H1 := hide (S7.out.next hw1 hlt r1 g1)
  have A8 := hide a2
  have V8 := hide (show ok8 = true → ok7 = true ∧ RootAt zs 48 s1 ds1 q1a q1b from fun h => ⟨(v2 h).1, by have e := (v2 h).2; have e2 := v1 h; rw [e] at e2; exact e2⟩)
  have HD1 := hide hd1
  have HLen1 := hide (show (cellsI (rootI s1 ds1 q1a q1b)).size = 15 from by rw [cellsI_size]; exact rootI_len _ _ _ _ hd1)
  have K1 := hide (H1.out.setN hw1 hlt 7 (rootI s1 ds1 q1a q1b) rfl (by rw [rootI_len _ _ _ _ hd1]; omega))
  have T1 := hide (H1.out.blk.there 7 15 (by rw [cellsI_size]; simp))
  clear r1 a1 v1 g1 a2 v2 hd1 H1 S7
  go_wp2_with (first | (refine wpList_store_mid rfl 34 _ _ rfl (w.heap.size + 1) 7 (cellsI (rootI s1 ds1 q1a q1b)) rfl rfl (by rw [HLen1.out]; exact T1.out) (by rw [HLen1.out]; exact info15) (cellsI_one _) ?_; generalize w8.setCells (w.heap.size + 1) 7 (cellsI (rootI s1 ds1 q1a q1b)).toList = wS1 at K1 ⊢) | (go_at_call 67; fail))
  clear T1
  have HPL := hide (show ([y0, (x1 : Int), (x2 : Int), y3, y4, (x5 : Int), (x6 : Int)] ++ rootI s1 ds1 q1a q1b).length = 22 from by rw [List.length_append, rootI_len _ _ _ _ HD1.out]; rfl)
  have S8 := K1
  clear K1
  refine (readRoot_any w0 _ b lo ok8 dv zs p8 S8.out.rdr hz HB.out).mono ?_
  rintro e w9 ⟨s2, ds2, q2a, q2b, ok9, p9, rfl, hd2, r1, a1, v1, g1⟩
  obtain ⟨a2, v2⟩ := AdvC.adv A8.out a1
  have H1 := hide (S8.out.next hw1 hlt r1 g1)
  have A9 := hide a2
  have V9 := hide (show ok9 = true → ok8 = true ∧ RootAt zs 112 s2 ds2 q2a q2b from fun h => ⟨(v2 h).1, by have e := (v2 h).2; have e2 := v1 h; rw [e] at e2; exact e2⟩)
  have HD2 := hide hd2
  have HLen2 := hide (show (cellsI (rootI s2 ds2 q2a q2b)).size = 15 from by rw [cellsI_size]; exact rootI_len _ _ _ _ hd2)
  have K1 := hide (H1.out.setN hw1 hlt 22 (rootI s2 ds2 q2a q2b) HPL.out.symm (by rw [rootI_len _ _ _ _ hd2]; omega))
  have T1 := hide (H1.out.blk.there 22 15 (by rw [cellsI_size]; have := HPL.out; simp; omega))
  clear r1 a1 v1 g1 a2 v2 hd2 H1 S8
  go_wp2_with (refine wpList_store_mid rfl 34 _ _ rfl (w.heap.size + 1) 22 (cellsI (rootI s2 ds2 q2a q2b)) rfl rfl (by rw [HLen2.out]; exact T1.out) (by rw [HLen2.out]; exact info15) (cellsI_one _) ?_; generalize w9.setCells (w.heap.size + 1) 22 (cellsI (rootI s2 ds2 q2a q2b)).toList = wS2 at K1 ⊢)
  clear T1
  have HPM := hide (show ([y0, (x1 : Int), (x2 : Int), y3, y4, (x5 : Int), (x6 : Int)] ++ rootI s1 ds1 q1a q1b ++ rootI s2 ds2 q2a q2b).length = 37 from by rw [List.length_append, HPL.out, rootI_len _ _ _ _ HD2.out])
  obtain ⟨P, hP⟩ : ∃ P, P = [y0, (x1 : Int), (x2 : Int), y3, y4, (x5 : Int), (x6 : Int)] ++ rootI s1 ds1 q1a q1b ++ rootI s2 ds2 q2a q2b := ⟨_, rfl⟩
  rw [← hP] at K1 HPM
  have HPE := hide hP
  clear hP
  go_loopw [4, 32] (fun _ i wr => ∃ (k : Nat) (sn : List Int) (okr : Bool) (pr : Nat), k ≤ 31 ∧ i = .int .i64 k ∧ sn.length = k ∧ Rg w0 w wr b lo dv zs (w.heap.size + 1) 68 37 (P ++ sn) okr pr ∧ AdvC zs (176 + 4 * k) C okr pr ∧ (okr = true → ok9 = true ∧ sn = wordsFrom zs 176 k)) (fun _ i _ => 31 - (intOf i).toNat)
  case atStart => exact ⟨0, [], ok9, p9, by omega, rfl, rfl, by rw [List.append_nil]; exact K1.out, A9.out, fun h => ⟨h, rfl⟩⟩
  case round =>
    clear K1
    obtain ⟨k, sn, okr, pr, hk, rfl, hsl, hr, ha, hv⟩ := hrel
    have HR := hide hr
    have HA := hide ha
    have HV := hide hv
    have HSL := hide hsl
    have HPS := hide (show (P ++ sn).length = 37 + k from by rw [List.length_append, HPM.out, hsl])
    clear hr ha hv hsl
    by_cases hlt31 : k < 31
    · go_wp2_with (go_at_call 66; fail)
      refine (number32_any w0 _ b lo okr dv zs pr HR.out.rdr hz HB.out).mono ?_
      rintro e wN ⟨x, rfl, hN⟩
      obtain ⟨okn, pn, r1, a1, v1, g1⟩ := AdvC.num HA.out hN
      have H1 := hide (HR.out.next hw1 hlt r1 g1)
      have c1 := H1.out.cellK (37 + k) HPS.out.symm (by omega)
      have f1 := H1.out.blk.frozen (37 + k)
      have S1 := hide (H1.out.set1 hw1 hlt (37 + k) (x : Int) HPS.out.symm (by omega))
      have V1 := hide (show okn = true → ok9 = true ∧ sn ++ [(x : Int)] = wordsFrom zs 176 (k + 1) from fun h => by
        obtain ⟨h1, h2⟩ := v1 h
        obtain ⟨h3, h4⟩ := HV.out h1
        exact ⟨h3, by rw [wordsFrom_succ, ← h4, h2]⟩)
      have A1 := hide (show AdvC zs (176 + 4 * (k + 1)) C okn pn from a1)
      clear r1 a1 v1 g1 hN H1 HR HA HV
      go_wp2
      go_roundw
      case rel => exact ⟨k + 1, sn ++ [(x : Int)], okn, pn, by omega, by go_num, by rw [List.length_append, HSL.out]; rfl, by rw [← List.append_assoc]; exact S1.out, A1.out, V1.out⟩
      case measure => simp [intOf]; omega
    · have e31 : k = 31 := by omega
      subst e31
      have HFS := hide (show P ++ sn = fsI y0 (x1 : Int) (x2 : Int) y3 y4 (x5 : Int) (x6 : Int) s1 ds1 q1a q1b s2 ds2 q2a q2b sn from by rw [HPE.out]; simp [fsI])
      have HF := hide (show okr = true → FsAt zs y0 (x1 : Int) (x2 : Int) y3 y4 (x5 : Int) (x6 : Int) s1 ds1 q1a q1b s2 ds2 q2a q2b sn from fun hk => by
        obtain ⟨h9, hsn⟩ := HV.out hk
        have k9 := V9.out h9
        have k8 := V8.out k9.1
        have k7 := V7.out k8.1
        have k6 := V6.out k7.1
        have k5 := V5.out k6.1
        have k4 := V4.out k5.1
        have k3 := V3.out k4.1
        have k2 := V2.out k3.1
        have k1 := V1.out k2.1
        exact ⟨k1.2, k2.2, k3.2, k4.2, k5.2, k6.2, k7.2, k8.2, k9.2, hsn⟩)
      have KB := hide (show Blk wr (w.heap.size + 1) (cellsI (fsI y0 (x1 : Int) (x2 : Int) y3 y4 (x5 : Int) (x6 : Int) s1 ds1 q1a q1b s2 ds2 q2a q2b sn)) 37 from by
        have h1 := HR.out.blk
        rw [HPS.out, show 68 - (37 + 31) = 0 from rfl, List.replicate_zero, List.append_nil, HFS.out] at h1
        exact h1)
      have HZ := hide (show (cellsI (fsI y0 (x1 : Int) (x2 : Int) y3 y4 (x5 : Int) (x6 : Int) s1 ds1 q1a q1b s2 ds2 q2a q2b sn)).size = 68 from by rw [cellsI_size]; exact fsI_len _ _ _ _ _ _ _ _ _ _ _ _ _ _ _ _ HD1.out HD2.out HSL.out)
      go_wp2_with (first | (refine wpList_load_row rfl 37 _ rfl (w.heap.size + 1) rfl 37 (cellsI (fsI y0 (x1 : Int) (x2 : Int) y3 y4 (x5 : Int) (x6 : Int) s1 ds1 q1a q1b s2 ds2 q2a q2b sn)) (0, 0) _ KB.out Tryz.underlying37 rfl (by rw [HZ.out]; exact info68) ?_) | (refine wpList_store_row rfl 37 _ _ rfl w.heap.size (cellsI (fsI y0 (x1 : Int) (x2 : Int) y3 y4 (x5 : Int) (x6 : Int) s1 ds1 q1a q1b s2 ds2 q2a q2b sn)) rfl rfl 37 _ HR.out.res (by rw [HZ.out]; exact info68) (by rw [HZ.out]; rfl) (cellsI_one _) ?_))
      refine bodyPost_ret (v := .agg (cellsI (fsI y0 (x1 : Int) (x2 : Int) y3 y4 (x5 : Int) (x6 : Int) s1 ds1 q1a q1b s2 ds2 q2a q2b sn))) ?_ rfl ⟨_, _, _, _, _, _, _, s1, ds1, q1a, q1b, s2, ds2, q2a, q2b, sn, okr, pr, rfl, HD1.out, HD2.out, HSL.out, ?_, HA.out, HF.out, grow_row HR.out.old _ _ (Nat.le_refl _)⟩
      · exact results_cell_row rfl _ _ w.heap.size 37 (cellsI (fsI y0 (x1 : Int) (x2 : Int) y3 y4 (x5 : Int) (x6 : Int) s1 ds1 q1a q1b s2 ds2 q2a q2b sn)) (0, 0) _ rfl (HR.out.res.row _) Tryz.underlying37 rfl (by rw [HZ.out]; exact info68)
      · exact HR.out.rdr.row _ hlt HR.out.res (by decide)
end Go.Proofs.YtkbbnflblkkepaaGreatDoor
