/- Bytes that are a root record, read by the program and by the model: the same. -/
import Derived.Test.YtfkmnmopkblopaaDoorZk29
import Derived.Test.YtfkmnmopkblopaaDoorZk32
namespace Go.Proofs.YtfkmnmopkblopaaDoor
set_option linter.unusedVariables false
set_option linter.unusedSimpArgs false
open Go.RowKit

/-- What was read as a root record. -/
def FsAt (zs : List Int) (gen bl cu ck op ev lg s1 : Int) (ds1 : List Int) (p1 q1 s2 : Int) (ds2 : List Int) (p2 q2 : Int) (sn : List Int) : Prop :=
  gen = wrap64 ((unle ((zs.drop 8).take 8) : Nat) : Int) ∧ bl = ((unle ((zs.drop 16).take 4) : Nat) : Int) ∧ cu = ((unle ((zs.drop 20).take 4) : Nat) : Int) ∧ ck = wrap64 ((unle ((zs.drop 24).take 8) : Nat) : Int) ∧ op = wrap64 ((unle ((zs.drop 32).take 8) : Nat) : Int) ∧ ev = ((unle ((zs.drop 40).take 4) : Nat) : Int) ∧ lg = ((unle ((zs.drop 44).take 4) : Nat) : Int) ∧ RootAt zs 48 s1 ds1 p1 q1 ∧ RootAt zs 112 s2 ds2 p2 q2 ∧ sn = wordsFrom zs 176 31
/-- The model's number of n bytes from lo on. -/
def mg (zs : List Int) (lo n : Nat) : Int := ((gval ((zs.drop lo).take n) : Nat) : Int)
def mR (zs : List Int) (lo : Nat) : List Int := (zs.drop lo).take 64
def mS (rb : List Int) : Int := ((gval (rb.take 8) : Nat) : Int)
def mP (rb : List Int) : Int := ((gval ((rb.drop 56).take 4) : Nat) : Int)
def mQ (rb : List Int) : Int := ((gval ((rb.drop 60).take 4) : Nat) : Int)
def mSn (zs : List Int) (n : Nat) : List Int := (List.range n).map fun k => mg zs (176 + 4 * k) 4
theorem mSn_succ (zs : List Int) (n : Nat) : mSn zs (n + 1) = mSn zs n ++ [mg zs (176 + 4 * n) 4] := by simp [mSn, List.range_succ]
theorem mSn_len (zs : List Int) (n : Nat) : (mSn zs n).length = n := by simp [mSn]
theorem mSn_words (zs : List Int) (h : ∀ z ∈ zs, 0 ≤ z ∧ z < 256) (n : Nat) : mSn zs n = wordsFrom zs 176 n := by
  unfold mSn wordsFrom mg
  congr 1
  funext i
  rw [gval4 zs h]
theorem root_shiftL {zs : List Int} {lo : Nat} {s : Int} {ds : List Int} {p q : Int} (h : RootAt zs lo s ds p q) : RootAt (mR zs lo) 0 s ds p q := by
  obtain ⟨h1, h2⟩ := h
  refine ⟨?_, ?_⟩
  · unfold mR
    rw [h1, List.drop_zero, List.take_take]
    rfl
  · unfold mR
    rw [h2, wordsFrom_shift zs lo 64 (0 + 8) 14 (by omega)]
/-- A number of eight bytes: the same for both, or out of all bounds for both. -/
theorem eightB (ts : List Int) (hX : unle ts < 18446744073709551616) : (wrap64 ((unle ts : Nat) : Int) = ((gval ts : Nat) : Int) ∧ gval ts = unle ts) ∨ ∀ lo : Int, 0 ≤ lo → wi (wrap64 ((unle ts : Nat) : Int)) lo 1099511627776 = false ∧ wi ((gval ts : Nat) : Int) lo 1099511627776 = false := by
  by_cases hs : unle ts < 18014398509481984
  · left
    rw [gval_small _ hs]
    refine ⟨?_, rfl⟩
    unfold wrap64
    omega
  · right
    intro lo hlo
    have hg : gval ts = 4611686018427387904 := by
      unfold gval
      rw [if_pos (by omega)]
    rw [hg]
    have hw : wrap64 ((unle ts : Nat) : Int) < 0 ∨ 18014398509481984 ≤ wrap64 ((unle ts : Nat) : Int) := by
      unfold wrap64
      omega
    unfold wi
    refine ⟨?_, ?_⟩
    · rcases hw with hw | hw
      · rw [decide_eq_false (show ¬ lo ≤ wrap64 ((unle ts : Nat) : Int) by omega), Bool.false_and]
      · rw [decide_eq_false (show ¬ wrap64 ((unle ts : Nat) : Int) ≤ 1099511627776 by omega), Bool.and_false]
    · rw [decide_eq_false (show ¬ ((4611686018427387904 : Nat) : Int) ≤ 1099511627776 by omega), Bool.and_false]
theorem cut_take (zs : List Int) (lo a b : Nat) : (zs.drop lo).take (a + b) = (zs.drop lo).take a ++ (zs.drop (lo + a)).take b := by
  rw [List.take_add, List.drop_drop]
theorem le_at {zs : List Int} (h : ∀ z ∈ zs, 0 ≤ z ∧ z < 256) (lo n : Nat) (hn : lo + n ≤ zs.length) : le n (unle ((zs.drop lo).take n)) = (zs.drop lo).take n := by
  have h1 := le_unle _ (bytes_cut h lo n)
  rw [show ((zs.drop lo).take n).length = n by simp; omega] at h1
  exact h1
theorem fs_bytes (zs : List Int) (h : ∀ z ∈ zs, 0 ≤ z ∧ z < 256) (hz : 300 ≤ zs.length) (a0 a1 a2 a3 a4 a5 a6 : Nat) (h0 : a0 = unle ((zs.drop 8).take 8)) (h1 : a1 = unle ((zs.drop 16).take 4)) (h2 : a2 = unle ((zs.drop 20).take 4)) (h3 : a3 = unle ((zs.drop 24).take 8)) (h4 : a4 = unle ((zs.drop 32).take 8)) (h5 : a5 = unle ((zs.drop 40).take 4)) (h6 : a6 = unle ((zs.drop 44).take 4))
    (s1 : Int) (ds1 : List Int) (p1 q1 s2 : Int) (ds2 : List Int) (p2 q2 : Int) (r1 : bytesR s1 ds1 p1 q1 = mR zs 48) (r2 : bytesR s2 ds2 p2 q2 = mR zs 112) : bytesF a0 a1 a2 a3 a4 a5 a6 s1 ds1 p1 q1 s2 ds2 p2 q2 (wordsFrom zs 176 31) = fsLet ++ (zs.drop 8).take 292 := by
  unfold bytesF headF
  rw [r1, r2, h0, h1, h2, h3, h4, h5, h6, le_at h 8 8 (by omega), le_at h 16 4 (by omega), le_at h 20 4 (by omega), le_at h 24 8 (by omega), le_at h 32 8 (by omega), le_at h 40 4 (by omega), le_at h 44 4 (by omega), bytesW_words zs 176 h 31 (by omega)]
  unfold mR
  rw [show (292 : Nat) = 8 + (4 + (4 + (8 + (8 + (4 + (4 + (64 + (64 + 4 * 31)))))))) from rfl]
  rw [cut_take zs 8 8, cut_take zs (8 + 8) 4, cut_take zs (8 + 8 + 4) 4, cut_take zs (8 + 8 + 4 + 4) 8, cut_take zs (8 + 8 + 4 + 4 + 8) 8, cut_take zs (8 + 8 + 4 + 4 + 8 + 8) 4, cut_take zs (8 + 8 + 4 + 4 + 8 + 8 + 4) 4, cut_take zs (8 + 8 + 4 + 4 + 8 + 8 + 4 + 4) 64, cut_take zs (8 + 8 + 4 + 4 + 8 + 8 + 4 + 4 + 64) 64]
  simp only [List.append_assoc]

/-- What the program reads is what the model reads. -/
theorem fs_agree (zs : List Int) (h : ∀ z ∈ zs, 0 ≤ z ∧ z < 256) (hz : 300 ≤ zs.length) (gen bl cu ck op ev lg s1 : Int) (ds1 : List Int) (p1 q1 s2 : Int) (ds2 : List Int) (p2 q2 : Int) (sn : List Int) (hd1 : ds1.length = 12) (hd2 : ds2.length = 12) (hr : FsAt zs gen bl cu ck op ev lg s1 ds1 p1 q1 s2 ds2 p2 q2 sn) :
    rightF gen bl cu ck op ev lg s1 ds1 p1 q1 s2 ds2 p2 q2 sn = rightF (mg zs 8 8) (mg zs 16 4) (mg zs 20 4) (mg zs 24 8) (mg zs 32 8) (mg zs 40 4) (mg zs 44 4) (mS (mR zs 48)) (gwords (mR zs 48) 12) (mP (mR zs 48)) (mQ (mR zs 48)) (mS (mR zs 112)) (gwords (mR zs 112) 12) (mP (mR zs 112)) (mQ (mR zs 112)) (mSn zs 31) ∧
    (rightF gen bl cu ck op ev lg s1 ds1 p1 q1 s2 ds2 p2 q2 sn = true → fsI gen bl cu ck op ev lg s1 ds1 p1 q1 s2 ds2 p2 q2 sn = fsI (mg zs 8 8) (mg zs 16 4) (mg zs 20 4) (mg zs 24 8) (mg zs 32 8) (mg zs 40 4) (mg zs 44 4) (mS (mR zs 48)) (gwords (mR zs 48) 12) (mP (mR zs 48)) (mQ (mR zs 48)) (mS (mR zs 112)) (gwords (mR zs 112) 12) (mP (mR zs 112)) (mQ (mR zs 112)) (mSn zs 31) ∧
      bytesF (mg zs 8 8).toNat (mg zs 16 4).toNat (mg zs 20 4).toNat (mg zs 24 8).toNat (mg zs 32 8).toNat (mg zs 40 4).toNat (mg zs 44 4).toNat (mS (mR zs 48)) (gwords (mR zs 48) 12) (mP (mR zs 48)) (mQ (mR zs 48)) (mS (mR zs 112)) (gwords (mR zs 112) 12) (mP (mR zs 112)) (mQ (mR zs 112)) (mSn zs 31) = fsLet ++ (zs.drop 8).take 292) := by
  obtain ⟨e0, e1, e2, e3, e4, e5, e6, R1, R2, e7⟩ := hr
  have L1 : (mR zs 48).length = 64 := by unfold mR; simp; omega
  have L2 : (mR zs 112).length = 64 := by unfold mR; simp; omega
  have B1 : ∀ z ∈ mR zs 48, 0 ≤ z ∧ z < 256 := bytes_cut h 48 64
  have B2 : ∀ z ∈ mR zs 112, 0 ≤ z ∧ z < 256 := bytes_cut h 112 64
  obtain ⟨a1, a2, a3, a4, a5⟩ := root_agree (mR zs 48) s1 ds1 p1 q1 B1 L1 hd1 (root_shiftL R1)
  obtain ⟨b1, b2, b3, b4, b5⟩ := root_agree (mR zs 112) s2 ds2 p2 q2 B2 L2 hd2 (root_shiftL R2)
  have f1 : mg zs 16 4 = bl := by rw [e1]; unfold mg; rw [gval_few zs h 16 4 (by omega)]
  have f2 : mg zs 20 4 = cu := by rw [e2]; unfold mg; rw [gval_few zs h 20 4 (by omega)]
  have f5 : mg zs 40 4 = ev := by rw [e5]; unfold mg; rw [gval_few zs h 40 4 (by omega)]
  have f6 : mg zs 44 4 = lg := by rw [e6]; unfold mg; rw [gval_few zs h 44 4 (by omega)]
  have f7 : mSn zs 31 = sn := by rw [e7, mSn_words zs h]
  have E0 := eightB _ (unle8_lt zs h 8)
  have E3 := eightB _ (unle8_lt zs h 24)
  have E4 := eightB _ (unle8_lt zs h 32)
  rw [← e0] at E0
  rw [← e3] at E3
  rw [← e4] at E4
  have t1 : ∀ (n : Nat) (x : Int), x = ((n : Nat) : Int) → x.toNat = n := fun n x e => by rw [e]; simp
  have N1 := t1 _ _ e1
  have N2 := t1 _ _ e2
  have N5 := t1 _ _ e5
  have N6 := t1 _ _ e6
  rw [f1, f2, f5, f6, f7]
  change rightR s1 ds1 p1 q1 = rightR (mS (mR zs 48)) ds1 p1 q1 at a4
  change rightR s2 ds2 p2 q2 = rightR (mS (mR zs 112)) ds2 p2 q2 at b4
  change rightR s1 ds1 p1 q1 = true → s1 = mS (mR zs 48) ∧ bytesR s1 ds1 p1 q1 = mR zs 48 at a5
  change rightR s2 ds2 p2 q2 = true → s2 = mS (mR zs 112) ∧ bytesR s2 ds2 p2 q2 = mR zs 112 at b5
  change p1 = mP (mR zs 48) at a2
  change q1 = mQ (mR zs 48) at a3
  change p2 = mP (mR zs 112) at b2
  change q2 = mQ (mR zs 112) at b3
  rw [← a1, ← a2, ← a3, ← b1, ← b2, ← b3]
  clear a1 a2 a3 b1 b2 b3 f1 f2 f5 f6 f7
  generalize mS (mR zs 48) = y1 at a4 a5 ⊢
  generalize mS (mR zs 112) = y2 at b4 b5 ⊢
  have M0 : mg zs 8 8 = ((gval ((zs.drop 8).take 8) : Nat) : Int) := rfl
  have M3 : mg zs 24 8 = ((gval ((zs.drop 24).take 8) : Nat) : Int) := rfl
  have M4 : mg zs 32 8 = ((gval ((zs.drop 32).take 8) : Nat) : Int) := rfl
  rw [M0, M3, M4]
  rcases E0 with ⟨g0, k0⟩ | g0
  · rcases E3 with ⟨g3, k3⟩ | g3
    · rcases E4 with ⟨g4, k4⟩ | g4
      · rw [← g0, ← g3, ← g4]
        cases c1 : rightR s1 ds1 p1 q1 with
        | false =>
          rw [c1] at a4
          have hA : rightF gen bl cu ck op ev lg s1 ds1 p1 q1 s2 ds2 p2 q2 sn = false := by simp [rightF, c1]
          have hB : rightF gen bl cu ck op ev lg y1 ds1 p1 q1 y2 ds2 p2 q2 sn = false := by simp [rightF, ← a4]
          exact ⟨by rw [hA, hB], fun hh => by rw [hA] at hh; cases hh⟩
        | true =>
          obtain ⟨d1, d2⟩ := a5 c1
          subst d1
          cases c2 : rightR s2 ds2 p2 q2 with
          | false =>
            rw [c2] at b4
            have hA : rightF gen bl cu ck op ev lg s1 ds1 p1 q1 s2 ds2 p2 q2 sn = false := by simp [rightF, c2]
            have hB : rightF gen bl cu ck op ev lg s1 ds1 p1 q1 y2 ds2 p2 q2 sn = false := by simp [rightF, ← b4]
            exact ⟨by rw [hA, hB], fun hh => by rw [hA] at hh; cases hh⟩
          | true =>
            obtain ⟨d3, d4⟩ := b5 c2
            subst d3
            refine ⟨rfl, fun _ => ⟨rfl, ?_⟩⟩
            rw [e7]
            exact fs_bytes zs h hz _ _ _ _ _ _ _ (by rw [g0, k0]; simp) N1 N2 (by rw [g3, k3]; simp) (by rw [g4, k4]; simp) N5 N6 s1 ds1 p1 q1 s2 ds2 p2 q2 d2 d4
      · have hA : rightF gen bl cu ck op ev lg s1 ds1 p1 q1 s2 ds2 p2 q2 sn = false := by simp [rightF, (g4 0 (by omega)).1]
        refine ⟨?_, fun hh => by rw [hA] at hh; cases hh⟩
        rw [hA]
        simp [rightF, (g4 0 (by omega)).2]
    · have hA : rightF gen bl cu ck op ev lg s1 ds1 p1 q1 s2 ds2 p2 q2 sn = false := by simp [rightF, (g3 1 (by omega)).1]
      refine ⟨?_, fun hh => by rw [hA] at hh; cases hh⟩
      rw [hA]
      simp [rightF, (g3 1 (by omega)).2]
  · have hA : rightF gen bl cu ck op ev lg s1 ds1 p1 q1 s2 ds2 p2 q2 sn = false := by simp [rightF, (g0 1 (by omega)).1]
    refine ⟨?_, fun hh => by rw [hA] at hh; cases hh⟩
    rw [hA]
    simp [rightF, (g0 1 (by omega)).2]

theorem unle_le : ∀ (n c : Nat), unle (le n c) = c % 256 ^ n
  | 0, c => by simp [le, unle, Nat.mod_one]
  | n + 1, c => by
    rw [le, unle, unle_le n (c / 256), Int.toNat_natCast, Nat.pow_succ, Nat.mul_comm (256 ^ n) 256]
    exact (Nat.mod_mul (x := c) (a := 256) (b := 256 ^ n)).symm
/-- A block that is sealed is just this: its letters, its bytes, zeros, its sum. -/
theorem sealed_iff (zs L : List Int) (m : Nat) (h : ∀ z ∈ zs, 0 ≤ z ∧ z < 256) (hz : zs.length = 512) (hL : L.length = 8) (hLb : ∀ z ∈ L, 0 ≤ z ∧ z < 256) (hm : 8 + m ≤ 508) :
    sealed (L ++ (zs.drop 8).take m) = zs ↔ (zs.take 8 = L ∧ allz ((zs.drop (8 + m)).take (500 - m)) = true ∧ unle ((zs.drop 508).take 4) = Crc.crc (zs.take 508)) := by
  have hBl : (L ++ (zs.drop 8).take m).length = 8 + m := by simp; omega
  have hBb : ∀ z ∈ L ++ (zs.drop 8).take m, 0 ≤ z ∧ z < 256 := fun z hz => by
    rw [List.mem_append] at hz
    rcases hz with hz | hz
    · exact hLb z hz
    · exact bytes_cut h 8 m z hz
  have hp : pad (L ++ (zs.drop 8).take m) = L ++ ((zs.drop 8).take m ++ List.replicate (500 - m) 0) := by
    unfold pad
    rw [hBl, show 508 - (8 + m) = 500 - m by omega, List.append_assoc]
  have hpl : (pad (L ++ (zs.drop 8).take m)).length = 508 := pad_len _ (by omega)
  have hcl := crc_lt _ (pad_bd _ hBb)
  have hzz : zs = zs.take 8 ++ ((zs.drop 8).take m ++ ((zs.drop (8 + m)).take (500 - m) ++ (zs.drop 508).take 4)) := by
    have e : zs = (zs.drop 0).take (8 + (m + ((500 - m) + 4))) := by rw [List.drop_zero, List.take_of_length_le (by omega)]
    conv => lhs; rw [e]
    rw [cut_take zs 0 8, cut_take zs (0 + 8) m, cut_take zs (0 + 8 + m) (500 - m)]
    rw [show 0 + 8 + m + (500 - m) = 508 by omega, show 0 + 8 + m = 8 + m by omega]
    simp
  have ht508 : zs.take 508 = zs.take 8 ++ ((zs.drop 8).take m ++ (zs.drop (8 + m)).take (500 - m)) := by
    have e : zs.take 508 = (zs.drop 0).take (8 + (m + (500 - m))) := by rw [List.drop_zero]; congr 1; omega
    rw [e, cut_take zs 0 8, cut_take zs (0 + 8) m, show 0 + 8 + m = 8 + m by omega]
    simp
  have hzl : ((zs.drop (8 + m)).take (500 - m)).length = 500 - m := by simp; omega
  constructor
  · intro e
    unfold sealed at e
    have e1 : pad (L ++ (zs.drop 8).take m) = zs.take 508 := by
      have := congrArg (List.take 508) e
      rw [List.take_append_of_le_length (by omega), List.take_of_length_le (by omega)] at this
      exact this
    have e2 : le 4 (Crc.crc (pad (L ++ (zs.drop 8).take m))) = (zs.drop 508).take 4 := by
      have := congrArg (List.drop 508) e
      rw [List.drop_append_of_le_length (by omega), List.drop_of_length_le (by omega), List.nil_append] at this
      rw [this, List.take_of_length_le (by simp; omega)]
    rw [hp, ht508] at e1
    obtain ⟨x1, x2⟩ := List.append_inj e1 (by rw [hL]; simp; omega)
    have x3 := List.append_cancel_left x2
    refine ⟨x1.symm, ?_, ?_⟩
    · rw [← x3]; exact allz_of_rep _
    · rw [← e2, unle_le, ht508, ← e1, ← hp]
      exact Nat.mod_eq_of_lt hcl
  · rintro ⟨x1, x2, x3⟩
    have r := allz_rep _ x2
    rw [hzl] at r
    have e1 : pad (L ++ (zs.drop 8).take m) = zs.take 508 := by
      rw [hp, ht508, x1, ← r]
    unfold sealed
    rw [e1, ← x3, le_at h 508 4 (by omega), ht508]
    conv => rhs; rw [hzz]
    simp only [List.append_assoc]
end Go.Proofs.YtfkmnmopkblopaaDoor
