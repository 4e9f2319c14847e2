/- Two roots that are the same, compared by the laws' own eqRoot. Two root records that are the same, compared by the laws' own eqFsinfo; what the program reads is what the model reads. An image and its blocks: rightInSize and bytesAt of the program, L01Blocks and l09At of the model; which record is chosen. -/
import Derived.Test.YtkbbnflblkkepaaGreatDoorZm07
import Derived.Test.YtkbbnflblkkepaaGreatDoorZm43
import Derived.Test.YtkbbnflblkkepaaGreatDoorZm08
namespace Go.Proofs.YtkbbnflblkkepaaGreatDoor
set_option linter.unusedVariables false
set_option linter.unusedSimpArgs false
open Go.RowKit

end Go.Proofs.YtkbbnflblkkepaaGreatDoor

namespace Go.Proofs.YtkbbnflblkkepaaGreatDoor
set_option linter.unusedVariables false
set_option linter.unusedSimpArgs false
open Go.RowKit

theorem fsLet_bd : ∀ z ∈ fsLet, 0 ≤ z ∧ z < 256 := by decide
theorem at508 {zs : List Int} {gen bl cu ck op ev lg s1 : Int} {ds1 : List Int} {p1 q1 s2 : Int} {ds2 : List Int} {p2 q2 : Int} {sn : List Int} (h : FsAt (zs.take 508) gen bl cu ck op ev lg s1 ds1 p1 q1 s2 ds2 p2 q2 sn) : FsAt zs gen bl cu ck op ev lg s1 ds1 p1 q1 s2 ds2 p2 q2 sn := by
  obtain ⟨h0, h1, h2, h3, h4, h5, h6, ⟨h7, h8⟩, ⟨h9, h10⟩, h11⟩ := h
  have e : ∀ lo n, lo + n ≤ 508 → ((zs.take 508).drop lo).take n = (zs.drop lo).take n := fun lo n hn => by rw [List.drop_take, List.take_take, Nat.min_eq_left (by omega)]
  have ew : ∀ p n, p + 4 * n ≤ 508 → wordsFrom (zs.take 508) p n = wordsFrom zs p n := fun p n hn => by
    have := wordsFrom_shift zs 0 508 p n hn
    rw [List.drop_zero, Nat.zero_add] at this
    exact this
  rw [e 8 8 (by omega)] at h0
  rw [e 16 4 (by omega)] at h1
  rw [e 20 4 (by omega)] at h2
  rw [e 24 8 (by omega)] at h3
  rw [e 32 8 (by omega)] at h4
  rw [e 40 4 (by omega)] at h5
  rw [e 44 4 (by omega)] at h6
  rw [e 48 8 (by omega)] at h7
  rw [ew _ 14 (by omega)] at h8
  rw [e 112 8 (by omega)] at h9
  rw [ew _ 14 (by omega)] at h10
  rw [ew _ 31 (by omega)] at h11
  exact ⟨h0, h1, h2, h3, h4, h5, h6, ⟨h7, h8⟩, ⟨h9, h10⟩, h11⟩
/-- A record that is right is sealed as it was just where its letters, its zeros and its sum are right. -/
theorem frame_iff (zs : List Int) (h : ∀ z ∈ zs, 0 ≤ z ∧ z < 256) (hz : zs.length = 512) (B : List Int) (hB : B = fsLet ++ (zs.drop 8).take 292) : (sealed B = zs) ↔ frameF zs = true := by
  subst hB
  rw [sealed_iff zs fsLet 292 h hz rfl fsLet_bd (by omega)]
  unfold frameF sumB
  simp only [Bool.and_eq_true, decide_eq_true_eq]
  constructor
  · rintro ⟨a, b, c⟩; exact ⟨⟨c, a⟩, b⟩
  · rintro ⟨⟨c, a⟩, b⟩; exact ⟨a, b, c⟩
/-- What the model reads, laid down again, are its bytes. -/
theorem bytes_model (zs : List Int) (h : ∀ z ∈ zs, 0 ≤ z ∧ z < 256) (hz : zs.length = 512) (hr : rightF (mg zs 8 8) (mg zs 16 4) (mg zs 20 4) (mg zs 24 8) (mg zs 32 8) (mg zs 40 4) (mg zs 44 4) (mS (mR zs 48)) (gwords (mR zs 48) 12) (mP (mR zs 48)) (mQ (mR zs 48)) (mS (mR zs 112)) (gwords (mR zs 112) 12) (mP (mR zs 112)) (mQ (mR zs 112)) (mSn zs 31) = true) : bytesF (mg zs 8 8).toNat (mg zs 16 4).toNat (mg zs 20 4).toNat (mg zs 24 8).toNat (mg zs 32 8).toNat (mg zs 40 4).toNat (mg zs 44 4).toNat (mS (mR zs 48)) (gwords (mR zs 48) 12) (mP (mR zs 48)) (mQ (mR zs 48)) (mS (mR zs 112)) (gwords (mR zs 112) 12) (mP (mR zs 112)) (mQ (mR zs 112)) (mSn zs 31) = fsLet ++ (zs.drop 8).take 292 := by
  have hR : ∀ lo, lo + 64 ≤ 512 → RootAt zs lo (wrap64 ((unle ((zs.drop lo).take 8) : Nat) : Int)) (wordsFrom zs (lo + 8) 12) ((unle ((zs.drop (lo + 8 + 4 * 12)).take 4) : Nat) : Int) ((unle ((zs.drop (lo + 8 + 4 * 13)).take 4) : Nat) : Int) := fun lo hlo => ⟨rfl, by
    have e1 : wordsFrom zs (lo + 8) 13 = wordsFrom zs (lo + 8) 12 ++ [((unle ((zs.drop (lo + 8 + 4 * 12)).take 4) : Nat) : Int)] := wordsFrom_succ zs (lo + 8) 12
    have e2 : wordsFrom zs (lo + 8) 14 = wordsFrom zs (lo + 8) 13 ++ [((unle ((zs.drop (lo + 8 + 4 * 13)).take 4) : Nat) : Int)] := wordsFrom_succ zs (lo + 8) 13
    rw [e2, e1, List.append_assoc]
    rfl⟩
  have hat : FsAt zs (wrap64 ((unle ((zs.drop 8).take 8) : Nat) : Int)) ((unle ((zs.drop 16).take 4) : Nat) : Int) ((unle ((zs.drop 20).take 4) : Nat) : Int) (wrap64 ((unle ((zs.drop 24).take 8) : Nat) : Int)) (wrap64 ((unle ((zs.drop 32).take 8) : Nat) : Int)) ((unle ((zs.drop 40).take 4) : Nat) : Int) ((unle ((zs.drop 44).take 4) : Nat) : Int) _ _ _ _ _ _ _ _ (wordsFrom zs 176 31) := ⟨rfl, rfl, rfl, rfl, rfl, rfl, rfl, hR 48 (by omega), hR 112 (by omega), rfl⟩
  obtain ⟨e1, e2⟩ := fs_agree zs h (by omega) _ _ _ _ _ _ _ _ _ _ _ _ _ _ _ _ (wordsFrom_len _ _ _) (wordsFrom_len _ _ _) hat
  exact (e2 (by rw [e1]; exact hr)).2
theorem read_same (zs X : List Int) (ok : Bool) (h : ∀ z ∈ zs, 0 ≤ z ∧ z < 256) (hR : FsRead zs X ok) : (if ok = true then X else noFs) = decFs zs ∧ (if ok = true then (0 : Int) else 21) = codeDF zs := by
  obtain ⟨gen, bl, cu, ck, op, ev, lg, s1, ds1, p1, q1, s2, ds2, p2, q2, sn, hd1, hd2, hsn, rfl, h1, h2, h3⟩ := hR
  by_cases hz : zs.length = 512
  · cases hf : frameF zs with
    | true =>
      obtain ⟨hat, hok⟩ := h3 hz hf
      obtain ⟨e1, e2⟩ := fs_agree zs h (by omega) gen bl cu ck op ev lg s1 ds1 p1 q1 s2 ds2 p2 q2 sn hd1 hd2 (at508 hat)
      have e3 : okFs zs = ok := by
        unfold okFs
        rw [decide_eq_true hz, Bool.true_and, ← e1, hok]
        cases hr : rightF gen bl cu ck op ev lg s1 ds1 p1 q1 s2 ds2 p2 q2 sn with
        | false => rfl
        | true =>
          rw [Bool.true_and, decide_eq_true_eq]
          unfold encFs
          rw [← e1, hr, if_pos rfl]
          exact (frame_iff zs h hz _ (e2 hr).2).2 hf
      unfold decFs codeDF
      rw [e3]
      refine ⟨?_, rfl⟩
      cases hk : ok with
      | false => rfl
      | true => exact (e2 (by rw [← hok]; exact hk)).1
    | false =>
      have hk := h2 hz hf
      have e3 : okFs zs = false := by
        unfold okFs
        rw [decide_eq_true hz, Bool.true_and]
        cases hr : rightF (mg zs 8 8) (mg zs 16 4) (mg zs 20 4) (mg zs 24 8) (mg zs 32 8) (mg zs 40 4) (mg zs 44 4) (mS (mR zs 48)) (gwords (mR zs 48) 12) (mP (mR zs 48)) (mQ (mR zs 48)) (mS (mR zs 112)) (gwords (mR zs 112) 12) (mP (mR zs 112)) (mQ (mR zs 112)) (mSn zs 31) with
        | false => rfl
        | true =>
          rw [Bool.true_and, decide_eq_false_iff_not]
          intro he
          unfold encFs at he
          rw [hr, if_pos rfl] at he
          have hb := bytes_model zs h hz hr
          have := (frame_iff zs h hz _ hb).1 he
          rw [hf] at this
          cases this
      unfold decFs codeDF
      rw [e3, hk]
      exact ⟨rfl, rfl⟩
  · have hk := h1 hz
    have e3 : okFs zs = false := by unfold okFs; rw [decide_eq_false hz]; rfl
    unfold decFs codeDF
    rw [e3, hk]
    exact ⟨rfl, rfl⟩
theorem implDFs_same (v : Value) (zs : List Int) (w : World) (h : Rd .u8 w v zs) (hbd : ∀ z ∈ zs, 0 ≤ z ∧ z < 256) (hz : zs.length ≤ 140737488355328) (hg : ErrT w) (hL : LetF w) :
    Calls Tryz.prog 25 #[v] w fun e w' => e = .returned (.tuple #[.agg (cellsI (decFs zs)), .int .i64 (codeDF zs)]) ∧ Below w.heap.size w w' := by
  refine (implDFs_any v zs w h hbd hz hg hL).mono ?_
  rintro e w' ⟨X, ok, hR, rfl, hb⟩
  obtain ⟨e1, e2⟩ := read_same zs X ok hbd hR
  rw [e1, e2]
  exact ⟨rfl, hb⟩
theorem decFs_fs (zs : List Int) : ∃ gen bl cu ck op ev lg s1 ds1 p1 q1 s2 ds2 p2 q2 sn, ds1.length = 12 ∧ ds2.length = 12 ∧ sn.length = 31 ∧ decFs zs = fsI gen bl cu ck op ev lg s1 ds1 p1 q1 s2 ds2 p2 q2 sn := by
  unfold decFs
  split
  · exact ⟨_, _, _, _, _, _, _, _, _, _, _, _, _, _, _, _, gwords_len _ _, gwords_len _ _, mSn_len _ _, rfl⟩
  · exact ⟨0, 0, 0, 0, 0, 0, 0, 0, List.replicate 12 0, 0, 0, 0, List.replicate 12 0, 0, 0, List.replicate 31 0, rfl, rfl, rfl, rfl⟩
end Go.Proofs.YtkbbnflblkkepaaGreatDoor

namespace Go.Proofs.YtkbbnflblkkepaaGreatDoor
set_option linter.unusedVariables false
set_option linter.unusedSimpArgs false
open Go.RowKit

/-- Block k of an image. -/
def blkZ (zs : List Int) (k : Nat) : List Int := (zs.drop (512 * k)).take 512
theorem blkZ_len {zs : List Int} {k : Nat} (h : 512 * k + 512 ≤ zs.length) : (blkZ zs k).length = 512 := by unfold blkZ; simp; omega
theorem blkZ_bd {zs : List Int} (h : ∀ z ∈ zs, 0 ≤ z ∧ z < 256) (k : Nat) : ∀ z ∈ blkZ zs k, 0 ≤ z ∧ z < 256 := bytes_cut h _ _
theorem bytesAt_any (v : Value) (zs : List Int) (k : Nat) (w : World) (h : Rd .u8 w v zs) (hk : 512 * k + 512 ≤ zs.length) (hz : zs.length ≤ 140737488355328) :
    Calls Tryz.prog 26 #[v, .int .i64 k] w fun e w' => ∃ sv, e = .returned sv ∧ Rd .u8 w sv (blkZ zs k) ∧ w = w' := by
  have HR := hide h
  obtain ⟨bd, off, cap, rfl, hbw, hcl, hcm, hcell⟩ := h.partsC (by omega)
  unfold maxLen at hcm
  have HS := hide (show Rd .u8 w (.slice (some ⟨bd, off + 512 * k, none⟩) 512 (cap - 512 * k)) (blkZ zs k) from Rd.cut2 (512 * k) 512 HR.out (by omega) (by omega))
  obtain ⟨q, hq⟩ : ∃ q : Nat, q = 512 * k := ⟨_, rfl⟩
  rw [← hq] at HS
  have hqa : (k : Int) * 512 = (q : Int) := by omega
  have hqb : ((k : Int) + 1) * 512 = (q : Int) + 512 := by omega
  have hq3 : q + 512 ≤ cap := by omega
  have hq4 : ¬ cap = q := by omega
  have hq5 : q ≤ 140737488355328 := by omega
  have hk5 : k ≤ 300000000000 := by omega
  have hsub : q + 512 - q = 512 := by omega
  clear h hcell hq
  go_enter Tryz.func26, Tryz.ntmps26
  go_wp2
  go_ret
  exact ⟨_, rfl, by first | exact HS.out | (rw [hsub]; exact HS.out), rfl⟩
theorem l09At_any (v : Value) (zs : List Int) (k : Nat) (w : World) (h : Rd .u8 w v zs) (hk : 512 * k + 512 ≤ zs.length) (hz : zs.length ≤ 140737488355328) :
    Calls Tryz.prog 20 #[v, .int .i64 k] w fun e w' => ∃ sv, e = .returned sv ∧ Rd .u8 w sv (blkZ zs k) ∧ w = w' := by
  have HR := hide h
  obtain ⟨bd, off, cap, rfl, hbw, hcl, hcm, hcell⟩ := h.partsC (by omega)
  unfold maxLen at hcm
  have HS := hide (show Rd .u8 w (.slice (some ⟨bd, off + 512 * k, none⟩) 512 (cap - 512 * k)) (blkZ zs k) from Rd.cut2 (512 * k) 512 HR.out (by omega) (by omega))
  obtain ⟨q, hq⟩ : ∃ q : Nat, q = 512 * k := ⟨_, rfl⟩
  rw [← hq] at HS
  have hqa : (k : Int) * 512 = (q : Int) := by omega
  have hqb : ((k : Int) + 1) * 512 = (q : Int) + 512 := by omega
  have hq3 : q + 512 ≤ cap := by omega
  have hq4 : ¬ cap = q := by omega
  have hq5 : q ≤ 140737488355328 := by omega
  have hk5 : k ≤ 300000000000 := by omega
  have hsub : q + 512 - q = 512 := by omega
  clear h hcell hq
  go_enter Tryz.func20, Tryz.ntmps20
  go_wp2
  go_ret
  exact ⟨_, rfl, by first | exact HS.out | (rw [hsub]; exact HS.out), rfl⟩

/-- The record in block k, its number of blocks and its Gen; whether it counts. -/
def blZ (zs : List Int) (k : Nat) : Int := (decFs (blkZ zs k)).getD 1 0
def genZ (zs : List Int) (k : Nat) : Int := (decFs (blkZ zs k)).getD 0 0
def goodZ (zs : List Int) (k : Nat) : Bool := decide (codeDF (blkZ zs k) = 0) && decide (blZ zs k = ((zs.length / 512 : Nat) : Int))
def takeZ (zs : List Int) (st : Option Nat) (k : Nat) : Bool := goodZ zs k && (match st with | none => true | some s => decide (genZ zs s < genZ zs k))
/-- Which of the first k blocks is chosen. -/
def chz (zs : List Int) : Nat → Option Nat
  | 0 => none
  | k + 1 => if takeZ zs (chz zs k) k = true then some k else chz zs k
theorem chz_lt (zs : List Int) : ∀ k s, chz zs k = some s → s < k
  | 0, _, h => by cases h
  | k + 1, s, h => by
    rw [chz] at h
    split at h
    · obtain rfl := Option.some.inj h; omega
    · have := chz_lt zs k s h; omega
theorem codeDF_two (zs : List Int) : codeDF zs = 0 ∨ codeDF zs = 21 := by
  unfold codeDF
  split
  · exact .inl rfl
  · exact .inr rfl
/-- What ChooseFsinfo tells. -/
def choR (zs : List Int) : List Int := if szOk zs.length = true then (match chz zs 2 with | none => noFs | some s => decFs (blkZ zs s)) else noFs
def choS (zs : List Int) : Int := if szOk zs.length = true then (match chz zs 2 with | none => 0 | some s => (s : Int)) else 0
def choC (zs : List Int) : Int := if szOk zs.length = true then (match chz zs 2 with | none => 21 | some s => 0) else 7
theorem szOk_len {n : Nat} (h : szOk n = true) : 32768 ≤ n ∧ n ≤ 1048576 := by
  unfold szOk at h
  simp only [Bool.and_eq_true, decide_eq_true_eq] at h
  omega
theorem choR_len (zs : List Int) : (choR zs).length = 68 := by
  unfold choR
  split
  · split
    · rfl
    · exact decFs_len _
  · rfl
end Go.Proofs.YtkbbnflblkkepaaGreatDoor
