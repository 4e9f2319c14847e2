/- The program's DiskRun, walked. -/
import Derived.Test.YthghibopnnjboaaZi39
namespace Go.Proofs.Ythghibopnnjboaa
set_option linter.unusedVariables false
set_option linter.unusedSimpArgs false
open Go.RowKit

/-- Image, what is seen and the answers' bytes lie in blocks of their own. -/
structure ApO (v2 v3 : Value) (vs : List Value) : Prop where
  a : ∀ b, v2.ownBlock = some b → v3.ownBlock ≠ some b
  b : ∀ b, v2.ownBlock = some b → ∀ u ∈ vs, u.ownBlock ≠ some b
  c : ∀ b, v3.ownBlock = some b → ∀ u ∈ vs, u.ownBlock ≠ some b
theorem ApO.nil : ApO (.slice none 0 0) (.slice none 0 0) [] := ⟨fun b h => (by cases h), fun b h => (by cases h), fun b h => (by cases h)⟩
/-- What stands in DiskRun of the program behind some operations. -/
structure RunP (w wx : World) (d : Nat) (vf ve vc va : Value) (n : Nat) (s : DS) (C : List (Nat × List Int)) (A : List (Int × List Int)) (vs : List Value) : Prop where
  dev : Dev wx w.heap.size d vf ve vc n s.F (mkW s.F (byC C)) C s.fu s.off
  by_ : byC C = s.C
  ans : OwnN wx w.heap.size 55 1 va (A.map neA) vs
  low : Below w.heap.size w wx
  dl : w.heap.size ≤ d
  rc : Blk wx w.heap.size #[.int .i64 0, .slice none 0 0, .slice none 0 0, .slice none 0 0, .int .i64 0] 33
set_option maxRecDepth 100000 in
set_option maxHeartbeats 2000000 in
theorem implDR_size (vi vo : Value) (zs : List Int) (P : List DO) (us : List Value) (w : World) (h : Rd .u8 w vi zs) (ho : RdN w 2 vo (P.map neD) us) (hz : zs.length ≤ 1048576) (hsz : szOk zs.length = false) :
    Calls Try.prog 9 #[vi, vo] w fun e w' => ∃ va v2 v3 vs, e = .returned (.agg #[.int .i64 (runD zs P).1, va, v2, v3, .int .i64 (runD zs P).2.2.2.2]) ∧ OwnO w' w.heap.size va v2 v3 (runD zs P) vs ∧ Below w.heap.size w w' ∧ ApO v2 v3 vs := by
  have hR : runD zs P = (7, [], [], [], 0) := by unfold runD; rw [if_neg (by rw [hsz]; decide)]
  rw [hR]
  obtain ⟨oa, oc, rfl⟩ : ∃ a cap, vo = .slice a P.length cap := by obtain ⟨a, cap, e, _⟩ := ho.row; exact ⟨a, cap, by simpa using e⟩
  have hPm : P.length ≤ 9223372036854775807 := by obtain ⟨a, cap, _, _, g1, g2⟩ := ho.row; unfold maxLen at g2; simp at g1; omega
  have K0 := hide (Blk.new w #[.int .i64 0, .slice none 0 0, .slice none 0 0, .slice none 0 0, .int .i64 0] 33)
  have B0 := hide (show Below w.heap.size w (w.alloc (.cells #[.int .i64 0, .slice none 0 0, .slice none 0 0, .slice none 0 0, .int .i64 0] 33)) from (Below.refl _ _).alloc (Nat.le_refl _) _)
  have HR := hide h
  have HZ := hide hsz
  clear h ho hR hsz
  go_enter Try.func9, Try.ntmps9
  go_wp2_with fail
  refine (rightInSize_any _ zs _ (HR.out.below B0.out) (by omega)).mono ?_
  rintro e w1 ⟨rfl, rfl⟩
  rw [HZ.out]
  go_wp2_with (first | (refine wpList_store_row rfl 33 _ _ rfl (w.heap.size) #[.int .i64 7, .slice none 0 0, .slice none 0 0, .slice none 0 0, .int .i64 0] rfl rfl 33 _ K0.out infoO5 rfl (one5 _ _ _ _ _ rfl rfl rfl rfl rfl) ?_) | fail)
  refine bodyPost_ret (v := .agg #[.int .i64 7, .slice none 0 0, .slice none 0 0, .slice none 0 0, .int .i64 0]) ?_ rfl ⟨_, _, _, [], rfl, ⟨OwnN.nil _ _ _ _, World.ownsRow_nil _ _ _ _, World.ownsRow_nil _ _ _ _⟩, below_setRow B0.out (Nat.le_refl _) _, ApO.nil⟩
  exact results_cell_row rfl _ _ w.heap.size 33 #[.int .i64 7, .slice none 0 0, .slice none 0 0, .slice none 0 0, .int .i64 0] (0, 0) _ rfl (K0.out.row _) Try.underlying33 rfl infoO5
set_option maxRecDepth 100000 in
set_option maxHeartbeats 2000000 in
theorem implDR_many (vi vo : Value) (zs : List Int) (P : List DO) (us : List Value) (w : World) (h : Rd .u8 w vi zs) (ho : RdN w 2 vo (P.map neD) us) (hz : zs.length ≤ 1048576) (hsz : szOk zs.length = true) (hP : 4000 < P.length) :
    Calls Try.prog 9 #[vi, vo] w fun e w' => ∃ va v2 v3 vs, e = .returned (.agg #[.int .i64 (runD zs P).1, va, v2, v3, .int .i64 (runD zs P).2.2.2.2]) ∧ OwnO w' w.heap.size va v2 v3 (runD zs P) vs ∧ Below w.heap.size w w' ∧ ApO v2 v3 vs := by
  have hR : runD zs P = (23, [], [], [], 0) := by unfold runD; rw [if_pos hsz, if_pos hP]
  rw [hR]
  obtain ⟨oa, oc, rfl⟩ : ∃ a cap, vo = .slice a P.length cap := by obtain ⟨a, cap, e, _⟩ := ho.row; exact ⟨a, cap, by simpa using e⟩
  have hPm : P.length ≤ 9223372036854775807 := by obtain ⟨a, cap, _, _, g1, g2⟩ := ho.row; unfold maxLen at g2; simp at g1; omega
  have K0 := hide (Blk.new w #[.int .i64 0, .slice none 0 0, .slice none 0 0, .slice none 0 0, .int .i64 0] 33)
  have B0 := hide (show Below w.heap.size w (w.alloc (.cells #[.int .i64 0, .slice none 0 0, .slice none 0 0, .slice none 0 0, .int .i64 0] 33)) from (Below.refl _ _).alloc (Nat.le_refl _) _)
  have HR := hide h
  have HZ := hide hsz
  have hq := szOk_iff hsz
  obtain ⟨mm, hmm⟩ : ∃ mm, mm = zs.length / 512 := ⟨_, rfl⟩
  have hm1 : 64 ≤ mm := by omega
  have hm0 : ¬ ((mm : Int) = 0) := by omega
  have HMm := hide hmm
  have hPI : (4000 : Int) < (P.length : Int) := by omega
  clear hq hmm
  clear h ho hR hsz
  go_enter Try.func9, Try.ntmps9
  go_wp2_with fail
  refine (rightInSize_any _ zs _ (HR.out.below B0.out) (by omega)).mono ?_
  rintro e w1 ⟨rfl, rfl⟩
  rw [HZ.out]
  go_wp2_with (first | (refine wpList_store_row rfl 33 _ _ rfl (w.heap.size) #[.int .i64 23, .slice none 0 0, .slice none 0 0, .slice none 0 0, .int .i64 0] rfl rfl 33 _ K0.out infoO5 rfl (one5 _ _ _ _ _ rfl rfl rfl rfl rfl) ?_) | fail)
  refine bodyPost_ret (v := .agg #[.int .i64 23, .slice none 0 0, .slice none 0 0, .slice none 0 0, .int .i64 0]) ?_ rfl ⟨_, _, _, [], rfl, ⟨OwnN.nil _ _ _ _, World.ownsRow_nil _ _ _ _, World.ownsRow_nil _ _ _ _⟩, below_setRow B0.out (Nat.le_refl _) _, ApO.nil⟩
  exact results_cell_row rfl _ _ w.heap.size 33 #[.int .i64 23, .slice none 0 0, .slice none 0 0, .slice none 0 0, .int .i64 0] (0, 0) _ rfl (K0.out.row _) Try.underlying33 rfl infoO5
theorem RunP.belowP {w wx wy : World} {d : Nat} {vf ve vc va : Value} {n : Nat} {s : DS} {C : List (Nat × List Int)} {A : List (Int × List Int)} {vs : List Value} (h : RunP w wx d vf ve vc va n s C A vs) (hb : Below wx.heap.size wx wy) : RunP w wy d vf ve vc va n s C A vs :=
  ⟨h.dev.below hb, h.by_, h.ans.below hb, h.low.trans (hb.mono h.low.size), h.dl, h.rc.below hb h.rc.lt⟩
set_option maxRecDepth 100000 in
set_option maxHeartbeats 8000000 in
theorem implDR_go (vi vo : Value) (zs : List Int) (P : List DO) (us : List Value) (w : World) (h : Rd .u8 w vi zs) (ho : RdN w 2 vo (P.map neD) us) (hz : zs.length ≤ 1048576) (hsz : szOk zs.length = true) (hP : P.length ≤ 4000) (hA : ∀ p ∈ P, p.2.1 < 9223372036854775808) (hbd : ∀ p ∈ P, ∀ z ∈ p.2.2, 0 ≤ z ∧ z < 256) :
    Calls Try.prog 9 #[vi, vo] w fun e w' => ∃ va v2 v3 vs, e = .returned (.agg #[.int .i64 (runD zs P).1, va, v2, v3, .int .i64 (runD zs P).2.2.2.2]) ∧ OwnO w' w.heap.size va v2 v3 (runD zs P) vs ∧ Below w.heap.size w w' ∧ ApO v2 v3 vs := by
  obtain ⟨i0, hi, hz0, hz1, hz2⟩ := info_parts infoA2z
  obtain ⟨m, hm⟩ : ∃ m, m = zs.length / 512 := ⟨_, rfl⟩
  have hR : runD zs P = ((0 : Int), anS m P (newS zs), (stS m P (newS zs)).F, mkW (stS m P (newS zs)).F (stS m P (newS zs)).C, (((stS m P (newS zs)).C.length : Nat) : Int)) := by unfold runD; rw [if_pos hsz, if_neg (by omega), hm]
  rw [hR]
  have hszm := szOk_iff hsz
  rw [← hm] at hszm
  obtain ⟨oa, oc, rfl⟩ : ∃ a cap, vo = .slice a P.length cap := by obtain ⟨a, cap, e, _⟩ := ho.row; exact ⟨a, cap, by simpa using e⟩
  obtain ⟨PL, hPL⟩ : ∃ PL, PL = P.length := ⟨_, rfl⟩
  have HO := hide ho
  rw [← hPL] at hP ⊢
  have HPL := hide hPL
  have K0 := hide (Blk.new w #[.int .i64 0, .slice none 0 0, .slice none 0 0, .slice none 0 0, .int .i64 0] 33)
  have B0 := hide (show Below w.heap.size w (w.alloc (.cells #[.int .i64 0, .slice none 0 0, .slice none 0 0, .slice none 0 0, .int .i64 0] 33)) from (Below.refl _ _).alloc (Nat.le_refl _) _)
  have HR := hide h
  have HZ := hide (And.intro hsz hszm)
  have HAb := hide (And.intro hA hbd)
  obtain ⟨n, hnm⟩ : ∃ n, n = 4 * m := ⟨_, rfl⟩
  have hn8 : n ≤ 8192 := by omega
  have hn0 : 0 < n := by omega
  have HNm := hide (show n = 4 * m ∧ zs.length = n * 128 from ⟨hnm, by omega⟩)
  have hPI : ¬ ((4000 : Int) < (PL : Int)) := by omega
  clear h ho hR hsz hszm hPL hA hbd hm hnm
  go_enter Try.func9, Try.ntmps9
  go_wp2_with fail
  refine (rightInSize_any _ zs _ (HR.out.below B0.out) (by omega)).mono ?_
  rintro e w1 ⟨rfl, rfl⟩
  rw [HZ.out.1]
  go_wp2_with fail
  refine (newDevice_any _ n zs _ (HR.out.below B0.out) HNm.out.2 hn8).mono ?_
  rintro e w1 ⟨d, vf, ve, rfl, hd1, v1, b1⟩
  have hsa : (w.alloc (.cells #[.int .i64 0, .slice none 0 0, .slice none 0 0, .slice none 0 0, .int .i64 0] 33)).heap.size = w.heap.size + 1 := by simp
  have hb1s := b1.size
  obtain ⟨fa, fc, rfl⟩ := shape_rowK v1.saf
  obtain ⟨ea, ec, rfl⟩ := shape_rowK v1.see
  have M0 := hide (show RunP w w1 d (.slice fa n fc) (.slice ea n ec) (.slice none 0 0) (.slice none 0 0) n (newS zs) [] (anS m [] (newS zs)) [] from by
    rw [hsa] at v1
    have b01 : Below w.heap.size w w1 := B0.out.trans (b1.mono (by omega))
    exact ⟨⟨v1.blk, own_mono v1.saf (by omega), own_mono v1.see (by omega), own_mono v1.cac (by omega), v1.ap, v1.n1, v1.ok⟩, rfl, OwnN.nil _ _ _ _, b01, by omega, K0.out.below b1 K0.out.lt⟩)
  clear v1 b1 hd1 hsa hb1s
  go_wp2_with (first | (refine wpList_make_own _ rfl _ _ 31 rfl w1.heap.size 55 i0 (.agg #[.int .i64 0, .slice none 0 0]) 2 Try.underlying31 hi hz0 hz1 .i64 .i64 (PL : Int) PL rfl rfl rfl (by rw [hz2]; omega) (by unfold maxLen; omega) (Nat.le_refl _) ?_; intro w3 o3 g3) | fail)
  have b3 : Below w1.heap.size w1 w3 := (Below.refl _ _).grown g3 (Nat.le_refl _) (fun k e => by cases e)
  obtain ⟨g9, hg9⟩ : ∃ g9, g9 = w1.heap.size := ⟨_, rfl⟩
  have M3 := hide (show RunP w w3 d (.slice fa n fc) (.slice ea n ec) (.slice none 0 0) (.slice (some ⟨g9, 0, none⟩) 0 PL) n (newS zs) [] (anS m [] (newS zs)) [] from by
    have h0 := M0.out.belowP b3
    have ho : OwnN w3 w.heap.size 55 1 (.slice (some ⟨g9, 0, none⟩) 0 PL) ((anS m [] (newS zs)).map neA) [] := ⟨rfl, fun l h => (by cases h), by rw [hg9]; exact own_mono o3 M0.out.low.size, fun i u l h => (by simp at h), fun i j u u' b h => (by simp at h)⟩
    exact ⟨h0.dev, h0.by_, ho, h0.low, h0.dl, h0.rc⟩)
  rw [← hg9]
  clear o3 g3 b3 M0 K0 B0 hg9
  go_wp2
  go_loopw [6, 24] (fun ov iv wx => ∃ (i : Nat) (s : DS) (ca : Option Addr) (CL cc : Nat) (aa : Option Addr) (ac : Nat) (C : List (Nat × List Int)) (vs : List Value), i ≤ PL ∧ iv = .int .i64 (i : Int) ∧ ov = .slice aa i ac ∧ s = stS m (P.take i) (newS zs) ∧ CL = C.length ∧ RunP w wx d (.slice fa n fc) (.slice ea n ec) (.slice ca CL cc) (.slice aa i ac) n s C (anS m (P.take i) (newS zs)) vs) (fun _ iv _ => PL - (intOf iv).toNat)
  case atStart => exact ⟨0, newS zs, none, 0, 0, _, _, [], [], by omega, rfl, rfl, rfl, rfl, M3.out⟩
  case round =>
    clear M3
    obtain ⟨i, s, ca, CL, cc, aa, ac, C, vs, hiP, rfl, rfl, hst, hCLn, hM⟩ := hrel
    have HM0 := hide hM
    have Hst := hide hst
    have HCLn := hide hCLn.symm
    have hOk := stS_ok (newS_ok zs) HZ.out.2.1 (P.take i) (fun o ho => HAb.out.1 o (List.mem_of_mem_take ho))
    rw [← hst] at hOk
    have HOk := hide (show s.C.length ≤ 16000 ∧ s.fu < 9223372036854775808 from ⟨by have := hOk.cl; rw [List.length_take] at this; omega, hOk.fu⟩)
    have hCLb : CL ≤ 16000 := by have h1 := HOk.out.1; rw [← hM.by_, byC_len] at h1; omega
    clear hM hst hOk hCLn
    by_cases hlt : i < PL
    · obtain ⟨p, hp⟩ : ∃ p, P[i]? = some p := ⟨_, List.getElem?_eq_getElem (by have := HPL.out; omega)⟩
      obtain ⟨k, A, D⟩ := p
      obtain ⟨b, off, u, hoa, hbl, hu, hrd, hrg⟩ := RdN.at (i := i) (l := neD (k, A, D)) (show RdN w 2 (.slice oa (P.map neD).length oc) (P.map neD) us by rw [List.length_map, ← HPL.out]; have := HO.out; rw [← HPL.out] at this; exact this) (by rw [List.getElem?_map, hp]; rfl)
      subst hoa
      obtain ⟨da, dc, rfl⟩ : ∃ da dc, u = .slice da D.length dc := by obtain ⟨a, c, e, _⟩ := hrd; exact ⟨a, c, e⟩
      obtain ⟨DL, hDL⟩ : ∃ DL, DL = D.length := ⟨_, rfl⟩
      have hiI : (i : Int) < (PL : Int) := by omega
      have HPk := hide (show P.take (i + 1) = P.take i ++ [(k, A, D)] by rw [List.take_add_one, hp]; rfl)
      have HDd := hide (And.intro (show Rd .u8 w (.slice da DL dc) D by rw [hDL]; exact hrd) (HAb.out.2 _ (List.mem_of_getElem? hp)))
      have HRg := hide (show wr.rangeAt b (off + i * 3) [.int .i64 k, .int .i64 A, .slice da DL dc] from fun j v hj => by
        rw [hDL] at hj
        exact (HM0.out.low.cell (p := ⟨b, off + i * 3 + j, none⟩) hbl).trans (hrg j v hj))
      obtain ⟨g8, hg8⟩ : ∃ g8, g8 = wr.heap.size := ⟨_, rfl⟩
      obtain ⟨wd, hwd⟩ : ∃ wd, wd = wr.alloc (.cells #[.int .i64 k, .int .i64 A, .slice da DL dc] 30) := ⟨_, rfl⟩
      have bwd : Below wr.heap.size wr wd := by rw [hwd]; exact (Below.refl _ _).alloc (Nat.le_refl _) _
      have HM := hide (HM0.out.belowP bwd)
      have S0 := hide (show wd.rangeAt g8 0 [.int .i64 k, .int .i64 A, .slice da DL dc] from by rw [hwd, hg8]; exact range3 (Blk.new wr _ _))
      have HWd := hide hwd
      have Hg8 := hide hg8
      clear hrd hrg hu hp hDL hwd bwd hg8
      go_upto_region 10 with (first | (refine wpList_load_mid rfl 30 _ rfl b (off + i * 3) rfl [.int .i64 k, .int .i64 A, .slice da DL dc] _ HRg.out Try.underlying30 rfl infoD3 ?_) | fail)
      rw [← Hg8.out, ← HWd.out]
      clear HRg HM0
      go_wp2_with (first | (refine wpList_load_mid rfl 30 _ rfl g8 0 rfl [.int .i64 k, .int .i64 A, .slice da DL dc] _ S0.out Try.underlying30 rfl infoD3 ?_) | fail)
      refine (carryOut_any HM.out.dev HM.out.by_ HM.out.dl m HNm.out.1 hn0 (by have := HCLn.out; omega) HOk.out.2 k A _ D w HDd.out.1 HM.out.low (Nat.le_refl _) HDd.out.2).mono ?_
      rintro e w1 ⟨vc1, C1, va1, rfl, v1, hby1, o1, l1, y1⟩
      obtain ⟨ra, rc, rfl⟩ := shape_rowK o1
      obtain ⟨RR, hRR⟩ : ∃ RR, RR = doS m k A D s := ⟨_, rfl⟩
      rw [← hRR] at v1 o1 hby1
      rw [← hRR]
      obtain ⟨s1, c1, D1⟩ := RR
      have HRR := hide hRR
      clear hRR
      simp only at v1 o1 hby1
      simp only
      obtain ⟨RL, hRL⟩ : ∃ RL, RL = D1.length := ⟨_, rfl⟩
      rw [← hRL] at o1
      rw [← hRL]
      have HRL := hide hRL
      clear hRL
      obtain ⟨ca1, cc1, e1⟩ := shape_rowK v1.cac
      subst e1
      have M1 := hide (show OwnN w1 w.heap.size 55 1 (.slice aa i ac) ((anS m (P.take i) (newS zs)).map neA) vs ∧ Blk w1 w.heap.size #[.int .i64 0, .slice none 0 0, .slice none 0 0, .slice none 0 0, .int .i64 0] 33 from ⟨y1.ownN HM.out.ans (by unfold TyP; decide) (by unfold TyP; decide), y1.blk HM.out.rc (by unfold TyP; decide)⟩)
      have O1 := hide (And.intro v1 (And.intro hby1 (And.intro o1 l1)))
      clear v1 o1 l1 y1 hby1
      have B2 := hide (show Below w1.heap.size w1 (w1.alloc (.cells #[.int .i64 c1, .slice ra RL rc] 55)) from (Below.refl _ _).alloc (Nat.le_refl _) _)
      have R2 := hide (M1.out.1.below B2.out).row
      rw [List.length_map, anS_len, List.length_take, Nat.min_eq_left (by have := HPL.out; omega)] at R2
      have hsz1 := O1.out.2.2.2.size
      have hlo := HM.out.low.size
      go_wp2_with (first
        | (at_builtin; refine wpList_append_own_at _ rfl (.tmp 28) (.tmp 32) 31 rfl w.heap.size 55 i0 (.agg #[.int .i64 0, .slice none 0 0]) 2 32 Try.underlying31 hi hz0 hz1 hz2 rfl (by decide) (.slice aa i ac) i _ rfl R2.out ⟨w1.heap.size, 0, none⟩ 1 1 [.int .i64 c1, .slice ra RL rc] rfl rfl (cells_newK w1 #[.int .i64 c1, .slice ra RL rc] 55) (by intro y hy; simp at hy; rcases hy with rfl | rfl <;> rfl) (by unfold maxLen; omega) (by omega) (by simp; omega) ?_; intro v4 w4 o4 g4 _ _; obtain ⟨va4, vc4, rfl⟩ := shape_rowK o4; have O4 := hide (And.intro o4 g4); clear o4 g4)
        | fail)
      have Y4 := hide (show KpY (fun t => t = 55) (w1.alloc (.cells #[.int .i64 c1, .slice ra RL rc] 55)) w4 from (KpY.refl _ _).ownrow R2.out rfl O4.out.2)
      have A4 := hide (show OwnN w4 w.heap.size 55 1 (.slice va4 (i + 1) vc4) ((anS m (P.take (i + 1)) (newS zs)).map neA) (vs ++ [.slice ra RL rc]) from by
        rw [HPk.out, anS_snoc, List.map_append, ← Hst.out]
        show OwnN _ _ _ _ _ (_ ++ [neA ((doS m k A D s).2)]) _
        rw [← HRR.out]
        exact (M1.out.1.below B2.out).push (by decide) (neA (c1, D1)) (.slice ra RL rc) rfl (by show World.ownsRow _ _ _ _ _ D1.length _; rw [← HRL.out]; exact own_below (own_mono O1.out.2.2.1 (by omega)) B2.out) (fun j x b hx hb e => by have h1 := (O1.out.2.2.1.lt b e).1; have h2 := (HM.out.ans.ltK hx hb).2; omega) (by rw [List.length_map, anS_len, List.length_take, Nat.min_eq_left (by have := HPL.out; omega)]; exact O4.out.1) O4.out.2)
      have Z4 := hide (show RunP w w4 d (.slice fa n fc) (.slice ea n ec) (.slice ca1 C1.length cc1) (.slice va4 (i + 1) vc4) n s1 C1 (anS m (P.take (i + 1)) (newS zs)) (vs ++ [.slice ra RL rc]) from ⟨(O1.out.1.below B2.out).kpy Y4.out (by decide) (by decide) (by decide), O1.out.2.1, A4.out, ((HM.out.low.trans O1.out.2.2.2).trans (B2.out.mono (by omega))).grown O4.out.2 (by simp; omega) (fun r e => (R2.out.lt r e).1), HM.out.dl, Y4.out.blk (M1.out.2.alloc _) (by decide)⟩)
      have Hs1 := hide (show s1 = stS m (P.take (i + 1)) (newS zs) from by rw [HPk.out, stS_snoc, ← Hst.out, ← HRR.out])
      clear A4 Y4 O4 O1 M1 B2 R2 HM HRR HRL Hst HPk HOk HDd HWd S0
      go_roundw
      case rel => exact ⟨i + 1, s1, ca1, _, cc1, va4, vc4, C1, _, by omega, by go_num, rfl, Hs1.out, rfl, Z4.out⟩
      case measure => simp [intOf]; omega
    · have hiP2 : i = PL := by omega
      subst hiP2
      have q1 : ¬ ((i : Int) < (i : Int)) := by omega
      have hTk : P.take i = P := List.take_of_length_le (by have := HPL.out; omega)
      rw [hTk] at Hst HM0
      clear hTk
      obtain ⟨wd, hwd⟩ : ∃ wd, wd = wr.drew := ⟨_, rfl⟩
      have bdr : Below wr.heap.size wr wd := by rw [hwd]; exact (Below.refl _ _).drew
      have HMd := hide (HM0.out.belowP bdr)
      have S0 := hide (show wd.cell? ⟨d, 0, none⟩ = some (.slice fa n fc) ∧ wd.cell? ⟨d, 1, none⟩ = some (.slice ea n ec) ∧ wd.cell? ⟨d, 2, none⟩ = some (.slice ca CL cc) from ⟨(HMd.out.dev.blk.cell 0).trans rfl, (HMd.out.dev.blk.cell 1).trans rfl, (HMd.out.dev.blk.cell 2).trans rfl⟩)
      have HWd := hide hwd
      clear hwd bdr HM0
      go_upto_region 12 with fail
      refine wp_region_noPanic ?_
      refine wp_region_heldL (fun w' => w'.cell? ⟨d, 0, none⟩ = some (.slice fa n fc) ∧ w'.cell? ⟨d, 1, none⟩ = some (.slice ea n ec) ∧ w'.cell? ⟨d, 2, none⟩ = some (.slice ca CL cc)) 17 (by kernel_rfl) ?_
      rw [← HWd.out]
      refine wpAnyL_take (i := 0) (oi := _) (v := .slice aa i ac) rfl (by kernel_rfl) (by kernel_rfl) (by kernel_rfl) (by kernel_rfl) (fun _ _ _ h => h) (Or.inl ⟨by rfl, fun w' hw' => by go_simp⟩) S0.out ?_
      try simp only [Act.put, List.getElem_toArray, List.getElem_cons_zero, List.getElem_cons_succ, List.setIfInBounds_toArray, List.set_cons_zero, List.set_cons_succ]
      refine wpAnyL_take (i := 1) (oi := _) (v := .pointer (some ⟨d, 0, none⟩)) rfl (by kernel_rfl) (by kernel_rfl) (by kernel_rfl) (by kernel_rfl) (fun _ _ _ h => h) (Or.inl ⟨by rfl, fun w' hw' => by go_simp⟩) S0.out ?_
      try simp only [Act.put, List.getElem_toArray, List.getElem_cons_zero, List.getElem_cons_succ, List.setIfInBounds_toArray, List.set_cons_zero, List.set_cons_succ]
      refine wpAnyL_take (i := 2) (oi := _) (v := .pointer (some ⟨d, 0, none⟩)) rfl (by kernel_rfl) (by kernel_rfl) (by kernel_rfl) (by kernel_rfl) (fun _ _ _ h => h) (Or.inl ⟨by rfl, fun w' hw' => by go_simp⟩) S0.out ?_
      try simp only [Act.put, List.getElem_toArray, List.getElem_cons_zero, List.getElem_cons_succ, List.setIfInBounds_toArray, List.set_cons_zero, List.set_cons_succ]
      refine wpAnyL_take (i := 3) (oi := _) (v := .pointer (some ⟨d, 0, none⟩)) rfl (by kernel_rfl) (by kernel_rfl) (by kernel_rfl) (by kernel_rfl) (fun _ _ _ h => h) (Or.inl ⟨by rfl, fun w' hw' => by go_simp⟩) S0.out ?_
      try simp only [Act.put, List.getElem_toArray, List.getElem_cons_zero, List.getElem_cons_succ, List.setIfInBounds_toArray, List.set_cons_zero, List.set_cons_succ]
      refine wpAnyL_take (i := 4) (oi := _) (v := .slice fa n fc) rfl (by kernel_rfl) (by kernel_rfl) (by kernel_rfl) (by kernel_rfl) (fun _ _ _ h => h) (Or.inl ⟨by rfl, fun w' hw' => by have hw2 : w'.cell? ⟨d, 0, none⟩ = some (.slice fa n fc) := hw'.1; go_simp⟩) S0.out ?_
      try simp only [Act.put, List.getElem_toArray, List.getElem_cons_zero, List.getElem_cons_succ, List.setIfInBounds_toArray, List.set_cons_zero, List.set_cons_succ]
      refine wpAnyL_take (i := 6) (oi := _) (v := .pointer (some ⟨d, 0, none⟩)) rfl (by kernel_rfl) (by kernel_rfl) (by kernel_rfl) (by kernel_rfl) (fun _ _ _ h => h) (Or.inl ⟨by rfl, fun w' hw' => by go_simp⟩) S0.out ?_
      try simp only [Act.put, List.getElem_toArray, List.getElem_cons_zero, List.getElem_cons_succ, List.setIfInBounds_toArray, List.set_cons_zero, List.set_cons_succ]
      refine wpAnyL_take (i := 7) (oi := _) (v := .pointer (some ⟨d, 0, none⟩)) rfl (by kernel_rfl) (by kernel_rfl) (by kernel_rfl) (by kernel_rfl) (fun _ _ _ h => h) (Or.inl ⟨by rfl, fun w' hw' => by go_simp⟩) S0.out ?_
      try simp only [Act.put, List.getElem_toArray, List.getElem_cons_zero, List.getElem_cons_succ, List.setIfInBounds_toArray, List.set_cons_zero, List.set_cons_succ]
      refine wpAnyL_take (i := 8) (oi := _) (v := .pointer (some ⟨d, 1, none⟩)) rfl (by kernel_rfl) (by kernel_rfl) (by kernel_rfl) (by kernel_rfl) (fun _ _ _ h => h) (Or.inl ⟨by rfl, fun w' hw' => by go_simp⟩) S0.out ?_
      try simp only [Act.put, List.getElem_toArray, List.getElem_cons_zero, List.getElem_cons_succ, List.setIfInBounds_toArray, List.set_cons_zero, List.set_cons_succ]
      refine wpAnyL_take (i := 9) (oi := _) (v := .slice ea n ec) rfl (by kernel_rfl) (by kernel_rfl) (by kernel_rfl) (by kernel_rfl) (fun _ _ _ h => h) (Or.inl ⟨by rfl, fun w' hw' => by have hw2 : w'.cell? ⟨d, 1, none⟩ = some (.slice ea n ec) := hw'.2.1; go_simp⟩) S0.out ?_
      try simp only [Act.put, List.getElem_toArray, List.getElem_cons_zero, List.getElem_cons_succ, List.setIfInBounds_toArray, List.set_cons_zero, List.set_cons_succ]
      refine wpAnyL_take (i := 11) (oi := _) (v := .pointer (some ⟨d, 0, none⟩)) rfl (by kernel_rfl) (by kernel_rfl) (by kernel_rfl) (by kernel_rfl) (fun _ _ _ h => h) (Or.inl ⟨by rfl, fun w' hw' => by go_simp⟩) S0.out ?_
      try simp only [Act.put, List.getElem_toArray, List.getElem_cons_zero, List.getElem_cons_succ, List.setIfInBounds_toArray, List.set_cons_zero, List.set_cons_succ]
      refine wpAnyL_take (i := 12) (oi := _) (v := .pointer (some ⟨d, 0, none⟩)) rfl (by kernel_rfl) (by kernel_rfl) (by kernel_rfl) (by kernel_rfl) (fun _ _ _ h => h) (Or.inl ⟨by rfl, fun w' hw' => by go_simp⟩) S0.out ?_
      try simp only [Act.put, List.getElem_toArray, List.getElem_cons_zero, List.getElem_cons_succ, List.setIfInBounds_toArray, List.set_cons_zero, List.set_cons_succ]
      refine wpAnyL_take (i := 13) (oi := _) (v := .pointer (some ⟨d, 2, none⟩)) rfl (by kernel_rfl) (by kernel_rfl) (by kernel_rfl) (by kernel_rfl) (fun _ _ _ h => h) (Or.inl ⟨by rfl, fun w' hw' => by go_simp⟩) S0.out ?_
      try simp only [Act.put, List.getElem_toArray, List.getElem_cons_zero, List.getElem_cons_succ, List.setIfInBounds_toArray, List.set_cons_zero, List.set_cons_succ]
      refine wpAnyL_take (i := 14) (oi := _) (v := .slice ca CL cc) rfl (by kernel_rfl) (by kernel_rfl) (by kernel_rfl) (by kernel_rfl) (fun _ _ _ h => h) (Or.inl ⟨by rfl, fun w' hw' => by have hw2 : w'.cell? ⟨d, 2, none⟩ = some (.slice ca CL cc) := hw'.2.2; go_simp⟩) S0.out ?_
      try simp only [Act.put, List.getElem_toArray, List.getElem_cons_zero, List.getElem_cons_succ, List.setIfInBounds_toArray, List.set_cons_zero, List.set_cons_succ]
      refine wpAnyL_take (i := 15) (oi := _) (v := .int .i64 (CL : Int)) rfl (by kernel_rfl) (by kernel_rfl) (by kernel_rfl) (by kernel_rfl) (fun _ _ _ h => h) (Or.inl ⟨by rfl, fun w' hw' => by go_simp⟩) S0.out ?_
      try simp only [Act.put, List.getElem_toArray, List.getElem_cons_zero, List.getElem_cons_succ, List.setIfInBounds_toArray, List.set_cons_zero, List.set_cons_succ]
      refine wpAnyL_one (i := 5) (by kernel_rfl) rfl (fun K hK => ?_)
      go_simp
      refine (bytesOf_any _ n s.F wd (RdK.own HMd.out.dev.saf (by omega))).mono ?_
      rintro e wA ⟨v1, rfl, o1, l1⟩
      obtain ⟨a1, c1, rfl⟩ := shape_rowK o1
      have HA := hide (And.intro o1 l1)
      have MA := hide (HMd.out.belowP l1)
      clear o1 l1
      have SA := hide (show wA.cell? ⟨d, 0, none⟩ = some (.slice fa n fc) ∧ wA.cell? ⟨d, 1, none⟩ = some (.slice ea n ec) ∧ wA.cell? ⟨d, 2, none⟩ = some (.slice ca CL cc) from ⟨(MA.out.dev.blk.cell 0).trans rfl, (MA.out.dev.blk.cell 1).trans rfl, (MA.out.dev.blk.cell 2).trans rfl⟩)
      refine hK.out _ _ (fun _ => SA.out) ?_
      clear hK K
      try simp only [Act.put, List.getElem_toArray, List.getElem_cons_zero, List.getElem_cons_succ, List.setIfInBounds_toArray, List.set_cons_zero, List.set_cons_succ]
      refine wpAnyL_one (i := 10) (by kernel_rfl) rfl (fun K hK => ?_)
      go_simp
      refine (bytesOf_any _ n (mkW s.F (byC C)) wA (RdK.own MA.out.dev.see (by omega))).mono ?_
      rintro e wB ⟨v2, rfl, o2, l2⟩
      obtain ⟨a2, c2, rfl⟩ := shape_rowK o2
      have HB := hide (And.intro o2 l2)
      have MB := hide (MA.out.belowP l2)
      clear o2 l2
      have SB := hide (show wB.cell? ⟨d, 0, none⟩ = some (.slice fa n fc) ∧ wB.cell? ⟨d, 1, none⟩ = some (.slice ea n ec) ∧ wB.cell? ⟨d, 2, none⟩ = some (.slice ca CL cc) from ⟨(MB.out.dev.blk.cell 0).trans rfl, (MB.out.dev.blk.cell 1).trans rfl, (MB.out.dev.blk.cell 2).trans rfl⟩)
      refine hK.out _ _ (fun _ => SB.out) ?_
      clear hK K
      try simp only [Act.put, List.getElem_toArray, List.getElem_cons_zero, List.getElem_cons_succ, List.setIfInBounds_toArray, List.set_cons_zero, List.set_cons_succ]
      obtain ⟨NL, hNL⟩ : ∃ NL, NL = n * 128 := ⟨_, rfl⟩
      rw [← hNL] at HA HB
      have HNL := hide hNL
      rw [← hNL]
      clear hNL
      refine wpAnyL_take (i := 16) (oi := _) (v := .agg #[.int .i64 0, .slice aa i ac, .slice a1 NL c1, .slice a2 NL c2, .int .i64 (CL : Int)]) rfl (by kernel_rfl) (by kernel_rfl) (by kernel_rfl) (by kernel_rfl) (fun _ _ _ h => h) (Or.inl ⟨by rfl, fun w' hw' => by go_simp⟩) SB.out ?_
      try simp only [Act.put, List.getElem_toArray, List.getElem_cons_zero, List.getElem_cons_succ, List.setIfInBounds_toArray, List.set_cons_zero, List.set_cons_succ]
      refine wpAnyL_one (i := 17) (by kernel_rfl) rfl (fun K hK => ?_)
      rw [if_pos (by rfl)]
      refine wp_store_row 33 _ _ rfl w.heap.size #[.int .i64 0, .slice aa i ac, .slice a1 NL c1, .slice a2 NL c2, .int .i64 (CL : Int)] rfl rfl 33 _ MB.out.rc infoO5 rfl (one5 _ _ _ _ _ rfl rfl rfl rfl rfl) ?_
      refine hK.out _ _ (fun h => absurd rfl h) ?_
      clear hK K
      try simp only [Act.put, List.getElem_toArray, List.getElem_cons_zero, List.getElem_cons_succ, List.setIfInBounds_toArray, List.set_cons_zero, List.set_cons_succ]
      refine wpAnyL_done (by kernel_rfl) (NoPanic.normal ?_) _
      have hlen := MB.out.dev.lens
      have kp7 : KpY (fun t => t = 33) wB (wB.setRow w.heap.size #[.int .i64 0, .slice aa i ac, .slice a1 NL c1, .slice a2 NL c2, .int .i64 (CL : Int)]) := (KpY.refl _ _).setRow MB.out.rc rfl
      have E7 := hide (show OwnO (wB.setRow w.heap.size #[.int .i64 0, .slice aa i ac, .slice a1 NL c1, .slice a2 NL c2, .int .i64 (CL : Int)]) w.heap.size (.slice aa i ac) (.slice a1 NL c1) (.slice a2 NL c2) (0, anS m P (newS zs), s.F, mkW s.F (byC C), (CL : Int)) vs ∧ Below w.heap.size w (wB.setRow w.heap.size #[.int .i64 0, .slice aa i ac, .slice a1 NL c1, .slice a2 NL c2, .int .i64 (CL : Int)]) from ⟨⟨kp7.ownN MB.out.ans (by decide) (by decide), by show World.ownsRow _ _ _ _ _ s.F.length _; rw [hlen.1, ← HNL.out]; exact kp7.own (own_mono (own_below HA.out.1 HB.out.2) HMd.out.low.size) (by decide), by show World.ownsRow _ _ _ _ _ (mkW s.F (byC C)).length _; rw [hlen.2, ← HNL.out]; exact kp7.own (own_mono HB.out.1 MA.out.low.size) (by decide)⟩, below_setRow MB.out.low (Nat.le_refl _) _⟩)
      have HAp := hide (show ApO (.slice a1 NL c1) (.slice a2 NL c2) vs from ⟨fun b h1 h2 => by have e1 := (HA.out.1.lt b h1).2; have e2 := (HB.out.1.lt b h2).1; omega, fun b h1 u hu h2 => by obtain ⟨j, hj⟩ := List.getElem?_of_mem hu; have e1 := (HA.out.1.lt b h1).1; have e2 := (HMd.out.ans.ltK hj h2).2; omega, fun b h1 u hu h2 => by obtain ⟨j, hj⟩ := List.getElem?_of_mem hu; have e1 := (HB.out.1.lt b h1).1; have e2 := (HMd.out.ans.ltK hj h2).2; have e3 := HA.out.2.size; omega⟩)
      have HBy := hide MB.out.by_
      have K7 := hide (MB.out.rc.row #[.int .i64 0, .slice aa i ac, .slice a1 NL c1, .slice a2 NL c2, .int .i64 (CL : Int)])
      clear kp7 hlen HMd MA MB SA SB HA HB S0 HWd
      go_wp2
      refine bodyPost_ret (v := .agg #[.int .i64 0, .slice aa i ac, .slice a1 NL c1, .slice a2 NL c2, .int .i64 (CL : Int)]) ?_ rfl ?_
      · exact results_cell_row rfl _ _ w.heap.size 33 #[.int .i64 0, .slice aa i ac, .slice a1 NL c1, .slice a2 NL c2, .int .i64 (CL : Int)] (0, 0) _ rfl K7.out Try.underlying33 rfl infoO5
      · have hcl : ((stS m P (newS zs)).C.length : Int) = (CL : Int) := by rw [← Hst.out, ← HBy.out, byC_len, HCLn.out]
        rw [hcl, ← Hst.out, ← HBy.out]
        first | exact ⟨_, _, _, vs, rfl, E7.out.1, E7.out.2, HAp.out⟩ | exact ⟨_, _, _, rfl, ⟨vs, E7.out.1, E7.out.2, HAp.out⟩⟩
theorem implDR_any (vi vo : Value) (zs : List Int) (P : List DO) (us : List Value) (w : World) (h : Rd .u8 w vi zs) (ho : RdN w 2 vo (P.map neD) us) (hz : zs.length ≤ 1048576) (hA : ∀ p ∈ P, p.2.1 < 9223372036854775808) (hbd : ∀ p ∈ P, ∀ z ∈ p.2.2, 0 ≤ z ∧ z < 256) :
    Calls Try.prog 9 #[vi, vo] w fun e w' => ∃ va v2 v3 vs, e = .returned (.agg #[.int .i64 (runD zs P).1, va, v2, v3, .int .i64 (runD zs P).2.2.2.2]) ∧ OwnO w' w.heap.size va v2 v3 (runD zs P) vs ∧ Below w.heap.size w w' ∧ ApO v2 v3 vs := by
  cases hsz : szOk zs.length with
  | false => exact implDR_size vi vo zs P us w h ho hz hsz
  | true =>
    by_cases hP : 4000 < P.length
    · exact implDR_many vi vo zs P us w h ho hz hsz hP
    · exact implDR_go vi vo zs P us w h ho hz hsz (by omega) hA hbd
end Go.Proofs.Ythghibopnnjboaa
