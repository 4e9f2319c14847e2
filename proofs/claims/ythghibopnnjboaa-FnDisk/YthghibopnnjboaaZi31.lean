/- The model's DiskRun, walked. -/
import Derived.Test.YthghibopnnjboaaZi30
namespace Go.Proofs.Ythghibopnnjboaa
set_option linter.unusedVariables false
set_option linter.unusedSimpArgs false
open Go.RowKit

theorem one5 (a b c d e : Value) (h1 : a.oneCell' = true) (h2 : b.oneCell' = true) (h3 : c.oneCell' = true) (h4 : d.oneCell' = true) (h5 : e.oneCell' = true) : (#[a, b, c, d, e] : Array Value).all (·.oneCell') = true := by simp [h1, h2, h3, h4, h5]
theorem range3 {w : World} {g : Nat} {a b c : Value} {t : TypeId} (h : Blk w g #[a, b, c] t) : w.rangeAt g 0 [a, b, c] := by
  intro j v hj
  rw [Nat.zero_add, h.cell j]
  simpa using hj
/-- What stands in DiskRun of the model behind some operations. -/
structure RunM (w wx : World) (d g : Nat) (vi vc vw va : Value) (m : Nat) (s : DS) (A : List (Int × List Int)) (cs : List Value) (H : List NE) (hs vs : List Value) (q : Nat) : Prop where
  dev : DvM wx w.heap.size d vi vc vw s.F s.C cs s.fu s.off H hs
  out : Blk wx g #[.int .i64 0, va, .slice none 0 0, .slice none 0 0, .int .i64 0] 33
  ans : OwnN wx w.heap.size 55 1 va (A.map neA) vs
  low : Below w.heap.size w wx
  dl : w.heap.size ≤ d
  hq : H.length ≤ q
  rc : Blk wx w.heap.size #[.int .i64 0, .slice none 0 0, .slice none 0 0, .slice none 0 0, .int .i64 0] 33
  gl : w.heap.size < g
set_option maxRecDepth 100000 in
set_option maxHeartbeats 2000000 in
theorem specDR_size (vi vo : Value) (zs : List Int) (P : List DO) (us : List Value) (w : World) (h : Rd .u8 w vi zs) (ho : RdN w 2 vo (P.map neD) us) (hz : zs.length ≤ 1048576) (hsz : szOk zs.length = false) :
    Calls Try.prog 14 #[vi, vo] w fun e w' => ∃ va v2 v3 vs, e = .returned (.agg #[.int .i64 (runD zs P).1, va, v2, v3, .int .i64 (runD zs P).2.2.2.2]) ∧ OwnO w' w.heap.size va v2 v3 (runD zs P) vs ∧ Below w.heap.size w w' := by
  have hR : runD zs P = (7, [], [], [], 0) := by unfold runD; rw [if_neg (by rw [hsz]; decide)]
  rw [hR]
  obtain ⟨oa, oc, rfl⟩ : ∃ a cap, vo = .slice a P.length cap := by obtain ⟨a, cap, e, _⟩ := ho.row; exact ⟨a, cap, by simpa using e⟩
  have hPm : P.length ≤ 9223372036854775807 := by obtain ⟨a, cap, _, _, g1, g2⟩ := ho.row; unfold maxLen at g2; simp at g1; omega
  have K0 := hide (Blk.new w #[.int .i64 0, .slice none 0 0, .slice none 0 0, .slice none 0 0, .int .i64 0] 33)
  have B0 := hide (show Below w.heap.size w (w.alloc (.cells #[.int .i64 0, .slice none 0 0, .slice none 0 0, .slice none 0 0, .int .i64 0] 33)) from (Below.refl _ _).alloc (Nat.le_refl _) _)
  have HR := hide h
  have HZ := hide hsz
  clear h ho hR hsz
  go_enter Try.func14, Try.ntmps14
  go_wp2_with fail
  refine (blocks_any _ zs _ (HR.out.below B0.out) (by omega)).mono ?_
  rintro e w1 ⟨rfl, rfl⟩
  rw [if_neg (by rw [HZ.out]; decide)]
  go_wp2_with (first | (refine wpList_store_row rfl 33 _ _ rfl (w.heap.size) #[.int .i64 7, .slice none 0 0, .slice none 0 0, .slice none 0 0, .int .i64 0] rfl rfl 33 _ K0.out infoO5 rfl (one5 _ _ _ _ _ rfl rfl rfl rfl rfl) ?_) | fail)
  refine bodyPost_ret (v := .agg #[.int .i64 7, .slice none 0 0, .slice none 0 0, .slice none 0 0, .int .i64 0]) ?_ rfl ⟨_, _, _, [], rfl, ⟨OwnN.nil _ _ _ _, World.ownsRow_nil _ _ _ _, World.ownsRow_nil _ _ _ _⟩, below_setRow B0.out (Nat.le_refl _) _⟩
  exact results_cell_row rfl _ _ w.heap.size 33 #[.int .i64 7, .slice none 0 0, .slice none 0 0, .slice none 0 0, .int .i64 0] (0, 0) _ rfl (K0.out.row _) Try.underlying33 rfl infoO5
set_option maxRecDepth 100000 in
set_option maxHeartbeats 2000000 in
theorem specDR_many (vi vo : Value) (zs : List Int) (P : List DO) (us : List Value) (w : World) (h : Rd .u8 w vi zs) (ho : RdN w 2 vo (P.map neD) us) (hz : zs.length ≤ 1048576) (hsz : szOk zs.length = true) (hP : 4000 < P.length) :
    Calls Try.prog 14 #[vi, vo] w fun e w' => ∃ va v2 v3 vs, e = .returned (.agg #[.int .i64 (runD zs P).1, va, v2, v3, .int .i64 (runD zs P).2.2.2.2]) ∧ OwnO w' w.heap.size va v2 v3 (runD zs P) vs ∧ Below w.heap.size w w' := by
  have hR : runD zs P = (23, [], [], [], 0) := by unfold runD; rw [if_pos hsz, if_pos hP]
  rw [hR]
  obtain ⟨oa, oc, rfl⟩ : ∃ a cap, vo = .slice a P.length cap := by obtain ⟨a, cap, e, _⟩ := ho.row; exact ⟨a, cap, by simpa using e⟩
  have hPm : P.length ≤ 9223372036854775807 := by obtain ⟨a, cap, _, _, g1, g2⟩ := ho.row; unfold maxLen at g2; simp at g1; omega
  have K0 := hide (Blk.new w #[.int .i64 0, .slice none 0 0, .slice none 0 0, .slice none 0 0, .int .i64 0] 33)
  have B0 := hide (show Below w.heap.size w (w.alloc (.cells #[.int .i64 0, .slice none 0 0, .slice none 0 0, .slice none 0 0, .int .i64 0] 33)) from (Below.refl _ _).alloc (Nat.le_refl _) _)
  have HR := hide h
  have HZ := hide hsz
  have hq := szOk_iff hsz
  obtain ⟨mm, hmm⟩ : ∃ mm, mm = zs.length / 512 := ⟨_, rfl⟩
  have hm1 : 64 ≤ mm := by omega
  have hm0 : ¬ ((mm : Int) = 0) := by omega
  have HMm := hide hmm
  have hPI : (4000 : Int) < (P.length : Int) := by omega
  clear hq hmm
  clear h ho hR hsz
  go_enter Try.func14, Try.ntmps14
  go_wp2_with fail
  refine (blocks_any _ zs _ (HR.out.below B0.out) (by omega)).mono ?_
  rintro e w1 ⟨rfl, rfl⟩
  rw [if_pos HZ.out, ← HMm.out]
  go_wp2_with (first | (refine wpList_store_row rfl 33 _ _ rfl (w.heap.size) #[.int .i64 23, .slice none 0 0, .slice none 0 0, .slice none 0 0, .int .i64 0] rfl rfl 33 _ K0.out infoO5 rfl (one5 _ _ _ _ _ rfl rfl rfl rfl rfl) ?_) | fail)
  refine bodyPost_ret (v := .agg #[.int .i64 23, .slice none 0 0, .slice none 0 0, .slice none 0 0, .int .i64 0]) ?_ rfl ⟨_, _, _, [], rfl, ⟨OwnN.nil _ _ _ _, World.ownsRow_nil _ _ _ _, World.ownsRow_nil _ _ _ _⟩, below_setRow B0.out (Nat.le_refl _) _⟩
  exact results_cell_row rfl _ _ w.heap.size 33 #[.int .i64 23, .slice none 0 0, .slice none 0 0, .slice none 0 0, .int .i64 0] (0, 0) _ rfl (K0.out.row _) Try.underlying33 rfl infoO5
set_option maxRecDepth 100000 in
set_option maxHeartbeats 8000000 in
theorem specDR_go (vi vo : Value) (zs : List Int) (P : List DO) (us : List Value) (w : World) (h : Rd .u8 w vi zs) (ho : RdN w 2 vo (P.map neD) us) (hz : zs.length ≤ 1048576) (hsz : szOk zs.length = true) (hP : P.length ≤ 4000) (hA : ∀ p ∈ P, p.2.1 < 9223372036854775808) (hbd : ∀ p ∈ P, ∀ z ∈ p.2.2, 0 ≤ z ∧ z < 256) :
    Calls Try.prog 14 #[vi, vo] w fun e w' => ∃ va v2 v3 vs, e = .returned (.agg #[.int .i64 (runD zs P).1, va, v2, v3, .int .i64 (runD zs P).2.2.2.2]) ∧ OwnO w' w.heap.size va v2 v3 (runD zs P) vs ∧ Below w.heap.size w w' := by
  obtain ⟨i0, hi, hz0, hz1, hz2⟩ := info_parts infoA2z
  obtain ⟨m, hm⟩ : ∃ m, m = zs.length / 512 := ⟨_, rfl⟩
  have hR : runD zs P = ((0 : Int), anS m P (newS zs), (stS m P (newS zs)).F, mkW (stS m P (newS zs)).F (stS m P (newS zs)).C, (((stS m P (newS zs)).C.length : Nat) : Int)) := by unfold runD; rw [if_pos hsz, if_neg (by omega), hm]
  rw [hR]
  have hszm := szOk_iff hsz
  rw [← hm] at hszm
  obtain ⟨oa, oc, rfl⟩ : ∃ a cap, vo = .slice a P.length cap := by obtain ⟨a, cap, e, _⟩ := ho.row; exact ⟨a, cap, by simpa using e⟩
  obtain ⟨PL, hPL⟩ : ∃ PL, PL = P.length := ⟨_, rfl⟩
  have HO := hide ho
  rw [← hPL] at hP ⊢
  have HPL := hide hPL
  have K0 := hide (Blk.new w #[.int .i64 0, .slice none 0 0, .slice none 0 0, .slice none 0 0, .int .i64 0] 33)
  have B0 := hide (show Below w.heap.size w (w.alloc (.cells #[.int .i64 0, .slice none 0 0, .slice none 0 0, .slice none 0 0, .int .i64 0] 33)) from (Below.refl _ _).alloc (Nat.le_refl _) _)
  have HR := hide h
  have HZ := hide (And.intro hsz hszm)
  have HAb := hide (And.intro hA hbd)
  have hm0 : ¬ ((m : Int) = 0) := by omega
  have hm1 : 64 ≤ m ∧ m ≤ 2048 := ⟨by omega, by omega⟩
  have hPI : ¬ ((4000 : Int) < (PL : Int)) := by omega
  have HMm := hide hm
  clear h ho hR hsz hszm hPL hA hbd hm
  go_enter Try.func14, Try.ntmps14
  go_wp2_with fail
  refine (blocks_any _ zs _ (HR.out.below B0.out) (by omega)).mono ?_
  rintro e w1 ⟨rfl, rfl⟩
  rw [if_pos HZ.out.1, ← HMm.out]
  go_wp2_with fail
  refine (newM_any _ zs _ (HR.out.below B0.out) hz).mono ?_
  rintro e w1 ⟨d, vi1, rfl, hd1, v1, b1⟩
  have KZ := hide (Blk.new w1 #[.int .i64 0, .slice none 0 0, .slice none 0 0, .slice none 0 0, .int .i64 0] 33)
  have BZ := hide (show Below w1.heap.size w1 (w1.alloc (.cells #[.int .i64 0, .slice none 0 0, .slice none 0 0, .slice none 0 0, .int .i64 0] 33)) from (Below.refl _ _).alloc (Nat.le_refl _) _)
  have hsa : (w.alloc (.cells #[.int .i64 0, .slice none 0 0, .slice none 0 0, .slice none 0 0, .int .i64 0] 33)).heap.size = w.heap.size + 1 := by simp
  have hb1s := b1.size
  obtain ⟨g, hg⟩ : ∃ g, g = w1.heap.size := ⟨_, rfl⟩
  have M0 := hide (show RunM w (w1.alloc (.cells #[.int .i64 0, .slice none 0 0, .slice none 0 0, .slice none 0 0, .int .i64 0] 33)) d g vi1 (.slice none 0 0) (.slice none 0 0) (.slice none 0 0) m (newS zs) (anS m [] (newS zs)) [] [] [] [] 0 from by
    rw [hsa] at v1
    have v2 : DvM w1 w.heap.size d vi1 (.slice none 0 0) (.slice none 0 0) zs [] [] (-1) false [] [] := ⟨v1.blk, own_mono v1.img (by omega), OwnN.nil _ _ _ _, OwnN.nil _ _ _ _, v1.ok, v1.n1, v1.n2⟩
    have b01 : Below w.heap.size w w1 := B0.out.trans (b1.mono (by omega))
    exact ⟨v2.below BZ.out, by rw [hg]; exact KZ.out, OwnN.nil _ _ _ _, b01.trans (BZ.out.mono b01.size), by omega, Nat.le_refl _, (K0.out.below b1 K0.out.lt).below BZ.out (K0.out.below b1 K0.out.lt).lt, by rw [hg]; omega⟩)
  clear v1 b1 hd1 hsa hb1s
  go_upto_region 7 with fail
  rw [← hg]
  obtain ⟨wS, hwS⟩ : ∃ wS, wS = w1.alloc (.cells #[.int .i64 0, .slice none 0 0, .slice none 0 0, .slice none 0 0, .int .i64 0] 33) := ⟨_, rfl⟩
  rw [← hwS] at M0
  have HwS := hide hwS
  clear hwS KZ BZ K0 B0 hg
  rw [← HwS.out]
  go_wp2
  go_loopw [22] (fun iv wx => ∃ (i : Nat) (s : DS) (vi vc vw : Value) (aa : Option Addr) (ac : Nat) (cs : List Value) (H : List NE) (hs vs : List Value), i ≤ PL ∧ iv = .int .i64 (i : Int) ∧ s = stS m (P.take i) (newS zs) ∧ RunM w wx d g vi vc vw (.slice aa i ac) m s (anS m (P.take i) (newS zs)) cs H hs vs i) (fun iv _ => PL - (intOf iv).toNat)
  case atStart => exact ⟨0, newS zs, _, _, _, _, _, _, _, _, _, by omega, rfl, rfl, M0.out⟩
  case round =>
    clear M0
    obtain ⟨i, s, vi1, vc1, vw1, aa, ac, cs, H, hs, vs, hiP, rfl, hst, hM⟩ := hrel
    have HM0 := hide hM
    have Hst := hide hst
    clear hM hst
    by_cases hlt : i < PL
    · obtain ⟨p, hp⟩ : ∃ p, P[i]? = some p := ⟨_, List.getElem?_eq_getElem (by have := HPL.out; omega)⟩
      obtain ⟨k, A, D⟩ := p
      obtain ⟨b, off, u, hoa, hbl, hu, hrd, hrg⟩ := RdN.at (i := i) (l := neD (k, A, D)) (show RdN w 2 (.slice oa (P.map neD).length oc) (P.map neD) us by rw [List.length_map, ← HPL.out]; have := HO.out; rw [← HPL.out] at this; exact this) (by rw [List.getElem?_map, hp]; rfl)
      subst hoa
      obtain ⟨da, dc, rfl⟩ : ∃ da dc, u = .slice da D.length dc := by obtain ⟨a, c, e, _⟩ := hrd; exact ⟨a, c, e⟩
      obtain ⟨DL, hDL⟩ : ∃ DL, DL = D.length := ⟨_, rfl⟩
      have hiI : (i : Int) < (PL : Int) := by omega
      have HPk := hide (show P.take (i + 1) = P.take i ++ [(k, A, D)] by rw [List.take_add_one, hp]; rfl)
      have HDd := hide (And.intro (show Rd .u8 w (.slice da DL dc) D by rw [hDL]; exact hrd) (HAb.out.2 _ (List.mem_of_getElem? hp)))
      have HRg := hide (show wr.rangeAt b (off + i * 3) [.int .i64 k, .int .i64 A, .slice da DL dc] from fun j v hj => by
        rw [hDL] at hj
        exact (HM0.out.low.cell (p := ⟨b, off + i * 3 + j, none⟩) hbl).trans (hrg j v hj))
      have hOk := stS_ok (newS_ok zs) HZ.out.2.1 (P.take i) (fun o ho => HAb.out.1 o (List.mem_of_mem_take ho))
      rw [← Hst.out] at hOk
      have HOk := hide (show s.F.length = m * 512 ∧ s.C.length ≤ 16000 ∧ s.fu < 9223372036854775808 from ⟨hOk.len.trans HZ.out.2.1, by have := hOk.cl; rw [List.length_take] at this; omega, hOk.fu⟩)
      obtain ⟨g8, hg8⟩ : ∃ g8, g8 = wr.heap.size := ⟨_, rfl⟩
      have hbw := HM0.out.low.size
      obtain ⟨wd, hwd⟩ : ∃ wd, wd = World.drew (wr.alloc (.cells #[.int .i64 k, .int .i64 A, .slice da DL dc] 30)) := ⟨_, rfl⟩
      have bwd : Below wr.heap.size wr wd := by rw [hwd]; exact ((Below.refl _ _).alloc (Nat.le_refl _) _).drew
      have HM := hide (show RunM w wd d g vi1 vc1 vw1 (.slice aa i ac) m s (anS m (P.take i) (newS zs)) cs H hs vs i from ⟨HM0.out.dev.below bwd, HM0.out.out.below bwd HM0.out.out.lt, HM0.out.ans.below bwd, HM0.out.low.trans (bwd.mono hbw), HM0.out.dl, HM0.out.hq, HM0.out.rc.below bwd HM0.out.rc.lt, HM0.out.gl⟩)
      have S0 := hide (show wd.cell? ⟨g, 1, none⟩ = some (.slice aa i ac) ∧ Blk wd g8 #[.int .i64 k, .int .i64 A, .slice da DL dc] 30 from ⟨(HM.out.out.cell 1).trans rfl, by rw [hwd, hg8]; exact Blk.new wr _ _⟩)
      have HWd := hide hwd
      have Hg8 := hide hg8
      clear hrd hrg hu hp hDL hOk hwd bwd hg8
      go_upto_region 10 with (first | (refine wpList_load_mid rfl 30 _ rfl b (off + i * 3) rfl [.int .i64 k, .int .i64 A, .slice da DL dc] _ HRg.out Try.underlying30 rfl infoD3 ?_) | fail)
      rw [← Hg8.out]
      clear HRg HM0
      refine wp_region_noPanic ?_
      refine wp_region_heldL (fun w' => w'.cell? ⟨g, 1, none⟩ = some (.slice aa i ac) ∧ Blk w' g8 #[.int .i64 k, .int .i64 A, .slice da DL dc] 30) 8 (by kernel_rfl) ?_
      rw [← HWd.out]
      refine wpAnyL_take (i := 0) (oi := _) (v := .pointer (some ⟨g, 1, none⟩)) rfl (by kernel_rfl) (by kernel_rfl) (by kernel_rfl) (by kernel_rfl) (fun _ _ _ h => h) (Or.inl ⟨by rfl, fun w' hw' => by go_simp⟩) S0.out ?_
      try simp only [Act.put, List.getElem_toArray, List.getElem_cons_zero, List.getElem_cons_succ, List.setIfInBounds_toArray, List.set_cons_zero, List.set_cons_succ]
      refine wpAnyL_take (i := 1) (oi := _) (v := .slice aa i ac) rfl (by kernel_rfl) (by kernel_rfl) (by kernel_rfl) (by kernel_rfl) (fun _ _ _ h => h) (Or.inl ⟨by rfl, fun w' hw' => by have hw2 : w'.cell? ⟨g, 1, none⟩ = some (.slice aa i ac) := hw'.1; go_simp⟩) S0.out ?_
      try simp only [Act.put, List.getElem_toArray, List.getElem_cons_zero, List.getElem_cons_succ, List.setIfInBounds_toArray, List.set_cons_zero, List.set_cons_succ]
      refine wpAnyL_take (i := 2) (oi := _) (v := .pointer (some ⟨d, 0, none⟩)) rfl (by kernel_rfl) (by kernel_rfl) (by kernel_rfl) (by kernel_rfl) (fun _ _ _ h => h) (Or.inl ⟨by rfl, fun w' hw' => by go_simp⟩) S0.out ?_
      try simp only [Act.put, List.getElem_toArray, List.getElem_cons_zero, List.getElem_cons_succ, List.setIfInBounds_toArray, List.set_cons_zero, List.set_cons_succ]
      refine wpAnyL_take (i := 3) (oi := _) (v := .agg #[.int .i64 k, .int .i64 A, .slice da DL dc]) rfl (by kernel_rfl) (by kernel_rfl) (by kernel_rfl) (by kernel_rfl) (fun _ _ _ h => h) (yieldsIf_load_mid (by rfl) 30 _ rfl g8 0 rfl [.int .i64 k, .int .i64 A, .slice da DL dc] _ (fun w' h => range3 h.2) Try.underlying30 rfl infoD3) S0.out ?_
      try simp only [Act.put, List.getElem_toArray, List.getElem_cons_zero, List.getElem_cons_succ, List.setIfInBounds_toArray, List.set_cons_zero, List.set_cons_succ]
      refine wpAnyL_one (i := 4) (by kernel_rfl) rfl (fun K hK => ?_)
      go_simp
      refine (doM_any HM.out.dev HM.out.dl m HOk.out.1 (by have := HOk.out.2.1; omega) HOk.out.2.2 k A _ D w HDd.out.1 HM.out.low (Nat.le_refl _) HDd.out.2 (i + 1) (by have := HM.out.hq; omega) (by omega)).mono ?_
      rintro e w1 ⟨vi1, vc1, vw1, cs1, H1, hs1, va1, rfl, v1, o1, l1, y1, q1⟩
      obtain ⟨ra, rc, rfl⟩ := shape_rowK o1
      obtain ⟨RR, hRR⟩ : ∃ RR, RR = doS m k A D s := ⟨_, rfl⟩
      rw [← hRR] at v1 o1
      rw [← hRR]
      obtain ⟨s1, c1, D1⟩ := RR
      have HRR := hide hRR
      clear hRR
      simp only at v1 o1
      simp only
      obtain ⟨RL, hRL⟩ : ∃ RL, RL = D1.length := ⟨_, rfl⟩
      rw [← hRL] at o1
      rw [← hRL]
      have HRL := hide hRL
      clear hRL
      have M1 := hide (show Blk w1 g #[.int .i64 0, .slice aa i ac, .slice none 0 0, .slice none 0 0, .int .i64 0] 33 ∧ OwnN w1 w.heap.size 55 1 (.slice aa i ac) ((anS m (P.take i) (newS zs)).map neA) vs ∧ Blk w1 w.heap.size #[.int .i64 0, .slice none 0 0, .slice none 0 0, .slice none 0 0, .int .i64 0] 33 from ⟨y1.blk HM.out.out (by unfold TyM; decide), y1.ownN HM.out.ans (by unfold TyM; decide) (by unfold TyM; decide), y1.blk HM.out.rc (by unfold TyM; decide)⟩)
      have S1 := hide (And.intro ((M1.out.1.cell 1).trans (show _ = some (.slice aa i ac) from rfl)) (y1.blk S0.out.2 (by unfold TyM; decide)))
      have O1 := hide (And.intro v1 (And.intro o1 (And.intro l1 q1)))
      clear v1 o1 l1 y1 q1
      refine hK.out _ _ (fun _ => S1.out) ?_
      clear hK K
      try simp only [Act.put, List.getElem_toArray, List.getElem_cons_zero, List.getElem_cons_succ, List.setIfInBounds_toArray, List.set_cons_zero, List.set_cons_succ]
      refine wpAnyL_one (i := 5) (by kernel_rfl) rfl (fun K hK => ?_)
      go_simp
      have B2 := hide (show Below w1.heap.size w1 (w1.alloc (.cells #[.int .i64 c1, .slice ra RL rc] 55)) from (Below.refl _ _).alloc (Nat.le_refl _) _)
      have S2 := hide (And.intro (((M1.out.1.alloc (.cells #[.int .i64 c1, .slice ra RL rc] 55)).cell 1).trans (show _ = some (.slice aa i ac) from rfl)) (S1.out.2.alloc (.cells #[.int .i64 c1, .slice ra RL rc] 55)))
      have R2 := hide (M1.out.2.1.below B2.out).row
      rw [List.length_map, anS_len, List.length_take, Nat.min_eq_left (by have := HPL.out; omega)] at R2
      refine hK.out _ _ (fun _ => S2.out) ?_
      clear hK K
      try simp only [Act.put, List.getElem_toArray, List.getElem_cons_zero, List.getElem_cons_succ, List.setIfInBounds_toArray, List.set_cons_zero, List.set_cons_succ]
      have hsz1 := O1.out.2.2.1.size
      refine wpAnyL_one (i := 6) (by kernel_rfl) rfl (fun K hK => ?_)
      rw [if_pos (by rfl)]
      refine wp_append_own _ (.tmp 27) (.tmp 31) 31 rfl w.heap.size 55 i0 (.agg #[.int .i64 0, .slice none 0 0]) 2 32 Try.underlying31 hi hz0 hz1 hz2 rfl (by decide) (.slice aa i ac) i _ rfl R2.out ⟨w1.heap.size, 0, none⟩ 1 1 [.int .i64 c1, .slice ra RL rc] rfl rfl (cells_newK w1 #[.int .i64 c1, .slice ra RL rc] 55) (by intro y hy; simp at hy; rcases hy with rfl | rfl <;> rfl) (by unfold maxLen; omega) (by omega) (by simp; have := HM.out.low.size; omega) ?_
      intro v4 w4 o4 g4 _
      obtain ⟨va4, vc4, rfl⟩ := shape_rowK o4
      have Y4 := hide (show KpY (fun t => t = 55) (w1.alloc (.cells #[.int .i64 c1, .slice ra RL rc] 55)) w4 from (KpY.refl _ _).ownrow R2.out rfl g4)
      have A4 := hide (show OwnN w4 w.heap.size 55 1 (.slice va4 (i + 1) vc4) ((anS m (P.take (i + 1)) (newS zs)).map neA) (vs ++ [.slice ra RL rc]) from by
        rw [HPk.out, anS_snoc, List.map_append, ← Hst.out]
        show OwnN _ _ _ _ _ (_ ++ [neA ((doS m k A D s).2)]) _
        rw [← HRR.out]
        exact (M1.out.2.1.below B2.out).push (by decide) (neA (c1, D1)) (.slice ra RL rc) rfl (by show World.ownsRow _ _ _ _ _ D1.length _; rw [← HRL.out]; exact own_below (own_mono O1.out.2.1 (Nat.le_trans HM.out.low.size (Nat.le_refl _))) B2.out) (fun j x b hx hb e => by have h1 := (O1.out.2.1.lt b e).1; have h2 := (HM.out.ans.ltK hx hb).2; omega) (by rw [List.length_map, anS_len, List.length_take, Nat.min_eq_left (by have := HPL.out; omega)]; exact o4) g4)
      have L4 := hide (show Below w.heap.size w w4 from ((HM.out.low.trans O1.out.2.2.1).trans (B2.out.mono (Nat.le_trans HM.out.low.size hsz1))).grown g4 (by simp; have := HM.out.low.size; omega) (fun r e => (R2.out.lt r e).1))
      have K4 := hide (Y4.out.blk (M1.out.1.alloc _) (by decide))
      have G4 := hide (Y4.out.blk (M1.out.2.2.alloc _) (by decide))
      have V4 := hide ((O1.out.1.below B2.out).kpy Y4.out (by decide) (by decide) (by decide) (by decide))
      have S4 := hide (And.intro ((K4.out.cell 1).trans (show _ = some (.slice aa i ac) from rfl)) (Y4.out.blk S2.out.2 (by decide)))
      have f4 := K4.out.frozen 1
      have y4 : w4.cell? ⟨g, 1, none⟩ = some (.slice aa i ac) := S4.out.1
      clear o4 g4
      refine hK.out _ _ (fun _ => S4.out) ?_
      clear hK K
      try simp only [Act.put, List.getElem_toArray, List.getElem_cons_zero, List.getElem_cons_succ, List.setIfInBounds_toArray, List.set_cons_zero, List.set_cons_succ]
      refine wpAnyL_take (i := 7) (oi := _) (v := .pointer (some ⟨g, 1, none⟩)) rfl (by kernel_rfl) (by kernel_rfl) (by kernel_rfl) (by kernel_rfl) (fun _ _ _ h => h) (Or.inl ⟨by rfl, fun w' hw' => by go_simp⟩) S4.out ?_
      try simp only [Act.put, List.getElem_toArray, List.getElem_cons_zero, List.getElem_cons_succ, List.setIfInBounds_toArray, List.set_cons_zero, List.set_cons_succ]
      refine wpAnyL_one (i := 8) (by kernel_rfl) rfl (fun K hK => ?_)
      go_simp
      refine hK.out _ _ (fun h => absurd rfl h) ?_
      clear hK K y4 f4
      try simp only [Act.put, List.getElem_toArray, List.getElem_cons_zero, List.getElem_cons_succ, List.setIfInBounds_toArray, List.set_cons_zero, List.set_cons_succ]
      refine wpAnyL_done (by kernel_rfl) (NoPanic.normal ?_) _
      have KS := hide (show KpY (fun t => t = 33) w4 (w4.setCell ⟨g, 1, none⟩ (.slice va4 (i + 1) vc4)) from (KpY.refl _ _).setCell K4.out rfl)
      have Z4 := hide (show RunM w (w4.setCell ⟨g, 1, none⟩ (.slice va4 (i + 1) vc4)) d g vi1 vc1 vw1 (.slice va4 (i + 1) vc4) m s1 (anS m (P.take (i + 1)) (newS zs)) cs1 H1 hs1 (vs ++ [.slice ra RL rc]) (i + 1) from ⟨V4.out.kpy KS.out (by decide) (by decide) (by decide) (by decide), K4.out.set 1 _, KS.out.ownN A4.out (by decide) (by decide), L4.out.setCell (p := ⟨g, 1, none⟩) (Nat.le_of_lt HM.out.gl) _, HM.out.dl, O1.out.2.2.2, G4.out.other _ _ (by show w.heap.size ≠ g; have := HM.out.gl; omega), HM.out.gl⟩)
      have Hs1 := hide (show s1 = stS m (P.take (i + 1)) (newS zs) from by rw [HPk.out, stS_snoc, ← Hst.out, ← HRR.out])
      clear V4 K4 G4 A4 L4 S4 S0 S1 S2 O1 M1 B2 R2 HM Y4 KS HRR HRL Hst HPk HOk HDd HWd
      go_wp2
      go_roundw
      case rel => exact ⟨i + 1, s1, vi1, vc1, vw1, va4, vc4, cs1, H1, hs1, _, by omega, by go_num, Hs1.out, Z4.out⟩
      case measure => simp [intOf]; omega
    · have hiP2 : i = PL := by omega
      subst hiP2
      have q1 : ¬ ((i : Int) < (i : Int)) := by omega
      have hTk : P.take i = P := List.take_of_length_le (by have := HPL.out; omega)
      rw [hTk] at Hst HM0
      have HM := HM0
      clear HM0 hTk
      have hok := HM.out.dev.ok
      have hml : (mkW s.F s.C).length = s.F.length := mkW_len _ _ hok
      have Hml := hide hml
      clear hok hml
      have hlo := HM.out.low.size
      go_wp2_with fail
      refine (imageM_any HM.out.dev).mono ?_
      rintro e w2 ⟨v2, rfl, o2, b2⟩
      obtain ⟨a2, c2, rfl⟩ := shape_rowK o2
      have k2 := HM.out.out.below b2 HM.out.out.lt
      have y2 := (k2.cell 2).trans (show _ = some (.slice none 0 0) from rfl)
      have f2 := k2.frozen 2
      obtain ⟨w3, hw3⟩ : ∃ w3, w3 = w2.setCell ⟨g, 2, none⟩ (.slice a2 s.F.length c2) := ⟨_, rfl⟩
      have kp3 : KpY (fun t => t = 33) w2 w3 := by rw [hw3]; exact (KpY.refl _ _).setCell k2 rfl
      have E3 := hide (show DvM w3 w.heap.size d vi1 vc1 vw1 s.F s.C cs s.fu s.off H hs ∧ OwnN w3 w.heap.size 55 1 (.slice aa i ac) ((anS m P (newS zs)).map neA) vs ∧ w3.ownsRow w.heap.size 5 1 (.slice a2 s.F.length c2) s.F.length (s.F.map (Value.int .u8)) ∧ Below w.heap.size w w3 ∧ Blk w3 g #[.int .i64 0, .slice aa i ac, .slice a2 s.F.length c2, .slice none 0 0, .int .i64 0] 33 ∧ Blk w3 w.heap.size #[.int .i64 0, .slice none 0 0, .slice none 0 0, .slice none 0 0, .int .i64 0] 33 from
        ⟨(HM.out.dev.below b2).kpy kp3 (by decide) (by decide) (by decide) (by decide), kp3.ownN (HM.out.ans.below b2) (by decide) (by decide), kp3.own (own_mono o2 hlo) (by decide), by rw [hw3]; exact (HM.out.low.trans (b2.mono hlo)).setCell (p := ⟨g, 2, none⟩) (Nat.le_of_lt HM.out.gl) _, by rw [hw3]; exact k2.set 2 _, by rw [hw3]; exact (HM.out.rc.below b2 HM.out.rc.lt).other _ _ (by show w.heap.size ≠ g; have := HM.out.gl; omega)⟩)
      have HW3 := hide hw3
      clear o2 b2 k2 kp3 hw3
      go_upto_region 13 with fail
      rw [← HW3.out]
      clear y2 f2 HW3
      have hl3 := E3.out.2.2.2.1.size
      go_wp2_with fail
      refine (seenM_any E3.out.1).mono ?_
      rintro e w4 ⟨v4, rfl, o4, b4⟩
      obtain ⟨a4, c4, rfl⟩ := shape_rowK o4
      have k4 := E3.out.2.2.2.2.1.below b4 E3.out.2.2.2.2.1.lt
      have y4 := (k4.cell 3).trans (show _ = some (.slice none 0 0) from rfl)
      have f4 := k4.frozen 3
      obtain ⟨w5, hw5⟩ : ∃ w5, w5 = w4.setCell ⟨g, 3, none⟩ (.slice a4 s.F.length c4) := ⟨_, rfl⟩
      have kp5 : KpY (fun t => t = 33) w4 w5 := by rw [hw5]; exact (KpY.refl _ _).setCell k4 rfl
      have E5 := hide (show DvM w5 w.heap.size d vi1 vc1 vw1 s.F s.C cs s.fu s.off H hs ∧ OwnN w5 w.heap.size 55 1 (.slice aa i ac) ((anS m P (newS zs)).map neA) vs ∧ w5.ownsRow w.heap.size 5 1 (.slice a2 s.F.length c2) s.F.length (s.F.map (Value.int .u8)) ∧ Below w.heap.size w w5 ∧ Blk w5 g #[.int .i64 0, .slice aa i ac, .slice a2 s.F.length c2, .slice a4 s.F.length c4, .int .i64 0] 33 ∧ Blk w5 w.heap.size #[.int .i64 0, .slice none 0 0, .slice none 0 0, .slice none 0 0, .int .i64 0] 33 ∧ w5.ownsRow w.heap.size 5 1 (.slice a4 s.F.length c4) s.F.length ((mkW s.F s.C).map (Value.int .u8)) from
        ⟨(E3.out.1.below b4).kpy kp5 (by decide) (by decide) (by decide) (by decide), kp5.ownN (E3.out.2.1.below b4) (by decide) (by decide), kp5.own (own_below E3.out.2.2.1 b4) (by decide), by rw [hw5]; exact (E3.out.2.2.2.1.trans (b4.mono hl3)).setCell (p := ⟨g, 3, none⟩) (Nat.le_of_lt HM.out.gl) _, by rw [hw5]; exact k4.set 3 _, by rw [hw5]; exact (E3.out.2.2.2.2.2.below b4 E3.out.2.2.2.2.2.lt).other _ _ (by show w.heap.size ≠ g; have := HM.out.gl; omega), kp5.own (own_mono o4 hl3) (by decide)⟩)
      have HW5 := hide hw5
      clear o4 b4 k4 kp5 hw5
      go_upto_region 14 with fail
      rw [← HW5.out]
      clear y4 f4 HW5 E3 hl3
      go_wp2_with fail
      refine (cachedM_any E5.out.1).mono ?_
      rintro e w6 ⟨rfl, rfl⟩
      obtain ⟨CL, hCL⟩ : ∃ CL, CL = s.C.length := ⟨_, rfl⟩
      rw [← hCL]
      have HCL := hide hCL
      clear hCL
      have y6 := (E5.out.2.2.2.2.1.cell 4).trans (show _ = some (.int .i64 0) from rfl)
      have f6 := E5.out.2.2.2.2.1.frozen 4
      have K7 := hide (show Blk (w6.setCell ⟨g, 4, none⟩ (.int .i64 (CL : Int))) g #[.int .i64 0, .slice aa i ac, .slice a2 s.F.length c2, .slice a4 s.F.length c4, .int .i64 (CL : Int)] 33 ∧ Blk (w6.setCell ⟨g, 4, none⟩ (.int .i64 (CL : Int))) w.heap.size #[.int .i64 0, .slice none 0 0, .slice none 0 0, .slice none 0 0, .int .i64 0] 33 from ⟨E5.out.2.2.2.2.1.set 4 _, E5.out.2.2.2.2.2.1.other _ _ (by show w.heap.size ≠ g; have := HM.out.gl; omega)⟩)
      have kp7 : KpY (fun t => t = 33) w6 ((w6.setCell ⟨g, 4, none⟩ (.int .i64 (CL : Int))).setRow w.heap.size #[.int .i64 0, .slice aa i ac, .slice a2 s.F.length c2, .slice a4 s.F.length c4, .int .i64 (CL : Int)]) := ((KpY.refl (fun t => t = 33) w6).setCell E5.out.2.2.2.2.1 (by rfl)).setRow K7.out.2 (by rfl)
      have E7 := hide (show OwnO ((w6.setCell ⟨g, 4, none⟩ (.int .i64 (CL : Int))).setRow w.heap.size #[.int .i64 0, .slice aa i ac, .slice a2 s.F.length c2, .slice a4 s.F.length c4, .int .i64 (CL : Int)]) w.heap.size (.slice aa i ac) (.slice a2 s.F.length c2) (.slice a4 s.F.length c4) (0, anS m P (newS zs), s.F, mkW s.F s.C, (CL : Int)) vs ∧ Below w.heap.size w ((w6.setCell ⟨g, 4, none⟩ (.int .i64 (CL : Int))).setRow w.heap.size #[.int .i64 0, .slice aa i ac, .slice a2 s.F.length c2, .slice a4 s.F.length c4, .int .i64 (CL : Int)]) from
        ⟨⟨kp7.ownN E5.out.2.1 (by decide) (by decide), kp7.own E5.out.2.2.1 (by decide), by show World.ownsRow _ _ _ _ _ (mkW s.F s.C).length _; rw [Hml.out]; exact kp7.own E5.out.2.2.2.2.2.2 (by decide)⟩, below_setRow (E5.out.2.2.2.1.setCell (p := ⟨g, 4, none⟩) (Nat.le_of_lt HM.out.gl) _) (Nat.le_refl _) _⟩)
      clear kp7 E5
      go_wp2_with (first | (refine wpList_load_row rfl 33 _ rfl g rfl 33 #[.int .i64 0, .slice aa i ac, .slice a2 s.F.length c2, .slice a4 s.F.length c4, .int .i64 (CL : Int)] (0, 0) _ K7.out.1 Try.underlying33 rfl infoO5 ?_) | (refine wpList_store_row rfl 33 _ _ rfl w.heap.size #[.int .i64 0, .slice aa i ac, .slice a2 s.F.length c2, .slice a4 s.F.length c4, .int .i64 (CL : Int)] rfl rfl 33 _ K7.out.2 infoO5 rfl (one5 _ _ _ _ _ rfl rfl rfl rfl rfl) ?_) | fail)
      refine bodyPost_ret (v := .agg #[.int .i64 0, .slice aa i ac, .slice a2 s.F.length c2, .slice a4 s.F.length c4, .int .i64 (CL : Int)]) ?_ rfl ?_
      · exact results_cell_row rfl _ _ w.heap.size 33 #[.int .i64 0, .slice aa i ac, .slice a2 s.F.length c2, .slice a4 s.F.length c4, .int .i64 (CL : Int)] (0, 0) _ rfl (K7.out.2.row _) Try.underlying33 rfl infoO5
      · rw [← Hst.out, ← HCL.out]
        exact ⟨_, _, _, vs, rfl, E7.out.1, E7.out.2⟩
theorem specDR_any (vi vo : Value) (zs : List Int) (P : List DO) (us : List Value) (w : World) (h : Rd .u8 w vi zs) (ho : RdN w 2 vo (P.map neD) us) (hz : zs.length ≤ 1048576) (hA : ∀ p ∈ P, p.2.1 < 9223372036854775808) (hbd : ∀ p ∈ P, ∀ z ∈ p.2.2, 0 ≤ z ∧ z < 256) :
    Calls Try.prog 14 #[vi, vo] w fun e w' => ∃ va v2 v3 vs, e = .returned (.agg #[.int .i64 (runD zs P).1, va, v2, v3, .int .i64 (runD zs P).2.2.2.2]) ∧ OwnO w' w.heap.size va v2 v3 (runD zs P) vs ∧ Below w.heap.size w w' := by
  cases hsz : szOk zs.length with
  | false => exact specDR_size vi vo zs P us w h ho hz hsz
  | true =>
    by_cases hP : 4000 < P.length
    · exact specDR_many vi vo zs P us w h ho hz hsz hP
    · exact specDR_go vi vo zs P us w h ho hz hsz (by omega) hA hbd
end Go.Proofs.Ythghibopnnjboaa
