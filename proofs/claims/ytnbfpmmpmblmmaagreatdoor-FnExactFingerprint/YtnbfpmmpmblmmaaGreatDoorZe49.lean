/- The model's l09Inode, l14Head and l14Print. -/
import Derived.Test.YtnbfpmmpmblmmaaGreatDoorZe48
namespace Go.Proofs.YtnbfpmmpmblmmaaGreatDoor
set_option linter.unusedVariables false
set_option linter.unusedSimpArgs false
open Go.RowKit

set_option maxRecDepth 100000 in
set_option maxHeartbeats 4000000 in
theorem l09Inode_any (x : Nd) (a : Option Addr) (n c : Nat) (s : Int) (w : World) :
    Calls Tryz.prog 41 #[.agg #[.int .i64 x.k, .int .i64 x.l, .int .i64 x.m, .int .i64 x.u, .int .i64 x.g, .int .i64 x.p, .int .i64 x.e, .int .i64 x.t, .int .i64 x.c, .slice a n c], .agg #[.int .i64 s, .int .i64 0, .int .i64 0, .int .i64 0, .int .i64 0, .int .i64 0, .int .i64 0, .int .i64 0, .int .i64 0, .int .i64 0, .int .i64 0, .int .i64 0, .int .i64 0, .int .i64 0, .int .i64 0]] w fun e w' => e = .returned (.agg (cellsI (inoN x s))) ∧ Below w.heap.size w w' := by
  obtain ⟨W3, hW3⟩ : ∃ W3, W3 = ((w.alloc (.cells #[.int .i64 x.k, .int .i64 x.l, .int .i64 x.m, .int .i64 x.u, .int .i64 x.g, .int .i64 x.p, .int .i64 x.e, .int .i64 x.t, .int .i64 x.c, .slice a n c] 53)).alloc (.cells #[.int .i64 s, .int .i64 0, .int .i64 0, .int .i64 0, .int .i64 0, .int .i64 0, .int .i64 0, .int .i64 0, .int .i64 0, .int .i64 0, .int .i64 0, .int .i64 0, .int .i64 0, .int .i64 0, .int .i64 0] 81)).alloc (.cells #[.int .i64 0, .int .i64 0, .int .i64 0, .int .i64 0, .int .i64 0, .int .i64 0, .int .i64 0, .int .i64 0, .int .i64 0, .int .i64 0, .int .i64 0, .int .i64 0, .int .i64 0, .int .i64 0, .int .i64 0, .int .i64 0, .int .i64 0, .int .i64 0, .int .i64 0, .int .i64 0, .int .i64 0, .int .i64 0, .int .i64 0, .int .i64 0] 83) := ⟨_, rfl⟩
  have HB := hide (show Below w.heap.size w W3 from by rw [hW3]; exact (((Below.refl _ _).alloc (Nat.le_refl _) _).alloc (by simp) _).alloc (by simp; omega) _)
  have k1 : Blk W3 w.heap.size #[.int .i64 x.k, .int .i64 x.l, .int .i64 x.m, .int .i64 x.u, .int .i64 x.g, .int .i64 x.p, .int .i64 x.e, .int .i64 x.t, .int .i64 x.c, .slice a n c] 53 := by rw [hW3]; exact ((Blk.new w #[.int .i64 x.k, .int .i64 x.l, .int .i64 x.m, .int .i64 x.u, .int .i64 x.g, .int .i64 x.p, .int .i64 x.e, .int .i64 x.t, .int .i64 x.c, .slice a n c] 53).alloc _).alloc _
  have k2 : Blk W3 (w.heap.size + 1) #[.int .i64 s, .int .i64 0, .int .i64 0, .int .i64 0, .int .i64 0, .int .i64 0, .int .i64 0, .int .i64 0, .int .i64 0, .int .i64 0, .int .i64 0, .int .i64 0, .int .i64 0, .int .i64 0, .int .i64 0] 81 := by rw [hW3]; simpa using ((Blk.new (w.alloc (.cells #[.int .i64 x.k, .int .i64 x.l, .int .i64 x.m, .int .i64 x.u, .int .i64 x.g, .int .i64 x.p, .int .i64 x.e, .int .i64 x.t, .int .i64 x.c, .slice a n c] 53)) #[.int .i64 s, .int .i64 0, .int .i64 0, .int .i64 0, .int .i64 0, .int .i64 0, .int .i64 0, .int .i64 0, .int .i64 0, .int .i64 0, .int .i64 0, .int .i64 0, .int .i64 0, .int .i64 0, .int .i64 0] 81).alloc _)
  have k3 : Blk W3 (w.heap.size + 2) #[.int .i64 0, .int .i64 0, .int .i64 0, .int .i64 0, .int .i64 0, .int .i64 0, .int .i64 0, .int .i64 0, .int .i64 0, .int .i64 0, .int .i64 0, .int .i64 0, .int .i64 0, .int .i64 0, .int .i64 0, .int .i64 0, .int .i64 0, .int .i64 0, .int .i64 0, .int .i64 0, .int .i64 0, .int .i64 0, .int .i64 0, .int .i64 0] 83 := by rw [hW3]; simpa using (Blk.new ((w.alloc (.cells #[.int .i64 x.k, .int .i64 x.l, .int .i64 x.m, .int .i64 x.u, .int .i64 x.g, .int .i64 x.p, .int .i64 x.e, .int .i64 x.t, .int .i64 x.c, .slice a n c] 53)).alloc (.cells #[.int .i64 s, .int .i64 0, .int .i64 0, .int .i64 0, .int .i64 0, .int .i64 0, .int .i64 0, .int .i64 0, .int .i64 0, .int .i64 0, .int .i64 0, .int .i64 0, .int .i64 0, .int .i64 0, .int .i64 0] 81)) #[.int .i64 0, .int .i64 0, .int .i64 0, .int .i64 0, .int .i64 0, .int .i64 0, .int .i64 0, .int .i64 0, .int .i64 0, .int .i64 0, .int .i64 0, .int .i64 0, .int .i64 0, .int .i64 0, .int .i64 0, .int .i64 0, .int .i64 0, .int .i64 0, .int .i64 0, .int .i64 0, .int .i64 0, .int .i64 0, .int .i64 0, .int .i64 0] 83)
  have HK2 := hide k2
  have HK3 := hide k3
  have HW3 := hide hW3
  obtain ⟨cs, hcs⟩ : ∃ cs, cs = cellsI (inoN x s) := ⟨_, rfl⟩
  have HI := hide (show (Tryz.prog.info? 83).map (·.size) = some cs.size from by rw [hcs, inoN_len]; exact info24)
  have HZ := hide (show cs.size = 24 from by rw [hcs, inoN_len])
  have HC := hide (show cs.all (·.oneCell') = true from by rw [hcs]; exact one24 _)
  have HCS := hide hcs
  rw [← hcs]
  have c0 : W3.cell? ⟨w.heap.size, 0, none⟩ = some (.int .i64 x.k) := (k1.cell 0).trans rfl
  have c1 : W3.cell? ⟨w.heap.size, 1, none⟩ = some (.int .i64 x.l) := (k1.cell 1).trans rfl
  have c2 : W3.cell? ⟨w.heap.size, 2, none⟩ = some (.int .i64 x.m) := (k1.cell 2).trans rfl
  have c3 : W3.cell? ⟨w.heap.size, 3, none⟩ = some (.int .i64 x.u) := (k1.cell 3).trans rfl
  have c4 : W3.cell? ⟨w.heap.size, 4, none⟩ = some (.int .i64 x.g) := (k1.cell 4).trans rfl
  have c5 : W3.cell? ⟨w.heap.size, 5, none⟩ = some (.int .i64 x.p) := (k1.cell 5).trans rfl
  have c6 : W3.cell? ⟨w.heap.size, 6, none⟩ = some (.int .i64 x.e) := (k1.cell 6).trans rfl
  have c7 : W3.cell? ⟨w.heap.size, 7, none⟩ = some (.int .i64 x.t) := (k1.cell 7).trans rfl
  have c8 : W3.cell? ⟨w.heap.size, 8, none⟩ = some (.int .i64 x.c) := (k1.cell 8).trans rfl
  clear hcs k1 k2 k3 hW3
  go_enter Tryz.func41, Tryz.ntmps41
  go_upto_region 1 with fail
  rw [← HW3.out]
  go_wp2_with (first | (refine wpList_load_row rfl 81 _ rfl (w.heap.size + 1) rfl 81 #[.int .i64 s, .int .i64 0, .int .i64 0, .int .i64 0, .int .i64 0, .int .i64 0, .int .i64 0, .int .i64 0, .int .i64 0, .int .i64 0, .int .i64 0, .int .i64 0, .int .i64 0, .int .i64 0, .int .i64 0] (0, 0) _ HK2.out Tryz.underlying81 rfl infoRt ?_) | (refine wpList_store_newF w.heap.size w rfl 83 _ _ rfl (w.heap.size + 2) cs rfl (by rw [HCS.out]; rfl) 83 #[.int .i64 0, .int .i64 0, .int .i64 0, .int .i64 0, .int .i64 0, .int .i64 0, .int .i64 0, .int .i64 0, .int .i64 0, .int .i64 0, .int .i64 0, .int .i64 0, .int .i64 0, .int .i64 0, .int .i64 0, .int .i64 0, .int .i64 0, .int .i64 0, .int .i64 0, .int .i64 0, .int .i64 0, .int .i64 0, .int .i64 0, .int .i64 0] HK3.out HI.out (by rw [HZ.out]; rfl) HC.out HB.out (by omega) ?_; intro w4 k4 b4; have K4 := hide k4; have B4 := hide b4; clear k4 b4) | fail)
  refine bodyPost_ret (v := .agg cs) ?_ rfl ⟨rfl, B4.out⟩
  exact results_cell_row rfl _ _ (w.heap.size + 2) 83 cs (0, 0) _ rfl K4.out Tryz.underlying83 rfl HI.out

set_option maxRecDepth 100000 in
set_option maxHeartbeats 4000000 in
theorem l14Head_any (x : Nd) (a : Option Addr) (n c : Nat) (w : World) (hn : n = x.d.length) (hF : Fld x) (hz : x.k = 0 → x = nd0) :
    Calls Tryz.prog 24 #[.agg #[.int .i64 x.k, .int .i64 x.l, .int .i64 x.m, .int .i64 x.u, .int .i64 x.g, .int .i64 x.p, .int .i64 x.e, .int .i64 x.t, .int .i64 x.c, .slice a n c]] w fun e w' => ∃ v', e = .returned v' ∧ w'.ownsRow w.heap.size 5 1 v' 128 ((headI x).map (Value.int .u8)) ∧ Below w.heap.size w w' := by
  obtain ⟨i0, hi, hz0, hz1, hz2⟩ := info_parts infoU8
  obtain ⟨W1, hW1⟩ : ∃ W1, W1 = w.alloc (.cells #[.int .i64 x.k, .int .i64 x.l, .int .i64 x.m, .int .i64 x.u, .int .i64 x.g, .int .i64 x.p, .int .i64 x.e, .int .i64 x.t, .int .i64 x.c, .slice a n c] 53) := ⟨_, rfl⟩
  have HB := hide (show Below w.heap.size w W1 from by rw [hW1]; exact (Below.refl _ _).alloc (Nat.le_refl _) _)
  have k1 : Blk W1 w.heap.size #[.int .i64 x.k, .int .i64 x.l, .int .i64 x.m, .int .i64 x.u, .int .i64 x.g, .int .i64 x.p, .int .i64 x.e, .int .i64 x.t, .int .i64 x.c, .slice a n c] 53 := by rw [hW1]; exact Blk.new w #[.int .i64 x.k, .int .i64 x.l, .int .i64 x.m, .int .i64 x.u, .int .i64 x.g, .int .i64 x.p, .int .i64 x.e, .int .i64 x.t, .int .i64 x.c, .slice a n c] 53
  have HK := hide k1
  have HW := hide hW1
  have c0 : W1.cell? ⟨w.heap.size, 0, none⟩ = some (.int .i64 x.k) := (k1.cell 0).trans rfl
  have c9 : W1.cell? ⟨w.heap.size, 9, none⟩ = some (.slice a n c) := (k1.cell 9).trans rfl
  have hn2 : n ≤ 262144 := by rw [hn]; exact hF.d
  have HH := hide (And.intro hn (And.intro hF hz))
  clear k1 hW1 hn hF hz
  by_cases hk : x.k = 0
  · have hx := HH.out.2.2 hk
    have HX := hide hx
    have hkb : (x.k == 0) = true := by simp [hk]
    clear hx hk
    go_enter Tryz.func24, Tryz.ntmps24
    go_upto_region 1 with fail
    rw [← HW.out]
    go_wp2_with (first | (refine wpList_make_full _ rfl _ _ 48 rfl w.heap.size 5 i0 (.int .u8 0) 1 Tryz.underlying48 hi hz0 hz1 .i64 .i64 128 128 128 rfl rfl rfl rfl (by rw [hz2]; omega) (by unfold maxLen; omega) HB.out.size ?_; intro w2 hown hgrow; rw [made_one _ _ rfl] at hown) | fail)
    have O2 := hide (And.intro hown (HB.out.grown hgrow HB.out.size (fun k h => by cases h)))
    clear hown hgrow
    go_wp2
    go_ret
    refine ⟨_, rfl, ?_, O2.out.2⟩
    rw [HX.out, headI_zero]
    simpa using O2.out.1
  · have hkb : (x.k == 0) = false := by simp [hk]
    have HBY := hide (bytN_any x HH.out.2.1)
    clear hk
    go_enter Tryz.func24, Tryz.ntmps24
    go_upto_region 1 with fail
    rw [← HW.out]
    go_wp2_with (first | (refine wpList_load_row rfl 53 _ rfl w.heap.size rfl 53 #[.int .i64 x.k, .int .i64 x.l, .int .i64 x.m, .int .i64 x.u, .int .i64 x.g, .int .i64 x.p, .int .i64 x.e, .int .i64 x.t, .int .i64 x.c, .slice a n c] (0, 0) _ HK.out Tryz.underlying53 rfl infoN10 ?_) | (go_at_call 41; fail))
    refine (l09Inode_any x a n c (n : Int) W1).mono ?_
    rintro e w2 ⟨rfl, b2⟩
    have B2 := hide (HB.out.trans (b2.mono HB.out.size))
    rw [HH.out.1]
    obtain ⟨cs, hcs⟩ : ∃ cs, cs = cellsI (inoN x (x.d.length : Int)) := ⟨_, rfl⟩
    rw [← hcs] at HBY ⊢
    clear b2 hcs
    go_wp2_with (go_at_call 40; fail)
    refine (HBY.out w2).mono ?_
    rintro e w3 ⟨v3, rfl, o3, b3⟩
    have O3 := hide (And.intro (own_mono o3 B2.out.size) (B2.out.trans (b3.mono B2.out.size)))
    clear o3 b3
    go_wp2
    go_ret
    exact ⟨_, rfl, O3.out.1, O3.out.2⟩

set_option maxRecDepth 100000 in
set_option maxHeartbeats 4000000 in
theorem l14Print_any (C : Int) (v : Value) (L : List Nd) (us : List Value) (w : World) (h : RdN w 9 v (L.map ndE) us) (hR : RightS C L) (hbd : ∀ i, i < L.length → ∀ z ∈ (ndAt L i).d, 0 ≤ z ∧ z < 256) :
    Calls Tryz.prog 11 #[.agg #[.int .i64 C, v]] w fun e w' => e = .returned (.int .u32 (Crc.crc (prI L))) ∧ Below w.heap.size w w' := by
  obtain ⟨i0, hi0, hz0, hz1, hz2⟩ := info_parts infoU8
  obtain ⟨a, cap, rfl⟩ : ∃ a cap, v = .slice a L.length cap := by obtain ⟨a, cap, e, _⟩ := h.row; exact ⟨a, cap, by simpa using e⟩
  obtain ⟨N, hN⟩ : ∃ N, N = L.length := ⟨_, rfl⟩
  have HN := hide hN
  have hL : N ≤ 1001 := by rw [hN]; exact hR.len.2
  rw [← hN] at h ⊢
  have HRd := hide h
  have HR := hide hR
  have HPB := hide (prI_bd L hbd)
  have HCut := hide (show ∀ k, (prI (L.take k)).length ≤ 2000000 from fun k => by have := prI_cut L k; have := hR.tot; have := hR.len.2; omega)
  obtain ⟨W1, hW1⟩ : ∃ W1, W1 = (w.alloc (.cells #[.int .i64 C, .slice a N cap] 31)).alloc (.cells #[] 5) := ⟨_, rfl⟩
  have HB := hide (show Below w.heap.size w W1 from by rw [hW1]; exact ((Below.refl _ _).alloc (Nat.le_refl _) _).alloc (by simp) _)
  have k1 : Blk W1 w.heap.size #[.int .i64 C, .slice a N cap] 31 := by rw [hW1]; exact (Blk.new w _ _).alloc _
  have c1 : W1.cell? ⟨w.heap.size, 1, none⟩ = some (.slice a N cap) := (k1.cell 1).trans rfl
  have O1 := hide (show W1.ownsRow w.heap.size 5 1 (.slice (some ⟨w.heap.size + 1, 0, none⟩) 0 0) 0 [] from by
    have := own_emptyM (w.alloc (.cells #[.int .i64 C, .slice a N cap] 31)) 5 1
    rw [hW1]
    exact own_mono (by simpa using this) (by omega))
  have HW := hide hW1
  clear h hR hN hbd hW1 k1
  go_enter Tryz.func11, Tryz.ntmps11
  go_upto_region 2 with fail
  rw [← HW.out]
  go_wp2
  go_loopw [3, 10] (fun r i wr => ∃ k : Nat, k ≤ N ∧ i = .int .i64 (k : Int) ∧ Hid (wr.ownsRow w.heap.size 5 1 r (prI (L.take k)).length ((prI (L.take k)).map (Value.int .u8)) ∧ Below w.heap.size w wr)) (fun _ i _ => N - (intOf i).toNat)
  case atStart => exact ⟨0, Nat.zero_le _, rfl, hide ⟨O1.out, HB.out⟩⟩
  case round =>
    clear O1 HB HW c1
    obtain ⟨k, hk, rfl, HO⟩ := hrel
    obtain ⟨ra, rc, rfl⟩ := own_shape HO.out.1
    by_cases hlt : k < N
    · have hkl : k < L.length := by rw [← HN.out]; exact hlt
      have HT := hide (prI_take L k hkl)
      have HF := hide (fld_in HR.out k)
      have hc1 := HCut.out k
      have hc2 := HCut.out (k + 1)
      rw [HT.out, List.length_append, List.length_append, headI_len] at hc2
      obtain ⟨X, hX⟩ : ∃ X, X = prI (L.take k) := ⟨_, rfl⟩
      obtain ⟨q, hq⟩ : ∃ q, q = X.length := ⟨_, rfl⟩
      rw [← hX] at hc1 hc2 HO HT ⊢
      have HE := hide hq
      rw [← hq] at hc1 hc2 HO ⊢
      clear hX hq
      obtain ⟨b0, off, cap', na, nc, e0, hb0, hrd, hu, hrg⟩ := node_at HRd.out (i := k) hkl
      injection e0 with e1 e2 e3
      subst e1 e3
      obtain ⟨x, hx⟩ : ∃ x, x = ndAt L k := ⟨_, rfl⟩
      rw [← hx] at hrd hrg HF hc2 HT
      obtain ⟨n, hn⟩ : ∃ n, n = x.d.length := ⟨_, rfl⟩
      have HNn := hide hn
      rw [← hn] at hrd hrg hc2
      have HRg := hide (show wr.rangeAt b0 (off + k * 10) ([.int .i64 x.k, .int .i64 x.l, .int .i64 x.m, .int .i64 x.u, .int .i64 x.g, .int .i64 x.p, .int .i64 x.e, .int .i64 x.t, .int .i64 x.c, .slice na n nc]) from fun j u hj => (HO.out.2.cell (p := ⟨b0, off + k * 10 + j, none⟩) hb0).trans (hrg j u hj))
      have HD := hide hrd
      have HHd := hide (l14Head_any x na n nc)
      clear hrg hrd hu e2 hx hn
      obtain ⟨cs, hcs⟩ : ∃ cs : Array Value, cs = #[.int .i64 x.k, .int .i64 x.l, .int .i64 x.m, .int .i64 x.u, .int .i64 x.g, .int .i64 x.p, .int .i64 x.e, .int .i64 x.t, .int .i64 x.c, .slice na n nc] := ⟨_, rfl⟩
      have HI := hide (show (Tryz.prog.info? 53).map (·.size) = some cs.size from by rw [hcs]; exact infoN10)
      have HZ := hide (show cs.size = 10 from by rw [hcs]; rfl)
      have HC := hide (show cs.all (·.oneCell') = true from by rw [hcs]; exact oneNd _ _ _ _)
      have HRg2 := hide (show wr.rangeAt b0 (off + k * 10) cs.toList from by rw [hcs]; exact HRg.out)
      have C9 := hide (show cs[9]? = some (.slice na n nc) from by rw [hcs]; rfl)
      rw [← hcs] at HHd
      clear hcs HRg
      go_wp2_with (first | (refine wpList_load_mid rfl 53 _ rfl b0 (off + k * 10) rfl cs.toList _ HRg2.out Tryz.underlying53 rfl (by rw [Array.length_toList]; exact HI.out) ?_) | (refine wpList_store_newF wr.heap.size wr rfl 53 _ _ rfl wr.heap.size cs rfl rfl 53 #[.int .i64 0, .int .i64 0, .int .i64 0, .int .i64 0, .int .i64 0, .int .i64 0, .int .i64 0, .int .i64 0, .int .i64 0, .slice none 0 0] (Blk.new _ _ _) HI.out (by rw [HZ.out]; rfl) HC.out ((Below.refl _ _).alloc (Nat.le_refl _) _) (Nat.le_refl _) ?_; intro w3 k3 b3; have K3 := hide k3; have B3 := hide b3; clear k3 b3) | (refine wpList_load_row rfl 53 _ rfl wr.heap.size rfl 53 cs (0, 0) _ K3.out Tryz.underlying53 rfl HI.out ?_) | (go_at_call 24; fail))
      refine (HHd.out w3 HNn.out HF.out.1 HF.out.2).mono ?_
      rintro e w4 ⟨v4, rfl, o4, b4⟩
      have B4 := hide (B3.out.trans (b4.mono B3.out.size))
      have O4 := hide (own_below HO.out.1 B4.out)
      have R4 := hide (Rd.own (zs := headI x) o4)
      have Q4 := hide (HO.out.2.trans (B4.out.mono HO.out.2.size))
      have K4 := hide (K3.out.below b4 K3.out.lt)
      have LW := hide (show ∀ b, (Value.slice ra q rc).ownBlock = some b → b < wr.heap.size from fun b e => (HO.out.1.lt b e).2)
      clear o4 b4 HO HI HZ HC HHd B3 K3
      go_wp2_with (first | (refine wpList_append_rdB _ rfl _ _ 48 rfl w.heap.size 5 i0 Tryz.underlying48 hi0 hz0 hz1 hz2 _ q X rfl O4.out v4 (headI x) rfl R4.out (by rw [headI_len]; omega) Q4.out.size ?_) | fail)
      intro a5 c5 m5 w5 hm5 o5 b5
      rw [headI_len] at hm5
      have hm5b : m5 ≤ 3000000 := by omega
      have x9 : w5.cell? ⟨wr.heap.size, 9, none⟩ = some (.slice na n nc) := by
        have hk5 : Blk w5 wr.heap.size cs 53 := (b5.block _ K4.out.lt (fun e => by have := LW.out _ e.symm; omega)).trans K4.out
        exact (hk5.cell 9).trans C9.out
      have O5 := hide (And.intro (show w5.ownsRow w.heap.size 5 1 (.slice a5 m5 c5) m5 ((X ++ headI x).map (Value.int .u8)) from by simpa using o5) (And.intro (Q4.out.trans (grown_base O4.out b5 Q4.out.size)) hm5))
      clear o5 b5 hm5 O4 R4 Q4 B4 K4
      go_wp2_with (first | (refine wpList_append_rdB _ rfl _ _ 48 rfl w.heap.size 5 i0 Tryz.underlying48 hi0 hz0 hz1 hz2 (.slice a5 m5 c5) m5 (X ++ headI x) rfl O5.out.1 (.slice na n nc) x.d rfl (HD.out.below O5.out.2.1) (by rw [← HNn.out]; omega) O5.out.2.1.size ?_) | fail)
      intro a6 c6 m6 w6 hm6 o6 b6
      have O6 := hide (And.intro (show w6.ownsRow w.heap.size 5 1 (.slice a6 m6 c6) m6 ((X ++ headI x ++ x.d).map (Value.int .u8)) from by simpa using o6) (And.intro (O5.out.2.1.trans (grown_base O5.out.1 b6 O5.out.2.1.size)) (show m6 = (prI (L.take (k + 1))).length from by rw [HT.out, List.length_append, List.length_append, headI_len, ← HE.out, hm6, O5.out.2.2])))
      clear o6 b6 hm6
      go_wp2
      go_roundw
      case rel =>
        refine ⟨k + 1, by omega, by go_num, hide ⟨?_, O6.out.2.1⟩⟩
        rw [← O6.out.2.2, HT.out]
        exact O6.out.1
      case measure => simp [intOf]; omega
    · have hkN : k = N := by omega
      have HF := hide (show wr.ownsRow w.heap.size 5 1 (.slice ra (prI (L.take k)).length rc) (prI (L.take k)).length ((prI L).map (Value.int .u8)) ∧ Below w.heap.size w wr from ⟨by
        have := HO.out.1
        rw [hkN, HN.out, List.take_length] at this ⊢
        exact this, HO.out.2⟩)
      clear HO hkN
      generalize (prI (L.take k)).length = q at HF ⊢
      go_wp2_with (go_at_call 25; fail)
      refine (specCrc_any _ (prI L) _ (Rd.own HF.out.1) HPB.out).mono ?_
      rintro e w2 ⟨rfl, rfl⟩
      go_wp2
      go_ret
      exact ⟨rfl, HF.out.2⟩
end Go.Proofs.YtnbfpmmpmblmmaaGreatDoor
