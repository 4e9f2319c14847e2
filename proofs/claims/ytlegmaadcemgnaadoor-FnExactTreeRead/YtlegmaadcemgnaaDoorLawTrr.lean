/- The law on TreeRead, walked: it answers true and turns nothing that was there. -/
import Derived.Test.YtlegmaadcemgnaaDoorTrF
import Derived.Test.YtlegmaadcemgnaaDoorRootB
import Derived.Test.YtlegmaadcemgnaaDoorApart
import Derived.Deep.RegionHeld3
import Derived.Deep.MidRow
namespace Go.Proofs.YtlegmaadcemgnaaDoor
set_option linter.unusedVariables false
set_option linter.unusedSimpArgs false
open Go.RowKit

theorem blkRange {w : World} {b : Nat} {C : Array Value} {t : TypeId} (h : Blk w b C t) : w.rangeAt b 0 C.toList := by
  intro j v hv
  rw [h.cell (0 + j), Nat.zero_add]
  simpa using hv
theorem mrB_len (zs : List Int) (s : Int) (ds : List Int) (p q : Int) : (mrB zs s ds p q).length ≤ 262144 := by
  unfold mrB
  split
  · rename_i h
    have := fault_right h.1
    rw [List.length_take]
    omega
  · simp

set_option maxRecDepth 100000 in
set_option maxHeartbeats 2000000 in
theorem lawTrr (v : Value) (zs : List Int) (s : Int) (ds : List Int) (p q : Int) (w : World) (h : Rd .u8 w v zs) (hbd : ∀ z ∈ zs, 0 ≤ z ∧ z < 256) (hd : ds.length = 12) (hg : ErrT w) :
    Calls Tryd.prog 4 #[v, .agg (cellsI (rootI s ds p q))] w fun e w' => e = .returned (.bool true) ∧ Below w.heap.size w w' := by
  have hm := h.len
  unfold maxLen at hm
  have hsh : ∃ a cap, v = .slice a zs.length cap := by obtain ⟨a, cap, h1, _⟩ := h; exact ⟨a, cap, h1⟩
  obtain ⟨a0, cap0, rfl⟩ := hsh
  have H := hide (And.intro h hg)
  have HD := hide hd
  have HZ := hide (show (cellsI (rootI s ds p q)).size = 15 from by rw [cellsI_size]; exact rootI_len s ds p q hd)
  have B0 := hide (show Below w.heap.size w (w.alloc (.cells (cellsI (rootI s ds p q)) 43)) from (Below.refl _ _).alloc (Nat.le_refl _) _)
  have K0 := hide (Blk.new w (cellsI (rootI s ds p q)) 43)
  clear h hg
  by_cases hbig : (1048576 : Int) < (zs.length : Int)
  · clear hd
    go_enter Tryd.func4, Tryd.ntmps4
    go_wp2
    go_ret
    exact ⟨rfl, B0.out⟩
  have hsm : zs.length ≤ 1048576 := by omega
  clear hbig hm
  have HS := hide (fun (v : Value) (w : World) (hr : Rd .u8 w v zs) => specTR_any v zs s ds p q w hr hsm hbd hd)
  have HI := hide (fun (v : Value) (w : World) (hr : Rd .u8 w v zs) (hg : ErrT w) => implTR_any v zs s ds p q w hr hsm hbd hd hg)
  rw [trC_same hd, trB_same hd] at HI
  have hR : (mrB zs s ds p q).length ≤ 1048576 := Nat.le_trans (mrB_len zs s ds p q) (by omega)
  generalize mrB zs s ds p q = R at HS HI hR
  generalize mrC zs s ds p q = c at HS HI
  have hcc : (c != c) = false := by simp
  obtain ⟨Kc, hKc⟩ : ∃ K : Nat, K = 1 + zs.length := ⟨_, rfl⟩
  have hK1b : Kc ≤ 1048577 := by omega
  obtain ⟨M, hM⟩ : ∃ K : Nat, K = 1 + R.length := ⟨_, rfl⟩
  have hMb : M ≤ 1048577 := by omega
  have HK1 := hide hKc
  have HM := hide hM
  clear hKc hM hbd hd
  go_enter Tryd.func4, Tryd.ntmps4
  go_wp2_with fail
  refine wp_region_noPanic ?_
  refine wp_region_held_drew (S := fun w' => Blk w' w.heap.size (cellsI (rootI s ds p q)) 43) (by kernel_rfl) K0.out (fun hH => ?_)
  refine wpAnyH_take (i := 0) (oi := _) (v := .slice a0 zs.length cap0) rfl (by kernel_rfl) (by kernel_rfl) (by kernel_rfl) (fun _ _ _ h => h) (Or.inl ⟨by rfl, fun w' hw' => by go_simp⟩) hH ?_
  try simp only [Act.put, List.getElem_toArray, List.getElem_cons_zero, List.getElem_cons_succ, List.setIfInBounds_toArray, List.set_cons_zero, List.set_cons_succ]
  refine wpAnyH_take (i := 2) (oi := _) (v := .agg (cellsI (rootI s ds p q))) rfl (by kernel_rfl) (by kernel_rfl) (by kernel_rfl) (fun _ _ _ h => h) (yieldsIf_load_mid (by rfl) 43 _ rfl w.heap.size 0 rfl (cellsI (rootI s ds p q)).toList _ (fun w' h => blkRange h) Tryd.underlying43 rfl (by rw [Array.length_toList, HZ.out]; exact infoL15)) hH ?_
  try simp only [Act.put, List.getElem_toArray, List.getElem_cons_zero, List.getElem_cons_succ, List.setIfInBounds_toArray, List.set_cons_zero, List.set_cons_succ]
  refine wpAnyH_ready (rs := [1]) (by kernel_rfl) (by simp) ?_
  refine AllReadyH.cons (o := _) rfl (fun K hK => ?_) AllReadyH.nil
  go_simp
  refine (toByteS_any _ zs _ (H.out.1.below B0.out.drew) (by omega)).mono ?_
  rintro e w1 ⟨t0, rfl, o, b⟩
  have b := ((Below.refl _ _).drew).trans b
  have o := own_mono o (Nat.le_refl (w.alloc (.cells (cellsI (rootI s ds p q)) 43)).heap.size)
  have S1 := hide b.size
  have B1 := hide (B0.out.trans (b.mono B0.out.size))
  have K1 := hide (K0.out.below b K0.out.lt)
  clear K0
  have T0o1 := hide o
  have Lt0 := hide (fun k hk => T0o1.out.lt (v := t0) k hk)
  have Zt0 := hide B0.out.size
  refine hK.out _ _ K1.out (fun hH => ?_)
  clear hK K o b
  try simp only [Act.put, List.getElem_toArray, List.getElem_cons_zero, List.getElem_cons_succ, List.setIfInBounds_toArray, List.set_cons_zero, List.set_cons_succ]
  refine wpAnyH_ready (rs := [3]) (by kernel_rfl) (by simp) ?_
  refine AllReadyH.cons (o := _) rfl (fun K hK => ?_) AllReadyH.nil
  go_simp
  refine (toRoot_any s ds p q _ HD.out).mono ?_
  rintro e w2 ⟨rfl, b⟩
  have T0o2 := hide (own_below T0o1.out b)
  clear T0o1
  have S2 := hide b.size
  have B2 := hide (B1.out.trans (b.mono B1.out.size))
  have K2 := hide (K1.out.below b K1.out.lt)
  clear K1
  refine hK.out _ _ K2.out (fun hH => ?_)
  clear hK K b
  try simp only [Act.put, List.getElem_toArray, List.getElem_cons_zero, List.getElem_cons_succ, List.setIfInBounds_toArray, List.set_cons_zero, List.set_cons_succ]
  refine wpAnyH_ready (rs := [4]) (by kernel_rfl) (by simp) ?_
  refine AllReadyH.cons (o := _) rfl (fun K hK => ?_) AllReadyH.nil
  go_simp
  refine (HS.out t0 _ (Rd.own T0o2.out)).mono ?_
  rintro e w3 ⟨v2, rfl, o, b⟩
  have T0o3 := hide (own_below T0o2.out b)
  clear T0o2
  have S3 := hide b.size
  have B3 := hide (B2.out.trans (b.mono B2.out.size))
  have K3 := hide (K2.out.below b K2.out.lt)
  clear K2
  have V2o3 := hide o
  have Lv2 := hide (fun k hk => V2o3.out.lt (v := v2) k hk)
  have Zv2 := hide B2.out.size
  refine hK.out _ _ K3.out (fun hH => ?_)
  clear hK K o b
  try simp only [Act.put, List.getElem_toArray, List.getElem_cons_zero, List.getElem_cons_succ, List.setIfInBounds_toArray, List.set_cons_zero, List.set_cons_succ]
  refine wpAnyH_take (i := 5) (oi := _) (v := .tuple #[v2, .int .i64 c]) rfl (by kernel_rfl) (by kernel_rfl) (by kernel_rfl) (fun _ _ _ h => h) (Or.inl ⟨by rfl, fun w' hw' => by go_simp⟩) hH ?_
  try simp only [Act.put, List.getElem_toArray, List.getElem_cons_zero, List.getElem_cons_succ, List.setIfInBounds_toArray, List.set_cons_zero, List.set_cons_succ]
  refine wpAnyH_take (i := 6) (oi := _) (v := v2) rfl (by kernel_rfl) (by kernel_rfl) (by kernel_rfl) (fun _ _ _ h => h) (Or.inl ⟨by rfl, fun w' hw' => by go_simp⟩) hH ?_
  try simp only [Act.put, List.getElem_toArray, List.getElem_cons_zero, List.getElem_cons_succ, List.setIfInBounds_toArray, List.set_cons_zero, List.set_cons_succ]
  refine wpAnyH_take (i := 7) (oi := _) (v := .int .i64 c) rfl (by kernel_rfl) (by kernel_rfl) (by kernel_rfl) (fun _ _ _ h => h) (Or.inl ⟨by rfl, fun w' hw' => by go_simp⟩) hH ?_
  try simp only [Act.put, List.getElem_toArray, List.getElem_cons_zero, List.getElem_cons_succ, List.setIfInBounds_toArray, List.set_cons_zero, List.set_cons_succ]
  refine wpAnyH_take (i := 8) (oi := _) (v := v2) rfl (by kernel_rfl) (by kernel_rfl) (by kernel_rfl) (fun _ _ _ h => h) (Or.inl ⟨by rfl, fun w' hw' => by go_simp⟩) hH ?_
  try simp only [Act.put, List.getElem_toArray, List.getElem_cons_zero, List.getElem_cons_succ, List.setIfInBounds_toArray, List.set_cons_zero, List.set_cons_succ]
  refine wpAnyH_take (i := 9) (oi := _) (v := .int .i64 c) rfl (by kernel_rfl) (by kernel_rfl) (by kernel_rfl) (fun _ _ _ h => h) (Or.inl ⟨by rfl, fun w' hw' => by go_simp⟩) hH ?_
  try simp only [Act.put, List.getElem_toArray, List.getElem_cons_zero, List.getElem_cons_succ, List.setIfInBounds_toArray, List.set_cons_zero, List.set_cons_succ]
  refine wpAnyH_done (by kernel_rfl) (NoPanic.normal ?_) _
  clear hH
  clear T0o3 Lt0 Zt0
  go_wp2_with fail
  refine (toByteS_any _ zs _ (H.out.1.below B3.out) (by omega)).mono ?_
  rintro e w4 ⟨x0, rfl, o, b⟩
  have V2o4 := hide (own_below V2o3.out b)
  clear V2o3
  have S4 := hide b.size
  have B4 := hide (B3.out.trans (b.mono B3.out.size))
  have K4 := hide (K3.out.below b K3.out.lt)
  clear K3
  have X0o4 := hide o
  have Lx0 := hide (fun k hk => X0o4.out.lt (v := x0) k hk)
  have Zx0 := hide B3.out.size
  clear o b
  go_wp2_with (first | (refine wpList_load_row rfl 43 _ rfl w.heap.size rfl 43 (cellsI (rootI s ds p q)) (0, 0) _ K4.out Tryd.underlying43 rfl (by rw [HZ.out]; exact infoL15) ?_) | (go_at_call 15; fail))
  refine (toRoot_any s ds p q _ HD.out).mono ?_
  rintro e w5 ⟨rfl, b⟩
  have V2o5 := hide (own_below V2o4.out b)
  clear V2o4
  have X0o5 := hide (own_below X0o4.out b)
  clear X0o4
  have S5 := hide b.size
  have B5 := hide (B4.out.trans (b.mono B4.out.size))
  have K5 := hide (K4.out.below b K4.out.lt)
  clear K4
  clear b
  go_wp2_with fail
  refine (HI.out x0 _ (Rd.own X0o5.out) (H.out.2.below B5.out)).mono ?_
  rintro e w6 ⟨g0, rfl, o, b⟩
  have V2o6 := hide (own_below V2o5.out b)
  clear V2o5
  have X0o6 := hide (own_below X0o5.out b)
  clear X0o5
  have S6 := hide b.size
  have B6 := hide (B5.out.trans (b.mono B5.out.size))
  have K6 := hide (K5.out.below b K5.out.lt)
  clear K5
  have G0o6 := hide o
  have Lg0 := hide (fun k hk => G0o6.out.lt (v := g0) k hk)
  have Zg0 := hide B5.out.size
  clear o b
  go_wp2_with fail
  refine (eqByteS_same g0 v2 R _ (Rd.own G0o6.out) (Rd.own V2o6.out)).mono ?_
  rintro e w7 ⟨rfl, b⟩
  have V2o7 := hide (own_below V2o6.out b)
  clear V2o6
  have X0o7 := hide (own_below X0o6.out b)
  clear X0o6
  have G0o7 := hide (own_below G0o6.out b)
  clear G0o6
  have S7 := hide b.size
  have B7 := hide (B6.out.trans (b.mono B6.out.size))
  have K7 := hide (K6.out.below b K6.out.lt)
  clear K6
  clear b
  go_wp2_with fail
  refine (toByteS_any _ zs _ (H.out.1.below B7.out) (by omega)).mono ?_
  rintro e w8 ⟨t0, rfl, o, b⟩
  have V2o8 := hide (own_below V2o7.out b)
  clear V2o7
  have X0o8 := hide (own_below X0o7.out b)
  clear X0o7
  have G0o8 := hide (own_below G0o7.out b)
  clear G0o7
  have S8 := hide b.size
  have B8 := hide (B7.out.trans (b.mono B7.out.size))
  have K8 := hide (K7.out.below b K7.out.lt)
  clear K7
  have T0o8 := hide o
  have Lt0 := hide (fun k hk => T0o8.out.lt (v := t0) k hk)
  have Zt0 := hide B7.out.size
  clear o b
  go_wp2_with fail
  refine (eqByteS_same x0 t0 zs _ (Rd.own X0o8.out) (Rd.own T0o8.out)).mono ?_
  rintro e w9 ⟨rfl, b⟩
  have V2o9 := hide (own_below V2o8.out b)
  clear V2o8
  have X0o9 := hide (own_below X0o8.out b)
  clear X0o8
  have G0o9 := hide (own_below G0o8.out b)
  clear G0o8
  have T0o9 := hide (own_below T0o8.out b)
  clear T0o8
  have S9 := hide b.size
  have B9 := hide (B8.out.trans (b.mono B8.out.size))
  have K9 := hide (K8.out.below b K8.out.lt)
  clear K8
  clear b
  clear T0o9 Lt0 Zt0
  go_wp2_with fail
  refine (markByteS_any x0 w3.heap.size zs.length 1 _ _ X0o9.out (by omega) (by omega)).mono ?_
  rintro e w10 ⟨he, o, g⟩
  rw [← HK1.out] at he
  subst he
  have V2o10 := hide (V2o9.out.kept g (apart2 Lv2.out Lx0.out (by have := S1.out; have := S2.out; have := S3.out; have := S4.out; have := S5.out; have := S6.out; have := S7.out; have := S8.out; have := S9.out; omega)))
  clear V2o9
  have G0o10 := hide (G0o9.out.kept g (apart2 Lg0.out Lx0.out (by have := S1.out; have := S2.out; have := S3.out; have := S4.out; have := S5.out; have := S6.out; have := S7.out; have := S8.out; have := S9.out; omega)))
  clear G0o9
  have B10 := hide (B9.out.grown g B9.out.size (fun k hk => Nat.le_trans Zx0.out (X0o9.out.lt k hk).1))
  have K10 := hide (show Blk w10 w.heap.size (cellsI (rootI s ds p q)) 43 from (g.block _ K9.out.lt (fun e => blk_off X0o9.out K9.out (by decide) e.symm)).trans K9.out)
  clear K9
  have S10 := hide g.size
  have X0o10 := hide o
  clear o g X0o9
  clear X0o10 Lx0 Zx0
  go_wp2_with fail
  refine (eqByteS_same g0 v2 R _ (Rd.own G0o10.out) (Rd.own V2o10.out)).mono ?_
  rintro e w11 ⟨rfl, b⟩
  have V2o11 := hide (own_below V2o10.out b)
  clear V2o10
  have G0o11 := hide (own_below G0o10.out b)
  clear G0o10
  have S11 := hide b.size
  have B11 := hide (B10.out.trans (b.mono B10.out.size))
  have K11 := hide (K10.out.below b K10.out.lt)
  clear K10
  clear b
  go_wp2_with fail
  refine (markByteS_any g0 w5.heap.size R.length 1 _ _ G0o11.out (by omega) (by omega)).mono ?_
  rintro e w12 ⟨he, o, g⟩
  rw [← HM.out] at he
  subst he
  have V2o12 := hide (V2o11.out.kept g (apart2 Lv2.out Lg0.out (by have := S1.out; have := S2.out; have := S3.out; have := S4.out; have := S5.out; have := S6.out; have := S7.out; have := S8.out; have := S9.out; have := S10.out; have := S11.out; omega)))
  clear V2o11
  have B12 := hide (B11.out.grown g B11.out.size (fun k hk => Nat.le_trans Zg0.out (G0o11.out.lt k hk).1))
  have K12 := hide (show Blk w12 w.heap.size (cellsI (rootI s ds p q)) 43 from (g.block _ K11.out.lt (fun e => blk_off G0o11.out K11.out (by decide) e.symm)).trans K11.out)
  clear K11
  have S12 := hide g.size
  have G0o12 := hide o
  clear o g G0o11
  go_wp2_with fail
  refine (heldByteS_any g0 R.length 1 _ (Rd.own G0o12.out) (by omega) (by omega)).mono ?_
  rintro e wq ⟨he, hwq⟩
  rw [← HM.out] at he
  subst he
  rw [hwq]
  clear hwq wq
  go_wp2_with fail
  refine wp_region_noPanic ?_
  refine wp_region_held_drew (S := fun w' => Blk w' w.heap.size (cellsI (rootI s ds p q)) 43) (by kernel_rfl) K12.out (fun hH => ?_)
  refine wpAnyH_take (i := 0) (oi := _) (v := .slice a0 zs.length cap0) rfl (by kernel_rfl) (by kernel_rfl) (by kernel_rfl) (fun _ _ _ h => h) (Or.inl ⟨by rfl, fun w' hw' => by go_simp⟩) hH ?_
  try simp only [Act.put, List.getElem_toArray, List.getElem_cons_zero, List.getElem_cons_succ, List.setIfInBounds_toArray, List.set_cons_zero, List.set_cons_succ]
  refine wpAnyH_take (i := 2) (oi := _) (v := .agg (cellsI (rootI s ds p q))) rfl (by kernel_rfl) (by kernel_rfl) (by kernel_rfl) (fun _ _ _ h => h) (yieldsIf_load_mid (by rfl) 43 _ rfl w.heap.size 0 rfl (cellsI (rootI s ds p q)).toList _ (fun w' h => blkRange h) Tryd.underlying43 rfl (by rw [Array.length_toList, HZ.out]; exact infoL15)) hH ?_
  try simp only [Act.put, List.getElem_toArray, List.getElem_cons_zero, List.getElem_cons_succ, List.setIfInBounds_toArray, List.set_cons_zero, List.set_cons_succ]
  refine wpAnyH_ready (rs := [1]) (by kernel_rfl) (by simp) ?_
  refine AllReadyH.cons (o := _) rfl (fun K hK => ?_) AllReadyH.nil
  go_simp
  refine (toByteS_any _ zs _ (H.out.1.below B12.out.drew) (by omega)).mono ?_
  rintro e w13 ⟨t0, rfl, o, b⟩
  have b := ((Below.refl _ _).drew).trans b
  have o := own_mono o (Nat.le_refl w12.heap.size)
  have V2o13 := hide (own_below V2o12.out b)
  clear V2o12
  have G0o13 := hide (own_below G0o12.out b)
  clear G0o12
  have S13 := hide b.size
  have B13 := hide (B12.out.trans (b.mono B12.out.size))
  have K13 := hide (K12.out.below b K12.out.lt)
  clear K12
  have T0o13 := hide o
  have Lt0 := hide (fun k hk => T0o13.out.lt (v := t0) k hk)
  have Zt0 := hide B12.out.size
  refine hK.out _ _ K13.out (fun hH => ?_)
  clear hK K o b
  try simp only [Act.put, List.getElem_toArray, List.getElem_cons_zero, List.getElem_cons_succ, List.setIfInBounds_toArray, List.set_cons_zero, List.set_cons_succ]
  refine wpAnyH_ready (rs := [3]) (by kernel_rfl) (by simp) ?_
  refine AllReadyH.cons (o := _) rfl (fun K hK => ?_) AllReadyH.nil
  go_simp
  refine (toRoot_any s ds p q _ HD.out).mono ?_
  rintro e w14 ⟨rfl, b⟩
  have V2o14 := hide (own_below V2o13.out b)
  clear V2o13
  have G0o14 := hide (own_below G0o13.out b)
  clear G0o13
  have T0o14 := hide (own_below T0o13.out b)
  clear T0o13
  have S14 := hide b.size
  have B14 := hide (B13.out.trans (b.mono B13.out.size))
  have K14 := hide (K13.out.below b K13.out.lt)
  clear K13
  refine hK.out _ _ K14.out (fun hH => ?_)
  clear hK K b
  try simp only [Act.put, List.getElem_toArray, List.getElem_cons_zero, List.getElem_cons_succ, List.setIfInBounds_toArray, List.set_cons_zero, List.set_cons_succ]
  refine wpAnyH_ready (rs := [4]) (by kernel_rfl) (by simp) ?_
  refine AllReadyH.cons (o := _) rfl (fun K hK => ?_) AllReadyH.nil
  go_simp
  refine (HI.out t0 _ (Rd.own T0o14.out) (H.out.2.below B14.out)).mono ?_
  rintro e w15 ⟨h0, rfl, o, b⟩
  have V2o15 := hide (own_below V2o14.out b)
  clear V2o14
  have G0o15 := hide (own_below G0o14.out b)
  clear G0o14
  have T0o15 := hide (own_below T0o14.out b)
  clear T0o14
  have S15 := hide b.size
  have B15 := hide (B14.out.trans (b.mono B14.out.size))
  have K15 := hide (K14.out.below b K14.out.lt)
  clear K14
  have H0o15 := hide o
  have Lh0 := hide (fun k hk => H0o15.out.lt (v := h0) k hk)
  have Zh0 := hide B14.out.size
  refine hK.out _ _ K15.out (fun hH => ?_)
  clear hK K o b
  try simp only [Act.put, List.getElem_toArray, List.getElem_cons_zero, List.getElem_cons_succ, List.setIfInBounds_toArray, List.set_cons_zero, List.set_cons_succ]
  refine wpAnyH_take (i := 5) (oi := _) (v := .tuple #[h0, .int .i64 c]) rfl (by kernel_rfl) (by kernel_rfl) (by kernel_rfl) (fun _ _ _ h => h) (Or.inl ⟨by rfl, fun w' hw' => by go_simp⟩) hH ?_
  try simp only [Act.put, List.getElem_toArray, List.getElem_cons_zero, List.getElem_cons_succ, List.setIfInBounds_toArray, List.set_cons_zero, List.set_cons_succ]
  refine wpAnyH_take (i := 6) (oi := _) (v := h0) rfl (by kernel_rfl) (by kernel_rfl) (by kernel_rfl) (fun _ _ _ h => h) (Or.inl ⟨by rfl, fun w' hw' => by go_simp⟩) hH ?_
  try simp only [Act.put, List.getElem_toArray, List.getElem_cons_zero, List.getElem_cons_succ, List.setIfInBounds_toArray, List.set_cons_zero, List.set_cons_succ]
  refine wpAnyH_take (i := 7) (oi := _) (v := .int .i64 c) rfl (by kernel_rfl) (by kernel_rfl) (by kernel_rfl) (fun _ _ _ h => h) (Or.inl ⟨by rfl, fun w' hw' => by go_simp⟩) hH ?_
  try simp only [Act.put, List.getElem_toArray, List.getElem_cons_zero, List.getElem_cons_succ, List.setIfInBounds_toArray, List.set_cons_zero, List.set_cons_succ]
  refine wpAnyH_take (i := 8) (oi := _) (v := h0) rfl (by kernel_rfl) (by kernel_rfl) (by kernel_rfl) (fun _ _ _ h => h) (Or.inl ⟨by rfl, fun w' hw' => by go_simp⟩) hH ?_
  try simp only [Act.put, List.getElem_toArray, List.getElem_cons_zero, List.getElem_cons_succ, List.setIfInBounds_toArray, List.set_cons_zero, List.set_cons_succ]
  refine wpAnyH_take (i := 9) (oi := _) (v := .int .i64 c) rfl (by kernel_rfl) (by kernel_rfl) (by kernel_rfl) (fun _ _ _ h => h) (Or.inl ⟨by rfl, fun w' hw' => by go_simp⟩) hH ?_
  try simp only [Act.put, List.getElem_toArray, List.getElem_cons_zero, List.getElem_cons_succ, List.setIfInBounds_toArray, List.set_cons_zero, List.set_cons_succ]
  refine wpAnyH_done (by kernel_rfl) (NoPanic.normal ?_) _
  clear hH
  clear T0o15 Lt0 Zt0
  go_wp2_with fail
  refine (eqByteS_same h0 v2 R _ (Rd.own H0o15.out) (Rd.own V2o15.out)).mono ?_
  rintro e w16 ⟨rfl, b⟩
  have V2o16 := hide (own_below V2o15.out b)
  clear V2o15
  have G0o16 := hide (own_below G0o15.out b)
  clear G0o15
  have H0o16 := hide (own_below H0o15.out b)
  clear H0o15
  have S16 := hide b.size
  have B16 := hide (B15.out.trans (b.mono B15.out.size))
  have K16 := hide (K15.out.below b K15.out.lt)
  clear K15
  clear b
  go_wp2_with fail
  refine (heldByteS_any g0 R.length 1 _ (Rd.own G0o16.out) (by omega) (by omega)).mono ?_
  rintro e wq ⟨he, hwq⟩
  rw [← HM.out] at he
  subst he
  rw [hwq]
  clear hwq wq
  go_wp2
  go_ret
  exact ⟨rfl, B16.out⟩
end Go.Proofs.YtlegmaadcemgnaaDoor
