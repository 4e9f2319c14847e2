/- The law on DirAdd, walked: it answers true and turns nothing that was there. -/
import Derived.Test.YtdcpcgiehmincaaDoorSlotP
import Derived.Test.YtdcpcgiehmincaaDoorApart
import Derived.Deep.RegionHeld3
import Derived.Deep.MidRow
namespace Go.Proofs.YtdcpcgiehmincaaDoor
set_option linter.unusedVariables false
set_option linter.unusedSimpArgs false
open Go.RowKit

set_option maxRecDepth 100000 in
set_option maxHeartbeats 2000000 in
theorem lawDirA (v : Value) (zs : List Int) (nm : ByteArray) (ino kd : Int) (w : World) (h : Rd .u8 w v zs) (hbd : ∀ z ∈ zs, 0 ≤ z ∧ z < 256) (hnm : nm.size ≤ maxLen) (hg : ErrT w) :
    Calls Tryd.prog 8 #[v, .agg (entC nm ino kd)] w fun e w' => e = .returned (.bool true) ∧ Below w.heap.size w w' := by
  have hm := h.len
  unfold maxLen at hm
  have hsh : ∃ a cap, v = .slice a zs.length cap := by obtain ⟨a, cap, h1, _⟩ := h; exact ⟨a, cap, h1⟩
  obtain ⟨a0, cap0, rfl⟩ := hsh
  have H := hide (And.intro h hg)
  have B0 := hide (show Below w.heap.size w (w.alloc (.cells (entC nm ino kd) 47)) from (Below.refl _ _).alloc (Nat.le_refl _) _)
  have K0 := hide (Blk.new w (entC nm ino kd) 47)
  clear h hg
  by_cases hbig : (1048576 : Int) < (zs.length : Int)
  · go_enter Tryd.func8, Tryd.ntmps8
    go_wp2
    go_ret
    exact ⟨rfl, B0.out⟩
  have hsm : zs.length ≤ 1048576 := by omega
  by_cases hbig2 : (1048576 : Int) < (nm.size : Int)
  · have HS1 := hide (show (if (1048576 : Int) < nm.size then (-1 : Int) else 1048576 - (nm.size : Int)) = -1 from if_pos hbig2)
    go_enter Tryd.func8, Tryd.ntmps8
    go_wp2_with (first | (refine wpList_load_row rfl 47 _ rfl w.heap.size rfl 47 (entC nm ino kd) (0, 0) _ K0.out Tryd.underlying47 rfl infoLD3 ?_) | (go_at_call 32; fail))
    refine (szDirent_any nm ino kd 1048576 _ hnm (by omega) (by omega)).mono ?_
    rintro e w1 ⟨rfl, b⟩
    rw [HS1.out]
    have B1 := hide (B0.out.trans (b.mono B0.out.size))
    clear b
    go_wp2
    go_ret
    exact ⟨rfl, B1.out⟩
  have HS1 := hide (show (if (1048576 : Int) < nm.size then (-1 : Int) else 1048576 - (nm.size : Int)) = 1048576 - (nm.size : Int) from if_neg hbig2)
  have hl : decide ((1048576 : Int) - (nm.size : Int) < 0) = false := by simp; omega
  have HS := hide (fun (v : Value) (w : World) (hr : Rd .u8 w v zs) => specDA_any v zs nm ino kd w hr hbd hnm)
  have HI := hide (fun (v : Value) (w : World) (hr : Rd .u8 w v zs) (hg : ErrT w) => implDA_any v zs nm ino kd w hr hbd hnm hg)
  have hR : (daB zs nm ino kd).length ≤ 262144 := daB_len hbd nm ino kd
  generalize daB zs nm ino kd = R at HS HI hR
  generalize daC zs nm ino kd = c at HS HI
  have hcc : (c != c) = false := by simp
  obtain ⟨Kc, hKc⟩ : ∃ K : Nat, K = 1 + zs.length := ⟨_, rfl⟩
  have hK1b : Kc ≤ 1048577 := by omega
  obtain ⟨M, hM⟩ : ∃ K : Nat, K = 1 + R.length := ⟨_, rfl⟩
  have hMb : M ≤ 1048577 := by omega
  have HK1 := hide hKc
  have HM := hide hM
  clear hKc hM hbd hbig hbig2 hm
  go_enter Tryd.func8, Tryd.ntmps8
  go_wp2_with (first | (refine wpList_load_row rfl 47 _ rfl w.heap.size rfl 47 (entC nm ino kd) (0, 0) _ K0.out Tryd.underlying47 rfl infoLD3 ?_) | (go_at_call 32; fail))
  refine (szDirent_any nm ino kd 1048576 _ hnm (by omega) (by omega)).mono ?_
  rintro e w1 ⟨rfl, b⟩
  rw [HS1.out]
  have S1 := hide b.size
  have B1 := hide (B0.out.trans (b.mono B0.out.size))
  have K1 := hide (K0.out.below b K0.out.lt)
  clear K0
  clear b
  have hl1 := hide (show w.heap.size < w1.heap.size from K1.out.lt)
  go_wp2_with fail
  refine wp_region_noPanic ?_
  refine wp_region_held_drew (S := fun w' => Blk w' w.heap.size (entC nm ino kd) 47) (by kernel_rfl) K1.out (fun hH => ?_)
  refine wpAnyH_take (i := 0) (oi := _) (v := .slice a0 zs.length cap0) rfl (by kernel_rfl) (by kernel_rfl) (by kernel_rfl) (fun _ _ _ h => h) (Or.inl ⟨by rfl, fun w' hw' => by go_simp⟩) hH ?_
  try simp only [Act.put, List.getElem_toArray, List.getElem_cons_zero, List.getElem_cons_succ, List.setIfInBounds_toArray, List.set_cons_zero, List.set_cons_succ]
  refine wpAnyH_take (i := 2) (oi := _) (v := .agg (entC nm ino kd)) rfl (by kernel_rfl) (by kernel_rfl) (by kernel_rfl) (fun _ _ _ h => h) (yieldsIf_load_mid (by rfl) 47 _ rfl w.heap.size 0 rfl (entC nm ino kd).toList _ (fun w' h => ent_range h) Tryd.underlying47 rfl infoLD3) hH ?_
  try simp only [Act.put, List.getElem_toArray, List.getElem_cons_zero, List.getElem_cons_succ, List.setIfInBounds_toArray, List.set_cons_zero, List.set_cons_succ]
  refine wpAnyH_ready (rs := [1]) (by kernel_rfl) (by simp) ?_
  refine AllReadyH.cons (o := _) rfl (fun K hK => ?_) AllReadyH.nil
  go_simp
  refine (toByteS_any _ zs _ (H.out.1.below B1.out.drew) (by omega)).mono ?_
  rintro e w2 ⟨t0, rfl, o, b⟩
  have b := ((Below.refl _ _).drew).trans b
  have o := own_mono o (Nat.le_refl w1.heap.size)
  have S2 := hide b.size
  have B2 := hide (B1.out.trans (b.mono B1.out.size))
  have K2 := hide (K1.out.below b K1.out.lt)
  clear K1
  have T0o2 := hide o
  have Lt0 := hide (fun k hk => T0o2.out.lt (v := t0) k hk)
  have Zt0 := hide B1.out.size
  refine hK.out _ _ K2.out (fun hH => ?_)
  clear hK K o b
  try simp only [Act.put, List.getElem_toArray, List.getElem_cons_zero, List.getElem_cons_succ, List.setIfInBounds_toArray, List.set_cons_zero, List.set_cons_succ]
  refine wpAnyH_ready (rs := [3]) (by kernel_rfl) (by simp) ?_
  refine AllReadyH.cons (o := _) rfl (fun K hK => ?_) AllReadyH.nil
  go_simp
  refine (toDirent_any nm ino kd _).mono ?_
  rintro e w3 ⟨rfl, b⟩
  have T0o3 := hide (own_below T0o2.out b)
  clear T0o2
  have S3 := hide b.size
  have B3 := hide (B2.out.trans (b.mono B2.out.size))
  have K3 := hide (K2.out.below b K2.out.lt)
  clear K2
  refine hK.out _ _ K3.out (fun hH => ?_)
  clear hK K b
  try simp only [Act.put, List.getElem_toArray, List.getElem_cons_zero, List.getElem_cons_succ, List.setIfInBounds_toArray, List.set_cons_zero, List.set_cons_succ]
  refine wpAnyH_ready (rs := [4]) (by kernel_rfl) (by simp) ?_
  refine AllReadyH.cons (o := _) rfl (fun K hK => ?_) AllReadyH.nil
  go_simp
  refine (HS.out t0 _ (Rd.own T0o3.out)).mono ?_
  rintro e w4 ⟨v2, rfl, o, b⟩
  have T0o4 := hide (own_below T0o3.out b)
  clear T0o3
  have S4 := hide b.size
  have B4 := hide (B3.out.trans (b.mono B3.out.size))
  have K4 := hide (K3.out.below b K3.out.lt)
  clear K3
  have V2o4 := hide o
  have Lv2 := hide (fun k hk => V2o4.out.lt (v := v2) k hk)
  have Zv2 := hide B3.out.size
  refine hK.out _ _ K4.out (fun hH => ?_)
  clear hK K o b
  try simp only [Act.put, List.getElem_toArray, List.getElem_cons_zero, List.getElem_cons_succ, List.setIfInBounds_toArray, List.set_cons_zero, List.set_cons_succ]
  refine wpAnyH_take (i := 5) (oi := _) (v := .tuple #[v2, .int .i64 c]) rfl (by kernel_rfl) (by kernel_rfl) (by kernel_rfl) (fun _ _ _ h => h) (Or.inl ⟨by rfl, fun w' hw' => by go_simp⟩) hH ?_
  try simp only [Act.put, List.getElem_toArray, List.getElem_cons_zero, List.getElem_cons_succ, List.setIfInBounds_toArray, List.set_cons_zero, List.set_cons_succ]
  refine wpAnyH_take (i := 6) (oi := _) (v := v2) rfl (by kernel_rfl) (by kernel_rfl) (by kernel_rfl) (fun _ _ _ h => h) (Or.inl ⟨by rfl, fun w' hw' => by go_simp⟩) hH ?_
  try simp only [Act.put, List.getElem_toArray, List.getElem_cons_zero, List.getElem_cons_succ, List.setIfInBounds_toArray, List.set_cons_zero, List.set_cons_succ]
  refine wpAnyH_take (i := 7) (oi := _) (v := .int .i64 c) rfl (by kernel_rfl) (by kernel_rfl) (by kernel_rfl) (fun _ _ _ h => h) (Or.inl ⟨by rfl, fun w' hw' => by go_simp⟩) hH ?_
  try simp only [Act.put, List.getElem_toArray, List.getElem_cons_zero, List.getElem_cons_succ, List.setIfInBounds_toArray, List.set_cons_zero, List.set_cons_succ]
  refine wpAnyH_take (i := 8) (oi := _) (v := v2) rfl (by kernel_rfl) (by kernel_rfl) (by kernel_rfl) (fun _ _ _ h => h) (Or.inl ⟨by rfl, fun w' hw' => by go_simp⟩) hH ?_
  try simp only [Act.put, List.getElem_toArray, List.getElem_cons_zero, List.getElem_cons_succ, List.setIfInBounds_toArray, List.set_cons_zero, List.set_cons_succ]
  refine wpAnyH_take (i := 9) (oi := _) (v := .int .i64 c) rfl (by kernel_rfl) (by kernel_rfl) (by kernel_rfl) (fun _ _ _ h => h) (Or.inl ⟨by rfl, fun w' hw' => by go_simp⟩) hH ?_
  try simp only [Act.put, List.getElem_toArray, List.getElem_cons_zero, List.getElem_cons_succ, List.setIfInBounds_toArray, List.set_cons_zero, List.set_cons_succ]
  refine wpAnyH_done (by kernel_rfl) (NoPanic.normal ?_) _
  clear hH
  clear T0o4 Lt0 Zt0
  go_wp2_with fail
  refine (toByteS_any _ zs _ (H.out.1.below B4.out) (by omega)).mono ?_
  rintro e w5 ⟨x0, rfl, o, b⟩
  have V2o5 := hide (own_below V2o4.out b)
  clear V2o4
  have S5 := hide b.size
  have B5 := hide (B4.out.trans (b.mono B4.out.size))
  have K5 := hide (K4.out.below b K4.out.lt)
  clear K4
  have X0o5 := hide o
  have Lx0 := hide (fun k hk => X0o5.out.lt (v := x0) k hk)
  have Zx0 := hide B4.out.size
  clear o b
  go_wp2_with (first | (refine wpList_load_row rfl 47 _ rfl w.heap.size rfl 47 (entC nm ino kd) (0, 0) _ K5.out Tryd.underlying47 rfl infoLD3 ?_) | (go_at_call 34; fail))
  refine (toDirent_any nm ino kd _).mono ?_
  rintro e w6 ⟨rfl, b⟩
  have V2o6 := hide (own_below V2o5.out b)
  clear V2o5
  have X0o6 := hide (own_below X0o5.out b)
  clear X0o5
  have S6 := hide b.size
  have B6 := hide (B5.out.trans (b.mono B5.out.size))
  have K6 := hide (K5.out.below b K5.out.lt)
  clear K5
  clear b
  go_wp2_with fail
  refine (HI.out x0 _ (Rd.own X0o6.out) (H.out.2.below B6.out)).mono ?_
  rintro e w7 ⟨g0, rfl, o, b⟩
  have V2o7 := hide (own_below V2o6.out b)
  clear V2o6
  have X0o7 := hide (own_below X0o6.out b)
  clear X0o6
  have S7 := hide b.size
  have B7 := hide (B6.out.trans (b.mono B6.out.size))
  have K7 := hide (K6.out.below b K6.out.lt)
  clear K6
  have G0o7 := hide o
  have Lg0 := hide (fun k hk => G0o7.out.lt (v := g0) k hk)
  have Zg0 := hide B6.out.size
  clear o b
  go_wp2_with fail
  refine (eqByteS_same g0 v2 R _ (Rd.own G0o7.out) (Rd.own V2o7.out)).mono ?_
  rintro e w8 ⟨rfl, b⟩
  have V2o8 := hide (own_below V2o7.out b)
  clear V2o7
  have X0o8 := hide (own_below X0o7.out b)
  clear X0o7
  have G0o8 := hide (own_below G0o7.out b)
  clear G0o7
  have S8 := hide b.size
  have B8 := hide (B7.out.trans (b.mono B7.out.size))
  have K8 := hide (K7.out.below b K7.out.lt)
  clear K7
  clear b
  go_wp2_with fail
  refine (toByteS_any _ zs _ (H.out.1.below B8.out) (by omega)).mono ?_
  rintro e w9 ⟨t0, rfl, o, b⟩
  have V2o9 := hide (own_below V2o8.out b)
  clear V2o8
  have X0o9 := hide (own_below X0o8.out b)
  clear X0o8
  have G0o9 := hide (own_below G0o8.out b)
  clear G0o8
  have S9 := hide b.size
  have B9 := hide (B8.out.trans (b.mono B8.out.size))
  have K9 := hide (K8.out.below b K8.out.lt)
  clear K8
  have T0o9 := hide o
  have Lt0 := hide (fun k hk => T0o9.out.lt (v := t0) k hk)
  have Zt0 := hide B8.out.size
  clear o b
  go_wp2_with fail
  refine (eqByteS_same x0 t0 zs _ (Rd.own X0o9.out) (Rd.own T0o9.out)).mono ?_
  rintro e w10 ⟨rfl, b⟩
  have V2o10 := hide (own_below V2o9.out b)
  clear V2o9
  have X0o10 := hide (own_below X0o9.out b)
  clear X0o9
  have G0o10 := hide (own_below G0o9.out b)
  clear G0o9
  have T0o10 := hide (own_below T0o9.out b)
  clear T0o9
  have S10 := hide b.size
  have B10 := hide (B9.out.trans (b.mono B9.out.size))
  have K10 := hide (K9.out.below b K9.out.lt)
  clear K9
  clear b
  clear T0o10 Lt0 Zt0
  go_wp2_with fail
  refine (markByteS_any x0 w4.heap.size zs.length 1 _ _ X0o10.out (by omega) (by omega)).mono ?_
  rintro e w11 ⟨he, o, g⟩
  rw [← HK1.out] at he
  subst he
  have V2o11 := hide (V2o10.out.kept g (apart2 Lv2.out Lx0.out (by have := S1.out; have := S2.out; have := S3.out; have := S4.out; have := S5.out; have := S6.out; have := S7.out; have := S8.out; have := S9.out; have := S10.out; omega)))
  clear V2o10
  have G0o11 := hide (G0o10.out.kept g (apart2 Lg0.out Lx0.out (by have := S1.out; have := S2.out; have := S3.out; have := S4.out; have := S5.out; have := S6.out; have := S7.out; have := S8.out; have := S9.out; have := S10.out; omega)))
  clear G0o10
  have B11 := hide (B10.out.grown g B10.out.size (fun k hk => Nat.le_trans Zx0.out (X0o10.out.lt k hk).1))
  have K11 := hide (show Blk w11 w.heap.size (entC nm ino kd) 47 from (g.block _ K10.out.lt (fun e => by have h1 := (X0o10.out.lt _ e.symm).1; have := S1.out; have := S2.out; have := S3.out; have := S4.out; have := S5.out; have := S6.out; have := S7.out; have := S8.out; have := S9.out; have := S10.out; have := hl1.out; omega)).trans K10.out)
  clear K10
  have S11 := hide g.size
  have X0o11 := hide o
  clear o g X0o10
  clear X0o11 Lx0 Zx0
  go_wp2_with fail
  refine (eqByteS_same g0 v2 R _ (Rd.own G0o11.out) (Rd.own V2o11.out)).mono ?_
  rintro e w12 ⟨rfl, b⟩
  have V2o12 := hide (own_below V2o11.out b)
  clear V2o11
  have G0o12 := hide (own_below G0o11.out b)
  clear G0o11
  have S12 := hide b.size
  have B12 := hide (B11.out.trans (b.mono B11.out.size))
  have K12 := hide (K11.out.below b K11.out.lt)
  clear K11
  clear b
  go_wp2_with fail
  refine (markByteS_any g0 w6.heap.size R.length 1 _ _ G0o12.out (by omega) (by omega)).mono ?_
  rintro e w13 ⟨he, o, g⟩
  rw [← HM.out] at he
  subst he
  have V2o13 := hide (V2o12.out.kept g (apart2 Lv2.out Lg0.out (by have := S1.out; have := S2.out; have := S3.out; have := S4.out; have := S5.out; have := S6.out; have := S7.out; have := S8.out; have := S9.out; have := S10.out; have := S11.out; have := S12.out; omega)))
  clear V2o12
  have B13 := hide (B12.out.grown g B12.out.size (fun k hk => Nat.le_trans Zg0.out (G0o12.out.lt k hk).1))
  have K13 := hide (show Blk w13 w.heap.size (entC nm ino kd) 47 from (g.block _ K12.out.lt (fun e => by have h1 := (G0o12.out.lt _ e.symm).1; have := S1.out; have := S2.out; have := S3.out; have := S4.out; have := S5.out; have := S6.out; have := S7.out; have := S8.out; have := S9.out; have := S10.out; have := S11.out; have := S12.out; have := hl1.out; omega)).trans K12.out)
  clear K12
  have S13 := hide g.size
  have G0o13 := hide o
  clear o g G0o12
  go_wp2_with fail
  refine (heldByteS_any g0 R.length 1 _ (Rd.own G0o13.out) (by omega) (by omega)).mono ?_
  rintro e wq ⟨he, hwq⟩
  rw [← HM.out] at he
  subst he
  rw [hwq]
  clear hwq wq
  go_wp2_with fail
  refine wp_region_noPanic ?_
  refine wp_region_held_drew (S := fun w' => Blk w' w.heap.size (entC nm ino kd) 47) (by kernel_rfl) K13.out (fun hH => ?_)
  refine wpAnyH_take (i := 0) (oi := _) (v := .slice a0 zs.length cap0) rfl (by kernel_rfl) (by kernel_rfl) (by kernel_rfl) (fun _ _ _ h => h) (Or.inl ⟨by rfl, fun w' hw' => by go_simp⟩) hH ?_
  try simp only [Act.put, List.getElem_toArray, List.getElem_cons_zero, List.getElem_cons_succ, List.setIfInBounds_toArray, List.set_cons_zero, List.set_cons_succ]
  refine wpAnyH_take (i := 2) (oi := _) (v := .agg (entC nm ino kd)) rfl (by kernel_rfl) (by kernel_rfl) (by kernel_rfl) (fun _ _ _ h => h) (yieldsIf_load_mid (by rfl) 47 _ rfl w.heap.size 0 rfl (entC nm ino kd).toList _ (fun w' h => ent_range h) Tryd.underlying47 rfl infoLD3) hH ?_
  try simp only [Act.put, List.getElem_toArray, List.getElem_cons_zero, List.getElem_cons_succ, List.setIfInBounds_toArray, List.set_cons_zero, List.set_cons_succ]
  refine wpAnyH_ready (rs := [1]) (by kernel_rfl) (by simp) ?_
  refine AllReadyH.cons (o := _) rfl (fun K hK => ?_) AllReadyH.nil
  go_simp
  refine (toByteS_any _ zs _ (H.out.1.below B13.out.drew) (by omega)).mono ?_
  rintro e w14 ⟨t0, rfl, o, b⟩
  have b := ((Below.refl _ _).drew).trans b
  have o := own_mono o (Nat.le_refl w13.heap.size)
  have V2o14 := hide (own_below V2o13.out b)
  clear V2o13
  have G0o14 := hide (own_below G0o13.out b)
  clear G0o13
  have S14 := hide b.size
  have B14 := hide (B13.out.trans (b.mono B13.out.size))
  have K14 := hide (K13.out.below b K13.out.lt)
  clear K13
  have T0o14 := hide o
  have Lt0 := hide (fun k hk => T0o14.out.lt (v := t0) k hk)
  have Zt0 := hide B13.out.size
  refine hK.out _ _ K14.out (fun hH => ?_)
  clear hK K o b
  try simp only [Act.put, List.getElem_toArray, List.getElem_cons_zero, List.getElem_cons_succ, List.setIfInBounds_toArray, List.set_cons_zero, List.set_cons_succ]
  refine wpAnyH_ready (rs := [3]) (by kernel_rfl) (by simp) ?_
  refine AllReadyH.cons (o := _) rfl (fun K hK => ?_) AllReadyH.nil
  go_simp
  refine (toDirent_any nm ino kd _).mono ?_
  rintro e w15 ⟨rfl, b⟩
  have V2o15 := hide (own_below V2o14.out b)
  clear V2o14
  have G0o15 := hide (own_below G0o14.out b)
  clear G0o14
  have T0o15 := hide (own_below T0o14.out b)
  clear T0o14
  have S15 := hide b.size
  have B15 := hide (B14.out.trans (b.mono B14.out.size))
  have K15 := hide (K14.out.below b K14.out.lt)
  clear K14
  refine hK.out _ _ K15.out (fun hH => ?_)
  clear hK K b
  try simp only [Act.put, List.getElem_toArray, List.getElem_cons_zero, List.getElem_cons_succ, List.setIfInBounds_toArray, List.set_cons_zero, List.set_cons_succ]
  refine wpAnyH_ready (rs := [4]) (by kernel_rfl) (by simp) ?_
  refine AllReadyH.cons (o := _) rfl (fun K hK => ?_) AllReadyH.nil
  go_simp
  refine (HI.out t0 _ (Rd.own T0o15.out) (H.out.2.below B15.out)).mono ?_
  rintro e w16 ⟨h0, rfl, o, b⟩
  have V2o16 := hide (own_below V2o15.out b)
  clear V2o15
  have G0o16 := hide (own_below G0o15.out b)
  clear G0o15
  have T0o16 := hide (own_below T0o15.out b)
  clear T0o15
  have S16 := hide b.size
  have B16 := hide (B15.out.trans (b.mono B15.out.size))
  have K16 := hide (K15.out.below b K15.out.lt)
  clear K15
  have H0o16 := hide o
  have Lh0 := hide (fun k hk => H0o16.out.lt (v := h0) k hk)
  have Zh0 := hide B15.out.size
  refine hK.out _ _ K16.out (fun hH => ?_)
  clear hK K o b
  try simp only [Act.put, List.getElem_toArray, List.getElem_cons_zero, List.getElem_cons_succ, List.setIfInBounds_toArray, List.set_cons_zero, List.set_cons_succ]
  refine wpAnyH_take (i := 5) (oi := _) (v := .tuple #[h0, .int .i64 c]) rfl (by kernel_rfl) (by kernel_rfl) (by kernel_rfl) (fun _ _ _ h => h) (Or.inl ⟨by rfl, fun w' hw' => by go_simp⟩) hH ?_
  try simp only [Act.put, List.getElem_toArray, List.getElem_cons_zero, List.getElem_cons_succ, List.setIfInBounds_toArray, List.set_cons_zero, List.set_cons_succ]
  refine wpAnyH_take (i := 6) (oi := _) (v := h0) rfl (by kernel_rfl) (by kernel_rfl) (by kernel_rfl) (fun _ _ _ h => h) (Or.inl ⟨by rfl, fun w' hw' => by go_simp⟩) hH ?_
  try simp only [Act.put, List.getElem_toArray, List.getElem_cons_zero, List.getElem_cons_succ, List.setIfInBounds_toArray, List.set_cons_zero, List.set_cons_succ]
  refine wpAnyH_take (i := 7) (oi := _) (v := .int .i64 c) rfl (by kernel_rfl) (by kernel_rfl) (by kernel_rfl) (fun _ _ _ h => h) (Or.inl ⟨by rfl, fun w' hw' => by go_simp⟩) hH ?_
  try simp only [Act.put, List.getElem_toArray, List.getElem_cons_zero, List.getElem_cons_succ, List.setIfInBounds_toArray, List.set_cons_zero, List.set_cons_succ]
  refine wpAnyH_take (i := 8) (oi := _) (v := h0) rfl (by kernel_rfl) (by kernel_rfl) (by kernel_rfl) (fun _ _ _ h => h) (Or.inl ⟨by rfl, fun w' hw' => by go_simp⟩) hH ?_
  try simp only [Act.put, List.getElem_toArray, List.getElem_cons_zero, List.getElem_cons_succ, List.setIfInBounds_toArray, List.set_cons_zero, List.set_cons_succ]
  refine wpAnyH_take (i := 9) (oi := _) (v := .int .i64 c) rfl (by kernel_rfl) (by kernel_rfl) (by kernel_rfl) (fun _ _ _ h => h) (Or.inl ⟨by rfl, fun w' hw' => by go_simp⟩) hH ?_
  try simp only [Act.put, List.getElem_toArray, List.getElem_cons_zero, List.getElem_cons_succ, List.setIfInBounds_toArray, List.set_cons_zero, List.set_cons_succ]
  refine wpAnyH_done (by kernel_rfl) (NoPanic.normal ?_) _
  clear hH
  clear T0o16 Lt0 Zt0
  go_wp2_with fail
  refine (eqByteS_same h0 v2 R _ (Rd.own H0o16.out) (Rd.own V2o16.out)).mono ?_
  rintro e w17 ⟨rfl, b⟩
  have V2o17 := hide (own_below V2o16.out b)
  clear V2o16
  have G0o17 := hide (own_below G0o16.out b)
  clear G0o16
  have H0o17 := hide (own_below H0o16.out b)
  clear H0o16
  have S17 := hide b.size
  have B17 := hide (B16.out.trans (b.mono B16.out.size))
  have K17 := hide (K16.out.below b K16.out.lt)
  clear K16
  clear b
  go_wp2_with fail
  refine (heldByteS_any g0 R.length 1 _ (Rd.own G0o17.out) (by omega) (by omega)).mono ?_
  rintro e wq ⟨he, hwq⟩
  rw [← HM.out] at he
  subst he
  rw [hwq]
  clear hwq wq
  go_wp2
  go_ret
  exact ⟨rfl, B17.out⟩
end Go.Proofs.YtdcpcgiehmincaaDoor
