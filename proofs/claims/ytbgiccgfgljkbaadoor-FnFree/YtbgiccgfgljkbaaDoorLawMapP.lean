/- The law on MapPlane, walked: it answers true and turns nothing that was there. -/
import Derived.Test.YtbgiccgfgljkbaaDoorPlaneC
import Derived.Test.YtbgiccgfgljkbaaDoorPlaneD
import Derived.Test.YtbgiccgfgljkbaaDoorApart
namespace Go.Proofs.YtbgiccgfgljkbaaDoor
set_option linter.unusedVariables false
set_option linter.unusedSimpArgs false
open Go.RowKit

theorem plane_split (ws : List Int) (p : Int) (h : planeB ws p = true) : rightM ws = true ∧ ∃ q : Nat, p = (q : Int) ∧ q < 32 := by
  unfold planeB at h
  simp only [Bool.and_eq_true, decide_eq_true_eq] at h
  exact ⟨h.1, p.toNat, by omega, by omega⟩
theorem implP_any (v v2 : Value) (ws ss : List Int) (p : Int) (w : World) (h : Rd .i64 w v ws) (h2 : Rd .i64 w v2 ss) (hg : ErrT w) :
    Calls Tryd.prog 13 #[v, .int .i64 p, v2] w fun e w' => ∃ v', e = .returned (.tuple #[v', .int .i64 (codeP ws p ss)]) ∧ w'.ownsRow w.heap.size 3 1 v' (planeM ws p ss).length ((planeM ws p ss).map (Value.int .i64)) ∧ Below w.heap.size w w' := by
  cases hr : planeB ws p with
  | true =>
    obtain ⟨h3, q, rfl, hq⟩ := plane_split ws p hr
    exact implP_good v v2 ws ss q w h h2 h3 hq
  | false =>
    refine (implP_bad v v2 ws ss p w h h2 hg hr).mono ?_
    rintro e w' ⟨rfl, hb⟩
    rw [show codeP ws p ss = 7 from by simp [codeP, hr], show planeM ws p ss = [] from by simp [planeM, hr]]
    exact ⟨_, rfl, World.ownsRow_nil _ _ _ _, hb⟩
theorem specP_any (v v2 : Value) (ws ss : List Int) (p : Int) (w : World) (h : Rd .i64 w v ws) (h2 : Rd .i64 w v2 ss) :
    Calls Tryd.prog 12 #[v, .int .i64 p, v2] w fun e w' => ∃ v', e = .returned (.tuple #[v', .int .i64 (codeP ws p ss)]) ∧ w'.ownsRow w.heap.size 3 1 v' (planeM ws p ss).length ((planeM ws p ss).map (Value.int .i64)) ∧ Below w.heap.size w w' := by
  cases hr : planeB ws p with
  | true =>
    obtain ⟨h3, q, rfl, hq⟩ := plane_split ws p hr
    exact specP_good v v2 ws ss q w h h2 h3 hq
  | false =>
    refine (specP_bad v v2 ws ss p w h h2 hr).mono ?_
    rintro e w' ⟨rfl, hb⟩
    rw [show codeP ws p ss = 7 from by simp [codeP, hr], show planeM ws p ss = [] from by simp [planeM, hr]]
    exact ⟨_, rfl, World.ownsRow_nil _ _ _ _, hb⟩

set_option maxRecDepth 100000 in
set_option maxHeartbeats 2000000 in
theorem lawMapP (v0 v1 : Value) (p : Int) (ws ss : List Int) (w : World) (h : Rd .i64 w v0 ws) (h2 : Rd .i64 w v1 ss) (hg : ErrT w) :
    Calls Tryd.prog 4 #[v0, .int .i64 p, v1] w fun e w' => e = .returned (.bool true) ∧ Below w.heap.size w w' := by
  have hm := h.len
  have hm2 := h2.len
  unfold maxLen at hm hm2
  have hsh : ∃ a cap, v0 = .slice a ws.length cap := by obtain ⟨a, cap, h1, _⟩ := h; exact ⟨a, cap, h1⟩
  obtain ⟨a0, cap0, rfl⟩ := hsh
  have hsh2 : ∃ a cap, v1 = .slice a ss.length cap := by obtain ⟨a, cap, h1, _⟩ := h2; exact ⟨a, cap, h1⟩
  obtain ⟨a1, cap1, rfl⟩ := hsh2
  have H := hide (And.intro h (And.intro h2 hg))
  clear h h2 hg
  by_cases hbig : (1048576 : Int) < (ws.length : Int)
  · go_enter Tryd.func4, Tryd.ntmps4
    go_wp2
    go_ret
    exact ⟨rfl, Below.refl _ _⟩
  · by_cases hbig2 : (1048576 : Int) < (ss.length : Int)
    · go_enter Tryd.func4, Tryd.ntmps4
      go_wp2
      go_ret
      exact ⟨rfl, Below.refl _ _⟩
    have hsm : ws.length ≤ 1048576 := by omega
    have hsm2 : ss.length ≤ 1048576 := by omega
    clear hbig hbig2 hm hm2
    have HS := hide (fun (v v2 : Value) (w : World) (hr : Rd .i64 w v ws) (hr2 : Rd .i64 w v2 ss) => specP_any v v2 ws ss p w hr hr2)
    have HI := hide (fun (v v2 : Value) (w : World) (hr : Rd .i64 w v ws) (hr2 : Rd .i64 w v2 ss) (hg : ErrT w) => implP_any v v2 ws ss p w hr hr2 hg)
    have hR : (planeM ws p ss).length ≤ 1048576 := Nat.le_trans (planeM_len ws p ss) hsm
    generalize planeM ws p ss = R at HS HI hR
    generalize codeP ws p ss = c at HS HI
    have hcc : (c != c) = false := by simp
    obtain ⟨K1, hK1⟩ : ∃ K : Nat, K = 1 + ws.length := ⟨_, rfl⟩
    have hK1b : K1 ≤ 1048577 := by omega
    obtain ⟨K2, hK2⟩ : ∃ K : Nat, K = K1 + ss.length := ⟨_, rfl⟩
    have hK2b : K2 ≤ 2097153 := by omega
    obtain ⟨M, hM⟩ : ∃ K : Nat, K = 1 + R.length := ⟨_, rfl⟩
    have hMb : M ≤ 1048577 := by omega
    have HK1 := hide hK1
    have HK2 := hide hK2
    have HM := hide hM
    clear hK1 hK2 hM
    go_enter Tryd.func4, Tryd.ntmps4
    have B0 := hide (Below.refl w.heap.size w)
    go_wp2_with fail
    refine (toIntS_any _ ws _ (H.out.1.below B0.out) (by omega)).mono ?_
    rintro e w1 ⟨t0, rfl, o, b⟩
    have S1 := hide b.size
    have B1 := hide (B0.out.trans (b.mono B0.out.size))
    have T0o1 := hide o
    have Lt0 := hide (fun k hk => T0o1.out.lt (v := t0) k hk)
    have Zt0 := hide B0.out.size
    clear o b
    go_wp2_with fail
    refine (toIntS_any _ ss _ (H.out.2.1.below B1.out) (by omega)).mono ?_
    rintro e w2 ⟨t1, rfl, o, b⟩
    have T0o2 := hide (own_below T0o1.out b)
    clear T0o1
    have S2 := hide b.size
    have B2 := hide (B1.out.trans (b.mono B1.out.size))
    have T1o2 := hide o
    have Lt1 := hide (fun k hk => T1o2.out.lt (v := t1) k hk)
    have Zt1 := hide B1.out.size
    clear o b
    go_wp2_with fail
    refine (HS.out t0 t1 _ (Rd.own T0o2.out) (Rd.own T1o2.out)).mono ?_
    rintro e w3 ⟨v2, rfl, o, b⟩
    have T0o3 := hide (own_below T0o2.out b)
    clear T0o2
    have T1o3 := hide (own_below T1o2.out b)
    clear T1o2
    have S3 := hide b.size
    have B3 := hide (B2.out.trans (b.mono B2.out.size))
    have V2o3 := hide o
    have Lv2 := hide (fun k hk => V2o3.out.lt (v := v2) k hk)
    have Zv2 := hide B2.out.size
    clear o b
    clear T0o3 Lt0 Zt0
    clear T1o3 Lt1 Zt1
    go_wp2_with fail
    refine (toIntS_any _ ws _ (H.out.1.below B3.out) (by omega)).mono ?_
    rintro e w4 ⟨x0, rfl, o, b⟩
    have V2o4 := hide (own_below V2o3.out b)
    clear V2o3
    have S4 := hide b.size
    have B4 := hide (B3.out.trans (b.mono B3.out.size))
    have X0o4 := hide o
    have Lx0 := hide (fun k hk => X0o4.out.lt (v := x0) k hk)
    have Zx0 := hide B3.out.size
    clear o b
    go_wp2_with fail
    refine (toIntS_any _ ss _ (H.out.2.1.below B4.out) (by omega)).mono ?_
    rintro e w5 ⟨x2, rfl, o, b⟩
    have V2o5 := hide (own_below V2o4.out b)
    clear V2o4
    have X0o5 := hide (own_below X0o4.out b)
    clear X0o4
    have S5 := hide b.size
    have B5 := hide (B4.out.trans (b.mono B4.out.size))
    have X2o5 := hide o
    have Lx2 := hide (fun k hk => X2o5.out.lt (v := x2) k hk)
    have Zx2 := hide B4.out.size
    clear o b
    go_wp2_with fail
    refine (HI.out x0 x2 _ (Rd.own X0o5.out) (Rd.own X2o5.out) (H.out.2.2.below B5.out)).mono ?_
    rintro e w6 ⟨g0, rfl, o, b⟩
    have V2o6 := hide (own_below V2o5.out b)
    clear V2o5
    have X0o6 := hide (own_below X0o5.out b)
    clear X0o5
    have X2o6 := hide (own_below X2o5.out b)
    clear X2o5
    have S6 := hide b.size
    have B6 := hide (B5.out.trans (b.mono B5.out.size))
    have G0o6 := hide o
    have Lg0 := hide (fun k hk => G0o6.out.lt (v := g0) k hk)
    have Zg0 := hide B5.out.size
    clear o b
    go_wp2_with fail
    refine (eqIntS_same g0 v2 R _ (Rd.own G0o6.out) (Rd.own V2o6.out)).mono ?_
    rintro e w7 ⟨rfl, b⟩
    have V2o7 := hide (own_below V2o6.out b)
    clear V2o6
    have X0o7 := hide (own_below X0o6.out b)
    clear X0o6
    have X2o7 := hide (own_below X2o6.out b)
    clear X2o6
    have G0o7 := hide (own_below G0o6.out b)
    clear G0o6
    have S7 := hide b.size
    have B7 := hide (B6.out.trans (b.mono B6.out.size))
    clear b
    go_wp2_with fail
    refine (toIntS_any _ ws _ (H.out.1.below B7.out) (by omega)).mono ?_
    rintro e w8 ⟨t0, rfl, o, b⟩
    have V2o8 := hide (own_below V2o7.out b)
    clear V2o7
    have X0o8 := hide (own_below X0o7.out b)
    clear X0o7
    have X2o8 := hide (own_below X2o7.out b)
    clear X2o7
    have G0o8 := hide (own_below G0o7.out b)
    clear G0o7
    have S8 := hide b.size
    have B8 := hide (B7.out.trans (b.mono B7.out.size))
    have T0o8 := hide o
    have Lt0 := hide (fun k hk => T0o8.out.lt (v := t0) k hk)
    have Zt0 := hide B7.out.size
    clear o b
    go_wp2_with fail
    refine (eqIntS_same x0 t0 ws _ (Rd.own X0o8.out) (Rd.own T0o8.out)).mono ?_
    rintro e w9 ⟨rfl, b⟩
    have V2o9 := hide (own_below V2o8.out b)
    clear V2o8
    have X0o9 := hide (own_below X0o8.out b)
    clear X0o8
    have X2o9 := hide (own_below X2o8.out b)
    clear X2o8
    have G0o9 := hide (own_below G0o8.out b)
    clear G0o8
    have T0o9 := hide (own_below T0o8.out b)
    clear T0o8
    have S9 := hide b.size
    have B9 := hide (B8.out.trans (b.mono B8.out.size))
    clear b
    clear T0o9 Lt0 Zt0
    go_wp2_with fail
    refine (toIntS_any _ ss _ (H.out.2.1.below B9.out) (by omega)).mono ?_
    rintro e w10 ⟨t0, rfl, o, b⟩
    have V2o10 := hide (own_below V2o9.out b)
    clear V2o9
    have X0o10 := hide (own_below X0o9.out b)
    clear X0o9
    have X2o10 := hide (own_below X2o9.out b)
    clear X2o9
    have G0o10 := hide (own_below G0o9.out b)
    clear G0o9
    have S10 := hide b.size
    have B10 := hide (B9.out.trans (b.mono B9.out.size))
    have T0o10 := hide o
    have Lt0 := hide (fun k hk => T0o10.out.lt (v := t0) k hk)
    have Zt0 := hide B9.out.size
    clear o b
    go_wp2_with fail
    refine (eqIntS_same x2 t0 ss _ (Rd.own X2o10.out) (Rd.own T0o10.out)).mono ?_
    rintro e w11 ⟨rfl, b⟩
    have V2o11 := hide (own_below V2o10.out b)
    clear V2o10
    have X0o11 := hide (own_below X0o10.out b)
    clear X0o10
    have X2o11 := hide (own_below X2o10.out b)
    clear X2o10
    have G0o11 := hide (own_below G0o10.out b)
    clear G0o10
    have T0o11 := hide (own_below T0o10.out b)
    clear T0o10
    have S11 := hide b.size
    have B11 := hide (B10.out.trans (b.mono B10.out.size))
    clear b
    clear T0o11 Lt0 Zt0
    go_wp2_with fail
    refine (markIntS_any x0 w3.heap.size ws.length 1 _ _ X0o11.out (by omega) (by omega)).mono ?_
    rintro e w12 ⟨he, o, g⟩
    rw [← HK1.out] at he
    subst he
    have V2o12 := hide (V2o11.out.kept g (apart2 Lv2.out Lx0.out (by have := S1.out; have := S2.out; have := S3.out; have := S4.out; have := S5.out; have := S6.out; have := S7.out; have := S8.out; have := S9.out; have := S10.out; have := S11.out; omega)))
    clear V2o11
    have X2o12 := hide (X2o11.out.kept g (apart2 Lx2.out Lx0.out (by have := S1.out; have := S2.out; have := S3.out; have := S4.out; have := S5.out; have := S6.out; have := S7.out; have := S8.out; have := S9.out; have := S10.out; have := S11.out; omega)))
    clear X2o11
    have G0o12 := hide (G0o11.out.kept g (apart2 Lg0.out Lx0.out (by have := S1.out; have := S2.out; have := S3.out; have := S4.out; have := S5.out; have := S6.out; have := S7.out; have := S8.out; have := S9.out; have := S10.out; have := S11.out; omega)))
    clear G0o11
    have B12 := hide (B11.out.grown g B11.out.size (fun k hk => Nat.le_trans Zx0.out (X0o11.out.lt k hk).1))
    have S12 := hide g.size
    have X0o12 := hide o
    clear o g X0o11
    go_wp2_with fail
    refine (markIntS_any x2 w4.heap.size ss.length K1 _ _ X2o12.out (by omega) (by omega)).mono ?_
    rintro e w13 ⟨he, o, g⟩
    rw [← HK2.out] at he
    subst he
    have V2o13 := hide (V2o12.out.kept g (apart2 Lv2.out Lx2.out (by have := S1.out; have := S2.out; have := S3.out; have := S4.out; have := S5.out; have := S6.out; have := S7.out; have := S8.out; have := S9.out; have := S10.out; have := S11.out; have := S12.out; omega)))
    clear V2o12
    have X0o13 := hide (X0o12.out.kept g (apart2 Lx0.out Lx2.out (by have := S1.out; have := S2.out; have := S3.out; have := S4.out; have := S5.out; have := S6.out; have := S7.out; have := S8.out; have := S9.out; have := S10.out; have := S11.out; have := S12.out; omega)))
    clear X0o12
    have G0o13 := hide (G0o12.out.kept g (apart2 Lg0.out Lx2.out (by have := S1.out; have := S2.out; have := S3.out; have := S4.out; have := S5.out; have := S6.out; have := S7.out; have := S8.out; have := S9.out; have := S10.out; have := S11.out; have := S12.out; omega)))
    clear G0o12
    have B13 := hide (B12.out.grown g B12.out.size (fun k hk => Nat.le_trans Zx2.out (X2o12.out.lt k hk).1))
    have S13 := hide g.size
    have X2o13 := hide o
    clear o g X2o12
    clear X0o13 Lx0 Zx0
    clear X2o13 Lx2 Zx2
    go_wp2_with fail
    refine (eqIntS_same g0 v2 R _ (Rd.own G0o13.out) (Rd.own V2o13.out)).mono ?_
    rintro e w14 ⟨rfl, b⟩
    have V2o14 := hide (own_below V2o13.out b)
    clear V2o13
    have G0o14 := hide (own_below G0o13.out b)
    clear G0o13
    have S14 := hide b.size
    have B14 := hide (B13.out.trans (b.mono B13.out.size))
    clear b
    go_wp2_with fail
    refine (markIntS_any g0 w5.heap.size R.length 1 _ _ G0o14.out (by omega) (by omega)).mono ?_
    rintro e w15 ⟨he, o, g⟩
    rw [← HM.out] at he
    subst he
    have V2o15 := hide (V2o14.out.kept g (apart2 Lv2.out Lg0.out (by have := S1.out; have := S2.out; have := S3.out; have := S4.out; have := S5.out; have := S6.out; have := S7.out; have := S8.out; have := S9.out; have := S10.out; have := S11.out; have := S12.out; have := S13.out; have := S14.out; omega)))
    clear V2o14
    have B15 := hide (B14.out.grown g B14.out.size (fun k hk => Nat.le_trans Zg0.out (G0o14.out.lt k hk).1))
    have S15 := hide g.size
    have G0o15 := hide o
    clear o g G0o14
    go_wp2_with fail
    refine (heldIntS_any g0 R.length 1 _ (Rd.own G0o15.out) (by omega) (by omega)).mono ?_
    rintro e wq ⟨he, hwq⟩
    rw [← HM.out] at he
    subst he
    rw [hwq]
    clear hwq wq
    go_wp2_with fail
    refine (toIntS_any _ ws _ (H.out.1.below B15.out) (by omega)).mono ?_
    rintro e w16 ⟨t0, rfl, o, b⟩
    have V2o16 := hide (own_below V2o15.out b)
    clear V2o15
    have G0o16 := hide (own_below G0o15.out b)
    clear G0o15
    have S16 := hide b.size
    have B16 := hide (B15.out.trans (b.mono B15.out.size))
    have T0o16 := hide o
    have Lt0 := hide (fun k hk => T0o16.out.lt (v := t0) k hk)
    have Zt0 := hide B15.out.size
    clear o b
    go_wp2_with fail
    refine (toIntS_any _ ss _ (H.out.2.1.below B16.out) (by omega)).mono ?_
    rintro e w17 ⟨t1, rfl, o, b⟩
    have V2o17 := hide (own_below V2o16.out b)
    clear V2o16
    have G0o17 := hide (own_below G0o16.out b)
    clear G0o16
    have T0o17 := hide (own_below T0o16.out b)
    clear T0o16
    have S17 := hide b.size
    have B17 := hide (B16.out.trans (b.mono B16.out.size))
    have T1o17 := hide o
    have Lt1 := hide (fun k hk => T1o17.out.lt (v := t1) k hk)
    have Zt1 := hide B16.out.size
    clear o b
    go_wp2_with fail
    refine (HI.out t0 t1 _ (Rd.own T0o17.out) (Rd.own T1o17.out) (H.out.2.2.below B17.out)).mono ?_
    rintro e w18 ⟨h0, rfl, o, b⟩
    have V2o18 := hide (own_below V2o17.out b)
    clear V2o17
    have G0o18 := hide (own_below G0o17.out b)
    clear G0o17
    have T0o18 := hide (own_below T0o17.out b)
    clear T0o17
    have T1o18 := hide (own_below T1o17.out b)
    clear T1o17
    have S18 := hide b.size
    have B18 := hide (B17.out.trans (b.mono B17.out.size))
    have H0o18 := hide o
    have Lh0 := hide (fun k hk => H0o18.out.lt (v := h0) k hk)
    have Zh0 := hide B17.out.size
    clear o b
    go_wp2_with fail
    refine (eqIntS_same h0 v2 R _ (Rd.own H0o18.out) (Rd.own V2o18.out)).mono ?_
    rintro e w19 ⟨rfl, b⟩
    have V2o19 := hide (own_below V2o18.out b)
    clear V2o18
    have G0o19 := hide (own_below G0o18.out b)
    clear G0o18
    have T0o19 := hide (own_below T0o18.out b)
    clear T0o18
    have T1o19 := hide (own_below T1o18.out b)
    clear T1o18
    have H0o19 := hide (own_below H0o18.out b)
    clear H0o18
    have S19 := hide b.size
    have B19 := hide (B18.out.trans (b.mono B18.out.size))
    clear b
    go_wp2_with fail
    refine (heldIntS_any g0 R.length 1 _ (Rd.own G0o19.out) (by omega) (by omega)).mono ?_
    rintro e wq ⟨he, hwq⟩
    rw [← HM.out] at he
    subst he
    rw [hwq]
    clear hwq wq
    go_wp2
    go_ret
    exact ⟨rfl, B19.out⟩
end Go.Proofs.YtbgiccgfgljkbaaDoor
