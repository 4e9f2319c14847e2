/- The law on Snapshots, walked: it answers true and turns nothing that was there. -/
import Derived.Test.YtfkmnmopkblopaaGreatDoorZs42
import Derived.Test.YtfkmnmopkblopaaGreatDoorZs43
import Derived.Test.YtfkmnmopkblopaaGreatDoorZs03
import Derived.Test.YtfkmnmopkblopaaGreatDoorZs16
namespace Go.Proofs.YtfkmnmopkblopaaGreatDoor
set_option linter.unusedVariables false
set_option linter.unusedSimpArgs false
open Go.RowKit

set_option maxRecDepth 100000 in
set_option maxHeartbeats 2000000 in
theorem lawSns (v : Value) (zs : List Int) (w : World) (h : Rd .u8 w v zs) (hbd : ∀ z ∈ zs, 0 ≤ z ∧ z < 256) (hg : ErrT w) (hL : LetF w) (hS : LetS w) :
    Calls Tryz.prog 3 #[v] w fun e w' => e = .returned (.bool true) ∧ Below w.heap.size w w' := by
  have hm := h.len
  unfold maxLen at hm
  have hsh : ∃ a cap, v = .slice a zs.length cap := by obtain ⟨a, cap, h1, _⟩ := h; exact ⟨a, cap, h1⟩
  obtain ⟨a0, cap0, rfl⟩ := hsh
  have H := hide (And.intro h (And.intro hg (And.intro hL hS)))
  clear h hg hL hS
  by_cases hbig : (1048576 : Int) < (zs.length : Int)
  · go_enter Tryz.func3, Tryz.ntmps3
    go_wp2
    go_ret
    exact ⟨rfl, Below.refl _ _⟩
  have hsm : zs.length ≤ 1048576 := by omega
  clear hbig hm
  have HS := hide (fun (v : Value) (w : World) (hr : Rd .u8 w v zs) => specSns_any v zs w hr hbd hsm)
  have HI := hide (fun (v : Value) (w : World) (hr : Rd .u8 w v zs) (hg : ErrT w) (hL : LetF w) (hS : LetS w) => implSns_any v zs w hr hbd hsm hg hL hS)
  have hR : (snsL zs).length ≤ 31 := snsL_len zs
  have HA := hide (And.intro (snsL_all zs) (snsL_sc zs))
  generalize snsL zs = R at HS HI hR HA
  generalize snsC zs = c at HS HI
  have hcc : (c != c) = false := by simp
  obtain ⟨K1, hK1⟩ : ∃ K : Nat, K = 1 + zs.length := ⟨_, rfl⟩
  have hK1b : K1 ≤ 1048577 := by omega
  obtain ⟨M, hM⟩ : ∃ K : Int, K = 1 + ((R.length * 19 : Nat) : Int) := ⟨_, rfl⟩
  have hMb : 0 ≤ M ∧ M ≤ 1048577 := by omega
  have hMM : (M != M) = false := by simp
  have HK1 := hide hK1
  have HM := hide hM
  clear hK1 hM hbd
  go_enter Tryz.func3, Tryz.ntmps3
  have B0 := hide (Below.refl w.heap.size w)
  go_wp2_with fail
  refine (toByteS_any _ zs _ (H.out.1.below B0.out) (by omega)).mono ?_
  rintro e w1 ⟨t0, rfl, o, b⟩
  have S1 := hide b.size
  have B1 := hide (B0.out.trans (b.mono B0.out.size))
  have T0o1 := hide o
  have Lt0 := hide (fun k hk => T0o1.out.lt (v := t0) k hk)
  have Zt0 := hide B0.out.size
  clear o b
  go_wp2_with fail
  refine (HS.out t0 _ (Rd.own T0o1.out)).mono ?_
  rintro e w2 ⟨v2, rfl, o, b⟩
  have T0o2 := hide (own_below T0o1.out b)
  clear T0o1
  have S2 := hide b.size
  have B2 := hide (B1.out.trans (b.mono B1.out.size))
  have V2o2 := hide o
  have Lv2 := hide (fun k hk => V2o2.out.lt (v := v2) k hk)
  have Zv2 := hide B1.out.size
  clear o b
  clear T0o2 Lt0 Zt0
  go_wp2_with fail
  refine (toByteS_any _ zs _ (H.out.1.below B2.out) (by omega)).mono ?_
  rintro e w3 ⟨x0, rfl, o, b⟩
  have V2o3 := hide (own_below V2o2.out b)
  clear V2o2
  have S3 := hide b.size
  have B3 := hide (B2.out.trans (b.mono B2.out.size))
  have X0o3 := hide o
  have Lx0 := hide (fun k hk => X0o3.out.lt (v := x0) k hk)
  have Zx0 := hide B2.out.size
  clear o b
  go_wp2_with fail
  refine (HI.out x0 _ (Rd.own X0o3.out) (H.out.2.1.below B3.out) (H.out.2.2.1.below B3.out) (H.out.2.2.2.below B3.out)).mono ?_
  rintro e w4 ⟨g0, rfl, o, b⟩
  have V2o4 := hide (own_below V2o3.out b)
  clear V2o3
  have X0o4 := hide (own_below X0o3.out b)
  clear X0o3
  have S4 := hide b.size
  have B4 := hide (B3.out.trans (b.mono B3.out.size))
  have G0o4 := hide o
  have Lg0 := hide (fun k hk => G0o4.out.lt (v := g0) k hk)
  have Zg0 := hide B3.out.size
  clear o b
  go_wp2_with fail
  refine (eqSnapS_same w3.heap.size w1.heap.size g0 v2 R _ G0o4.out V2o4.out hR HA.out.1 HA.out.2).mono ?_
  rintro e w5 ⟨rfl, b⟩
  have V2o5 := hide (own_below V2o4.out b)
  clear V2o4
  have X0o5 := hide (own_below X0o4.out b)
  clear X0o4
  have G0o5 := hide (own_below G0o4.out b)
  clear G0o4
  have S5 := hide b.size
  have B5 := hide (B4.out.trans (b.mono B4.out.size))
  clear b
  go_wp2_with fail
  refine (toByteS_any _ zs _ (H.out.1.below B5.out) (by omega)).mono ?_
  rintro e w6 ⟨t0, rfl, o, b⟩
  have V2o6 := hide (own_below V2o5.out b)
  clear V2o5
  have X0o6 := hide (own_below X0o5.out b)
  clear X0o5
  have G0o6 := hide (own_below G0o5.out b)
  clear G0o5
  have S6 := hide b.size
  have B6 := hide (B5.out.trans (b.mono B5.out.size))
  have T0o6 := hide o
  have Lt0 := hide (fun k hk => T0o6.out.lt (v := t0) k hk)
  have Zt0 := hide B5.out.size
  clear o b
  go_wp2_with fail
  refine (eqByteS_same x0 t0 zs _ (Rd.own X0o6.out) (Rd.own T0o6.out)).mono ?_
  rintro e w7 ⟨rfl, b⟩
  have V2o7 := hide (own_below V2o6.out b)
  clear V2o6
  have X0o7 := hide (own_below X0o6.out b)
  clear X0o6
  have G0o7 := hide (own_below G0o6.out b)
  clear G0o6
  have T0o7 := hide (own_below T0o6.out b)
  clear T0o6
  have S7 := hide b.size
  have B7 := hide (B6.out.trans (b.mono B6.out.size))
  clear b
  clear T0o7 Lt0 Zt0
  go_wp2_with fail
  refine (markByteS_any x0 w2.heap.size zs.length 1 _ _ X0o7.out (by omega) (by omega)).mono ?_
  rintro e w8 ⟨he, o, g⟩
  rw [← HK1.out] at he
  subst he
  have V2o8 := hide (V2o7.out.kept g (apart2 Lv2.out Lx0.out (by have := S1.out; have := S2.out; have := S3.out; have := S4.out; have := S5.out; have := S6.out; have := S7.out; omega)))
  clear V2o7
  have G0o8 := hide (G0o7.out.kept g (apart2 Lg0.out Lx0.out (by have := S1.out; have := S2.out; have := S3.out; have := S4.out; have := S5.out; have := S6.out; have := S7.out; omega)))
  clear G0o7
  have B8 := hide (B7.out.grown g B7.out.size (fun k hk => Nat.le_trans Zx0.out (X0o7.out.lt k hk).1))
  have S8 := hide g.size
  have X0o8 := hide o
  clear o g X0o7
  clear X0o8 Lx0 Zx0
  go_wp2_with fail
  refine (eqSnapS_same w3.heap.size w1.heap.size g0 v2 R _ G0o8.out V2o8.out hR HA.out.1 HA.out.2).mono ?_
  rintro e w9 ⟨rfl, b⟩
  have V2o9 := hide (own_below V2o8.out b)
  clear V2o8
  have G0o9 := hide (own_below G0o8.out b)
  clear G0o8
  have S9 := hide b.size
  have B9 := hide (B8.out.trans (b.mono B8.out.size))
  clear b
  go_wp2_with fail
  refine (markSnapS_any g0 w3.heap.size R.length (rowSn R) _ G0o9.out hR).mono ?_
  rintro e w10 ⟨he, o, g⟩
  rw [← HM.out] at he
  subst he
  have V2o10 := hide (V2o9.out.kept g (apart2 Lv2.out Lg0.out (by have := S1.out; have := S2.out; have := S3.out; have := S4.out; have := S5.out; have := S6.out; have := S7.out; have := S8.out; have := S9.out; omega)))
  clear V2o9
  have B10 := hide (B9.out.grown g B9.out.size (fun k hk => Nat.le_trans Zg0.out (G0o9.out.lt k hk).1))
  have S10 := hide g.size
  have G0o10 := hide o
  clear o g G0o9
  go_wp2_with fail
  refine (heldSnapS_any g0 R.length _ G0o10.out hR).mono ?_
  rintro e w11 ⟨he, b⟩
  rw [← HM.out] at he
  subst he
  have V2o11 := hide (own_below V2o10.out b)
  clear V2o10
  have G0o11 := hide (G0o10.out.below b)
  clear G0o10
  have S11 := hide b.size
  have B11 := hide (B10.out.trans (b.mono B10.out.size))
  clear b
  go_wp2_with fail
  refine (toByteS_any _ zs _ (H.out.1.below B11.out) (by omega)).mono ?_
  rintro e w12 ⟨t0, rfl, o, b⟩
  have V2o12 := hide (own_below V2o11.out b)
  clear V2o11
  have G0o12 := hide (G0o11.out.below b)
  clear G0o11
  have S12 := hide b.size
  have B12 := hide (B11.out.trans (b.mono B11.out.size))
  have T0o12 := hide o
  have Lt0 := hide (fun k hk => T0o12.out.lt (v := t0) k hk)
  have Zt0 := hide B11.out.size
  clear o b
  go_wp2_with fail
  refine (HI.out t0 _ (Rd.own T0o12.out) (H.out.2.1.below B12.out) (H.out.2.2.1.below B12.out) (H.out.2.2.2.below B12.out)).mono ?_
  rintro e w13 ⟨h0, rfl, o, b⟩
  have V2o13 := hide (own_below V2o12.out b)
  clear V2o12
  have G0o13 := hide (G0o12.out.below b)
  clear G0o12
  have T0o13 := hide (own_below T0o12.out b)
  clear T0o12
  have S13 := hide b.size
  have B13 := hide (B12.out.trans (b.mono B12.out.size))
  have H0o13 := hide o
  have Lh0 := hide (fun k hk => H0o13.out.lt (v := h0) k hk)
  have Zh0 := hide B12.out.size
  clear o b
  go_wp2_with fail
  refine (eqSnapS_same w12.heap.size w1.heap.size h0 v2 R _ H0o13.out V2o13.out hR HA.out.1 HA.out.2).mono ?_
  rintro e w14 ⟨rfl, b⟩
  have V2o14 := hide (own_below V2o13.out b)
  clear V2o13
  have G0o14 := hide (G0o13.out.below b)
  clear G0o13
  have T0o14 := hide (own_below T0o13.out b)
  clear T0o13
  have H0o14 := hide (own_below H0o13.out b)
  clear H0o13
  have S14 := hide b.size
  have B14 := hide (B13.out.trans (b.mono B13.out.size))
  clear b
  go_wp2_with fail
  refine (heldSnapS_any g0 R.length _ G0o14.out hR).mono ?_
  rintro e w15 ⟨he, b⟩
  rw [← HM.out] at he
  subst he
  have V2o15 := hide (own_below V2o14.out b)
  clear V2o14
  have G0o15 := hide (G0o14.out.below b)
  clear G0o14
  have T0o15 := hide (own_below T0o14.out b)
  clear T0o14
  have H0o15 := hide (own_below H0o14.out b)
  clear H0o14
  have S15 := hide b.size
  have B15 := hide (B14.out.trans (b.mono B14.out.size))
  clear b
  go_wp2
  go_ret
  exact ⟨rfl, B15.out⟩
end Go.Proofs.YtfkmnmopkblopaaGreatDoor
