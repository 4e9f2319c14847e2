/- Two owned rows that lie apart. The law on LogDrop, walked: it answers true and turns nothing that was there. -/
import Derived.Test.YthkoflpcinbgeaaZp01
import Derived.Test.YthkoflpcinbgeaaZp40
import Derived.Test.YthkoflpcinbgeaaZp47
namespace Go.Proofs.Ythkoflpcinbgeaa
open Go.RowKit

/-- Two owned rows, one below block m, one from m on. -/
theorem apart {v x : Value} (m : Nat) (h1 : ∀ k, v.ownBlock = some k → m ≤ k) (h2 : ∀ k, x.ownBlock = some k → k < m) : v.ownBlock = none ∨ v.ownBlock ≠ x.ownBlock := by
  cases hv : v.ownBlock with
  | none => exact .inl rfl
  | some k =>
    refine .inr fun h => ?_
    have a := h1 k hv
    have b := h2 k h.symm
    omega
theorem apart' {v x : Value} (m : Nat) (h1 : ∀ k, v.ownBlock = some k → k < m) (h2 : ∀ k, x.ownBlock = some k → m ≤ k) : v.ownBlock = none ∨ v.ownBlock ≠ x.ownBlock := by
  cases hv : v.ownBlock with
  | none => exact .inl rfl
  | some k =>
    refine .inr fun h => ?_
    have a := h1 k hv
    have b := h2 k h.symm
    omega
/-- Two rows of different calls. -/
theorem apart2 {v x : Value} {l1 h1 l2 h2 : Nat} (a : ∀ k, v.ownBlock = some k → l1 ≤ k ∧ k < h1) (b : ∀ k, x.ownBlock = some k → l2 ≤ k ∧ k < h2) (h : h1 ≤ l2 ∨ h2 ≤ l1) : v.ownBlock = none ∨ v.ownBlock ≠ x.ownBlock := by
  cases hv : v.ownBlock with
  | none => exact .inl rfl
  | some k =>
    refine .inr fun e => ?_
    have p := a k hv
    have q := b k e.symm
    omega
end Go.Proofs.Ythkoflpcinbgeaa

namespace Go.Proofs.Ythkoflpcinbgeaa
set_option linter.unusedVariables false
set_option linter.unusedSimpArgs false
open Go.RowKit

set_option maxRecDepth 100000 in
set_option maxHeartbeats 2000000 in
theorem lawDrop (v : Value) (zs : List Int) (u : Int) (w : World) (h : Rd .u8 w v zs) (hbd : ∀ z ∈ zs, 0 ≤ z ∧ z < 256) :
    Calls Try.prog 3 #[v, .int .i64 u] w fun e w' => e = .returned (.bool true) ∧ Below w.heap.size w w' := by
  have hm := h.len
  unfold maxLen at hm
  have hsh : ∃ a cap, v = .slice a zs.length cap := by obtain ⟨a, cap, h1, _⟩ := h; exact ⟨a, cap, h1⟩
  obtain ⟨a0, cap0, rfl⟩ := hsh
  have H := hide h
  clear h
  by_cases hbig : (1048576 : Int) < (zs.length : Int)
  · go_enter Try.func3, Try.ntmps3
    go_wp2
    go_ret
    exact ⟨rfl, Below.refl _ _⟩
  have hsm : zs.length ≤ 1048576 := by omega
  clear hbig hm
  obtain ⟨L, hL⟩ := Sc.ex zs.length none zs (Nat.le_refl _)
  have HS := hide (fun (v : Value) (w : World) (hr : Rd .u8 w v zs) => specLD_any v zs u L w hL hr hbd hsm)
  have HI := hide (fun (v : Value) (w : World) (hr : Rd .u8 w v zs) => implLD_any v zs u L w hL hr hbd hsm)
  have hR : (keepB u L).length ≤ 1048576 := by have h1 := keepB_len u L; have h2 := hL.tot; omega
  generalize keepB u L = R at HS HI hR
  obtain ⟨K1, hK1⟩ : ∃ K : Nat, K = 1 + zs.length := ⟨_, rfl⟩
  have hK1b : K1 ≤ 1048577 := by omega
  obtain ⟨M, hM⟩ : ∃ K : Nat, K = 1 + R.length := ⟨_, rfl⟩
  have hMb : M ≤ 1048577 := by omega
  have HK1 := hide hK1
  have HM := hide hM
  clear hK1 hM hbd hL
  go_enter Try.func3, Try.ntmps3
  have B0 := hide (Below.refl w.heap.size w)
  go_wp2_with fail
  refine (toByteS_any _ zs _ (H.out.below B0.out) (by omega)).mono ?_
  rintro e w1 ⟨t0, rfl, o, b⟩
  have S1 := hide b.size
  have B1 := hide (B0.out.trans (b.mono B0.out.size))
  have T0o1 := hide o
  have Lt0 := hide (fun k hk => T0o1.out.lt (v := t0) k hk)
  have Zt0 := hide B0.out.size
  clear o b
  go_wp2_with fail
  refine (HS.out t0 _ (Rd.own T0o1.out)).mono ?_
  rintro e w2 ⟨v2, rfl, o, b⟩
  have T0o2 := hide (own_below T0o1.out b)
  clear T0o1
  have S2 := hide b.size
  have B2 := hide (B1.out.trans (b.mono B1.out.size))
  have V2o2 := hide o
  have Lv2 := hide (fun k hk => V2o2.out.lt (v := v2) k hk)
  have Zv2 := hide B1.out.size
  clear o b
  clear T0o2 Lt0 Zt0
  go_wp2_with fail
  refine (toByteS_any _ zs _ (H.out.below B2.out) (by omega)).mono ?_
  rintro e w3 ⟨x0, rfl, o, b⟩
  have V2o3 := hide (own_below V2o2.out b)
  clear V2o2
  have S3 := hide b.size
  have B3 := hide (B2.out.trans (b.mono B2.out.size))
  have X0o3 := hide o
  have Lx0 := hide (fun k hk => X0o3.out.lt (v := x0) k hk)
  have Zx0 := hide B2.out.size
  clear o b
  go_wp2_with fail
  refine (HI.out x0 _ (Rd.own X0o3.out)).mono ?_
  rintro e w4 ⟨g0, rfl, o, b⟩
  have V2o4 := hide (own_below V2o3.out b)
  clear V2o3
  have X0o4 := hide (own_below X0o3.out b)
  clear X0o3
  have S4 := hide b.size
  have B4 := hide (B3.out.trans (b.mono B3.out.size))
  have G0o4 := hide o
  have Lg0 := hide (fun k hk => G0o4.out.lt (v := g0) k hk)
  have Zg0 := hide B3.out.size
  clear o b
  go_wp2_with fail
  refine (eqByteS_same g0 v2 R _ (Rd.own G0o4.out) (Rd.own V2o4.out)).mono ?_
  rintro e w5 ⟨rfl, b⟩
  have V2o5 := hide (own_below V2o4.out b)
  clear V2o4
  have X0o5 := hide (own_below X0o4.out b)
  clear X0o4
  have G0o5 := hide (own_below G0o4.out b)
  clear G0o4
  have S5 := hide b.size
  have B5 := hide (B4.out.trans (b.mono B4.out.size))
  clear b
  go_wp2_with fail
  refine (toByteS_any _ zs _ (H.out.below B5.out) (by omega)).mono ?_
  rintro e w6 ⟨t0, rfl, o, b⟩
  have V2o6 := hide (own_below V2o5.out b)
  clear V2o5
  have X0o6 := hide (own_below X0o5.out b)
  clear X0o5
  have G0o6 := hide (own_below G0o5.out b)
  clear G0o5
  have S6 := hide b.size
  have B6 := hide (B5.out.trans (b.mono B5.out.size))
  have T0o6 := hide o
  have Lt0 := hide (fun k hk => T0o6.out.lt (v := t0) k hk)
  have Zt0 := hide B5.out.size
  clear o b
  go_wp2_with fail
  refine (eqByteS_same x0 t0 zs _ (Rd.own X0o6.out) (Rd.own T0o6.out)).mono ?_
  rintro e w7 ⟨rfl, b⟩
  have V2o7 := hide (own_below V2o6.out b)
  clear V2o6
  have X0o7 := hide (own_below X0o6.out b)
  clear X0o6
  have G0o7 := hide (own_below G0o6.out b)
  clear G0o6
  have T0o7 := hide (own_below T0o6.out b)
  clear T0o6
  have S7 := hide b.size
  have B7 := hide (B6.out.trans (b.mono B6.out.size))
  clear b
  clear T0o7 Lt0 Zt0
  go_wp2_with fail
  refine (markByteS_any x0 w2.heap.size zs.length 1 _ _ X0o7.out (by omega) (by omega)).mono ?_
  rintro e w8 ⟨he, o, g⟩
  rw [← HK1.out] at he
  subst he
  have V2o8 := hide (V2o7.out.kept g (apart2 Lv2.out Lx0.out (by have := S1.out; have := S2.out; have := S3.out; have := S4.out; have := S5.out; have := S6.out; have := S7.out; omega)))
  clear V2o7
  have G0o8 := hide (G0o7.out.kept g (apart2 Lg0.out Lx0.out (by have := S1.out; have := S2.out; have := S3.out; have := S4.out; have := S5.out; have := S6.out; have := S7.out; omega)))
  clear G0o7
  have B8 := hide (B7.out.grown g B7.out.size (fun k hk => Nat.le_trans Zx0.out (X0o7.out.lt k hk).1))
  have S8 := hide g.size
  have X0o8 := hide o
  clear o g X0o7
  clear X0o8 Lx0 Zx0
  go_wp2_with fail
  refine (eqByteS_same g0 v2 R _ (Rd.own G0o8.out) (Rd.own V2o8.out)).mono ?_
  rintro e w9 ⟨rfl, b⟩
  have V2o9 := hide (own_below V2o8.out b)
  clear V2o8
  have G0o9 := hide (own_below G0o8.out b)
  clear G0o8
  have S9 := hide b.size
  have B9 := hide (B8.out.trans (b.mono B8.out.size))
  clear b
  go_wp2_with fail
  refine (markByteS_any g0 w3.heap.size R.length 1 _ _ G0o9.out (by omega) (by omega)).mono ?_
  rintro e w10 ⟨he, o, g⟩
  rw [← HM.out] at he
  subst he
  have V2o10 := hide (V2o9.out.kept g (apart2 Lv2.out Lg0.out (by have := S1.out; have := S2.out; have := S3.out; have := S4.out; have := S5.out; have := S6.out; have := S7.out; have := S8.out; have := S9.out; omega)))
  clear V2o9
  have B10 := hide (B9.out.grown g B9.out.size (fun k hk => Nat.le_trans Zg0.out (G0o9.out.lt k hk).1))
  have S10 := hide g.size
  have G0o10 := hide o
  clear o g G0o9
  go_wp2_with fail
  refine (heldByteS_any g0 R.length 1 _ (Rd.own G0o10.out) (by omega) (by omega)).mono ?_
  rintro e wq ⟨he, hwq⟩
  rw [← HM.out] at he
  subst he
  rw [hwq]
  clear hwq wq
  go_wp2_with fail
  refine (toByteS_any _ zs _ (H.out.below B10.out) (by omega)).mono ?_
  rintro e w11 ⟨t0, rfl, o, b⟩
  have V2o11 := hide (own_below V2o10.out b)
  clear V2o10
  have G0o11 := hide (own_below G0o10.out b)
  clear G0o10
  have S11 := hide b.size
  have B11 := hide (B10.out.trans (b.mono B10.out.size))
  have T0o11 := hide o
  have Lt0 := hide (fun k hk => T0o11.out.lt (v := t0) k hk)
  have Zt0 := hide B10.out.size
  clear o b
  go_wp2_with fail
  refine (HI.out t0 _ (Rd.own T0o11.out)).mono ?_
  rintro e w12 ⟨h0, rfl, o, b⟩
  have V2o12 := hide (own_below V2o11.out b)
  clear V2o11
  have G0o12 := hide (own_below G0o11.out b)
  clear G0o11
  have T0o12 := hide (own_below T0o11.out b)
  clear T0o11
  have S12 := hide b.size
  have B12 := hide (B11.out.trans (b.mono B11.out.size))
  have H0o12 := hide o
  have Lh0 := hide (fun k hk => H0o12.out.lt (v := h0) k hk)
  have Zh0 := hide B11.out.size
  clear o b
  go_wp2_with fail
  refine (eqByteS_same h0 v2 R _ (Rd.own H0o12.out) (Rd.own V2o12.out)).mono ?_
  rintro e w13 ⟨rfl, b⟩
  have V2o13 := hide (own_below V2o12.out b)
  clear V2o12
  have G0o13 := hide (own_below G0o12.out b)
  clear G0o12
  have T0o13 := hide (own_below T0o12.out b)
  clear T0o12
  have H0o13 := hide (own_below H0o12.out b)
  clear H0o12
  have S13 := hide b.size
  have B13 := hide (B12.out.trans (b.mono B12.out.size))
  clear b
  go_wp2_with fail
  refine (heldByteS_any g0 R.length 1 _ (Rd.own G0o13.out) (by omega) (by omega)).mono ?_
  rintro e wq ⟨he, hwq⟩
  rw [← HM.out] at he
  subst he
  rw [hwq]
  clear hwq wq
  go_wp2
  go_ret
  exact ⟨rfl, B13.out⟩
end Go.Proofs.Ythkoflpcinbgeaa
