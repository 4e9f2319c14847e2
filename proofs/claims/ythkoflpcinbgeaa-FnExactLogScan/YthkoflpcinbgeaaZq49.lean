/- Two owned rows that lie apart. The law on LogScan, walked: it answers true and turns nothing that was there. -/
import Derived.Test.YthkoflpcinbgeaaZq01
import Derived.Test.YthkoflpcinbgeaaZq43
import Derived.Test.YthkoflpcinbgeaaZq44
import Derived.Test.YthkoflpcinbgeaaZq48
namespace Go.Proofs.Ythkoflpcinbgeaa
open Go.RowKit

/-- Two owned rows, one below block m, one from m on. -/
theorem apart {v x : Value} (m : Nat) (h1 : ∀ k, v.ownBlock = some k → m ≤ k) (h2 : ∀ k, x.ownBlock = some k → k < m) : v.ownBlock = none ∨ v.ownBlock ≠ x.ownBlock := by
  cases hv : v.ownBlock with
  | none => exact .inl rfl
  | some k =>
    refine .inr fun h => ?_
    have a := h1 k hv
    have b := h2 k h.symm
    omega
theorem apart' {v x : Value} (m : Nat) (h1 : ∀ k, v.ownBlock = some k → k < m) (h2 : ∀ k, x.ownBlock = some k → m ≤ k) : v.ownBlock = none ∨ v.ownBlock ≠ x.ownBlock := by
  cases hv : v.ownBlock with
  | none => exact .inl rfl
  | some k =>
    refine .inr fun h => ?_
    have a := h1 k hv
    have b := h2 k h.symm
    omega
/-- Two rows of different calls. -/
theorem apart2 {v x : Value} {l1 h1 l2 h2 : Nat} (a : ∀ k, v.ownBlock = some k → l1 ≤ k ∧ k < h1) (b : ∀ k, x.ownBlock = some k → l2 ≤ k ∧ k < h2) (h : h1 ≤ l2 ∨ h2 ≤ l1) : v.ownBlock = none ∨ v.ownBlock ≠ x.ownBlock := by
  cases hv : v.ownBlock with
  | none => exact .inl rfl
  | some k =>
    refine .inr fun e => ?_
    have p := a k hv
    have q := b k e.symm
    omega
end Go.Proofs.Ythkoflpcinbgeaa

namespace Go.Proofs.Ythkoflpcinbgeaa
set_option linter.unusedVariables false
set_option linter.unusedSimpArgs false
open Go.RowKit

/-- The blocks of a list. -/
def BkL (v : Value) (vs : List Value) (b : Nat) : Prop := v.ownBlock = some b ∨ ∃ u ∈ vs, u.ownBlock = some b
theorem OwnN.bks {W : World} {base : Nat} {e : TypeId} {m : Nat} {v : Value} {L : List NE} {vs : List Value} (h : OwnN W base e m v L vs) (b : Nat) (hb : BkL v vs b) : base ≤ b ∧ b < W.heap.size := by
  rcases hb with hb | ⟨u, hu, hb⟩
  · exact h.row.lt b hb
  · obtain ⟨i, hi⟩ := List.getElem?_of_mem hu
    have hl : i < L.length := by rw [← h.len]; exact (List.getElem?_eq_some_iff.1 hi).1
    exact (h.dat i u _ hi (List.getElem?_eq_getElem hl)).lt b hb
theorem own_block {W W' : World} {base n sz : Nat} {e : TypeId} {v : Value} {xs : List Value} (h : W.ownsRow base e sz v n xs) (hs : ∀ b, v.ownBlock = some b → W'.heap[b]? = W.heap[b]?) : W'.ownsRow base e sz v n xs := by
  obtain ⟨h1, h2⟩ := h
  refine ⟨h1, ?_⟩
  rcases h2 with h2 | ⟨g, cap, cur, rfl, hbg, hg, hrest⟩
  · exact .inl h2
  · exact .inr ⟨g, cap, cur, rfl, hbg, by rw [hs g rfl]; exact hg, hrest⟩
theorem OwnN.keepK {W W' : World} {base : Nat} {e : TypeId} {m : Nat} {v v2 : Value} {L : List NE} {vs vs2 : List Value} (h : OwnN W base e m v L vs) (k : KpN W W' v2 vs2) (hd : ∀ b, BkL v vs b → ¬ BkL v2 vs2 b) : OwnN W' base e m v L vs := by
  have hs : ∀ b, BkL v vs b → W'.heap[b]? = W.heap[b]? := fun b hb => k.block b (h.bks b hb).2 (fun e => hd b hb (.inl e)) (fun u hu e => hd b hb (.inr ⟨u, hu, e⟩))
  exact ⟨h.len, h.pre, own_block h.row (fun b hb => hs b (.inl hb)), fun i u l hu hl => own_block (h.dat i u l hu hl) (fun b hb => hs b (.inr ⟨u, List.mem_of_getElem? hu, hb⟩)), h.one⟩
theorem KpN.lowK {w W W' : World} {B : Nat} {v2 : Value} {vs2 : List Value} (k : KpN W W' v2 vs2) (h : Below B w W) (hB : B ≤ W.heap.size) (ap : ∀ b, BkL v2 vs2 b → B ≤ b) : Below B w W' :=
  h.trans ⟨k.os, k.tape, k.output, k.size, fun b hb => k.block b (by omega) (fun e => by have := ap b (.inl e); omega) (fun u hu e => by have := ap b (.inr ⟨u, hu, e⟩); omega)⟩
set_option maxRecDepth 100000 in
set_option maxHeartbeats 4000000 in
theorem lawScan (v : Value) (zs : List Int) (w : World) (h : Rd .u8 w v zs) (hbd : ∀ z ∈ zs, 0 ≤ z ∧ z < 256) :
    Calls Try.prog 4 #[v] w fun e w' => e = .returned (.bool true) ∧ Below w.heap.size w w' := by
  have hm := h.len
  unfold maxLen at hm
  have hsh : ∃ a cap, v = .slice a zs.length cap := by obtain ⟨a, cap, h1, _⟩ := h; exact ⟨a, cap, h1⟩
  obtain ⟨a0, cap0, rfl⟩ := hsh
  have H := hide h
  clear h
  by_cases hbig : (1048576 : Int) < (zs.length : Int)
  · go_enter Try.func4, Try.ntmps4
    go_wp2
    go_ret
    exact ⟨rfl, Below.refl _ _⟩
  have hsm : zs.length ≤ 1048576 := by omega
  clear hbig hm
  obtain ⟨L, hL⟩ := Sc.ex zs.length none zs (Nat.le_refl _)
  have HS := hide (fun (v : Value) (w : World) (hr : Rd .u8 w v zs) => specLS_any v zs L w hL hr hbd hsm)
  have HI := hide (fun (v : Value) (w : World) (hr : Rd .u8 w v zs) => implLS_any v zs L w hL hr hbd hsm)
  have hEb : endL 1 L ≤ 3000000 := by have h1 := endL_bd L 1; have h2 := hL.tot; omega
  obtain ⟨K1, hK1⟩ : ∃ K : Nat, K = 1 + zs.length := ⟨_, rfl⟩
  have hK1b : K1 ≤ 1048577 := by omega
  obtain ⟨M, hM⟩ : ∃ K : Nat, K = endL 1 L := ⟨_, rfl⟩
  have hMb : M ≤ 3000000 := by omega
  have HK1 := hide hK1
  have HM := hide hM
  clear hK1 hM hbd hL
  go_enter Try.func4, Try.ntmps4
  have B0 := hide (Below.refl w.heap.size w)
  go_wp2_with fail
  refine (toByteS_any _ zs _ (H.out.below B0.out) (by omega)).mono ?_
  rintro e w1 ⟨t0, rfl, o, b⟩
  have B1 := hide (B0.out.trans (b.mono B0.out.size))
  have S1 := b.size
  have OT1 := hide o
  clear o b
  go_wp2_with fail
  refine (HS.out t0 _ (Rd.own OT1.out)).mono ?_
  rintro e w2 ⟨vS, usS, rfl, o, b⟩
  have OT2 := hide (own_below OT1.out b)
  clear OT1
  have B2 := hide (B1.out.trans (b.mono B1.out.size))
  have S2 := b.size
  have OS2 := hide o
  have KOS := hide (fun q hq => o.bks q hq)
  clear o b
  clear OT2
  go_wp2_with fail
  refine (toByteS_any _ zs _ (H.out.below B2.out) (by omega)).mono ?_
  rintro e w3 ⟨x0, rfl, o, b⟩
  have OS3 := hide (OS2.out.below b)
  clear OS2
  have B3 := hide (B2.out.trans (b.mono B2.out.size))
  have S3 := b.size
  have OX3 := hide o
  clear o b
  have ZX := hide (Nat.le_trans B2.out.size (Nat.le_refl _))
  have KX := hide (fun q hq => OX3.out.lt (v := x0) q hq)
  go_wp2_with fail
  refine (HI.out x0 _ (Rd.own OX3.out)).mono ?_
  rintro e w4 ⟨g0, usG, rfl, o, b⟩
  have OS4 := hide (OS3.out.below b)
  clear OS3
  have OX4 := hide (own_below OX3.out b)
  clear OX3
  have B4 := hide (B3.out.trans (b.mono B3.out.size))
  have S4 := b.size
  have OG4 := hide o
  have ZG := hide B3.out.size
  have KOG := hide (fun q hq => o.bks q hq)
  clear o b
  go_wp2_with fail
  refine (eqLES_same g0 vS L usG usS _ OG4.out.rd OS4.out.rd).mono ?_
  rintro e w5 ⟨rfl, b⟩
  have OS5 := hide (OS4.out.below b)
  clear OS4
  have OX5 := hide (own_below OX4.out b)
  clear OX4
  have OG5 := hide (OG4.out.below b)
  clear OG4
  have B5 := hide (B4.out.trans (b.mono B4.out.size))
  have S5 := b.size
  clear b
  go_wp2_with fail
  refine (toByteS_any _ zs _ (H.out.below B5.out) (by omega)).mono ?_
  rintro e w6 ⟨t0, rfl, o, b⟩
  have OS6 := hide (OS5.out.below b)
  clear OS5
  have OX6 := hide (own_below OX5.out b)
  clear OX5
  have OG6 := hide (OG5.out.below b)
  clear OG5
  have B6 := hide (B5.out.trans (b.mono B5.out.size))
  have S6 := b.size
  have OT6 := hide o
  clear o b
  go_wp2_with fail
  refine (eqByteS_same x0 t0 zs _ (Rd.own OX6.out) (Rd.own OT6.out)).mono ?_
  rintro e w7 ⟨rfl, b⟩
  have OS7 := hide (OS6.out.below b)
  clear OS6
  have OX7 := hide (own_below OX6.out b)
  clear OX6
  have OG7 := hide (OG6.out.below b)
  clear OG6
  have OT7 := hide (own_below OT6.out b)
  clear OT6
  have B7 := hide (B6.out.trans (b.mono B6.out.size))
  have S7 := b.size
  clear b
  clear OT7
  go_wp2_with fail
  refine (markByteS_any x0 w2.heap.size zs.length 1 _ _ OX7.out (by omega) (by omega)).mono ?_
  rintro e w8 ⟨he, o, g⟩
  rw [← HK1.out] at he
  subst he
  have OS8 := hide (OS7.out.keptN g (fun q e hv => by have h1 := KOS.out q (.inl hv); have h2 := KX.out q e; omega) (fun q e u hu hv => by have h1 := KOS.out q (.inr ⟨u, hu, hv⟩); have h2 := KX.out q e; omega))
  clear OS7
  have OG8 := hide (OG7.out.keptN g (fun q e hv => by have h1 := KOG.out q (.inl hv); have h2 := KX.out q e; omega) (fun q e u hu hv => by have h1 := KOG.out q (.inr ⟨u, hu, hv⟩); have h2 := KX.out q e; omega))
  clear OG7
  have B8 := hide (B7.out.grown g B7.out.size (fun q e => by have := (KX.out q e).1; have := ZX.out; omega))
  have S8 := g.size
  clear o g OX7
  go_wp2_with fail
  refine (eqLES_same g0 vS L usG usS _ OG8.out.rd OS8.out.rd).mono ?_
  rintro e w9 ⟨rfl, b⟩
  have OS9 := hide (OS8.out.below b)
  clear OS8
  have OG9 := hide (OG8.out.below b)
  clear OG8
  have B9 := hide (B8.out.trans (b.mono B8.out.size))
  have S9 := b.size
  clear b
  go_wp2_with fail
  refine (markLES_any g0 w3.heap.size 1 L usG _ OG9.out (by omega) (by omega)).mono ?_
  rintro e w10 ⟨he, o, g⟩
  rw [← HM.out] at he
  subst he
  have OS10 := hide (OS9.out.keepK g (fun q hq hq2 => by have h1 := KOS.out q hq; have h2 := KOG.out q hq2; omega))
  clear OS9
  have B10 := hide (g.lowK B9.out B9.out.size (fun q hq => by have := (KOG.out q hq).1; have := ZG.out; omega))
  have S10 := g.size
  clear OG9
  have OG10 := hide o
  clear o g
  go_wp2_with fail
  refine (heldLES_any g0 1 L usG _ OG10.out.rd (by omega) (by omega)).mono ?_
  rintro e w11 ⟨he, b⟩
  rw [← HM.out] at he
  subst he
  have OS11 := hide (OS10.out.below b)
  clear OS10
  have OG11 := hide (OG10.out.below b)
  clear OG10
  have B11 := hide (B10.out.trans (b.mono B10.out.size))
  have S11 := b.size
  clear b
  go_wp2_with fail
  refine (toByteS_any _ zs _ (H.out.below B11.out) (by omega)).mono ?_
  rintro e w12 ⟨t0, rfl, o, b⟩
  have OS12 := hide (OS11.out.below b)
  clear OS11
  have OG12 := hide (OG11.out.below b)
  clear OG11
  have B12 := hide (B11.out.trans (b.mono B11.out.size))
  have S12 := b.size
  have OT12 := hide o
  clear o b
  go_wp2_with fail
  refine (HI.out t0 _ (Rd.own OT12.out)).mono ?_
  rintro e w13 ⟨h0, usH, rfl, o, b⟩
  have OS13 := hide (OS12.out.below b)
  clear OS12
  have OG13 := hide (OG12.out.below b)
  clear OG12
  have OT13 := hide (own_below OT12.out b)
  clear OT12
  have B13 := hide (B12.out.trans (b.mono B12.out.size))
  have S13 := b.size
  have OH13 := hide o
  have KOH := hide (fun q hq => o.bks q hq)
  clear o b
  clear OT13
  go_wp2_with fail
  refine (eqLES_same h0 vS L usH usS _ OH13.out.rd OS13.out.rd).mono ?_
  rintro e w14 ⟨rfl, b⟩
  have OS14 := hide (OS13.out.below b)
  clear OS13
  have OG14 := hide (OG13.out.below b)
  clear OG13
  have OH14 := hide (OH13.out.below b)
  clear OH13
  have B14 := hide (B13.out.trans (b.mono B13.out.size))
  have S14 := b.size
  clear b
  go_wp2_with fail
  refine (heldLES_any g0 1 L usG _ OG14.out.rd (by omega) (by omega)).mono ?_
  rintro e w15 ⟨he, b⟩
  rw [← HM.out] at he
  subst he
  have OS15 := hide (OS14.out.below b)
  clear OS14
  have OG15 := hide (OG14.out.below b)
  clear OG14
  have OH15 := hide (OH14.out.below b)
  clear OH14
  have B15 := hide (B14.out.trans (b.mono B14.out.size))
  have S15 := b.size
  clear b
  go_wp2
  go_ret
  exact ⟨rfl, B15.out⟩
end Go.Proofs.Ythkoflpcinbgeaa
