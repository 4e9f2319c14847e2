/- Slices of Put and of DiskOp that are the call's own, marked; the marks found again. -/
import Derived.Test.YthghibopnnjboaaZi28
namespace Go.Proofs.Ythghibopnnjboaa
set_option linter.unusedVariables false
set_option linter.unusedSimpArgs false
open Go.RowKit

theorem OwnN.at {W : World} {base g : Nat} {e : TypeId} {m : Nat} {v : Value} {L : List NE} {vs : List Value} (h : OwnN W base e m v L vs) {i : Nat} {l : NE} (hl : L[i]? = some l) (hv : v.ownBlock = some g) :
    ∃ u, vs[i]? = some u ∧ W.ownsRow base 5 1 u l.2.length (l.2.map (Value.int .u8)) ∧ ∀ (j : Nat) (x : Value), (l.1 ++ [u])[j]? = some x → W.cell? ⟨g, i * (m + 1) + j, none⟩ = some x ∧ W.frozen? ⟨g, i * (m + 1) + j, none⟩ = false := by
  have hi : i < L.length := (List.getElem?_eq_some_iff.1 hl).1
  obtain ⟨u, hu⟩ : ∃ x, vs[i]? = some x := ⟨_, List.getElem?_eq_getElem (by rw [h.len]; exact hi)⟩
  refine ⟨u, hu, h.dat i u l hu hl, fun j x hx => ?_⟩
  have hj : j < m + 1 := by
    have := (List.getElem?_eq_some_iff.1 hx).1
    simp [h.pre l (List.mem_of_getElem? hl)] at this
    omega
  have hc := (cellsN_get m vs L h.len h.pre i j u l hu hl hj).trans hx
  rcases h.row.2 with ⟨rfl, _⟩ | ⟨g', cap, cur, rfl, hb, hg, hn, hm, hs, ht⟩
  · cases hv
  · obtain rfl : g' = g := by simpa [Value.ownBlock] using hv
    have hB : Blk W g' cur e := hg
    refine ⟨?_, hB.frozen _⟩
    rw [hB.cell, ← Array.getElem?_toList]
    rw [← ht, List.getElem?_take] at hc
    split at hc
    · exact hc
    · cases hc
theorem OwnN.blk {W : World} {base : Nat} {e : TypeId} {m n : Nat} {a : Option Addr} {cap : Nat} {L : List NE} {vs : List Value} (h : OwnN W base e m (.slice a n cap) L vs) (hn : 0 < L.length) : ∃ g, a = some ⟨g, 0, none⟩ := by
  rcases h.row.2 with ⟨_, h0⟩ | ⟨g, cap', cur, e, _⟩
  · omega
  · injection e with e1 e2 e3
    exact ⟨g, e1⟩
theorem OwnN.two {W : World} {base g : Nat} {v : Value} {L : List NE} {vs : List Value} (h : OwnN W base 30 2 v L vs) {k : Nat} {x0 x1 : Int} {zs : List Int} (hl : L[k]? = some (neD (x0, x1, zs))) (hv : v.ownBlock = some g) (y0 y1 : Int) :
    OwnN (W.setCell ⟨g, k * 3, none⟩ (.int .i64 y0)) base 30 2 v (L.set k (neD (y0, x1, zs))) vs ∧ OwnN ((W.setCell ⟨g, k * 3, none⟩ (.int .i64 y0)).setCell ⟨g, k * 3 + 1, none⟩ (.int .i64 y1)) base 30 2 v (L.set k (neD (y0, y1, zs))) vs := by
  have hk : k < L.length := (List.getElem?_eq_some_iff.1 hl).1
  have o1 : OwnN (W.setCell ⟨g, k * 3, none⟩ (.int .i64 y0)) base 30 2 v (L.set k (neD (y0, x1, zs))) vs := h.field (by decide) k 0 (neD (x0, x1, zs)) (.int .i64 y0) hl (by omega) hv
  have o2 := o1.field (by decide) k 1 (neD (y0, x1, zs)) (.int .i64 y1) (List.getElem?_set_self hk) (by omega) hv
  rw [List.set_set] at o2
  exact ⟨o1, o2⟩
theorem mkE_D (kk : Nat) (p : Int × Int × List Int) : mkE 2 kk (neD p) = neD ((kk : Int), ((kk + 1 : Nat) : Int), mk8 (kk + 2) p.2.2.length) := rfl
theorem mkE_P (kk : Nat) (p : Int × List Int) : mkE 1 kk (neP p) = neP ((kk : Int), mk8 (kk + 1) p.2.length) := rfl

set_option maxRecDepth 100000 in
set_option maxHeartbeats 2000000 in
theorem markDiskOpS_any (v : Value) (base k0 : Nat) (P : List (Int × Int × List Int)) (vs : List Value) (w : World) (h : OwnN w base 30 2 v (P.map neD) vs) (hk0 : endN 2 k0 (P.map neD) ≤ 140737488355328) :
    Calls Try.prog 21 #[v, .int .i64 k0] w fun e w' => e = .returned (.int .i64 (endN 2 k0 (P.map neD) : Nat)) ∧ OwnN w' base 30 2 v (mkN 2 k0 (P.map neD)) vs ∧ KpN w w' v vs := by
  obtain ⟨a, cap, rfl⟩ : ∃ a cap, v = .slice a P.length cap := by obtain ⟨a, cap, e⟩ := own_shape h.row; exact ⟨a, cap, by simpa using e⟩
  have hm : P.length ≤ 9223372036854775807 := by obtain ⟨a, cap, _, _, g1, g2⟩ := h.rd.row; unfold maxLen at g2; simp at g1; omega
  have HM := hide (fun i => endN_mono 2 (P.map neD) k0 i)
  have H := hide h
  clear h
  go_enter Try.func21, Try.ntmps21
  go_wp2
  go_loopw [1, 5] (fun x i wr => ∃ k : Nat, k ≤ P.length ∧ i = .int .i64 k ∧ x = .int .i64 (endN 2 k0 ((P.map neD).take k) : Nat) ∧ OwnN wr base 30 2 (.slice a P.length cap) (mkN 2 k0 ((P.map neD).take k) ++ (P.map neD).drop k) vs ∧ KpN w wr (.slice a P.length cap) vs) (fun _ i _ => P.length - (intOf i).toNat)
  case atStart => exact ⟨0, Nat.zero_le _, rfl, by simp [endN], by simpa [mkN] using H.out, KpN.refl _ _ _⟩
  case round =>
    clear H
    obtain ⟨k, hk, rfl, rfl, ho, hkp⟩ := hrel
    by_cases hlt : k < P.length
    · obtain ⟨p, hp⟩ : ∃ p, P[k]? = some p := ⟨_, List.getElem?_eq_getElem hlt⟩
      have hpl : (P.map neD)[k]? = some (neD p) := by rw [List.getElem?_map, hp]; rfl
      have hE := endN_take 2 (P.map neD) k0 k _ hpl
      have hM := HM.out (k + 1)
      rw [hE] at hM
      have hST := mk_step 2 (P.map neD) k0 k _ hpl
      have hAT := mk_at 2 (P.map neD) k0 k _ hpl
      rw [mkE_D] at hST
      obtain ⟨x0, x1, zs⟩ := p
      obtain ⟨g, rfl⟩ := ho.blk (by rw [List.length_append, mkN_len]; simp; omega)
      generalize endN 2 k0 ((P.map neD).take k) = kk at hE hM hST ⊢
      generalize hLL : mkN 2 k0 ((P.map neD).take k) ++ (P.map neD).drop k = LL at ho hST hAT
      have hkL : k < LL.length := (List.getElem?_eq_some_iff.1 hAT).1
      have hzs : (neD (x0, x1, zs)).2.length = zs.length := rfl
      rw [hzs] at hM hE
      obtain ⟨o1, o2⟩ := ho.two hAT (g := g) rfl (kk : Int) ((kk + 1 : Nat) : Int)
      obtain ⟨u, hu, hd, hc⟩ := ho.at hAT (g := g) rfl
      obtain ⟨u1, hu1, hd1, hc1⟩ := o1.at (List.getElem?_set_self hkL) (g := g) rfl
      obtain ⟨u2, hu2, hd2, hc2⟩ := o2.at (List.getElem?_set_self hkL) (g := g) rfl
      obtain rfl : u1 = u := Option.some.inj (hu1.symm.trans hu)
      obtain rfl : u2 = u1 := Option.some.inj (hu2.symm.trans hu)
      obtain ⟨au, cu, rfl⟩ := own_shape hd
      have c0 := (hc 0 (.int .i64 x0) rfl).1
      have f0 := (hc 0 (.int .i64 x0) rfl).2
      have c1 := (hc1 1 (.int .i64 x1) rfl).1
      have f1 := (hc1 1 (.int .i64 x1) rfl).2
      have c2 := (hc2 2 (.slice au zs.length cu) rfl).1
      have K2 := hide (hkp.row (set_grown wr g (k * 3) (.int .i64 (kk : Int))))
      have K3 := hide (K2.out.row (set_grown _ g (k * 3 + 1) (.int .i64 ((kk + 1 : Nat) : Int))))
      have O2 := hide (And.intro o2 hd2)
      have HU := hide (And.intro hu2 (And.intro hST (And.intro hE hkL)))
      simp only [show (2 : Nat) + 1 = 3 from rfl, Nat.add_zero] at c0 f0 c1 f1 c2
      rw [show ((kk + 1 : Nat) : Int) = (kk : Int) + 1 by omega] at c2 O2 K3 HU
      clear hc hc1 hc2 hd hd1 hd2 hu hu1 hu2 o1 o2 ho hkp hST hAT hE hpl hp K2 hLL HM
      go_wp2_with fail
      refine (markByteS_any (.slice au zs.length cu) base zs.length (kk + 2) _ _ O2.out.2 (by omega) (by omega)).mono ?_
      rintro e w3 ⟨rfl, o3, g3⟩
      have O3 := hide (O2.out.1.data (by decide) k _ _ (mk8 (kk + 2) zs.length) HU.out.1 (List.getElem?_set_self HU.out.2.2.2) (by rw [mk8_len]; exact o3) g3)
      have K4 := hide (K3.out.dat _ (List.mem_of_getElem? HU.out.1) g3)
      clear o3 g3 O2 K3
      go_wp2
      go_roundw
      case rel =>
        refine ⟨k + 1, by omega, by go_num, ?_, ?_, K4.out⟩
        · rw [HU.out.2.2.1]
          go_num
        · rw [← HU.out.2.1]
          have := O3.out
          rw [List.set_set] at this
          exact this
      case measure => simp [intOf]; omega
    · obtain rfl : k = P.length := by omega
      have HF := hide (show OwnN wr base 30 2 (.slice a P.length cap) (mkN 2 k0 (P.map neD)) vs from by
        have := ho
        rw [List.take_of_length_le (by simp), List.drop_of_length_le (by simp), List.append_nil] at this
        exact this)
      have HE := hide (show endN 2 k0 ((P.map neD).take P.length) = endN 2 k0 (P.map neD) by rw [List.take_of_length_le (by simp)])
      have HK := hide hkp
      rw [HE.out]
      clear ho hkp
      go_wp2
      go_ret
      exact ⟨rfl, HF.out, HK.out⟩

end Go.Proofs.Ythghibopnnjboaa
