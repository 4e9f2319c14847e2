/- Slices of Put and of DiskOp that are the call's own, marked; the marks found again. Structs and arrays of integers by value: a copy of twelve, a copy of a root. -/
import Derived.Test.YtmmhkjpkidljlaaDoorZc09
import Derived.Test.YtmmhkjpkidljlaaDoorZc01
import Derived.Test.YtmmhkjpkidljlaaDoorRows
import Derived.Test.YtmmhkjpkidljlaaDoorZc04
import Derived.WalkLawsBesides
import Derived.Deep.MidRow
import Derived.Deep.WholeRow
import Derived.Laws.CopyOwn
namespace Go.Proofs.YtmmhkjpkidljlaaDoor
set_option linter.unusedVariables false
set_option linter.unusedSimpArgs false
open Go.RowKit

theorem OwnN.at {W : World} {base g : Nat} {e : TypeId} {m : Nat} {v : Value} {L : List NE} {vs : List Value} (h : OwnN W base e m v L vs) {i : Nat} {l : NE} (hl : L[i]? = some l) (hv : v.ownBlock = some g) :
    ∃ u, vs[i]? = some u ∧ W.ownsRow base 5 1 u l.2.length (l.2.map (Value.int .u8)) ∧ ∀ (j : Nat) (x : Value), (l.1 ++ [u])[j]? = some x → W.cell? ⟨g, i * (m + 1) + j, none⟩ = some x ∧ W.frozen? ⟨g, i * (m + 1) + j, none⟩ = false := by
  have hi : i < L.length := (List.getElem?_eq_some_iff.1 hl).1
  obtain ⟨u, hu⟩ : ∃ x, vs[i]? = some x := ⟨_, List.getElem?_eq_getElem (by rw [h.len]; exact hi)⟩
  refine ⟨u, hu, h.dat i u l hu hl, fun j x hx => ?_⟩
  have hj : j < m + 1 := by
    have := (List.getElem?_eq_some_iff.1 hx).1
    simp [h.pre l (List.mem_of_getElem? hl)] at this
    omega
  have hc := (cellsN_get m vs L h.len h.pre i j u l hu hl hj).trans hx
  rcases h.row.2 with ⟨rfl, _⟩ | ⟨g', cap, cur, rfl, hb, hg, hn, hm, hs, ht⟩
  · cases hv
  · obtain rfl : g' = g := by simpa [Value.ownBlock] using hv
    have hB : Blk W g' cur e := hg
    refine ⟨?_, hB.frozen _⟩
    rw [hB.cell, ← Array.getElem?_toList]
    rw [← ht, List.getElem?_take] at hc
    split at hc
    · exact hc
    · cases hc
theorem OwnN.blk {W : World} {base : Nat} {e : TypeId} {m n : Nat} {a : Option Addr} {cap : Nat} {L : List NE} {vs : List Value} (h : OwnN W base e m (.slice a n cap) L vs) (hn : 0 < L.length) : ∃ g, a = some ⟨g, 0, none⟩ := by
  rcases h.row.2 with ⟨_, h0⟩ | ⟨g, cap', cur, e, _⟩
  · omega
  · injection e with e1 e2 e3
    exact ⟨g, e1⟩
theorem OwnN.two {W : World} {base g : Nat} {v : Value} {L : List NE} {vs : List Value} (h : OwnN W base 54 2 v L vs) {k : Nat} {x0 x1 : Int} {zs : List Int} (hl : L[k]? = some (neD (x0, x1, zs))) (hv : v.ownBlock = some g) (y0 y1 : Int) :
    OwnN (W.setCell ⟨g, k * 3, none⟩ (.int .i64 y0)) base 54 2 v (L.set k (neD (y0, x1, zs))) vs ∧ OwnN ((W.setCell ⟨g, k * 3, none⟩ (.int .i64 y0)).setCell ⟨g, k * 3 + 1, none⟩ (.int .i64 y1)) base 54 2 v (L.set k (neD (y0, y1, zs))) vs := by
  have hk : k < L.length := (List.getElem?_eq_some_iff.1 hl).1
  have o1 : OwnN (W.setCell ⟨g, k * 3, none⟩ (.int .i64 y0)) base 54 2 v (L.set k (neD (y0, x1, zs))) vs := h.field (by decide) k 0 (neD (x0, x1, zs)) (.int .i64 y0) hl (by omega) hv
  have o2 := o1.field (by decide) k 1 (neD (y0, x1, zs)) (.int .i64 y1) (List.getElem?_set_self hk) (by omega) hv
  rw [List.set_set] at o2
  exact ⟨o1, o2⟩
theorem mkE_D (kk : Nat) (p : Int × Int × List Int) : mkE 2 kk (neD p) = neD ((kk : Int), ((kk + 1 : Nat) : Int), mk8 (kk + 2) p.2.2.length) := rfl
theorem mkE_P (kk : Nat) (p : Int × List Int) : mkE 1 kk (neP p) = neP ((kk : Int), mk8 (kk + 1) p.2.length) := rfl

set_option maxRecDepth 100000 in
set_option maxHeartbeats 2000000 in
theorem markDiskOpS_any (v : Value) (base k0 : Nat) (P : List (Int × Int × List Int)) (vs : List Value) (w : World) (h : OwnN w base 54 2 v (P.map neD) vs) (hk0 : endN 2 k0 (P.map neD) ≤ 140737488355328) :
    Calls Tryd.prog 11 #[v, .int .i64 k0] w fun e w' => e = .returned (.int .i64 (endN 2 k0 (P.map neD) : Nat)) ∧ OwnN w' base 54 2 v (mkN 2 k0 (P.map neD)) vs ∧ KpN w w' v vs := by
  obtain ⟨a, cap, rfl⟩ : ∃ a cap, v = .slice a P.length cap := by obtain ⟨a, cap, e⟩ := own_shape h.row; exact ⟨a, cap, by simpa using e⟩
  have hm : P.length ≤ 9223372036854775807 := by obtain ⟨a, cap, _, _, g1, g2⟩ := h.rd.row; unfold maxLen at g2; simp at g1; omega
  have HM := hide (fun i => endN_mono 2 (P.map neD) k0 i)
  have H := hide h
  clear h
  go_enter Tryd.func11, Tryd.ntmps11
  go_wp2
  go_loopw [1, 5] (fun x i wr => ∃ k : Nat, k ≤ P.length ∧ i = .int .i64 k ∧ x = .int .i64 (endN 2 k0 ((P.map neD).take k) : Nat) ∧ OwnN wr base 54 2 (.slice a P.length cap) (mkN 2 k0 ((P.map neD).take k) ++ (P.map neD).drop k) vs ∧ KpN w wr (.slice a P.length cap) vs) (fun _ i _ => P.length - (intOf i).toNat)
  case atStart => exact ⟨0, Nat.zero_le _, rfl, by simp [endN], by simpa [mkN] using H.out, KpN.refl _ _ _⟩
  case round =>
    clear H
    obtain ⟨k, hk, rfl, rfl, ho, hkp⟩ := hrel
    by_cases hlt : k < P.length
    · obtain ⟨p, hp⟩ : ∃ p, P[k]? = some p := ⟨_, List.getElem?_eq_getElem hlt⟩
      have hpl : (P.map neD)[k]? = some (neD p) := by rw [List.getElem?_map, hp]; rfl
      have hE := endN_take 2 (P.map neD) k0 k _ hpl
      have hM := HM.out (k + 1)
      rw [hE] at hM
      have hST := mk_step 2 (P.map neD) k0 k _ hpl
      have hAT := mk_at 2 (P.map neD) k0 k _ hpl
      rw [mkE_D] at hST
      obtain ⟨x0, x1, zs⟩ := p
      obtain ⟨g, rfl⟩ := ho.blk (by rw [List.length_append, mkN_len]; simp; omega)
      generalize endN 2 k0 ((P.map neD).take k) = kk at hE hM hST ⊢
      generalize hLL : mkN 2 k0 ((P.map neD).take k) ++ (P.map neD).drop k = LL at ho hST hAT
      have hkL : k < LL.length := (List.getElem?_eq_some_iff.1 hAT).1
      have hzs : (neD (x0, x1, zs)).2.length = zs.length := rfl
      rw [hzs] at hM hE
      obtain ⟨o1, o2⟩ := ho.two hAT (g := g) rfl (kk : Int) ((kk + 1 : Nat) : Int)
      obtain ⟨u, hu, hd, hc⟩ := ho.at hAT (g := g) rfl
      obtain ⟨u1, hu1, hd1, hc1⟩ := o1.at (List.getElem?_set_self hkL) (g := g) rfl
      obtain ⟨u2, hu2, hd2, hc2⟩ := o2.at (List.getElem?_set_self hkL) (g := g) rfl
      obtain rfl : u1 = u := Option.some.inj (hu1.symm.trans hu)
      obtain rfl : u2 = u1 := Option.some.inj (hu2.symm.trans hu)
      obtain ⟨au, cu, rfl⟩ := own_shape hd
      have c0 := (hc 0 (.int .i64 x0) rfl).1
      have f0 := (hc 0 (.int .i64 x0) rfl).2
      have c1 := (hc1 1 (.int .i64 x1) rfl).1
      have f1 := (hc1 1 (.int .i64 x1) rfl).2
      have c2 := (hc2 2 (.slice au zs.length cu) rfl).1
      have K2 := hide (hkp.row (set_grown wr g (k * 3) (.int .i64 (kk : Int))))
      have K3 := hide (K2.out.row (set_grown _ g (k * 3 + 1) (.int .i64 ((kk + 1 : Nat) : Int))))
      have O2 := hide (And.intro o2 hd2)
      have HU := hide (And.intro hu2 (And.intro hST (And.intro hE hkL)))
      simp only [show (2 : Nat) + 1 = 3 from rfl, Nat.add_zero] at c0 f0 c1 f1 c2
      rw [show ((kk + 1 : Nat) : Int) = (kk : Int) + 1 by omega] at c2 O2 K3 HU
      clear hc hc1 hc2 hd hd1 hd2 hu hu1 hu2 o1 o2 ho hkp hST hAT hE hpl hp K2 hLL HM
      go_wp2_with fail
      refine (markByteS_any (.slice au zs.length cu) base zs.length (kk + 2) _ _ O2.out.2 (by omega) (by omega)).mono ?_
      rintro e w3 ⟨rfl, o3, g3⟩
      have O3 := hide (O2.out.1.data (by decide) k _ _ (mk8 (kk + 2) zs.length) HU.out.1 (List.getElem?_set_self HU.out.2.2.2) (by rw [mk8_len]; exact o3) g3)
      have K4 := hide (K3.out.dat _ (List.mem_of_getElem? HU.out.1) g3)
      clear o3 g3 O2 K3
      go_wp2
      go_roundw
      case rel =>
        refine ⟨k + 1, by omega, by go_num, ?_, ?_, K4.out⟩
        · rw [HU.out.2.2.1]
          go_num
        · rw [← HU.out.2.1]
          have := O3.out
          rw [List.set_set] at this
          exact this
      case measure => simp [intOf]; omega
    · obtain rfl : k = P.length := by omega
      have HF := hide (show OwnN wr base 54 2 (.slice a P.length cap) (mkN 2 k0 (P.map neD)) vs from by
        have := ho
        rw [List.take_of_length_le (by simp), List.drop_of_length_le (by simp), List.append_nil] at this
        exact this)
      have HE := hide (show endN 2 k0 ((P.map neD).take P.length) = endN 2 k0 (P.map neD) by rw [List.take_of_length_le (by simp)])
      have HK := hide hkp
      rw [HE.out]
      clear ho hkp
      go_wp2
      go_ret
      exact ⟨rfl, HF.out, HK.out⟩

set_option maxRecDepth 100000 in
set_option maxHeartbeats 2000000 in
theorem markPutS_any (v : Value) (base k0 : Nat) (P : List (Int × List Int)) (vs : List Value) (w : World) (h : OwnN w base 52 1 v (P.map neP) vs) (hk0 : endN 1 k0 (P.map neP) ≤ 140737488355328) :
    Calls Tryd.prog 24 #[v, .int .i64 k0] w fun e w' => e = .returned (.int .i64 (endN 1 k0 (P.map neP) : Nat)) ∧ OwnN w' base 52 1 v (mkN 1 k0 (P.map neP)) vs ∧ KpN w w' v vs := by
  obtain ⟨a, cap, rfl⟩ : ∃ a cap, v = .slice a P.length cap := by obtain ⟨a, cap, e⟩ := own_shape h.row; exact ⟨a, cap, by simpa using e⟩
  have hm : P.length ≤ 9223372036854775807 := by obtain ⟨a, cap, _, _, g1, g2⟩ := h.rd.row; unfold maxLen at g2; simp at g1; omega
  have HM := hide (fun i => endN_mono 1 (P.map neP) k0 i)
  have H := hide h
  clear h
  go_enter Tryd.func24, Tryd.ntmps24
  go_wp2
  go_loopw [1, 5] (fun x i wr => ∃ k : Nat, k ≤ P.length ∧ i = .int .i64 k ∧ x = .int .i64 (endN 1 k0 ((P.map neP).take k) : Nat) ∧ OwnN wr base 52 1 (.slice a P.length cap) (mkN 1 k0 ((P.map neP).take k) ++ (P.map neP).drop k) vs ∧ KpN w wr (.slice a P.length cap) vs) (fun _ i _ => P.length - (intOf i).toNat)
  case atStart => exact ⟨0, Nat.zero_le _, rfl, by simp [endN], by simpa [mkN] using H.out, KpN.refl _ _ _⟩
  case round =>
    clear H
    obtain ⟨k, hk, rfl, rfl, ho, hkp⟩ := hrel
    by_cases hlt : k < P.length
    · obtain ⟨p, hp⟩ : ∃ p, P[k]? = some p := ⟨_, List.getElem?_eq_getElem hlt⟩
      have hpl : (P.map neP)[k]? = some (neP p) := by rw [List.getElem?_map, hp]; rfl
      have hE := endN_take 1 (P.map neP) k0 k _ hpl
      have hM := HM.out (k + 1)
      rw [hE] at hM
      have hST := mk_step 1 (P.map neP) k0 k _ hpl
      have hAT := mk_at 1 (P.map neP) k0 k _ hpl
      rw [mkE_P] at hST
      obtain ⟨x0, zs⟩ := p
      obtain ⟨g, rfl⟩ := ho.blk (by rw [List.length_append, mkN_len]; simp; omega)
      generalize endN 1 k0 ((P.map neP).take k) = kk at hE hM hST ⊢
      generalize hLL : mkN 1 k0 ((P.map neP).take k) ++ (P.map neP).drop k = LL at ho hST hAT
      have hkL : k < LL.length := (List.getElem?_eq_some_iff.1 hAT).1
      have hzs : (neP (x0, zs)).2.length = zs.length := rfl
      rw [hzs] at hM hE
      have o2 : OwnN (wr.setCell ⟨g, k * 2, none⟩ (.int .i64 (kk : Int))) base 52 1 (.slice (some ⟨g, 0, none⟩) P.length cap) (LL.set k (neP ((kk : Int), zs))) vs := ho.field (by decide) k 0 (neP (x0, zs)) (.int .i64 (kk : Int)) hAT (by omega) rfl
      obtain ⟨u, hu, hd, hc⟩ := ho.at hAT (g := g) rfl
      obtain ⟨u2, hu2, hd2, hc2⟩ := o2.at (List.getElem?_set_self hkL) (g := g) rfl
      obtain rfl : u2 = u := Option.some.inj (hu2.symm.trans hu)
      obtain ⟨au, cu, rfl⟩ := own_shape hd
      have c0 := (hc 0 (.int .i64 x0) rfl).1
      have f0 := (hc 0 (.int .i64 x0) rfl).2
      have c2 := (hc2 1 (.slice au zs.length cu) rfl).1
      have K3 := hide (hkp.row (set_grown wr g (k * 2) (.int .i64 (kk : Int))))
      have O2 := hide (And.intro o2 hd2)
      have HU := hide (And.intro hu2 (And.intro hST (And.intro hE hkL)))
      simp only [show (1 : Nat) + 1 = 2 from rfl, Nat.add_zero] at c0 f0 c2
      clear hc hc2 hd hd2 hu hu2 o2 ho hkp hST hAT hE hpl hp hLL HM
      go_wp2_with fail
      refine (markByteS_any (.slice au zs.length cu) base zs.length (kk + 1) _ _ O2.out.2 (by omega) (by omega)).mono ?_
      rintro e w3 ⟨rfl, o3, g3⟩
      have O3 := hide (O2.out.1.data (by decide) k _ _ (mk8 (kk + 1) zs.length) HU.out.1 (List.getElem?_set_self HU.out.2.2.2) (by rw [mk8_len]; exact o3) g3)
      have K4 := hide (K3.out.dat _ (List.mem_of_getElem? HU.out.1) g3)
      clear o3 g3 O2 K3
      go_wp2
      go_roundw
      case rel =>
        refine ⟨k + 1, by omega, by go_num, ?_, ?_, K4.out⟩
        · rw [HU.out.2.2.1]
          go_num
        · rw [← HU.out.2.1]
          have := O3.out
          rw [List.set_set] at this
          exact this
      case measure => simp [intOf]; omega
    · obtain rfl : k = P.length := by omega
      have HF := hide (show OwnN wr base 52 1 (.slice a P.length cap) (mkN 1 k0 (P.map neP)) vs from by
        have := ho
        rw [List.take_of_length_le (by simp), List.drop_of_length_le (by simp), List.append_nil] at this
        exact this)
      have HE := hide (show endN 1 k0 ((P.map neP).take P.length) = endN 1 k0 (P.map neP) by rw [List.take_of_length_le (by simp)])
      have HK := hide hkp
      rw [HE.out]
      clear ho hkp
      go_wp2
      go_ret
      exact ⟨rfl, HF.out, HK.out⟩

set_option maxRecDepth 100000 in
set_option maxHeartbeats 2000000 in
theorem heldDiskOpS_any (v : Value) (k0 : Nat) (P : List (Int × Int × List Int)) (us : List Value) (w : World) (h : RdN w 2 v (mkN 2 k0 (P.map neD)) us) (hk0 : endN 2 k0 (P.map neD) ≤ 140737488355328) :
    Calls Tryd.prog 12 #[v, .int .i64 k0] w fun e w' => e = .returned (.int .i64 (endN 2 k0 (P.map neD) : Nat)) ∧ w' = w := by
  have hl0 : (mkN 2 k0 (P.map neD)).length = P.length := by rw [mkN_len]; simp
  obtain ⟨a, cap, rfl⟩ : ∃ a cap, v = .slice a P.length cap := by obtain ⟨a, cap, e, _⟩ := h.row; exact ⟨a, cap, by rw [e, hl0]⟩
  have hm : P.length ≤ 9223372036854775807 := by obtain ⟨a, cap, _, _, g1, g2⟩ := h.row; unfold maxLen at g2; omega
  have HM := hide (fun i => endN_mono 2 (P.map neD) k0 i)
  have H := hide (show RdN w 2 (.slice a (mkN 2 k0 (P.map neD)).length cap) (mkN 2 k0 (P.map neD)) us from by rw [hl0]; exact h)
  clear h
  go_enter Tryd.func12, Tryd.ntmps12
  go_wp2
  go_loop [1, 5] (fun x i => ∃ k : Nat, k ≤ P.length ∧ i = .int .i64 k ∧ x = .int .i64 (endN 2 k0 ((P.map neD).take k) : Nat)) (fun _ i => P.length - (intOf i).toNat)
  case atStart => exact ⟨0, Nat.zero_le _, rfl, by simp [endN]⟩
  case round =>
    obtain ⟨k, hk, rfl, rfl⟩ := hrel
    by_cases hlt : k < P.length
    · obtain ⟨p, hp⟩ : ∃ p, P[k]? = some p := ⟨_, List.getElem?_eq_getElem hlt⟩
      have hpl : (P.map neD)[k]? = some (neD p) := by rw [List.getElem?_map, hp]; rfl
      have hE := endN_take 2 (P.map neD) k0 k _ hpl
      have hM := HM.out (k + 1)
      rw [hE] at hM
      have hAT := mkN_at 2 (P.map neD) k0 k _ hpl
      rw [mkE_D] at hAT
      obtain ⟨b, off, u, e0, hb0, hu, hrd, hrg⟩ := H.out.at hAT
      subst e0
      obtain ⟨x0, x1, zs⟩ := p
      generalize endN 2 k0 ((P.map neD).take k) = kk at hE hM hAT hrd hrg ⊢
      have hzs : (neD (x0, x1, zs)).2.length = zs.length := rfl
      rw [hzs] at hM hE
      have c0 : w.cell? ⟨b, off + k * 3, none⟩ = some (.int .i64 (kk : Int)) := by
        have := hrg 0 (.int .i64 (kk : Int)) rfl
        simpa using this
      have c1 : w.cell? ⟨b, off + k * 3 + 1, none⟩ = some (.int .i64 ((kk : Int) + 1)) := by
        have := hrg 1 (.int .i64 ((kk + 1 : Nat) : Int)) rfl
        simpa using this
      have hrd2 : Rd .u8 w u (mk8 (kk + 2) zs.length) := hrd
      obtain ⟨au, cu, rfl⟩ := rd_shape hrd2
      have c2 : w.cell? ⟨b, off + k * 3 + 2, none⟩ = some (.slice au (mk8 (kk + 2) zs.length).length cu) := by
        have := hrg 2 (.slice au (mk8 (kk + 2) zs.length).length cu) rfl
        simpa using this
      rw [mk8_len] at c2 hrd2
      have HD := hide hrd2
      have HE := hide hE
      have q0 : ((kk : Int) != (kk : Int)) = false := by simp
      have q1 : ((kk : Int) + 1 != (kk : Int) + 1) = false := by simp
      clear hrg hrd hrd2 hE hAT hu hpl hp HM
      go_wp2_with fail
      refine (heldByteS_any (.slice au zs.length cu) zs.length (kk + 2) _ HD.out (by omega) (by omega)).mono ?_
      rintro e w3 ⟨rfl, hw3⟩
      rw [hw3]
      clear hw3 w3
      have q3 : decide (((kk + 2 + zs.length : Nat) : Int) < 0) = false := by simp; omega
      go_wp2
      go_round
      case rel => exact ⟨k + 1, by omega, by go_num, by rw [HE.out]; go_num⟩
      case measure => simp [intOf]; omega
    · obtain rfl : k = P.length := by omega
      have HE := hide (show endN 2 k0 ((P.map neD).take P.length) = endN 2 k0 (P.map neD) by rw [List.take_of_length_le (by simp)])
      rw [HE.out]
      go_wp2
      go_ret
      exact ⟨rfl, rfl⟩
end Go.Proofs.YtmmhkjpkidljlaaDoor

namespace Go.Proofs.YtmmhkjpkidljlaaDoor
set_option linter.unusedVariables false
set_option linter.unusedSimpArgs false
open Go.RowKit

theorem info12 : (Tryd.prog.info? 23).map (·.size) = some 12 := by kernel_rfl
theorem infoL15 : (Tryd.prog.info? 25).map (·.size) = some 15 := by kernel_rfl
theorem info15 : (Tryd.prog.info? 36).map (·.size) = some 15 := by kernel_rfl

set_option maxRecDepth 100000 in
set_option maxHeartbeats 400000 in
theorem toIntA12_any (ds : List Int) (w : World) (hd : ds.length = 12) :
    Calls Tryd.prog 60 #[.agg (cellsI ds)] w fun e w' => e = .returned (.agg (cellsI ds)) ∧ Below w.heap.size w w' := by
  have HD := hide hd
  clear hd
  go_enter Tryd.func60, Tryd.ntmps60
  go_wp2
  go_loopw [4] (fun i wr => ∃ k : Nat, k ≤ 12 ∧ i = .int .i64 k ∧ Blk wr w.heap.size (cellsI ds) 23 ∧ Blk wr (w.heap.size + 1) (cellsI (List.replicate 12 0)) 23 ∧ Blk wr (w.heap.size + 1 + 1) (cellsI (ds.take k ++ List.replicate (12 - k) 0)) 23 ∧ Below w.heap.size w wr) (fun i _ => 12 - (intOf i).toNat)
  case atStart =>
    refine ⟨0, by omega, rfl, ((Blk.new w _ _).alloc _).alloc _, ?_, ?_, (((Below.refl _ _).alloc (Nat.le_refl _) _).alloc (by simp) _).alloc (by simp; omega) _⟩
    · have h := (Blk.new (w.alloc (.cells (cellsI ds) 23)) (cellsI (List.replicate 12 0)) 23).alloc (.cells (cellsI (List.replicate 12 0)) 23)
      rw [World.size_alloc] at h
      exact h
    · have h := Blk.new ((w.alloc (.cells (cellsI ds) 23)).alloc (.cells (cellsI (List.replicate 12 0)) 23)) (cellsI (List.replicate 12 0)) 23
      rw [World.size_alloc, World.size_alloc] at h
      exact h
  case round =>
    obtain ⟨k, hk, rfl, h1, h2, h3, hb⟩ := hrel
    by_cases hlt : k < 12
    · have c1 := h1.cell k
      rw [cellsI_get ds k (by rw [HD.out]; exact hlt)] at c1
      obtain ⟨old, c3⟩ : ∃ u, wr.cell? ⟨w.heap.size + 1 + 1, k, none⟩ = some u := by
        rw [h3.cell k]
        exact ⟨_, Array.getElem?_eq_getElem (by rw [cellsI_size]; have := HD.out; simp; omega)⟩
      have f3 := h3.frozen k
      have HS := hide (set_cells ds k 12 hlt HD.out)
      generalize ds.getD k 0 = z at c1 HS
      have HW := hide (show Blk (wr.setCell ⟨w.heap.size + 1 + 1, k, none⟩ (.int .i64 z)) w.heap.size (cellsI ds) 23 ∧ Blk (wr.setCell ⟨w.heap.size + 1 + 1, k, none⟩ (.int .i64 z)) (w.heap.size + 1) (cellsI (List.replicate 12 0)) 23 ∧ Blk (wr.setCell ⟨w.heap.size + 1 + 1, k, none⟩ (.int .i64 z)) (w.heap.size + 1 + 1) (cellsI (ds.take (k + 1) ++ List.replicate (12 - (k + 1)) 0)) 23 ∧ Below w.heap.size w (wr.setCell ⟨w.heap.size + 1 + 1, k, none⟩ (.int .i64 z)) from by
        refine ⟨h1.other _ _ (by show _ ≠ w.heap.size + 1 + 1; omega), h2.other _ _ (by show _ ≠ w.heap.size + 1 + 1; omega), ?_, hb.setCell (by show _ ≤ w.heap.size + 1 + 1; omega) _⟩
        rw [← HS.out]
        exact h3.set k _)
      clear h1 h2 h3 hb
      go_wp2
      go_roundw
      case rel => exact ⟨k + 1, by omega, by go_num, HW.out.1, HW.out.2.1, HW.out.2.2.1, HW.out.2.2.2⟩
      case measure => simp [intOf]; omega
    · have hk12 : k = 12 := by omega
      subst hk12
      rw [List.take_of_length_le (by rw [HD.out]; omega), Nat.sub_self, List.replicate_zero, List.append_nil] at h3
      have hsz : (cellsI ds).size = 12 := by rw [cellsI_size]; exact HD.out
      have HB := hide (And.intro h2 (And.intro h3 hb))
      have HZ := hide hsz
      clear h1 h2 h3 hb hsz
      go_wp2_with (first | (refine wpList_load_row rfl 23 _ rfl (w.heap.size + 1 + 1) rfl 23 (cellsI ds) (0, 0) _ HB.out.2.1 Tryd.underlying23 rfl (by rw [HZ.out]; exact info12) ?_) | (refine wpList_store_row rfl 23 _ _ rfl (w.heap.size + 1) (cellsI ds) rfl rfl 23 _ HB.out.1 (by rw [HZ.out]; exact info12) (by rw [HZ.out]; rfl) (cellsI_one ds) ?_))
      refine bodyPost_ret (v := .agg (cellsI ds)) ?_ rfl ⟨rfl, ?_⟩
      · exact results_cell_row rfl _ _ (w.heap.size + 1) 23 (cellsI ds) (0, 0) _ rfl (HB.out.1.row _) Tryd.underlying23 rfl (by rw [HZ.out]; exact info12)
      · exact below_setRow HB.out.2.2 (by omega) _
end Go.Proofs.YtmmhkjpkidljlaaDoor
