/- Two roots that are the same, compared by the laws' own eqRoot. Two slices of DiskOp that are the same. Slices of Put and of DiskOp that are the call's own, marked; the marks found again. -/
import Derived.Test.YtlimollpocagiaaGreatDoorZr09
import Derived.Test.YtlimollpocagiaaGreatDoorZr25
import Derived.Deep.MidRow
import Derived.Deep.RegionHeld3
namespace Go.Proofs.YtlimollpocagiaaGreatDoor
set_option linter.unusedVariables false
set_option linter.unusedSimpArgs false
open Go.RowKit

set_option maxRecDepth 100000 in
set_option maxHeartbeats 1000000 in
theorem eqIntA12_same (ds : List Int) (w : World) (hd : ds.length = 12) :
    Calls Tryz.prog 88 #[.agg (cellsI ds), .agg (cellsI ds)] w fun e w' => e = .returned (.bool true) ∧ Below w.heap.size w w' := by
  have HD := hide hd
  clear hd
  go_enter Tryz.func88, Tryz.ntmps88
  go_wp2
  go_loopw [5] (fun i wr => ∃ k : Nat, k ≤ 12 ∧ i = .int .i64 k ∧ Blk wr w.heap.size (cellsI ds) 26 ∧ Blk wr (w.heap.size + 1) (cellsI ds) 26 ∧ Below w.heap.size w wr) (fun i _ => 12 - (intOf i).toNat)
  case atStart =>
    refine ⟨0, by omega, rfl, (Blk.new w _ _).alloc _, ?_, ((Below.refl _ _).alloc (Nat.le_refl _) _).alloc (by simp) _⟩
    have h := Blk.new (w.alloc (.cells (cellsI ds) 26)) (cellsI ds) 26
    rw [World.size_alloc] at h
    exact h
  case round =>
    obtain ⟨k, hk, rfl, h1, h2, hb⟩ := hrel
    by_cases hlt : k < 12
    · have c1 := h1.cell k
      rw [cellsI_get ds k (by rw [HD.out]; exact hlt)] at c1
      have c2 := h2.cell k
      rw [cellsI_get ds k (by rw [HD.out]; exact hlt)] at c2
      generalize ds.getD k 0 = z at c1 c2
      have HW := hide (And.intro h1 (And.intro h2 hb))
      clear h1 h2 hb
      go_wp2
      go_region
      go_wp2
      go_roundw
      case rel => exact ⟨k + 1, by omega, by go_num, HW.out.1, HW.out.2.1, HW.out.2.2.drew⟩
      case measure => simp [intOf]; omega
    · have hk12 : k = 12 := by omega
      subst hk12
      have HB := hide hb
      clear h1 h2 hb
      go_wp2
      go_ret
      exact ⟨rfl, HB.out⟩

set_option maxRecDepth 100000 in
set_option maxHeartbeats 1000000 in
theorem eqRoot_same (s : Int) (ds : List Int) (p q : Int) (w : World) (hd : ds.length = 12) :
    Calls Tryz.prog 51 #[.agg (cellsI (rootI s ds p q)), .agg (cellsI (rootI s ds p q))] w fun e w' => e = .returned (.bool true) ∧ Below w.heap.size w w' := by
  have HD := hide hd
  have k0 : Blk ((w.alloc (.cells (cellsI (rootI s ds p q)) 28)).alloc (.cells (cellsI (rootI s ds p q)) 28)) w.heap.size (cellsI (rootI s ds p q)) 28 := (Blk.new w _ _).alloc _
  have k1 : Blk ((w.alloc (.cells (cellsI (rootI s ds p q)) 28)).alloc (.cells (cellsI (rootI s ds p q)) 28)) (w.heap.size + 1) (cellsI (rootI s ds p q)) 28 := by
    have h := Blk.new (w.alloc (.cells (cellsI (rootI s ds p q)) 28)) (cellsI (rootI s ds p q)) 28
    rw [World.size_alloc] at h
    exact h
  have hb : Below w.heap.size w ((w.alloc (.cells (cellsI (rootI s ds p q)) 28)).alloc (.cells (cellsI (rootI s ds p q)) 28)) := ((Below.refl _ _).alloc (Nat.le_refl _) _).alloc (by simp) _
  have K := hide (And.intro k0 (And.intro k1 hb))
  have a0 : ((w.alloc (.cells (cellsI (rootI s ds p q)) 28)).alloc (.cells (cellsI (rootI s ds p q)) 28)).cell? ⟨w.heap.size, 0, none⟩ = some (.int .i64 s) := k0.cell 0
  have b0 : ((w.alloc (.cells (cellsI (rootI s ds p q)) 28)).alloc (.cells (cellsI (rootI s ds p q)) 28)).cell? ⟨w.heap.size + 1, 0, none⟩ = some (.int .i64 s) := k1.cell 0
  clear hd k0 k1 hb
  go_enter Tryz.func51, Tryz.ntmps51
  go_wp2_with (first
    | (refine wpList_load_mid rfl 26 _ rfl w.heap.size 1 rfl (ds.map (Value.int .i64)) _ (by have h := K.out.1.range 1 12 (by rw [rootI_len _ _ _ _ HD.out]; omega); rw [root_range _ _ _ _ HD.out] at h; exact h) Tryz.underlying26 rfl (by rw [List.length_map, HD.out]; exact info12) ?_)
    | (refine wpList_load_mid rfl 26 _ rfl (w.heap.size + 1) 1 rfl (ds.map (Value.int .i64)) _ (by have h := K.out.2.1.range 1 12 (by rw [rootI_len _ _ _ _ HD.out]; omega); rw [root_range _ _ _ _ HD.out] at h; exact h) Tryz.underlying26 rfl (by rw [List.length_map, HD.out]; exact info12) ?_)
    | (go_at_call 88; fail))
  refine (eqIntA12_same ds _ HD.out).mono ?_
  rintro e w1 ⟨rfl, b1⟩
  have hs1 := b1.size
  rw [World.size_alloc, World.size_alloc] at hs1
  have q0 := K.out.1.below b1 (by simp; omega)
  have q1 := K.out.2.1.below b1 (by simp)
  have a13 := (q0.cell 13).trans (rootI_get13 s ds p q HD.out)
  have a14 := (q0.cell 14).trans (rootI_get14 s ds p q HD.out)
  have b13 := (q1.cell 13).trans (rootI_get13 s ds p q HD.out)
  have b14 := (q1.cell 14).trans (rootI_get14 s ds p q HD.out)
  have B1 := hide (K.out.2.2.trans (b1.mono K.out.2.2.size))
  clear b1 q0 q1 a0 b0 hs1
  go_wp2
  go_ret
  exact ⟨rfl, B1.out⟩
end Go.Proofs.YtlimollpocagiaaGreatDoor

namespace Go.Proofs.YtlimollpocagiaaGreatDoor
set_option linter.unusedVariables false
set_option linter.unusedSimpArgs false
open Go.RowKit

/-- A DiskOp as an element. -/
def neD (p : Int × Int × List Int) : NE := ([.int .i64 p.1, .int .i64 p.2.1], p.2.2)
end Go.Proofs.YtlimollpocagiaaGreatDoor

namespace Go.Proofs.YtlimollpocagiaaGreatDoor
set_option linter.unusedVariables false
set_option linter.unusedSimpArgs false
open Go.RowKit

theorem OwnN.at {W : World} {base g : Nat} {e : TypeId} {m : Nat} {v : Value} {L : List NE} {vs : List Value} (h : OwnN W base e m v L vs) {i : Nat} {l : NE} (hl : L[i]? = some l) (hv : v.ownBlock = some g) :
    ∃ u, vs[i]? = some u ∧ W.ownsRow base 5 1 u l.2.length (l.2.map (Value.int .u8)) ∧ ∀ (j : Nat) (x : Value), (l.1 ++ [u])[j]? = some x → W.cell? ⟨g, i * (m + 1) + j, none⟩ = some x ∧ W.frozen? ⟨g, i * (m + 1) + j, none⟩ = false := by
  have hi : i < L.length := (List.getElem?_eq_some_iff.1 hl).1
  obtain ⟨u, hu⟩ : ∃ x, vs[i]? = some x := ⟨_, List.getElem?_eq_getElem (by rw [h.len]; exact hi)⟩
  refine ⟨u, hu, h.dat i u l hu hl, fun j x hx => ?_⟩
  have hj : j < m + 1 := by
    have := (List.getElem?_eq_some_iff.1 hx).1
    simp [h.pre l (List.mem_of_getElem? hl)] at this
    omega
  have hc := (cellsN_get m vs L h.len h.pre i j u l hu hl hj).trans hx
  rcases h.row.2 with ⟨rfl, _⟩ | ⟨g', cap, cur, rfl, hb, hg, hn, hm, hs, ht⟩
  · cases hv
  · obtain rfl : g' = g := by simpa [Value.ownBlock] using hv
    have hB : Blk W g' cur e := hg
    refine ⟨?_, hB.frozen _⟩
    rw [hB.cell, ← Array.getElem?_toList]
    rw [← ht, List.getElem?_take] at hc
    split at hc
    · exact hc
    · cases hc
theorem OwnN.blk {W : World} {base : Nat} {e : TypeId} {m n : Nat} {a : Option Addr} {cap : Nat} {L : List NE} {vs : List Value} (h : OwnN W base e m (.slice a n cap) L vs) (hn : 0 < L.length) : ∃ g, a = some ⟨g, 0, none⟩ := by
  rcases h.row.2 with ⟨_, h0⟩ | ⟨g, cap', cur, e, _⟩
  · omega
  · injection e with e1 e2 e3
    exact ⟨g, e1⟩
theorem mkE_P (kk : Nat) (p : Int × List Int) : mkE 1 kk (neP p) = neP ((kk : Int), mk8 (kk + 1) p.2.length) := rfl

set_option maxRecDepth 100000 in
set_option maxHeartbeats 2000000 in
theorem markPutS_any (v : Value) (base k0 : Nat) (P : List (Int × List Int)) (vs : List Value) (w : World) (h : OwnN w base 44 1 v (P.map neP) vs) (hk0 : endN 1 k0 (P.map neP) ≤ 140737488355328) :
    Calls Tryz.prog 53 #[v, .int .i64 k0] w fun e w' => e = .returned (.int .i64 (endN 1 k0 (P.map neP) : Nat)) ∧ OwnN w' base 44 1 v (mkN 1 k0 (P.map neP)) vs ∧ KpN w w' v vs := by
  obtain ⟨a, cap, rfl⟩ : ∃ a cap, v = .slice a P.length cap := by obtain ⟨a, cap, e⟩ := own_shape h.row; exact ⟨a, cap, by simpa using e⟩
  have hm : P.length ≤ 9223372036854775807 := by obtain ⟨a, cap, _, _, g1, g2⟩ := h.rd.row; unfold maxLen at g2; simp at g1; omega
  have HM := hide (fun i => endN_mono 1 (P.map neP) k0 i)
  have H := hide h
  clear h
  go_enter Tryz.func53, Tryz.ntmps53
  go_wp2
  go_loopw [1, 5] (fun x i wr => ∃ k : Nat, k ≤ P.length ∧ i = .int .i64 k ∧ x = .int .i64 (endN 1 k0 ((P.map neP).take k) : Nat) ∧ OwnN wr base 44 1 (.slice a P.length cap) (mkN 1 k0 ((P.map neP).take k) ++ (P.map neP).drop k) vs ∧ KpN w wr (.slice a P.length cap) vs) (fun _ i _ => P.length - (intOf i).toNat)
  case atStart => exact ⟨0, Nat.zero_le _, rfl, by simp [endN], by simpa [mkN] using H.out, KpN.refl _ _ _⟩
  case round =>
    clear H
    obtain ⟨k, hk, rfl, rfl, ho, hkp⟩ := hrel
    by_cases hlt : k < P.length
    · obtain ⟨p, hp⟩ : ∃ p, P[k]? = some p := ⟨_, List.getElem?_eq_getElem hlt⟩
      have hpl : (P.map neP)[k]? = some (neP p) := by rw [List.getElem?_map, hp]; rfl
      have hE := endN_take 1 (P.map neP) k0 k _ hpl
      have hM := HM.out (k + 1)
      rw [hE] at hM
      have hST := mk_step 1 (P.map neP) k0 k _ hpl
      have hAT := mk_at 1 (P.map neP) k0 k _ hpl
      rw [mkE_P] at hST
      obtain ⟨x0, zs⟩ := p
      obtain ⟨g, rfl⟩ := ho.blk (by rw [List.length_append, mkN_len]; simp; omega)
      generalize endN 1 k0 ((P.map neP).take k) = kk at hE hM hST ⊢
      generalize hLL : mkN 1 k0 ((P.map neP).take k) ++ (P.map neP).drop k = LL at ho hST hAT
      have hkL : k < LL.length := (List.getElem?_eq_some_iff.1 hAT).1
      have hzs : (neP (x0, zs)).2.length = zs.length := rfl
      rw [hzs] at hM hE
      have o2 : OwnN (wr.setCell ⟨g, k * 2, none⟩ (.int .i64 (kk : Int))) base 44 1 (.slice (some ⟨g, 0, none⟩) P.length cap) (LL.set k (neP ((kk : Int), zs))) vs := ho.field (by decide) k 0 (neP (x0, zs)) (.int .i64 (kk : Int)) hAT (by omega) rfl
      obtain ⟨u, hu, hd, hc⟩ := ho.at hAT (g := g) rfl
      obtain ⟨u2, hu2, hd2, hc2⟩ := o2.at (List.getElem?_set_self hkL) (g := g) rfl
      obtain rfl : u2 = u := Option.some.inj (hu2.symm.trans hu)
      obtain ⟨au, cu, rfl⟩ := own_shape hd
      have c0 := (hc 0 (.int .i64 x0) rfl).1
      have f0 := (hc 0 (.int .i64 x0) rfl).2
      have c2 := (hc2 1 (.slice au zs.length cu) rfl).1
      have K3 := hide (hkp.row (set_grown wr g (k * 2) (.int .i64 (kk : Int))))
      have O2 := hide (And.intro o2 hd2)
      have HU := hide (And.intro hu2 (And.intro hST (And.intro hE hkL)))
      simp only [show (1 : Nat) + 1 = 2 from rfl, Nat.add_zero] at c0 f0 c2
      clear hc hc2 hd hd2 hu hu2 o2 ho hkp hST hAT hE hpl hp hLL HM
      go_wp2_with fail
      refine (markByteS_any (.slice au zs.length cu) base zs.length (kk + 1) _ _ O2.out.2 (by omega) (by omega)).mono ?_
      rintro e w3 ⟨rfl, o3, g3⟩
      have O3 := hide (O2.out.1.data (by decide) k _ _ (mk8 (kk + 1) zs.length) HU.out.1 (List.getElem?_set_self HU.out.2.2.2) (by rw [mk8_len]; exact o3) g3)
      have K4 := hide (K3.out.dat _ (List.mem_of_getElem? HU.out.1) g3)
      clear o3 g3 O2 K3
      go_wp2
      go_roundw
      case rel =>
        refine ⟨k + 1, by omega, by go_num, ?_, ?_, K4.out⟩
        · rw [HU.out.2.2.1]
          go_num
        · rw [← HU.out.2.1]
          have := O3.out
          rw [List.set_set] at this
          exact this
      case measure => simp [intOf]; omega
    · obtain rfl : k = P.length := by omega
      have HF := hide (show OwnN wr base 44 1 (.slice a P.length cap) (mkN 1 k0 (P.map neP)) vs from by
        have := ho
        rw [List.take_of_length_le (by simp), List.drop_of_length_le (by simp), List.append_nil] at this
        exact this)
      have HE := hide (show endN 1 k0 ((P.map neP).take P.length) = endN 1 k0 (P.map neP) by rw [List.take_of_length_le (by simp)])
      have HK := hide hkp
      rw [HE.out]
      clear ho hkp
      go_wp2
      go_ret
      exact ⟨rfl, HF.out, HK.out⟩

end Go.Proofs.YtlimollpocagiaaGreatDoor
