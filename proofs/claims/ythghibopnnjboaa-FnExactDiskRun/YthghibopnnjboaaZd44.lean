/- Slices of DiskAns: two that are the same, marks, marks held. -/
import Derived.Test.YthghibopnnjboaaZd43
import Derived.Deep.MidRow
import Derived.Deep.RegionHeld3
namespace Go.Proofs.Ythghibopnnjboaa
set_option linter.unusedVariables false
set_option linter.unusedSimpArgs false
open Go.RowKit

theorem neA_pre (P : List (Int × List Int)) : ∀ l ∈ P.map neA, l.1.length = 1 := by
  intro l hl
  rw [List.mem_map] at hl
  obtain ⟨p, _, rfl⟩ := hl
  rfl
theorem mkE_A (kk : Nat) (p : Int × List Int) : mkE 1 kk (neA p) = neA ((kk : Int), mk8 (kk + 1) p.2.length) := rfl
set_option maxRecDepth 100000 in
theorem eqDiskAns_same (x0 : Int) (u1 u2 : Value) (zs : List Int) (w : World) (h1 : Rd .u8 w u1 zs) (h2 : Rd .u8 w u2 zs) :
    Calls Try.prog 53 #[.agg #[.int .i64 x0, u1], .agg #[.int .i64 x0, u2]] w fun e w' => e = .returned (.bool true) ∧ Below w.heap.size w w' := by
  obtain ⟨a1, c1, rfl⟩ := rd_shape h1
  obtain ⟨a2, c2, rfl⟩ := rd_shape h2
  have HB := hide (show ∀ A B, Below w.heap.size w ((w.alloc A).alloc B) from fun A B => ((Below.refl _ _).alloc (Nat.le_refl _) _).alloc (by simp) _)
  have H1 := hide h1
  have H2 := hide h2
  clear h1 h2
  have qx0 : (x0 != x0) = false := by simp
  go_enter Try.func53, Try.ntmps53
  go_wp2_with fail
  refine (eqByteS_same _ _ zs _ (H1.out.below (HB.out _ _)) (H2.out.below (HB.out _ _))).mono ?_
  rintro e w1 ⟨rfl, b1⟩
  have B1 := hide ((HB.out _ _).trans (b1.mono (HB.out _ _).size))
  clear b1
  go_wp2
  go_ret
  exact ⟨rfl, B1.out⟩

set_option maxRecDepth 100000 in
set_option maxHeartbeats 2000000 in
theorem eqDiskAnsS_same (v1 v2 : Value) (P : List (Int × List Int)) (us1 us2 : List Value) (w : World) (h1 : RdN w 1 v1 (P.map neA) us1) (h2 : RdN w 1 v2 (P.map neA) us2) :
    Calls Try.prog 37 #[v1, v2] w fun e w' => e = .returned (.bool true) ∧ Below w.heap.size w w' := by
  obtain ⟨a1, c1, rfl⟩ : ∃ a cap, v1 = .slice a P.length cap := by obtain ⟨a, cap, e, _⟩ := h1.row; exact ⟨a, cap, by simpa using e⟩
  obtain ⟨a2, c2, rfl⟩ : ∃ a cap, v2 = .slice a P.length cap := by obtain ⟨a, cap, e, _⟩ := h2.row; exact ⟨a, cap, by simpa using e⟩
  have hm : P.length ≤ 9223372036854775807 := by obtain ⟨a, cap, _, _, g1, g2⟩ := h1.row; unfold maxLen at g2; simp at g1; omega
  have H1 := hide (show RdN w 1 (.slice a1 (P.map neA).length c1) (P.map neA) us1 from by simpa using h1)
  have H2 := hide (show RdN w 1 (.slice a2 (P.map neA).length c2) (P.map neA) us2 from by simpa using h2)
  clear h1 h2
  have hcc : ((P.length : Int) != (P.length : Int)) = false := by simp
  go_enter Try.func37, Try.ntmps37
  go_wp2
  go_loopw [5] (fun i wr => ∃ k : Nat, k ≤ P.length ∧ i = .int .i64 k ∧ Below w.heap.size w wr) (fun i _ => P.length - (intOf i).toNat)
  case atStart => exact ⟨0, Nat.zero_le _, rfl, Below.refl _ _⟩
  case round =>
    obtain ⟨k, hk, rfl, hb1⟩ := hrel
    have HK := hide hb1
    clear hb1
    by_cases hlt : k < P.length
    · obtain ⟨p, hp⟩ : ∃ p, P[k]? = some p := ⟨_, List.getElem?_eq_getElem hlt⟩
      obtain ⟨x0, zs⟩ := p
      obtain ⟨b, off, u, e0, hb0, hu, hrd, hrg⟩ := (H1.out.below HK.out).at (i := k) (l := neA (x0, zs)) (by rw [List.getElem?_map, hp]; rfl)
      obtain ⟨b', off', u', e0', hb0', hu', hrd', hrg'⟩ := (H2.out.below HK.out).at (i := k) (l := neA (x0, zs)) (by rw [List.getElem?_map, hp]; rfl)
      subst e0
      subst e0'
      have HR := hide (show wr.rangeAt b (off + k * 2) [.int .i64 x0, u] from hrg)
      have HR' := hide (show wr.rangeAt b' (off' + k * 2) [.int .i64 x0, u'] from hrg')
      have HD := hide (And.intro (show Rd .u8 wr u zs from hrd) (show Rd .u8 wr u' zs from hrd'))
      clear hrg hrg' hrd hrd' hu hu' hp
      go_wp2_with fail
      refine wp_region_noPanic ?_
      refine wp_region_held_drew (S := fun w' => w'.rangeAt b (off + k * 2) [.int .i64 x0, u] ∧ w'.rangeAt b' (off' + k * 2) [.int .i64 x0, u']) (by kernel_rfl) ⟨HR.out, HR'.out⟩ (fun hH => ?_)
      refine wpAnyH_take (i := 0) (oi := _) (v := .slice (some ⟨b, off, none⟩) P.length c1) rfl (by kernel_rfl) (by kernel_rfl) (by kernel_rfl) (fun _ _ _ h => h) (Or.inl ⟨by rfl, fun w' hw' => by go_simp⟩) hH ?_
      try simp only [Act.put, List.getElem_toArray, List.getElem_cons_zero, List.getElem_cons_succ, List.setIfInBounds_toArray, List.set_cons_zero, List.set_cons_succ]
      refine wpAnyH_take (i := 1) (oi := _) (v := .int .i64 k) rfl (by kernel_rfl) (by kernel_rfl) (by kernel_rfl) (fun _ _ _ h => h) (Or.inl ⟨by rfl, fun w' hw' => by go_simp⟩) hH ?_
      try simp only [Act.put, List.getElem_toArray, List.getElem_cons_zero, List.getElem_cons_succ, List.setIfInBounds_toArray, List.set_cons_zero, List.set_cons_succ]
      refine wpAnyH_take (i := 2) (oi := _) (v := .pointer (some ⟨b, off + k * 2, none⟩)) rfl (by kernel_rfl) (by kernel_rfl) (by kernel_rfl) (fun _ _ _ h => h) (Or.inl ⟨by rfl, fun w' hw' => by go_simp⟩) hH ?_
      try simp only [Act.put, List.getElem_toArray, List.getElem_cons_zero, List.getElem_cons_succ, List.setIfInBounds_toArray, List.set_cons_zero, List.set_cons_succ]
      refine wpAnyH_take (i := 3) (oi := _) (v := .agg #[.int .i64 x0, u]) rfl (by kernel_rfl) (by kernel_rfl) (by kernel_rfl) (fun _ _ _ h => h) (yieldsIf_load_mid (by rfl) 55 _ rfl b (off + k * 2) rfl [.int .i64 x0, u] _ (fun w' h => h.1) Try.underlying55 rfl infoA2) hH ?_
      try simp only [Act.put, List.getElem_toArray, List.getElem_cons_zero, List.getElem_cons_succ, List.setIfInBounds_toArray, List.set_cons_zero, List.set_cons_succ]
      refine wpAnyH_take (i := 4) (oi := _) (v := .slice (some ⟨b', off', none⟩) P.length c2) rfl (by kernel_rfl) (by kernel_rfl) (by kernel_rfl) (fun _ _ _ h => h) (Or.inl ⟨by rfl, fun w' hw' => by go_simp⟩) hH ?_
      try simp only [Act.put, List.getElem_toArray, List.getElem_cons_zero, List.getElem_cons_succ, List.setIfInBounds_toArray, List.set_cons_zero, List.set_cons_succ]
      refine wpAnyH_take (i := 5) (oi := _) (v := .int .i64 k) rfl (by kernel_rfl) (by kernel_rfl) (by kernel_rfl) (fun _ _ _ h => h) (Or.inl ⟨by rfl, fun w' hw' => by go_simp⟩) hH ?_
      try simp only [Act.put, List.getElem_toArray, List.getElem_cons_zero, List.getElem_cons_succ, List.setIfInBounds_toArray, List.set_cons_zero, List.set_cons_succ]
      refine wpAnyH_take (i := 6) (oi := _) (v := .pointer (some ⟨b', off' + k * 2, none⟩)) rfl (by kernel_rfl) (by kernel_rfl) (by kernel_rfl) (fun _ _ _ h => h) (Or.inl ⟨by rfl, fun w' hw' => by go_simp⟩) hH ?_
      try simp only [Act.put, List.getElem_toArray, List.getElem_cons_zero, List.getElem_cons_succ, List.setIfInBounds_toArray, List.set_cons_zero, List.set_cons_succ]
      refine wpAnyH_take (i := 7) (oi := _) (v := .agg #[.int .i64 x0, u']) rfl (by kernel_rfl) (by kernel_rfl) (by kernel_rfl) (fun _ _ _ h => h) (yieldsIf_load_mid (by rfl) 55 _ rfl b' (off' + k * 2) rfl [.int .i64 x0, u'] _ (fun w' h => h.2) Try.underlying55 rfl infoA2) hH ?_
      try simp only [Act.put, List.getElem_toArray, List.getElem_cons_zero, List.getElem_cons_succ, List.setIfInBounds_toArray, List.set_cons_zero, List.set_cons_succ]
      refine wpAnyH_ready (rs := [8]) (by kernel_rfl) (by simp) ?_
      refine AllReadyH.cons (o := _) rfl (fun K hK => ?_) AllReadyH.nil
      go_simp
      refine (eqDiskAns_same x0 _ _ zs _ (HD.out.1.below ((Below.refl _ _).drew)) (HD.out.2.below ((Below.refl _ _).drew))).mono ?_
      rintro e w2 ⟨rfl, b2⟩
      have b3 := ((Below.refl _ _).drew).trans b2
      have B2 := hide (HK.out.trans (b3.mono HK.out.size))
      have s2 : w2.rangeAt b (off + k * 2) [.int .i64 x0, u] ∧ w2.rangeAt b' (off' + k * 2) [.int .i64 x0, u'] := ⟨fun j v hv => (b3.cell (p := ⟨b, off + k * 2 + j, none⟩) hb0).trans (HR.out j v hv), fun j v hv => (b3.cell (p := ⟨b', off' + k * 2 + j, none⟩) hb0').trans (HR'.out j v hv)⟩
      refine hK.out _ _ s2 (fun hH => ?_)
      clear hK K s2 b2 b3 HK
      try simp only [Act.put, List.getElem_toArray, List.getElem_cons_zero, List.getElem_cons_succ, List.setIfInBounds_toArray, List.set_cons_zero, List.set_cons_succ]
      refine wpAnyH_take (i := 9) (oi := _) (v := .bool false) rfl (by kernel_rfl) (by kernel_rfl) (by kernel_rfl) (fun _ _ _ h => h) (Or.inl ⟨by rfl, fun w' hw' => by go_simp⟩) hH ?_
      try simp only [Act.put, List.getElem_toArray, List.getElem_cons_zero, List.getElem_cons_succ, List.setIfInBounds_toArray, List.set_cons_zero, List.set_cons_succ]
      refine wpAnyH_done (by kernel_rfl) (NoPanic.normal ?_) _
      clear hH
      go_wp2
      go_roundw
      case rel => exact ⟨k + 1, by omega, by go_num, B2.out⟩
      case measure => simp [intOf]; omega
    · go_wp2
      go_ret
      exact ⟨rfl, HK.out⟩

set_option maxRecDepth 100000 in
set_option maxHeartbeats 2000000 in
theorem markDiskAnsS_any (v : Value) (base k0 : Nat) (P : List (Int × List Int)) (vs : List Value) (w : World) (h : OwnN w base 55 1 v (P.map neA) vs) (hk0 : endN 1 k0 (P.map neA) ≤ 140737488355328) :
    Calls Try.prog 39 #[v, .int .i64 k0] w fun e w' => e = .returned (.int .i64 (endN 1 k0 (P.map neA) : Nat)) ∧ OwnN w' base 55 1 v (mkN 1 k0 (P.map neA)) vs ∧ KpN w w' v vs := by
  obtain ⟨a, cap, rfl⟩ : ∃ a cap, v = .slice a P.length cap := by obtain ⟨a, cap, e⟩ := own_shape h.row; exact ⟨a, cap, by simpa using e⟩
  have hm : P.length ≤ 9223372036854775807 := by obtain ⟨a, cap, _, _, g1, g2⟩ := h.rd.row; unfold maxLen at g2; simp at g1; omega
  have HM := hide (fun i => endN_mono 1 (P.map neA) k0 i)
  have H := hide h
  clear h
  go_enter Try.func39, Try.ntmps39
  go_wp2
  go_loopw [1, 5] (fun x i wr => ∃ k : Nat, k ≤ P.length ∧ i = .int .i64 k ∧ x = .int .i64 (endN 1 k0 ((P.map neA).take k) : Nat) ∧ OwnN wr base 55 1 (.slice a P.length cap) (mkN 1 k0 ((P.map neA).take k) ++ (P.map neA).drop k) vs ∧ KpN w wr (.slice a P.length cap) vs) (fun _ i _ => P.length - (intOf i).toNat)
  case atStart => exact ⟨0, Nat.zero_le _, rfl, by simp [endN], by simpa [mkN] using H.out, KpN.refl _ _ _⟩
  case round =>
    clear H
    obtain ⟨k, hk, rfl, rfl, ho, hkp⟩ := hrel
    by_cases hlt : k < P.length
    · obtain ⟨p, hp⟩ : ∃ p, P[k]? = some p := ⟨_, List.getElem?_eq_getElem hlt⟩
      have hpl : (P.map neA)[k]? = some (neA p) := by rw [List.getElem?_map, hp]; rfl
      have hE := endN_take 1 (P.map neA) k0 k _ hpl
      have hM := HM.out (k + 1)
      rw [hE] at hM
      have hST := mk_step 1 (P.map neA) k0 k _ hpl
      have hAT := mk_at 1 (P.map neA) k0 k _ hpl
      rw [mkE_A] at hST
      obtain ⟨x0, zs⟩ := p
      obtain ⟨g, rfl⟩ := ho.blk (by rw [List.length_append, mkN_len]; simp; omega)
      generalize endN 1 k0 ((P.map neA).take k) = kk at hE hM hST ⊢
      generalize hLL : mkN 1 k0 ((P.map neA).take k) ++ (P.map neA).drop k = LL at ho hST hAT
      have hkL : k < LL.length := (List.getElem?_eq_some_iff.1 hAT).1
      have hzs : (neA (x0, zs)).2.length = zs.length := rfl
      rw [hzs] at hM hE
      have o2 : OwnN (wr.setCell ⟨g, k * 2, none⟩ (.int .i64 (kk : Int))) base 55 1 (.slice (some ⟨g, 0, none⟩) P.length cap) (LL.set k (neA ((kk : Int), zs))) vs := ho.field (by decide) k 0 (neA (x0, zs)) (.int .i64 (kk : Int)) hAT (by omega) rfl
      obtain ⟨u, hu, hd, hc⟩ := ho.at hAT (g := g) rfl
      obtain ⟨u2, hu2, hd2, hc2⟩ := o2.at (List.getElem?_set_self hkL) (g := g) rfl
      obtain rfl : u2 = u := Option.some.inj (hu2.symm.trans hu)
      obtain ⟨au, cu, rfl⟩ := own_shape hd
      have c0 := (hc 0 (.int .i64 x0) rfl).1
      have f0 := (hc 0 (.int .i64 x0) rfl).2
      have c2 := (hc2 1 (.slice au zs.length cu) rfl).1
      have K3 := hide (hkp.row (set_grown wr g (k * 2) (.int .i64 (kk : Int))))
      have O2 := hide (And.intro o2 hd2)
      have HU := hide (And.intro hu2 (And.intro hST (And.intro hE hkL)))
      simp only [show (1 : Nat) + 1 = 2 from rfl, Nat.add_zero] at c0 f0 c2
      clear hc hc2 hd hd2 hu hu2 o2 ho hkp hST hAT hE hpl hp hLL HM
      go_wp2_with fail
      refine (markByteS_any (.slice au zs.length cu) base zs.length (kk + 1) _ _ O2.out.2 (by omega) (by omega)).mono ?_
      rintro e w3 ⟨rfl, o3, g3⟩
      have O3 := hide (O2.out.1.data (by decide) k _ _ (mk8 (kk + 1) zs.length) HU.out.1 (List.getElem?_set_self HU.out.2.2.2) (by rw [mk8_len]; exact o3) g3)
      have K4 := hide (K3.out.dat _ (List.mem_of_getElem? HU.out.1) g3)
      clear o3 g3 O2 K3
      go_wp2
      go_roundw
      case rel =>
        refine ⟨k + 1, by omega, by go_num, ?_, ?_, K4.out⟩
        · rw [HU.out.2.2.1]
          go_num
        · rw [← HU.out.2.1]
          have := O3.out
          rw [List.set_set] at this
          exact this
      case measure => simp [intOf]; omega
    · obtain rfl : k = P.length := by omega
      have HF := hide (show OwnN wr base 55 1 (.slice a P.length cap) (mkN 1 k0 (P.map neA)) vs from by
        have := ho
        rw [List.take_of_length_le (by simp), List.drop_of_length_le (by simp), List.append_nil] at this
        exact this)
      have HE := hide (show endN 1 k0 ((P.map neA).take P.length) = endN 1 k0 (P.map neA) by rw [List.take_of_length_le (by simp)])
      have HK := hide hkp
      rw [HE.out]
      clear ho hkp
      go_wp2
      go_ret
      exact ⟨rfl, HF.out, HK.out⟩

set_option maxRecDepth 100000 in
set_option maxHeartbeats 2000000 in
theorem heldDiskAnsS_any (v : Value) (k0 : Nat) (P : List (Int × List Int)) (us : List Value) (w : World) (h : RdN w 1 v (mkN 1 k0 (P.map neA)) us) (hk0 : endN 1 k0 (P.map neA) ≤ 140737488355328) :
    Calls Try.prog 40 #[v, .int .i64 k0] w fun e w' => e = .returned (.int .i64 (endN 1 k0 (P.map neA) : Nat)) ∧ w' = w := by
  have hl0 : (mkN 1 k0 (P.map neA)).length = P.length := by rw [mkN_len]; simp
  obtain ⟨a, cap, rfl⟩ : ∃ a cap, v = .slice a P.length cap := by obtain ⟨a, cap, e, _⟩ := h.row; exact ⟨a, cap, by rw [e, hl0]⟩
  have hm : P.length ≤ 9223372036854775807 := by obtain ⟨a, cap, _, _, g1, g2⟩ := h.row; unfold maxLen at g2; omega
  have HM := hide (fun i => endN_mono 1 (P.map neA) k0 i)
  have H := hide (show RdN w 1 (.slice a (mkN 1 k0 (P.map neA)).length cap) (mkN 1 k0 (P.map neA)) us from by rw [hl0]; exact h)
  clear h
  go_enter Try.func40, Try.ntmps40
  go_wp2
  go_loop [1, 5] (fun x i => ∃ k : Nat, k ≤ P.length ∧ i = .int .i64 k ∧ x = .int .i64 (endN 1 k0 ((P.map neA).take k) : Nat)) (fun _ i => P.length - (intOf i).toNat)
  case atStart => exact ⟨0, Nat.zero_le _, rfl, by simp [endN]⟩
  case round =>
    obtain ⟨k, hk, rfl, rfl⟩ := hrel
    by_cases hlt : k < P.length
    · obtain ⟨p, hp⟩ : ∃ p, P[k]? = some p := ⟨_, List.getElem?_eq_getElem hlt⟩
      have hpl : (P.map neA)[k]? = some (neA p) := by rw [List.getElem?_map, hp]; rfl
      have hE := endN_take 1 (P.map neA) k0 k _ hpl
      have hM := HM.out (k + 1)
      rw [hE] at hM
      have hAT := mkN_at 1 (P.map neA) k0 k _ hpl
      rw [mkE_A] at hAT
      obtain ⟨b, off, u, e0, hb0, hu, hrd, hrg⟩ := H.out.at hAT
      subst e0
      obtain ⟨x0, zs⟩ := p
      generalize endN 1 k0 ((P.map neA).take k) = kk at hE hM hAT hrd hrg ⊢
      have hzs : (neA (x0, zs)).2.length = zs.length := rfl
      rw [hzs] at hM hE
      have c0 : w.cell? ⟨b, off + k * 2, none⟩ = some (.int .i64 (kk : Int)) := by
        have := hrg 0 (.int .i64 (kk : Int)) rfl
        simpa using this
      have hrd2 : Rd .u8 w u (mk8 (kk + 1) zs.length) := hrd
      obtain ⟨au, cu, rfl⟩ := rd_shape hrd2
      have c2 : w.cell? ⟨b, off + k * 2 + 1, none⟩ = some (.slice au (mk8 (kk + 1) zs.length).length cu) := by
        have := hrg 1 (.slice au (mk8 (kk + 1) zs.length).length cu) rfl
        simpa using this
      rw [mk8_len] at c2 hrd2
      have HD := hide hrd2
      have HE := hide hE
      have q0 : ((kk : Int) != (kk : Int)) = false := by simp
      clear hrg hrd hrd2 hE hAT hu hpl hp HM
      go_wp2_with fail
      refine (heldByteS_any (.slice au zs.length cu) zs.length (kk + 1) _ HD.out (by omega) (by omega)).mono ?_
      rintro e w3 ⟨rfl, hw3⟩
      rw [hw3]
      clear hw3 w3
      have q3 : decide (((kk + 1 + zs.length : Nat) : Int) < 0) = false := by simp; omega
      go_wp2
      go_round
      case rel => exact ⟨k + 1, by omega, by go_num, by rw [HE.out]; go_num⟩
      case measure => simp [intOf]; omega
    · obtain rfl : k = P.length := by omega
      have HE := hide (show endN 1 k0 ((P.map neA).take P.length) = endN 1 k0 (P.map neA) by rw [List.take_of_length_le (by simp)])
      rw [HE.out]
      go_wp2
      go_ret
      exact ⟨rfl, rfl⟩
end Go.Proofs.Ythghibopnnjboaa
