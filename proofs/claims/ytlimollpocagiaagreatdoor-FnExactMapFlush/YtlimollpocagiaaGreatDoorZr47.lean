/- What MapFlush tells: held against another, marked, held. Two owned rows that lie apart. -/
import Derived.Test.YtlimollpocagiaaGreatDoorZr45
import Derived.Test.YtlimollpocagiaaGreatDoorZr46
import Derived.Test.YtlimollpocagiaaGreatDoorZr01
namespace Go.Proofs.YtlimollpocagiaaGreatDoor
set_option linter.unusedVariables false
set_option linter.unusedSimpArgs false
open Go.RowKit

theorem list15 {RL : List Int} (h : RL.length = 15) : ∃ a ds p q, ds.length = 12 ∧ RL = rootI a ds p q := by
  match RL, h with
  | a :: L, h =>
    have h1 : (L.drop 12).length = 2 := by simp at h ⊢; omega
    match hd : L.drop 12, h1 with
    | [p, q], _ =>
      refine ⟨a, L.take 12, p, q, by simp at h ⊢; omega, ?_⟩
      unfold rootI
      rw [← hd, List.take_append_drop]
set_option maxRecDepth 100000 in
set_option maxHeartbeats 2000000 in
theorem heldPutS_any (v : Value) (k0 : Nat) (P : List (Int × List Int)) (us : List Value) (w : World) (h : RdN w 1 v (mkN 1 k0 (P.map neP)) us) (hk0 : endN 1 k0 (P.map neP) ≤ 140737488355328) :
    Calls Tryz.prog 55 #[v, .int .i64 k0] w fun e w' => e = .returned (.int .i64 (endN 1 k0 (P.map neP) : Nat)) ∧ w' = w := by
  have hl0 : (mkN 1 k0 (P.map neP)).length = P.length := by rw [mkN_len]; simp
  obtain ⟨a, cap, rfl⟩ : ∃ a cap, v = .slice a P.length cap := by obtain ⟨a, cap, e, _⟩ := h.row; exact ⟨a, cap, by rw [e, hl0]⟩
  have hm : P.length ≤ 9223372036854775807 := by obtain ⟨a, cap, _, _, g1, g2⟩ := h.row; unfold maxLen at g2; omega
  have HM := hide (fun i => endN_mono 1 (P.map neP) k0 i)
  have H := hide (show RdN w 1 (.slice a (mkN 1 k0 (P.map neP)).length cap) (mkN 1 k0 (P.map neP)) us from by rw [hl0]; exact h)
  clear h
  go_enter Tryz.func55, Tryz.ntmps55
  go_wp2
  go_loop [1, 5] (fun x i => ∃ k : Nat, k ≤ P.length ∧ i = .int .i64 k ∧ x = .int .i64 (endN 1 k0 ((P.map neP).take k) : Nat)) (fun _ i => P.length - (intOf i).toNat)
  case atStart => exact ⟨0, Nat.zero_le _, rfl, by simp [endN]⟩
  case round =>
    obtain ⟨k, hk, rfl, rfl⟩ := hrel
    by_cases hlt : k < P.length
    · obtain ⟨p, hp⟩ : ∃ p, P[k]? = some p := ⟨_, List.getElem?_eq_getElem hlt⟩
      have hpl : (P.map neP)[k]? = some (neP p) := by rw [List.getElem?_map, hp]; rfl
      have hE := endN_take 1 (P.map neP) k0 k _ hpl
      have hM := HM.out (k + 1)
      rw [hE] at hM
      have hAT := mkN_at 1 (P.map neP) k0 k _ hpl
      rw [mkE_P] at hAT
      obtain ⟨b, off, u, e0, hb0, hu, hrd, hrg⟩ := H.out.at hAT
      subst e0
      obtain ⟨x0, zs⟩ := p
      generalize endN 1 k0 ((P.map neP).take k) = kk at hE hM hAT hrd hrg ⊢
      have hzs : (neP (x0, zs)).2.length = zs.length := rfl
      rw [hzs] at hM hE
      have c0 : w.cell? ⟨b, off + k * 2, none⟩ = some (.int .i64 (kk : Int)) := by
        have := hrg 0 (.int .i64 (kk : Int)) rfl
        simpa using this
      have hrd2 : Rd .u8 w u (mk8 (kk + 1) zs.length) := hrd
      obtain ⟨au, cu, rfl⟩ := rd_shape hrd2
      have c2 : w.cell? ⟨b, off + k * 2 + 1, none⟩ = some (.slice au (mk8 (kk + 1) zs.length).length cu) := by
        have := hrg 1 (.slice au (mk8 (kk + 1) zs.length).length cu) rfl
        simpa using this
      rw [mk8_len] at c2 hrd2
      have HD := hide hrd2
      have HE := hide hE
      have q0 : ((kk : Int) != (kk : Int)) = false := by simp
      clear hrg hrd hrd2 hE hAT hu hpl hp HM
      go_wp2_with fail
      refine (heldByteS_any (.slice au zs.length cu) zs.length (kk + 1) _ HD.out (by omega) (by omega)).mono ?_
      rintro e w3 ⟨rfl, hw3⟩
      rw [hw3]
      clear hw3 w3
      have q3 : decide (((kk + 1 + zs.length : Nat) : Int) < 0) = false := by simp; omega
      go_wp2
      go_round
      case rel => exact ⟨k + 1, by omega, by go_num, by rw [HE.out]; go_num⟩
      case measure => simp [intOf]; omega
    · obtain rfl : k = P.length := by omega
      have HE := hide (show endN 1 k0 ((P.map neP).take P.length) = endN 1 k0 (P.map neP) by rw [List.take_of_length_le (by simp)])
      rw [HE.out]
      go_wp2
      go_ret
      exact ⟨rfl, rfl⟩
theorem moC_15 {RL : List Int} (h : RL.length = 15) (wv : Value) (cu : Int) (pv : Value) : (moC RL wv cu pv)[15]? = some wv ∧ (moC RL wv cu pv)[16]? = some (.int .i64 cu) := by
  unfold moC
  rw [List.getElem?_toArray, List.getElem?_toArray, List.getElem?_append_right (by simp [h]), List.getElem?_append_right (by simp [h])]
  simp [h]
theorem mo_range {w : World} {b : Nat} {RL : List Int} {wv pv : Value} {cu : Int} {t : TypeId} (h : Blk w b (moC RL wv cu pv) t) : w.rangeAt b 0 (RL.map (Value.int .i64)) := by
  intro j v hv
  rw [h.cell (0 + j), Nat.zero_add]
  unfold moC
  rw [List.getElem?_toArray, List.getElem?_append_left (List.getElem?_eq_some_iff.1 hv).1]
  exact hv
set_option maxRecDepth 100000 in
set_option maxHeartbeats 2000000 in
theorem eqMapOut_same (RL : List Int) (hRL : RL.length = 15) (cu : Int) (wv1 wv2 pv1 pv2 : Value) (W : List Int) (P : List (Int × List Int)) (us1 us2 : List Value) (w : World) (h1 : Rd .i64 w wv1 W) (h2 : Rd .i64 w wv2 W) (h3 : RdN w 1 pv1 (P.map neP) us1) (h4 : RdN w 1 pv2 (P.map neP) us2) :
    Calls Tryz.prog 19 #[.agg (moC RL wv1 cu pv1), .agg (moC RL wv2 cu pv2)] w fun e w' => e = .returned (.bool true) ∧ Below w.heap.size w w' := by
  obtain ⟨wa1, wc1, rfl⟩ := rd_shape h1
  obtain ⟨wa2, wc2, rfl⟩ := rd_shape h2
  obtain ⟨pa1, pc1, rfl⟩ : ∃ a cap, pv1 = .slice a (P.map neP).length cap := by obtain ⟨a, cap, e, _⟩ := h3.row; exact ⟨a, cap, e⟩
  obtain ⟨pa2, pc2, rfl⟩ : ∃ a cap, pv2 = .slice a (P.map neP).length cap := by obtain ⟨a, cap, e, _⟩ := h4.row; exact ⟨a, cap, e⟩
  obtain ⟨M1, hM1⟩ : ∃ M, M = moC RL (.slice wa1 W.length wc1) cu (.slice pa1 (P.map neP).length pc1) := ⟨_, rfl⟩
  obtain ⟨M2, hM2⟩ : ∃ M, M = moC RL (.slice wa2 W.length wc2) cu (.slice pa2 (P.map neP).length pc2) := ⟨_, rfl⟩
  obtain ⟨W2, hW2⟩ : ∃ W2, W2 = (w.alloc (.cells M1 34)).alloc (.cells M2 34) := ⟨_, rfl⟩
  have k1 : Blk W2 w.heap.size M1 34 := by rw [hW2]; exact (Blk.new _ _ _).alloc _
  have k2 : Blk W2 (w.heap.size + 1) M2 34 := by rw [hW2]; have h := Blk.new (w.alloc (.cells M1 34)) M2 34; rw [World.size_alloc] at h; exact h
  have b0 : Below w.heap.size w W2 := by rw [hW2]; exact ((Below.refl _ _).alloc (Nat.le_refl _) _).alloc (by simp) _
  obtain ⟨a, ds, p, q, hds, hrt⟩ := list15 hRL
  obtain ⟨wl, hwl⟩ : ∃ wl, wl = W.length := ⟨_, rfl⟩
  obtain ⟨pl, hpl⟩ : ∃ pl, pl = (P.map neP).length := ⟨_, rfl⟩
  have HC := hide (show ∀ w', Below W2.heap.size W2 w' → w'.rangeAt w.heap.size 0 (RL.map (Value.int .i64)) ∧ w'.rangeAt (w.heap.size + 1) 0 (RL.map (Value.int .i64)) ∧ w'.cell? ⟨w.heap.size, 15, none⟩ = some (.slice wa1 wl wc1) ∧ w'.cell? ⟨w.heap.size + 1, 15, none⟩ = some (.slice wa2 wl wc2) ∧ w'.cell? ⟨w.heap.size, 16, none⟩ = some (.int .i64 cu) ∧ w'.cell? ⟨w.heap.size + 1, 16, none⟩ = some (.int .i64 cu) ∧ w'.cell? ⟨w.heap.size, 17, none⟩ = some (.slice pa1 pl pc1) ∧ w'.cell? ⟨w.heap.size + 1, 17, none⟩ = some (.slice pa2 pl pc2) from fun w' hb => by
    have q1 := k1.below hb k1.lt
    have q2 := k2.below hb k2.lt
    rw [hM1] at q1
    rw [hM2] at q2
    rw [hwl, hpl]
    exact ⟨mo_range q1, mo_range q2, (q1.cell 15).trans (moC_15 hRL _ _ _).1, (q2.cell 15).trans (moC_15 hRL _ _ _).1, (q1.cell 16).trans (moC_15 hRL _ _ _).2, (q2.cell 16).trans (moC_15 hRL _ _ _).2, (q1.cell 17).trans (moC_17 hRL _ _ _), (q2.cell 17).trans (moC_17 hRL _ _ _)⟩)
  have H := hide (And.intro h1 (And.intro h2 (And.intro h3 h4)))
  have B0 := hide b0
  have HW2 := hide hW2
  have HRt := hide (And.intro hds hrt)
  have HLn := hide (And.intro hwl hpl)
  have HInR := hide (show (Tryz.prog.info? 28).map (·.size) = some (RL.map (Value.int .i64)).length from by rw [List.length_map, hRL]; exact info15)
  have hcc : (cu != cu) = false := by simp
  rw [← hM1, ← hM2]
  clear h1 h2 h3 h4 k1 k2 b0 hM1 hM2 hW2 hds hrt hwl hpl hRL
  go_enter Tryz.func19, Tryz.ntmps19
  go_upto_region 1 with fail
  rw [← HW2.out]
  obtain ⟨r1, r2, x1, x2, x3, x4, x5, x6⟩ := HC.out W2 (Below.refl _ _)
  have HR1 := hide r1
  have HR2 := hide r2
  clear r1 r2 x1 x2 x3 x4 x5 x6
  go_wp2_with (first
    | (refine wpList_load_mid rfl 28 _ rfl w.heap.size 0 rfl (RL.map (Value.int .i64)) _ HR1.out Tryz.underlying28 rfl HInR.out ?_)
    | (refine wpList_load_mid rfl 28 _ rfl (w.heap.size + 1) 0 rfl (RL.map (Value.int .i64)) _ HR2.out Tryz.underlying28 rfl HInR.out ?_)
    | (go_at_call 51; fail))
  rw [show (RL.map (Value.int .i64)).toArray = cellsI (rootI a ds p q) from by rw [← HRt.out.2]; rfl]
  refine (eqRoot_same a ds p q W2 HRt.out.1).mono ?_
  rintro e w3 ⟨rfl, b3⟩
  have B3 := hide b3
  obtain ⟨_, _, x1, x2, x3, x4, x5, x6⟩ := HC.out w3 b3
  have HX := hide (And.intro x3 (And.intro x4 (And.intro x5 x6)))
  clear b3 x3 x4 x5 x6
  go_wp2_with (go_at_call 21; fail)
  refine (eqIntS_same (.slice wa1 wl wc1) (.slice wa2 wl wc2) W w3 (by rw [HLn.out.1]; exact (H.out.1.below B0.out).below B3.out) (by rw [HLn.out.1]; exact (H.out.2.1.below B0.out).below B3.out)).mono ?_
  rintro e w4 ⟨rfl, b4⟩
  have B4 := hide (show Below W2.heap.size W2 w4 from B3.out.trans (b4.mono B3.out.size))
  clear b4 x1 x2
  obtain ⟨_, _, x1, x2, x3, x4, x5, x6⟩ := HC.out w4 B4.out
  clear x1 x2
  go_wp2_with (go_at_call 52; fail)
  refine (eqPutS_same (.slice pa1 pl pc1) (.slice pa2 pl pc2) P us1 us2 w4 (by rw [HLn.out.2]; exact (H.out.2.2.1.below B0.out).below B4.out) (by rw [HLn.out.2]; exact (H.out.2.2.2.below B0.out).below B4.out)).mono ?_
  rintro e w5 ⟨rfl, b5⟩
  have B5 := hide (show Below W2.heap.size W2 w5 from B4.out.trans (b5.mono B4.out.size))
  clear b5 x3 x4 x5 x6
  go_wp2
  go_ret
  exact ⟨rfl, B0.out.trans (B5.out.mono B0.out.size)⟩
theorem OwnN.keptI {W W' : World} {base b1 n m : Nat} {e : TypeId} {v u : Value} {L : List NE} {vs xs : List Value} (h : OwnN W base e m v L vs) (hu : W.ownsRow b1 3 1 u n xs) (he : e ≠ 3) (hg : W.grownBy W' u.ownBlock) : OwnN W' base e m v L vs :=
  ⟨h.len, h.pre, h.row.kept hg (own_apart h.row hu he), fun i x l hx hl => (h.dat i x l hx hl).kept hg (own_apart (h.dat i x l hx hl) hu (by decide)), h.one⟩
theorem OwnN.datU {W : World} {base m : Nat} {e : TypeId} {v : Value} {L : List NE} {vs : List Value} (h : OwnN W base e m v L vs) {u : Value} (hu : u ∈ vs) : ∃ l : NE, W.ownsRow base 5 1 u l.2.length (l.2.map (Value.int .u8)) := by
  obtain ⟨i, hi, rfl⟩ := List.getElem_of_mem hu
  have hl : i < L.length := by rw [← h.len]; exact hi
  exact ⟨L[i], h.dat i vs[i] L[i] (List.getElem?_eq_getElem hi) (List.getElem?_eq_getElem hl)⟩
theorem KpN.int {W W' : World} {base b1 n m : Nat} {e : TypeId} {v u : Value} {L : List NE} {vs xs : List Value} (hk : KpN W W' v vs) (h : OwnN W base e m v L vs) (hu : W.ownsRow b1 3 1 u n xs) (he : e ≠ 3) : W'.ownsRow b1 3 1 u n xs :=
  own_kept hu (fun k hk2 => hk.block k (hu.lt k hk2).2 (fun e2 => by
    rcases own_apart h.row hu he with h5 | h5
    · rw [e2] at h5; cases h5
    · exact h5 (e2.trans hk2.symm)) (fun x hx e2 => by
    obtain ⟨l, hl⟩ := h.datU hx
    rcases own_apart hl hu (by decide) with h5 | h5
    · rw [e2] at h5; cases h5
    · exact h5 (e2.trans hk2.symm)))
theorem KpN.below {W W' : World} {base m : Nat} {e : TypeId} {v : Value} {L : List NE} {vs : List Value} (hk : KpN W W' v vs) (h : OwnN W base e m v L vs) (hb : base ≤ W.heap.size) : Below base W W' :=
  ⟨hk.os, hk.tape, hk.output, hk.size, fun k hk2 => hk.block k (by omega) (fun e2 => by have := (h.row.lt k e2).1; omega) (fun x hx e2 => by
    obtain ⟨l, hl⟩ := h.datU hx
    have := (hl.lt k e2).1
    omega)⟩
theorem KpN.blk {W W' : World} {base m b : Nat} {e t : TypeId} {v : Value} {L : List NE} {vs : List Value} {C : Array Value} (hk : KpN W W' v vs) (h : OwnN W base e m v L vs) (hb : Blk W b C t) (h1 : ∀ r, v.ownBlock = some r → r ≠ b) (ht : t ≠ 5) : Blk W' b C t :=
  (hk.block b hb.lt (fun e2 => h1 b e2 rfl) (fun x hx e2 => by
    obtain ⟨l, hl⟩ := h.datU hx
    exact blk_off hl hb ht e2)).trans hb
theorem own_offP {W : World} {base n b : Nat} {v : Value} {xs : List Value} {C : Array Value} {t : TypeId} (h : W.ownsRow base 44 2 v n xs) (hb : Blk W b C t) (ht : t ≠ 44) : ∀ r, v.ownBlock = some r → r ≠ b := fun r hv e => by
  subst e
  rcases h.2 with ⟨rfl, _⟩ | ⟨g, cap, cur, rfl, _, hg, _⟩
  · cases hv
  · have hv2 : some g = some r := hv
    injection hv2 with hv2
    subst hv2
    have h3 : W.heap[g]? = some (.cells C t) := hb
    rw [hg] at h3
    injection h3 with h3
    injection h3 with _ h4
    exact ht h4.symm
theorem endN_bound : ∀ (L : List NE) (k : Nat), (∀ l ∈ L, l.2.length ≤ 512) → endN 1 k L ≤ k + 513 * L.length
  | [], k, _ => by simp [endN]
  | l :: L, k, h => by
    have h1 := endN_bound L (k + 1 + l.2.length) (fun x hx => h x (List.mem_cons_of_mem _ hx))
    have h2 := h l List.mem_cons_self
    simp only [endN, List.length_cons]
    omega
set_option maxRecDepth 100000 in
set_option maxHeartbeats 2000000 in
theorem markMapOut_any (RL : List Int) (hRL : RL.length = 15) (cu : Int) (wv pv : Value) (base n k0 : Nat) (xs : List Value) (P : List (Int × List Int)) (vs : List Value) (w : World) (h1 : w.ownsRow base 3 1 wv n xs) (h2 : OwnN w base 44 1 pv (P.map neP) vs) (hn : n ≤ 1048576) (hk : k0 ≤ 1048576) (hP : endN 1 (k0 + n) (P.map neP) ≤ 140737488355328) (hb : base ≤ w.heap.size) :
    Calls Tryz.prog 24 #[.agg (moC RL wv cu pv), .int .i64 k0] w fun e w' => e = .returned (.int .i64 (endN 1 (k0 + n) (P.map neP) : Nat)) ∧ w'.ownsRow base 3 1 wv n ((mk64 k0 n).map (Value.int .i64)) ∧ OwnN w' base 44 1 pv (mkN 1 (k0 + n) (P.map neP)) vs ∧ Below base w w' ∧ ∀ b C, Blk w b C 34 → Blk w' b C 34 := by
  obtain ⟨wa, wc, rfl⟩ := own_shape h1
  obtain ⟨pa, pc, hpv⟩ := own_shape h2.row
  subst hpv
  obtain ⟨pl, hpl⟩ : ∃ pl, pl = (P.map neP).length := ⟨_, rfl⟩
  obtain ⟨M, hM⟩ : ∃ M, M = moC RL (.slice wa n wc) cu (.slice pa (P.map neP).length pc) := ⟨_, rfl⟩
  obtain ⟨w1, hw1⟩ : ∃ w1, w1 = w.alloc (.cells M 34) := ⟨_, rfl⟩
  have k1 : Blk w1 w.heap.size M 34 := by rw [hw1]; exact Blk.new _ _ _
  have b1 : Below w.heap.size w w1 := by rw [hw1]; exact (Below.refl _ _).alloc (Nat.le_refl _) _
  have x1 : w1.cell? ⟨w.heap.size, 15, none⟩ = some (.slice wa n wc) := (k1.cell 15).trans (by rw [hM]; exact (moC_15 hRL _ _ _).1)
  have HX := hide (show ∀ w', Blk w' w.heap.size M 34 → w'.cell? ⟨w.heap.size, 17, none⟩ = some (.slice pa pl pc) from fun w' h => (h.cell 17).trans (by rw [hM, hpl]; exact moC_17 hRL _ _ _))
  have O1 := hide (own_belowT h1 b1)
  have P1 := hide (h2.below b1)
  have K1 := hide k1
  have B1 := hide b1
  have HW1 := hide hw1
  have HPl := hide hpl
  obtain ⟨kn, hkn⟩ : ∃ kn : Nat, kn = k0 + n := ⟨_, rfl⟩
  have HKn := hide hkn
  rw [← hkn] at hP ⊢
  obtain ⟨en, hen⟩ : ∃ en, en = endN 1 kn (P.map neP) := ⟨_, rfl⟩
  have HEn := hide hen
  rw [← hen] at hP ⊢
  rw [← hM]
  clear h1 h2 k1 b1 hM hw1 hpl hkn hen
  go_enter Tryz.func24, Tryz.ntmps24
  go_upto_region 1 with fail
  rw [← HW1.out]
  go_wp2_with (go_at_call 23; fail)
  refine (markIntS_any (.slice wa n wc) base n k0 xs w1 O1.out (by omega) (by omega)).mono ?_
  rintro e w2 ⟨he, o2, g2⟩
  rw [← HKn.out] at he
  subst he
  have O2 := hide o2
  have P2 := hide (P1.out.keptI O1.out (by decide) g2)
  have K2 := hide (blk_own O1.out K1.out (by decide) g2)
  have HB2 := hide (show Below base w w2 ∧ ∀ b C, Blk w b C 34 → Blk w2 b C 34 from ⟨(B1.out.mono hb).grown g2 (Nat.le_trans hb B1.out.size) (fun r hr => (O1.out.lt r hr).1), fun b C h => blk_own O1.out (h.below B1.out h.lt) (by decide) g2⟩)
  have x2 := HX.out w2 K2.out
  have hb2 : base ≤ w2.heap.size := Nat.le_trans hb HB2.out.1.size
  clear o2 g2 x1
  go_wp2_with (go_at_call 53; fail)
  refine (markPutS_any (.slice pa pl pc) base kn P vs w2 (by rw [HPl.out]; exact P2.out) (by rw [← HEn.out]; exact hP)).mono ?_
  rintro e w3 ⟨he, o3, k3⟩
  rw [← HEn.out] at he
  subst he
  have hp2 : OwnN w2 base 44 1 (.slice pa pl pc) (P.map neP) vs := by rw [HPl.out]; exact P2.out
  have H3 := hide (show w3.ownsRow base 3 1 (.slice wa n wc) n ((mk64 k0 n).map (Value.int .i64)) ∧ OwnN w3 base 44 1 (.slice pa (P.map neP).length pc) (mkN 1 kn (P.map neP)) vs ∧ Below base w w3 ∧ ∀ b C, Blk w b C 34 → Blk w3 b C 34 from ⟨k3.int hp2 O2.out (by decide), by rw [← HPl.out]; exact o3, HB2.out.1.trans (k3.below hp2 hb2), fun b C h => k3.blk hp2 (HB2.out.2 b C h) (own_offP hp2.row (HB2.out.2 b C h) (by decide)) (by decide)⟩)
  clear o3 k3 hp2 x2
  go_wp2
  go_ret
  exact ⟨rfl, H3.out⟩
set_option maxRecDepth 100000 in
set_option maxHeartbeats 2000000 in
theorem heldMapOut_any (RL : List Int) (hRL : RL.length = 15) (cu : Int) (wv pv : Value) (n k0 : Nat) (P : List (Int × List Int)) (us : List Value) (w : World) (h1 : Rd .i64 w wv (mk64 k0 n)) (h2 : RdN w 1 pv (mkN 1 (k0 + n) (P.map neP)) us) (hn : n ≤ 1048576) (hk : k0 ≤ 1048576) (hP : endN 1 (k0 + n) (P.map neP) ≤ 140737488355328) :
    Calls Tryz.prog 25 #[.agg (moC RL wv cu pv), .int .i64 k0] w fun e w' => e = .returned (.int .i64 (endN 1 (k0 + n) (P.map neP) : Nat)) ∧ Below w.heap.size w w' := by
  obtain ⟨wa, wc, rfl⟩ := rd_shape h1
  obtain ⟨pa, pc, rfl⟩ : ∃ a cap, pv = .slice a (mkN 1 (k0 + n) (P.map neP)).length cap := by obtain ⟨a, cap, e, _⟩ := h2.row; exact ⟨a, cap, e⟩
  obtain ⟨pl, hpl⟩ : ∃ pl, pl = (mkN 1 (k0 + n) (P.map neP)).length := ⟨_, rfl⟩
  obtain ⟨wl, hwl⟩ : ∃ wl, wl = (mk64 k0 n).length := ⟨_, rfl⟩
  obtain ⟨M, hM⟩ : ∃ M, M = moC RL (.slice wa (mk64 k0 n).length wc) cu (.slice pa (mkN 1 (k0 + n) (P.map neP)).length pc) := ⟨_, rfl⟩
  obtain ⟨w1, hw1⟩ : ∃ w1, w1 = w.alloc (.cells M 34) := ⟨_, rfl⟩
  have k1 : Blk w1 w.heap.size M 34 := by rw [hw1]; exact Blk.new _ _ _
  have b1 : Below w.heap.size w w1 := by rw [hw1]; exact (Below.refl _ _).alloc (Nat.le_refl _) _
  have x1 : w1.cell? ⟨w.heap.size, 15, none⟩ = some (.slice wa wl wc) := (k1.cell 15).trans (by rw [hM, hwl]; exact (moC_15 hRL _ _ _).1)
  have x2 : w1.cell? ⟨w.heap.size, 17, none⟩ = some (.slice pa pl pc) := (k1.cell 17).trans (by rw [hM, hpl]; exact moC_17 hRL _ _ _)
  obtain ⟨kn, hkn⟩ : ∃ kn : Nat, kn = k0 + n := ⟨_, rfl⟩
  have HKn := hide hkn
  have R1 := hide (show Rd .i64 w1 (.slice wa wl wc) (mk64 k0 n) from by rw [hwl]; exact h1.below b1)
  have R2 := hide (show RdN w1 1 (.slice pa pl pc) (mkN 1 kn (P.map neP)) us from by rw [hpl, hkn]; exact h2.below b1)
  have B1 := hide b1
  have HW1 := hide hw1
  have hknb : kn ≤ 2097152 := by omega
  rw [← hM]
  rw [← hkn] at hP ⊢
  obtain ⟨en, hen⟩ : ∃ en, en = endN 1 kn (P.map neP) := ⟨_, rfl⟩
  have HEn := hide hen
  rw [← hen] at hP ⊢
  clear h1 h2 k1 b1 hM hw1 hpl hwl hkn hen
  go_enter Tryz.func25, Tryz.ntmps25
  go_upto_region 1 with fail
  rw [← HW1.out]
  go_wp2_with (go_at_call 54; fail)
  refine (heldIntS_any (.slice wa wl wc) n k0 w1 R1.out (by omega) (by omega)).mono ?_
  rintro e wq ⟨he, hwq⟩
  rw [← HKn.out] at he
  subst he
  rw [hwq]
  clear hwq wq
  have q0 : decide ((kn : Int) < 0) = false := by simp
  go_wp2_with (go_at_call 55; fail)
  refine (heldPutS_any (.slice pa pl pc) kn P us w1 R2.out (by rw [← HEn.out]; exact hP)).mono ?_
  rintro e wq ⟨he, hwq⟩
  rw [← HEn.out] at he
  subst he
  rw [hwq]
  clear hwq wq x1 x2
  have q1 : decide ((en : Int) < 0) = false := by simp
  go_wp2
  go_ret
  exact ⟨rfl, B1.out⟩
end Go.Proofs.YtlimollpocagiaaGreatDoor

namespace Go.Proofs.YtlimollpocagiaaGreatDoor
open Go.RowKit

/-- Two owned rows, one below block m, one from m on. -/
theorem apart {v x : Value} (m : Nat) (h1 : ∀ k, v.ownBlock = some k → m ≤ k) (h2 : ∀ k, x.ownBlock = some k → k < m) : v.ownBlock = none ∨ v.ownBlock ≠ x.ownBlock := by
  cases hv : v.ownBlock with
  | none => exact .inl rfl
  | some k =>
    refine .inr fun h => ?_
    have a := h1 k hv
    have b := h2 k h.symm
    omega
end Go.Proofs.YtlimollpocagiaaGreatDoor
