/- The model's l07List: what is below a directory. -/
import Derived.Test.YtplieplmhdfndaaGreatDoorZg43
import Derived.Test.YtplieplmhdfndaaGreatDoorZg44
import Derived.Test.YtplieplmhdfndaaGreatDoorZg22
import Derived.Test.YtplieplmhdfndaaGreatDoorZg39
import Derived.Test.YtplieplmhdfndaaGreatDoorZg10
namespace Go.Proofs.YtplieplmhdfndaaGreatDoor
set_option linter.unusedVariables false
set_option linter.unusedSimpArgs false
open Go.RowKit

/-- The cells of what is told. -/
def foC (M : List (ByteArray × Int)) : List Value := M.flatMap fun x => [.string x.1, .int .i64 x.2]
theorem foC_len (M : List (ByteArray × Int)) : (foC M).length = M.length * 2 := by
  induction M with
  | nil => rfl
  | cons x M ih => unfold foC at ih ⊢; rw [List.flatMap_cons, List.length_append, ih]; simp; omega
theorem foC_app (M M' : List (ByteArray × Int)) : foC (M ++ M') = foC M ++ foC M' := by unfold foC; rw [List.flatMap_append]
theorem foC_one (M : List (ByteArray × Int)) : ∀ u ∈ foC M, u.oneCell' = true := by
  intro u hu
  unfold foC at hu
  obtain ⟨x, _, hx⟩ := List.mem_flatMap.1 hu
  simp at hx
  rcases hx with rfl | rfl <;> rfl
theorem infoFo : (Tryz.prog.info? 54).map (fun i => (i.zero, i.size, i.bytes)) = some (some (.agg #[.string ⟨#[]⟩, .int .i64 0]), 2, 24) := by kernel_rfl
/-- What the first k entries tell. -/
def liK (L : List Nd) (f d : Nat) (p : ByteArray) (k : Nat) : List (ByteArray × Int) := ((dlL (ndAt L d).d).take k).flatMap fun e => (slN p e.1, e.2.1) :: if e.2.2 = 2 then liF L f e.2.1.toNat (slN p e.1) else []
theorem liK_all (L : List Nd) (f d : Nat) (p : ByteArray) : liK L f d p (dlL (ndAt L d).d).length = liF L (f + 1) d p := by unfold liK; rw [List.take_length]; rfl
theorem liK_succ {L : List Nd} {f d : Nat} {p : ByteArray} {k : Nat} {e : EI} (h : (dlL (ndAt L d).d)[k]? = some e) : liK L f d p (k + 1) = liK L f d p k ++ [(slN p e.1, e.2.1)] ++ if e.2.2 = 2 then liF L f e.2.1.toNat (slN p e.1) else [] := by
  unfold liK
  rw [List.take_add_one, h, List.flatMap_append]
  simp
theorem liK_le (L : List Nd) (f d : Nat) (p : ByteArray) (k : Nat) : (liK L f d p k).length ≤ (liF L (f + 1) d p).length := by
  rw [← liK_all]
  unfold liK
  rw [List.take_length]
  conv => rhs; rw [← List.take_append_drop k (dlL (ndAt L d).d)]
  rw [List.flatMap_append, List.length_append]
  omega
/-- l07List answers liF. -/
def L7 (C : Int) (L : List Nd) (f d : Nat) : Prop :=
  ∀ (v : Value) (vs : List Value) (p : ByteArray) (w : World), RdN w 9 v (L.map ndE) vs → (liF L f d p).length ≤ 32768 → p.size + 27 * f ≤ 100000 →
    Calls Tryz.prog 38 #[.agg #[.int .i64 C, v], .int .i64 (d : Int), .string p] w fun e w' => ∃ v', e = .returned v' ∧ w'.ownsRow w.heap.size 54 2 v' (liF L f d p).length (foC (liF L f d p)) ∧ Below w.heap.size w w'
/-- Between the rounds. -/
structure L7I (C : Int) (L : List Nd) (vs : List Value) (w : World) (sq b off N cap base : Nat) (M : List (ByteArray × Int)) (D : List EI) (ov lv : Value) (wr : World) : Prop where
  st : Blk wr sq #[.int .i64 C, .slice (some ⟨b, off, none⟩) N cap] 29
  nd : RdN wr 9 (.slice (some ⟨b, off, none⟩) N cap) (L.map ndE) vs
  out : wr.ownsRow base 54 2 ov M.length (foC M)
  lst : wr.ownsRow base 61 3 lv D.length (entsI D)
  ne : ∀ g, lv.ownBlock = some g → ov.ownBlock ≠ some g
  bel : Below base w wr
theorem L7I.below {C : Int} {L : List Nd} {vs : List Value} {w : World} {sq b off N cap base : Nat} {M : List (ByteArray × Int)} {D : List EI} {ov lv : Value} {wr w' : World} (h : L7I C L vs w sq b off N cap base M D ov lv wr) (hb : Below wr.heap.size wr w') (hw : base ≤ wr.heap.size) : L7I C L vs w sq b off N cap base M D ov lv w' :=
  ⟨h.st.below hb h.st.lt, h.nd.below hb, own_below h.out hb, own_below h.lst hb, h.ne, h.bel.trans (hb.mono hw)⟩
/-- Something is appended to what is told. -/
theorem L7I.push {C : Int} {L : List Nd} {vs : List Value} {w : World} {sq b off N cap base : Nat} {M M' : List (ByteArray × Int)} {D : List EI} {ov lv ov' : Value} {wr w' : World} (h : L7I C L vs w sq b off N cap base M D ov lv wr) (hsq : sq < base) (hw : base ≤ wr.heap.size) (hRw : ∃ W0, Below base W0 wr ∧ RdN W0 9 (.slice (some ⟨b, off, none⟩) N cap) (L.map ndE) vs ∧ W0.heap.size = base)
    (ho : w'.ownsRow base 54 2 ov' (M ++ M').length (foC (M ++ M'))) (hg : wr.grownBy w' ov.ownBlock) (hf : ∀ k, ov'.ownBlock = some k → ov.ownBlock = some k ∨ wr.heap.size ≤ k) : L7I C L vs w sq b off N cap base (M ++ M') D ov' lv w' := by
  obtain ⟨W0, hW, hr, hs⟩ := hRw
  have hlo : ∀ g, ov.ownBlock = some g → base ≤ g := fun g hg => (h.out.lt g hg).1
  have hB : Below base W0 w' := hW.grown hg hw hlo
  refine ⟨(hg.block sq h.st.lt (fun e => by have := hlo sq e.symm; omega)).trans h.st, hr.below (by rw [hs]; exact hB), ho, h.lst.kept hg ?_, fun g hg' e => ?_, h.bel.grown hg hw hlo⟩
  · cases hl : lv.ownBlock with
    | none => exact Or.inl rfl
    | some g => exact Or.inr (fun e => h.ne g hl e.symm)
  · rcases hf g e with h1 | h1
    · exact h.ne g hg' h1
    · have := (h.lst.lt g hg').2; omega
set_option maxRecDepth 100000 in
set_option maxHeartbeats 8000000 in
theorem list7_step (C : Int) (L : List Nd) (hR : RightS C L) (hbd : ∀ i, i < L.length → ∀ z ∈ (ndAt L i).d, 0 ≤ z ∧ z < 256) (f d : Nat) (hD : Dp L (f + 1) d) (IH : ∀ c, Dp L f c → L7 C L f c) : L7 C L (f + 1) d := by
  intro v vs p w hv hlen hps
  obtain ⟨h1, hdl, hdk, hch⟩ := hD
  obtain ⟨b, off, cap, a, c, rfl, hb, hr, hu, hrange⟩ := node_at hv hdl
  obtain ⟨N, hN⟩ : ∃ N, N = L.length := ⟨_, rfl⟩
  obtain ⟨x, hx⟩ : ∃ x, x = ndAt L d := ⟨_, rfl⟩
  obtain ⟨q, hq⟩ : ∃ q, q = x.d.length := ⟨_, rfl⟩
  rw [← hx, ← hq] at hr hrange
  rw [← hN] at hv ⊢
  have hdN : d < N := by rw [hN]; exact hdl
  have hNL : N ≤ 1001 := by rw [hN]; exact hR.len.2
  obtain ⟨D, hDD⟩ : ∃ D, D = dlL x.d := ⟨_, rfl⟩
  have hm8 : D.length ≤ 8192 := by rw [hDD]; exact dlL_len x.d
  obtain ⟨W1, hW1⟩ : ∃ W1, W1 = w.alloc (.cells #[.int .i64 C, .slice (some ⟨b, off, none⟩) N cap] 29) := ⟨_, rfl⟩
  have b1 : Below w.heap.size w W1 := by rw [hW1]; exact (Below.refl _ _).alloc (Nat.le_refl _) _
  obtain ⟨sq, hsq⟩ : ∃ sq, sq = w.heap.size := ⟨_, rfl⟩
  have k1 : Blk W1 sq #[.int .i64 C, .slice (some ⟨b, off, none⟩) N cap] 29 := by rw [hW1, hsq]; exact Blk.new w _ _
  obtain ⟨W2, hW2⟩ : ∃ W2, W2 = W1.alloc (.cells #[] 54) := ⟨_, rfl⟩
  obtain ⟨oq, hoq⟩ : ∃ oq, oq = W1.heap.size := ⟨_, rfl⟩
  have b2 : Below W1.heap.size W1 W2 := by rw [hW2]; exact (Below.refl _ _).alloc (Nat.le_refl _) _
  have o2 : W2.ownsRow oq 54 2 (.slice (some ⟨oq, 0, none⟩) 0 0) 0 [] := by rw [hW2, hoq]; exact own_emptyD W1 _ _
  have cS := ((k1.below b2 k1.lt).cell 1).trans (show _ = some (.slice (some ⟨b, off, none⟩) N cap) from rfl)
  have k9 := (b2.cell (Nat.lt_of_lt_of_le hb b1.size)).trans ((b1.cell (p := ⟨b, off + d * 10 + 9, none⟩) hb).trans (hrange 9 _ rfl))
  have H2 := hide (And.intro (hr.below b1 |>.below b2) (And.intro (show ∀ z ∈ x.d, 0 ≤ z ∧ z < 256 from by rw [hx]; exact hbd d hdl) (And.intro (hv.below b1) (And.intro o2 (And.intro k1 (And.intro b1 b2))))))
  have HW := hide (And.intro hW1 (And.intro hW2 (And.intro hsq (And.intro hoq (And.intro hN (And.intro hx hDD))))))
  have HI := hide (And.intro hR (And.intro hdl (And.intro hdk (And.intro hch (And.intro IH hlen)))))
  clear hR hbd hdl hdk hch IH hv hb hr hu hrange hN hx hq hDD hW1 hW2 hsq hoq b1 b2 k1 o2 hlen
  go_enter Tryz.func38, Tryz.ntmps38
  go_upto_region 1 with fail
  rw [← HW.out.1, ← HW.out.2.2.1]
  go_upto_region 2 with fail
  rw [← HW.out.2.1, ← HW.out.2.2.2.1]
  go_wp2_with (go_at_call 68; fail)
  refine (specDL_any (.slice a q c) x.d _ H2.out.1 H2.out.2.1).mono ?_
  rintro e w3 ⟨lv, rfl, o3, b3⟩
  rw [← HW.out.2.2.2.2.2.2] at o3
  obtain ⟨la, lc, rfl⟩ := ownD_shape o3
  obtain ⟨m, hm⟩ : ∃ m, m = D.length := ⟨_, rfl⟩
  have HM := hide hm
  have HIN := hide (show L7I C L vs W1 sq b off N cap oq (liK L f d p 0) D (.slice (some ⟨oq, 0, none⟩) 0 0) (.slice la D.length lc) w3 from by
    have hs2 : W2.heap.size = oq + 1 := by rw [HW.out.2.1, HW.out.2.2.2.1]; simp
    refine ⟨(H2.out.2.2.2.2.1.below H2.out.2.2.2.2.2.2 H2.out.2.2.2.2.1.lt).below b3 (H2.out.2.2.2.2.1.below H2.out.2.2.2.2.2.2 H2.out.2.2.2.2.1.lt).lt, (H2.out.2.2.1.below H2.out.2.2.2.2.2.2).below b3, own_below H2.out.2.2.2.1 b3, own_mono o3 (by omega), fun g hg e => ?_, by rw [HW.out.2.2.2.1]; exact H2.out.2.2.2.2.2.2.trans (b3.mono H2.out.2.2.2.2.2.2.size)⟩
    have h1 := (o3.lt g hg).1
    have h2 : oq = g := by simpa [Value.ownBlock] using e
    omega)
  have hszq : oq ≤ w3.heap.size := by rw [HW.out.2.2.2.1]; exact Nat.le_trans H2.out.2.2.2.2.2.2.size b3.size
  rw [← hm] at hm8 HIN ⊢
  obtain ⟨i0, hi, hz0, hz1, hz2⟩ := info_parts infoFo
  clear o3 b3 hm cS k9
  go_wp2_with fail
  go_loopw [7, 25] (fun ov iv wr => ∃ k : Nat, k ≤ m ∧ iv = .int .i64 (k : Int) ∧ Hid (L7I C L vs W1 sq b off N cap oq (liK L f d p k) D ov (.slice la m lc) wr) ∧ oq ≤ wr.heap.size) (fun _ iv _ => m - (intOf iv).toNat)
  case atStart => exact ⟨0, Nat.zero_le _, rfl, HIN, hszq⟩
  case round =>
    clear HIN hszq
    obtain ⟨k, hkm, rfl, HK, hsz⟩ := hrel
    by_cases hlt : k < m
    rotate_left
    · have ek : k = m := by omega
      have HF := hide (show wr.ownsRow w.heap.size 54 2 u7 (liF L (f + 1) d p).length (foC (liF L (f + 1) d p)) ∧ Below w.heap.size w wr from by
        have h := HK.out.out
        have e1 : liK L f d p k = liF L (f + 1) d p := by
          have := liK_all L f d p
          rw [← HW.out.2.2.2.2.2.1, ← HW.out.2.2.2.2.2.2, ← HM.out, ← ek] at this
          exact this
        rw [e1] at h
        have hb := HK.out.bel
        rw [HW.out.2.2.2.1] at h hb
        exact ⟨own_mono h H2.out.2.2.2.2.2.1.size, H2.out.2.2.2.2.2.1.trans (hb.mono H2.out.2.2.2.2.2.1.size)⟩)
      clear HK
      go_wp2
      go_ret
      exact ⟨_, rfl, HF.out.1, HF.out.2⟩
    obtain ⟨gl, cl, ee, hg1, hg2, hcl⟩ := own_sliceD HK.out.lst (by rw [← HM.out]; omega)
    injection ee with ee1 ee2 ee3
    subst ee1 ee3
    obtain ⟨e, he⟩ : ∃ e, D[k]? = some e := ⟨_, List.getElem?_eq_getElem (by rw [← HM.out]; exact hlt)⟩
    have HE := hide he
    have HRG := hide (show wr.rangeAt gl (k * 3) [.string e.1, .int .i64 e.2.1, .int .i64 e.2.2] from fun j u hu => by
      have h1 := hcl (k * 3 + j) u (entsI_at HE.out j u hu)
      rw [Addr.add_mid, Nat.zero_add] at h1
      exact h1)
    have hin : e ∈ dlL (ndAt L d).d := by rw [← HW.out.2.2.2.2.2.1, ← HW.out.2.2.2.2.2.2]; exact List.mem_of_getElem? HE.out
    have hes := dl_name HI.out.1 HI.out.2.1 HI.out.2.2.1 hin
    have hq1 : ¬ 9223372036854775807 < p.size + 1 := by omega
    have hq2 : ¬ 9223372036854775807 < p.size + 1 + e.1.size := by omega
    have HPS := hide (show (slN p e.1).size + 27 * f ≤ 100000 from by unfold slN; rw [ByteArray.size_append, ByteArray.size_append]; show p.size + 1 + e.1.size + 27 * f ≤ 100000; omega)
    obtain ⟨cc, hcc, cc1, cc2, cc3, cc4, cc5⟩ := dl_child HI.out.1 HI.out.2.1 HI.out.2.2.1 hin
    have HCC := hide (And.intro hcc (And.intro cc3 (show e.2.2 = 2 → Dp L f cc from fun h2 => by have := HI.out.2.2.2.1 e hin h2; rw [hcc, Int.toNat_natCast] at this; exact this)))
    have HLE := hide (show (dlL (ndAt L d).d)[k]? = some e from by rw [← HW.out.2.2.2.2.2.1, ← HW.out.2.2.2.2.2.2]; exact HE.out)
    have hlk : (liK L f d p (k + 1)).length ≤ 32768 := Nat.le_trans (liK_le L f d p (k + 1)) HI.out.2.2.2.2.2
    rw [liK_succ HLE.out, List.length_append, List.length_append, List.length_singleton] at hlk
    obtain ⟨Wd, hWd⟩ : ∃ Wd, Wd = wr.alloc (.cells #[.string e.1, .int .i64 e.2.1, .int .i64 e.2.2] 61) := ⟨_, rfl⟩
    obtain ⟨dq, hdq⟩ : ∃ dq, dq = wr.heap.size := ⟨_, rfl⟩
    have bd : Below wr.heap.size wr Wd := by rw [hWd]; exact (Below.refl _ _).alloc (Nat.le_refl _) _
    have KD := hide (show Blk Wd dq #[.string e.1, .int .i64 e.2.1, .int .i64 e.2.2] 61 from by rw [hWd, hdq]; exact Blk.new wr _ _)
    have LD := hide (HK.out.below bd hsz)
    have hszd : oq ≤ Wd.heap.size := Nat.le_trans hsz bd.size
    have HWd := hide (And.intro hWd hdq)
    have HJ := hide (show ∀ j, u7.ownBlock = some j → j < dq from fun j hj => by rw [hdq]; exact (HK.out.out.lt j hj).2)
    clear hcl he hin hcc cc1 cc2 cc3 cc4 cc5 hWd hdq bd HK ee2
    go_upto_region 6 with (refine wpList_load_mid rfl 61 _ rfl gl (k * 3) rfl [.string e.1, .int .i64 e.2.1, .int .i64 e.2.2] _ HRG.out Tryz.underlying61 rfl infoD3 ?_)
    rw [← HWd.out.1, ← HWd.out.2]
    clear HRG HWd hsz
    have d0 := (KD.out.cell 0).trans (show _ = some (Value.string e.1) from rfl)
    have d1 := (KD.out.cell 1).trans (show _ = some (Value.int .i64 e.2.1) from rfl)
    have d2 := (KD.out.cell 2).trans (show _ = some (Value.int .i64 e.2.2) from rfl)
    have BA := hide (show Below Wd.heap.size Wd (Wd.alloc (.cells #[.string (p ++ ⟨#[47]⟩ ++ e.1), .int .i64 e.2.1] 54)) from (Below.refl _ _).alloc (Nat.le_refl _) _)
    have LA := hide (LD.out.below BA.out hszd)
    have hsq : sq < oq := by rw [HW.out.2.2.2.1, HW.out.2.2.1, HW.out.1]; simp
    go_upto_region 7 with (first
      | (refine wpList_build1D rfl 33 54 _ rfl #[.string (p ++ ⟨#[47]⟩ ++ e.1), .int .i64 e.2.1] rfl i0 _ Tryz.underlying33 hi hz0 hz1 (show 0 < 2 by omega) (show 2 ≤ 1000 by omega) ?_)
      | (at_builtin; refine append_fresh _ rfl (.tmp 29) (.tmp 38) 33 rfl oq 54 i0 (.agg #[.string ⟨#[]⟩, .int .i64 0]) 2 24 Tryz.underlying33 hi hz0 hz1 hz2 rfl (by decide) _ _ _ rfl LA.out.out ⟨Wd.heap.size, 0, none⟩ 1 1 (#[.string (p ++ ⟨#[47]⟩ ++ e.1), .int .i64 e.2.1]).toList rfl rfl (cells_newD Wd _ _) (by intro u hu; simp at hu; rcases hu with rfl | rfl <;> rfl) (by omega) (by unfold maxLen; omega) (by omega) (Nat.le_trans hszd BA.out.size) ?_; intro v1 w1 o1 g1 f1))
    have LN := hide (LA.out.push (M' := [(slN p e.1, e.2.1)]) hsq (Nat.le_trans hszd BA.out.size) ⟨W1, LA.out.bel, H2.out.2.2.1, HW.out.2.2.2.1.symm⟩ (by rw [List.length_append, foC_app]; exact o1) g1 f1)
    have kda := KD.out.below BA.out KD.out.lt
    have KD1 := hide (show Blk w1 dq #[.string e.1, .int .i64 e.2.1, .int .i64 e.2.2] 61 from (g1.block dq kda.lt (fun h => by have := HJ.out dq h.symm; omega)).trans kda)
    have hsz1 : oq ≤ w1.heap.size := Nat.le_trans (Nat.le_trans hszd BA.out.size) g1.size
    clear o1 g1 f1 LA LD BA KD d0 d1 d2 kda hszd HJ
    have d0 := (KD1.out.cell 0).trans (show _ = some (Value.string e.1) from rfl)
    have d1 := (KD1.out.cell 1).trans (show _ = some (Value.int .i64 e.2.1) from rfl)
    have d2 := (KD1.out.cell 2).trans (show _ = some (Value.int .i64 e.2.2) from rfl)
    by_cases hk2 : e.2.2 = 2
    rotate_left
    · have hkb : (e.2.2 == 2) = false := by simpa using hk2
      have HLN := hide (show L7I C L vs W1 sq b off N cap oq (liK L f d p (k + 1)) D v1 (.slice (some ⟨gl, 0, none⟩) m lc) w1 from by rw [liK_succ HLE.out, if_neg hk2, List.append_nil]; exact LN.out)
      clear hk2 LN
      go_wp2
      go_roundw
      case rel => exact ⟨k + 1, by omega, by go_num, HLN, hsz1⟩
      case measure => simp [intOf]; omega
    have hkb : (e.2.2 == 2) = true := by simpa using hk2
    rw [if_pos hk2, HCC.out.1, Int.toNat_natCast] at hlk
    have HLL := hide (show (liF L f cc (slN p e.1)).length ≤ 32768 ∧ (liK L f d p k).length + 1 + (liF L f cc (slN p e.1)).length ≤ 32768 from ⟨by omega, hlk⟩)
    have HDp := hide (HCC.out.2.2 hk2)
    have HSC := hide (show liK L f d p (k + 1) = liK L f d p k ++ [(slN p e.1, e.2.1)] ++ liF L f cc (slN p e.1) from by rw [liK_succ HLE.out, if_pos hk2, HCC.out.1, Int.toNat_natCast])
    rw [HCC.out.1] at d1
    clear hk2 hlk
    go_wp2_with (first | (refine wpList_load_row rfl 29 _ rfl sq rfl 29 #[.int .i64 C, .slice (some ⟨b, off, none⟩) N cap] (0, 0) _ LN.out.st Tryz.underlying29 rfl infoStP ?_) | (go_at_call 38; fail))
    refine (HI.out.2.2.2.2.1 cc HDp.out (.slice (some ⟨b, off, none⟩) N cap) vs (slN p e.1) w1 LN.out.nd HLL.out.1 HPS.out).mono ?_
    rintro e' w2 ⟨v2, rfl, o2, b2⟩
    obtain ⟨a2, c2, rfl⟩ := ownD_shape o2
    have LN2 := hide (LN.out.below b2 hsz1)
    have hsz2 : oq ≤ w2.heap.size := Nat.le_trans hsz1 b2.size
    have HO2 := hide o2
    obtain ⟨Z, hZ⟩ : ∃ Z, Z = liF L f cc (slN p e.1) := ⟨_, rfl⟩
    rw [← hZ] at HO2 HLL HSC ⊢
    have hzl : Z.length ≤ 32768 := HLL.out.1
    have hzm : (liK L f d p k ++ [(slN p e.1, e.2.1)]).length + Z.length ≤ 32768 := by rw [List.length_append, List.length_singleton]; exact HLL.out.2
    clear o2 b2 LN hZ d0 d1 d2
    go_wp2_with (at_builtin; refine append_cells _ rfl (.tmp 43) (.tmp 52) 33 rfl oq 54 i0 (.agg #[.string ⟨#[]⟩, .int .i64 0]) 2 24 Tryz.underlying33 hi hz0 hz1 hz2 rfl (by decide) _ _ _ rfl LN2.out.out a2 Z.length c2 (foC Z) rfl (foC_len Z) (fun hp => by obtain ⟨g9, c9, e9, _, _, h9⟩ := own_sliceD HO2.out hp; injection e9 with e9 _ _; exact ⟨_, e9, h9⟩) (foC_one Z) (by unfold maxLen; omega) (by omega) hsz2 ?_; intro v3 w3' o3 g3 f3)
    have LN3 := hide (LN2.out.push (M' := Z) hsq hsz2 ⟨W1, LN2.out.bel, H2.out.2.2.1, HW.out.2.2.2.1.symm⟩ (by rw [List.length_append, foC_app]; exact o3) g3 f3)
    have hsz3 : oq ≤ w3'.heap.size := Nat.le_trans hsz2 g3.size
    clear o3 g3 f3 LN2 HO2
    rw [← HSC.out] at LN3
    go_roundw
    case rel => exact ⟨k + 1, by omega, by go_num, LN3, hsz3⟩
    case measure => simp [intOf]; omega
theorem list7_any (C : Int) (L : List Nd) (hR : RightS C L) (hbd : ∀ i, i < L.length → ∀ z ∈ (ndAt L i).d, 0 ≤ z ∧ z < 256) : ∀ f d, Dp L f d → L7 C L f d
  | 0, _, h => h.elim
  | f + 1, d, h => list7_step C L hR hbd f d h (fun c hc => list7_any C L hR hbd f c hc)
end Go.Proofs.YtplieplmhdfndaaGreatDoor
