/- The program's listBelow: what a directory has, behind what is told already. -/
import Derived.Test.YtplieplmhdfndaaGreatDoorZg45
import Derived.Test.YtplieplmhdfndaaGreatDoorZg47
import Derived.Maps.Range
namespace Go.Proofs.YtplieplmhdfndaaGreatDoor
set_option linter.unusedVariables false
set_option linter.unusedSimpArgs false
open Go.RowKit

/-- listBelow answers liF behind what is there. -/
def LBl (C : Int) (L : List Nd) (ps : Array Value) (bs bn : Nat) (W0 : World) (f d : Nat) : Prop :=
  ∀ (dd : Nat) (lv : Value) (M : List (ByteArray × Int)) (p : ByteArray) (w : World), DirR W0 dd (ndAt L d).d → Below W0.heap.size W0 w → w.ownsRow W0.heap.size 54 2 lv M.length (foC M) → M.length + (liF L f d p).length ≤ 32768 → p.size + 27 * f ≤ 100000 →
    Calls Tryz.prog 39 #[.pointer (some ⟨bs, 0, none⟩), lv, .pointer (some ⟨dd, 0, none⟩), .string p] w fun e w' => ∃ v', e = .returned v' ∧ w'.ownsRow W0.heap.size 54 2 v' (M ++ liF L f d p).length (foC (M ++ liF L f d p)) ∧ w.grownBy w' lv.ownBlock ∧ ∀ k, v'.ownBlock = some k → lv.ownBlock = some k ∨ w.heap.size ≤ k
/-- Between the rounds. -/
structure LBI (W0 w : World) (lv0 : Value) (M : List (ByteArray × Int)) (D : List EI) (ov lv : Value) (wr : World) : Prop where
  out : wr.ownsRow W0.heap.size 54 2 ov M.length (foC M)
  lst : wr.ownsRow W0.heap.size 61 3 lv D.length (entsI D)
  ne : ∀ g, lv.ownBlock = some g → ov.ownBlock ≠ some g
  bel : Below W0.heap.size W0 wr
  grw : w.grownBy wr lv0.ownBlock
  frs : ∀ k, ov.ownBlock = some k → lv0.ownBlock = some k ∨ w.heap.size ≤ k
theorem LBI.below {W0 w : World} {lv0 : Value} {M : List (ByteArray × Int)} {D : List EI} {ov lv : Value} {wr w' : World} (h : LBI W0 w lv0 M D ov lv wr) (hb : Below wr.heap.size wr w') : LBI W0 w lv0 M D ov lv w' :=
  ⟨own_below h.out hb, own_below h.lst hb, h.ne, h.bel.trans (hb.mono h.bel.size), h.grw.andThen (row' := none) ⟨hb.os, hb.tape, hb.output, hb.size, fun k hk _ => hb.block k hk⟩ (fun j hj => by cases hj), h.frs⟩
theorem LBI.push {W0 w : World} {lv0 : Value} {M M' : List (ByteArray × Int)} {D : List EI} {ov lv ov' : Value} {wr w' : World} (h : LBI W0 w lv0 M D ov lv wr) (ho : w'.ownsRow W0.heap.size 54 2 ov' (M ++ M').length (foC (M ++ M'))) (hg : wr.grownBy w' ov.ownBlock) (hf : ∀ k, ov'.ownBlock = some k → ov.ownBlock = some k ∨ wr.heap.size ≤ k) : LBI W0 w lv0 (M ++ M') D ov' lv w' := by
  refine ⟨ho, h.lst.kept hg ?_, fun g hg' e => ?_, h.bel.grown hg h.bel.size (fun g hg => (h.out.lt g hg).1), h.grw.andThen hg (fun j hj => ?_), fun k hk => ?_⟩
  · cases hl : lv.ownBlock with
    | none => exact Or.inl rfl
    | some g => exact Or.inr (fun e => h.ne g hl e.symm)
  · rcases hf g e with h1 | h1
    · exact h.ne g hg' h1
    · have := (h.lst.lt g hg').2; omega
  · rcases h.frs j hj with h1 | h1
    · exact Or.inr h1
    · exact Or.inl h1
  · rcases hf k hk with h1 | h1
    · exact h.frs k h1
    · have := h.grw.size; exact Or.inr (by omega)
set_option maxRecDepth 100000 in
set_option maxHeartbeats 8000000 in
theorem below_step (C : Int) (L : List Nd) (hR : RightS C L) (ps : Array Value) (bs bn : Nat) (W0 : World) (hO : OpS W0 bs bn C L ps) (f d : Nat) (hD : Dp L (f + 1) d) (IH : ∀ c, Dp L f c → LBl C L ps bs bn W0 f c) : LBl C L ps bs bn W0 (f + 1) d := by
  intro dd lv M p w hdir hbw hown hlen hps
  obtain ⟨h1, hdl, hdk, hch⟩ := hD
  obtain ⟨D, hDD⟩ : ∃ D, D = dlL (ndAt L d).d := ⟨_, rfl⟩
  have hm8 : D.length ≤ 8192 := by rw [hDD]; exact dlL_len _
  obtain ⟨dbase, mb, nn, dv, hdr, hnn, hdok⟩ := hdir.below hbw
  have hes : ∃ es, entT (ndAt L d).d ((ndAt L d).d.length / 32) = some es := by
    have h := hdok
    unfold dirOk at h
    simp only [Bool.and_eq_true] at h
    exact Option.isSome_iff_exists.1 h.2.2.1
  obtain ⟨es, hes⟩ := hes
  have hDe : D = sortE (es.map toI) := by rw [hDD, (dl_ok hdok hes).2]
  have hn8 : (ndAt L d).d.length / 32 ≤ 8192 := by
    unfold dirOk at hdok
    simp only [Bool.and_eq_true, decide_eq_true_eq] at hdok
    have := hdok.2.1
    omega
  have HLs := hide (list_any (H := Unit) (ndAt L d).d dbase dd mb ((ndAt L d).d.length / 32) nn dv es w hdr hes hn8 hnn)
  have HE0 := hide (And.intro hbw (And.intro hown (And.intro hO (And.intro hR (And.intro hdl (And.intro hdk (And.intro hch (And.intro IH hlen))))))))
  have HDD := hide (And.intro hDD hDe)
  clear hdir hbw hown hO hR hdl hdk hch IH hlen hdr hnn hdok hes hDD hDe hn8
  obtain ⟨la0, lc0, rfl⟩ := ownD_shape HE0.out.2.1
  obtain ⟨i0, hi, hz0, hz1, hz2⟩ := info_parts infoFo
  obtain ⟨n0, hn0⟩ : ∃ n0, n0 = M.length := ⟨_, rfl⟩
  rw [← hn0]
  have HN0 := hide hn0
  clear hn0
  go_enter Tryz.func39, Tryz.ntmps39
  go_wp2_with (go_at_call 69; fail)
  refine HLs.out.mono ?_
  rintro e w1 ⟨lv1, rfl, o1, b1⟩
  rw [← HDD.out.2] at o1
  obtain ⟨la, lc, rfl⟩ := ownD_shape o1
  obtain ⟨m, hm⟩ : ∃ m, m = D.length := ⟨_, rfl⟩
  have HM := hide hm
  have HIN := hide (show LBI W0 w (.slice la0 n0 lc0) (M ++ liK L f d p 0) D (.slice la0 n0 lc0) (.slice la D.length lc) w1 from by
    have h0 := HE0.out.2.1
    rw [← HN0.out] at h0
    refine ⟨?_, own_mono o1 HE0.out.1.size, fun g hg e => ?_, HE0.out.1.trans (b1.mono HE0.out.1.size), ⟨b1.os, b1.tape, b1.output, b1.size, fun k hk _ => b1.block k hk⟩, fun k hk => Or.inl hk⟩
    · have := own_below h0 b1
      rw [show M ++ liK L f d p 0 = M from by unfold liK; simp, ← HN0.out]
      exact this
    · have h1 := (o1.lt g hg).1
      have h2 := (h0.lt g e).2
      omega)
  rw [← hm] at hm8 HIN ⊢
  clear o1 b1 hm HLs
  go_wp2_with fail
  go_loopw [1, 15] (fun ov iv wr => ∃ k : Nat, k ≤ m ∧ iv = .int .i64 (k : Int) ∧ Hid (LBI W0 w (.slice la0 n0 lc0) (M ++ liK L f d p k) D ov (.slice la m lc) wr)) (fun _ iv _ => m - (intOf iv).toNat)
  case atStart => exact ⟨0, Nat.zero_le _, rfl, HIN⟩
  case round =>
    clear HIN
    obtain ⟨k, hkm, rfl, HK⟩ := hrel
    by_cases hlt : k < m
    rotate_left
    · have ek : k = m := by omega
      have HF := hide (show LBI W0 w (.slice la0 n0 lc0) (M ++ liF L (f + 1) d p) D u1 (.slice la m lc) wr from by
        have h := HK.out
        have e1 : liK L f d p k = liF L (f + 1) d p := by
          have := liK_all L f d p
          rw [← HDD.out.1, ← HM.out, ← ek] at this
          exact this
        rw [e1] at h
        exact h)
      clear HK
      go_wp2
      go_ret
      exact ⟨_, rfl, HF.out.out, HF.out.grw, HF.out.frs⟩
    obtain ⟨gl, cl, ee, hg1, hg2, hcl⟩ := own_sliceD HK.out.lst (by rw [← HM.out]; omega)
    injection ee with ee1 ee2 ee3
    subst ee1 ee3
    obtain ⟨e, he⟩ : ∃ e, D[k]? = some e := ⟨_, List.getElem?_eq_getElem (by rw [← HM.out]; exact hlt)⟩
    have HE := hide he
    have HRG := hide (show wr.rangeAt gl (k * 3) [.string e.1, .int .i64 e.2.1, .int .i64 e.2.2] from fun j u hu => by
      have h1 := hcl (k * 3 + j) u (entsI_at HE.out j u hu)
      rw [Addr.add_mid, Nat.zero_add] at h1
      exact h1)
    have hin : e ∈ dlL (ndAt L d).d := by rw [← HDD.out.1]; exact List.mem_of_getElem? HE.out
    have hes := dl_name HE0.out.2.2.2.1 HE0.out.2.2.2.2.1 HE0.out.2.2.2.2.2.1 hin
    have hq1 : ¬ 9223372036854775807 < p.size + 1 := by omega
    have hq2 : ¬ 9223372036854775807 < p.size + 1 + e.1.size := by omega
    have HPS := hide (show (slN p e.1).size + 27 * f ≤ 100000 from by unfold slN; rw [ByteArray.size_append, ByteArray.size_append]; show p.size + 1 + e.1.size + 27 * f ≤ 100000; omega)
    obtain ⟨cc, hcc, cc1, cc2, cc3, cc4, cc5⟩ := dl_child HE0.out.2.2.2.1 HE0.out.2.2.2.2.1 HE0.out.2.2.2.2.2.1 hin
    have HCC := hide (And.intro hcc (And.intro cc3 (And.intro cc4 (show e.2.2 = 2 → Dp L f cc from fun h2 => by have := HE0.out.2.2.2.2.2.2.1 e hin h2; rw [hcc, Int.toNat_natCast] at this; exact this))))
    have HLE := hide (show (dlL (ndAt L d).d)[k]? = some e from by rw [← HDD.out.1]; exact HE.out)
    have hlk : M.length + (liK L f d p (k + 1)).length ≤ 32768 := Nat.le_trans (Nat.add_le_add_left (liK_le L f d p (k + 1)) _) HE0.out.2.2.2.2.2.2.2.2
    rw [liK_succ HLE.out, List.length_append, List.length_append, List.length_singleton] at hlk
    obtain ⟨Wd, hWd⟩ : ∃ Wd, Wd = wr.alloc (.cells #[.string e.1, .int .i64 e.2.1, .int .i64 e.2.2] 61) := ⟨_, rfl⟩
    obtain ⟨dq, hdq⟩ : ∃ dq, dq = wr.heap.size := ⟨_, rfl⟩
    have bd : Below wr.heap.size wr Wd := by rw [hWd]; exact (Below.refl _ _).alloc (Nat.le_refl _) _
    have KD := hide (show Blk Wd dq #[.string e.1, .int .i64 e.2.1, .int .i64 e.2.2] 61 from by rw [hWd, hdq]; exact Blk.new wr _ _)
    have LD := hide (HK.out.below bd)
    have HWd := hide (And.intro hWd hdq)
    have HJ := hide (show ∀ j, u1.ownBlock = some j → j < dq from fun j hj => by rw [hdq]; exact (HK.out.out.lt j hj).2)
    clear hcl he hin hcc cc1 cc2 cc3 cc4 cc5 hWd hdq bd HK ee2
    go_upto_region 4 with (refine wpList_load_mid rfl 61 _ rfl gl (k * 3) rfl [.string e.1, .int .i64 e.2.1, .int .i64 e.2.2] _ HRG.out Tryz.underlying61 rfl infoD3 ?_)
    rw [← HWd.out.1, ← HWd.out.2]
    clear HRG HWd
    have d0 := (KD.out.cell 0).trans (show _ = some (Value.string e.1) from rfl)
    have d1 := (KD.out.cell 1).trans (show _ = some (Value.int .i64 e.2.1) from rfl)
    have d2 := (KD.out.cell 2).trans (show _ = some (Value.int .i64 e.2.2) from rfl)
    have BA := hide (show Below Wd.heap.size Wd (Wd.alloc (.cells #[.string (p ++ ⟨#[47]⟩ ++ e.1), .int .i64 e.2.1] 54)) from (Below.refl _ _).alloc (Nat.le_refl _) _)
    have LA := hide (LD.out.below BA.out)
    have hb1 : (M ++ liK L f d p k).length + 1 ≤ 32768 := by rw [List.length_append]; omega
    go_upto_region 6 with (first
      | (refine wpList_build1D rfl 33 54 _ rfl #[.string (p ++ ⟨#[47]⟩ ++ e.1), .int .i64 e.2.1] rfl i0 _ Tryz.underlying33 hi hz0 hz1 (show 0 < 2 by omega) (show 2 ≤ 1000 by omega) ?_)
      | (at_builtin; refine append_fresh _ rfl (.tmp 24) (.tmp 29) 33 rfl W0.heap.size 54 i0 (.agg #[.string ⟨#[]⟩, .int .i64 0]) 2 24 Tryz.underlying33 hi hz0 hz1 hz2 rfl (by decide) _ _ _ rfl LA.out.out ⟨Wd.heap.size, 0, none⟩ 1 1 (#[.string (p ++ ⟨#[47]⟩ ++ e.1), .int .i64 e.2.1]).toList rfl rfl (cells_newD Wd _ _) (by intro u hu; simp at hu; rcases hu with rfl | rfl <;> rfl) (by omega) (by unfold maxLen; omega) (by omega) LA.out.bel.size ?_; intro v1 w2 o1 g1 f1))
    have LN := hide (LA.out.push (M' := [(slN p e.1, e.2.1)]) (by rw [List.length_append, foC_app]; exact o1) g1 f1)
    have kda := KD.out.below BA.out KD.out.lt
    have KD1 := hide (show Blk w2 dq #[.string e.1, .int .i64 e.2.1, .int .i64 e.2.2] 61 from (g1.block dq kda.lt (fun h => by have := HJ.out dq h.symm; omega)).trans kda)
    have HJ1 := hide (show ∀ j, v1.ownBlock = some j → j ≠ dq from fun j hj => by
      rcases f1 j hj with h | h
      · have := HJ.out j h; omega
      · have := kda.lt; omega)
    clear o1 g1 f1 LA LD BA KD d0 d1 d2 kda HJ
    have d1 := (KD1.out.cell 1).trans (show _ = some (Value.int .i64 e.2.1) from rfl)
    have d2 := (KD1.out.cell 2).trans (show _ = some (Value.int .i64 e.2.2) from rfl)
    by_cases hk2 : e.2.2 = 2
    rotate_left
    · have hkb : (e.2.2 == 2) = false := by simpa using hk2
      have HLN := hide (show LBI W0 w (.slice la0 n0 lc0) (M ++ liK L f d p (k + 1)) D v1 (.slice (some ⟨gl, 0, none⟩) m lc) w2 from by rw [liK_succ HLE.out, if_neg hk2, List.append_nil, ← List.append_assoc]; exact LN.out)
      clear hk2 LN
      go_wp2
      go_roundw
      case rel => exact ⟨k + 1, by omega, by go_num, HLN⟩
      case measure => simp [intOf]; omega
    have hkb : (e.2.2 == 2) = true := by simpa using hk2
    rw [if_pos hk2, HCC.out.1, Int.toNat_natCast] at hlk
    have HLL := hide (show (M ++ liK L f d p k ++ [(slN p e.1, e.2.1)]).length + (liF L f cc (slN p e.1)).length ≤ 32768 from by rw [List.length_append, List.length_append, List.length_singleton]; omega)
    have HDp := hide (HCC.out.2.2.2 hk2)
    have HSC := hide (show M ++ liK L f d p (k + 1) = M ++ liK L f d p k ++ [(slN p e.1, e.2.1)] ++ liF L f cc (slN p e.1) from by rw [liK_succ HLE.out, if_pos hk2, HCC.out.1, Int.toNat_natCast, List.append_assoc, List.append_assoc, List.append_assoc])
    obtain ⟨p2, hp2, hn2⟩ := HE0.out.2.2.1.nd.cell HCC.out.2.1
    have hck : (ndAt L cc).k = 2 := by rw [HCC.out.2.2.1, hk2]
    obtain ⟨g2, a2, c2, dp2, rfl, hgb, _, _, _, hd2⟩ := hn2.some (by rw [hck]; decide)
    obtain ⟨dd2, rfl, hdr2⟩ := hd2 hck
    have HDR := hide hdr2
    obtain ⟨N, hN⟩ : ∃ N, N = L.length := ⟨_, rfl⟩
    have hcN : cc < N := by rw [hN]; exact HCC.out.2.1
    have hNL : N ≤ 1001 := by rw [hN]; exact HE0.out.2.2.2.1.len.2
    have hsl : (Value.slice (some ⟨bn, 0, none⟩) L.length L.length) = .slice (some ⟨bn, 0, none⟩) N N := by rw [hN]
    have x1 : W0.cell? ⟨bs, 1, none⟩ = some (.slice (some ⟨bn, 0, none⟩) N N) := (HE0.out.2.2.1.st.cell 1).trans (by rw [← hsl]; rfl)
    have x4 : W0.cell? ⟨g2, 10, none⟩ = some (.pointer (some ⟨dd2, 0, none⟩)) := (hgb.cell 10).trans rfl
    have HLO := hide (show ∀ W, Below W0.heap.size W0 W → W.cell? ⟨bs, 1, none⟩ = some (.slice (some ⟨bn, 0, none⟩) N N) ∧ W.cell? ⟨bn, cc, none⟩ = some (.pointer (some ⟨g2, 0, none⟩)) ∧ W.cell? ⟨g2, 10, none⟩ = some (.pointer (some ⟨dd2, 0, none⟩)) from fun W hb => ⟨(hb.cell (cell_lt x1)).trans x1, (hb.cell (cell_lt hp2)).trans hp2, (hb.cell (cell_lt x4)).trans x4⟩)
    rw [HCC.out.1] at d1
    have HD1 := hide d1
    clear hk2 hlk hn2 hd2 hdr2 hgb x1 x4 hp2 hck hN hsl d1
    go_upto_region 7 with fail
    clear d2
    refine wp_region_noPanic ?_
    refine wp_region_held_drew (S := fun w' => w'.cell? ⟨bs, 1, none⟩ = some (.slice (some ⟨bn, 0, none⟩) N N) ∧ w'.cell? ⟨bn, cc, none⟩ = some (.pointer (some ⟨g2, 0, none⟩)) ∧ w'.cell? ⟨g2, 10, none⟩ = some (.pointer (some ⟨dd2, 0, none⟩)) ∧ w'.cell? ⟨dq, 1, none⟩ = some (.int .i64 (cc : Int))) (by kernel_rfl) ⟨(HLO.out _ LN.out.bel).1, (HLO.out _ LN.out.bel).2.1, (HLO.out _ LN.out.bel).2.2, HD1.out⟩ (fun hH => ?_)
    refine wpAnyH_take (i := 0) (oi := _) (v := .pointer (some ⟨bs, 0, none⟩)) rfl (by kernel_rfl) (by kernel_rfl) (by kernel_rfl) (fun _ _ _ h => h) (Or.inl ⟨by rfl, fun w' hw' => by go_simp⟩) hH ?_
    try simp only [Act.put, List.getElem_toArray, List.getElem_cons_zero, List.getElem_cons_succ, List.setIfInBounds_toArray, List.set_cons_zero, List.set_cons_succ]
    refine wpAnyH_take (i := 1) (oi := _) (v := v1) rfl (by kernel_rfl) (by kernel_rfl) (by kernel_rfl) (fun _ _ _ h => h) (Or.inl ⟨by rfl, fun w' hw' => by go_simp⟩) hH ?_
    try simp only [Act.put, List.getElem_toArray, List.getElem_cons_zero, List.getElem_cons_succ, List.setIfInBounds_toArray, List.set_cons_zero, List.set_cons_succ]
    refine wpAnyH_take (i := 2) (oi := _) (v := .pointer (some ⟨bs, 0, none⟩)) rfl (by kernel_rfl) (by kernel_rfl) (by kernel_rfl) (fun _ _ _ h => h) (Or.inl ⟨by rfl, fun w' hw' => by go_simp⟩) hH ?_
    try simp only [Act.put, List.getElem_toArray, List.getElem_cons_zero, List.getElem_cons_succ, List.setIfInBounds_toArray, List.set_cons_zero, List.set_cons_succ]
    refine wpAnyH_take (i := 3) (oi := _) (v := .pointer (some ⟨bs, 0, none⟩)) rfl (by kernel_rfl) (by kernel_rfl) (by kernel_rfl) (fun _ _ _ h => h) (Or.inl ⟨by rfl, fun w' hw' => by go_simp⟩) hH ?_
    try simp only [Act.put, List.getElem_toArray, List.getElem_cons_zero, List.getElem_cons_succ, List.setIfInBounds_toArray, List.set_cons_zero, List.set_cons_succ]
    refine wpAnyH_take (i := 4) (oi := _) (v := .pointer (some ⟨bs, 1, none⟩)) rfl (by kernel_rfl) (by kernel_rfl) (by kernel_rfl) (fun _ _ _ h => h) (Or.inl ⟨by rfl, fun w' hw' => by go_simp⟩) hH ?_
    try simp only [Act.put, List.getElem_toArray, List.getElem_cons_zero, List.getElem_cons_succ, List.setIfInBounds_toArray, List.set_cons_zero, List.set_cons_succ]
    refine wpAnyH_take (i := 5) (oi := _) (v := .slice (some ⟨bn, 0, none⟩) N N) rfl (by kernel_rfl) (by kernel_rfl) (by kernel_rfl) (fun _ _ _ h => h) (Or.inl ⟨by rfl, fun w' hw' => by have hc := hw'.1; clear hw'; go_simp⟩) hH ?_
    try simp only [Act.put, List.getElem_toArray, List.getElem_cons_zero, List.getElem_cons_succ, List.setIfInBounds_toArray, List.set_cons_zero, List.set_cons_succ]
    refine wpAnyH_take (i := 6) (oi := _) (v := .pointer (some ⟨dq, 1, none⟩)) rfl (by kernel_rfl) (by kernel_rfl) (by kernel_rfl) (fun _ _ _ h => h) (Or.inl ⟨by rfl, fun w' hw' => by go_simp⟩) hH ?_
    try simp only [Act.put, List.getElem_toArray, List.getElem_cons_zero, List.getElem_cons_succ, List.setIfInBounds_toArray, List.set_cons_zero, List.set_cons_succ]
    refine wpAnyH_take (i := 7) (oi := _) (v := .int .i64 (cc : Int)) rfl (by kernel_rfl) (by kernel_rfl) (by kernel_rfl) (fun _ _ _ h => h) (Or.inl ⟨by rfl, fun w' hw' => by have hc := hw'.2.2.2; clear hw'; go_simp⟩) hH ?_
    try simp only [Act.put, List.getElem_toArray, List.getElem_cons_zero, List.getElem_cons_succ, List.setIfInBounds_toArray, List.set_cons_zero, List.set_cons_succ]
    refine wpAnyH_take (i := 8) (oi := _) (v := .pointer (some ⟨bn, cc, none⟩)) rfl (by kernel_rfl) (by kernel_rfl) (by kernel_rfl) (fun _ _ _ h => h) (Or.inl ⟨by rfl, fun w' hw' => by go_simp⟩) hH ?_
    try simp only [Act.put, List.getElem_toArray, List.getElem_cons_zero, List.getElem_cons_succ, List.setIfInBounds_toArray, List.set_cons_zero, List.set_cons_succ]
    refine wpAnyH_take (i := 9) (oi := _) (v := .pointer (some ⟨g2, 0, none⟩)) rfl (by kernel_rfl) (by kernel_rfl) (by kernel_rfl) (fun _ _ _ h => h) (Or.inl ⟨by rfl, fun w' hw' => by have hc := hw'.2.1; clear hw'; go_simp⟩) hH ?_
    try simp only [Act.put, List.getElem_toArray, List.getElem_cons_zero, List.getElem_cons_succ, List.setIfInBounds_toArray, List.set_cons_zero, List.set_cons_succ]
    refine wpAnyH_take (i := 10) (oi := _) (v := .pointer (some ⟨g2, 0, none⟩)) rfl (by kernel_rfl) (by kernel_rfl) (by kernel_rfl) (fun _ _ _ h => h) (Or.inl ⟨by rfl, fun w' hw' => by go_simp⟩) hH ?_
    try simp only [Act.put, List.getElem_toArray, List.getElem_cons_zero, List.getElem_cons_succ, List.setIfInBounds_toArray, List.set_cons_zero, List.set_cons_succ]
    refine wpAnyH_take (i := 11) (oi := _) (v := .pointer (some ⟨g2, 10, none⟩)) rfl (by kernel_rfl) (by kernel_rfl) (by kernel_rfl) (fun _ _ _ h => h) (Or.inl ⟨by rfl, fun w' hw' => by go_simp⟩) hH ?_
    try simp only [Act.put, List.getElem_toArray, List.getElem_cons_zero, List.getElem_cons_succ, List.setIfInBounds_toArray, List.set_cons_zero, List.set_cons_succ]
    refine wpAnyH_take (i := 12) (oi := _) (v := .pointer (some ⟨dd2, 0, none⟩)) rfl (by kernel_rfl) (by kernel_rfl) (by kernel_rfl) (fun _ _ _ h => h) (Or.inl ⟨by rfl, fun w' hw' => by have hc := hw'.2.2.1; clear hw'; go_simp⟩) hH ?_
    try simp only [Act.put, List.getElem_toArray, List.getElem_cons_zero, List.getElem_cons_succ, List.setIfInBounds_toArray, List.set_cons_zero, List.set_cons_succ]
    refine wpAnyH_take (i := 13) (oi := _) (v := .string (p ++ ⟨#[47]⟩ ++ e.1)) rfl (by kernel_rfl) (by kernel_rfl) (by kernel_rfl) (fun _ _ _ h => h) (Or.inl ⟨by rfl, fun w' hw' => by go_simp⟩) hH ?_
    try simp only [Act.put, List.getElem_toArray, List.getElem_cons_zero, List.getElem_cons_succ, List.setIfInBounds_toArray, List.set_cons_zero, List.set_cons_succ]
    refine wpAnyH_ready (rs := [14]) (by kernel_rfl) (by simp) ?_
    refine AllReadyH.cons (o := _) rfl (fun K hK => ?_) AllReadyH.nil
    go_simp
    have LE := hide (LN.out.below (Below.refl _ _).drew)
    refine (HE0.out.2.2.2.2.2.2.2.1 cc HDp.out dd2 v1 (M ++ liK L f d p k ++ [(slN p e.1, e.2.1)]) (slN p e.1) w2.drew HDR.out LE.out.bel LE.out.out HLL.out HPS.out).mono ?_
    rintro e' w3 ⟨v3, rfl, o3, g3, f3⟩
    have LN3 := hide (LE.out.push (M' := liF L f cc (slN p e.1)) o3 g3 f3)
    have HD3 := hide (show w3.cell? ⟨dq, 1, none⟩ = some (.int .i64 (cc : Int)) from (((show Blk w3 dq #[.string e.1, .int .i64 e.2.1, .int .i64 e.2.2] 61 from (g3.block dq KD1.out.lt (fun h => HJ1.out dq h.symm rfl)).trans KD1.out).cell 1).trans (by rw [HCC.out.1]; rfl)))
    clear o3 g3 f3
    rw [← HSC.out] at LN3
    refine hK.out _ _ ⟨(HLO.out _ LN3.out.bel).1, (HLO.out _ LN3.out.bel).2.1, (HLO.out _ LN3.out.bel).2.2, HD3.out⟩ (fun hH => ?_)
    clear hK K
    try simp only [Act.put, List.getElem_toArray, List.getElem_cons_zero, List.getElem_cons_succ, List.setIfInBounds_toArray, List.set_cons_zero, List.set_cons_succ]
    refine wpAnyH_take (i := 15) (oi := _) (v := v3) rfl (by kernel_rfl) (by kernel_rfl) (by kernel_rfl) (fun _ _ _ h => h) (Or.inl ⟨by rfl, fun w' hw' => by go_simp⟩) hH ?_
    try simp only [Act.put, List.getElem_toArray, List.getElem_cons_zero, List.getElem_cons_succ, List.setIfInBounds_toArray, List.set_cons_zero, List.set_cons_succ]
    refine wpAnyH_done (by kernel_rfl) (NoPanic.normal ?_) _
    clear hH LE LN HD3 HD1
    go_wp2
    go_roundw
    case rel => exact ⟨k + 1, by omega, by go_num, LN3⟩
    case measure => simp [intOf]; omega
theorem below_any (C : Int) (L : List Nd) (hR : RightS C L) (ps : Array Value) (bs bn : Nat) (W0 : World) (hO : OpS W0 bs bn C L ps) : ∀ f d, Dp L f d → LBl C L ps bs bn W0 f d
  | 0, _, h => h.elim
  | f + 1, d, h => below_step C L hR ps bs bn W0 hO f d h (fun c hc => below_any C L hR ps bs bn W0 hO f c hc)
end Go.Proofs.YtplieplmhdfndaaGreatDoor
