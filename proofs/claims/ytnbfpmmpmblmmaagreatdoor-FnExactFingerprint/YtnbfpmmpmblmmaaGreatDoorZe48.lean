/- The program's nodeAt and fingerprint. -/
import Derived.Test.YtnbfpmmpmblmmaaGreatDoorZe47
import Derived.Deep.RegionHeld
import Derived.Deep.MidRow
namespace Go.Proofs.YtnbfpmmpmblmmaaGreatDoor
set_option linter.unusedVariables false
set_option linter.unusedSimpArgs false
open Go.RowKit

theorem rd_nilF (w : World) : Rd .u8 w (.slice none 0 0) [] := Rd.own (zs := []) (World.ownsRow_nil w 0 5 1)
theorem one24 (l : List Int) : (cellsI l).all (·.oneCell') = true := by simp [cellsI, Array.all_eq_true, Value.oneCell']
theorem inoN_len (x : Nd) (s : Int) : (cellsI (inoN x s)).size = 24 := by rw [cellsI_size]; exact inoI_len _ _ _ _ _ rfl rfl
theorem ndC_blk {w : World} {g : Nat} {x : Nd} {dv dp : Value} {t : TypeId} (h : Blk w g #[.int .i64 x.k, .int .i64 x.l, .int .i64 x.m, .int .i64 x.u, .int .i64 x.g, .int .i64 x.p, .int .i64 x.e, .int .i64 x.t, .int .i64 x.c, dv, dp] t) : w.rangeAt g 0 (ndC x dv).toList := by
  intro j u hu
  rw [Nat.zero_add, h.cell j, ← Array.getElem?_toList]
  show ((ndC x dv).toList ++ [dp])[j]? = some u
  rw [List.getElem?_append_left (List.getElem?_eq_some_iff.1 hu).1]
  exact hu
set_option maxRecDepth 100000 in
set_option maxHeartbeats 4000000 in
theorem nodeAt_any (C : Int) (L : List Nd) (ps : Array Value) (bs bn : Nat) (w0 w : World) (h : OpS w0 bs bn C L ps) (hb0 : Below w0.heap.size w0 w) (hR : RightS C L) (i : Nat) (hi : i ≤ 1048576) :
    Calls Tryz.prog 33 #[.pointer (some ⟨bs, 0, none⟩), .int .i64 (i : Int)] w fun e w' => ∃ a c, e = .returned (.tuple #[.agg (cellsI (inoN (ndAt L i) (ndAt L i).d.length)), .slice a (ndAt L i).d.length c]) ∧ Rd .u8 w0 (.slice a (ndAt L i).d.length c) (ndAt L i).d ∧ Below w.heap.size w w' := by
  obtain ⟨N, hN⟩ : ∃ N, N = L.length := ⟨_, rfl⟩
  have HN := hide hN
  have hL : N ≤ 1001 := by rw [hN]; exact hR.len.2
  obtain ⟨W1, hW1⟩ : ∃ W1, W1 = w.alloc (.cells #[.int .i64 0, .int .i64 0, .int .i64 0, .int .i64 0, .int .i64 0, .int .i64 0, .int .i64 0, .int .i64 0, .int .i64 0, .int .i64 0, .int .i64 0, .int .i64 0, .int .i64 0, .int .i64 0, .int .i64 0, .int .i64 0, .int .i64 0, .int .i64 0, .int .i64 0, .int .i64 0, .int .i64 0, .int .i64 0, .int .i64 0, .int .i64 0] 83) := ⟨_, rfl⟩
  have HB := hide (show Below w.heap.size w W1 from by rw [hW1]; exact (Below.refl _ _).alloc (Nat.le_refl _) _)
  have HBk := hide (show Blk W1 w.heap.size #[.int .i64 0, .int .i64 0, .int .i64 0, .int .i64 0, .int .i64 0, .int .i64 0, .int .i64 0, .int .i64 0, .int .i64 0, .int .i64 0, .int .i64 0, .int .i64 0, .int .i64 0, .int .i64 0, .int .i64 0, .int .i64 0, .int .i64 0, .int .i64 0, .int .i64 0, .int .i64 0, .int .i64 0, .int .i64 0, .int .i64 0, .int .i64 0] 83 from by rw [hW1]; exact Blk.new _ _ _)
  have HW := hide hW1
  have HS := hide ((h.below hb0).below HB.out)
  have HS0 := hide (And.intro h hb0)
  have x1 : W1.cell? ⟨bs, 1, none⟩ = some (.slice (some ⟨bn, 0, none⟩) N N) := by rw [hN]; exact (HS.out.st.cell 1).trans rfl
  have HF := hide (fld_in hR i)
  have HBY := hide (fun hge : N ≤ i => nd_beyond L i (by rw [← hN]; exact hge))
  clear hW1 h hR hN hb0
  by_cases hfree : (ndAt L i).k = 0
  · have hz := HF.out.2 hfree
    have HP := hide (show ∀ hlt : i < N, W1.cell? ⟨bn, i, none⟩ = some (.pointer none) from fun hlt => by
      obtain ⟨p, h1, h2⟩ := HS.out.nd.cell (i := i) (by rw [← HN.out]; exact hlt)
      rw [h1, h2.free hfree])
    rw [hz]
    clear hz hfree HF HBY HS HS0
    rcases Nat.lt_or_ge i N with hlt | hge
    · have x2 := HP.out hlt
      clear HP
      go_enter Tryz.func33, Tryz.ntmps33
      go_upto_region 1 with fail
      rw [← HW.out]
      go_wp2_with (first | (refine wpList_store_row rfl 83 _ _ rfl w.heap.size #[.int .i64 0, .int .i64 0, .int .i64 0, .int .i64 0, .int .i64 0, .int .i64 0, .int .i64 0, .int .i64 0, .int .i64 0, .int .i64 0, .int .i64 0, .int .i64 0, .int .i64 0, .int .i64 0, .int .i64 0, .int .i64 0, .int .i64 0, .int .i64 0, .int .i64 0, .int .i64 0, .int .i64 0, .int .i64 0, .int .i64 0, .int .i64 0] rfl rfl 83 _ HBk.out info24 rfl (by kernel_rfl) ?_) | fail)
      refine bodyPost_ret (v := .tuple #[.agg #[.int .i64 0, .int .i64 0, .int .i64 0, .int .i64 0, .int .i64 0, .int .i64 0, .int .i64 0, .int .i64 0, .int .i64 0, .int .i64 0, .int .i64 0, .int .i64 0, .int .i64 0, .int .i64 0, .int .i64 0, .int .i64 0, .int .i64 0, .int .i64 0, .int .i64 0, .int .i64 0, .int .i64 0, .int .i64 0, .int .i64 0, .int .i64 0], .slice none 0 0]) (results_row_tmp rfl _ _ w.heap.size 83 #[.int .i64 0, .int .i64 0, .int .i64 0, .int .i64 0, .int .i64 0, .int .i64 0, .int .i64 0, .int .i64 0, .int .i64 0, .int .i64 0, .int .i64 0, .int .i64 0, .int .i64 0, .int .i64 0, .int .i64 0, .int .i64 0, .int .i64 0, .int .i64 0, .int .i64 0, .int .i64 0, .int .i64 0, .int .i64 0, .int .i64 0, .int .i64 0] (0, 0) _ _ rfl rfl (HBk.out.row _) Tryz.underlying83 rfl info24) rfl ⟨none, 0, rfl, rd_nilF _, below_setRow HB.out (Nat.le_refl _) _⟩
    · clear HP
      have hge' : (N : Int) ≤ (i : Int) := by omega
      go_enter Tryz.func33, Tryz.ntmps33
      go_upto_region 1 with fail
      rw [← HW.out]
      go_wp2_with (first | (refine wpList_store_row rfl 83 _ _ rfl w.heap.size #[.int .i64 0, .int .i64 0, .int .i64 0, .int .i64 0, .int .i64 0, .int .i64 0, .int .i64 0, .int .i64 0, .int .i64 0, .int .i64 0, .int .i64 0, .int .i64 0, .int .i64 0, .int .i64 0, .int .i64 0, .int .i64 0, .int .i64 0, .int .i64 0, .int .i64 0, .int .i64 0, .int .i64 0, .int .i64 0, .int .i64 0, .int .i64 0] rfl rfl 83 _ HBk.out info24 rfl (by kernel_rfl) ?_) | fail)
      refine bodyPost_ret (v := .tuple #[.agg #[.int .i64 0, .int .i64 0, .int .i64 0, .int .i64 0, .int .i64 0, .int .i64 0, .int .i64 0, .int .i64 0, .int .i64 0, .int .i64 0, .int .i64 0, .int .i64 0, .int .i64 0, .int .i64 0, .int .i64 0, .int .i64 0, .int .i64 0, .int .i64 0, .int .i64 0, .int .i64 0, .int .i64 0, .int .i64 0, .int .i64 0, .int .i64 0], .slice none 0 0]) (results_row_tmp rfl _ _ w.heap.size 83 #[.int .i64 0, .int .i64 0, .int .i64 0, .int .i64 0, .int .i64 0, .int .i64 0, .int .i64 0, .int .i64 0, .int .i64 0, .int .i64 0, .int .i64 0, .int .i64 0, .int .i64 0, .int .i64 0, .int .i64 0, .int .i64 0, .int .i64 0, .int .i64 0, .int .i64 0, .int .i64 0, .int .i64 0, .int .i64 0, .int .i64 0, .int .i64 0] (0, 0) _ _ rfl rfl (HBk.out.row _) Tryz.underlying83 rfl info24) rfl ⟨none, 0, rfl, rd_nilF _, below_setRow HB.out (Nat.le_refl _) _⟩
  · have hlt : i < N := by
      rcases Nat.lt_or_ge i N with h | h
      · exact h
      · exact absurd (by rw [HBY.out h]; rfl) hfree
    obtain ⟨p, x20, h2⟩ := HS0.out.1.nd.cell (i := i) (by rw [← HN.out]; exact hlt)
    obtain ⟨g, a, c, dp, rfl, hgb, hrd, _, _, _⟩ := h2.some hfree
    have hbw : Below w0.heap.size w0 W1 := HS0.out.2.trans (HB.out.mono HS0.out.2.size)
    have x2 : W1.cell? ⟨bn, i, none⟩ = some (.pointer (some ⟨g, 0, none⟩)) := (hbw.cell (p := ⟨bn, i, none⟩) (cell_lt x20)).trans x20
    have hgw : g < w.heap.size := Nat.lt_of_lt_of_le hgb.lt HS0.out.2.size
    have hgl : g < W1.heap.size := Nat.lt_of_lt_of_le hgw HB.out.size
    have HG := hide (hgb.below hbw hgb.lt)
    have HR := hide hrd
    clear hbw x20
    obtain ⟨x, hx⟩ : ∃ x, x = ndAt L i := ⟨_, rfl⟩
    rw [← hx] at HG HR ⊢
    obtain ⟨n, hn⟩ : ∃ n, n = x.d.length := ⟨_, rfl⟩
    have hn2 : n ≤ 262144 := by rw [hn, hx]; exact HF.out.1.d
    have HNn := hide hn
    rw [← hn] at HG HR ⊢
    have HX := hide hx
    clear h2 hgb hrd hx hn HBY hfree HF HS HS0
    go_enter Tryz.func33, Tryz.ntmps33
    go_upto_region 1 with fail
    rw [← HW.out]
    go_upto_region 4 with fail
    refine wp_region_noPanic ?_
    refine wp_region_held_drew (S := fun w' => Blk w' g #[.int .i64 x.k, .int .i64 x.l, .int .i64 x.m, .int .i64 x.u, .int .i64 x.g, .int .i64 x.p, .int .i64 x.e, .int .i64 x.t, .int .i64 x.c, .slice a n c, .pointer dp] 110) (by kernel_rfl) (show Blk W1.drew g #[.int .i64 x.k, .int .i64 x.l, .int .i64 x.m, .int .i64 x.u, .int .i64 x.g, .int .i64 x.p, .int .i64 x.e, .int .i64 x.t, .int .i64 x.c, .slice a n c, .pointer dp] 110 from HG.out) (fun hH => ?_)
    refine wpAnyH_take (i := 0) (oi := _) (v := .pointer (some ⟨g, 0, none⟩)) rfl (by kernel_rfl) (by kernel_rfl) (by kernel_rfl) (fun _ _ _ h => h) (Or.inl ⟨by rfl, fun w' hw' => by go_simp⟩) hH ?_
    try simp only [Act.put, List.getElem_toArray, List.getElem_cons_zero, List.getElem_cons_succ, List.setIfInBounds_toArray, List.set_cons_zero, List.set_cons_succ]
    refine wpAnyH_take (i := 1) (oi := _) (v := .pointer (some ⟨g, 0, none⟩)) rfl (by kernel_rfl) (by kernel_rfl) (by kernel_rfl) (fun _ _ _ h => h) (Or.inl ⟨by rfl, fun w' hw' => by go_simp⟩) hH ?_
    try simp only [Act.put, List.getElem_toArray, List.getElem_cons_zero, List.getElem_cons_succ, List.setIfInBounds_toArray, List.set_cons_zero, List.set_cons_succ]
    refine wpAnyH_take (i := 2) (oi := _) (v := .pointer (some ⟨g, 0, none⟩)) rfl (by kernel_rfl) (by kernel_rfl) (by kernel_rfl) (fun _ _ _ h => h) (Or.inl ⟨by rfl, fun w' hw' => by go_simp⟩) hH ?_
    try simp only [Act.put, List.getElem_toArray, List.getElem_cons_zero, List.getElem_cons_succ, List.setIfInBounds_toArray, List.set_cons_zero, List.set_cons_succ]
    refine wpAnyH_take (i := 3) (oi := _) (v := .pointer (some ⟨g, 9, none⟩)) rfl (by kernel_rfl) (by kernel_rfl) (by kernel_rfl) (fun _ _ _ h => h) (Or.inl ⟨by rfl, fun w' hw' => by go_simp⟩) hH ?_
    try simp only [Act.put, List.getElem_toArray, List.getElem_cons_zero, List.getElem_cons_succ, List.setIfInBounds_toArray, List.set_cons_zero, List.set_cons_succ]
    refine wpAnyH_take (i := 4) (oi := _) (v := .slice a n c) rfl (by kernel_rfl) (by kernel_rfl) (by kernel_rfl) (fun _ _ _ h => h) (Or.inl ⟨by rfl, fun w' hw' => by have h9 := (show w'.cell? ⟨g, 9, none⟩ = some (.slice a n c) from (Blk.cell hw' 9).trans rfl); clear hw'; go_simp⟩) hH ?_
    try simp only [Act.put, List.getElem_toArray, List.getElem_cons_zero, List.getElem_cons_succ, List.setIfInBounds_toArray, List.set_cons_zero, List.set_cons_succ]
    refine wpAnyH_take (i := 5) (oi := _) (v := .int .i64 (n : Int)) rfl (by kernel_rfl) (by kernel_rfl) (by kernel_rfl) (fun _ _ _ h => h) (Or.inl ⟨by rfl, fun w' hw' => by go_simp⟩) hH ?_
    try simp only [Act.put, List.getElem_toArray, List.getElem_cons_zero, List.getElem_cons_succ, List.setIfInBounds_toArray, List.set_cons_zero, List.set_cons_succ]
    refine wpAnyH_take (i := 6) (oi := _) (v := .agg #[.int .i64 (n : Int), .int .i64 0, .int .i64 0, .int .i64 0, .int .i64 0, .int .i64 0, .int .i64 0, .int .i64 0, .int .i64 0, .int .i64 0, .int .i64 0, .int .i64 0, .int .i64 0, .int .i64 0, .int .i64 0]) rfl (by kernel_rfl) (by kernel_rfl) (by kernel_rfl) (fun _ _ _ h => h) (Or.inl ⟨by rfl, fun w' hw' => by go_simp⟩) hH ?_
    try simp only [Act.put, List.getElem_toArray, List.getElem_cons_zero, List.getElem_cons_succ, List.setIfInBounds_toArray, List.set_cons_zero, List.set_cons_succ]
    refine wpAnyH_take (i := 8) (oi := _) (v := .pointer (some ⟨g, 0, none⟩)) rfl (by kernel_rfl) (by kernel_rfl) (by kernel_rfl) (fun _ _ _ h => h) (Or.inl ⟨by rfl, fun w' hw' => by go_simp⟩) hH ?_
    try simp only [Act.put, List.getElem_toArray, List.getElem_cons_zero, List.getElem_cons_succ, List.setIfInBounds_toArray, List.set_cons_zero, List.set_cons_succ]
    refine wpAnyH_take (i := 9) (oi := _) (v := .pointer (some ⟨g, 0, none⟩)) rfl (by kernel_rfl) (by kernel_rfl) (by kernel_rfl) (fun _ _ _ h => h) (Or.inl ⟨by rfl, fun w' hw' => by go_simp⟩) hH ?_
    try simp only [Act.put, List.getElem_toArray, List.getElem_cons_zero, List.getElem_cons_succ, List.setIfInBounds_toArray, List.set_cons_zero, List.set_cons_succ]
    refine wpAnyH_take (i := 10) (oi := _) (v := .pointer (some ⟨g, 9, none⟩)) rfl (by kernel_rfl) (by kernel_rfl) (by kernel_rfl) (fun _ _ _ h => h) (Or.inl ⟨by rfl, fun w' hw' => by go_simp⟩) hH ?_
    try simp only [Act.put, List.getElem_toArray, List.getElem_cons_zero, List.getElem_cons_succ, List.setIfInBounds_toArray, List.set_cons_zero, List.set_cons_succ]
    refine wpAnyH_take (i := 11) (oi := _) (v := .slice a n c) rfl (by kernel_rfl) (by kernel_rfl) (by kernel_rfl) (fun _ _ _ h => h) (Or.inl ⟨by rfl, fun w' hw' => by have h9 := (show w'.cell? ⟨g, 9, none⟩ = some (.slice a n c) from (Blk.cell hw' 9).trans rfl); clear hw'; go_simp⟩) hH ?_
    try simp only [Act.put, List.getElem_toArray, List.getElem_cons_zero, List.getElem_cons_succ, List.setIfInBounds_toArray, List.set_cons_zero, List.set_cons_succ]
    refine wpAnyH_ready (rs := [7]) (by kernel_rfl) (by simp) ?_
    refine AllReadyH.cons (o := _) rfl ?_ AllReadyH.nil
    intro K hK
    go_simp
    refine (inodeOf_any x (.slice a n c) (n : Int) g 0 _ (ndC_blk hH)).mono ?_
    rintro e w2 ⟨rfl, b2⟩
    obtain ⟨cs, hcs⟩ : ∃ cs, cs = cellsI (inoN x (n : Int)) := ⟨_, rfl⟩
    rw [← hcs]
    have B2 := hide (show Below W1.heap.size W1 w2 from ((Below.refl _ _).drew).trans b2)
    have G2 := hide (HG.out.below B2.out hgl)
    have K2 := hide (HBk.out.below B2.out HBk.out.lt)
    have HI := hide (show (Tryz.prog.info? 83).map (·.size) = some cs.size from by rw [hcs, inoN_len]; exact info24)
    have HZ := hide (show cs.size = 24 from by rw [hcs, inoN_len])
    have HC := hide (show cs.all (·.oneCell') = true from by rw [hcs]; exact one24 _)
    have HCS := hide hcs
    refine hK.out _ _ G2.out (fun hH => ?_)
    clear hK K b2 hcs
    try simp only [Act.put, List.getElem_toArray, List.getElem_cons_zero, List.getElem_cons_succ, List.setIfInBounds_toArray, List.set_cons_zero, List.set_cons_succ]
    refine wpAnyH_ready (rs := [12]) (by kernel_rfl) (by simp) ?_
    refine AllReadyH.cons (o := _) rfl ?_ AllReadyH.nil
    intro K hK
    have G3 := hide (show Blk (w2.setRow w.heap.size cs) g _ _ from (setRow_block w2 w.heap.size cs g (by omega)).trans G2.out)
    refine wp_store_row 83 _ _ rfl w.heap.size cs rfl rfl 83 _ K2.out HI.out (by rw [HZ.out]; rfl) HC.out (hK.out _ _ G3.out (fun hH => ?_))
    clear hK K
    try simp only [Act.put, List.getElem_toArray, List.getElem_cons_zero, List.getElem_cons_succ, List.setIfInBounds_toArray, List.set_cons_zero, List.set_cons_succ]
    refine wpAnyH_ready (rs := [13]) (by kernel_rfl) (by simp) ?_
    refine AllReadyH.cons (o := _) rfl ?_ AllReadyH.nil
    intro K hK
    go_simp
    refine hK.out _ _ G3.out (fun hH => ?_)
    clear hK K
    try simp only [Act.put, List.getElem_toArray, List.getElem_cons_zero, List.getElem_cons_succ, List.setIfInBounds_toArray, List.set_cons_zero, List.set_cons_succ]
    refine wpAnyH_done (by kernel_rfl) (NoPanic.normal ?_) _
    have KB := hide (show Blk (w2.setRow w.heap.size cs) w.heap.size cs 83 from K2.out.row _)
    have BE := hide (show Below w.heap.size w (w2.setRow w.heap.size cs) from below_setRow (HB.out.trans (B2.out.mono HB.out.size)) (Nat.le_refl _) _)
    clear hH
    generalize w2.setRow w.heap.size cs = w3 at KB BE ⊢
    go_wp2
    refine bodyPost_ret (v := .tuple #[.agg cs, .slice a n c]) (results_row_tmp rfl _ _ w.heap.size 83 cs (0, 0) _ _ rfl rfl KB.out Tryz.underlying83 rfl HI.out) rfl ⟨a, c, ?_, HR.out, BE.out⟩
    rw [HCS.out]
set_option maxRecDepth 100000 in
set_option maxHeartbeats 4000000 in
theorem fingerprint_any (C : Int) (L : List Nd) (ps : Array Value) (bs bn : Nat) (w : World) (h : OpS w bs bn C L ps) (hR : RightS C L) (hbd : ∀ i, i < L.length → ∀ z ∈ (ndAt L i).d, 0 ≤ z ∧ z < 256) :
    Calls Tryz.prog 15 #[.pointer (some ⟨bs, 0, none⟩)] w fun e w' => e = .returned (.int .u32 (Crc.crc (prI L))) ∧ Below w.heap.size w w' := by
  obtain ⟨i0, hi0, hz0, hz1, hz2⟩ := info_parts infoU8
  obtain ⟨N, hN⟩ : ∃ N, N = L.length := ⟨_, rfl⟩
  have HN := hide hN
  have hL : N ≤ 1001 := by rw [hN]; exact hR.len.2
  have HS := hide h
  have HR := hide hR
  have x1 : w.cell? ⟨bs, 1, none⟩ = some (.slice (some ⟨bn, 0, none⟩) N N) := by rw [hN]; exact (h.st.cell 1).trans rfl
  have HPB := hide (prI_bd L hbd)
  have HCut := hide (show ∀ k, (prI (L.take k)).length ≤ 2000000 from fun k => by have := prI_cut L k; have := hR.tot; have := hR.len.2; omega)
  clear h hR hN hbd
  go_enter Tryz.func15, Tryz.ntmps15
  go_wp2
  go_loopw [3, 12] (fun r i wr => ∃ k : Nat, k ≤ N ∧ i = .int .i64 (k : Int) ∧ Hid (wr.ownsRow w.heap.size 5 1 r (prI (L.take k)).length ((prI (L.take k)).map (Value.int .u8)) ∧ Below w.heap.size w wr)) (fun _ i _ => N - (intOf i).toNat)
  case atStart => exact ⟨0, Nat.zero_le _, rfl, hide ⟨World.ownsRow_nil _ _ _ _, Below.refl _ _⟩⟩
  case round =>
    obtain ⟨k, hk, rfl, HO⟩ := hrel
    obtain ⟨ra, rc, rfl⟩ := own_shape HO.out.1
    by_cases hlt : k < N
    · have hkl : k < L.length := by rw [← HN.out]; exact hlt
      have HT := hide (prI_take L k hkl)
      have HF := hide (fld_in HR.out k)
      have hc1 := HCut.out k
      have hc2 := HCut.out (k + 1)
      rw [HT.out, List.length_append, List.length_append, headI_len] at hc2
      obtain ⟨X, hX⟩ : ∃ X, X = prI (L.take k) := ⟨_, rfl⟩
      obtain ⟨n, hn⟩ : ∃ n, n = X.length := ⟨_, rfl⟩
      rw [← hX] at hc1 hc2 HO HT ⊢
      have HE := hide hn
      rw [← hn] at hc1 hc2 HO ⊢
      clear hX hn
      go_wp2_with (go_at_call 33; fail)
      refine (nodeAt_any C L ps bs bn w wr HS.out HO.out.2 HR.out k (by omega)).mono ?_
      rintro e w1 ⟨a, c, rfl, hrd, b1⟩
      have B1 := hide (HO.out.2.trans (b1.mono HO.out.2.size))
      have O1 := hide (own_below HO.out.1 b1)
      have R1 := hide hrd
      obtain ⟨x, hx⟩ : ∃ x, x = ndAt L k := ⟨_, rfl⟩
      rw [← hx] at R1 HT HF hc2 ⊢
      have HLN := hide (layN_any x HF.out.1)
      have HX := hide hx
      clear hrd b1 HO hx
      obtain ⟨cs, hcs⟩ : ∃ cs, cs = cellsI (inoN x (x.d.length : Int)) := ⟨_, rfl⟩
      rw [← hcs] at HLN ⊢
      have HI := hide (show (Tryz.prog.info? 83).map (·.size) = some cs.size from by rw [hcs, inoN_len]; exact info24)
      have HZ := hide (show cs.size = 24 from by rw [hcs, inoN_len])
      have HC := hide (show cs.all (·.oneCell') = true from by rw [hcs]; exact one24 _)
      obtain ⟨m, hm⟩ : ∃ m, m = x.d.length := ⟨_, rfl⟩
      have HMM := hide hm
      rw [← hm] at R1 hc2 ⊢
      clear hcs hm
      go_wp2_with (first | (refine wpList_store_newF w1.heap.size w1 rfl 83 _ _ rfl w1.heap.size cs rfl rfl 83 #[.int .i64 0, .int .i64 0, .int .i64 0, .int .i64 0, .int .i64 0, .int .i64 0, .int .i64 0, .int .i64 0, .int .i64 0, .int .i64 0, .int .i64 0, .int .i64 0, .int .i64 0, .int .i64 0, .int .i64 0, .int .i64 0, .int .i64 0, .int .i64 0, .int .i64 0, .int .i64 0, .int .i64 0, .int .i64 0, .int .i64 0, .int .i64 0] (Blk.new _ _ _) HI.out (by rw [HZ.out]; rfl) HC.out ((Below.refl _ _).alloc (Nat.le_refl _) _) (Nat.le_refl _) ?_; intro w3 k3 b3; have K3 := hide k3; have B3 := hide b3; clear k3 b3) | (refine wpList_load_row rfl 83 _ rfl w1.heap.size rfl 83 cs (0, 0) _ K3.out Tryz.underlying83 rfl HI.out ?_) | (go_at_call 34; fail))
      refine (HLN.out w3).mono ?_
      rintro e w4 ⟨v4, rfl, o4, b4⟩
      have B4 := hide (B3.out.trans (b4.mono B3.out.size))
      have O4 := hide (own_below O1.out B4.out)
      have R4 := hide (Rd.own (zs := headI x) o4)
      have Q4 := hide (B1.out.trans (B4.out.mono B1.out.size))
      clear o4 b4 O1 B1 HI HZ HC HLN B3 K3
      go_wp2_with (first | (refine wpList_append_rdB _ rfl _ _ 48 rfl w.heap.size 5 i0 Tryz.underlying48 hi0 hz0 hz1 hz2 _ n X rfl O4.out v4 (headI x) rfl R4.out (by rw [headI_len]; omega) Q4.out.size ?_) | fail)
      intro a5 c5 m5 w5 hm5 o5 b5
      rw [headI_len] at hm5
      have hm5b : m5 ≤ 3000000 := by omega
      have O5 := hide (And.intro (show w5.ownsRow w.heap.size 5 1 (.slice a5 m5 c5) m5 ((X ++ headI x).map (Value.int .u8)) from by simpa using o5) (And.intro (Q4.out.trans (grown_base O4.out b5 Q4.out.size)) hm5))
      clear o5 b5 hm5 O4 R4 Q4 B4
      go_wp2_with (first | (refine wpList_append_rdB _ rfl _ _ 48 rfl w.heap.size 5 i0 Tryz.underlying48 hi0 hz0 hz1 hz2 (.slice a5 m5 c5) m5 (X ++ headI x) rfl O5.out.1 (.slice a m c) x.d rfl (R1.out.below O5.out.2.1) (by rw [← HMM.out]; omega) O5.out.2.1.size ?_) | fail)
      intro a6 c6 m6 w6 hm6 o6 b6
      have O6 := hide (And.intro (show w6.ownsRow w.heap.size 5 1 (.slice a6 m6 c6) m6 ((X ++ headI x ++ x.d).map (Value.int .u8)) from by simpa using o6) (And.intro (O5.out.2.1.trans (grown_base O5.out.1 b6 O5.out.2.1.size)) (show m6 = (prI (L.take (k + 1))).length from by rw [HT.out, List.length_append, List.length_append, headI_len, ← HE.out, hm6, O5.out.2.2])))
      clear o6 b6 hm6
      go_wp2
      go_roundw
      case rel =>
        refine ⟨k + 1, by omega, by go_num, hide ⟨?_, O6.out.2.1⟩⟩
        rw [← O6.out.2.2, HT.out]
        exact O6.out.1
      case measure => simp [intOf]; omega
    · have hkN : k = N := by omega
      have HF := hide (show wr.ownsRow w.heap.size 5 1 (.slice ra (prI (L.take k)).length rc) (prI (L.take k)).length ((prI L).map (Value.int .u8)) ∧ Below w.heap.size w wr from ⟨by
        have := HO.out.1
        rw [hkN, HN.out, List.take_length] at this ⊢
        exact this, HO.out.2⟩)
      clear HO hkN
      generalize (prI (L.take k)).length = q at HF ⊢
      go_wp2_with (go_at_call 35; fail)
      refine (implCrc_any _ (prI L) _ (Rd.own HF.out.1) HPB.out).mono ?_
      rintro e w2 ⟨rfl, rfl⟩
      go_wp2
      go_ret
      exact ⟨rfl, HF.out.2⟩
end Go.Proofs.YtnbfpmmpmblmmaaGreatDoor
