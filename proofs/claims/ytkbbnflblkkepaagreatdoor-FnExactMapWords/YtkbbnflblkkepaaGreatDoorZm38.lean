/- The model's look at a root record: l02Fsinfo. EncodeSnap of the model: refusals. -/
import Derived.Test.YtkbbnflblkkepaaGreatDoorZm35
import Derived.Test.YtkbbnflblkkepaaGreatDoorZm22
import Derived.Deep.RegionHeld3
import Derived.Test.YtkbbnflblkkepaaGreatDoorZm34
namespace Go.Proofs.YtkbbnflblkkepaaGreatDoor
set_option linter.unusedVariables false
set_option linter.unusedSimpArgs false
open Go.RowKit

theorem cu_eq (cu bl : Int) : wi cu 2 (bl - 1) = (decide (2 ≤ cu) && decide (cu < bl)) := by
  unfold wi
  rw [show decide (cu ≤ bl - 1) = decide (cu < bl) from by rw [decide_eq_decide]; omega]
theorem own_slice {w : World} {base : Nat} {e : TypeId} {size : Nat} {v : Value} {n : Nat} {xs : List Value} (h : w.ownsRow base e size v n xs) (hn : 0 < n) : ∃ g cap, v = .slice (some ⟨g, 0, none⟩) n cap ∧ base ≤ g ∧ g < w.heap.size ∧ ∀ j u, xs[j]? = some u → w.cell? ((⟨g, 0, none⟩ : Addr).add j) = some u := by
  rcases h.2 with ⟨_, h0⟩ | ⟨g, cap, cur, rfl, hb, hg, _⟩
  · omega
  · exact ⟨g, cap, rfl, hb, (h.lt g rfl).2, h.cells rfl⟩
theorem own_cells {w : World} {base : Nat} {e : TypeId} {g n cap : Nat} {zs : List Int} (h : w.ownsRow base e 1 (.slice (some ⟨g, 0, none⟩) n cap) n (zs.map (Value.int .i64))) (hl : zs.length = n) : ∀ j, j < n → w.cell? ⟨g, j, none⟩ = some (.int .i64 (zs.getD j 0)) := by
  intro j hj
  have := h.cells rfl j (.int .i64 (zs.getD j 0)) (by rw [List.getElem?_map, List.getD, List.getElem?_eq_getElem (by omega)]; rfl)
  rwa [Addr.add_mid, Nat.zero_add] at this
theorem all_bad (f : Int → Bool) (ds : List Int) (k : Nat) (h : k < ds.length) (hf : f (ds.getD k 0) = false) : ds.all f = false := by
  rw [List.all_eq_false]
  refine ⟨ds[k], List.getElem_mem h, ?_⟩
  rw [List.getD, List.getElem?_eq_getElem h, Option.getD_some] at hf
  simp [hf]
theorem ptr_split (z bl : Int) (h0 : 64 ≤ bl) (h1 : bl ≤ 2048) : ptrB z bl = (ptrB z 2048 && decide (z < bl)) := by
  unfold ptrB
  rw [Bool.eq_iff_iff]
  simp
  omega
set_option maxRecDepth 100000 in
set_option maxHeartbeats 2000000 in
theorem l02Fs_any (gen bl cu ck op ev lg s1 : Int) (ds1 : List Int) (p1 q1 s2 : Int) (ds2 : List Int) (p2 q2 : Int) (sn : List Int) (w : World) (hd1 : ds1.length = 12) (hd2 : ds2.length = 12) (hsn : sn.length = 31) :
    Calls Tryz.prog 52 #[.agg (cellsI (fsI gen bl cu ck op ev lg s1 ds1 p1 q1 s2 ds2 p2 q2 sn))] w fun e w' => e = .returned (.bool (rightF gen bl cu ck op ev lg s1 ds1 p1 q1 s2 ds2 p2 q2 sn)) ∧ Below w.heap.size w w' := by
  obtain ⟨i0, hi, hz0, hz1, hz2⟩ := info_parts infoI64
  have HD := hide (And.intro hd1 (And.intro hd2 hsn))
  have HLen1 := hide (show (cellsI (rootI s1 ds1 p1 q1)).size = 15 from by rw [cellsI_size]; exact rootI_len _ _ _ _ HD.out.1)
  have HLen2 := hide (show (cellsI (rootI s2 ds2 p2 q2)).size = 15 from by rw [cellsI_size]; exact rootI_len _ _ _ _ HD.out.2.1)
  have HF := hide (show rightF gen bl cu ck op ev lg s1 ds1 p1 q1 s2 ds2 p2 q2 sn = (wi gen 1 1099511627776 && wi ck 1 1099511627776 && wi op 0 1099511627776 && wi bl 64 2048 && (decide (2 ≤ cu) && decide (cu < bl)) && wi ev 0 1000 && logB lg && (rightR s1 ds1 p1 q1 && tabB s1) && ptrsB ds1 p1 q1 bl && rightR s2 ds2 p2 q2 && ptrsB ds2 p2 q2 bl && mapB s2 bl && snB sn bl) from rfl)
  have K0 := hide (And.intro (Blk.new w (cellsI (fsI gen bl cu ck op ev lg s1 ds1 p1 q1 s2 ds2 p2 q2 sn)) 37) (show Below w.heap.size w (w.alloc (.cells (cellsI (fsI gen bl cu ck op ev lg s1 ds1 p1 q1 s2 ds2 p2 q2 sn)) 37)) from (Below.refl _ _).alloc (Nat.le_refl _) _))
  have c0 : (w.alloc (.cells (cellsI (fsI gen bl cu ck op ev lg s1 ds1 p1 q1 s2 ds2 p2 q2 sn)) 37)).cell? ⟨w.heap.size, 0, none⟩ = some (.int .i64 gen) := by rw [(Blk.new w _ _).cell 0]; rfl
  have c1 : (w.alloc (.cells (cellsI (fsI gen bl cu ck op ev lg s1 ds1 p1 q1 s2 ds2 p2 q2 sn)) 37)).cell? ⟨w.heap.size, 1, none⟩ = some (.int .i64 bl) := by rw [(Blk.new w _ _).cell 1]; rfl
  have c2 : (w.alloc (.cells (cellsI (fsI gen bl cu ck op ev lg s1 ds1 p1 q1 s2 ds2 p2 q2 sn)) 37)).cell? ⟨w.heap.size, 2, none⟩ = some (.int .i64 cu) := by rw [(Blk.new w _ _).cell 2]; rfl
  have c3 : (w.alloc (.cells (cellsI (fsI gen bl cu ck op ev lg s1 ds1 p1 q1 s2 ds2 p2 q2 sn)) 37)).cell? ⟨w.heap.size, 3, none⟩ = some (.int .i64 ck) := by rw [(Blk.new w _ _).cell 3]; rfl
  have c4 : (w.alloc (.cells (cellsI (fsI gen bl cu ck op ev lg s1 ds1 p1 q1 s2 ds2 p2 q2 sn)) 37)).cell? ⟨w.heap.size, 4, none⟩ = some (.int .i64 op) := by rw [(Blk.new w _ _).cell 4]; rfl
  have c5 : (w.alloc (.cells (cellsI (fsI gen bl cu ck op ev lg s1 ds1 p1 q1 s2 ds2 p2 q2 sn)) 37)).cell? ⟨w.heap.size, 5, none⟩ = some (.int .i64 ev) := by rw [(Blk.new w _ _).cell 5]; rfl
  have c6 : (w.alloc (.cells (cellsI (fsI gen bl cu ck op ev lg s1 ds1 p1 q1 s2 ds2 p2 q2 sn)) 37)).cell? ⟨w.heap.size, 6, none⟩ = some (.int .i64 lg) := by rw [(Blk.new w _ _).cell 6]; rfl
  clear hd1 hd2 hsn
  go_enter Tryz.func52, Tryz.ntmps52
  go_wp2_with (go_at_call 85; fail)
  refine (l02Within_any gen 1 1099511627776 _).mono ?_
  rintro e wx ⟨rfl, rfl⟩
  rcases Bool.eq_false_or_eq_true (wi gen 1 1099511627776) with e0 | e0
  rotate_left
  · have HQ := hide (show rightF gen bl cu ck op ev lg s1 ds1 p1 q1 s2 ds2 p2 q2 sn = false from by rw [HF.out]; simp [e0])
    rw [e0]
    go_wp2
    go_ret
    exact ⟨ret_bool HQ.out.symm, K0.out.2⟩
  rw [e0]
  go_wp2_with (go_at_call 85; fail)
  refine (l02Within_any ck 1 1099511627776 _).mono ?_
  rintro e wx ⟨rfl, rfl⟩
  rcases Bool.eq_false_or_eq_true (wi ck 1 1099511627776) with e1 | e1
  rotate_left
  · have HQ := hide (show rightF gen bl cu ck op ev lg s1 ds1 p1 q1 s2 ds2 p2 q2 sn = false from by rw [HF.out]; simp [e1])
    rw [e1]
    go_wp2
    go_ret
    exact ⟨ret_bool HQ.out.symm, K0.out.2⟩
  rw [e1]
  go_wp2_with (go_at_call 85; fail)
  refine (l02Within_any op 0 1099511627776 _).mono ?_
  rintro e wx ⟨rfl, rfl⟩
  rcases Bool.eq_false_or_eq_true (wi op 0 1099511627776) with e2 | e2
  rotate_left
  · have HQ := hide (show rightF gen bl cu ck op ev lg s1 ds1 p1 q1 s2 ds2 p2 q2 sn = false from by rw [HF.out]; simp [e2])
    rw [e2]
    go_wp2
    go_ret
    exact ⟨ret_bool HQ.out.symm, K0.out.2⟩
  rw [e2]
  go_wp2_with (go_at_call 85; fail)
  refine (l02Within_any bl 64 2048 _).mono ?_
  rintro e wx ⟨rfl, rfl⟩
  rcases Bool.eq_false_or_eq_true (wi bl 64 2048) with e3 | e3
  rotate_left
  · have HQ := hide (show rightF gen bl cu ck op ev lg s1 ds1 p1 q1 s2 ds2 p2 q2 sn = false from by rw [HF.out]; simp [e3])
    rw [e3]
    go_wp2
    go_ret
    exact ⟨ret_bool HQ.out.symm, K0.out.2⟩
  rw [e3]
  have hbl := wi_true e3
  go_wp2_with (go_at_call 85; fail)
  refine (l02Within_any cu 2 (bl - 1) _).mono ?_
  rintro e wx ⟨rfl, rfl⟩
  rcases Bool.eq_false_or_eq_true (wi cu 2 (bl - 1)) with e4 | e4
  rotate_left
  · have HQ := hide (show rightF gen bl cu ck op ev lg s1 ds1 p1 q1 s2 ds2 p2 q2 sn = false from by rw [HF.out]; simp [← cu_eq, e4])
    rw [e4]
    go_wp2
    go_ret
    exact ⟨ret_bool HQ.out.symm, K0.out.2⟩
  rw [e4]
  go_wp2_with (go_at_call 85; fail)
  refine (l02Within_any ev 0 1000 _).mono ?_
  rintro e wx ⟨rfl, rfl⟩
  rcases Bool.eq_false_or_eq_true (wi ev 0 1000) with e5 | e5
  rotate_left
  · have HQ := hide (show rightF gen bl cu ck op ev lg s1 ds1 p1 q1 s2 ds2 p2 q2 sn = false from by rw [HF.out]; simp [e5])
    rw [e5]
    go_wp2
    go_ret
    exact ⟨ret_bool HQ.out.symm, K0.out.2⟩
  rw [e5]
  by_cases hl0 : lg = 0
  · have hlq : (lg != 0) = false := by simp [hl0]
    have E6 := hide (show logB lg = true from by unfold logB; simp [hl0])
    clear hl0
    have HRG := hide (fs_range1 gen bl cu ck op ev lg s1 ds1 p1 q1 s2 ds2 p2 q2 sn HD.out.1 K0.out.1)
    go_wp2_with (first | (refine wpList_load_midG (by first | rfl | simp [Region.wanted, yielded]) 34 _ rfl w.heap.size 7 rfl ((rootI s1 ds1 p1 q1).map (Value.int .i64)) _ HRG.out Tryz.underlying34 rfl (by rw [List.length_map, ← cellsI_size, HLen1.out]; exact info15) ?_) | (go_at_call 57; fail))
    refine (l02Root_any s1 ds1 p1 q1 _ HD.out.1).mono ?_
    rintro e w2 ⟨rfl, b⟩
    have K2 := hide (And.intro (K0.out.1.below b K0.out.1.lt) (K0.out.2.trans (b.mono K0.out.2.size)))
    clear b HRG c0 c1 c2 c3 c4 c5 c6
    rcases Bool.eq_false_or_eq_true (rightR s1 ds1 p1 q1) with e7 | e7
    rotate_left
    · have HQ := hide (show rightF gen bl cu ck op ev lg s1 ds1 p1 q1 s2 ds2 p2 q2 sn = false from by rw [HF.out]; simp [e7])
      rw [e7]
      go_wp2
      go_ret
      exact ⟨ret_bool HQ.out.symm, K2.out.2⟩
    rw [e7]
    have HRG := hide (fs_range2 gen bl cu ck op ev lg s1 ds1 p1 q1 s2 ds2 p2 q2 sn HD.out.1 HD.out.2.1 K2.out.1)
    go_wp2_with (first | (refine wpList_load_midG (by first | rfl | simp [Region.wanted, yielded]) 34 _ rfl w.heap.size 22 rfl ((rootI s2 ds2 p2 q2).map (Value.int .i64)) _ HRG.out Tryz.underlying34 rfl (by rw [List.length_map, ← cellsI_size, HLen2.out]; exact info15) ?_) | (go_at_call 57; fail))
    refine (l02Root_any s2 ds2 p2 q2 _ HD.out.2.1).mono ?_
    rintro e w3 ⟨rfl, b⟩
    have K3 := hide (And.intro (K2.out.1.below b K2.out.1.lt) (K2.out.2.trans (b.mono K2.out.2.size)))
    clear b HRG
    rcases Bool.eq_false_or_eq_true (rightR s2 ds2 p2 q2) with e8 | e8
    rotate_left
    · have HQ := hide (show rightF gen bl cu ck op ev lg s1 ds1 p1 q1 s2 ds2 p2 q2 sn = false from by rw [HF.out]; simp [e8])
      rw [e8]
      go_wp2
      go_ret
      exact ⟨ret_bool HQ.out.symm, K3.out.2⟩
    rw [e8]
    have c22 := (K3.out.1.cell 22).trans (fs_map0 gen bl cu ck op ev lg s1 ds1 p1 q1 s2 ds2 p2 q2 sn HD.out.1)
    have c1 := (K3.out.1.cell 1).trans (show (cellsI (fsI gen bl cu ck op ev lg s1 ds1 p1 q1 s2 ds2 p2 q2 sn))[1]? = some (.int .i64 bl) from rfl)
    have c7 := (K3.out.1.cell 7).trans (show (cellsI (fsI gen bl cu ck op ev lg s1 ds1 p1 q1 s2 ds2 p2 q2 sn))[7]? = some (.int .i64 s1) from rfl)
    rcases Bool.eq_false_or_eq_true (mapB s2 bl) with e9 | e9
    rotate_left
    · have HQ := hide (show rightF gen bl cu ck op ev lg s1 ds1 p1 q1 s2 ds2 p2 q2 sn = false from by rw [HF.out]; simp [e9])
      have hmq : (s2 != 4 * bl) = true := by unfold mapB at e9; simpa using e9
      clear e9
      go_wp2
      go_ret
      exact ⟨ret_bool HQ.out.symm, K3.out.2⟩
    have hmq : (s2 != 4 * bl) = false := by unfold mapB at e9; simpa using e9
    go_wp2_with (go_at_call 86; fail)
    refine (tableSize_any s1 _).mono ?_
    rintro e wx ⟨rfl, rfl⟩
    rcases Bool.eq_false_or_eq_true (tabB s1) with e10 | e10
    rotate_left
    · have HQ := hide (show rightF gen bl cu ck op ev lg s1 ds1 p1 q1 s2 ds2 p2 q2 sn = false from by rw [HF.out]; simp [e10])
      rw [e10]
      go_wp2
      go_ret
      exact ⟨ret_bool HQ.out.symm, K3.out.2⟩
    rw [e10]
    have HFF := hide (show rightF gen bl cu ck op ev lg s1 ds1 p1 q1 s2 ds2 p2 q2 sn = (ptrsB ds1 p1 q1 bl && ptrsB ds2 p2 q2 bl && snB sn bl) from by rw [HF.out, e0, e1, e2, e3, ← cu_eq, e4, e5, E6.out, e7, e8, e9, e10]; simp)
    clear c22 c1 c7 hmq e9 HF K2
    go_wp2_with (first | (refine wpList_load_midG (by first | rfl | simp [Region.wanted, yielded]) 34 _ rfl w.heap.size 7 rfl ((rootI s1 ds1 p1 q1).map (Value.int .i64)) _ (fs_range1 gen bl cu ck op ev lg s1 ds1 p1 q1 s2 ds2 p2 q2 sn HD.out.1 K3.out.1) Tryz.underlying34 rfl (by rw [List.length_map, ← cellsI_size, HLen1.out]; exact info15) ?_) | (go_at_call 58; fail))
    refine wp_region_noPanic ?_
    refine wp_region_held_drew (S := fun w' => Below w3.heap.size w3 w') (by kernel_rfl) ((Below.refl _ _).drew) (fun hH => ?_)
    refine wpAnyH_take (i := 0) (oi := _) (v := .pointer (some ⟨w.heap.size, 7, none⟩)) rfl (by kernel_rfl) (by kernel_rfl) (by kernel_rfl) (fun _ _ _ h => h) (Or.inl ⟨by rfl, fun w' hw' => by go_simp⟩) hH ?_
    try simp only [Act.put, List.setIfInBounds_toArray, List.set_cons_zero, List.set_cons_succ]
    refine wpAnyH_take (i := 1) (oi := _) (v := .agg (cellsI (rootI s1 ds1 p1 q1))) rfl (by kernel_rfl) (by kernel_rfl) (by kernel_rfl) (fun _ _ _ h => h) (yieldsIf_load_mid (by rfl) 34 _ rfl w.heap.size 7 rfl ((rootI s1 ds1 p1 q1).map (Value.int .i64)) _ (fun w' h => fs_range1 gen bl cu ck op ev lg s1 ds1 p1 q1 s2 ds2 p2 q2 sn HD.out.1 (K3.out.1.below h K3.out.1.lt)) Tryz.underlying34 rfl (by rw [List.length_map, ← cellsI_size, HLen1.out]; exact info15)) hH ?_
    try simp only [Act.put, List.setIfInBounds_toArray, List.set_cons_zero, List.set_cons_succ]
    refine wpAnyH_take (i := 3) (oi := _) (v := .pointer (some ⟨w.heap.size, 22, none⟩)) rfl (by kernel_rfl) (by kernel_rfl) (by kernel_rfl) (fun _ _ _ h => h) (Or.inl ⟨by rfl, fun w' hw' => by go_simp⟩) hH ?_
    try simp only [Act.put, List.setIfInBounds_toArray, List.set_cons_zero, List.set_cons_succ]
    refine wpAnyH_take (i := 4) (oi := _) (v := .agg (cellsI (rootI s2 ds2 p2 q2))) rfl (by kernel_rfl) (by kernel_rfl) (by kernel_rfl) (fun _ _ _ h => h) (yieldsIf_load_mid (by rfl) 34 _ rfl w.heap.size 22 rfl ((rootI s2 ds2 p2 q2).map (Value.int .i64)) _ (fun w' h => fs_range2 gen bl cu ck op ev lg s1 ds1 p1 q1 s2 ds2 p2 q2 sn HD.out.1 HD.out.2.1 (K3.out.1.below h K3.out.1.lt)) Tryz.underlying34 rfl (by rw [List.length_map, ← cellsI_size, HLen2.out]; exact info15)) hH ?_
    try simp only [Act.put, List.setIfInBounds_toArray, List.set_cons_zero, List.set_cons_succ]
    refine wpAnyH_ready (rs := [2]) (by kernel_rfl) (by simp) ?_
    refine AllReadyH.cons (o := _) rfl (fun K hK => ?_) AllReadyH.nil
    go_simp
    refine (pointers_any s1 ds1 p1 q1 _ HD.out.1).mono ?_
    rintro e w4 ⟨v4, rfl, o4, b4⟩
    obtain ⟨g4, k4, rfl, hg4, hl4, hc4⟩ := own_slice o4 (by omega)
    have B4 := hide (hH.trans (b4.mono hH.size))
    have O4 := hide o4
    refine hK.out _ _ B4.out (fun hH4 => ?_)
    clear hK K hH o4 b4 hc4
    try simp only [Act.put, List.setIfInBounds_toArray, List.set_cons_zero, List.set_cons_succ]
    refine wpAnyH_ready (rs := [5]) (by kernel_rfl) (by simp) ?_
    refine AllReadyH.cons (o := _) rfl (fun K hK => ?_) AllReadyH.nil
    go_simp
    refine (pointers_any s2 ds2 p2 q2 _ HD.out.2.1).mono ?_
    rintro e w5 ⟨v5, rfl, o5, b5⟩
    obtain ⟨g5, k5, rfl, hg5, hl5, hc5⟩ := own_slice o5 (by omega)
    have B5 := hide (B4.out.trans (b5.mono B4.out.size))
    have hge : w3.heap.size ≤ g4 := hg4
    have O5 := hide (And.intro (own_mono (own_below O4.out b5) (base' := w3.heap.size) (Nat.le_refl _)) hc5)
    refine hK.out _ _ B5.out (fun hH5 => ?_)
    clear hK K hH4 o5 b5 hc5 O4 B4 hg4
    try simp only [Act.put, List.setIfInBounds_toArray, List.set_cons_zero, List.set_cons_succ]
    refine wpAnyH_ready (rs := [6]) (by kernel_rfl) (by simp) ?_
    refine AllReadyH.cons (o := _) rfl (fun K hK => ?_) AllReadyH.nil
    rw [if_pos (by rfl)]
    refine wp_append_own _ (.tmp 78) (.tmp 81) 23 rfl w3.heap.size 3 i0 (.int .i64 0) 1 8 Tryz.underlying23 hi hz0 hz1 hz2 rfl (by decide) _ 14 _ rfl O5.out.1 ⟨g5, 0, none⟩ 14 k5 ((ds2 ++ [p2, q2]).map (Value.int .i64)) rfl (by simp [HD.out.2.1]) O5.out.2 (ints_oneCell _ _) (by unfold maxLen; omega) (by omega) B5.out.size ?_
    intro v6 w6 o6 g6 _
    have B6 := hide (B5.out.grown g6 B5.out.size (fun k e => by cases e; exact hge))
    obtain ⟨h6, k6, rfl, hh6, hl6, hc6⟩ := own_slice o6 (by omega)
    have O6 := hide o6
    refine hK.out _ _ B6.out (fun hH6 => ?_)
    clear hK K hH5 o6 g6 hc6 O5 B5
    try simp only [Act.put, List.setIfInBounds_toArray, List.set_cons_zero, List.set_cons_succ]
    refine wpAnyH_ready (rs := [7]) (by kernel_rfl) (by simp) ?_
    refine AllReadyH.cons (o := _) rfl (fun K hK => ?_) AllReadyH.nil
    go_simp
    refine hK.out _ _ hH6 (fun hH7 => ?_)
    clear hK K
    try simp only [Act.put, List.setIfInBounds_toArray, List.set_cons_zero, List.set_cons_succ]
    refine wpAnyH_done (by kernel_rfl) (NoPanic.normal ?_) _
    clear hH6 hH7
    have K6 := hide (And.intro (K3.out.1.below B6.out K3.out.1.lt) (K3.out.2.trans (B6.out.mono K3.out.2.size)))
    have hlt3 := K3.out.1.lt
    have HR := hide (show ∀ j u, (sn.map (Value.int .i64))[j]? = some u → w6.cell? ((⟨w.heap.size, 37, none⟩ : Addr).add j) = some u from fun j u hu => by rw [Addr.add_mid]; exact fs_range3 gen bl cu ck op ev lg s1 ds1 p1 q1 s2 ds2 p2 q2 sn HD.out.1 HD.out.2.1 HD.out.2.2 K6.out.1 j u hu)
    go_wp2_with (at_builtin; refine wpList_append_own _ rfl (.tmp 83) (.tmp 85) 23 rfl w3.heap.size 3 i0 (.int .i64 0) 1 8 Tryz.underlying23 hi hz0 hz1 hz2 rfl (by decide) _ 28 _ rfl O6.out ⟨w.heap.size, 37, none⟩ 31 31 (sn.map (Value.int .i64)) rfl (by rw [List.length_map, HD.out.2.2]) HR.out (ints_oneCell _ _) (by unfold maxLen; omega) (by omega) B6.out.size ?_; intro v7 w7 o7 g7 _; obtain ⟨h7, k7, rfl, hh7, hl7, hc7⟩ := own_slice o7 (by omega); clear hc7)
    have B7 := hide (B6.out.grown g7 B6.out.size (fun k e => by cases e; exact hh6))
    have K7 := hide (And.intro (K3.out.1.below B7.out K3.out.1.lt) (K3.out.2.trans (B7.out.mono K3.out.2.size)))
    have c1 := (K7.out.1.cell 1).trans (show (cellsI (fsI gen bl cu ck op ev lg s1 ds1 p1 q1 s2 ds2 p2 q2 sn))[1]? = some (.int .i64 bl) from rfl)
    have HA := hide (show rightF gen bl cu ck op ev lg s1 ds1 p1 q1 s2 ds2 p2 q2 sn = ((ds1 ++ [p1, q1] ++ (ds2 ++ [p2, q2]) ++ sn).all fun x => ptrB x bl) from by rw [HFF.out]; simp [ptrsB, snB, List.all_append, Bool.and_assoc])
    have HL := hide (show (ds1 ++ [p1, q1] ++ (ds2 ++ [p2, q2]) ++ sn).length = 59 from by simp [HD.out.1, HD.out.2.1, HD.out.2.2])
    have o8 : w7.ownsRow w3.heap.size 3 1 (.slice (some ⟨h7, 0, none⟩) 59 k7) 59 ((ds1 ++ [p1, q1] ++ (ds2 ++ [p2, q2]) ++ sn).map (Value.int .i64)) := by rw [List.map_append, List.map_append]; exact o7
    have hcell : ∀ j, j < 59 → w7.cell? ⟨h7, j, none⟩ = some (.int .i64 ((ds1 ++ [p1, q1] ++ (ds2 ++ [p2, q2]) ++ sn).getD j 0)) := own_cells o8 HL.out
    generalize ds1 ++ [p1, q1] ++ (ds2 ++ [p2, q2]) ++ sn = pts at hcell HA HL
    have HBL := hide hbl
    clear o7 o8 g7 HR O6 B6 K6 B7 HFF
    go_wp2
    go_loop [88] (fun i => ∃ k : Nat, k ≤ 59 ∧ i = .int .i64 k ∧ ((pts.take k).all fun x => ptrB x bl) = true) (fun i => 59 - (intOf i).toNat)
    case atStart => exact ⟨0, by omega, rfl, rfl⟩
    case round =>
      obtain ⟨k, hk, rfl, hall⟩ := hrel
      have HT := hide hall
      clear hall
      by_cases hlt : k < 59
      · have cz := hcell k hlt
        have HS := hide (all_take' (fun x => ptrB x bl) pts k (by rw [HL.out]; exact hlt))
        have HN := hide (all_bad (fun x => ptrB x bl) pts k (by rw [HL.out]; exact hlt))
        clear hcell
        generalize pts.getD k 0 = z at cz HS HN
        have HZ := hide (ptr_split z bl HBL.out.1 HBL.out.2)
        rcases Bool.eq_false_or_eq_true (ptrB z 2048) with e11 | e11
        rotate_left
        · have HQ := hide (show rightF gen bl cu ck op ev lg s1 ds1 p1 q1 s2 ds2 p2 q2 sn = false from by rw [HA.out]; exact HN.out (by rw [HZ.out, e11]; rfl))
          go_wp2_with (go_at_call 87; refine (pointer_any z _).mono ?_; rintro e w' ⟨rfl, rfl⟩; rw [e11])
          go_ret
          exact ⟨ret_bool HQ.out.symm, K7.out.2⟩
        by_cases hzb : z < bl
        · have HO := hide (show ptrB z bl = true from by rw [HZ.out, e11]; simp [hzb])
          go_wp2_with (go_at_call 87; refine (pointer_any z _).mono ?_; rintro e w' ⟨rfl, rfl⟩; rw [e11])
          go_round
          case rel => exact ⟨k + 1, by omega, by go_num, by rw [HS.out, HT.out, HO.out]; rfl⟩
          case measure => simp [intOf]; omega
        · have HQ := hide (show rightF gen bl cu ck op ev lg s1 ds1 p1 q1 s2 ds2 p2 q2 sn = false from by rw [HA.out]; exact HN.out (by rw [HZ.out]; simp [hzb]))
          go_wp2_with (go_at_call 87; refine (pointer_any z _).mono ?_; rintro e w' ⟨rfl, rfl⟩; rw [e11])
          go_ret
          exact ⟨ret_bool HQ.out.symm, K7.out.2⟩
      · have e59 : k = 59 := by omega
        subst e59
        have HQ := hide (show rightF gen bl cu ck op ev lg s1 ds1 p1 q1 s2 ds2 p2 q2 sn = true from by rw [HA.out]; have h := HT.out; rwa [List.take_of_length_le (by rw [HL.out]; omega)] at h)
        go_wp2
        go_ret
        exact ⟨ret_bool HQ.out.symm, K7.out.2⟩
  · have hlq : (lg != 0) = true := by simp [hl0]
    have HLQ := hide (show logB lg = wi lg 8192 65536 from by unfold logB wi; simp [hl0])
    clear hl0
    go_wp2_with (go_at_call 85; fail)
    refine (l02Within_any lg 8192 65536 _).mono ?_
    rintro e wx ⟨rfl, rfl⟩
    rcases Bool.eq_false_or_eq_true (wi lg 8192 65536) with e6 | e6
    rotate_left
    · have HQ := hide (show rightF gen bl cu ck op ev lg s1 ds1 p1 q1 s2 ds2 p2 q2 sn = false from by rw [HF.out]; rw [HLQ.out, e6]; simp)
      rw [e6]
      go_wp2
      go_ret
      exact ⟨ret_bool HQ.out.symm, K0.out.2⟩
    rw [e6]
    have E6 := hide (HLQ.out.trans e6)
    have HRG := hide (fs_range1 gen bl cu ck op ev lg s1 ds1 p1 q1 s2 ds2 p2 q2 sn HD.out.1 K0.out.1)
    go_wp2_with (first | (refine wpList_load_midG (by first | rfl | simp [Region.wanted, yielded]) 34 _ rfl w.heap.size 7 rfl ((rootI s1 ds1 p1 q1).map (Value.int .i64)) _ HRG.out Tryz.underlying34 rfl (by rw [List.length_map, ← cellsI_size, HLen1.out]; exact info15) ?_) | (go_at_call 57; fail))
    refine (l02Root_any s1 ds1 p1 q1 _ HD.out.1).mono ?_
    rintro e w2 ⟨rfl, b⟩
    have K2 := hide (And.intro (K0.out.1.below b K0.out.1.lt) (K0.out.2.trans (b.mono K0.out.2.size)))
    clear b HRG c0 c1 c2 c3 c4 c5 c6
    rcases Bool.eq_false_or_eq_true (rightR s1 ds1 p1 q1) with e7 | e7
    rotate_left
    · have HQ := hide (show rightF gen bl cu ck op ev lg s1 ds1 p1 q1 s2 ds2 p2 q2 sn = false from by rw [HF.out]; simp [e7])
      rw [e7]
      go_wp2
      go_ret
      exact ⟨ret_bool HQ.out.symm, K2.out.2⟩
    rw [e7]
    have HRG := hide (fs_range2 gen bl cu ck op ev lg s1 ds1 p1 q1 s2 ds2 p2 q2 sn HD.out.1 HD.out.2.1 K2.out.1)
    go_wp2_with (first | (refine wpList_load_midG (by first | rfl | simp [Region.wanted, yielded]) 34 _ rfl w.heap.size 22 rfl ((rootI s2 ds2 p2 q2).map (Value.int .i64)) _ HRG.out Tryz.underlying34 rfl (by rw [List.length_map, ← cellsI_size, HLen2.out]; exact info15) ?_) | (go_at_call 57; fail))
    refine (l02Root_any s2 ds2 p2 q2 _ HD.out.2.1).mono ?_
    rintro e w3 ⟨rfl, b⟩
    have K3 := hide (And.intro (K2.out.1.below b K2.out.1.lt) (K2.out.2.trans (b.mono K2.out.2.size)))
    clear b HRG
    rcases Bool.eq_false_or_eq_true (rightR s2 ds2 p2 q2) with e8 | e8
    rotate_left
    · have HQ := hide (show rightF gen bl cu ck op ev lg s1 ds1 p1 q1 s2 ds2 p2 q2 sn = false from by rw [HF.out]; simp [e8])
      rw [e8]
      go_wp2
      go_ret
      exact ⟨ret_bool HQ.out.symm, K3.out.2⟩
    rw [e8]
    have c22 := (K3.out.1.cell 22).trans (fs_map0 gen bl cu ck op ev lg s1 ds1 p1 q1 s2 ds2 p2 q2 sn HD.out.1)
    have c1 := (K3.out.1.cell 1).trans (show (cellsI (fsI gen bl cu ck op ev lg s1 ds1 p1 q1 s2 ds2 p2 q2 sn))[1]? = some (.int .i64 bl) from rfl)
    have c7 := (K3.out.1.cell 7).trans (show (cellsI (fsI gen bl cu ck op ev lg s1 ds1 p1 q1 s2 ds2 p2 q2 sn))[7]? = some (.int .i64 s1) from rfl)
    rcases Bool.eq_false_or_eq_true (mapB s2 bl) with e9 | e9
    rotate_left
    · have HQ := hide (show rightF gen bl cu ck op ev lg s1 ds1 p1 q1 s2 ds2 p2 q2 sn = false from by rw [HF.out]; simp [e9])
      have hmq : (s2 != 4 * bl) = true := by unfold mapB at e9; simpa using e9
      clear e9
      go_wp2
      go_ret
      exact ⟨ret_bool HQ.out.symm, K3.out.2⟩
    have hmq : (s2 != 4 * bl) = false := by unfold mapB at e9; simpa using e9
    go_wp2_with (go_at_call 86; fail)
    refine (tableSize_any s1 _).mono ?_
    rintro e wx ⟨rfl, rfl⟩
    rcases Bool.eq_false_or_eq_true (tabB s1) with e10 | e10
    rotate_left
    · have HQ := hide (show rightF gen bl cu ck op ev lg s1 ds1 p1 q1 s2 ds2 p2 q2 sn = false from by rw [HF.out]; simp [e10])
      rw [e10]
      go_wp2
      go_ret
      exact ⟨ret_bool HQ.out.symm, K3.out.2⟩
    rw [e10]
    have HFF := hide (show rightF gen bl cu ck op ev lg s1 ds1 p1 q1 s2 ds2 p2 q2 sn = (ptrsB ds1 p1 q1 bl && ptrsB ds2 p2 q2 bl && snB sn bl) from by rw [HF.out, e0, e1, e2, e3, ← cu_eq, e4, e5, E6.out, e7, e8, e9, e10]; simp)
    clear c22 c1 c7 hmq e9 HF K2
    go_wp2_with (first | (refine wpList_load_midG (by first | rfl | simp [Region.wanted, yielded]) 34 _ rfl w.heap.size 7 rfl ((rootI s1 ds1 p1 q1).map (Value.int .i64)) _ (fs_range1 gen bl cu ck op ev lg s1 ds1 p1 q1 s2 ds2 p2 q2 sn HD.out.1 K3.out.1) Tryz.underlying34 rfl (by rw [List.length_map, ← cellsI_size, HLen1.out]; exact info15) ?_) | (go_at_call 58; fail))
    refine wp_region_noPanic ?_
    refine wp_region_held_drew (S := fun w' => Below w3.heap.size w3 w') (by kernel_rfl) ((Below.refl _ _).drew) (fun hH => ?_)
    refine wpAnyH_take (i := 0) (oi := _) (v := .pointer (some ⟨w.heap.size, 7, none⟩)) rfl (by kernel_rfl) (by kernel_rfl) (by kernel_rfl) (fun _ _ _ h => h) (Or.inl ⟨by rfl, fun w' hw' => by go_simp⟩) hH ?_
    try simp only [Act.put, List.setIfInBounds_toArray, List.set_cons_zero, List.set_cons_succ]
    refine wpAnyH_take (i := 1) (oi := _) (v := .agg (cellsI (rootI s1 ds1 p1 q1))) rfl (by kernel_rfl) (by kernel_rfl) (by kernel_rfl) (fun _ _ _ h => h) (yieldsIf_load_mid (by rfl) 34 _ rfl w.heap.size 7 rfl ((rootI s1 ds1 p1 q1).map (Value.int .i64)) _ (fun w' h => fs_range1 gen bl cu ck op ev lg s1 ds1 p1 q1 s2 ds2 p2 q2 sn HD.out.1 (K3.out.1.below h K3.out.1.lt)) Tryz.underlying34 rfl (by rw [List.length_map, ← cellsI_size, HLen1.out]; exact info15)) hH ?_
    try simp only [Act.put, List.setIfInBounds_toArray, List.set_cons_zero, List.set_cons_succ]
    refine wpAnyH_take (i := 3) (oi := _) (v := .pointer (some ⟨w.heap.size, 22, none⟩)) rfl (by kernel_rfl) (by kernel_rfl) (by kernel_rfl) (fun _ _ _ h => h) (Or.inl ⟨by rfl, fun w' hw' => by go_simp⟩) hH ?_
    try simp only [Act.put, List.setIfInBounds_toArray, List.set_cons_zero, List.set_cons_succ]
    refine wpAnyH_take (i := 4) (oi := _) (v := .agg (cellsI (rootI s2 ds2 p2 q2))) rfl (by kernel_rfl) (by kernel_rfl) (by kernel_rfl) (fun _ _ _ h => h) (yieldsIf_load_mid (by rfl) 34 _ rfl w.heap.size 22 rfl ((rootI s2 ds2 p2 q2).map (Value.int .i64)) _ (fun w' h => fs_range2 gen bl cu ck op ev lg s1 ds1 p1 q1 s2 ds2 p2 q2 sn HD.out.1 HD.out.2.1 (K3.out.1.below h K3.out.1.lt)) Tryz.underlying34 rfl (by rw [List.length_map, ← cellsI_size, HLen2.out]; exact info15)) hH ?_
    try simp only [Act.put, List.setIfInBounds_toArray, List.set_cons_zero, List.set_cons_succ]
    refine wpAnyH_ready (rs := [2]) (by kernel_rfl) (by simp) ?_
    refine AllReadyH.cons (o := _) rfl (fun K hK => ?_) AllReadyH.nil
    go_simp
    refine (pointers_any s1 ds1 p1 q1 _ HD.out.1).mono ?_
    rintro e w4 ⟨v4, rfl, o4, b4⟩
    obtain ⟨g4, k4, rfl, hg4, hl4, hc4⟩ := own_slice o4 (by omega)
    have B4 := hide (hH.trans (b4.mono hH.size))
    have O4 := hide o4
    refine hK.out _ _ B4.out (fun hH4 => ?_)
    clear hK K hH o4 b4 hc4
    try simp only [Act.put, List.setIfInBounds_toArray, List.set_cons_zero, List.set_cons_succ]
    refine wpAnyH_ready (rs := [5]) (by kernel_rfl) (by simp) ?_
    refine AllReadyH.cons (o := _) rfl (fun K hK => ?_) AllReadyH.nil
    go_simp
    refine (pointers_any s2 ds2 p2 q2 _ HD.out.2.1).mono ?_
    rintro e w5 ⟨v5, rfl, o5, b5⟩
    obtain ⟨g5, k5, rfl, hg5, hl5, hc5⟩ := own_slice o5 (by omega)
    have B5 := hide (B4.out.trans (b5.mono B4.out.size))
    have hge : w3.heap.size ≤ g4 := hg4
    have O5 := hide (And.intro (own_mono (own_below O4.out b5) (base' := w3.heap.size) (Nat.le_refl _)) hc5)
    refine hK.out _ _ B5.out (fun hH5 => ?_)
    clear hK K hH4 o5 b5 hc5 O4 B4 hg4
    try simp only [Act.put, List.setIfInBounds_toArray, List.set_cons_zero, List.set_cons_succ]
    refine wpAnyH_ready (rs := [6]) (by kernel_rfl) (by simp) ?_
    refine AllReadyH.cons (o := _) rfl (fun K hK => ?_) AllReadyH.nil
    rw [if_pos (by rfl)]
    refine wp_append_own _ (.tmp 78) (.tmp 81) 23 rfl w3.heap.size 3 i0 (.int .i64 0) 1 8 Tryz.underlying23 hi hz0 hz1 hz2 rfl (by decide) _ 14 _ rfl O5.out.1 ⟨g5, 0, none⟩ 14 k5 ((ds2 ++ [p2, q2]).map (Value.int .i64)) rfl (by simp [HD.out.2.1]) O5.out.2 (ints_oneCell _ _) (by unfold maxLen; omega) (by omega) B5.out.size ?_
    intro v6 w6 o6 g6 _
    have B6 := hide (B5.out.grown g6 B5.out.size (fun k e => by cases e; exact hge))
    obtain ⟨h6, k6, rfl, hh6, hl6, hc6⟩ := own_slice o6 (by omega)
    have O6 := hide o6
    refine hK.out _ _ B6.out (fun hH6 => ?_)
    clear hK K hH5 o6 g6 hc6 O5 B5
    try simp only [Act.put, List.setIfInBounds_toArray, List.set_cons_zero, List.set_cons_succ]
    refine wpAnyH_ready (rs := [7]) (by kernel_rfl) (by simp) ?_
    refine AllReadyH.cons (o := _) rfl (fun K hK => ?_) AllReadyH.nil
    go_simp
    refine hK.out _ _ hH6 (fun hH7 => ?_)
    clear hK K
    try simp only [Act.put, List.setIfInBounds_toArray, List.set_cons_zero, List.set_cons_succ]
    refine wpAnyH_done (by kernel_rfl) (NoPanic.normal ?_) _
    clear hH6 hH7
    have K6 := hide (And.intro (K3.out.1.below B6.out K3.out.1.lt) (K3.out.2.trans (B6.out.mono K3.out.2.size)))
    have hlt3 := K3.out.1.lt
    have HR := hide (show ∀ j u, (sn.map (Value.int .i64))[j]? = some u → w6.cell? ((⟨w.heap.size, 37, none⟩ : Addr).add j) = some u from fun j u hu => by rw [Addr.add_mid]; exact fs_range3 gen bl cu ck op ev lg s1 ds1 p1 q1 s2 ds2 p2 q2 sn HD.out.1 HD.out.2.1 HD.out.2.2 K6.out.1 j u hu)
    go_wp2_with (at_builtin; refine wpList_append_own _ rfl (.tmp 83) (.tmp 85) 23 rfl w3.heap.size 3 i0 (.int .i64 0) 1 8 Tryz.underlying23 hi hz0 hz1 hz2 rfl (by decide) _ 28 _ rfl O6.out ⟨w.heap.size, 37, none⟩ 31 31 (sn.map (Value.int .i64)) rfl (by rw [List.length_map, HD.out.2.2]) HR.out (ints_oneCell _ _) (by unfold maxLen; omega) (by omega) B6.out.size ?_; intro v7 w7 o7 g7 _; obtain ⟨h7, k7, rfl, hh7, hl7, hc7⟩ := own_slice o7 (by omega); clear hc7)
    have B7 := hide (B6.out.grown g7 B6.out.size (fun k e => by cases e; exact hh6))
    have K7 := hide (And.intro (K3.out.1.below B7.out K3.out.1.lt) (K3.out.2.trans (B7.out.mono K3.out.2.size)))
    have c1 := (K7.out.1.cell 1).trans (show (cellsI (fsI gen bl cu ck op ev lg s1 ds1 p1 q1 s2 ds2 p2 q2 sn))[1]? = some (.int .i64 bl) from rfl)
    have HA := hide (show rightF gen bl cu ck op ev lg s1 ds1 p1 q1 s2 ds2 p2 q2 sn = ((ds1 ++ [p1, q1] ++ (ds2 ++ [p2, q2]) ++ sn).all fun x => ptrB x bl) from by rw [HFF.out]; simp [ptrsB, snB, List.all_append, Bool.and_assoc])
    have HL := hide (show (ds1 ++ [p1, q1] ++ (ds2 ++ [p2, q2]) ++ sn).length = 59 from by simp [HD.out.1, HD.out.2.1, HD.out.2.2])
    have o8 : w7.ownsRow w3.heap.size 3 1 (.slice (some ⟨h7, 0, none⟩) 59 k7) 59 ((ds1 ++ [p1, q1] ++ (ds2 ++ [p2, q2]) ++ sn).map (Value.int .i64)) := by rw [List.map_append, List.map_append]; exact o7
    have hcell : ∀ j, j < 59 → w7.cell? ⟨h7, j, none⟩ = some (.int .i64 ((ds1 ++ [p1, q1] ++ (ds2 ++ [p2, q2]) ++ sn).getD j 0)) := own_cells o8 HL.out
    generalize ds1 ++ [p1, q1] ++ (ds2 ++ [p2, q2]) ++ sn = pts at hcell HA HL
    have HBL := hide hbl
    clear o7 o8 g7 HR O6 B6 K6 B7 HFF
    go_wp2
    go_loop [88] (fun i => ∃ k : Nat, k ≤ 59 ∧ i = .int .i64 k ∧ ((pts.take k).all fun x => ptrB x bl) = true) (fun i => 59 - (intOf i).toNat)
    case atStart => exact ⟨0, by omega, rfl, rfl⟩
    case round =>
      obtain ⟨k, hk, rfl, hall⟩ := hrel
      have HT := hide hall
      clear hall
      by_cases hlt : k < 59
      · have cz := hcell k hlt
        have HS := hide (all_take' (fun x => ptrB x bl) pts k (by rw [HL.out]; exact hlt))
        have HN := hide (all_bad (fun x => ptrB x bl) pts k (by rw [HL.out]; exact hlt))
        clear hcell
        generalize pts.getD k 0 = z at cz HS HN
        have HZ := hide (ptr_split z bl HBL.out.1 HBL.out.2)
        rcases Bool.eq_false_or_eq_true (ptrB z 2048) with e11 | e11
        rotate_left
        · have HQ := hide (show rightF gen bl cu ck op ev lg s1 ds1 p1 q1 s2 ds2 p2 q2 sn = false from by rw [HA.out]; exact HN.out (by rw [HZ.out, e11]; rfl))
          go_wp2_with (go_at_call 87; refine (pointer_any z _).mono ?_; rintro e w' ⟨rfl, rfl⟩; rw [e11])
          go_ret
          exact ⟨ret_bool HQ.out.symm, K7.out.2⟩
        by_cases hzb : z < bl
        · have HO := hide (show ptrB z bl = true from by rw [HZ.out, e11]; simp [hzb])
          go_wp2_with (go_at_call 87; refine (pointer_any z _).mono ?_; rintro e w' ⟨rfl, rfl⟩; rw [e11])
          go_round
          case rel => exact ⟨k + 1, by omega, by go_num, by rw [HS.out, HT.out, HO.out]; rfl⟩
          case measure => simp [intOf]; omega
        · have HQ := hide (show rightF gen bl cu ck op ev lg s1 ds1 p1 q1 s2 ds2 p2 q2 sn = false from by rw [HA.out]; exact HN.out (by rw [HZ.out]; simp [hzb]))
          go_wp2_with (go_at_call 87; refine (pointer_any z _).mono ?_; rintro e w' ⟨rfl, rfl⟩; rw [e11])
          go_ret
          exact ⟨ret_bool HQ.out.symm, K7.out.2⟩
      · have e59 : k = 59 := by omega
        subst e59
        have HQ := hide (show rightF gen bl cu ck op ev lg s1 ds1 p1 q1 s2 ds2 p2 q2 sn = true from by rw [HA.out]; have h := HT.out; rwa [List.take_of_length_le (by rw [HL.out]; omega)] at h)
        go_wp2
        go_ret
        exact ⟨ret_bool HQ.out.symm, K7.out.2⟩
end Go.Proofs.YtkbbnflblkkepaaGreatDoor

namespace Go.Proofs.YtkbbnflblkkepaaGreatDoor
set_option linter.unusedVariables false
set_option linter.unusedSimpArgs false
open Go.RowKit

end Go.Proofs.YtkbbnflblkkepaaGreatDoor
