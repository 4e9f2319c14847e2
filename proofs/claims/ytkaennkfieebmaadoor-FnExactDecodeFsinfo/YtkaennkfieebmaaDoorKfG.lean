/- The model's look at a root record: l02Fsinfo. EncodeSnap of the model: refusals. A region that draws its order, by what each operation's value is to be: one step an operation, whatever the order. EncodeSnap of the model: the bytes. EncodeFsinfo of the model. A region that draws its order, by what each operation's value is to be; what is held may name the frame and which operations came. -/
import Derived.Test.YtkaennkfieebmaaDoorKfE
import Derived.Test.YtkaennkfieebmaaDoorInoB
import Derived.Deep.RegionHeld3
import Derived.Test.YtkaennkfieebmaaDoorKfD
import Derived.Test.YtkaennkfieebmaaDoorBase
import Derived.Orders
import Derived.Test.YtkaennkfieebmaaDoorFrzA
import Derived.Test.YtkaennkfieebmaaDoorKfC
import Derived.Lib.ConvBytes
import Derived.Lib.SmallJoins
namespace Go.Proofs.YtkaennkfieebmaaDoor
set_option linter.unusedVariables false
set_option linter.unusedSimpArgs false
open Go.RowKit

theorem cu_eq (cu bl : Int) : wi cu 2 (bl - 1) = (decide (2 ≤ cu) && decide (cu < bl)) := by
  unfold wi
  rw [show decide (cu ≤ bl - 1) = decide (cu < bl) from by rw [decide_eq_decide]; omega]
theorem own_slice {w : World} {base : Nat} {e : TypeId} {size : Nat} {v : Value} {n : Nat} {xs : List Value} (h : w.ownsRow base e size v n xs) (hn : 0 < n) : ∃ g cap, v = .slice (some ⟨g, 0, none⟩) n cap ∧ base ≤ g ∧ g < w.heap.size ∧ ∀ j u, xs[j]? = some u → w.cell? ((⟨g, 0, none⟩ : Addr).add j) = some u := by
  rcases h.2 with ⟨_, h0⟩ | ⟨g, cap, cur, rfl, hb, hg, _⟩
  · omega
  · exact ⟨g, cap, rfl, hb, (h.lt g rfl).2, h.cells rfl⟩
theorem own_cells {w : World} {base : Nat} {e : TypeId} {g n cap : Nat} {zs : List Int} (h : w.ownsRow base e 1 (.slice (some ⟨g, 0, none⟩) n cap) n (zs.map (Value.int .i64))) (hl : zs.length = n) : ∀ j, j < n → w.cell? ⟨g, j, none⟩ = some (.int .i64 (zs.getD j 0)) := by
  intro j hj
  have := h.cells rfl j (.int .i64 (zs.getD j 0)) (by rw [List.getElem?_map, List.getD, List.getElem?_eq_getElem (by omega)]; rfl)
  rwa [Addr.add_mid, Nat.zero_add] at this
theorem all_bad (f : Int → Bool) (ds : List Int) (k : Nat) (h : k < ds.length) (hf : f (ds.getD k 0) = false) : ds.all f = false := by
  rw [List.all_eq_false]
  refine ⟨ds[k], List.getElem_mem h, ?_⟩
  rw [List.getD, List.getElem?_eq_getElem h, Option.getD_some] at hf
  simp [hf]
theorem ptr_split (z bl : Int) (h0 : 64 ≤ bl) (h1 : bl ≤ 2048) : ptrB z bl = (ptrB z 2048 && decide (z < bl)) := by
  unfold ptrB
  rw [Bool.eq_iff_iff]
  simp
  omega
set_option maxRecDepth 100000 in
set_option maxHeartbeats 2000000 in
theorem l02Fs_any (gen bl cu ck op ev lg s1 : Int) (ds1 : List Int) (p1 q1 s2 : Int) (ds2 : List Int) (p2 q2 : Int) (sn : List Int) (w : World) (hd1 : ds1.length = 12) (hd2 : ds2.length = 12) (hsn : sn.length = 31) :
    Calls Tryd.prog 50 #[.agg (cellsI (fsI gen bl cu ck op ev lg s1 ds1 p1 q1 s2 ds2 p2 q2 sn))] w fun e w' => e = .returned (.bool (rightF gen bl cu ck op ev lg s1 ds1 p1 q1 s2 ds2 p2 q2 sn)) ∧ Below w.heap.size w w' := by
  obtain ⟨i0, hi, hz0, hz1, hz2⟩ := info_parts infoI64
  have HD := hide (And.intro hd1 (And.intro hd2 hsn))
  have HLen1 := hide (show (cellsI (rootI s1 ds1 p1 q1)).size = 15 from by rw [cellsI_size]; exact rootI_len _ _ _ _ HD.out.1)
  have HLen2 := hide (show (cellsI (rootI s2 ds2 p2 q2)).size = 15 from by rw [cellsI_size]; exact rootI_len _ _ _ _ HD.out.2.1)
  have HF := hide (show rightF gen bl cu ck op ev lg s1 ds1 p1 q1 s2 ds2 p2 q2 sn = (wi gen 1 1099511627776 && wi ck 1 1099511627776 && wi op 0 1099511627776 && wi bl 64 2048 && (decide (2 ≤ cu) && decide (cu < bl)) && wi ev 0 1000 && logB lg && (rightR s1 ds1 p1 q1 && tabB s1) && ptrsB ds1 p1 q1 bl && rightR s2 ds2 p2 q2 && ptrsB ds2 p2 q2 bl && mapB s2 bl && snB sn bl) from rfl)
  have K0 := hide (And.intro (Blk.new w (cellsI (fsI gen bl cu ck op ev lg s1 ds1 p1 q1 s2 ds2 p2 q2 sn)) 36) (show Below w.heap.size w (w.alloc (.cells (cellsI (fsI gen bl cu ck op ev lg s1 ds1 p1 q1 s2 ds2 p2 q2 sn)) 36)) from (Below.refl _ _).alloc (Nat.le_refl _) _))
  have c0 : (w.alloc (.cells (cellsI (fsI gen bl cu ck op ev lg s1 ds1 p1 q1 s2 ds2 p2 q2 sn)) 36)).cell? ⟨w.heap.size, 0, none⟩ = some (.int .i64 gen) := by rw [(Blk.new w _ _).cell 0]; rfl
  have c1 : (w.alloc (.cells (cellsI (fsI gen bl cu ck op ev lg s1 ds1 p1 q1 s2 ds2 p2 q2 sn)) 36)).cell? ⟨w.heap.size, 1, none⟩ = some (.int .i64 bl) := by rw [(Blk.new w _ _).cell 1]; rfl
  have c2 : (w.alloc (.cells (cellsI (fsI gen bl cu ck op ev lg s1 ds1 p1 q1 s2 ds2 p2 q2 sn)) 36)).cell? ⟨w.heap.size, 2, none⟩ = some (.int .i64 cu) := by rw [(Blk.new w _ _).cell 2]; rfl
  have c3 : (w.alloc (.cells (cellsI (fsI gen bl cu ck op ev lg s1 ds1 p1 q1 s2 ds2 p2 q2 sn)) 36)).cell? ⟨w.heap.size, 3, none⟩ = some (.int .i64 ck) := by rw [(Blk.new w _ _).cell 3]; rfl
  have c4 : (w.alloc (.cells (cellsI (fsI gen bl cu ck op ev lg s1 ds1 p1 q1 s2 ds2 p2 q2 sn)) 36)).cell? ⟨w.heap.size, 4, none⟩ = some (.int .i64 op) := by rw [(Blk.new w _ _).cell 4]; rfl
  have c5 : (w.alloc (.cells (cellsI (fsI gen bl cu ck op ev lg s1 ds1 p1 q1 s2 ds2 p2 q2 sn)) 36)).cell? ⟨w.heap.size, 5, none⟩ = some (.int .i64 ev) := by rw [(Blk.new w _ _).cell 5]; rfl
  have c6 : (w.alloc (.cells (cellsI (fsI gen bl cu ck op ev lg s1 ds1 p1 q1 s2 ds2 p2 q2 sn)) 36)).cell? ⟨w.heap.size, 6, none⟩ = some (.int .i64 lg) := by rw [(Blk.new w _ _).cell 6]; rfl
  clear hd1 hd2 hsn
  go_enter Tryd.func50, Tryd.ntmps50
  go_wp2_with (go_at_call 28; fail)
  refine (l02Within_any gen 1 1099511627776 _).mono ?_
  rintro e wx ⟨rfl, rfl⟩
  rcases Bool.eq_false_or_eq_true (wi gen 1 1099511627776) with e0 | e0
  rotate_left
  · have HQ := hide (show rightF gen bl cu ck op ev lg s1 ds1 p1 q1 s2 ds2 p2 q2 sn = false from by rw [HF.out]; simp [e0])
    rw [e0]
    go_wp2
    go_ret
    exact ⟨ret_bool HQ.out.symm, K0.out.2⟩
  rw [e0]
  go_wp2_with (go_at_call 28; fail)
  refine (l02Within_any ck 1 1099511627776 _).mono ?_
  rintro e wx ⟨rfl, rfl⟩
  rcases Bool.eq_false_or_eq_true (wi ck 1 1099511627776) with e1 | e1
  rotate_left
  · have HQ := hide (show rightF gen bl cu ck op ev lg s1 ds1 p1 q1 s2 ds2 p2 q2 sn = false from by rw [HF.out]; simp [e1])
    rw [e1]
    go_wp2
    go_ret
    exact ⟨ret_bool HQ.out.symm, K0.out.2⟩
  rw [e1]
  go_wp2_with (go_at_call 28; fail)
  refine (l02Within_any op 0 1099511627776 _).mono ?_
  rintro e wx ⟨rfl, rfl⟩
  rcases Bool.eq_false_or_eq_true (wi op 0 1099511627776) with e2 | e2
  rotate_left
  · have HQ := hide (show rightF gen bl cu ck op ev lg s1 ds1 p1 q1 s2 ds2 p2 q2 sn = false from by rw [HF.out]; simp [e2])
    rw [e2]
    go_wp2
    go_ret
    exact ⟨ret_bool HQ.out.symm, K0.out.2⟩
  rw [e2]
  go_wp2_with (go_at_call 28; fail)
  refine (l02Within_any bl 64 2048 _).mono ?_
  rintro e wx ⟨rfl, rfl⟩
  rcases Bool.eq_false_or_eq_true (wi bl 64 2048) with e3 | e3
  rotate_left
  · have HQ := hide (show rightF gen bl cu ck op ev lg s1 ds1 p1 q1 s2 ds2 p2 q2 sn = false from by rw [HF.out]; simp [e3])
    rw [e3]
    go_wp2
    go_ret
    exact ⟨ret_bool HQ.out.symm, K0.out.2⟩
  rw [e3]
  have hbl := wi_true e3
  go_wp2_with (go_at_call 28; fail)
  refine (l02Within_any cu 2 (bl - 1) _).mono ?_
  rintro e wx ⟨rfl, rfl⟩
  rcases Bool.eq_false_or_eq_true (wi cu 2 (bl - 1)) with e4 | e4
  rotate_left
  · have HQ := hide (show rightF gen bl cu ck op ev lg s1 ds1 p1 q1 s2 ds2 p2 q2 sn = false from by rw [HF.out]; simp [← cu_eq, e4])
    rw [e4]
    go_wp2
    go_ret
    exact ⟨ret_bool HQ.out.symm, K0.out.2⟩
  rw [e4]
  go_wp2_with (go_at_call 28; fail)
  refine (l02Within_any ev 0 1000 _).mono ?_
  rintro e wx ⟨rfl, rfl⟩
  rcases Bool.eq_false_or_eq_true (wi ev 0 1000) with e5 | e5
  rotate_left
  · have HQ := hide (show rightF gen bl cu ck op ev lg s1 ds1 p1 q1 s2 ds2 p2 q2 sn = false from by rw [HF.out]; simp [e5])
    rw [e5]
    go_wp2
    go_ret
    exact ⟨ret_bool HQ.out.symm, K0.out.2⟩
  rw [e5]
  by_cases hl0 : lg = 0
  · have hlq : (lg != 0) = false := by simp [hl0]
    have E6 := hide (show logB lg = true from by unfold logB; simp [hl0])
    clear hl0
    have HRG := hide (fs_range1 gen bl cu ck op ev lg s1 ds1 p1 q1 s2 ds2 p2 q2 sn HD.out.1 K0.out.1)
    go_wp2_with (first | (refine wpList_load_midG (by first | rfl | simp [Region.wanted, yielded]) 25 _ rfl w.heap.size 7 rfl ((rootI s1 ds1 p1 q1).map (Value.int .i64)) _ HRG.out Tryd.underlying25 rfl (by rw [List.length_map, ← cellsI_size, HLen1.out]; exact info15) ?_) | (go_at_call 30; fail))
    refine (l02Root_any s1 ds1 p1 q1 _ HD.out.1).mono ?_
    rintro e w2 ⟨rfl, b⟩
    have K2 := hide (And.intro (K0.out.1.below b K0.out.1.lt) (K0.out.2.trans (b.mono K0.out.2.size)))
    clear b HRG c0 c1 c2 c3 c4 c5 c6
    rcases Bool.eq_false_or_eq_true (rightR s1 ds1 p1 q1) with e7 | e7
    rotate_left
    · have HQ := hide (show rightF gen bl cu ck op ev lg s1 ds1 p1 q1 s2 ds2 p2 q2 sn = false from by rw [HF.out]; simp [e7])
      rw [e7]
      go_wp2
      go_ret
      exact ⟨ret_bool HQ.out.symm, K2.out.2⟩
    rw [e7]
    have HRG := hide (fs_range2 gen bl cu ck op ev lg s1 ds1 p1 q1 s2 ds2 p2 q2 sn HD.out.1 HD.out.2.1 K2.out.1)
    go_wp2_with (first | (refine wpList_load_midG (by first | rfl | simp [Region.wanted, yielded]) 25 _ rfl w.heap.size 22 rfl ((rootI s2 ds2 p2 q2).map (Value.int .i64)) _ HRG.out Tryd.underlying25 rfl (by rw [List.length_map, ← cellsI_size, HLen2.out]; exact info15) ?_) | (go_at_call 30; fail))
    refine (l02Root_any s2 ds2 p2 q2 _ HD.out.2.1).mono ?_
    rintro e w3 ⟨rfl, b⟩
    have K3 := hide (And.intro (K2.out.1.below b K2.out.1.lt) (K2.out.2.trans (b.mono K2.out.2.size)))
    clear b HRG
    rcases Bool.eq_false_or_eq_true (rightR s2 ds2 p2 q2) with e8 | e8
    rotate_left
    · have HQ := hide (show rightF gen bl cu ck op ev lg s1 ds1 p1 q1 s2 ds2 p2 q2 sn = false from by rw [HF.out]; simp [e8])
      rw [e8]
      go_wp2
      go_ret
      exact ⟨ret_bool HQ.out.symm, K3.out.2⟩
    rw [e8]
    have c22 := (K3.out.1.cell 22).trans (fs_map0 gen bl cu ck op ev lg s1 ds1 p1 q1 s2 ds2 p2 q2 sn HD.out.1)
    have c1 := (K3.out.1.cell 1).trans (show (cellsI (fsI gen bl cu ck op ev lg s1 ds1 p1 q1 s2 ds2 p2 q2 sn))[1]? = some (.int .i64 bl) from rfl)
    have c7 := (K3.out.1.cell 7).trans (show (cellsI (fsI gen bl cu ck op ev lg s1 ds1 p1 q1 s2 ds2 p2 q2 sn))[7]? = some (.int .i64 s1) from rfl)
    rcases Bool.eq_false_or_eq_true (mapB s2 bl) with e9 | e9
    rotate_left
    · have HQ := hide (show rightF gen bl cu ck op ev lg s1 ds1 p1 q1 s2 ds2 p2 q2 sn = false from by rw [HF.out]; simp [e9])
      have hmq : (s2 != 4 * bl) = true := by unfold mapB at e9; simpa using e9
      clear e9
      go_wp2
      go_ret
      exact ⟨ret_bool HQ.out.symm, K3.out.2⟩
    have hmq : (s2 != 4 * bl) = false := by unfold mapB at e9; simpa using e9
    go_wp2_with (go_at_call 31; fail)
    refine (tableSize_any s1 _).mono ?_
    rintro e wx ⟨rfl, rfl⟩
    rcases Bool.eq_false_or_eq_true (tabB s1) with e10 | e10
    rotate_left
    · have HQ := hide (show rightF gen bl cu ck op ev lg s1 ds1 p1 q1 s2 ds2 p2 q2 sn = false from by rw [HF.out]; simp [e10])
      rw [e10]
      go_wp2
      go_ret
      exact ⟨ret_bool HQ.out.symm, K3.out.2⟩
    rw [e10]
    have HFF := hide (show rightF gen bl cu ck op ev lg s1 ds1 p1 q1 s2 ds2 p2 q2 sn = (ptrsB ds1 p1 q1 bl && ptrsB ds2 p2 q2 bl && snB sn bl) from by rw [HF.out, e0, e1, e2, e3, ← cu_eq, e4, e5, E6.out, e7, e8, e9, e10]; simp)
    clear c22 c1 c7 hmq e9 HF K2
    go_wp2_with (first | (refine wpList_load_midG (by first | rfl | simp [Region.wanted, yielded]) 25 _ rfl w.heap.size 7 rfl ((rootI s1 ds1 p1 q1).map (Value.int .i64)) _ (fs_range1 gen bl cu ck op ev lg s1 ds1 p1 q1 s2 ds2 p2 q2 sn HD.out.1 K3.out.1) Tryd.underlying25 rfl (by rw [List.length_map, ← cellsI_size, HLen1.out]; exact info15) ?_) | (go_at_call 57; fail))
    refine wp_region_noPanic ?_
    refine wp_region_held_drew (S := fun w' => Below w3.heap.size w3 w') (by kernel_rfl) ((Below.refl _ _).drew) (fun hH => ?_)
    refine wpAnyH_take (i := 0) (oi := _) (v := .pointer (some ⟨w.heap.size, 7, none⟩)) rfl (by kernel_rfl) (by kernel_rfl) (by kernel_rfl) (fun _ _ _ h => h) (Or.inl ⟨by rfl, fun w' hw' => by go_simp⟩) hH ?_
    try simp only [Act.put, List.setIfInBounds_toArray, List.set_cons_zero, List.set_cons_succ]
    refine wpAnyH_take (i := 1) (oi := _) (v := .agg (cellsI (rootI s1 ds1 p1 q1))) rfl (by kernel_rfl) (by kernel_rfl) (by kernel_rfl) (fun _ _ _ h => h) (yieldsIf_load_mid (by rfl) 25 _ rfl w.heap.size 7 rfl ((rootI s1 ds1 p1 q1).map (Value.int .i64)) _ (fun w' h => fs_range1 gen bl cu ck op ev lg s1 ds1 p1 q1 s2 ds2 p2 q2 sn HD.out.1 (K3.out.1.below h K3.out.1.lt)) Tryd.underlying25 rfl (by rw [List.length_map, ← cellsI_size, HLen1.out]; exact info15)) hH ?_
    try simp only [Act.put, List.setIfInBounds_toArray, List.set_cons_zero, List.set_cons_succ]
    refine wpAnyH_take (i := 3) (oi := _) (v := .pointer (some ⟨w.heap.size, 22, none⟩)) rfl (by kernel_rfl) (by kernel_rfl) (by kernel_rfl) (fun _ _ _ h => h) (Or.inl ⟨by rfl, fun w' hw' => by go_simp⟩) hH ?_
    try simp only [Act.put, List.setIfInBounds_toArray, List.set_cons_zero, List.set_cons_succ]
    refine wpAnyH_take (i := 4) (oi := _) (v := .agg (cellsI (rootI s2 ds2 p2 q2))) rfl (by kernel_rfl) (by kernel_rfl) (by kernel_rfl) (fun _ _ _ h => h) (yieldsIf_load_mid (by rfl) 25 _ rfl w.heap.size 22 rfl ((rootI s2 ds2 p2 q2).map (Value.int .i64)) _ (fun w' h => fs_range2 gen bl cu ck op ev lg s1 ds1 p1 q1 s2 ds2 p2 q2 sn HD.out.1 HD.out.2.1 (K3.out.1.below h K3.out.1.lt)) Tryd.underlying25 rfl (by rw [List.length_map, ← cellsI_size, HLen2.out]; exact info15)) hH ?_
    try simp only [Act.put, List.setIfInBounds_toArray, List.set_cons_zero, List.set_cons_succ]
    refine wpAnyH_ready (rs := [2]) (by kernel_rfl) (by simp) ?_
    refine AllReadyH.cons (o := _) rfl (fun K hK => ?_) AllReadyH.nil
    go_simp
    refine (pointers_any s1 ds1 p1 q1 _ HD.out.1).mono ?_
    rintro e w4 ⟨v4, rfl, o4, b4⟩
    obtain ⟨g4, k4, rfl, hg4, hl4, hc4⟩ := own_slice o4 (by omega)
    have B4 := hide (hH.trans (b4.mono hH.size))
    have O4 := hide o4
    refine hK.out _ _ B4.out (fun hH4 => ?_)
    clear hK K hH o4 b4 hc4
    try simp only [Act.put, List.setIfInBounds_toArray, List.set_cons_zero, List.set_cons_succ]
    refine wpAnyH_ready (rs := [5]) (by kernel_rfl) (by simp) ?_
    refine AllReadyH.cons (o := _) rfl (fun K hK => ?_) AllReadyH.nil
    go_simp
    refine (pointers_any s2 ds2 p2 q2 _ HD.out.2.1).mono ?_
    rintro e w5 ⟨v5, rfl, o5, b5⟩
    obtain ⟨g5, k5, rfl, hg5, hl5, hc5⟩ := own_slice o5 (by omega)
    have B5 := hide (B4.out.trans (b5.mono B4.out.size))
    have hge : w3.heap.size ≤ g4 := hg4
    have O5 := hide (And.intro (own_mono (own_below O4.out b5) (base' := w3.heap.size) (Nat.le_refl _)) hc5)
    refine hK.out _ _ B5.out (fun hH5 => ?_)
    clear hK K hH4 o5 b5 hc5 O4 B4 hg4
    try simp only [Act.put, List.setIfInBounds_toArray, List.set_cons_zero, List.set_cons_succ]
    refine wpAnyH_ready (rs := [6]) (by kernel_rfl) (by simp) ?_
    refine AllReadyH.cons (o := _) rfl (fun K hK => ?_) AllReadyH.nil
    rw [if_pos (by rfl)]
    refine wp_append_own _ (.tmp 78) (.tmp 81) 91 rfl w3.heap.size 3 i0 (.int .i64 0) 1 8 Tryd.underlying91 hi hz0 hz1 hz2 rfl (by decide) _ 14 _ rfl O5.out.1 ⟨g5, 0, none⟩ 14 k5 ((ds2 ++ [p2, q2]).map (Value.int .i64)) rfl (by simp [HD.out.2.1]) O5.out.2 (ints_oneCell _ _) (by unfold maxLen; omega) (by omega) B5.out.size ?_
    intro v6 w6 o6 g6 _
    have B6 := hide (B5.out.grown g6 B5.out.size (fun k e => by cases e; exact hge))
    obtain ⟨h6, k6, rfl, hh6, hl6, hc6⟩ := own_slice o6 (by omega)
    have O6 := hide o6
    refine hK.out _ _ B6.out (fun hH6 => ?_)
    clear hK K hH5 o6 g6 hc6 O5 B5
    try simp only [Act.put, List.setIfInBounds_toArray, List.set_cons_zero, List.set_cons_succ]
    refine wpAnyH_ready (rs := [7]) (by kernel_rfl) (by simp) ?_
    refine AllReadyH.cons (o := _) rfl (fun K hK => ?_) AllReadyH.nil
    go_simp
    refine hK.out _ _ hH6 (fun hH7 => ?_)
    clear hK K
    try simp only [Act.put, List.setIfInBounds_toArray, List.set_cons_zero, List.set_cons_succ]
    refine wpAnyH_done (by kernel_rfl) (NoPanic.normal ?_) _
    clear hH6 hH7
    have K6 := hide (And.intro (K3.out.1.below B6.out K3.out.1.lt) (K3.out.2.trans (B6.out.mono K3.out.2.size)))
    have hlt3 := K3.out.1.lt
    have HR := hide (show ∀ j u, (sn.map (Value.int .i64))[j]? = some u → w6.cell? ((⟨w.heap.size, 37, none⟩ : Addr).add j) = some u from fun j u hu => by rw [Addr.add_mid]; exact fs_range3 gen bl cu ck op ev lg s1 ds1 p1 q1 s2 ds2 p2 q2 sn HD.out.1 HD.out.2.1 HD.out.2.2 K6.out.1 j u hu)
    go_wp2_with (at_builtin; refine wpList_append_own _ rfl (.tmp 83) (.tmp 85) 91 rfl w3.heap.size 3 i0 (.int .i64 0) 1 8 Tryd.underlying91 hi hz0 hz1 hz2 rfl (by decide) _ 28 _ rfl O6.out ⟨w.heap.size, 37, none⟩ 31 31 (sn.map (Value.int .i64)) rfl (by rw [List.length_map, HD.out.2.2]) HR.out (ints_oneCell _ _) (by unfold maxLen; omega) (by omega) B6.out.size ?_; intro v7 w7 o7 g7 _; obtain ⟨h7, k7, rfl, hh7, hl7, hc7⟩ := own_slice o7 (by omega); clear hc7)
    have B7 := hide (B6.out.grown g7 B6.out.size (fun k e => by cases e; exact hh6))
    have K7 := hide (And.intro (K3.out.1.below B7.out K3.out.1.lt) (K3.out.2.trans (B7.out.mono K3.out.2.size)))
    have c1 := (K7.out.1.cell 1).trans (show (cellsI (fsI gen bl cu ck op ev lg s1 ds1 p1 q1 s2 ds2 p2 q2 sn))[1]? = some (.int .i64 bl) from rfl)
    have HA := hide (show rightF gen bl cu ck op ev lg s1 ds1 p1 q1 s2 ds2 p2 q2 sn = ((ds1 ++ [p1, q1] ++ (ds2 ++ [p2, q2]) ++ sn).all fun x => ptrB x bl) from by rw [HFF.out]; simp [ptrsB, snB, List.all_append, Bool.and_assoc])
    have HL := hide (show (ds1 ++ [p1, q1] ++ (ds2 ++ [p2, q2]) ++ sn).length = 59 from by simp [HD.out.1, HD.out.2.1, HD.out.2.2])
    have o8 : w7.ownsRow w3.heap.size 3 1 (.slice (some ⟨h7, 0, none⟩) 59 k7) 59 ((ds1 ++ [p1, q1] ++ (ds2 ++ [p2, q2]) ++ sn).map (Value.int .i64)) := by rw [List.map_append, List.map_append]; exact o7
    have hcell : ∀ j, j < 59 → w7.cell? ⟨h7, j, none⟩ = some (.int .i64 ((ds1 ++ [p1, q1] ++ (ds2 ++ [p2, q2]) ++ sn).getD j 0)) := own_cells o8 HL.out
    generalize ds1 ++ [p1, q1] ++ (ds2 ++ [p2, q2]) ++ sn = pts at hcell HA HL
    have HBL := hide hbl
    clear o7 o8 g7 HR O6 B6 K6 B7 HFF
    go_wp2
    go_loop [88] (fun i => ∃ k : Nat, k ≤ 59 ∧ i = .int .i64 k ∧ ((pts.take k).all fun x => ptrB x bl) = true) (fun i => 59 - (intOf i).toNat)
    case atStart => exact ⟨0, by omega, rfl, rfl⟩
    case round =>
      obtain ⟨k, hk, rfl, hall⟩ := hrel
      have HT := hide hall
      clear hall
      by_cases hlt : k < 59
      · have cz := hcell k hlt
        have HS := hide (all_take' (fun x => ptrB x bl) pts k (by rw [HL.out]; exact hlt))
        have HN := hide (all_bad (fun x => ptrB x bl) pts k (by rw [HL.out]; exact hlt))
        clear hcell
        generalize pts.getD k 0 = z at cz HS HN
        have HZ := hide (ptr_split z bl HBL.out.1 HBL.out.2)
        rcases Bool.eq_false_or_eq_true (ptrB z 2048) with e11 | e11
        rotate_left
        · have HQ := hide (show rightF gen bl cu ck op ev lg s1 ds1 p1 q1 s2 ds2 p2 q2 sn = false from by rw [HA.out]; exact HN.out (by rw [HZ.out, e11]; rfl))
          go_wp2_with (go_at_call 58; refine (pointer_any z _).mono ?_; rintro e w' ⟨rfl, rfl⟩; rw [e11])
          go_ret
          exact ⟨ret_bool HQ.out.symm, K7.out.2⟩
        by_cases hzb : z < bl
        · have HO := hide (show ptrB z bl = true from by rw [HZ.out, e11]; simp [hzb])
          go_wp2_with (go_at_call 58; refine (pointer_any z _).mono ?_; rintro e w' ⟨rfl, rfl⟩; rw [e11])
          go_round
          case rel => exact ⟨k + 1, by omega, by go_num, by rw [HS.out, HT.out, HO.out]; rfl⟩
          case measure => simp [intOf]; omega
        · have HQ := hide (show rightF gen bl cu ck op ev lg s1 ds1 p1 q1 s2 ds2 p2 q2 sn = false from by rw [HA.out]; exact HN.out (by rw [HZ.out]; simp [hzb]))
          go_wp2_with (go_at_call 58; refine (pointer_any z _).mono ?_; rintro e w' ⟨rfl, rfl⟩; rw [e11])
          go_ret
          exact ⟨ret_bool HQ.out.symm, K7.out.2⟩
      · have e59 : k = 59 := by omega
        subst e59
        have HQ := hide (show rightF gen bl cu ck op ev lg s1 ds1 p1 q1 s2 ds2 p2 q2 sn = true from by rw [HA.out]; have h := HT.out; rwa [List.take_of_length_le (by rw [HL.out]; omega)] at h)
        go_wp2
        go_ret
        exact ⟨ret_bool HQ.out.symm, K7.out.2⟩
  · have hlq : (lg != 0) = true := by simp [hl0]
    have HLQ := hide (show logB lg = wi lg 8192 65536 from by unfold logB wi; simp [hl0])
    clear hl0
    go_wp2_with (go_at_call 28; fail)
    refine (l02Within_any lg 8192 65536 _).mono ?_
    rintro e wx ⟨rfl, rfl⟩
    rcases Bool.eq_false_or_eq_true (wi lg 8192 65536) with e6 | e6
    rotate_left
    · have HQ := hide (show rightF gen bl cu ck op ev lg s1 ds1 p1 q1 s2 ds2 p2 q2 sn = false from by rw [HF.out]; rw [HLQ.out, e6]; simp)
      rw [e6]
      go_wp2
      go_ret
      exact ⟨ret_bool HQ.out.symm, K0.out.2⟩
    rw [e6]
    have E6 := hide (HLQ.out.trans e6)
    have HRG := hide (fs_range1 gen bl cu ck op ev lg s1 ds1 p1 q1 s2 ds2 p2 q2 sn HD.out.1 K0.out.1)
    go_wp2_with (first | (refine wpList_load_midG (by first | rfl | simp [Region.wanted, yielded]) 25 _ rfl w.heap.size 7 rfl ((rootI s1 ds1 p1 q1).map (Value.int .i64)) _ HRG.out Tryd.underlying25 rfl (by rw [List.length_map, ← cellsI_size, HLen1.out]; exact info15) ?_) | (go_at_call 30; fail))
    refine (l02Root_any s1 ds1 p1 q1 _ HD.out.1).mono ?_
    rintro e w2 ⟨rfl, b⟩
    have K2 := hide (And.intro (K0.out.1.below b K0.out.1.lt) (K0.out.2.trans (b.mono K0.out.2.size)))
    clear b HRG c0 c1 c2 c3 c4 c5 c6
    rcases Bool.eq_false_or_eq_true (rightR s1 ds1 p1 q1) with e7 | e7
    rotate_left
    · have HQ := hide (show rightF gen bl cu ck op ev lg s1 ds1 p1 q1 s2 ds2 p2 q2 sn = false from by rw [HF.out]; simp [e7])
      rw [e7]
      go_wp2
      go_ret
      exact ⟨ret_bool HQ.out.symm, K2.out.2⟩
    rw [e7]
    have HRG := hide (fs_range2 gen bl cu ck op ev lg s1 ds1 p1 q1 s2 ds2 p2 q2 sn HD.out.1 HD.out.2.1 K2.out.1)
    go_wp2_with (first | (refine wpList_load_midG (by first | rfl | simp [Region.wanted, yielded]) 25 _ rfl w.heap.size 22 rfl ((rootI s2 ds2 p2 q2).map (Value.int .i64)) _ HRG.out Tryd.underlying25 rfl (by rw [List.length_map, ← cellsI_size, HLen2.out]; exact info15) ?_) | (go_at_call 30; fail))
    refine (l02Root_any s2 ds2 p2 q2 _ HD.out.2.1).mono ?_
    rintro e w3 ⟨rfl, b⟩
    have K3 := hide (And.intro (K2.out.1.below b K2.out.1.lt) (K2.out.2.trans (b.mono K2.out.2.size)))
    clear b HRG
    rcases Bool.eq_false_or_eq_true (rightR s2 ds2 p2 q2) with e8 | e8
    rotate_left
    · have HQ := hide (show rightF gen bl cu ck op ev lg s1 ds1 p1 q1 s2 ds2 p2 q2 sn = false from by rw [HF.out]; simp [e8])
      rw [e8]
      go_wp2
      go_ret
      exact ⟨ret_bool HQ.out.symm, K3.out.2⟩
    rw [e8]
    have c22 := (K3.out.1.cell 22).trans (fs_map0 gen bl cu ck op ev lg s1 ds1 p1 q1 s2 ds2 p2 q2 sn HD.out.1)
    have c1 := (K3.out.1.cell 1).trans (show (cellsI (fsI gen bl cu ck op ev lg s1 ds1 p1 q1 s2 ds2 p2 q2 sn))[1]? = some (.int .i64 bl) from rfl)
    have c7 := (K3.out.1.cell 7).trans (show (cellsI (fsI gen bl cu ck op ev lg s1 ds1 p1 q1 s2 ds2 p2 q2 sn))[7]? = some (.int .i64 s1) from rfl)
    rcases Bool.eq_false_or_eq_true (mapB s2 bl) with e9 | e9
    rotate_left
    · have HQ := hide (show rightF gen bl cu ck op ev lg s1 ds1 p1 q1 s2 ds2 p2 q2 sn = false from by rw [HF.out]; simp [e9])
      have hmq : (s2 != 4 * bl) = true := by unfold mapB at e9; simpa using e9
      clear e9
      go_wp2
      go_ret
      exact ⟨ret_bool HQ.out.symm, K3.out.2⟩
    have hmq : (s2 != 4 * bl) = false := by unfold mapB at e9; simpa using e9
    go_wp2_with (go_at_call 31; fail)
    refine (tableSize_any s1 _).mono ?_
    rintro e wx ⟨rfl, rfl⟩
    rcases Bool.eq_false_or_eq_true (tabB s1) with e10 | e10
    rotate_left
    · have HQ := hide (show rightF gen bl cu ck op ev lg s1 ds1 p1 q1 s2 ds2 p2 q2 sn = false from by rw [HF.out]; simp [e10])
      rw [e10]
      go_wp2
      go_ret
      exact ⟨ret_bool HQ.out.symm, K3.out.2⟩
    rw [e10]
    have HFF := hide (show rightF gen bl cu ck op ev lg s1 ds1 p1 q1 s2 ds2 p2 q2 sn = (ptrsB ds1 p1 q1 bl && ptrsB ds2 p2 q2 bl && snB sn bl) from by rw [HF.out, e0, e1, e2, e3, ← cu_eq, e4, e5, E6.out, e7, e8, e9, e10]; simp)
    clear c22 c1 c7 hmq e9 HF K2
    go_wp2_with (first | (refine wpList_load_midG (by first | rfl | simp [Region.wanted, yielded]) 25 _ rfl w.heap.size 7 rfl ((rootI s1 ds1 p1 q1).map (Value.int .i64)) _ (fs_range1 gen bl cu ck op ev lg s1 ds1 p1 q1 s2 ds2 p2 q2 sn HD.out.1 K3.out.1) Tryd.underlying25 rfl (by rw [List.length_map, ← cellsI_size, HLen1.out]; exact info15) ?_) | (go_at_call 57; fail))
    refine wp_region_noPanic ?_
    refine wp_region_held_drew (S := fun w' => Below w3.heap.size w3 w') (by kernel_rfl) ((Below.refl _ _).drew) (fun hH => ?_)
    refine wpAnyH_take (i := 0) (oi := _) (v := .pointer (some ⟨w.heap.size, 7, none⟩)) rfl (by kernel_rfl) (by kernel_rfl) (by kernel_rfl) (fun _ _ _ h => h) (Or.inl ⟨by rfl, fun w' hw' => by go_simp⟩) hH ?_
    try simp only [Act.put, List.setIfInBounds_toArray, List.set_cons_zero, List.set_cons_succ]
    refine wpAnyH_take (i := 1) (oi := _) (v := .agg (cellsI (rootI s1 ds1 p1 q1))) rfl (by kernel_rfl) (by kernel_rfl) (by kernel_rfl) (fun _ _ _ h => h) (yieldsIf_load_mid (by rfl) 25 _ rfl w.heap.size 7 rfl ((rootI s1 ds1 p1 q1).map (Value.int .i64)) _ (fun w' h => fs_range1 gen bl cu ck op ev lg s1 ds1 p1 q1 s2 ds2 p2 q2 sn HD.out.1 (K3.out.1.below h K3.out.1.lt)) Tryd.underlying25 rfl (by rw [List.length_map, ← cellsI_size, HLen1.out]; exact info15)) hH ?_
    try simp only [Act.put, List.setIfInBounds_toArray, List.set_cons_zero, List.set_cons_succ]
    refine wpAnyH_take (i := 3) (oi := _) (v := .pointer (some ⟨w.heap.size, 22, none⟩)) rfl (by kernel_rfl) (by kernel_rfl) (by kernel_rfl) (fun _ _ _ h => h) (Or.inl ⟨by rfl, fun w' hw' => by go_simp⟩) hH ?_
    try simp only [Act.put, List.setIfInBounds_toArray, List.set_cons_zero, List.set_cons_succ]
    refine wpAnyH_take (i := 4) (oi := _) (v := .agg (cellsI (rootI s2 ds2 p2 q2))) rfl (by kernel_rfl) (by kernel_rfl) (by kernel_rfl) (fun _ _ _ h => h) (yieldsIf_load_mid (by rfl) 25 _ rfl w.heap.size 22 rfl ((rootI s2 ds2 p2 q2).map (Value.int .i64)) _ (fun w' h => fs_range2 gen bl cu ck op ev lg s1 ds1 p1 q1 s2 ds2 p2 q2 sn HD.out.1 HD.out.2.1 (K3.out.1.below h K3.out.1.lt)) Tryd.underlying25 rfl (by rw [List.length_map, ← cellsI_size, HLen2.out]; exact info15)) hH ?_
    try simp only [Act.put, List.setIfInBounds_toArray, List.set_cons_zero, List.set_cons_succ]
    refine wpAnyH_ready (rs := [2]) (by kernel_rfl) (by simp) ?_
    refine AllReadyH.cons (o := _) rfl (fun K hK => ?_) AllReadyH.nil
    go_simp
    refine (pointers_any s1 ds1 p1 q1 _ HD.out.1).mono ?_
    rintro e w4 ⟨v4, rfl, o4, b4⟩
    obtain ⟨g4, k4, rfl, hg4, hl4, hc4⟩ := own_slice o4 (by omega)
    have B4 := hide (hH.trans (b4.mono hH.size))
    have O4 := hide o4
    refine hK.out _ _ B4.out (fun hH4 => ?_)
    clear hK K hH o4 b4 hc4
    try simp only [Act.put, List.setIfInBounds_toArray, List.set_cons_zero, List.set_cons_succ]
    refine wpAnyH_ready (rs := [5]) (by kernel_rfl) (by simp) ?_
    refine AllReadyH.cons (o := _) rfl (fun K hK => ?_) AllReadyH.nil
    go_simp
    refine (pointers_any s2 ds2 p2 q2 _ HD.out.2.1).mono ?_
    rintro e w5 ⟨v5, rfl, o5, b5⟩
    obtain ⟨g5, k5, rfl, hg5, hl5, hc5⟩ := own_slice o5 (by omega)
    have B5 := hide (B4.out.trans (b5.mono B4.out.size))
    have hge : w3.heap.size ≤ g4 := hg4
    have O5 := hide (And.intro (own_mono (own_below O4.out b5) (base' := w3.heap.size) (Nat.le_refl _)) hc5)
    refine hK.out _ _ B5.out (fun hH5 => ?_)
    clear hK K hH4 o5 b5 hc5 O4 B4 hg4
    try simp only [Act.put, List.setIfInBounds_toArray, List.set_cons_zero, List.set_cons_succ]
    refine wpAnyH_ready (rs := [6]) (by kernel_rfl) (by simp) ?_
    refine AllReadyH.cons (o := _) rfl (fun K hK => ?_) AllReadyH.nil
    rw [if_pos (by rfl)]
    refine wp_append_own _ (.tmp 78) (.tmp 81) 91 rfl w3.heap.size 3 i0 (.int .i64 0) 1 8 Tryd.underlying91 hi hz0 hz1 hz2 rfl (by decide) _ 14 _ rfl O5.out.1 ⟨g5, 0, none⟩ 14 k5 ((ds2 ++ [p2, q2]).map (Value.int .i64)) rfl (by simp [HD.out.2.1]) O5.out.2 (ints_oneCell _ _) (by unfold maxLen; omega) (by omega) B5.out.size ?_
    intro v6 w6 o6 g6 _
    have B6 := hide (B5.out.grown g6 B5.out.size (fun k e => by cases e; exact hge))
    obtain ⟨h6, k6, rfl, hh6, hl6, hc6⟩ := own_slice o6 (by omega)
    have O6 := hide o6
    refine hK.out _ _ B6.out (fun hH6 => ?_)
    clear hK K hH5 o6 g6 hc6 O5 B5
    try simp only [Act.put, List.setIfInBounds_toArray, List.set_cons_zero, List.set_cons_succ]
    refine wpAnyH_ready (rs := [7]) (by kernel_rfl) (by simp) ?_
    refine AllReadyH.cons (o := _) rfl (fun K hK => ?_) AllReadyH.nil
    go_simp
    refine hK.out _ _ hH6 (fun hH7 => ?_)
    clear hK K
    try simp only [Act.put, List.setIfInBounds_toArray, List.set_cons_zero, List.set_cons_succ]
    refine wpAnyH_done (by kernel_rfl) (NoPanic.normal ?_) _
    clear hH6 hH7
    have K6 := hide (And.intro (K3.out.1.below B6.out K3.out.1.lt) (K3.out.2.trans (B6.out.mono K3.out.2.size)))
    have hlt3 := K3.out.1.lt
    have HR := hide (show ∀ j u, (sn.map (Value.int .i64))[j]? = some u → w6.cell? ((⟨w.heap.size, 37, none⟩ : Addr).add j) = some u from fun j u hu => by rw [Addr.add_mid]; exact fs_range3 gen bl cu ck op ev lg s1 ds1 p1 q1 s2 ds2 p2 q2 sn HD.out.1 HD.out.2.1 HD.out.2.2 K6.out.1 j u hu)
    go_wp2_with (at_builtin; refine wpList_append_own _ rfl (.tmp 83) (.tmp 85) 91 rfl w3.heap.size 3 i0 (.int .i64 0) 1 8 Tryd.underlying91 hi hz0 hz1 hz2 rfl (by decide) _ 28 _ rfl O6.out ⟨w.heap.size, 37, none⟩ 31 31 (sn.map (Value.int .i64)) rfl (by rw [List.length_map, HD.out.2.2]) HR.out (ints_oneCell _ _) (by unfold maxLen; omega) (by omega) B6.out.size ?_; intro v7 w7 o7 g7 _; obtain ⟨h7, k7, rfl, hh7, hl7, hc7⟩ := own_slice o7 (by omega); clear hc7)
    have B7 := hide (B6.out.grown g7 B6.out.size (fun k e => by cases e; exact hh6))
    have K7 := hide (And.intro (K3.out.1.below B7.out K3.out.1.lt) (K3.out.2.trans (B7.out.mono K3.out.2.size)))
    have c1 := (K7.out.1.cell 1).trans (show (cellsI (fsI gen bl cu ck op ev lg s1 ds1 p1 q1 s2 ds2 p2 q2 sn))[1]? = some (.int .i64 bl) from rfl)
    have HA := hide (show rightF gen bl cu ck op ev lg s1 ds1 p1 q1 s2 ds2 p2 q2 sn = ((ds1 ++ [p1, q1] ++ (ds2 ++ [p2, q2]) ++ sn).all fun x => ptrB x bl) from by rw [HFF.out]; simp [ptrsB, snB, List.all_append, Bool.and_assoc])
    have HL := hide (show (ds1 ++ [p1, q1] ++ (ds2 ++ [p2, q2]) ++ sn).length = 59 from by simp [HD.out.1, HD.out.2.1, HD.out.2.2])
    have o8 : w7.ownsRow w3.heap.size 3 1 (.slice (some ⟨h7, 0, none⟩) 59 k7) 59 ((ds1 ++ [p1, q1] ++ (ds2 ++ [p2, q2]) ++ sn).map (Value.int .i64)) := by rw [List.map_append, List.map_append]; exact o7
    have hcell : ∀ j, j < 59 → w7.cell? ⟨h7, j, none⟩ = some (.int .i64 ((ds1 ++ [p1, q1] ++ (ds2 ++ [p2, q2]) ++ sn).getD j 0)) := own_cells o8 HL.out
    generalize ds1 ++ [p1, q1] ++ (ds2 ++ [p2, q2]) ++ sn = pts at hcell HA HL
    have HBL := hide hbl
    clear o7 o8 g7 HR O6 B6 K6 B7 HFF
    go_wp2
    go_loop [88] (fun i => ∃ k : Nat, k ≤ 59 ∧ i = .int .i64 k ∧ ((pts.take k).all fun x => ptrB x bl) = true) (fun i => 59 - (intOf i).toNat)
    case atStart => exact ⟨0, by omega, rfl, rfl⟩
    case round =>
      obtain ⟨k, hk, rfl, hall⟩ := hrel
      have HT := hide hall
      clear hall
      by_cases hlt : k < 59
      · have cz := hcell k hlt
        have HS := hide (all_take' (fun x => ptrB x bl) pts k (by rw [HL.out]; exact hlt))
        have HN := hide (all_bad (fun x => ptrB x bl) pts k (by rw [HL.out]; exact hlt))
        clear hcell
        generalize pts.getD k 0 = z at cz HS HN
        have HZ := hide (ptr_split z bl HBL.out.1 HBL.out.2)
        rcases Bool.eq_false_or_eq_true (ptrB z 2048) with e11 | e11
        rotate_left
        · have HQ := hide (show rightF gen bl cu ck op ev lg s1 ds1 p1 q1 s2 ds2 p2 q2 sn = false from by rw [HA.out]; exact HN.out (by rw [HZ.out, e11]; rfl))
          go_wp2_with (go_at_call 58; refine (pointer_any z _).mono ?_; rintro e w' ⟨rfl, rfl⟩; rw [e11])
          go_ret
          exact ⟨ret_bool HQ.out.symm, K7.out.2⟩
        by_cases hzb : z < bl
        · have HO := hide (show ptrB z bl = true from by rw [HZ.out, e11]; simp [hzb])
          go_wp2_with (go_at_call 58; refine (pointer_any z _).mono ?_; rintro e w' ⟨rfl, rfl⟩; rw [e11])
          go_round
          case rel => exact ⟨k + 1, by omega, by go_num, by rw [HS.out, HT.out, HO.out]; rfl⟩
          case measure => simp [intOf]; omega
        · have HQ := hide (show rightF gen bl cu ck op ev lg s1 ds1 p1 q1 s2 ds2 p2 q2 sn = false from by rw [HA.out]; exact HN.out (by rw [HZ.out]; simp [hzb]))
          go_wp2_with (go_at_call 58; refine (pointer_any z _).mono ?_; rintro e w' ⟨rfl, rfl⟩; rw [e11])
          go_ret
          exact ⟨ret_bool HQ.out.symm, K7.out.2⟩
      · have e59 : k = 59 := by omega
        subst e59
        have HQ := hide (show rightF gen bl cu ck op ev lg s1 ds1 p1 q1 s2 ds2 p2 q2 sn = true from by rw [HA.out]; have h := HT.out; rwa [List.take_of_length_le (by rw [HL.out]; omega)] at h)
        go_wp2
        go_ret
        exact ⟨ret_bool HQ.out.symm, K7.out.2⟩
end Go.Proofs.YtkaennkfieebmaaDoor

namespace Go.Proofs.YtkaennkfieebmaaDoor
set_option linter.unusedVariables false
set_option linter.unusedSimpArgs false
open Go.RowKit

set_option maxRecDepth 100000 in
set_option maxHeartbeats 2000000 in
theorem specS_false (pl : Int) (nm : ByteArray) (ge cl s : Int) (ds : List Int) (p q : Int) (w : World) (hd : ds.length = 12) (hn : nm.size ≤ maxLen) (hr : rightS pl nm ge cl s ds p q = false) :
    Calls Tryd.prog 15 #[.agg (snapC pl nm ge cl s ds p q)] w fun e w' => e = .returned (.tuple #[.slice none 0 0, .int .i64 7]) ∧ Below w.heap.size w w' := by
  have HRF := hide hr
  have HD := hide hd
  have HN := hide hn
  have HLen := hide (show (cellsI (rootI s ds p q)).size = 15 from by rw [cellsI_size]; exact rootI_len s ds p q HD.out)
  have K0 := hide (And.intro (Blk.new w (snapC pl nm ge cl s ds p q) 27) (show Below w.heap.size w (w.alloc (.cells (snapC pl nm ge cl s ds p q) 27)) from (Below.refl _ _).alloc (Nat.le_refl _) _))
  have c0 : (w.alloc (.cells (snapC pl nm ge cl s ds p q) 27)).cell? ⟨w.heap.size, 0, none⟩ = some (.int .i64 pl) := by rw [(Blk.new w _ _).cell 0]; rfl
  have c1 : (w.alloc (.cells (snapC pl nm ge cl s ds p q) 27)).cell? ⟨w.heap.size, 1, none⟩ = some (.string nm) := by rw [(Blk.new w _ _).cell 1]; rfl
  have c2 : (w.alloc (.cells (snapC pl nm ge cl s ds p q) 27)).cell? ⟨w.heap.size, 2, none⟩ = some (.int .i64 ge) := by rw [(Blk.new w _ _).cell 2]; rfl
  have c3 : (w.alloc (.cells (snapC pl nm ge cl s ds p q) 27)).cell? ⟨w.heap.size, 3, none⟩ = some (.int .i64 cl) := by rw [(Blk.new w _ _).cell 3]; rfl
  have HRG := hide (snap_range pl nm ge cl s ds p q K0.out.1)
  clear hd hn hr
  go_enter Tryd.func15, Tryd.ntmps15
  go_wp2_with (go_at_call 28; fail)
  refine (l02Within_any pl 1 31 _).mono ?_
  rintro e w1 ⟨rfl, rfl⟩
  cases e0 : wi pl 1 31 with
  | false =>
    go_wp2
    go_ret2
    exact ⟨rfl, K0.out.2⟩
  | true =>
    go_wp2_with (go_at_call 29; fail)
    refine (Chk.spec_any nm _ HN.out).mono ?_
    rintro e w1 ⟨rfl, rfl⟩
    cases e1 : (Chk.chkS nm == 0) with
    | false =>
      have hb : (Chk.chkS nm != 0) = true := by simp only [bne, e1]; rfl
      go_wp2
      go_ret2
      exact ⟨rfl, K0.out.2⟩
    | true =>
      have hb : Chk.chkS nm = 0 := by simpa using e1
      rw [hb]
      have E1 := hide e1
      clear e1 hb
      go_wp2_with (go_at_call 28; fail)
      refine (l02Within_any ge 1 1099511627776 _).mono ?_
      rintro e w1 ⟨rfl, rfl⟩
      cases e2 : wi ge 1 1099511627776 with
      | false =>
        go_wp2
        go_ret2
        exact ⟨rfl, K0.out.2⟩
      | true =>
        go_wp2_with (go_at_call 28; fail)
        refine (l02Within_any cl 1 1099511627776 _).mono ?_
        rintro e w1 ⟨rfl, rfl⟩
        cases e3 : wi cl 1 1099511627776 with
        | false =>
          go_wp2
          go_ret2
          exact ⟨rfl, K0.out.2⟩
        | true =>
          go_wp2_with (first | (refine wpList_load_midG (by first | rfl | simp [Region.wanted, yielded]) 25 _ rfl w.heap.size 4 rfl ((rootI s ds p q).map (Value.int .i64)) _ HRG.out Tryd.underlying25 rfl (by rw [List.length_map, ← cellsI_size, HLen.out]; exact info15) ?_) | (go_at_call 30; fail))
          refine (l02Root_any s ds p q _ HD.out).mono ?_
          rintro e w2 ⟨rfl, b2⟩
          have B2 := hide (K0.out.2.trans (b2.mono K0.out.2.size))
          have k2 := K0.out.1.below b2 K0.out.1.lt
          have c4 := (k2.cell 4).trans (show (snapC pl nm ge cl s ds p q)[4]? = some (.int .i64 s) from rfl)
          clear b2 k2 c0 c1 c2 c3
          cases e4 : rightR s ds p q with
          | false =>
            go_wp2
            go_ret2
            exact ⟨rfl, B2.out⟩
          | true =>
            go_wp2_with (go_at_call 31; fail)
            refine (tableSize_any s _).mono ?_
            rintro e w3 ⟨rfl, rfl⟩
            have e5 : tabB s = false := by
              have h := HRF.out
              unfold rightS at h
              rw [e0, E1.out, e2, e3, e4] at h
              simpa using h
            go_wp2
            go_ret2
            exact ⟨rfl, B2.out⟩
end Go.Proofs.YtkaennkfieebmaaDoor

namespace Go.Proofs.YtkaennkfieebmaaDoor
set_option linter.unusedVariables false
set_option linter.unusedSimpArgs false
open Go.RowKit

/-- What stands in the midst of the region: the frame's size, the slots that no operation writes, what holds of the world, what the values of those that came up are. -/
structure RInv (ops : Array Oper) (fs : List (Nat × Value)) (S : World → Prop) (V : Nat → Value → World → Prop) (m : Nat) (ds : List Deferred) (listed : Array Bool) (a : Act) (w : World) : Prop where
  sz : a.tmps.size = m
  df : a.defers = ds
  held : S w
  vals : ∀ i o d, ops[i]? = some o → listed.getD i false = true → o.dst = some d → V i (a.tmps.getD d undef) w
  fix : ∀ t v, (t, v) ∈ fs → a.tmps.getD t undef = v
  seen : ∀ i o, ops[i]? = some o → listed.getD i false = true → ∃ v, V i v w

theorem getD_put {a : Act} {d t : Nat} {v : Value} (hd : d < a.tmps.size) : (a.put (some d) v).tmps.getD t undef = if t = d then v else a.tmps.getD t undef := by
  simp only [Act.put, Array.getD_eq_getD_getElem?, Array.getElem?_setIfInBounds]
  by_cases h : d = t
  · subst h; simp [hd]
  · simp [h, Ne.symm h]
theorem listed_set {listed : Array Bool} {i j : Nat} (hi : i < listed.size) : (listed.setIfInBounds i true).getD j false = if j = i then true else listed.getD j false := by
  simp only [Array.getD_eq_getD_getElem?, Array.getElem?_setIfInBounds]
  by_cases h : i = j
  · subst h; simp [hi]
  · simp [h, Ne.symm h]
theorem count_set {listed : Array Bool} {i : Nat} (hi : i < listed.size) (h : listed.getD i true = false) : (listed.setIfInBounds i true).toList.count false + 1 = listed.toList.count false := by
  have hl : listed[i] = false := by simpa [hi] using h
  rw [Array.toList_setIfInBounds, List.count_set (by simpa using hi)]
  have hp : 0 < listed.toList.count false := List.count_pos_iff.2 (by rw [← hl]; exact Array.mem_toList_iff.2 (Array.getElem_mem hi))
  simp [hl]
  have : List.count false listed.toList = Array.count false listed := by simp
  omega

theorem ready_nil {ops : Array Oper} {listed : Array Bool} {md : Region.Mode} (hsz : listed.size = ops.size) (hord : ∀ (i : Nat) (o : Oper), ops[i]? = some o → ∀ e ∈ o.after, e.on < i) (h : Region.ready md ops listed = []) : ∀ i, i < ops.size → listed.getD i false = true := by
  intro i
  induction i using Nat.strongRecOn with
  | ind i ih =>
    intro hi
    cases e : listed.getD i false with
    | true => rfl
    | false =>
      exfalso
      have hm : i ∈ Region.ready md ops listed := by
        rw [mem_ready]
        refine ⟨?_, ops[i], Array.getElem?_eq_getElem hi, fun ed he _ => ih ed.on (hord i ops[i] (Array.getElem?_eq_getElem hi) ed he) ?_⟩
        · rw [Array.getD_eq_getD_getElem?, Array.getElem?_eq_getElem (by omega)] at e ⊢
          exact e
        · have := hord i ops[i] (Array.getElem?_eq_getElem hi) ed he
          omega
      rw [h] at hm
      cases hm

theorem wpAny_inv {P : Program} {ops : Array Oper} {Q : Exit → Act → World → Prop} (fs : List (Nat × Value)) (S : World → Prop) (V : Nat → Value → World → Prop) (m : Nat) (ds : List Deferred)
    (hord : ∀ (i : Nat) (o : Oper), ops[i]? = some o → ∀ e ∈ o.after, e.on < i)
    (hdst : ∀ (i j : Nat) (oi oj : Oper) (d : Nat), ops[i]? = some oi → ops[j]? = some oj → oi.dst = some d → oj.dst = some d → i = j)
    (hfix : ∀ (i : Nat) (o : Oper) (d : Nat), ops[i]? = some o → o.dst = some d → d < m ∧ ∀ v, (d, v) ∉ fs)
    (hstep : ∀ (i : Nat) (o : Oper) (listed : Array Bool) (a : Act) (w : World), ops[i]? = some o → (∀ e ∈ o.after, Region.binds .any e = true → listed.getD e.on false = true) → RInv ops fs S V m ds listed a w →
      Region.wanted o (yielded ops a.tmps) = true ∧ o.wp P a w (fun a' w' => ∃ v, a' = a.put o.dst v ∧ V i v w' ∧ S w' ∧ ∀ j u, V j u w → V j u w') Q)
    (hfin : ∀ listed a w, (∀ i, i < ops.size → listed.getD i false = true) → RInv ops fs S V m ds listed a w → Q .normal a w) :
    ∀ (fuel : Nat) (listed : Array Bool) (a : Act) (w : World), listed.size = ops.size → listed.toList.count false ≤ fuel → RInv ops fs S V m ds listed a w → wpAny P .any ops Q fuel listed a w
  | 0, listed, a, w, hsz, hc, hI => by
    have hall : ∀ i, i < ops.size → listed.getD i false = true := by
      intro i hi
      cases e : listed.getD i false with
      | true => rfl
      | false =>
        have : false ∈ listed.toList := by
          rw [Array.getD_eq_getD_getElem?, Array.getElem?_eq_getElem (by omega), Option.getD_some] at e
          rw [← e]; exact Array.mem_toList_iff.2 (Array.getElem_mem (by omega))
        have := List.count_pos_iff.2 this
        omega
    refine ⟨?_, hfin listed a w hall hI⟩
    cases e : Region.ready .any ops listed with
    | nil => rfl
    | cons j l =>
      have hj : j ∈ Region.ready .any ops listed := by rw [e]; simp
      obtain ⟨h0, o, ho, _⟩ := mem_ready.1 hj
      have hlt : j < ops.size := (Array.getElem?_eq_some_iff.1 ho).1
      have h1 := hall j hlt
      rw [Array.getD_eq_getD_getElem?, Array.getElem?_eq_getElem (by omega)] at h0 h1
      simp at h0 h1
      rw [h0] at h1
      cases h1
  | fuel + 1, listed, a, w, hsz, hc, hI => by
    refine ⟨fun h => hfin listed a w (ready_nil hsz hord h) hI, fun i hi => ?_⟩
    obtain ⟨h0, o, ho, hall⟩ := mem_ready.1 hi
    have hlt : i < ops.size := (Array.getElem?_eq_some_iff.1 ho).1
    have hs := hstep i o listed a w ho hall hI
    unfold wpOp
    simp only [ho, hs.1, if_true]
    refine .inl (Oper.wp_mono ?_ hs.2)
    rintro a' w' ⟨v, rfl, hv, hS, hk⟩
    have hcs := count_set (listed := listed) (i := i) (by omega) h0
    refine wpAny_inv fs S V m ds hord hdst hfix hstep hfin fuel _ _ _ (by simpa using hsz) (by omega) ?_
    cases hd : o.dst with
    | none =>
      refine ⟨hI.sz, hI.df, hS, fun j oj d hj hl hjd => ?_, hI.fix, fun j oj hj hl => ?_⟩
      · rw [listed_set (by omega)] at hl
        by_cases e : j = i
        · subst e
          rw [ho] at hj
          cases hj
          rw [hd] at hjd
          cases hjd
        · rw [if_neg e] at hl
          exact hk j _ (hI.vals j oj d hj hl hjd)
      · rw [listed_set (by omega)] at hl
        by_cases e : j = i
        · subst e
          exact ⟨v, hv⟩
        · rw [if_neg e] at hl
          obtain ⟨u, hu⟩ := hI.seen j oj hj hl
          exact ⟨u, hk j u hu⟩
    | some d0 =>
      have hf := hfix i o d0 ho hd
      have hd0 : d0 < a.tmps.size := by rw [hI.sz]; exact hf.1
      refine ⟨by simp [Act.put, hI.sz], by simpa [Act.put] using hI.df, hS, fun j oj d hj hl hjd => ?_, fun t u htu => ?_, fun j oj hj hl => ?_⟩
      · rw [listed_set (by omega)] at hl
        rw [getD_put hd0]
        by_cases e : j = i
        · subst e
          rw [ho] at hj
          cases hj
          rw [hd] at hjd
          cases hjd
          rw [if_pos rfl]
          exact hv
        · rw [if_neg e] at hl
          rw [if_neg (fun h => e (hdst j i oj o d hj ho hjd (by rw [hd, h])))]
          exact hk j _ (hI.vals j oj d hj hl hjd)
      · rw [getD_put hd0, if_neg (fun h : t = d0 => hf.2 u (by rw [← h]; exact htu))]
        exact hI.fix t u htu
      · rw [listed_set (by omega)] at hl
        by_cases e : j = i
        · subst e
          exact ⟨v, hv⟩
        · rw [if_neg e] at hl
          obtain ⟨u, hu⟩ := hI.seen j oj hj hl
          exact ⟨u, hk j u hu⟩

/-- The region's own order, looked at by program. -/
def rchk (ops : Array Oper) (m : Nat) (ks : List Nat) : Bool :=
  (List.range ops.size).all fun i => match ops[i]? with
    | none => true
    | some o => (o.after.toList.all fun e => decide (e.on < i)) && (match o.dst with
      | none => true
      | some d => decide (d < m) && !ks.contains d && (List.range i).all fun j => match ops[j]? with
        | none => true
        | some oj => !(oj.dst == some d))
theorem rchk_at {ops : Array Oper} {m : Nat} {ks : List Nat} (h : rchk ops m ks = true) {i : Nat} {o : Oper} (hi : ops[i]? = some o) :
    (∀ e ∈ o.after, e.on < i) ∧ ∀ d, o.dst = some d → d < m ∧ d ∉ ks ∧ ∀ j oj, j < i → ops[j]? = some oj → oj.dst ≠ some d := by
  have hlt : i < ops.size := (Array.getElem?_eq_some_iff.1 hi).1
  unfold rchk at h
  rw [List.all_eq_true] at h
  have h1 := h i (List.mem_range.2 hlt)
  simp only [hi, Bool.and_eq_true] at h1
  obtain ⟨ha, hb⟩ := h1
  refine ⟨fun e he => ?_, fun d hd => ?_⟩
  · rw [List.all_eq_true] at ha
    exact of_decide_eq_true (ha e (Array.mem_toList_iff.2 he))
  · simp only [hd, Bool.and_eq_true] at hb
    obtain ⟨⟨h2, h3⟩, h4⟩ := hb
    refine ⟨of_decide_eq_true h2, by simpa using h3, fun j oj hj hoj e => ?_⟩
    rw [List.all_eq_true] at h4
    have h5 := h4 j (List.mem_range.2 hj)
    simp only [hoj, e] at h5
    simp at h5
theorem wpAny_invB {P : Program} {ops : Array Oper} {Q : Exit → Act → World → Prop} (fs : List (Nat × Value)) (S : World → Prop) (V : Nat → Value → World → Prop) (m : Nat) (ds : List Deferred)
    (hB : rchk ops m (fs.map (·.1)) = true)
    (hstep : ∀ (i : Nat) (o : Oper) (listed : Array Bool) (a : Act) (w : World), ops[i]? = some o → (∀ e ∈ o.after, Region.binds .any e = true → listed.getD e.on false = true) → RInv ops fs S V m ds listed a w →
      Region.wanted o (yielded ops a.tmps) = true ∧ o.wp P a w (fun a' w' => ∃ v, a' = a.put o.dst v ∧ V i v w' ∧ S w' ∧ ∀ j u, V j u w → V j u w') Q)
    (hfin : ∀ listed a w, (∀ i, i < ops.size → listed.getD i false = true) → RInv ops fs S V m ds listed a w → Q .normal a w)
    (a : Act) (w : World) (hsz : a.tmps.size = m) (hdf : a.defers = ds) (hS : S w) (hf : ∀ t v, (t, v) ∈ fs → a.tmps.getD t undef = v) : wpAny P .any ops Q ops.size (Array.replicate ops.size false) a w := by
  refine wpAny_inv fs S V m ds (fun i o hi => (rchk_at hB hi).1) (fun i j oi oj d hi hj h1 h2 => ?_) (fun i o d hi hd => ?_) hstep hfin _ _ _ _ (by simp) ?_ ⟨hsz, hdf, hS, fun i o d _ hl _ => ?_, hf, fun i o _ hl => ?_⟩
  · rcases Nat.lt_trichotomy i j with h | h | h
    · exact absurd h1 (((rchk_at hB hj).2 d h2).2.2 i oi h hi)
    · exact h
    · exact absurd h2 (((rchk_at hB hi).2 d h1).2.2 j oj h hj)
  · have := (rchk_at hB hi).2 d hd
    exact ⟨this.1, fun v hv => this.2.1 (List.mem_map.2 ⟨_, hv, rfl⟩)⟩
  · rw [Array.toList_replicate, List.count_replicate]; simp
  · simp [Array.getD_eq_getD_getElem?, Array.getElem?_replicate] at hl
    split at hl <;> simp at hl
  · simp [Array.getD_eq_getD_getElem?, Array.getElem?_replicate] at hl
    split at hl <;> simp at hl
/-- The value of one that came up. -/
theorem RInv.at {ops : Array Oper} {fs : List (Nat × Value)} {S : World → Prop} {V : Nat → Value → World → Prop} {m : Nat} {ds : List Deferred} {listed : Array Bool} {a : Act} {w : World} {o oj : Oper} (h : RInv ops fs S V m ds listed a w)
    (hall : ∀ e ∈ o.after, Region.binds .any e = true → listed.getD e.on false = true) (j d : Nat) (hj : ops[j]? = some oj) (hd : oj.dst = some d) (ha : (o.after.toList.any fun e => e.on == j && Region.binds .any e) = true) : V j (a.tmps.getD d undef) w := by
  rw [List.any_eq_true] at ha
  obtain ⟨e, he, h2⟩ := ha
  rw [Bool.and_eq_true] at h2
  have h3 : e.on = j := by simpa using h2.1
  have h4 := hall e (Array.mem_toList_iff.1 he) h2.2
  rw [h3] at h4
  exact h.vals j oj d hj h4 hd
end Go.Proofs.YtkaennkfieebmaaDoor

namespace Go.Proofs.YtkaennkfieebmaaDoor
set_option linter.unusedVariables false
set_option linter.unusedSimpArgs false
open Go.RowKit

theorem wp_convert_sb {P : Program} {o : Oper} {a : Act} {w : World} {K : Act → World → Prop} {Q : Exit → Act → World → Prop} (src dst e : TypeId) (x : Operand) (ho : o.op = .convert src dst x) (s : ByteArray) (hx : a.eval x = .string s)
    (hs : P.underlying src = some .string) (hd : P.underlying dst = some (.slice e)) (he : P.underlying e = some (.int .u8))
    (h : K (a.put o.dst (.slice (some ⟨w.heap.size, 0, none⟩) s.size (grownCap w s.size 0 e))) (Go.Lib.bytesWorld w e s)) : o.wp P a w K Q := by
  unfold Oper.wp execOp
  simp only [ho, hx, Sem.run_bind, Sem.run_pure, Result.andThen_ok, Go.Lib.run_convert_string_bytes w src dst e s hs hd he]
  exact h
theorem rd_bytesWorld (w : World) (s : ByteArray) (hs : s.size ≤ maxLen) : Rd .u8 (Go.Lib.bytesWorld w 5 s) (.slice (some ⟨w.heap.size, 0, none⟩) s.size (grownCap w s.size 0 5)) (strInts s) := by
  refine ⟨some ⟨w.heap.size, 0, none⟩, grownCap w s.size 0 5, by rw [strInts_len], by rw [strInts_len]; exact hs, fun _ => ⟨w.heap.size, 0, rfl, by rw [Go.Lib.bytesWorld_size]; omega, fun i hi => ?_⟩, by rw [strInts_len]; exact grownCap_ge _ _ _ _, grownCap_le_maxLen _ _ _ _ hs⟩
  rw [strInts_len] at hi
  rw [Nat.zero_add, Go.Lib.bytesWorld_cell w _ s i hi]
  unfold strInts
  have hl : i < s.data.size := hi
  simp only [List.getD_eq_getElem?_getD, List.getElem?_map, Array.getElem?_toList, Array.getElem?_eq_getElem hl, Option.map_some, Option.getD_some]
theorem fill_pos (v : Value) (zs : List Int) (n : Nat) (w : World) (h : Rd .u8 w v zs) (h0 : 0 < zs.length) (h1 : zs.length ≤ n) (h2 : n ≤ 100000) :
    Calls Tryd.prog 34 #[v, .int .i64 n] w fun e w' => ∃ g cp, e = .returned (.slice (some ⟨g, 0, none⟩) n cp) ∧ w'.ownsRow w.heap.size 5 1 (.slice (some ⟨g, 0, none⟩) n cp) n ((zs ++ List.replicate (n - zs.length) 0).map (Value.int .u8)) ∧ Below w.heap.size w w' := by
  refine (fill_any v zs n w h h0 h1 h2).mono ?_
  rintro e w' ⟨v', rfl, ho, hb⟩
  rcases ho.2 with ⟨rfl, hn0⟩ | ⟨g, cap, cur, rfl, _⟩
  · omega
  · exact ⟨g, cap, rfl, ho, hb⟩
theorem join_snap (a : Nat) (nm : ByteArray) (b c : Nat) (s : Int) (ds : List Int) (p q : Int) (hn : nm.size ≤ 26) : ([([snapLet, le 1 a, le 1 nm.size, strInts nm ++ List.replicate (26 - (strInts nm).length) 0, le 4 0] : List (List Int)).flatten, le 8 b, le 8 c, bytesR s ds p q] : List (List Int)).flatten = bytesS a nm b c s ds p q := by
  have e : (List.replicate (26 - (strInts nm).length) 0 : List Int) ++ le 4 0 = List.replicate (40 - (10 + nm.size)) 0 := by
    rw [strInts_len, show le 4 0 = List.replicate 4 0 from rfl, List.replicate_append_replicate]
    congr 1
    omega
  unfold bytesS
  rw [← e]
  simp only [List.flatten_cons, List.flatten_nil, List.append_nil, List.append_assoc]


/-- A slice of n bytes with an address, that reads so. -/
def Sl (n : Nat) (lst : List Int) (v : Value) (w : World) : Prop := (∃ g cp, v = .slice (some ⟨g, 0, none⟩) n cp) ∧ Rd .u8 w v lst
theorem Sl.below {n : Nat} {lst : List Int} {v : Value} {w w' : World} (h : Sl n lst v w) (hb : Below w.heap.size w w') : Sl n lst v w' := ⟨h.1, h.2.below hb⟩
/-- What the values of the region that lays the first part are. -/
def VS (B b : Nat) (A : Nat) (nm : ByteArray) (i : Nat) (v : Value) (w : World) : Prop := match i with
  | 0 => ∃ g, v = .slice (some ⟨g, 0, none⟩) 8 8 ∧ B ≤ g ∧ g < w.heap.size ∧ Rd .u8 w v snapLet ∧ ∃ fr, w.heap[g]? = some (.cells #[.int .u8 115, .int .u8 110, .int .u8 97, .int .u8 112, .int .u8 115, .int .u8 104, .int .u8 111, .int .u8 116] 5 fr)
  | 1 => Sl 8 snapLet v w
  | 2 => v = .pointer (some ⟨b, 0, none⟩)
  | 3 => v = .int .i64 (A : Int)
  | 4 => Sl 1 (le 1 A) v w
  | 5 => v = .pointer (some ⟨b, 1, none⟩)
  | 6 => v = .string nm
  | 7 => v = .int .i64 (nm.size : Int)
  | 8 => Sl 1 (le 1 nm.size) v w
  | 9 => v = .pointer (some ⟨b, 1, none⟩)
  | 10 => v = .string nm
  | 11 => Rd .u8 w v (strInts nm)
  | 12 => Sl 26 (strInts nm ++ List.replicate (26 - (strInts nm).length) 0) v w
  | 13 => Sl 4 (le 4 0) v w
  | 14 => ∃ g, v = .slice (some ⟨g, 0, none⟩) 5 5 ∧ g < w.heap.size ∧ ∃ vs, (∀ j u, vs[j]? = some u → w.cell? ⟨g, j, none⟩ = some u) ∧ AllRd w vs [snapLet, le 1 A, le 1 nm.size, strInts nm ++ List.replicate (26 - (strInts nm).length) 0, le 4 0]
  | 15 => Rd .u8 w v ([snapLet, le 1 A, le 1 nm.size, strInts nm ++ List.replicate (26 - (strInts nm).length) 0, le 4 0] : List (List Int)).flatten
  | 16 => Rd .u8 w v ([snapLet, le 1 A, le 1 nm.size, strInts nm ++ List.replicate (26 - (strInts nm).length) 0, le 4 0] : List (List Int)).flatten
  | _ => False
theorem VS.below {B b A : Nat} {nm : ByteArray} {w w' : World} (hb : Below w.heap.size w w') : ∀ (j : Nat) (u : Value), VS B b A nm j u w → VS B b A nm j u w'
  | 0, _, ⟨g, h1, h2, h3, h4, h5⟩ => ⟨g, h1, h2, Nat.lt_of_lt_of_le h3 hb.size, h4.below hb, by rw [hb.block g h3]; exact h5⟩
  | 1, _, h => Sl.below h hb
  | 2, _, h => h
  | 3, _, h => h
  | 4, _, h => Sl.below h hb
  | 5, _, h => h
  | 6, _, h => h
  | 7, _, h => h
  | 8, _, h => Sl.below h hb
  | 9, _, h => h
  | 10, _, h => h
  | 11, _, h => Rd.below h hb
  | 12, _, h => Sl.below h hb
  | 13, _, h => Sl.below h hb
  | 14, _, ⟨g, h1, h2, vs, h3, h4⟩ => ⟨g, h1, Nat.lt_of_lt_of_le h2 hb.size, vs, fun j u hu => (hb.cell (p := ⟨g, j, none⟩) h2).trans (h3 j u hu), h4.below hb⟩
  | 15, _, h => Rd.below h hb
  | 16, _, h => Rd.below h hb
  | _ + 17, _, h => h
theorem VS.freeze {B b A : Nat} {nm : ByteArray} {w : World} (g' m : Nat) : ∀ (j : Nat) (u : Value), VS B b A nm j u w → VS B b A nm j u (w.freeze ⟨g', m, none⟩ 1)
  | 0, _, ⟨g, h1, h2, h3, h4, h5⟩ => ⟨g, h1, h2, by rw [freeze_size]; exact h3, h4.freeze g' m, freeze_row w g' m h5⟩
  | 1, _, h => ⟨h.1, h.2.freeze g' m⟩
  | 2, _, h => h
  | 3, _, h => h
  | 4, _, h => ⟨h.1, h.2.freeze g' m⟩
  | 5, _, h => h
  | 6, _, h => h
  | 7, _, h => h
  | 8, _, h => ⟨h.1, h.2.freeze g' m⟩
  | 9, _, h => h
  | 10, _, h => h
  | 11, _, h => Rd.freeze h g' m
  | 12, _, h => ⟨h.1, h.2.freeze g' m⟩
  | 13, _, h => ⟨h.1, h.2.freeze g' m⟩
  | 14, _, ⟨g, h1, h2, vs, h3, h4⟩ => ⟨g, h1, by rw [freeze_size]; exact h2, vs, fun j u hu => by rw [freeze_cell]; exact h3 j u hu, h4.freeze g' m⟩
  | 15, _, h => Rd.freeze h g' m
  | 16, _, h => Rd.freeze h g' m
  | _ + 17, _, h => h

/-- The values of the second region. -/
def VT (B b : Nat) (J : List Int) (a : Nat) (nm : ByteArray) (x y : Nat) (s : Int) (ds : List Int) (p q : Int) (x4 : Value) (i : Nat) (v : Value) (w : World) : Prop := match i with
  | 0 => v = x4
  | 1 => v = .pointer (some ⟨b, 2, none⟩)
  | 2 => v = .int .i64 (x : Int)
  | 3 => Sl 8 (le 8 x) v w
  | 4 => v = .pointer (some ⟨b, 3, none⟩)
  | 5 => v = .int .i64 (y : Int)
  | 6 => Sl 8 (le 8 y) v w
  | 7 => v = .pointer (some ⟨b, 4, none⟩)
  | 8 => v = .agg (cellsI (rootI s ds p q))
  | 9 => Sl 64 (bytesR s ds p q) v w
  | 10 => ∃ g, v = .slice (some ⟨g, 0, none⟩) 4 4 ∧ g < w.heap.size ∧ ∃ vs, (∀ j u, vs[j]? = some u → w.cell? ⟨g, j, none⟩ = some u) ∧ AllRd w vs [J, le 8 x, le 8 y, bytesR s ds p q]
  | 11 => Rd .u8 w v ([J, le 8 x, le 8 y, bytesR s ds p q] : List (List Int)).flatten
  | 12 => w.ownsRow B 5 1 v 512 ((sealed (bytesS a nm x y s ds p q)).map (Value.int .u8))
  | 13 => w.ownsRow B 5 1 v 512 ((sealed (bytesS a nm x y s ds p q)).map (Value.int .u8))
  | 14 => v = .int .i64 0
  | _ => False
theorem VT.below {B b : Nat} {J : List Int} {a : Nat} {nm : ByteArray} {x y : Nat} {s : Int} {ds : List Int} {p q : Int} {x4 : Value} {w w' : World} (hb : Below w.heap.size w w') : ∀ (j : Nat) (u : Value), VT B b J a nm x y s ds p q x4 j u w → VT B b J a nm x y s ds p q x4 j u w'
  | 0, _, h => h
  | 1, _, h => h
  | 2, _, h => h
  | 3, _, h => Sl.below h hb
  | 4, _, h => h
  | 5, _, h => h
  | 6, _, h => Sl.below h hb
  | 7, _, h => h
  | 8, _, h => h
  | 9, _, h => Sl.below h hb
  | 10, _, ⟨g, h1, h2, vs, h3, h4⟩ => ⟨g, h1, Nat.lt_of_lt_of_le h2 hb.size, vs, fun j u hu => (hb.cell (p := ⟨g, j, none⟩) h2).trans (h3 j u hu), h4.below hb⟩
  | 11, _, h => Rd.below h hb
  | 12, _, h => own_below h hb
  | 13, _, h => own_below h hb
  | 14, _, h => h
  | _ + 15, _, h => h

set_option maxRecDepth 100000 in
set_option maxHeartbeats 2000000 in
theorem specS_true (a : Nat) (nm : ByteArray) (b c : Nat) (s : Int) (ds : List Int) (p q : Int) (w : World) (hd : ds.length = 12) (h0 : a < 256) (hn : nm.size ≤ 26) (hn0 : 0 < nm.size) (h1 : b < 281474976710656) (h2 : c < 281474976710656) (hs : 0 ≤ s ∧ s ≤ 262144) (hp : ∀ z ∈ ds ++ [p, q], 0 ≤ z ∧ z < 2048) (hr : rightS (a : Int) nm (b : Int) (c : Int) s ds p q = true) :
    Calls Tryd.prog 15 #[.agg (snapC (a : Int) nm (b : Int) (c : Int) s ds p q)] w fun e w' => ∃ v', e = .returned (.tuple #[v', .int .i64 0]) ∧ w'.ownsRow w.heap.size 5 1 v' 512 ((sealed (bytesS a nm b c s ds p q)).map (Value.int .u8)) ∧ Below w.heap.size w w' := by
  obtain ⟨d0, d1, d2, d3, d4, d5, d6, d7, d8, d9, d10, d11, hds⟩ := list12 hd
  have HD := hide hd
  have HDS := hide hds
  have HN := hide (show nm.size ≤ maxLen from by unfold maxLen; omega)
  have HSP := hide (And.intro hs hp)
  have hr' := hr
  unfold rightS at hr'
  simp only [Bool.and_eq_true] at hr'
  obtain ⟨⟨⟨⟨e0, e1⟩, e2⟩, e3⟩, e4, e5⟩ := hr'
  have hb1 : Chk.chkS nm = 0 := by simpa using e1
  have HLen := hide (show (cellsI (rootI s ds p q)).size = 15 from by rw [cellsI_size]; exact rootI_len s ds p q HD.out)
  have K0 := hide (And.intro (Blk.new w (snapC (a : Int) nm (b : Int) (c : Int) s ds p q) 27) (show Below w.heap.size w (w.alloc (.cells (snapC (a : Int) nm (b : Int) (c : Int) s ds p q) 27)) from (Below.refl _ _).alloc (Nat.le_refl _) _))
  have c0 : (w.alloc (.cells (snapC (a : Int) nm (b : Int) (c : Int) s ds p q) 27)).cell? ⟨w.heap.size, 0, none⟩ = some (.int .i64 (a : Int)) := by rw [(Blk.new w _ _).cell 0]; rfl
  have c1 : (w.alloc (.cells (snapC (a : Int) nm (b : Int) (c : Int) s ds p q) 27)).cell? ⟨w.heap.size, 1, none⟩ = some (.string nm) := by rw [(Blk.new w _ _).cell 1]; rfl
  have c2 : (w.alloc (.cells (snapC (a : Int) nm (b : Int) (c : Int) s ds p q) 27)).cell? ⟨w.heap.size, 2, none⟩ = some (.int .i64 (b : Int)) := by rw [(Blk.new w _ _).cell 2]; rfl
  have c3 : (w.alloc (.cells (snapC (a : Int) nm (b : Int) (c : Int) s ds p q) 27)).cell? ⟨w.heap.size, 3, none⟩ = some (.int .i64 (c : Int)) := by rw [(Blk.new w _ _).cell 3]; rfl
  have HRG := hide (snap_range (a : Int) nm (b : Int) (c : Int) s ds p q K0.out.1)
  clear hd hs hp hr e1 hds
  go_enter Tryd.func15, Tryd.ntmps15
  go_wp2_with (go_at_call 28; fail)
  refine (l02Within_any (a : Int) 1 31 _).mono ?_
  rintro e w1 ⟨rfl, rfl⟩
  go_wp2_with (go_at_call 29; fail)
  refine (Chk.spec_any nm _ HN.out).mono ?_
  rintro e w1 ⟨rfl, rfl⟩
  rw [hb1]
  clear hb1
  go_wp2_with (go_at_call 28; fail)
  refine (l02Within_any (b : Int) 1 1099511627776 _).mono ?_
  rintro e w1 ⟨rfl, rfl⟩
  go_wp2_with (go_at_call 28; fail)
  refine (l02Within_any (c : Int) 1 1099511627776 _).mono ?_
  rintro e w1 ⟨rfl, rfl⟩
  go_wp2_with (first | (refine wpList_load_midG (by first | rfl | simp [Region.wanted, yielded]) 25 _ rfl w.heap.size 4 rfl ((rootI s ds p q).map (Value.int .i64)) _ HRG.out Tryd.underlying25 rfl (by rw [List.length_map, ← cellsI_size, HLen.out]; exact info15) ?_) | (go_at_call 30; fail))
  refine (l02Root_any s ds p q _ HD.out).mono ?_
  rintro e W ⟨rfl, b2⟩
  have B2 := hide (K0.out.2.trans (b2.mono K0.out.2.size))
  have k2 := K0.out.1.below b2 K0.out.1.lt
  have KW := hide k2
  have c4 := (k2.cell 4).trans (show (snapC (a : Int) nm (b : Int) (c : Int) s ds p q)[4]? = some (.int .i64 s) from rfl)
  have hlw : w.heap.size < W.heap.size := k2.lt
  have HCell := hide (show ∀ w', Below W.heap.size W w' → w'.cell? ⟨w.heap.size, 0, none⟩ = some (.int .i64 (a : Int)) ∧ w'.cell? ⟨w.heap.size, 1, none⟩ = some (.string nm) ∧ w'.cell? ⟨w.heap.size, 2, none⟩ = some (.int .i64 (b : Int)) ∧ w'.cell? ⟨w.heap.size, 3, none⟩ = some (.int .i64 (c : Int)) from fun w' h => ⟨(h.cell (p := ⟨w.heap.size, 0, none⟩) KW.out.lt).trans ((KW.out.cell 0).trans rfl), (h.cell (p := ⟨w.heap.size, 1, none⟩) KW.out.lt).trans ((KW.out.cell 1).trans rfl), (h.cell (p := ⟨w.heap.size, 2, none⟩) KW.out.lt).trans ((KW.out.cell 2).trans rfl), (h.cell (p := ⟨w.heap.size, 3, none⟩) KW.out.lt).trans ((KW.out.cell 3).trans rfl)⟩)
  clear b2 k2 c0 c1 c2 c3 HRG K0
  go_wp2_with (go_at_call 31; fail)
  refine (tableSize_any s _).mono ?_
  rintro e w3 ⟨rfl, rfl⟩
  go_wp2
  have HPos := hide (show (∀ b ∈ ([snapLet, le 1 a, le 1 nm.size, strInts nm ++ List.replicate (26 - (strInts nm).length) 0, le 4 0] : List (List Int)), 0 < b.length) ∧ ([snapLet, le 1 a, le 1 nm.size, strInts nm ++ List.replicate (26 - (strInts nm).length) 0, le 4 0] : List (List Int)).flatten.length ≤ 100000 from by
    constructor
    · intro b hb
      simp only [List.mem_cons, List.not_mem_nil, or_false] at hb
      rcases hb with rfl | rfl | rfl | rfl | rfl
      · decide
      · rw [le_len]; omega
      · rw [le_len]; omega
      · rw [List.length_append, strInts_len]; omega
      · rw [le_len]; omega
    · simp only [List.flatten_cons, List.flatten_nil, List.length_append, List.length_nil, le_len, strInts_len, List.length_replicate, snapLet, List.length_cons]
      omega)
  have HJoin := hide (join_snap a nm b c s ds p q hn)
  refine wp_region_noPanic ?_
  refine wp_region_any (by kernel_rfl) ?_
  refine wpAny_invB [(1, .pointer (some ⟨w.heap.size, 0, none⟩))] (fun w' => Below W.heap.size W w') (VS W.heap.size w.heap.size a nm) 69 [] (by kernel_rfl) ?hstep ?hfin _ _ (by rfl) (by rfl) ((Below.refl _ _).drew) (by intro t v h; simp at h; obtain ⟨rfl, rfl⟩ := h; rfl)
  case hstep =>
    intro i o listed ac wz hi hall hI
    have f1 : ac.tmps.getD 1 undef = .pointer (some ⟨w.heap.size, 0, none⟩) := hI.fix 1 _ (by simp)
    match i, hi with
    | 0, hi =>
      obtain rfl := Option.some.inj hi
      have hBs := hI.held.size
      refine ⟨by rfl, ?_⟩
      go_simp
      have bN := (Below.refl wz.heap.size wz).alloc (Nat.le_refl _) (.cells #[.int .u8 115, .int .u8 110, .int .u8 97, .int .u8 112, .int .u8 115, .int .u8 104, .int .u8 111, .int .u8 116] 5)
      have HV := hide (show VS W.heap.size w.heap.size a nm 0 (.slice (some ⟨wz.heap.size, 0, none⟩) 8 8) (wz.alloc (.cells #[.int .u8 115, .int .u8 110, .int .u8 97, .int .u8 112, .int .u8 115, .int .u8 104, .int .u8 111, .int .u8 116] 5)) from ⟨wz.heap.size, rfl, hBs, by simp, Rd.own (World.ownsRow_lit (base := wz.heap.size) (e := 5) (size := 1) wz #[.int .u8 115, .int .u8 110, .int .u8 97, .int .u8 112, .int .u8 115, .int .u8 104, .int .u8 111, .int .u8 116] 8 (Nat.le_refl _) (by unfold maxLen; omega) rfl), (0, 0), heap_alloc_new wz _⟩)
      exact ⟨_, rfl, HV.out, hI.held.trans (bN.mono hI.held.size), VS.below bN⟩
    | 1, hi =>
      obtain rfl := Option.some.inj hi
      obtain ⟨gx, ex, hgx, hgl, v0, hfr⟩ : VS W.heap.size w.heap.size a nm 0 (ac.tmps.getD 40 undef) wz := hI.at hall 0 40 rfl rfl (by rfl)
      rw [ex] at v0
      refine ⟨by rfl, wp_mark 22 5 (.tmp 40) rfl gx 8 8 ex hfr Tryd.underlying22 Tryd.underlying5 ?_⟩
      exact ⟨_, rfl, ⟨⟨_, _, rfl⟩, v0.freeze gx _⟩, freeze_below hI.held gx _ hgx, VS.freeze gx _⟩
    | 2, hi =>
      obtain rfl := Option.some.inj hi
      refine ⟨by rfl, ?_⟩
      go_simp
      exact ⟨_, rfl, rfl, hI.held⟩
    | 3, hi =>
      obtain rfl := Option.some.inj hi
      have v2 : ac.tmps.getD 42 undef = .pointer (some ⟨w.heap.size, 0, none⟩) := hI.at hall 2 42 rfl rfl (by rfl)
      have hc := (HCell.out wz hI.held).1
      refine ⟨by rfl, ?_⟩
      go_simp
      exact ⟨_, rfl, rfl, hI.held⟩
    | 4, hi =>
      obtain rfl := Option.some.inj hi
      have v3 : ac.tmps.getD 43 undef = .int .i64 (a : Int) := hI.at hall 3 43 rfl rfl (by rfl)
      refine ⟨by rfl, ?_⟩
      go_simp
      refine (put_pos a 1 _ (by omega) (by omega) (by omega)).mono ?_
      rintro e w' ⟨gN, cN, rfl, oN, bN⟩
      exact ⟨_, rfl, ⟨⟨_, _, rfl⟩, Rd.own oN⟩, hI.held.trans (bN.mono hI.held.size), VS.below bN⟩
    | 5, hi =>
      obtain rfl := Option.some.inj hi
      refine ⟨by rfl, ?_⟩
      go_simp
      exact ⟨_, rfl, rfl, hI.held⟩
    | 6, hi =>
      obtain rfl := Option.some.inj hi
      have v5 : ac.tmps.getD 45 undef = .pointer (some ⟨w.heap.size, 1, none⟩) := hI.at hall 5 45 rfl rfl (by rfl)
      have hc := (HCell.out wz hI.held).2.1
      refine ⟨by rfl, ?_⟩
      go_simp
      exact ⟨_, rfl, rfl, hI.held⟩
    | 7, hi =>
      obtain rfl := Option.some.inj hi
      have v6 : ac.tmps.getD 46 undef = .string nm := hI.at hall 6 46 rfl rfl (by rfl)
      refine ⟨by rfl, ?_⟩
      go_simp
      exact ⟨_, rfl, rfl, hI.held⟩
    | 8, hi =>
      obtain rfl := Option.some.inj hi
      have v7 : ac.tmps.getD 47 undef = .int .i64 (nm.size : Int) := hI.at hall 7 47 rfl rfl (by rfl)
      refine ⟨by rfl, ?_⟩
      go_simp
      refine (put_pos nm.size 1 _ (by omega) (by omega) (by omega)).mono ?_
      rintro e w' ⟨gN, cN, rfl, oN, bN⟩
      exact ⟨_, rfl, ⟨⟨_, _, rfl⟩, Rd.own oN⟩, hI.held.trans (bN.mono hI.held.size), VS.below bN⟩
    | 9, hi =>
      obtain rfl := Option.some.inj hi
      refine ⟨by rfl, ?_⟩
      go_simp
      exact ⟨_, rfl, rfl, hI.held⟩
    | 10, hi =>
      obtain rfl := Option.some.inj hi
      have v9 : ac.tmps.getD 49 undef = .pointer (some ⟨w.heap.size, 1, none⟩) := hI.at hall 9 49 rfl rfl (by rfl)
      have hc := (HCell.out wz hI.held).2.1
      refine ⟨by rfl, ?_⟩
      go_simp
      exact ⟨_, rfl, rfl, hI.held⟩
    | 11, hi =>
      obtain rfl := Option.some.inj hi
      have v10 : ac.tmps.getD 50 undef = .string nm := hI.at hall 10 50 rfl rfl (by rfl)
      refine ⟨by rfl, ?_⟩
      refine wp_convert_sb 9 22 5 (.tmp 50) rfl nm v10 Tryd.underlying9 Tryd.underlying22 Tryd.underlying5 ?_
      have bN : Below wz.heap.size wz (Go.Lib.bytesWorld wz 5 nm) := Go.Joins.below_bytesWorld _ wz _ nm (Nat.le_refl _)
      exact ⟨_, rfl, rd_bytesWorld wz nm HN.out, hI.held.trans (bN.mono hI.held.size), VS.below bN⟩
    | 12, hi =>
      obtain rfl := Option.some.inj hi
      have v11 : Rd .u8 wz (ac.tmps.getD 51 undef) (strInts nm) := hI.at hall 11 51 rfl rfl (by rfl)
      generalize hx : ac.tmps.getD 51 undef = x51 at v11
      have HV11 := hide v11
      clear v11
      refine ⟨by rfl, ?_⟩
      go_simp
      refine (fill_pos x51 (strInts nm) 26 _ HV11.out (by rw [strInts_len]; exact hn0) (by rw [strInts_len]; exact hn) (by omega)).mono ?_
      rintro e w' ⟨gN, cN, rfl, oN, bN⟩
      exact ⟨_, rfl, ⟨⟨_, _, rfl⟩, Rd.own oN⟩, hI.held.trans (bN.mono hI.held.size), VS.below bN⟩
    | 13, hi =>
      obtain rfl := Option.some.inj hi
      refine ⟨by rfl, ?_⟩
      go_simp
      refine (put_pos 0 4 _ (by omega) (by omega) (by omega)).mono ?_
      rintro e w' ⟨gN, cN, rfl, oN, bN⟩
      exact ⟨_, rfl, ⟨⟨_, _, rfl⟩, Rd.own oN⟩, hI.held.trans (bN.mono hI.held.size), VS.below bN⟩
    | 14, hi =>
      obtain rfl := Option.some.inj hi
      obtain ⟨⟨x0, y0, e0'⟩, q0⟩ : Sl 8 snapLet (ac.tmps.getD 41 undef) wz := hI.at hall 1 41 rfl rfl (by rfl)
      rw [e0'] at q0
      have Q0 := hide q0
      clear q0
      obtain ⟨⟨x1, y1, e1'⟩, q1⟩ : Sl 1 (le 1 a) (ac.tmps.getD 44 undef) wz := hI.at hall 4 44 rfl rfl (by rfl)
      rw [e1'] at q1
      have Q1 := hide q1
      clear q1
      obtain ⟨⟨x2, y2, e2'⟩, q2⟩ : Sl 1 (le 1 nm.size) (ac.tmps.getD 48 undef) wz := hI.at hall 8 48 rfl rfl (by rfl)
      rw [e2'] at q2
      have Q2 := hide q2
      clear q2
      obtain ⟨⟨x3, y3, e3'⟩, q3⟩ : Sl 26 (strInts nm ++ List.replicate (26 - (strInts nm).length) 0) (ac.tmps.getD 52 undef) wz := hI.at hall 12 52 rfl rfl (by rfl)
      rw [e3'] at q3
      have Q3 := hide q3
      clear q3
      obtain ⟨⟨x4, y4, e4'⟩, q4⟩ : Sl 4 (le 4 0) (ac.tmps.getD 53 undef) wz := hI.at hall 13 53 rfl rfl (by rfl)
      rw [e4'] at q4
      have Q4 := hide q4
      clear q4
      have n0 := e0'
      rw [Array.getD_eq_getD_getElem?] at n0
      have n1 := e1'
      rw [Array.getD_eq_getD_getElem?] at n1
      have n2 := e2'
      rw [Array.getD_eq_getD_getElem?] at n2
      have n3 := e3'
      rw [Array.getD_eq_getD_getElem?] at n3
      have n4 := e4'
      rw [Array.getD_eq_getD_getElem?] at n4
      refine ⟨by rfl, ?_⟩
      go_simp
      have bN := (Below.refl wz.heap.size wz).alloc (Nat.le_refl _) (.cells #[.slice (some ⟨x0, 0, none⟩) 8 y0, .slice (some ⟨x1, 0, none⟩) 1 y1, .slice (some ⟨x2, 0, none⟩) 1 y2, .slice (some ⟨x3, 0, none⟩) 26 y3, .slice (some ⟨x4, 0, none⟩) 4 y4] 22)
      have HV := hide (show VS W.heap.size w.heap.size a nm 14 (.slice (some ⟨wz.heap.size, 0, none⟩) 5 5) (wz.alloc (.cells #[.slice (some ⟨x0, 0, none⟩) 8 y0, .slice (some ⟨x1, 0, none⟩) 1 y1, .slice (some ⟨x2, 0, none⟩) 1 y2, .slice (some ⟨x3, 0, none⟩) 26 y3, .slice (some ⟨x4, 0, none⟩) 4 y4] 22)) from ⟨wz.heap.size, rfl, by simp, [.slice (some ⟨x0, 0, none⟩) 8 y0, .slice (some ⟨x1, 0, none⟩) 1 y1, .slice (some ⟨x2, 0, none⟩) 1 y2, .slice (some ⟨x3, 0, none⟩) 26 y3, .slice (some ⟨x4, 0, none⟩) 4 y4], fun j u hu => by
        rw [cell_of_row _ _ j _ _ _ (heap_alloc_new wz _)]
        simpa using hu, Q0.out.below bN, Q1.out.below bN, Q2.out.below bN, Q3.out.below bN, Q4.out.below bN, trivial⟩)
      exact ⟨_, rfl, HV.out, hI.held.trans (bN.mono hI.held.size), VS.below bN⟩
    | 15, hi =>
      obtain rfl := Option.some.inj hi
      obtain ⟨g, e14, hg14, vs, hc14, ha14⟩ := hI.at hall 14 54 rfl rfl (by rfl)
      have HA14 := hide (And.intro hc14 ha14)
      clear hc14 ha14
      refine ⟨by rfl, ?_⟩
      go_simp
      refine (join_any g 5 5 vs ([snapLet, le 1 a, le 1 nm.size, strInts nm ++ List.replicate (26 - (strInts nm).length) 0, le 4 0] : List (List Int)) _ HA14.out.1 HA14.out.2 rfl (by omega) HPos.out.1 HPos.out.2 hg14).mono ?_
      rintro e w' ⟨vJ, rfl, oN, bN⟩
      exact ⟨_, rfl, Rd.own oN, hI.held.trans (bN.mono hI.held.size), VS.below bN⟩
    | 16, hi =>
      obtain rfl := Option.some.inj hi
      have v15 : Rd .u8 wz (ac.tmps.getD 55 undef) ([snapLet, le 1 a, le 1 nm.size, strInts nm ++ List.replicate (26 - (strInts nm).length) 0, le 4 0] : List (List Int)).flatten := hI.at hall 15 55 rfl rfl (by rfl)
      generalize hx : ac.tmps.getD 55 undef = x at v15
      refine ⟨by rfl, ?_⟩
      go_simp
      exact ⟨_, rfl, v15, hI.held⟩
    | i + 17, hi => cases hi
  case hfin =>
    intro listed ac wz hl hI
    refine NoPanic.normal ?_
    have v4 : Rd .u8 wz (ac.tmps.getD 4 undef) ([snapLet, le 1 a, le 1 nm.size, strInts nm ++ List.replicate (26 - (strInts nm).length) 0, le 4 0] : List (List Int)).flatten := hI.vals 16 _ 4 rfl (hl 16 (by decide)) rfl
    have f1 : ac.tmps.getD 1 undef = .pointer (some ⟨w.heap.size, 0, none⟩) := hI.fix 1 _ (by simp)
    have hsz := hI.sz
    have hdf := hI.df
    have hB := hI.held
    clear hI hl
    generalize ([snapLet, le 1 a, le 1 nm.size, strInts nm ++ List.replicate (26 - (strInts nm).length) 0, le 4 0] : List (List Int)).flatten = J at v4 HJoin
    go_wp2
    generalize hx4 : ac.tmps.getD 4 undef = x4 at v4
    have HPos2 := hide (show (∀ z ∈ ([J, le 8 b, le 8 c, bytesR s ds p q] : List (List Int)), 0 < z.length) ∧ ([J, le 8 b, le 8 c, bytesR s ds p q] : List (List Int)).flatten.length ≤ 100000 from by
      have hl := bytesS_len a nm b c s ds p q HD.out hn
      rw [← HJoin.out] at hl
      simp only [List.flatten_cons, List.flatten_nil, List.length_append, List.length_nil, le_len, bytesR_len s ds p q HD.out] at hl
      constructor
      · intro z hz
        simp only [List.mem_cons, List.not_mem_nil, or_false] at hz
        rcases hz with rfl | rfl | rfl | rfl
        · omega
        · rw [le_len]; omega
        · rw [le_len]; omega
        · rw [bytesR_len s ds p q HD.out]; omega
      · simp only [List.flatten_cons, List.flatten_nil, List.length_append, List.length_nil, le_len, bytesR_len s ds p q HD.out]
        omega)
    have V4 := hide v4
    clear v4
    refine wp_region_noPanic ?_
    refine wp_region_any (by kernel_rfl) ?_
    refine wpAny_invB [(1, .pointer (some ⟨w.heap.size, 0, none⟩)), (4, x4)] (fun w' => Below wz.heap.size wz w') (VT W.heap.size w.heap.size J a nm b c s ds p q x4) 69 [] (by kernel_rfl) ?hstep4 ?hfin4 _ _ hsz hdf ((Below.refl _ _).drew) (by
      intro t v h
      simp only [List.mem_cons, List.not_mem_nil, or_false, Prod.mk.injEq] at h
      rcases h with ⟨rfl, rfl⟩ | ⟨rfl, rfl⟩
      · exact f1
      · exact hx4)
    case hstep4 =>
      intro i o listed ac wy hi hall hI
      have f1 : ac.tmps.getD 1 undef = .pointer (some ⟨w.heap.size, 0, none⟩) := hI.fix 1 _ (by simp)
      have f4 : ac.tmps.getD 4 undef = x4 := hI.fix 4 _ (by simp)
      have hBW : Below W.heap.size W wy := hB.trans (hI.held.mono hB.size)
      match i, hi with
      | 0, hi =>
        obtain rfl := Option.some.inj hi
        refine ⟨by rfl, ?_⟩
        go_simp
        exact ⟨_, rfl, rfl, hI.held⟩
      | 1, hi =>
        obtain rfl := Option.some.inj hi
        refine ⟨by rfl, ?_⟩
        go_simp
        exact ⟨_, rfl, rfl, hI.held⟩
      | 2, hi =>
        obtain rfl := Option.some.inj hi
        have v1 : ac.tmps.getD 57 undef = .pointer (some ⟨w.heap.size, 2, none⟩) := hI.at hall 1 57 rfl rfl (by rfl)
        have hc := (HCell.out wy hBW).2.2.1
        refine ⟨by rfl, ?_⟩
        go_simp
        exact ⟨_, rfl, rfl, hI.held⟩
      | 3, hi =>
        obtain rfl := Option.some.inj hi
        have v2 : ac.tmps.getD 58 undef = .int .i64 (b : Int) := hI.at hall 2 58 rfl rfl (by rfl)
        refine ⟨by rfl, ?_⟩
        go_simp
        refine (put_pos b 8 _ (by omega) (by omega) (by omega)).mono ?_
        rintro e w' ⟨gN, cN, rfl, oN, bN⟩
        exact ⟨_, rfl, ⟨⟨_, _, rfl⟩, Rd.own oN⟩, hI.held.trans (bN.mono hI.held.size), VT.below bN⟩
      | 4, hi =>
        obtain rfl := Option.some.inj hi
        refine ⟨by rfl, ?_⟩
        go_simp
        exact ⟨_, rfl, rfl, hI.held⟩
      | 5, hi =>
        obtain rfl := Option.some.inj hi
        have v4 : ac.tmps.getD 60 undef = .pointer (some ⟨w.heap.size, 3, none⟩) := hI.at hall 4 60 rfl rfl (by rfl)
        have hc := (HCell.out wy hBW).2.2.2
        refine ⟨by rfl, ?_⟩
        go_simp
        exact ⟨_, rfl, rfl, hI.held⟩
      | 6, hi =>
        obtain rfl := Option.some.inj hi
        have v5 : ac.tmps.getD 61 undef = .int .i64 (c : Int) := hI.at hall 5 61 rfl rfl (by rfl)
        refine ⟨by rfl, ?_⟩
        go_simp
        refine (put_pos c 8 _ (by omega) (by omega) (by omega)).mono ?_
        rintro e w' ⟨gN, cN, rfl, oN, bN⟩
        exact ⟨_, rfl, ⟨⟨_, _, rfl⟩, Rd.own oN⟩, hI.held.trans (bN.mono hI.held.size), VT.below bN⟩
      | 7, hi =>
        obtain rfl := Option.some.inj hi
        refine ⟨by rfl, ?_⟩
        go_simp
        exact ⟨_, rfl, rfl, hI.held⟩
      | 8, hi =>
        obtain rfl := Option.some.inj hi
        have v7 : ac.tmps.getD 63 undef = .pointer (some ⟨w.heap.size, 4, none⟩) := hI.at hall 7 63 rfl rfl (by rfl)
        refine ⟨by rfl, wp_load_mid 25 (.tmp 63) rfl w.heap.size 4 v7 ((rootI s ds p q).map (Value.int .i64)) _ (snap_range (a : Int) nm (b : Int) (c : Int) s ds p q (KW.out.below hBW KW.out.lt)) Tryd.underlying25 rfl (by rw [List.length_map, ← cellsI_size, HLen.out]; exact info15) ?_⟩
        exact ⟨_, rfl, rfl, hI.held, fun _ _ h => h⟩
      | 9, hi =>
        obtain rfl := Option.some.inj hi
        have v8 : ac.tmps.getD 64 undef = .agg (cellsI (rootI s ds p q)) := hI.at hall 8 64 rfl rfl (by rfl)
        refine ⟨by rfl, ?_⟩
        go_simp
        refine (rootBytes_pos s ds p q _ HD.out HSP.out.1 HSP.out.2).mono ?_
        rintro e w' ⟨gN, cN, rfl, oN, bN⟩
        exact ⟨_, rfl, ⟨⟨_, _, rfl⟩, Rd.own oN⟩, hI.held.trans (bN.mono hI.held.size), VT.below bN⟩
      | 10, hi =>
        obtain rfl := Option.some.inj hi
        have v0 : ac.tmps.getD 56 undef = x4 := hI.at hall 0 56 rfl rfl (by rfl)
        obtain ⟨ax, cx, ex, _⟩ := id V4.out
        have Q0 := hide ((V4.out.below ((Below.refl _ wz).mono (Nat.le_refl _))).below hI.held)
        rw [ex] at v0 Q0
        have n0 := v0
        rw [Array.getD_eq_getD_getElem?] at n0
        obtain ⟨⟨x1, y1, e1'⟩, q1⟩ : Sl 8 (le 8 b) (ac.tmps.getD 59 undef) wy := hI.at hall 3 59 rfl rfl (by rfl)
        rw [e1'] at q1
        have Q1 := hide q1
        clear q1
        have n1 := e1'
        rw [Array.getD_eq_getD_getElem?] at n1
        obtain ⟨⟨x2, y2, e2'⟩, q2⟩ : Sl 8 (le 8 c) (ac.tmps.getD 62 undef) wy := hI.at hall 6 62 rfl rfl (by rfl)
        rw [e2'] at q2
        have Q2 := hide q2
        clear q2
        have n2 := e2'
        rw [Array.getD_eq_getD_getElem?] at n2
        obtain ⟨⟨x3, y3, e3'⟩, q3⟩ : Sl 64 (bytesR s ds p q) (ac.tmps.getD 65 undef) wy := hI.at hall 9 65 rfl rfl (by rfl)
        rw [e3'] at q3
        have Q3 := hide q3
        clear q3
        have n3 := e3'
        rw [Array.getD_eq_getD_getElem?] at n3
        refine ⟨by rfl, ?_⟩
        go_simp
        have bN := (Below.refl wy.heap.size wy).alloc (Nat.le_refl _) (.cells #[.slice ax J.length cx, .slice (some ⟨x1, 0, none⟩) 8 y1, .slice (some ⟨x2, 0, none⟩) 8 y2, .slice (some ⟨x3, 0, none⟩) 64 y3] 22)
        have HV := hide (show VT W.heap.size w.heap.size J a nm b c s ds p q x4 10 (.slice (some ⟨wy.heap.size, 0, none⟩) 4 4) (wy.alloc (.cells #[.slice ax J.length cx, .slice (some ⟨x1, 0, none⟩) 8 y1, .slice (some ⟨x2, 0, none⟩) 8 y2, .slice (some ⟨x3, 0, none⟩) 64 y3] 22)) from ⟨wy.heap.size, rfl, by simp, [.slice ax J.length cx, .slice (some ⟨x1, 0, none⟩) 8 y1, .slice (some ⟨x2, 0, none⟩) 8 y2, .slice (some ⟨x3, 0, none⟩) 64 y3], fun j u hu => by
          rw [cell_of_row _ _ j _ _ _ (heap_alloc_new wy _)]
          simpa using hu, Q0.out.below bN, Q1.out.below bN, Q2.out.below bN, Q3.out.below bN, trivial⟩)
        exact ⟨_, rfl, HV.out, hI.held.trans (bN.mono hI.held.size), VT.below bN⟩
      | 11, hi =>
        obtain rfl := Option.some.inj hi
        obtain ⟨g, e10, hg10, vs, hc10, ha10⟩ : VT W.heap.size w.heap.size J a nm b c s ds p q x4 10 (ac.tmps.getD 66 undef) wy := hI.at hall 10 66 rfl rfl (by rfl)
        have HA10 := hide (And.intro hc10 ha10)
        clear hc10 ha10
        refine ⟨by rfl, ?_⟩
        go_simp
        refine (join_any g 4 4 vs [J, le 8 b, le 8 c, bytesR s ds p q] _ HA10.out.1 HA10.out.2 rfl (by omega) HPos2.out.1 HPos2.out.2 hg10).mono ?_
        rintro e w' ⟨vJ, rfl, oN, bN⟩
        exact ⟨_, rfl, Rd.own oN, hI.held.trans (bN.mono hI.held.size), VT.below bN⟩
      | 12, hi =>
        obtain rfl := Option.some.inj hi
        have v11 : Rd .u8 wy (ac.tmps.getD 67 undef) ([J, le 8 b, le 8 c, bytesR s ds p q] : List (List Int)).flatten := hI.at hall 11 67 rfl rfl (by rfl)
        rw [HJoin.out] at v11
        generalize hx : ac.tmps.getD 67 undef = x67 at v11
        have HV11 := hide v11
        clear v11
        refine ⟨by rfl, ?_⟩
        go_simp
        refine (sealed_any x67 (bytesS a nm b c s ds p q) _ HV11.out (by rw [bytesS_len a nm b c s ds p q HD.out hn]; omega) (by rw [bytesS_len a nm b c s ds p q HD.out hn]; omega) (bytesS_bd a nm b c s ds p q)).mono ?_
        rintro e w' ⟨vS, rfl, oN, bN⟩
        exact ⟨_, rfl, own_mono oN hBW.size, hI.held.trans (bN.mono hI.held.size), VT.below bN⟩
      | 13, hi =>
        obtain rfl := Option.some.inj hi
        have v12 : wy.ownsRow W.heap.size 5 1 (ac.tmps.getD 68 undef) 512 ((sealed (bytesS a nm b c s ds p q)).map (Value.int .u8)) := hI.at hall 12 68 rfl rfl (by rfl)
        generalize hx : ac.tmps.getD 68 undef = x68 at v12
        have HV12 := hide v12
        clear v12
        refine ⟨by rfl, ?_⟩
        go_simp
        exact ⟨_, rfl, HV12.out, hI.held⟩
      | 14, hi =>
        obtain rfl := Option.some.inj hi
        refine ⟨by rfl, ?_⟩
        go_simp
        exact ⟨_, rfl, rfl, hI.held⟩
      | i + 15, hi => cases hi
    case hfin4 =>
      intro listed ac2 wy hl hI
      refine NoPanic.normal ?_
      have r2 : wy.ownsRow W.heap.size 5 1 (ac2.tmps.getD 2 undef) 512 ((sealed (bytesS a nm b c s ds p q)).map (Value.int .u8)) := hI.vals 13 _ 2 rfl (hl 13 (by decide)) rfl
      have r3 : ac2.tmps.getD 3 undef = .int .i64 0 := hI.vals 14 _ 3 rfl (hl 14 (by decide)) rfl
      have hB2 := hI.held
      have hdf2 := hI.df
      clear hI hl
      go_wp2
      try simp only [Exit.inBlock, Exit.then]
      refine bodyPost_ret (results_tmp2 rfl _ _ _) hdf2 ?_
      exact ⟨_, by rw [r3], own_mono r2 B2.out.size, B2.out.trans ((hB.trans (hB2.mono hB.size)).mono B2.out.size)⟩

theorem specS_any (pl : Int) (nm : ByteArray) (ge cl s : Int) (ds : List Int) (p q : Int) (w : World) (hd : ds.length = 12) (hn : nm.size ≤ maxLen) :
    Calls Tryd.prog 15 #[.agg (snapC pl nm ge cl s ds p q)] w fun e w' => ∃ v', e = .returned (.tuple #[v', .int .i64 (codeS pl nm ge cl s ds p q)]) ∧ w'.ownsRow w.heap.size 5 1 v' (encS pl nm ge cl s ds p q).length ((encS pl nm ge cl s ds p q).map (Value.int .u8)) ∧ Below w.heap.size w w' := by
  cases hr : rightS pl nm ge cl s ds p q with
  | false =>
    refine (specS_false pl nm ge cl s ds p q w hd hn hr).mono ?_
    rintro e w' ⟨rfl, hb⟩
    rw [show codeS pl nm ge cl s ds p q = 7 from by simp [codeS, hr], show encS pl nm ge cl s ds p q = [] from by simp [encS, hr]]
    exact ⟨_, rfl, World.ownsRow_nil _ _ _ _, hb⟩
  | true =>
    obtain ⟨b0, b1, b2, b3, bs, bp⟩ := snap_bd hd hr
    have hn0 : 0 < nm.size := by
      have h := hr
      unfold rightS at h
      simp only [Bool.and_eq_true] at h
      exact (chk_size h.1.1.1.2).2
    obtain ⟨a, rfl⟩ := Int.eq_ofNat_of_zero_le b0.1
    obtain ⟨b, rfl⟩ := Int.eq_ofNat_of_zero_le b2.1
    obtain ⟨c, rfl⟩ := Int.eq_ofNat_of_zero_le b3.1
    refine (specS_true a nm b c s ds p q w hd (by omega) b1.1 hn0 (by omega) (by omega) bs bp hr).mono ?_
    rintro e w' ⟨v', rfl, ho, hb⟩
    refine ⟨v', by unfold codeS; rw [hr]; rfl, ?_, hb⟩
    unfold encS
    rw [if_pos hr]
    simp only [Int.toNat_natCast]
    rw [sealed_len _ (by rw [bytesS_len _ _ _ _ _ _ _ _ hd b1.1]; omega)]
    exact ho
end Go.Proofs.YtkaennkfieebmaaDoor

namespace Go.Proofs.YtkaennkfieebmaaDoor
set_option linter.unusedVariables false
set_option linter.unusedSimpArgs false
open Go.RowKit

theorem freeze_own {w : World} {base : Nat} {e : TypeId} {v : Value} {xs : List Value} {C : Array Value} {t : TypeId} {n : Nat} (h : w.ownsRow base e 1 v n xs) (g k : Nat) (hg : ∃ fr, w.heap[g]? = some (.cells C t fr)) (hn : C.size < n) : (w.freeze ⟨g, k, none⟩ 1).ownsRow base e 1 v n xs := by
  refine ⟨h.1, ?_⟩
  rcases h.2 with h | ⟨g', cap, cur, rfl, hb, hg', h1, h2, h3, h4⟩
  · exact .inl h
  · refine .inr ⟨g', cap, cur, rfl, hb, ?_, h1, h2, h3, h4⟩
    have hne : g ≠ g' := by
      rintro rfl
      obtain ⟨fr, hg⟩ := hg
      rw [hg] at hg'
      injection hg' with hg'
      injection hg' with hg' _ _
      subst hg'
      omega
    unfold World.freeze
    rw [if_neg (by decide)]
    simp only [Array.getElem?_modify]
    rw [if_neg hne]
    exact hg'
/-- What the values of the region are. -/
def VF (B b gen bl cu ck op ev lg : Nat) (s1 : Int) (ds1 : List Int) (p1 q1 s2 : Int) (ds2 : List Int) (p2 q2 : Int) (i : Nat) (v : Value) (w : World) : Prop := match i with
  | 0 => ∃ g, v = .slice (some ⟨g, 0, none⟩) 8 8 ∧ B ≤ g ∧ g < w.heap.size ∧ Rd .u8 w v fsLet ∧ ∃ fr, w.heap[g]? = some (.cells #[.int .u8 114, .int .u8 111, .int .u8 111, .int .u8 116, .int .u8 114, .int .u8 101, .int .u8 99, .int .u8 49] 5 fr)
  | 1 => Sl 8 fsLet v w
  | 2 => v = .pointer (some ⟨b, 0, none⟩)
  | 3 => v = .int .i64 (gen : Int)
  | 4 => Sl 8 (le 8 gen) v w
  | 5 => v = .pointer (some ⟨b, 1, none⟩)
  | 6 => v = .int .i64 (bl : Int)
  | 7 => Sl 4 (le 4 bl) v w
  | 8 => v = .pointer (some ⟨b, 2, none⟩)
  | 9 => v = .int .i64 (cu : Int)
  | 10 => Sl 4 (le 4 cu) v w
  | 11 => v = .pointer (some ⟨b, 3, none⟩)
  | 12 => v = .int .i64 (ck : Int)
  | 13 => Sl 8 (le 8 ck) v w
  | 14 => v = .pointer (some ⟨b, 4, none⟩)
  | 15 => v = .int .i64 (op : Int)
  | 16 => Sl 8 (le 8 op) v w
  | 17 => v = .pointer (some ⟨b, 5, none⟩)
  | 18 => v = .int .i64 (ev : Int)
  | 19 => Sl 4 (le 4 ev) v w
  | 20 => v = .pointer (some ⟨b, 6, none⟩)
  | 21 => v = .int .i64 (lg : Int)
  | 22 => Sl 4 (le 4 lg) v w
  | 23 => v = .pointer (some ⟨b, 7, none⟩)
  | 24 => v = .agg (cellsI (rootI s1 ds1 p1 q1))
  | 25 => Sl 64 (bytesR s1 ds1 p1 q1) v w
  | 26 => v = .pointer (some ⟨b, 22, none⟩)
  | 27 => v = .agg (cellsI (rootI s2 ds2 p2 q2))
  | 28 => Sl 64 (bytesR s2 ds2 p2 q2) v w
  | 29 => ∃ g, v = .slice (some ⟨g, 0, none⟩) 10 10 ∧ g < w.heap.size ∧ ∃ vs, (∀ j u, vs[j]? = some u → w.cell? ⟨g, j, none⟩ = some u) ∧ AllRd w vs [fsLet, le 8 gen, le 4 bl, le 4 cu, le 8 ck, le 8 op, le 4 ev, le 4 lg, bytesR s1 ds1 p1 q1, bytesR s2 ds2 p2 q2]
  | 30 => w.ownsRow B 5 1 v 176 ((headF gen bl cu ck op ev lg s1 ds1 p1 q1 s2 ds2 p2 q2).map (Value.int .u8))
  | 31 => w.ownsRow B 5 1 v 176 ((headF gen bl cu ck op ev lg s1 ds1 p1 q1 s2 ds2 p2 q2).map (Value.int .u8))
  | _ => False
theorem VF.below {B b gen bl cu ck op ev lg : Nat} {s1 : Int} {ds1 : List Int} {p1 q1 s2 : Int} {ds2 : List Int} {p2 q2 : Int} {w w' : World} (hb : Below w.heap.size w w') : ∀ (j : Nat) (u : Value), VF B b gen bl cu ck op ev lg s1 ds1 p1 q1 s2 ds2 p2 q2 j u w → VF B b gen bl cu ck op ev lg s1 ds1 p1 q1 s2 ds2 p2 q2 j u w'
  | 0, _, ⟨g, h1, h2, h3, h4, h5⟩ => ⟨g, h1, h2, Nat.lt_of_lt_of_le h3 hb.size, h4.below hb, by rw [hb.block g h3]; exact h5⟩
  | 1, _, h => Sl.below h hb
  | 2, _, h => h
  | 3, _, h => h
  | 4, _, h => Sl.below h hb
  | 5, _, h => h
  | 6, _, h => h
  | 7, _, h => Sl.below h hb
  | 8, _, h => h
  | 9, _, h => h
  | 10, _, h => Sl.below h hb
  | 11, _, h => h
  | 12, _, h => h
  | 13, _, h => Sl.below h hb
  | 14, _, h => h
  | 15, _, h => h
  | 16, _, h => Sl.below h hb
  | 17, _, h => h
  | 18, _, h => h
  | 19, _, h => Sl.below h hb
  | 20, _, h => h
  | 21, _, h => h
  | 22, _, h => Sl.below h hb
  | 23, _, h => h
  | 24, _, h => h
  | 25, _, h => Sl.below h hb
  | 26, _, h => h
  | 27, _, h => h
  | 28, _, h => Sl.below h hb
  | 29, _, ⟨g, h1, h2, vs, h3, h4⟩ => ⟨g, h1, Nat.lt_of_lt_of_le h2 hb.size, vs, fun j u hu => (hb.cell (p := ⟨g, j, none⟩) h2).trans (h3 j u hu), h4.below hb⟩
  | 30, _, h => own_below h hb
  | 31, _, h => own_below h hb
  | _ + 32, _, h => h
theorem VF.freeze {B b gen bl cu ck op ev lg : Nat} {s1 : Int} {ds1 : List Int} {p1 q1 s2 : Int} {ds2 : List Int} {p2 q2 : Int} {w : World} (g' m : Nat) (hg : ∃ fr, w.heap[g']? = some (.cells #[.int .u8 114, .int .u8 111, .int .u8 111, .int .u8 116, .int .u8 114, .int .u8 101, .int .u8 99, .int .u8 49] 5 fr)) : ∀ (j : Nat) (u : Value), VF B b gen bl cu ck op ev lg s1 ds1 p1 q1 s2 ds2 p2 q2 j u w → VF B b gen bl cu ck op ev lg s1 ds1 p1 q1 s2 ds2 p2 q2 j u (w.freeze ⟨g', m, none⟩ 1)
  | 0, _, ⟨g, h1, h2, h3, h4, h5⟩ => ⟨g, h1, h2, by rw [freeze_size]; exact h3, h4.freeze g' m, freeze_row w g' m h5⟩
  | 1, _, h => ⟨h.1, h.2.freeze g' m⟩
  | 2, _, h => h
  | 3, _, h => h
  | 4, _, h => ⟨h.1, h.2.freeze g' m⟩
  | 5, _, h => h
  | 6, _, h => h
  | 7, _, h => ⟨h.1, h.2.freeze g' m⟩
  | 8, _, h => h
  | 9, _, h => h
  | 10, _, h => ⟨h.1, h.2.freeze g' m⟩
  | 11, _, h => h
  | 12, _, h => h
  | 13, _, h => ⟨h.1, h.2.freeze g' m⟩
  | 14, _, h => h
  | 15, _, h => h
  | 16, _, h => ⟨h.1, h.2.freeze g' m⟩
  | 17, _, h => h
  | 18, _, h => h
  | 19, _, h => ⟨h.1, h.2.freeze g' m⟩
  | 20, _, h => h
  | 21, _, h => h
  | 22, _, h => ⟨h.1, h.2.freeze g' m⟩
  | 23, _, h => h
  | 24, _, h => h
  | 25, _, h => ⟨h.1, h.2.freeze g' m⟩
  | 26, _, h => h
  | 27, _, h => h
  | 28, _, h => ⟨h.1, h.2.freeze g' m⟩
  | 29, _, ⟨g, h1, h2, vs, h3, h4⟩ => ⟨g, h1, by rw [freeze_size]; exact h2, vs, fun j u hu => by rw [freeze_cell]; exact h3 j u hu, h4.freeze g' m⟩
  | 30, _, h => freeze_own h g' m hg (by simp)
  | 31, _, h => freeze_own h g' m hg (by simp)
  | _ + 32, _, h => h
theorem head_flat (gen bl cu ck op ev lg : Nat) (s1 : Int) (ds1 : List Int) (p1 q1 s2 : Int) (ds2 : List Int) (p2 q2 : Int) : ([fsLet, le 8 gen, le 4 bl, le 4 cu, le 8 ck, le 8 op, le 4 ev, le 4 lg, bytesR s1 ds1 p1 q1, bytesR s2 ds2 p2 q2] : List (List Int)).flatten = (headF gen bl cu ck op ev lg s1 ds1 p1 q1 s2 ds2 p2 q2) := by
  simp [headF, List.append_assoc]

theorem tmps53 (a : Array Value) (h : a.size = 53) : a = #[a.getD 0 undef, a.getD 1 undef, a.getD 2 undef, a.getD 3 undef, a.getD 4 undef, a.getD 5 undef, a.getD 6 undef, a.getD 7 undef, a.getD 8 undef, a.getD 9 undef, a.getD 10 undef, a.getD 11 undef, a.getD 12 undef, a.getD 13 undef, a.getD 14 undef, a.getD 15 undef, a.getD 16 undef, a.getD 17 undef, a.getD 18 undef, a.getD 19 undef, a.getD 20 undef, a.getD 21 undef, a.getD 22 undef, a.getD 23 undef, a.getD 24 undef, a.getD 25 undef, a.getD 26 undef, a.getD 27 undef, a.getD 28 undef, a.getD 29 undef, a.getD 30 undef, a.getD 31 undef, a.getD 32 undef, a.getD 33 undef, a.getD 34 undef, a.getD 35 undef, a.getD 36 undef, a.getD 37 undef, a.getD 38 undef, a.getD 39 undef, a.getD 40 undef, a.getD 41 undef, a.getD 42 undef, a.getD 43 undef, a.getD 44 undef, a.getD 45 undef, a.getD 46 undef, a.getD 47 undef, a.getD 48 undef, a.getD 49 undef, a.getD 50 undef, a.getD 51 undef, a.getD 52 undef] := by
  have e : a = ((List.range 53).map fun i => a.getD i undef).toArray := Array.ext (by simp [h]) (fun i h1 h2 => by simp [Array.getD, h1])
  exact e

set_option maxRecDepth 100000 in
set_option maxHeartbeats 1000000 in
theorem specFs_false (gen bl cu ck op ev lg s1 : Int) (ds1 : List Int) (p1 q1 s2 : Int) (ds2 : List Int) (p2 q2 : Int) (sn : List Int) (w : World) (hd1 : ds1.length = 12) (hd2 : ds2.length = 12) (hsn : sn.length = 31) (hr : rightF gen bl cu ck op ev lg s1 ds1 p1 q1 s2 ds2 p2 q2 sn = false) :
    Calls Tryd.prog 23 #[.agg (cellsI (fsI gen bl cu ck op ev lg s1 ds1 p1 q1 s2 ds2 p2 q2 sn))] w fun e w' => e = .returned (.tuple #[.slice none 0 0, .int .i64 7]) ∧ Below w.heap.size w w' := by
  have HR := hide hr
  have HZ := hide (show (cellsI (fsI gen bl cu ck op ev lg s1 ds1 p1 q1 s2 ds2 p2 q2 sn)).size = 68 from by rw [cellsI_size]; exact fsI_len _ _ _ _ _ _ _ _ _ _ _ _ _ _ _ _ hd1 hd2 hsn)
  have HC := hide (fun w => l02Fs_any gen bl cu ck op ev lg s1 ds1 p1 q1 s2 ds2 p2 q2 sn w hd1 hd2 hsn)
  have K0 := hide (And.intro (Blk.new w (cellsI (fsI gen bl cu ck op ev lg s1 ds1 p1 q1 s2 ds2 p2 q2 sn)) 36) (show Below w.heap.size w (w.alloc (.cells (cellsI (fsI gen bl cu ck op ev lg s1 ds1 p1 q1 s2 ds2 p2 q2 sn)) 36)) from (Below.refl _ _).alloc (Nat.le_refl _) _))
  clear hd1 hd2 hsn hr
  go_enter Tryd.func23, Tryd.ntmps23
  go_wp2_with (first | (refine wpList_load_row rfl 36 _ rfl w.heap.size rfl 36 (cellsI (fsI gen bl cu ck op ev lg s1 ds1 p1 q1 s2 ds2 p2 q2 sn)) (0, 0) _ K0.out.1 Tryd.underlying36 rfl (by rw [HZ.out]; exact info68) ?_) | (go_at_call 50; fail))
  refine (HC.out _).mono ?_
  rintro e w1 ⟨rfl, b1⟩
  have B1 := hide (K0.out.2.trans (b1.mono K0.out.2.size))
  rw [HR.out]
  clear b1
  go_wp2
  go_ret2
  exact ⟨rfl, B1.out⟩
set_option maxRecDepth 100000 in
set_option maxHeartbeats 2000000 in
theorem specFs_true (gen bl cu ck op ev lg : Nat) (s1 : Int) (ds1 : List Int) (p1 q1 s2 : Int) (ds2 : List Int) (p2 q2 : Int) (sn : List Int) (w : World) (hd1 : ds1.length = 12) (hd2 : ds2.length = 12) (hsn : sn.length = 31) (hB : FsBd (gen : Int) (bl : Int) (cu : Int) (ck : Int) (op : Int) (ev : Int) (lg : Int) s1 ds1 p1 q1 s2 ds2 p2 q2 sn) (hr : rightF (gen : Int) (bl : Int) (cu : Int) (ck : Int) (op : Int) (ev : Int) (lg : Int) s1 ds1 p1 q1 s2 ds2 p2 q2 sn = true) :
    Calls Tryd.prog 23 #[.agg (cellsI (fsI (gen : Int) (bl : Int) (cu : Int) (ck : Int) (op : Int) (ev : Int) (lg : Int) s1 ds1 p1 q1 s2 ds2 p2 q2 sn))] w fun e w' => ∃ v', e = .returned (.tuple #[v', .int .i64 0]) ∧ w'.ownsRow w.heap.size 5 1 v' 512 ((sealed (bytesF gen bl cu ck op ev lg s1 ds1 p1 q1 s2 ds2 p2 q2 sn)).map (Value.int .u8)) ∧ Below w.heap.size w w' := by
  obtain ⟨i0, hi0, hz0, hz1, hz2⟩ := info_parts infoU8
  have HR := hide hr
  have HD := hide (And.intro hd1 (And.intro hd2 hsn))
  have HBd := hide hB
  have HLen1 := hide (show (cellsI (rootI s1 ds1 p1 q1)).size = 15 from by rw [cellsI_size]; exact rootI_len _ _ _ _ HD.out.1)
  have HLen2 := hide (show (cellsI (rootI s2 ds2 p2 q2)).size = 15 from by rw [cellsI_size]; exact rootI_len _ _ _ _ HD.out.2.1)
  have HZ := hide (show (cellsI (fsI (gen : Int) (bl : Int) (cu : Int) (ck : Int) (op : Int) (ev : Int) (lg : Int) s1 ds1 p1 q1 s2 ds2 p2 q2 sn)).size = 68 from by rw [cellsI_size]; exact fsI_len _ _ _ _ _ _ _ _ _ _ _ _ _ _ _ _ hd1 hd2 hsn)
  have HC := hide (fun w => l02Fs_any (gen : Int) (bl : Int) (cu : Int) (ck : Int) (op : Int) (ev : Int) (lg : Int) s1 ds1 p1 q1 s2 ds2 p2 q2 sn w hd1 hd2 hsn)
  have HX := hide (fun k hk w => index31 sn k HD.out.2.2 hk w)
  have a0 : gen < 281474976710656 := by have := hB.g0; omega
  have a1 : bl < 2049 := by have := hB.g1; omega
  have a2 : cu < 2049 := by have := hB.g2; omega
  have a3 : ck < 281474976710656 := by have := hB.g3; omega
  have a4 : op < 281474976710656 := by have := hB.g4; omega
  have a5 : ev < 2049 := by have := hB.g5; omega
  have a6 : lg < 65537 := by have := hB.g6; omega
  have K0 := hide (And.intro (Blk.new w (cellsI (fsI (gen : Int) (bl : Int) (cu : Int) (ck : Int) (op : Int) (ev : Int) (lg : Int) s1 ds1 p1 q1 s2 ds2 p2 q2 sn)) 36) (show Below w.heap.size w (w.alloc (.cells (cellsI (fsI (gen : Int) (bl : Int) (cu : Int) (ck : Int) (op : Int) (ev : Int) (lg : Int) s1 ds1 p1 q1 s2 ds2 p2 q2 sn)) 36)) from (Below.refl _ _).alloc (Nat.le_refl _) _))
  clear hd1 hd2 hsn hr hB
  go_enter Tryd.func23, Tryd.ntmps23
  go_wp2_with (first | (refine wpList_load_row rfl 36 _ rfl w.heap.size rfl 36 (cellsI (fsI (gen : Int) (bl : Int) (cu : Int) (ck : Int) (op : Int) (ev : Int) (lg : Int) s1 ds1 p1 q1 s2 ds2 p2 q2 sn)) (0, 0) _ K0.out.1 Tryd.underlying36 rfl (by rw [HZ.out]; exact info68) ?_) | (go_at_call 50; fail))
  refine (HC.out _).mono ?_
  rintro e W ⟨rfl, b1⟩
  have B2 := hide (K0.out.2.trans (b1.mono K0.out.2.size))
  have KW := hide (K0.out.1.below b1 K0.out.1.lt)
  rw [HR.out]
  clear b1 K0
  go_wp2
  have hlw : w.heap.size < W.heap.size := KW.out.lt
  have HCell := hide (show ∀ w', Below W.heap.size W w' → Blk w' w.heap.size (cellsI (fsI (gen : Int) (bl : Int) (cu : Int) (ck : Int) (op : Int) (ev : Int) (lg : Int) s1 ds1 p1 q1 s2 ds2 p2 q2 sn)) 36 from fun w' h => KW.out.below h KW.out.lt)
  have HFl := hide (head_flat gen bl cu ck op ev lg s1 ds1 p1 q1 s2 ds2 p2 q2)
  have HHL := hide (headF_len gen bl cu ck op ev lg s1 ds1 p1 q1 s2 ds2 p2 q2 HD.out.1 HD.out.2.1)
  have HPos := hide (show (∀ z ∈ ([fsLet, le 8 gen, le 4 bl, le 4 cu, le 8 ck, le 8 op, le 4 ev, le 4 lg, bytesR s1 ds1 p1 q1, bytesR s2 ds2 p2 q2] : List (List Int)), 0 < z.length) ∧ ([fsLet, le 8 gen, le 4 bl, le 4 cu, le 8 ck, le 8 op, le 4 ev, le 4 lg, bytesR s1 ds1 p1 q1, bytesR s2 ds2 p2 q2] : List (List Int)).flatten.length ≤ 100000 from by
    constructor
    · intro z hz
      simp only [List.mem_cons, List.not_mem_nil, or_false] at hz
      rcases hz with rfl | rfl | rfl | rfl | rfl | rfl | rfl | rfl | rfl | rfl
      · decide
      · rw [le_len]; omega
      · rw [le_len]; omega
      · rw [le_len]; omega
      · rw [le_len]; omega
      · rw [le_len]; omega
      · rw [le_len]; omega
      · rw [le_len]; omega
      · rw [bytesR_len _ _ _ _ HD.out.1]; omega
      · rw [bytesR_len _ _ _ _ HD.out.2.1]; omega
    · rw [HFl.out, HHL.out]; omega)
  refine wp_region_noPanic ?_
  refine wp_region_any (by kernel_rfl) ?_
  refine wpAny_invB [(1, .pointer (some ⟨w.heap.size, 0, none⟩))] (fun w' => Below W.heap.size W w') (VF W.heap.size w.heap.size gen bl cu ck op ev lg s1 ds1 p1 q1 s2 ds2 p2 q2) 53 [] (by kernel_rfl) ?hstep ?hfin _ _ (by rfl) (by rfl) ((Below.refl _ _).drew) (by intro t v h; simp at h; obtain ⟨rfl, rfl⟩ := h; rfl)
  case hstep =>
    intro i o listed ac wz hi hall hI
    have f1 : ac.tmps.getD 1 undef = .pointer (some ⟨w.heap.size, 0, none⟩) := hI.fix 1 _ (by simp)
    match i, hi with
    | 0, hi =>
      obtain rfl := Option.some.inj hi
      have hBs := hI.held.size
      refine ⟨by rfl, ?_⟩
      go_simp
      have bN := (Below.refl wz.heap.size wz).alloc (Nat.le_refl _) (.cells #[.int .u8 114, .int .u8 111, .int .u8 111, .int .u8 116, .int .u8 114, .int .u8 101, .int .u8 99, .int .u8 49] 5)
      have HV := hide (show VF W.heap.size w.heap.size gen bl cu ck op ev lg s1 ds1 p1 q1 s2 ds2 p2 q2 0 (.slice (some ⟨wz.heap.size, 0, none⟩) 8 8) (wz.alloc (.cells #[.int .u8 114, .int .u8 111, .int .u8 111, .int .u8 116, .int .u8 114, .int .u8 101, .int .u8 99, .int .u8 49] 5)) from ⟨wz.heap.size, rfl, hBs, by simp, Rd.own (World.ownsRow_lit (base := wz.heap.size) (e := 5) (size := 1) wz #[.int .u8 114, .int .u8 111, .int .u8 111, .int .u8 116, .int .u8 114, .int .u8 101, .int .u8 99, .int .u8 49] 8 (Nat.le_refl _) (by unfold maxLen; omega) rfl), (0, 0), heap_alloc_new wz _⟩)
      exact ⟨_, rfl, HV.out, hI.held.trans (bN.mono hI.held.size), VF.below bN⟩
    | 1, hi =>
      obtain rfl := Option.some.inj hi
      obtain ⟨gx, ex, hgx, hgl, v0, hfr⟩ : VF W.heap.size w.heap.size gen bl cu ck op ev lg s1 ds1 p1 q1 s2 ds2 p2 q2 0 (ac.tmps.getD 10 undef) wz := hI.at hall 0 10 rfl rfl (by rfl)
      rw [ex] at v0
      refine ⟨by rfl, wp_mark 22 5 (.tmp 10) rfl gx 8 8 ex hfr Tryd.underlying22 Tryd.underlying5 ?_⟩
      exact ⟨_, rfl, ⟨⟨_, _, rfl⟩, v0.freeze gx _⟩, freeze_below hI.held gx _ hgx, VF.freeze gx _ hfr⟩
    | 2, hi =>
      obtain rfl := Option.some.inj hi
      refine ⟨by rfl, ?_⟩
      go_simp
      exact ⟨_, rfl, rfl, hI.held⟩
    | 3, hi =>
      obtain rfl := Option.some.inj hi
      have va : ac.tmps.getD 12 undef = .pointer (some ⟨w.heap.size, 0, none⟩) := hI.at hall 2 12 rfl rfl (by rfl)
      have hc := ((HCell.out wz hI.held).cell 0).trans (show (cellsI (fsI (gen : Int) (bl : Int) (cu : Int) (ck : Int) (op : Int) (ev : Int) (lg : Int) s1 ds1 p1 q1 s2 ds2 p2 q2 sn))[0]? = some (.int .i64 (gen : Int)) from rfl)
      refine ⟨by rfl, ?_⟩
      go_simp
      exact ⟨_, rfl, rfl, hI.held⟩
    | 4, hi =>
      obtain rfl := Option.some.inj hi
      have vb : ac.tmps.getD 13 undef = .int .i64 (gen : Int) := hI.at hall 3 13 rfl rfl (by rfl)
      refine ⟨by rfl, ?_⟩
      go_simp
      refine (put_pos gen 8 _ (by omega) (by omega) (by omega)).mono ?_
      rintro e w' ⟨gN, cN, rfl, oN, bN⟩
      exact ⟨_, rfl, ⟨⟨_, _, rfl⟩, Rd.own oN⟩, hI.held.trans (bN.mono hI.held.size), VF.below bN⟩
    | 5, hi =>
      obtain rfl := Option.some.inj hi
      refine ⟨by rfl, ?_⟩
      go_simp
      exact ⟨_, rfl, rfl, hI.held⟩
    | 6, hi =>
      obtain rfl := Option.some.inj hi
      have va : ac.tmps.getD 15 undef = .pointer (some ⟨w.heap.size, 1, none⟩) := hI.at hall 5 15 rfl rfl (by rfl)
      have hc := ((HCell.out wz hI.held).cell 1).trans (show (cellsI (fsI (gen : Int) (bl : Int) (cu : Int) (ck : Int) (op : Int) (ev : Int) (lg : Int) s1 ds1 p1 q1 s2 ds2 p2 q2 sn))[1]? = some (.int .i64 (bl : Int)) from rfl)
      refine ⟨by rfl, ?_⟩
      go_simp
      exact ⟨_, rfl, rfl, hI.held⟩
    | 7, hi =>
      obtain rfl := Option.some.inj hi
      have vb : ac.tmps.getD 16 undef = .int .i64 (bl : Int) := hI.at hall 6 16 rfl rfl (by rfl)
      refine ⟨by rfl, ?_⟩
      go_simp
      refine (put_pos bl 4 _ (by omega) (by omega) (by omega)).mono ?_
      rintro e w' ⟨gN, cN, rfl, oN, bN⟩
      exact ⟨_, rfl, ⟨⟨_, _, rfl⟩, Rd.own oN⟩, hI.held.trans (bN.mono hI.held.size), VF.below bN⟩
    | 8, hi =>
      obtain rfl := Option.some.inj hi
      refine ⟨by rfl, ?_⟩
      go_simp
      exact ⟨_, rfl, rfl, hI.held⟩
    | 9, hi =>
      obtain rfl := Option.some.inj hi
      have va : ac.tmps.getD 18 undef = .pointer (some ⟨w.heap.size, 2, none⟩) := hI.at hall 8 18 rfl rfl (by rfl)
      have hc := ((HCell.out wz hI.held).cell 2).trans (show (cellsI (fsI (gen : Int) (bl : Int) (cu : Int) (ck : Int) (op : Int) (ev : Int) (lg : Int) s1 ds1 p1 q1 s2 ds2 p2 q2 sn))[2]? = some (.int .i64 (cu : Int)) from rfl)
      refine ⟨by rfl, ?_⟩
      go_simp
      exact ⟨_, rfl, rfl, hI.held⟩
    | 10, hi =>
      obtain rfl := Option.some.inj hi
      have vb : ac.tmps.getD 19 undef = .int .i64 (cu : Int) := hI.at hall 9 19 rfl rfl (by rfl)
      refine ⟨by rfl, ?_⟩
      go_simp
      refine (put_pos cu 4 _ (by omega) (by omega) (by omega)).mono ?_
      rintro e w' ⟨gN, cN, rfl, oN, bN⟩
      exact ⟨_, rfl, ⟨⟨_, _, rfl⟩, Rd.own oN⟩, hI.held.trans (bN.mono hI.held.size), VF.below bN⟩
    | 11, hi =>
      obtain rfl := Option.some.inj hi
      refine ⟨by rfl, ?_⟩
      go_simp
      exact ⟨_, rfl, rfl, hI.held⟩
    | 12, hi =>
      obtain rfl := Option.some.inj hi
      have va : ac.tmps.getD 21 undef = .pointer (some ⟨w.heap.size, 3, none⟩) := hI.at hall 11 21 rfl rfl (by rfl)
      have hc := ((HCell.out wz hI.held).cell 3).trans (show (cellsI (fsI (gen : Int) (bl : Int) (cu : Int) (ck : Int) (op : Int) (ev : Int) (lg : Int) s1 ds1 p1 q1 s2 ds2 p2 q2 sn))[3]? = some (.int .i64 (ck : Int)) from rfl)
      refine ⟨by rfl, ?_⟩
      go_simp
      exact ⟨_, rfl, rfl, hI.held⟩
    | 13, hi =>
      obtain rfl := Option.some.inj hi
      have vb : ac.tmps.getD 22 undef = .int .i64 (ck : Int) := hI.at hall 12 22 rfl rfl (by rfl)
      refine ⟨by rfl, ?_⟩
      go_simp
      refine (put_pos ck 8 _ (by omega) (by omega) (by omega)).mono ?_
      rintro e w' ⟨gN, cN, rfl, oN, bN⟩
      exact ⟨_, rfl, ⟨⟨_, _, rfl⟩, Rd.own oN⟩, hI.held.trans (bN.mono hI.held.size), VF.below bN⟩
    | 14, hi =>
      obtain rfl := Option.some.inj hi
      refine ⟨by rfl, ?_⟩
      go_simp
      exact ⟨_, rfl, rfl, hI.held⟩
    | 15, hi =>
      obtain rfl := Option.some.inj hi
      have va : ac.tmps.getD 24 undef = .pointer (some ⟨w.heap.size, 4, none⟩) := hI.at hall 14 24 rfl rfl (by rfl)
      have hc := ((HCell.out wz hI.held).cell 4).trans (show (cellsI (fsI (gen : Int) (bl : Int) (cu : Int) (ck : Int) (op : Int) (ev : Int) (lg : Int) s1 ds1 p1 q1 s2 ds2 p2 q2 sn))[4]? = some (.int .i64 (op : Int)) from rfl)
      refine ⟨by rfl, ?_⟩
      go_simp
      exact ⟨_, rfl, rfl, hI.held⟩
    | 16, hi =>
      obtain rfl := Option.some.inj hi
      have vb : ac.tmps.getD 25 undef = .int .i64 (op : Int) := hI.at hall 15 25 rfl rfl (by rfl)
      refine ⟨by rfl, ?_⟩
      go_simp
      refine (put_pos op 8 _ (by omega) (by omega) (by omega)).mono ?_
      rintro e w' ⟨gN, cN, rfl, oN, bN⟩
      exact ⟨_, rfl, ⟨⟨_, _, rfl⟩, Rd.own oN⟩, hI.held.trans (bN.mono hI.held.size), VF.below bN⟩
    | 17, hi =>
      obtain rfl := Option.some.inj hi
      refine ⟨by rfl, ?_⟩
      go_simp
      exact ⟨_, rfl, rfl, hI.held⟩
    | 18, hi =>
      obtain rfl := Option.some.inj hi
      have va : ac.tmps.getD 27 undef = .pointer (some ⟨w.heap.size, 5, none⟩) := hI.at hall 17 27 rfl rfl (by rfl)
      have hc := ((HCell.out wz hI.held).cell 5).trans (show (cellsI (fsI (gen : Int) (bl : Int) (cu : Int) (ck : Int) (op : Int) (ev : Int) (lg : Int) s1 ds1 p1 q1 s2 ds2 p2 q2 sn))[5]? = some (.int .i64 (ev : Int)) from rfl)
      refine ⟨by rfl, ?_⟩
      go_simp
      exact ⟨_, rfl, rfl, hI.held⟩
    | 19, hi =>
      obtain rfl := Option.some.inj hi
      have vb : ac.tmps.getD 28 undef = .int .i64 (ev : Int) := hI.at hall 18 28 rfl rfl (by rfl)
      refine ⟨by rfl, ?_⟩
      go_simp
      refine (put_pos ev 4 _ (by omega) (by omega) (by omega)).mono ?_
      rintro e w' ⟨gN, cN, rfl, oN, bN⟩
      exact ⟨_, rfl, ⟨⟨_, _, rfl⟩, Rd.own oN⟩, hI.held.trans (bN.mono hI.held.size), VF.below bN⟩
    | 20, hi =>
      obtain rfl := Option.some.inj hi
      refine ⟨by rfl, ?_⟩
      go_simp
      exact ⟨_, rfl, rfl, hI.held⟩
    | 21, hi =>
      obtain rfl := Option.some.inj hi
      have va : ac.tmps.getD 30 undef = .pointer (some ⟨w.heap.size, 6, none⟩) := hI.at hall 20 30 rfl rfl (by rfl)
      have hc := ((HCell.out wz hI.held).cell 6).trans (show (cellsI (fsI (gen : Int) (bl : Int) (cu : Int) (ck : Int) (op : Int) (ev : Int) (lg : Int) s1 ds1 p1 q1 s2 ds2 p2 q2 sn))[6]? = some (.int .i64 (lg : Int)) from rfl)
      refine ⟨by rfl, ?_⟩
      go_simp
      exact ⟨_, rfl, rfl, hI.held⟩
    | 22, hi =>
      obtain rfl := Option.some.inj hi
      have vb : ac.tmps.getD 31 undef = .int .i64 (lg : Int) := hI.at hall 21 31 rfl rfl (by rfl)
      refine ⟨by rfl, ?_⟩
      go_simp
      refine (put_pos lg 4 _ (by omega) (by omega) (by omega)).mono ?_
      rintro e w' ⟨gN, cN, rfl, oN, bN⟩
      exact ⟨_, rfl, ⟨⟨_, _, rfl⟩, Rd.own oN⟩, hI.held.trans (bN.mono hI.held.size), VF.below bN⟩
    | 23, hi =>
      obtain rfl := Option.some.inj hi
      refine ⟨by rfl, ?_⟩
      go_simp
      exact ⟨_, rfl, rfl, hI.held⟩
    | 24, hi =>
      obtain rfl := Option.some.inj hi
      have va : ac.tmps.getD 33 undef = .pointer (some ⟨w.heap.size, 7, none⟩) := hI.at hall 23 33 rfl rfl (by rfl)
      refine ⟨by rfl, wp_load_mid 25 (.tmp 33) rfl w.heap.size 7 va ((rootI s1 ds1 p1 q1).map (Value.int .i64)) _ (fs_range1 (gen : Int) (bl : Int) (cu : Int) (ck : Int) (op : Int) (ev : Int) (lg : Int) s1 ds1 p1 q1 s2 ds2 p2 q2 sn HD.out.1 (HCell.out wz hI.held)) Tryd.underlying25 rfl (by rw [List.length_map, ← cellsI_size, HLen1.out]; exact info15) ?_⟩
      exact ⟨_, rfl, rfl, hI.held, fun _ _ h => h⟩
    | 25, hi =>
      obtain rfl := Option.some.inj hi
      have vb : ac.tmps.getD 34 undef = .agg (cellsI (rootI s1 ds1 p1 q1)) := hI.at hall 24 34 rfl rfl (by rfl)
      refine ⟨by rfl, ?_⟩
      go_simp
      refine (rootBytes_pos s1 ds1 p1 q1 _ HD.out.1 HBd.out.r1 HBd.out.q1).mono ?_
      rintro e w' ⟨gN, cN, rfl, oN, bN⟩
      exact ⟨_, rfl, ⟨⟨_, _, rfl⟩, Rd.own oN⟩, hI.held.trans (bN.mono hI.held.size), VF.below bN⟩
    | 26, hi =>
      obtain rfl := Option.some.inj hi
      refine ⟨by rfl, ?_⟩
      go_simp
      exact ⟨_, rfl, rfl, hI.held⟩
    | 27, hi =>
      obtain rfl := Option.some.inj hi
      have va : ac.tmps.getD 36 undef = .pointer (some ⟨w.heap.size, 22, none⟩) := hI.at hall 26 36 rfl rfl (by rfl)
      refine ⟨by rfl, wp_load_mid 25 (.tmp 36) rfl w.heap.size 22 va ((rootI s2 ds2 p2 q2).map (Value.int .i64)) _ (fs_range2 (gen : Int) (bl : Int) (cu : Int) (ck : Int) (op : Int) (ev : Int) (lg : Int) s1 ds1 p1 q1 s2 ds2 p2 q2 sn HD.out.1 HD.out.2.1 (HCell.out wz hI.held)) Tryd.underlying25 rfl (by rw [List.length_map, ← cellsI_size, HLen2.out]; exact info15) ?_⟩
      exact ⟨_, rfl, rfl, hI.held, fun _ _ h => h⟩
    | 28, hi =>
      obtain rfl := Option.some.inj hi
      have vb : ac.tmps.getD 37 undef = .agg (cellsI (rootI s2 ds2 p2 q2)) := hI.at hall 27 37 rfl rfl (by rfl)
      refine ⟨by rfl, ?_⟩
      go_simp
      refine (rootBytes_pos s2 ds2 p2 q2 _ HD.out.2.1 HBd.out.r2 HBd.out.q2).mono ?_
      rintro e w' ⟨gN, cN, rfl, oN, bN⟩
      exact ⟨_, rfl, ⟨⟨_, _, rfl⟩, Rd.own oN⟩, hI.held.trans (bN.mono hI.held.size), VF.below bN⟩
    | 29, hi =>
      obtain rfl := Option.some.inj hi
      obtain ⟨⟨x0, y0, e0'⟩, r0⟩ : Sl 8 fsLet (ac.tmps.getD 11 undef) wz := hI.at hall 1 11 rfl rfl (by rfl)
      rw [e0'] at r0
      have R0 := hide r0
      clear r0
      have n0 := e0'
      rw [Array.getD_eq_getD_getElem?] at n0
      obtain ⟨⟨x1, y1, e1'⟩, r1⟩ : Sl 8 (le 8 gen) (ac.tmps.getD 14 undef) wz := hI.at hall 4 14 rfl rfl (by rfl)
      rw [e1'] at r1
      have R1 := hide r1
      clear r1
      have n1 := e1'
      rw [Array.getD_eq_getD_getElem?] at n1
      obtain ⟨⟨x2, y2, e2'⟩, r2⟩ : Sl 4 (le 4 bl) (ac.tmps.getD 17 undef) wz := hI.at hall 7 17 rfl rfl (by rfl)
      rw [e2'] at r2
      have R2 := hide r2
      clear r2
      have n2 := e2'
      rw [Array.getD_eq_getD_getElem?] at n2
      obtain ⟨⟨x3, y3, e3'⟩, r3⟩ : Sl 4 (le 4 cu) (ac.tmps.getD 20 undef) wz := hI.at hall 10 20 rfl rfl (by rfl)
      rw [e3'] at r3
      have R3 := hide r3
      clear r3
      have n3 := e3'
      rw [Array.getD_eq_getD_getElem?] at n3
      obtain ⟨⟨x4, y4, e4'⟩, r4⟩ : Sl 8 (le 8 ck) (ac.tmps.getD 23 undef) wz := hI.at hall 13 23 rfl rfl (by rfl)
      rw [e4'] at r4
      have R4 := hide r4
      clear r4
      have n4 := e4'
      rw [Array.getD_eq_getD_getElem?] at n4
      obtain ⟨⟨x5, y5, e5'⟩, r5⟩ : Sl 8 (le 8 op) (ac.tmps.getD 26 undef) wz := hI.at hall 16 26 rfl rfl (by rfl)
      rw [e5'] at r5
      have R5 := hide r5
      clear r5
      have n5 := e5'
      rw [Array.getD_eq_getD_getElem?] at n5
      obtain ⟨⟨x6, y6, e6'⟩, r6⟩ : Sl 4 (le 4 ev) (ac.tmps.getD 29 undef) wz := hI.at hall 19 29 rfl rfl (by rfl)
      rw [e6'] at r6
      have R6 := hide r6
      clear r6
      have n6 := e6'
      rw [Array.getD_eq_getD_getElem?] at n6
      obtain ⟨⟨x7, y7, e7'⟩, r7⟩ : Sl 4 (le 4 lg) (ac.tmps.getD 32 undef) wz := hI.at hall 22 32 rfl rfl (by rfl)
      rw [e7'] at r7
      have R7 := hide r7
      clear r7
      have n7 := e7'
      rw [Array.getD_eq_getD_getElem?] at n7
      obtain ⟨⟨x8, y8, e8'⟩, r8⟩ : Sl 64 (bytesR s1 ds1 p1 q1) (ac.tmps.getD 35 undef) wz := hI.at hall 25 35 rfl rfl (by rfl)
      rw [e8'] at r8
      have R8 := hide r8
      clear r8
      have n8 := e8'
      rw [Array.getD_eq_getD_getElem?] at n8
      obtain ⟨⟨x9, y9, e9'⟩, r9⟩ : Sl 64 (bytesR s2 ds2 p2 q2) (ac.tmps.getD 38 undef) wz := hI.at hall 28 38 rfl rfl (by rfl)
      rw [e9'] at r9
      have R9 := hide r9
      clear r9
      have n9 := e9'
      rw [Array.getD_eq_getD_getElem?] at n9
      refine ⟨by rfl, ?_⟩
      go_simp
      have bN := (Below.refl wz.heap.size wz).alloc (Nat.le_refl _) (.cells #[.slice (some ⟨x0, 0, none⟩) 8 y0, .slice (some ⟨x1, 0, none⟩) 8 y1, .slice (some ⟨x2, 0, none⟩) 4 y2, .slice (some ⟨x3, 0, none⟩) 4 y3, .slice (some ⟨x4, 0, none⟩) 8 y4, .slice (some ⟨x5, 0, none⟩) 8 y5, .slice (some ⟨x6, 0, none⟩) 4 y6, .slice (some ⟨x7, 0, none⟩) 4 y7, .slice (some ⟨x8, 0, none⟩) 64 y8, .slice (some ⟨x9, 0, none⟩) 64 y9] 22)
      have HV := hide (show VF W.heap.size w.heap.size gen bl cu ck op ev lg s1 ds1 p1 q1 s2 ds2 p2 q2 29 (.slice (some ⟨wz.heap.size, 0, none⟩) 10 10) (wz.alloc (.cells #[.slice (some ⟨x0, 0, none⟩) 8 y0, .slice (some ⟨x1, 0, none⟩) 8 y1, .slice (some ⟨x2, 0, none⟩) 4 y2, .slice (some ⟨x3, 0, none⟩) 4 y3, .slice (some ⟨x4, 0, none⟩) 8 y4, .slice (some ⟨x5, 0, none⟩) 8 y5, .slice (some ⟨x6, 0, none⟩) 4 y6, .slice (some ⟨x7, 0, none⟩) 4 y7, .slice (some ⟨x8, 0, none⟩) 64 y8, .slice (some ⟨x9, 0, none⟩) 64 y9] 22)) from ⟨wz.heap.size, rfl, by simp, [.slice (some ⟨x0, 0, none⟩) 8 y0, .slice (some ⟨x1, 0, none⟩) 8 y1, .slice (some ⟨x2, 0, none⟩) 4 y2, .slice (some ⟨x3, 0, none⟩) 4 y3, .slice (some ⟨x4, 0, none⟩) 8 y4, .slice (some ⟨x5, 0, none⟩) 8 y5, .slice (some ⟨x6, 0, none⟩) 4 y6, .slice (some ⟨x7, 0, none⟩) 4 y7, .slice (some ⟨x8, 0, none⟩) 64 y8, .slice (some ⟨x9, 0, none⟩) 64 y9], fun j u hu => by
        rw [cell_of_row _ _ j _ _ _ (heap_alloc_new wz _)]
        simpa using hu, R0.out.below bN, R1.out.below bN, R2.out.below bN, R3.out.below bN, R4.out.below bN, R5.out.below bN, R6.out.below bN, R7.out.below bN, R8.out.below bN, R9.out.below bN, trivial⟩)
      exact ⟨_, rfl, HV.out, hI.held.trans (bN.mono hI.held.size), VF.below bN⟩
    | 30, hi =>
      obtain rfl := Option.some.inj hi
      obtain ⟨g, e14, hg14, vs, hc14, ha14⟩ : VF W.heap.size w.heap.size gen bl cu ck op ev lg s1 ds1 p1 q1 s2 ds2 p2 q2 29 (ac.tmps.getD 39 undef) wz := hI.at hall 29 39 rfl rfl (by rfl)
      have HA14 := hide (And.intro hc14 ha14)
      clear hc14 ha14
      refine ⟨by rfl, ?_⟩
      go_simp
      refine (join_any g 10 10 vs ([fsLet, le 8 gen, le 4 bl, le 4 cu, le 8 ck, le 8 op, le 4 ev, le 4 lg, bytesR s1 ds1 p1 q1, bytesR s2 ds2 p2 q2] : List (List Int)) _ HA14.out.1 HA14.out.2 rfl (by omega) HPos.out.1 HPos.out.2 hg14).mono ?_
      rintro e w' ⟨vJ, rfl, oN, bN⟩
      rw [HFl.out, HHL.out] at oN
      exact ⟨_, rfl, own_mono oN hI.held.size, hI.held.trans (bN.mono hI.held.size), VF.below bN⟩
    | 31, hi =>
      obtain rfl := Option.some.inj hi
      have v15 : wz.ownsRow W.heap.size 5 1 (ac.tmps.getD 40 undef) 176 ((headF gen bl cu ck op ev lg s1 ds1 p1 q1 s2 ds2 p2 q2).map (Value.int .u8)) := hI.at hall 30 40 rfl rfl (by rfl)
      generalize hx : ac.tmps.getD 40 undef = x at v15
      have HV15 := hide v15
      clear v15
      refine ⟨by rfl, ?_⟩
      go_simp
      exact ⟨_, rfl, HV15.out, hI.held⟩
    | i + 32, hi => cases hi
  case hfin =>
    intro listed ac wz hl hI
    refine NoPanic.normal ?_
    have v4 : wz.ownsRow W.heap.size 5 1 (ac.tmps.getD 4 undef) 176 ((headF gen bl cu ck op ev lg s1 ds1 p1 q1 s2 ds2 p2 q2).map (Value.int .u8)) := hI.vals 31 _ 4 rfl (hl 31 (by decide)) rfl
    have f1 : ac.tmps.getD 1 undef = .pointer (some ⟨w.heap.size, 0, none⟩) := hI.fix 1 _ (by simp)
    have hsz := hI.sz
    have hdf := hI.df
    have hBz := hI.held
    clear hI hl
    obtain ⟨tm, dfs⟩ := ac
    simp only at v4 f1 hsz hdf
    subst hdf
    have hT := tmps53 tm hsz
    rw [f1] at hT
    generalize tm.getD 4 undef = x4 at v4 hT
    generalize tm.getD 0 undef = t0 at hT
    generalize tm.getD 2 undef = t2 at hT
    generalize tm.getD 3 undef = t3 at hT
    generalize tm.getD 5 undef = t5 at hT
    generalize tm.getD 6 undef = t6 at hT
    generalize tm.getD 7 undef = t7 at hT
    generalize tm.getD 8 undef = t8 at hT
    generalize tm.getD 9 undef = t9 at hT
    generalize tm.getD 10 undef = t10 at hT
    generalize tm.getD 11 undef = t11 at hT
    generalize tm.getD 12 undef = t12 at hT
    generalize tm.getD 13 undef = t13 at hT
    generalize tm.getD 14 undef = t14 at hT
    generalize tm.getD 15 undef = t15 at hT
    generalize tm.getD 16 undef = t16 at hT
    generalize tm.getD 17 undef = t17 at hT
    generalize tm.getD 18 undef = t18 at hT
    generalize tm.getD 19 undef = t19 at hT
    generalize tm.getD 20 undef = t20 at hT
    generalize tm.getD 21 undef = t21 at hT
    generalize tm.getD 22 undef = t22 at hT
    generalize tm.getD 23 undef = t23 at hT
    generalize tm.getD 24 undef = t24 at hT
    generalize tm.getD 25 undef = t25 at hT
    generalize tm.getD 26 undef = t26 at hT
    generalize tm.getD 27 undef = t27 at hT
    generalize tm.getD 28 undef = t28 at hT
    generalize tm.getD 29 undef = t29 at hT
    generalize tm.getD 30 undef = t30 at hT
    generalize tm.getD 31 undef = t31 at hT
    generalize tm.getD 32 undef = t32 at hT
    generalize tm.getD 33 undef = t33 at hT
    generalize tm.getD 34 undef = t34 at hT
    generalize tm.getD 35 undef = t35 at hT
    generalize tm.getD 36 undef = t36 at hT
    generalize tm.getD 37 undef = t37 at hT
    generalize tm.getD 38 undef = t38 at hT
    generalize tm.getD 39 undef = t39 at hT
    generalize tm.getD 40 undef = t40 at hT
    generalize tm.getD 41 undef = t41 at hT
    generalize tm.getD 42 undef = t42 at hT
    generalize tm.getD 43 undef = t43 at hT
    generalize tm.getD 44 undef = t44 at hT
    generalize tm.getD 45 undef = t45 at hT
    generalize tm.getD 46 undef = t46 at hT
    generalize tm.getD 47 undef = t47 at hT
    generalize tm.getD 48 undef = t48 at hT
    generalize tm.getD 49 undef = t49 at hT
    generalize tm.getD 50 undef = t50 at hT
    generalize tm.getD 51 undef = t51 at hT
    generalize tm.getD 52 undef = t52 at hT
    clear hsz f1
    subst hT
    have V4 := hide v4
    have HBZ := hide hBz
    have HR := hide (fs_range3 (gen : Int) (bl : Int) (cu : Int) (ck : Int) (op : Int) (ev : Int) (lg : Int) s1 ds1 p1 q1 s2 ds2 p2 q2 sn HD.out.1 HD.out.2.1 HD.out.2.2 (HCell.out wz hBz))
    obtain ⟨bf, hbf⟩ : ∃ bf, bf = bytesF gen bl cu ck op ev lg s1 ds1 p1 q1 s2 ds2 p2 q2 sn := ⟨_, rfl⟩
    have HBF := hide (show bf = (headF gen bl cu ck op ev lg s1 ds1 p1 q1 s2 ds2 p2 q2) ++ bytesW sn from hbf)
    have HBG := hide hbf
    have HBL := hide (show bf.length = 300 from by rw [hbf]; exact bytesF_len gen bl cu ck op ev lg s1 ds1 p1 q1 s2 ds2 p2 q2 sn HD.out.1 HD.out.2.1 HD.out.2.2)
    have HBB := hide (show ∀ z ∈ bf, 0 ≤ z ∧ z < 256 from by rw [hbf]; exact bytesF_bd gen bl cu ck op ev lg s1 ds1 p1 q1 s2 ds2 p2 q2 sn)
    clear v4 hBz hbf
    generalize (headF gen bl cu ck op ev lg s1 ds1 p1 q1 s2 ds2 p2 q2) = hf at V4 HBF HHL HFl
    go_wp2_with (refine wpList_load_mid rfl 34 _ rfl w.heap.size 37 rfl (sn.map (Value.int .i64)) _ HR.out Tryd.underlying34 rfl (by rw [List.length_map, HD.out.2.2]; exact info31) ?_)
    go_loopw [4, 43] (fun o i wr => ∃ j : Nat, j ≤ 31 ∧ i = .int .i64 j ∧ wr.ownsRow W.heap.size 5 1 o (176 + 4 * j) ((hf ++ bytesW (sn.take j)).map (Value.int .u8)) ∧ Below W.heap.size W wr) (fun _ i _ => 31 - (intOf i).toNat)
    case atStart => exact ⟨0, by omega, rfl, by simpa [bytesW] using V4.out, HBZ.out⟩
    case round =>
      clear V4 HBZ HR
      obtain ⟨j, hj, rfl, hown, hb⟩ := hrel
      have hszb := hb.size
      by_cases hlt : j < 31
      · have hjl : j < sn.length := by rw [HD.out.2.2]; exact hlt
        have hix : ∀ w, (Instr.index 34 (.agg (sn.map (Value.int .i64)).toArray) (.int .i64 j)).run Tryd.prog w = .ok (.int .i64 (sn.getD j 0)) w := fun w => HX.out j hlt w
        have hz1' := HBd.out.sn (sn.getD j 0) (by simp [List.getD, hjl])
        have HT := hide (bytesW_take sn j hjl)
        have HC := hide (And.intro hown hb)
        clear hown hb hjl
        generalize sn.getD j 0 = z at hix HT hz1'
        obtain ⟨y, rfl⟩ := Int.eq_ofNat_of_zero_le hz1'.1
        obtain ⟨_, hy2⟩ := hz1'
        have hy : y < 2048 := by omega
        clear hy2
        rw [Int.toNat_natCast] at HT
        go_wp2_with (go_at_call 33; fail)
        refine (put_pos y 4 _ (by omega) (by omega) (by omega)).mono ?_
        rintro e w3 ⟨g3, cp3, rfl, o3, b3⟩
        have hs3 := b3.size
        have hop := own_below HC.out.1 b3
        go_wp2_with (at_builtin; refine append_fresh _ rfl (.tmp 46) (.tmp 48) 22 rfl W.heap.size 5 i0 (.int .u8 0) 1 1 Tryd.underlying22 hi0 hz0 hz1 hz2 rfl (by decide) _ _ _ rfl hop ⟨g3, 0, none⟩ 4 cp3 ((le 4 y).map (Value.int .u8)) rfl (by simp [le_len]) (o3.cells rfl) (ints_oneCell _ _) (by omega) (by unfold maxLen; omega) (by omega) (by omega) ?_; intro v5 w5 o5 g5 f5)
        have HW := hide (show w5.ownsRow W.heap.size 5 1 v5 (176 + 4 * (j + 1)) ((hf ++ bytesW (sn.take (j + 1))).map (Value.int .u8)) ∧ Below W.heap.size W w5 from by
          refine ⟨?_, (HC.out.2.trans (b3.mono hszb)).grown g5 (by omega) (fun r h => (hop.lt r h).1)⟩
          rw [HT.out, ← List.append_assoc, List.map_append, show 176 + 4 * (j + 1) = 176 + 4 * j + 4 from by omega]
          exact o5)
        clear o3 b3 hop o5 g5 f5
        go_roundw
        case rel => exact ⟨j + 1, by omega, by go_num, HW.out.1, HW.out.2⟩
        case measure => simp [intOf]; omega
      · have e31 : j = 31 := by omega
        subst e31
        rw [List.take_of_length_le (by rw [HD.out.2.2]; omega), ← HBF.out] at hown
        have HO := hide (And.intro (Rd.own hown) hb)
        clear hown hb
        go_wp2_with (go_at_call 35; fail)
        refine (sealed_any _ bf _ HO.out.1 (by rw [HBL.out]; omega) (by rw [HBL.out]; omega) HBB.out).mono ?_
        rintro e w5 ⟨v5, rfl, o5, b5⟩
        have H5 := hide (And.intro (own_mono o5 (show w.heap.size ≤ wr.heap.size by omega)) (B2.out.trans ((HO.out.2.trans (b5.mono HO.out.2.size)).mono B2.out.size)))
        clear o5 b5
        go_wp2
        go_ret2
        exact ⟨_, rfl, by rw [← HBG.out]; exact H5.out.1, H5.out.2⟩
theorem specFs_any (gen bl cu ck op ev lg s1 : Int) (ds1 : List Int) (p1 q1 s2 : Int) (ds2 : List Int) (p2 q2 : Int) (sn : List Int) (w : World) (hd1 : ds1.length = 12) (hd2 : ds2.length = 12) (hsn : sn.length = 31) :
    Calls Tryd.prog 23 #[.agg (cellsI (fsI gen bl cu ck op ev lg s1 ds1 p1 q1 s2 ds2 p2 q2 sn))] w fun e w' => ∃ v', e = .returned (.tuple #[v', .int .i64 (codeFs gen bl cu ck op ev lg s1 ds1 p1 q1 s2 ds2 p2 q2 sn)]) ∧ w'.ownsRow w.heap.size 5 1 v' (encFs gen bl cu ck op ev lg s1 ds1 p1 q1 s2 ds2 p2 q2 sn).length ((encFs gen bl cu ck op ev lg s1 ds1 p1 q1 s2 ds2 p2 q2 sn).map (Value.int .u8)) ∧ Below w.heap.size w w' := by
  cases hr : rightF gen bl cu ck op ev lg s1 ds1 p1 q1 s2 ds2 p2 q2 sn with
  | false =>
    refine (specFs_false gen bl cu ck op ev lg s1 ds1 p1 q1 s2 ds2 p2 q2 sn w hd1 hd2 hsn hr).mono ?_
    rintro e w' ⟨rfl, hb⟩
    refine ⟨_, by unfold codeFs; rw [hr]; rfl, ?_, hb⟩
    unfold encFs
    rw [hr]
    exact World.ownsRow_nil _ _ _ _
  | true =>
    have hB := fs_bd gen bl cu ck op ev lg s1 ds1 p1 q1 s2 ds2 p2 q2 sn hd1 hd2 hr
    obtain ⟨a0, rfl⟩ := Int.eq_ofNat_of_zero_le hB.g0.1
    obtain ⟨a1, rfl⟩ := Int.eq_ofNat_of_zero_le hB.g1.1
    obtain ⟨a2, rfl⟩ := Int.eq_ofNat_of_zero_le hB.g2.1
    obtain ⟨a3, rfl⟩ := Int.eq_ofNat_of_zero_le hB.g3.1
    obtain ⟨a4, rfl⟩ := Int.eq_ofNat_of_zero_le hB.g4.1
    obtain ⟨a5, rfl⟩ := Int.eq_ofNat_of_zero_le hB.g5.1
    obtain ⟨a6, rfl⟩ := Int.eq_ofNat_of_zero_le hB.g6.1
    refine (specFs_true a0 a1 a2 a3 a4 a5 a6 s1 ds1 p1 q1 s2 ds2 p2 q2 sn w hd1 hd2 hsn hB hr).mono ?_
    rintro e w' ⟨v', rfl, ho, hb⟩
    refine ⟨v', by unfold codeFs; rw [hr]; rfl, ?_, hb⟩
    unfold encFs
    rw [if_pos hr]
    simp only [Int.toNat_natCast]
    rw [sealed_len _ (by rw [bytesF_len _ _ _ _ _ _ _ _ _ _ _ _ _ _ _ _ hd1 hd2 hsn]; omega)]
    exact ho
end Go.Proofs.YtkaennkfieebmaaDoor

namespace Go.Proofs.YtkaennkfieebmaaDoor
set_option linter.unusedVariables false
set_option linter.unusedSimpArgs false
open Go.RowKit

/-- What stands in the midst of the region: the frame's size, the slots that no operation writes, what holds of the world, what the values of those that came up are. -/
structure RInvS (ops : Array Oper) (fs : List (Nat × Value)) (S : Array Bool → Act → World → Prop) (V : Nat → Value → World → Prop) (m : Nat) (ds : List Deferred) (listed : Array Bool) (a : Act) (w : World) : Prop where
  sz : a.tmps.size = m
  df : a.defers = ds
  held : S listed a w
  vals : ∀ i o d, ops[i]? = some o → listed.getD i false = true → o.dst = some d → V i (a.tmps.getD d undef) w
  fix : ∀ t v, (t, v) ∈ fs → a.tmps.getD t undef = v
  seen : ∀ i o, ops[i]? = some o → listed.getD i false = true → ∃ v, V i v w

theorem wpAny_invS {P : Program} {ops : Array Oper} {Q : Exit → Act → World → Prop} (fs : List (Nat × Value)) (S : Array Bool → Act → World → Prop) (V : Nat → Value → World → Prop) (m : Nat) (ds : List Deferred)
    (hord : ∀ (i : Nat) (o : Oper), ops[i]? = some o → ∀ e ∈ o.after, e.on < i)
    (hdst : ∀ (i j : Nat) (oi oj : Oper) (d : Nat), ops[i]? = some oi → ops[j]? = some oj → oi.dst = some d → oj.dst = some d → i = j)
    (hfix : ∀ (i : Nat) (o : Oper) (d : Nat), ops[i]? = some o → o.dst = some d → d < m ∧ ∀ v, (d, v) ∉ fs)
    (hstep : ∀ (i : Nat) (o : Oper) (listed : Array Bool) (a : Act) (w : World), ops[i]? = some o → listed.getD i true = false → (∀ e ∈ o.after, Region.binds .any e = true → listed.getD e.on false = true) → RInvS ops fs S V m ds listed a w →
      Region.wanted o (yielded ops a.tmps) = true ∧ o.wp P a w (fun a' w' => ∃ v, a' = a.put o.dst v ∧ V i v w' ∧ S (listed.setIfInBounds i true) (a.put o.dst v) w' ∧ ∀ j u, V j u w → V j u w') Q)
    (hfin : ∀ listed a w, (∀ i, i < ops.size → listed.getD i false = true) → RInvS ops fs S V m ds listed a w → Q .normal a w) :
    ∀ (fuel : Nat) (listed : Array Bool) (a : Act) (w : World), listed.size = ops.size → listed.toList.count false ≤ fuel → RInvS ops fs S V m ds listed a w → wpAny P .any ops Q fuel listed a w
  | 0, listed, a, w, hsz, hc, hI => by
    have hall : ∀ i, i < ops.size → listed.getD i false = true := by
      intro i hi
      cases e : listed.getD i false with
      | true => rfl
      | false =>
        have : false ∈ listed.toList := by
          rw [Array.getD_eq_getD_getElem?, Array.getElem?_eq_getElem (by omega), Option.getD_some] at e
          rw [← e]; exact Array.mem_toList_iff.2 (Array.getElem_mem (by omega))
        have := List.count_pos_iff.2 this
        omega
    refine ⟨?_, hfin listed a w hall hI⟩
    cases e : Region.ready .any ops listed with
    | nil => rfl
    | cons j l =>
      have hj : j ∈ Region.ready .any ops listed := by rw [e]; simp
      obtain ⟨h0, o, ho, _⟩ := mem_ready.1 hj
      have hlt : j < ops.size := (Array.getElem?_eq_some_iff.1 ho).1
      have h1 := hall j hlt
      rw [Array.getD_eq_getD_getElem?, Array.getElem?_eq_getElem (by omega)] at h0 h1
      simp at h0 h1
      rw [h0] at h1
      cases h1
  | fuel + 1, listed, a, w, hsz, hc, hI => by
    refine ⟨fun h => hfin listed a w (ready_nil hsz hord h) hI, fun i hi => ?_⟩
    obtain ⟨h0, o, ho, hall⟩ := mem_ready.1 hi
    have hlt : i < ops.size := (Array.getElem?_eq_some_iff.1 ho).1
    have hs := hstep i o listed a w ho h0 hall hI
    unfold wpOp
    simp only [ho, hs.1, if_true]
    refine .inl (Oper.wp_mono ?_ hs.2)
    rintro a' w' ⟨v, rfl, hv, hS, hk⟩
    have hcs := count_set (listed := listed) (i := i) (by omega) h0
    refine wpAny_invS fs S V m ds hord hdst hfix hstep hfin fuel _ _ _ (by simpa using hsz) (by omega) ?_
    cases hd : o.dst with
    | none =>
      rw [hd] at hS
      refine ⟨hI.sz, hI.df, hS, fun j oj d hj hl hjd => ?_, hI.fix, fun j oj hj hl => ?_⟩
      · rw [listed_set (by omega)] at hl
        by_cases e : j = i
        · subst e
          rw [ho] at hj
          cases hj
          rw [hd] at hjd
          cases hjd
        · rw [if_neg e] at hl
          exact hk j _ (hI.vals j oj d hj hl hjd)
      · rw [listed_set (by omega)] at hl
        by_cases e : j = i
        · subst e
          exact ⟨v, hv⟩
        · rw [if_neg e] at hl
          obtain ⟨u, hu⟩ := hI.seen j oj hj hl
          exact ⟨u, hk j u hu⟩
    | some d0 =>
      have hf := hfix i o d0 ho hd
      have hd0 : d0 < a.tmps.size := by rw [hI.sz]; exact hf.1
      rw [hd] at hS
      refine ⟨by simp [Act.put, hI.sz], by simpa [Act.put] using hI.df, hS, fun j oj d hj hl hjd => ?_, fun t u htu => ?_, fun j oj hj hl => ?_⟩
      · rw [listed_set (by omega)] at hl
        rw [getD_put hd0]
        by_cases e : j = i
        · subst e
          rw [ho] at hj
          cases hj
          rw [hd] at hjd
          cases hjd
          rw [if_pos rfl]
          exact hv
        · rw [if_neg e] at hl
          rw [if_neg (fun h => e (hdst j i oj o d hj ho hjd (by rw [hd, h])))]
          exact hk j _ (hI.vals j oj d hj hl hjd)
      · rw [getD_put hd0, if_neg (fun h : t = d0 => hf.2 u (by rw [← h]; exact htu))]
        exact hI.fix t u htu
      · rw [listed_set (by omega)] at hl
        by_cases e : j = i
        · subst e
          exact ⟨v, hv⟩
        · rw [if_neg e] at hl
          obtain ⟨u, hu⟩ := hI.seen j oj hj hl
          exact ⟨u, hk j u hu⟩

theorem wpAny_invSB {P : Program} {ops : Array Oper} {Q : Exit → Act → World → Prop} (fs : List (Nat × Value)) (S : Array Bool → Act → World → Prop) (V : Nat → Value → World → Prop) (m : Nat) (ds : List Deferred)
    (hB : rchk ops m (fs.map (·.1)) = true)
    (hstep : ∀ (i : Nat) (o : Oper) (listed : Array Bool) (a : Act) (w : World), ops[i]? = some o → listed.getD i true = false → (∀ e ∈ o.after, Region.binds .any e = true → listed.getD e.on false = true) → RInvS ops fs S V m ds listed a w →
      Region.wanted o (yielded ops a.tmps) = true ∧ o.wp P a w (fun a' w' => ∃ v, a' = a.put o.dst v ∧ V i v w' ∧ S (listed.setIfInBounds i true) (a.put o.dst v) w' ∧ ∀ j u, V j u w → V j u w') Q)
    (hfin : ∀ listed a w, (∀ i, i < ops.size → listed.getD i false = true) → RInvS ops fs S V m ds listed a w → Q .normal a w)
    (a : Act) (w : World) (hsz : a.tmps.size = m) (hdf : a.defers = ds) (hS : S (Array.replicate ops.size false) a w) (hf : ∀ t v, (t, v) ∈ fs → a.tmps.getD t undef = v) : wpAny P .any ops Q ops.size (Array.replicate ops.size false) a w := by
  refine wpAny_invS fs S V m ds (fun i o hi => (rchk_at hB hi).1) (fun i j oi oj d hi hj h1 h2 => ?_) (fun i o d hi hd => ?_) hstep hfin _ _ _ _ (by simp) ?_ ⟨hsz, hdf, hS, fun i o d _ hl _ => ?_, hf, fun i o _ hl => ?_⟩
  · rcases Nat.lt_trichotomy i j with h | h | h
    · exact absurd h1 (((rchk_at hB hj).2 d h2).2.2 i oi h hi)
    · exact h
    · exact absurd h2 (((rchk_at hB hi).2 d h1).2.2 j oj h hj)
  · have := (rchk_at hB hi).2 d hd
    exact ⟨this.1, fun v hv => this.2.1 (List.mem_map.2 ⟨_, hv, rfl⟩)⟩
  · rw [Array.toList_replicate, List.count_replicate]; simp
  · simp [Array.getD_eq_getD_getElem?, Array.getElem?_replicate] at hl
    split at hl <;> simp at hl
  · simp [Array.getD_eq_getD_getElem?, Array.getElem?_replicate] at hl
    split at hl <;> simp at hl
/-- The value of one that came up. -/
theorem RInvS.at {ops : Array Oper} {fs : List (Nat × Value)} {S : Array Bool → Act → World → Prop} {V : Nat → Value → World → Prop} {m : Nat} {ds : List Deferred} {listed : Array Bool} {a : Act} {w : World} {o oj : Oper} (h : RInvS ops fs S V m ds listed a w)
    (hall : ∀ e ∈ o.after, Region.binds .any e = true → listed.getD e.on false = true) (j d : Nat) (hj : ops[j]? = some oj) (hd : oj.dst = some d) (ha : (o.after.toList.any fun e => e.on == j && Region.binds .any e) = true) : V j (a.tmps.getD d undef) w := by
  rw [List.any_eq_true] at ha
  obtain ⟨e, he, h2⟩ := ha
  rw [Bool.and_eq_true] at h2
  have h3 : e.on = j := by simpa using h2.1
  have h4 := hall e (Array.mem_toList_iff.1 he) h2.2
  rw [h3] at h4
  exact h.vals j oj d hj h4 hd
end Go.Proofs.YtkaennkfieebmaaDoor
