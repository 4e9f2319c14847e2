/- The program's ChooseFsinfo. -/
import Derived.Test.YtfkmnmopkblopaaDoorZk44
import Derived.Deep.RegionHeld3
import Derived.Deep.MidRow
namespace Go.Proofs.YtfkmnmopkblopaaDoor
set_option linter.unusedVariables false
set_option linter.unusedSimpArgs false
open Go.RowKit

theorem results_rtt {P : Program} {fn : Func} {p t u : Tmp} {ty : TypeId} (h : fn.results = #[.cell p ty, .tmp t, .tmp u]) (tmps : Array Value) (w : World) (g : Nat) (ti : TypeId) (cs : Array Value) (fr : Nat × Nat) (d : TypeDesc) (x y : Value)
    (hp : tmps.getD p undef = .pointer (some ⟨g, 0, none⟩)) (ht : tmps.getD t undef = x) (hy : tmps.getD u undef = y) (hg : w.heap[g]? = some (.cells cs ti fr))
    (hu : P.underlying ty = some d) (hd : (match d with | .struct _ | .array _ _ => true | _ => false) = true) (hi : (P.info? ty).map (·.size) = some cs.size) :
    (results fn tmps).run P w = .ok (.tuple #[.agg cs, x, y]) w := by
  simp only [results, h]
  simp [Sem.run_bind, Result.andThen, ← Array.getD_eq_getD_getElem?, ht, hp, hy, asAddr, run_loadVar_row w g ti ty cs fr d hg hu hd hi]
theorem vol_ne {w : World} {g b : Nat} {a : Option Addr} {n c : Nat} {X : List Int} {s : Int} (hX : X.length = 68) (h : Blk w g (volC (.slice a n c) X s) 61) (k : Blk w b (cellsI noFs) 28) : g ≠ b := by
  rintro rfl
  have e := h.symm.trans k
  have e2 := Option.some.inj e
  injection e2 with e3 e4 e5
  have e6 := congrArg Array.size e3
  rw [volC_size a n c X s hX] at e6
  exact absurd e6 (by decide)

set_option maxRecDepth 100000 in
set_option maxHeartbeats 4000000 in
theorem implCh_any (v : Value) (zs : List Int) (w : World) (h : Rd .u8 w v zs) (hbd : ∀ z ∈ zs, 0 ≤ z ∧ z < 256) (hz : zs.length ≤ 140737488355328) (hg : ErrT w) (hL : LetF w) :
    Calls Tryd.prog 6 #[v] w fun e w' => e = .returned (.tuple #[.agg (cellsI (choR zs)), .int .i64 (choS zs), .int .i64 (choC zs)]) ∧ Below w.heap.size w w' := by
  obtain ⟨W, hW⟩ : ∃ W, W = w.alloc (.cells Tryd.zeroCells28 28) := ⟨_, rfl⟩
  have KW := hide (show Blk W w.heap.size (cellsI noFs) 28 ∧ Below w.heap.size w W from by rw [hW]; exact ⟨Blk.new _ _ _, (Below.refl _ _).alloc (Nat.le_refl _) _⟩)
  have hWs : w.heap.size < W.heap.size := KW.out.1.lt
  have HW9 := hide hW
  have HR := hide (And.intro (h.below KW.out.2) (And.intro (hg.below KW.out.2) (hL.below KW.out.2)))
  have HB := hide hbd
  obtain ⟨a, cap, rfl⟩ : ∃ a cap, v = .slice a zs.length cap := by obtain ⟨a, cap, h1, _⟩ := h; exact ⟨a, cap, h1⟩
  clear h hbd hg hL hW
  go_enter Tryd.func6, Tryd.ntmps6
  go_wp2_with (go_at_call 12; fail)
  rw [← HW9.out]
  refine (openVol_any _ zs _ HR.out.1 HB.out hz HR.out.2.1 HR.out.2.2).mono ?_
  rintro e w1 ⟨hO, b1⟩
  have K1 := hide (show Blk w1 w.heap.size (cellsI noFs) 28 ∧ Below w.heap.size w w1 ∧ ErrT w1 from ⟨KW.out.1.below b1 hWs, KW.out.2.trans (b1.mono (Nat.le_of_lt hWs)), HR.out.2.1.below b1⟩)
  have hs1 := b1.size
  clear b1
  rcases hO with ⟨hs, ev, m, rfl, hf⟩ | ⟨hs, hc, ev, m, rfl, hf⟩ | ⟨hs, s, g, hc, rfl, kg⟩
  · have HA := hide (show choR zs = noFs ∧ choS zs = 0 ∧ choC zs = 7 from by unfold choR choS choC; rw [hs]; exact ⟨rfl, rfl, rfl⟩)
    obtain ⟨t', x', rfl⟩ := hf.iface
    have HF := hide hf
    clear hf hs
    go_wp2_with (first | (go_at_call 13; refine (codeOf_any m _ 7 _ _ HF.out K1.out.2.2).mono ?_; rintro e w2 ⟨rfl, b2⟩; have K2 := hide (show Blk w2 w.heap.size (cellsI noFs) 28 ∧ Below w.heap.size w w2 from ⟨K1.out.1.below b2 K1.out.1.lt, K1.out.2.1.trans (b2.mono K1.out.2.1.size)⟩); clear b2) | (refine wpList_store_row rfl 28 _ _ rfl w.heap.size (cellsI noFs) rfl rfl 28 _ K2.out.1 info68 rfl (cellsI_one _) ?_))
    refine bodyPost_ret (v := .tuple #[.agg (cellsI noFs), .int .i64 0, .int .i64 7]) ?_ rfl ⟨by rw [HA.out.1, HA.out.2.1, HA.out.2.2], below_setRow K2.out.2 (Nat.le_refl _) _⟩
    exact results_rtt rfl _ _ w.heap.size 28 (cellsI noFs) (0, 0) _ _ _ rfl rfl rfl (K2.out.1.row _) Tryd.underlying28 rfl info68
  · have HA := hide (show choR zs = noFs ∧ choS zs = 0 ∧ choC zs = 21 from by unfold choR choS choC; rw [hs, hc]; exact ⟨rfl, rfl, rfl⟩)
    obtain ⟨t', x', rfl⟩ := hf.iface
    have HF := hide hf
    clear hf hs hc
    go_wp2_with (first | (go_at_call 13; refine (codeOf_any m _ 21 _ _ HF.out K1.out.2.2).mono ?_; rintro e w2 ⟨rfl, b2⟩; have K2 := hide (show Blk w2 w.heap.size (cellsI noFs) 28 ∧ Below w.heap.size w w2 from ⟨K1.out.1.below b2 K1.out.1.lt, K1.out.2.1.trans (b2.mono K1.out.2.1.size)⟩); clear b2) | (refine wpList_store_row rfl 28 _ _ rfl w.heap.size (cellsI noFs) rfl rfl 28 _ K2.out.1 info68 rfl (cellsI_one _) ?_))
    refine bodyPost_ret (v := .tuple #[.agg (cellsI noFs), .int .i64 0, .int .i64 21]) ?_ rfl ⟨by rw [HA.out.1, HA.out.2.1, HA.out.2.2], below_setRow K2.out.2 (Nat.le_refl _) _⟩
    exact results_rtt rfl _ _ w.heap.size 28 (cellsI noFs) (0, 0) _ _ _ rfl rfl rfl (K2.out.1.row _) Tryd.underlying28 rfl info68
  · have HA := hide (show choR zs = decFs (blkZ zs s) ∧ choS zs = (s : Int) ∧ choC zs = 0 from by unfold choR choS choC; rw [hs, hc]; exact ⟨rfl, rfl, rfl⟩)
    have HD := hide (decFs_len (blkZ zs s))
    have hgn := vol_ne HD.out kg K1.out.1
    obtain ⟨X, hX⟩ : ∃ X, X = decFs (blkZ zs s) := ⟨_, rfl⟩
    rw [← hX] at HA HD kg
    have KG := hide kg
    clear kg hs hc hX
    have HZ := hide (show (cellsI X).size = 68 from by rw [cellsI_size]; exact HD.out)
    go_wp2_with fail
    refine wp_region_noPanic ?_
    refine wp_region_held_drew (S := fun w' => Blk w' g (volC (.slice a zs.length cap) X (s : Int)) 61) (by kernel_rfl) KG.out (fun hH => ?_)
    refine wpAnyH_take (i := 0) (oi := _) (v := .pointer (some ⟨g, 0, none⟩)) rfl (by kernel_rfl) (by kernel_rfl) (by kernel_rfl) (fun _ _ _ h => h) (Or.inl ⟨by rfl, fun w' hw' => by go_simp⟩) hH ?_
    try simp only [Act.put, List.getElem_toArray, List.getElem_cons_zero, List.getElem_cons_succ, List.setIfInBounds_toArray, List.set_cons_zero, List.set_cons_succ]
    refine wpAnyH_take (i := 1) (oi := _) (v := .pointer (some ⟨g, 0, none⟩)) rfl (by kernel_rfl) (by kernel_rfl) (by kernel_rfl) (fun _ _ _ h => h) (Or.inl ⟨by rfl, fun w' hw' => by go_simp⟩) hH ?_
    try simp only [Act.put, List.getElem_toArray, List.getElem_cons_zero, List.getElem_cons_succ, List.setIfInBounds_toArray, List.set_cons_zero, List.set_cons_succ]
    refine wpAnyH_take (i := 2) (oi := _) (v := .pointer (some ⟨g, 1, none⟩)) rfl (by kernel_rfl) (by kernel_rfl) (by kernel_rfl) (fun _ _ _ h => h) (Or.inl ⟨by rfl, fun w' hw' => by go_simp⟩) hH ?_
    try simp only [Act.put, List.getElem_toArray, List.getElem_cons_zero, List.getElem_cons_succ, List.setIfInBounds_toArray, List.set_cons_zero, List.set_cons_succ]
    refine wpAnyH_take (i := 3) (oi := _) (v := .agg (cellsI X)) rfl (by kernel_rfl) (by kernel_rfl) (by kernel_rfl) (fun _ _ _ h => h) (yieldsIf_load_mid (by rfl) 28 _ rfl g 1 rfl (X.map (Value.int .i64)) _ (fun w' h => vol_range h) Tryd.underlying28 rfl (by rw [List.length_map, HD.out]; exact info68)) hH ?_
    try simp only [Act.put, List.getElem_toArray, List.getElem_cons_zero, List.getElem_cons_succ, List.setIfInBounds_toArray, List.set_cons_zero, List.set_cons_succ]
    refine wpAnyH_take (i := 4) (oi := _) (v := .pointer (some ⟨g, 0, none⟩)) rfl (by kernel_rfl) (by kernel_rfl) (by kernel_rfl) (fun _ _ _ h => h) (Or.inl ⟨by rfl, fun w' hw' => by go_simp⟩) hH ?_
    try simp only [Act.put, List.getElem_toArray, List.getElem_cons_zero, List.getElem_cons_succ, List.setIfInBounds_toArray, List.set_cons_zero, List.set_cons_succ]
    refine wpAnyH_take (i := 5) (oi := _) (v := .pointer (some ⟨g, 0, none⟩)) rfl (by kernel_rfl) (by kernel_rfl) (by kernel_rfl) (fun _ _ _ h => h) (Or.inl ⟨by rfl, fun w' hw' => by go_simp⟩) hH ?_
    try simp only [Act.put, List.getElem_toArray, List.getElem_cons_zero, List.getElem_cons_succ, List.setIfInBounds_toArray, List.set_cons_zero, List.set_cons_succ]
    refine wpAnyH_take (i := 6) (oi := _) (v := .pointer (some ⟨g, 69, none⟩)) rfl (by kernel_rfl) (by kernel_rfl) (by kernel_rfl) (fun _ _ _ h => h) (Or.inl ⟨by rfl, fun w' hw' => by go_simp⟩) hH ?_
    try simp only [Act.put, List.getElem_toArray, List.getElem_cons_zero, List.getElem_cons_succ, List.setIfInBounds_toArray, List.set_cons_zero, List.set_cons_succ]
    refine wpAnyH_take (i := 7) (oi := _) (v := .int .i64 (s : Int)) rfl (by kernel_rfl) (by kernel_rfl) (by kernel_rfl) (fun _ _ _ h => h) (Or.inl ⟨by rfl, fun w' hw' => by have hc := vol_slot hw' HD.out; clear hw'; go_simp⟩) hH ?_
    try simp only [Act.put, List.getElem_toArray, List.getElem_cons_zero, List.getElem_cons_succ, List.setIfInBounds_toArray, List.set_cons_zero, List.set_cons_succ]
    refine wpAnyH_ready (rs := [8]) (by kernel_rfl) (by simp) ?_
    refine AllReadyH.cons (o := _) rfl (fun K hK => ?_) AllReadyH.nil
    rw [if_pos (by rfl)]
    refine wp_store_row 28 _ _ rfl w.heap.size (cellsI X) rfl rfl 28 _ (show Blk w1.drew w.heap.size (cellsI noFs) 28 from K1.out.1) (by rw [HZ.out]; exact info68) (by rw [HZ.out]; rfl) (cellsI_one _) ?_
    refine hK.out _ _ (show Blk _ _ _ _ from (setRow_block _ _ _ _ hgn).trans hH) (fun hH => ?_)
    clear hK K
    try simp only [Act.put, List.getElem_toArray, List.getElem_cons_zero, List.getElem_cons_succ, List.setIfInBounds_toArray, List.set_cons_zero, List.set_cons_succ]
    refine wpAnyH_ready (rs := [9]) (by kernel_rfl) (by simp) ?_
    refine AllReadyH.cons (o := _) rfl (fun K hK => ?_) AllReadyH.nil
    go_simp
    refine hK.out _ _ hH (fun hH => ?_)
    clear hK K
    try simp only [Act.put, List.getElem_toArray, List.getElem_cons_zero, List.getElem_cons_succ, List.setIfInBounds_toArray, List.set_cons_zero, List.set_cons_succ]
    refine wpAnyH_ready (rs := [10]) (by kernel_rfl) (by simp) ?_
    refine AllReadyH.cons (o := _) rfl (fun K hK => ?_) AllReadyH.nil
    go_simp
    refine hK.out _ _ hH (fun hH => ?_)
    clear hK K
    try simp only [Act.put, List.getElem_toArray, List.getElem_cons_zero, List.getElem_cons_succ, List.setIfInBounds_toArray, List.set_cons_zero, List.set_cons_succ]
    refine wpAnyH_done (by kernel_rfl) (NoPanic.normal ?_) _
    clear hH
    go_wp2
    refine bodyPost_ret (v := .tuple #[.agg (cellsI X), .int .i64 (s : Int), .int .i64 0]) ?_ rfl ⟨by rw [HA.out.1, HA.out.2.1, HA.out.2.2], below_setRow (K1.out.2.1.drew) (Nat.le_refl _) _⟩
    exact results_rtt rfl _ _ w.heap.size 28 (cellsI X) (0, 0) _ _ _ rfl rfl rfl (Blk.row (w := w1.drew) K1.out.1 _) Tryd.underlying28 rfl (by rw [HZ.out]; exact info68)
end Go.Proofs.YtfkmnmopkblopaaDoor
