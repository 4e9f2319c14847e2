/- Plans: their size, copies, two that are the same, marks. -/
import Derived.Test.YtmmhkjpkidljlaaDoorZc39
namespace Go.Proofs.YtmmhkjpkidljlaaDoor
set_option linter.unusedVariables false
set_option linter.unusedSimpArgs false
open Go.RowKit

theorem OwnN.keep {W W' : World} {base b : Nat} {e : TypeId} {m : Nat} {v : Value} {L : List NE} {vs : List Value} (h : OwnN W base e m v L vs) (hg : W.grownBy W' (some b)) (hb : b < base) : OwnN W' base e m v L vs := by
  have k : ∀ (x : Value) (e : TypeId) (sz n : Nat) (xs : List Value), W.ownsRow base e sz x n xs → W'.ownsRow base e sz x n xs := fun x e sz n xs hx => hx.kept hg (by
    cases hv : x.ownBlock with
    | none => exact .inl rfl
    | some q => exact .inr (fun e => by have := (hx.lt q hv).1; have := Option.some.inj e; omega))
  exact ⟨h.len, h.pre, k _ _ _ _ _ h.row, fun i u l hu hl => k _ _ _ _ _ (h.dat i u l hu hl), h.one⟩
theorem cpC_set0 (v u : Value) (F : List Int) : (cpC v F).setIfInBounds 0 u = cpC u F := by
  apply Array.ext'
  rw [Array.toList_setIfInBounds]
  rfl
theorem cpC_setF (v : Value) (F : List Int) (o : Nat) (d : Int) : (cpC v F).setIfInBounds (1 + o) (.int .i64 d) = cpC v (F.set o d) := by
  apply Array.ext'
  rw [Array.toList_setIfInBounds, Nat.add_comm]
  show (v :: F.map (Value.int .i64)).set (o + 1) (.int .i64 d) = v :: (F.set o d).map (Value.int .i64)
  rw [List.set_cons_succ, List.map_set]
theorem cpBlk {b : Nat} {t : TypeId} {v : Value} : ∀ (ds : List Int) {w : World} {xs : List Int} (o : Nat), Blk w b (cpC v xs) t → o + ds.length ≤ xs.length → Blk (w.setCells b (1 + o) (ds.map (Value.int .i64))) b (cpC v (over xs o ds)) t
  | [], w, xs, o, h, _ => by simpa [over, World.setCells] using h
  | d :: ds, w, xs, o, h, hl => by
    have h1 := h.set (1 + o) (.int .i64 d)
    rw [cpC_setF] at h1
    have h2 := cpBlk ds (o + 1) h1 (by simp at hl ⊢; omega)
    rw [over_cons xs o d ds hl] at h2
    exact h2
theorem over_all (F : List Int) (h : F.length = 68) : over (List.replicate 68 0) 0 F = F := by
  simp [over, h]
theorem cpC_one (a : Option Addr) (n c : Nat) (F : List Int) : (cpC (.slice a n c) F).all (·.oneCell') = true := by
  refine all_oneCell_toArray (cs := .slice a n c :: F.map (Value.int .i64)) (fun v hv => ?_)
  rw [List.mem_cons] at hv
  rcases hv with rfl | hv
  · rfl
  · rw [List.mem_map] at hv
    obtain ⟨z, _, rfl⟩ := hv
    rfl
theorem cells_grown {b : Nat} : ∀ (vs : List Value) (w : World) (o : Nat), w.grownBy (w.setCells b o vs) (some b)
  | [], w, _ => World.grownBy.refl _ _
  | v :: vs, w, o => grownBy_trans (set_grown w b o v) (cells_grown vs _ (o + 1))
theorem zeroCp : Tryd.zeroCells40 = cpC (.slice none 0 0) (List.replicate 68 0) := by kernel_rfl
theorem infoCL : (Tryd.prog.info? 30).map (·.size) = some 69 := by kernel_rfl

set_option maxRecDepth 100000 in
set_option maxHeartbeats 2000000 in
theorem toCpOut_any (v : Value) (Q : List (Int × List Int)) (us : List Value) (F : List Int) (r : Bool) (enc : List Int) (w : World) (h : RdN w 1 v (Q.map neP) us) (hF : FsK F r enc) (hq : Q.length ≤ 1048576) (hb : ∀ p ∈ Q, p.2.length ≤ 1048576) :
    Calls Tryd.prog 6 #[.agg (cpC v F)] w fun e w' => ∃ v' vs, e = .returned (.agg (cpC v' F)) ∧ OwnN w' w.heap.size 52 1 v' (Q.map neP) vs ∧ Below w.heap.size w w' := by
  obtain ⟨a, cap, rfl⟩ : ∃ a cap, v = .slice a Q.length cap := by obtain ⟨a, cap, e, _⟩ := h.row; exact ⟨a, cap, by simpa using e⟩
  have HF := hide hF
  have HQ := hide (And.intro h (And.intro hq hb))
  have HZF := hide (show (F.map (Value.int .i64)).length = 68 by rw [List.length_map]; exact hF.len)
  have HZ := hide (fun v => cpC_size v F hF.len)
  clear h hF hb
  obtain ⟨X, hX⟩ : ∃ X, X = ((w.alloc (.cells (cpC (.slice a Q.length cap) F) 30)).alloc (.cells Tryd.zeroCells40 40)).alloc (.cells Tryd.zeroCells40 40) := ⟨_, rfl⟩
  have HX := hide (show Below w.heap.size w X ∧ Blk X w.heap.size (cpC (.slice a Q.length cap) F) 30 ∧ Blk X (w.heap.size + 1) (cpC (.slice none 0 0) (List.replicate 68 0)) 40 ∧ Blk X (w.heap.size + 1 + 1) (cpC (.slice none 0 0) (List.replicate 68 0)) 40 ∧ X.heap.size = w.heap.size + 1 + 1 + 1 from by
    rw [hX, zeroCp]
    have k1 := Blk.new (w.alloc (.cells (cpC (.slice a Q.length cap) F) 30)) (cpC (.slice none 0 0) (List.replicate 68 0)) 40
    have k2 := Blk.new ((w.alloc (.cells (cpC (.slice a Q.length cap) F) 30)).alloc (.cells (cpC (.slice none 0 0) (List.replicate 68 0)) 40)) (cpC (.slice none 0 0) (List.replicate 68 0)) 40
    rw [World.size_alloc] at k1
    rw [World.size_alloc, World.size_alloc] at k2
    exact ⟨(((Below.refl _ _).alloc (Nat.le_refl _) _).alloc (by simp) _).alloc (by simp; omega) _, ((Blk.new w _ _).alloc _).alloc _, k1.alloc _, k2, by simp⟩)
  have HXX := hide hX
  have c0 := cp_head HX.out.2.1
  rw [hX] at c0
  clear hX
  go_enter Tryd.func6, Tryd.ntmps6
  go_wp2_with fail
  rw [← HXX.out]
  clear c0
  refine (toPutS_any _ Q us X (HQ.out.1.below HX.out.1) HQ.out.2.1 HQ.out.2.2).mono ?_
  rintro e w1 ⟨v', vs, rfl, o1, b1⟩
  obtain ⟨a1, cp1, rfl⟩ : ∃ a1 c1, v' = .slice a1 Q.length c1 := by obtain ⟨x, y, e⟩ := own_shape o1.row; exact ⟨x, y, by simpa using e⟩
  have hXs := HX.out.2.2.2.2
  rw [hXs] at o1
  have H1 := hide (show Below w.heap.size w w1 ∧ Blk w1 w.heap.size (cpC (.slice a Q.length cap) F) 30 ∧ Blk w1 (w.heap.size + 1) (cpC (.slice none 0 0) (List.replicate 68 0)) 40 ∧ Blk w1 (w.heap.size + 1 + 1) (cpC (.slice none 0 0) (List.replicate 68 0)) 40 ∧ OwnN w1 (w.heap.size + 1 + 1 + 1) 52 1 (.slice a1 Q.length cp1) (Q.map neP) vs from
    ⟨HX.out.1.trans (b1.mono HX.out.1.size), HX.out.2.1.below b1 HX.out.2.1.lt, HX.out.2.2.1.below b1 HX.out.2.2.1.lt, HX.out.2.2.2.1.below b1 HX.out.2.2.2.1.lt, o1⟩)
  have c2 := cp_head H1.out.2.2.2.1
  have f2 := H1.out.2.2.2.1.frozen 0
  have H2 := hide (show Below w.heap.size w (w1.setCell ⟨w.heap.size + 1 + 1, 0, none⟩ (.slice a1 Q.length cp1)) ∧ Blk (w1.setCell ⟨w.heap.size + 1 + 1, 0, none⟩ (.slice a1 Q.length cp1)) w.heap.size (cpC (.slice a Q.length cap) F) 30 ∧ Blk (w1.setCell ⟨w.heap.size + 1 + 1, 0, none⟩ (.slice a1 Q.length cp1)) (w.heap.size + 1) (cpC (.slice none 0 0) (List.replicate 68 0)) 40 ∧ Blk (w1.setCell ⟨w.heap.size + 1 + 1, 0, none⟩ (.slice a1 Q.length cp1)) (w.heap.size + 1 + 1) (cpC (.slice a1 Q.length cp1) (List.replicate 68 0)) 40 ∧ OwnN (w1.setCell ⟨w.heap.size + 1 + 1, 0, none⟩ (.slice a1 Q.length cp1)) (w.heap.size + 1 + 1 + 1) 52 1 (.slice a1 Q.length cp1) (Q.map neP) vs from
    ⟨H1.out.1.setCell (p := ⟨w.heap.size + 1 + 1, 0, none⟩) (by show w.heap.size ≤ w.heap.size + 1 + 1; omega) _, H1.out.2.1.other _ _ (by show w.heap.size ≠ w.heap.size + 1 + 1; omega), H1.out.2.2.1.other _ _ (by show w.heap.size + 1 ≠ w.heap.size + 1 + 1; omega), by have := H1.out.2.2.2.1.set 0 (.slice a1 Q.length cp1); rw [cpC_set0] at this; exact this, H1.out.2.2.2.2.keep (set_grown _ _ _ _) (by omega)⟩)
  clear o1 b1 HX HXX H1 hXs
  go_wp2_with (first | (refine wpList_load_mid rfl 28 _ rfl w.heap.size 1 rfl (F.map (Value.int .i64)) _ (cp_range H2.out.2.1) Tryd.underlying28 rfl (by rw [HZF.out]; exact infoL68) ?_) | fail)
  refine (HF.out.copy _).mono ?_
  rintro e w3 ⟨rfl, b3⟩
  have H3 := hide (show Below w.heap.size w w3 ∧ Blk w3 (w.heap.size + 1) (cpC (.slice none 0 0) (List.replicate 68 0)) 40 ∧ Blk w3 (w.heap.size + 1 + 1) (cpC (.slice a1 Q.length cp1) (List.replicate 68 0)) 40 ∧ OwnN w3 (w.heap.size + 1 + 1 + 1) 52 1 (.slice a1 Q.length cp1) (Q.map neP) vs from
    ⟨H2.out.1.trans (b3.mono H2.out.1.size), H2.out.2.2.1.below b3 H2.out.2.2.1.lt, H2.out.2.2.2.1.below b3 H2.out.2.2.2.1.lt, H2.out.2.2.2.2.below b3⟩)
  clear b3 H2 c2 f2
  have HFl := hide HF.out.len
  have HZc := hide (show (cellsI F).size = 68 from by rw [cellsI_size]; exact HFl.out)
  have H4 := hide (show Below w.heap.size w (w3.setCells (w.heap.size + 1 + 1) 1 (cellsI F).toList) ∧ Blk (w3.setCells (w.heap.size + 1 + 1) 1 (cellsI F).toList) (w.heap.size + 1) (cpC (.slice none 0 0) (List.replicate 68 0)) 40 ∧ Blk (w3.setCells (w.heap.size + 1 + 1) 1 (cellsI F).toList) (w.heap.size + 1 + 1) (cpC (.slice a1 Q.length cp1) F) 40 ∧ OwnN (w3.setCells (w.heap.size + 1 + 1) 1 (cellsI F).toList) (w.heap.size + 1 + 1 + 1) 52 1 (.slice a1 Q.length cp1) (Q.map neP) vs from
    ⟨below_cells (by omega) _ _ H3.out.1, Blk.cells_other _ _ H3.out.2.1 (by omega), by have := cpBlk F 0 H3.out.2.2.1 (by rw [HFl.out]; simp); rw [over_all F HFl.out] at this; exact this, H3.out.2.2.2.keep (cells_grown _ _ _) (by omega)⟩)
  have HT := hide (H3.out.2.2.1.there 1 68 (by rw [cpC_size _ _ (by simp)]; omega))
  have H5 := hide (And.intro (below_setRow H4.out.1 (show w.heap.size ≤ w.heap.size + 1 by omega) (cpC (.slice a1 Q.length cp1) F)) (H4.out.2.2.2.keep (setRow_grown _ (w.heap.size + 1) (cpC (.slice a1 Q.length cp1) F)) (by omega)))
  go_wp2_with (first | (refine wpList_store_mid rfl 38 _ _ rfl (w.heap.size + 1 + 1) 1 (cellsI F) rfl rfl (by rw [HZc.out]; exact HT.out) (by rw [HZc.out]; exact info68) (cellsI_one _) ?_) | (refine wpList_load_row rfl 40 _ rfl (w.heap.size + 1 + 1) rfl 40 (cpC (.slice a1 Q.length cp1) F) (0, 0) _ H4.out.2.2.1 Tryd.underlying40 rfl (by rw [HZ.out]; exact infoC69) ?_) | (refine wpList_store_row rfl 40 _ _ rfl (w.heap.size + 1) (cpC (.slice a1 Q.length cp1) F) rfl rfl 40 _ H4.out.2.1 (by rw [HZ.out]; exact infoC69) (by rw [HZ.out, cpC_size _ _ (by simp)]) (cpC_one _ _ _ _) ?_) | fail)
  refine bodyPost_ret (v := .agg (cpC (.slice a1 Q.length cp1) F)) ?_ rfl ⟨_, _, rfl, H5.out.2.mono (by omega), H5.out.1⟩
  exact results_cell_row rfl _ _ (w.heap.size + 1) 40 (cpC (.slice a1 Q.length cp1) F) (0, 0) _ rfl (H4.out.2.1.row _) Tryd.underlying40 rfl (by rw [HZ.out]; exact infoC69)
end Go.Proofs.YtmmhkjpkidljlaaDoor
