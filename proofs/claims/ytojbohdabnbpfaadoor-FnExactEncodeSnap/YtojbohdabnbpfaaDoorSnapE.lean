/- A copy of a snapshot: toSnap. -/
import Derived.Test.YtojbohdabnbpfaaDoorSnapB
import Derived.Test.YtojbohdabnbpfaaDoorLawEncR
namespace Go.Proofs.YtojbohdabnbpfaaDoor
set_option linter.unusedVariables false
set_option linter.unusedSimpArgs false
open Go.RowKit

theorem Blk.cellsV {b : Nat} {t : TypeId} : ∀ (vs : List Value) {w : World} {L : List Value} (o : Nat), Blk w b L.toArray t → o + vs.length ≤ L.length → Blk (w.setCells b o vs) b (L.take o ++ vs ++ L.drop (o + vs.length)).toArray t
  | [], w, L, o, h, _ => by simpa [World.setCells] using h
  | v :: vs, w, L, o, h, hl => by
    have hlt : o < L.length := by simp at hl; omega
    have h1 := h.set o v
    have e1 : L.toArray.setIfInBounds o v = (L.set o v).toArray := by simp
    rw [e1] at h1
    have h2 := Blk.cellsV vs (o + 1) h1 (by simp at hl ⊢; omega)
    have e2 : (L.set o v).take (o + 1) ++ vs ++ (L.set o v).drop (o + 1 + vs.length) = L.take o ++ (v :: vs) ++ L.drop (o + (v :: vs).length) := by
      rw [List.take_succ_eq_append_getElem (by simpa using hlt), List.take_set_of_le (Nat.le_refl _), List.getElem_set_self, List.drop_set_of_lt (by omega)]
      simp [Nat.add_assoc, Nat.add_comm 1]
    rw [e2] at h2
    exact h2
theorem snap_over (pl : Int) (nm : ByteArray) (ge cl s : Int) (ds : List Int) (p q : Int) (hd : ds.length = 12) {w : World} {b : Nat} {t : TypeId} (h : Blk w b (snapC pl nm ge cl 0 (List.replicate 12 0) 0 0) t) : Blk (w.setCells b 4 (cellsI (rootI s ds p q)).toList) b (snapC pl nm ge cl s ds p q) t := by
  have hl := rootI_len s ds p q hd
  have h2 := Blk.cellsV (cellsI (rootI s ds p q)).toList 4 h (by simp [cellsI, rootI, hd])
  have e : (([.int .i64 pl, .string nm, .int .i64 ge, .int .i64 cl] : List Value) ++ (rootI 0 (List.replicate 12 0) 0 0).map (Value.int .i64)).take 4 ++ (cellsI (rootI s ds p q)).toList ++ (([.int .i64 pl, .string nm, .int .i64 ge, .int .i64 cl] : List Value) ++ (rootI 0 (List.replicate 12 0) 0 0).map (Value.int .i64)).drop (4 + (cellsI (rootI s ds p q)).toList.length) = ([.int .i64 pl, .string nm, .int .i64 ge, .int .i64 cl] : List Value) ++ (rootI s ds p q).map (Value.int .i64) := by
    have h3 : (cellsI (rootI s ds p q)).toList.length = 15 := by simp [cellsI, hl]
    rw [h3]
    simp [cellsI, rootI]
  rw [e] at h2
  exact h2

set_option maxRecDepth 100000 in
set_option maxHeartbeats 2000000 in
theorem toSnap_any (pl : Int) (nm : ByteArray) (ge cl s : Int) (ds : List Int) (p q : Int) (w : World) (hd : ds.length = 12) :
    Calls Tryd.prog 38 #[.agg (snapC pl nm ge cl s ds p q)] w fun e w' => e = .returned (.agg (snapC pl nm ge cl s ds p q)) ∧ Below w.heap.size w w' := by
  have HD := hide hd
  have HLen := hide (show (cellsI (rootI s ds p q)).size = 15 from by rw [cellsI_size]; exact rootI_len s ds p q HD.out)
  have HZ := hide (show (snapC pl nm ge cl s ds p q).size = 19 from snapC_size _ _ _ _ _ _ _ _ HD.out)
  have c0 : ∀ o1 o2, (((w.alloc (.cells (snapC pl nm ge cl s ds p q) 63)).alloc o1).alloc o2).cell? ⟨w.heap.size, 0, none⟩ = some (.int .i64 pl) := fun o1 o2 => by rw [(((Blk.new w _ _).alloc o1).alloc o2).cell 0]; rfl
  have c1 : ∀ o1 o2, (((w.alloc (.cells (snapC pl nm ge cl s ds p q) 63)).alloc o1).alloc o2).cell? ⟨w.heap.size, 1, none⟩ = some (.string nm) := fun o1 o2 => by rw [(((Blk.new w _ _).alloc o1).alloc o2).cell 1]; rfl
  have c2 : ∀ o1 o2, (((w.alloc (.cells (snapC pl nm ge cl s ds p q) 63)).alloc o1).alloc o2).cell? ⟨w.heap.size, 2, none⟩ = some (.int .i64 ge) := fun o1 o2 => by rw [(((Blk.new w _ _).alloc o1).alloc o2).cell 2]; rfl
  have c3 : ∀ o1 o2, (((w.alloc (.cells (snapC pl nm ge cl s ds p q) 63)).alloc o1).alloc o2).cell? ⟨w.heap.size, 3, none⟩ = some (.int .i64 cl) := fun o1 o2 => by rw [(((Blk.new w _ _).alloc o1).alloc o2).cell 3]; rfl
  clear hd
  go_enter Tryd.func38, Tryd.ntmps38
  go_wp2_with (first
    | (refine wpList_load_mid rfl 34 _ rfl w.heap.size 4 rfl ((rootI s ds p q).map (Value.int .i64)) _ (snap_range pl nm ge cl s ds p q (((Blk.new w (snapC pl nm ge cl s ds p q) 63).alloc _).alloc _)) Tryd.underlying34 rfl (by rw [List.length_map, ← cellsI_size, HLen.out]; exact infoL15) ?_)
    | (go_at_call 21; fail))
  refine (toRoot_any s ds p q _ HD.out).mono ?_
  rintro e w1 ⟨rfl, hb1⟩
  have kz : Blk w1 (w.heap.size + 1) (snapC 0 ByteArray.empty 0 0 0 (List.replicate 12 0) 0 0) 67 := by
    have h := ((Blk.new (w.alloc (.cells (snapC pl nm ge cl s ds p q) 63)) (snapC 0 ByteArray.empty 0 0 0 (List.replicate 12 0) 0 0) 67).alloc (.cells (snapC pl nm ge cl 0 (List.replicate 12 0) 0 0) 67)).below hb1 (by simp)
    rw [World.size_alloc] at h
    exact h
  have ko : Blk w1 (w.heap.size + 1 + 1) (snapC pl nm ge cl 0 (List.replicate 12 0) 0 0) 67 := by
    have h := (Blk.new ((w.alloc (.cells (snapC pl nm ge cl s ds p q) 63)).alloc (.cells (snapC 0 ByteArray.empty 0 0 0 (List.replicate 12 0) 0 0) 67)) (snapC pl nm ge cl 0 (List.replicate 12 0) 0 0) 67).below hb1 (by simp)
    rw [World.size_alloc, World.size_alloc] at h
    exact h
  have hB : Below w.heap.size w w1 := ((((Below.refl w.heap.size w).alloc (Nat.le_refl _) (.cells (snapC pl nm ge cl s ds p q) 63)).alloc (by simp) (.cells (snapC 0 ByteArray.empty 0 0 0 (List.replicate 12 0) 0 0) 67)).alloc (by simp; omega) (.cells (snapC pl nm ge cl 0 (List.replicate 12 0) 0 0) 67)).trans (hb1.mono (by simp; omega))
  have K := hide (And.intro kz (And.intro ko hB))
  clear kz ko hB hb1 c0 c1 c2 c3
  have K2 := hide (show Blk (w1.setCells (w.heap.size + 1 + 1) 4 (cellsI (rootI s ds p q)).toList) (w.heap.size + 1) (snapC 0 ByteArray.empty 0 0 0 (List.replicate 12 0) 0 0) 67 ∧ Blk (w1.setCells (w.heap.size + 1 + 1) 4 (cellsI (rootI s ds p q)).toList) (w.heap.size + 1 + 1) (snapC pl nm ge cl s ds p q) 67 ∧ Below w.heap.size w (w1.setCells (w.heap.size + 1 + 1) 4 (cellsI (rootI s ds p q)).toList) from
    ⟨Blk.cells_other _ 4 K.out.1 (by omega), snap_over pl nm ge cl s ds p q HD.out K.out.2.1, below_cells (by omega) _ 4 K.out.2.2⟩)
  go_wp2_with (first | (refine wpList_store_mid rfl 36 _ _ rfl (w.heap.size + 1 + 1) 4 (cellsI (rootI s ds p q)) rfl rfl (K.out.2.1.there 4 _ (by rw [HLen.out, snapC_size _ _ _ _ _ _ _ _ (by simp)]; omega)) (by rw [HLen.out]; exact info15) (cellsI_one _) ?_; generalize w1.setCells (w.heap.size + 1 + 1) 4 (cellsI (rootI s ds p q)).toList = w2 at K2 ⊢) | (refine wpList_load_row rfl 67 _ rfl (w.heap.size + 1 + 1) rfl 67 (snapC pl nm ge cl s ds p q) (0, 0) _ K2.out.2.1 Tryd.underlying67 rfl (by rw [HZ.out]; exact info19) ?_) | (refine wpList_store_row rfl 67 _ _ rfl (w.heap.size + 1) (snapC pl nm ge cl s ds p q) rfl rfl 67 _ K2.out.1 (by rw [HZ.out]; exact info19) (by rw [HZ.out]; rfl) (snapC_one _ _ _ _ _ _ _ _) ?_))
  refine bodyPost_ret (v := .agg (snapC pl nm ge cl s ds p q)) ?_ rfl ⟨rfl, ?_⟩
  · exact results_cell_row rfl _ _ (w.heap.size + 1) 67 (snapC pl nm ge cl s ds p q) (0, 0) _ rfl (K2.out.1.row _) Tryd.underlying67 rfl (by rw [HZ.out]; exact info19)
  · exact below_setRow K2.out.2.2 (by omega) _
end Go.Proofs.YtojbohdabnbpfaaDoor
