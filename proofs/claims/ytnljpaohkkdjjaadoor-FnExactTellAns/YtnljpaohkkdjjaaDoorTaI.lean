/- The law's helpers over an answer: szAns, toAns, eqAns. -/
import Derived.Test.YtnljpaohkkdjjaaDoorTaH
namespace Go.Proofs.YtnljpaohkkdjjaaDoor
set_option linter.unusedVariables false
set_option linter.unusedSimpArgs false
open Go.RowKit

set_option maxRecDepth 100000 in
set_option maxHeartbeats 2000000 in
theorem szAnsT (cd nn : Int) (dv : Value) (zs : List UInt8) (s0 s1 s2 s3 s4 s5 s6 s7 s8 s9 : Int) (nv : Value) (L : List EK) (q0 q1 q2 q3 q4 q5 q6 q7 q8 q9 : Int) (w : World) (hd : Rd .u8 w dv (txI zs)) (hn : RdE w nv L) (hm : ∀ e ∈ L, e.1.size ≤ maxLen) (hl : L.length ≤ maxLen) :
    Calls Tryd.prog 4 #[.agg #[.int .i64 cd, .int .i64 nn, dv, .int .i64 s0, .int .i64 s1, .int .i64 s2, .int .i64 s3, .int .i64 s4, .int .i64 s5, .int .i64 s6, .int .i64 s7, .int .i64 s8, .int .i64 s9, nv, .int .i64 q0, .int .i64 q1, .int .i64 q2, .int .i64 q3, .int .i64 q4, .int .i64 q5, .int .i64 q6, .int .i64 q7, .int .i64 q8, .int .i64 q9], .int .i64 1048576] w fun e w' => ∃ z, e = .returned (.int .i64 z) ∧ (¬ z < 0 → zs.length ≤ 1048576 ∧ L.length + sizK L ≤ 1048576) ∧ Below w.heap.size w w' := by
  obtain ⟨da, dc, rfl⟩ : ∃ a cap, dv = .slice a zs.length cap := by obtain ⟨a, cap, h1, _⟩ := hd; rw [txI_len] at h1; exact ⟨a, cap, h1⟩
  obtain ⟨na, nc, rfl⟩ : ∃ a cap, nv = .slice a L.length cap := by obtain ⟨a, cap, h1, _⟩ := hn; exact ⟨a, cap, h1⟩
  have BW := hide (show Below w.heap.size w (w.alloc (.cells #[.int .i64 cd, .int .i64 nn, .slice da zs.length dc, .int .i64 s0, .int .i64 s1, .int .i64 s2, .int .i64 s3, .int .i64 s4, .int .i64 s5, .int .i64 s6, .int .i64 s7, .int .i64 s8, .int .i64 s9, .slice na L.length nc, .int .i64 q0, .int .i64 q1, .int .i64 q2, .int .i64 q3, .int .i64 q4, .int .i64 q5, .int .i64 q6, .int .i64 q7, .int .i64 q8, .int .i64 q9] 29)) from (Below.refl _ _).alloc (Nat.le_refl _) _)
  have HD := hide hd
  have HN := hide hn
  have HL := hide (txI_len zs)
  clear hd hn
  by_cases hz : (1048576 : Int) < (zs.length : Int)
  · go_enter Tryd.func4, Tryd.ntmps4
    go_wp2_with (go_at_call 9; refine (szByteT _ (txI zs) 1048576 _ (HD.out.below BW.out) (by omega) (by omega)).mono ?_; rw [HL.out, if_pos hz]; rintro e w1 ⟨rfl, e1⟩; rw [e1]; clear e1)
    go_ret
    exact ⟨-1, rfl, fun h => by omega, BW.out⟩
  · have h0 : 0 ≤ (1048576 : Int) - zs.length := by omega
    obtain ⟨lf, hlf⟩ : ∃ z : Int, z = 1048576 - zs.length := ⟨_, rfl⟩
    rw [← hlf] at h0
    have HF := hide hlf
    have h1 : lf ≤ 1048576 := by omega
    clear hlf
    go_enter Tryd.func4, Tryd.ntmps4
    go_wp2_with (first | (go_at_call 9; refine (szByteT _ (txI zs) 1048576 _ (HD.out.below BW.out) (by omega) (by omega)).mono ?_; rw [HL.out, if_neg hz, ← HF.out]; rintro e w1 ⟨rfl, e1⟩; rw [e1]; clear e1) | (go_at_call 10; fail))
    refine (szDirentsT _ L lf _ (HN.out.below BW.out) hm hl h0 h1).mono ?_
    rintro e w2 ⟨z, rfl, hz2, b2⟩
    have B2 := hide (BW.out.trans (b2.mono BW.out.size))
    have HZ := hide hz2
    clear b2 hz2
    by_cases hzz : z < 0
    · go_wp2
      go_ret
      exact ⟨-1, rfl, fun h => by omega, B2.out⟩
    · have HQ := hide (show zs.length ≤ 1048576 ∧ L.length + sizK L ≤ 1048576 from by have h3 := HZ.out hzz; have h4 := HF.out; omega)
      go_wp2
      go_ret
      exact ⟨z, rfl, fun _ => HQ.out, B2.out⟩
theorem heap_cellsT {b b' : Nat} (hne : b' ≠ b) : ∀ (vs : List Value) {w : World} (o : Nat), (w.setCells b o vs).heap[b']? = w.heap[b']?
  | [], _, _ => rfl
  | v :: vs, w, o => (heap_cellsT hne vs (w := w.setCell ⟨b, o, none⟩ v) (o + 1)).trans (heap_setCell_other w ⟨b, o, none⟩ b' v hne)
theorem size_cellsT (b : Nat) : ∀ (vs : List Value) (w : World) (o : Nat), (w.setCells b o vs).heap.size = w.heap.size
  | [], _, _ => rfl
  | v :: vs, w, o => (size_cellsT b vs (w.setCell ⟨b, o, none⟩ v) (o + 1)).trans (by simp)
/-- Only block p has turned. -/
def But (p : Nat) (w w' : World) : Prop := w.heap.size ≤ w'.heap.size ∧ ∀ b, b ≠ p → b < w.heap.size → w'.heap[b]? = w.heap[b]?
theorem But.rd {p : Nat} {w w' : World} {k : IntKind} {v : Value} {zs : List Int} (h : But p w w') (hr : Rd k w v zs) (hne : ∀ b off n c, v = .slice (some ⟨b, off, none⟩) n c → p < b) : Rd k w' v zs := by
  obtain ⟨a, cap, rfl, hm, hc, hcap⟩ := hr
  refine ⟨a, cap, rfl, hm, fun h0 => ?_, hcap⟩
  obtain ⟨b, off, rfl, hlt, hcell⟩ := hc h0
  refine ⟨b, off, rfl, Nat.lt_of_lt_of_le hlt h.1, fun i hi => ?_⟩
  rw [← hcell i hi]
  exact cell_sameT (h.2 b (by have := hne b off _ _ rfl; omega) hlt)
theorem But.rdE {p : Nat} {w w' : World} {v : Value} {L : List EK} (h : But p w w') (hr : RdE w v L) (hne : ∀ b off n c, v = .slice (some ⟨b, off, none⟩) n c → p < b) : RdE w' v L := by
  obtain ⟨a, cap, rfl, hc⟩ := hr
  refine ⟨a, cap, rfl, fun h0 => ?_⟩
  obtain ⟨b, off, rfl, hlt, hcell⟩ := hc h0
  refine ⟨b, off, rfl, Nat.lt_of_lt_of_le hlt h.1, fun i e he => ?_⟩
  obtain ⟨h1, h2, h3⟩ := hcell i e he
  have hs := h.2 b (by have := hne b off _ _ rfl; omega) hlt
  exact ⟨(cell_sameT hs).trans h1, (cell_sameT hs).trans h2, (cell_sameT hs).trans h3⟩
/-- In the midst of toAns: the argument's box, the result's cells, the copy so far. -/
structure ToI (w : World) (A Z X : Array Value) (W : World) : Prop where
  bel : Below w.heap.size w W
  arg : Blk W w.heap.size A 29
  res : Blk W (w.heap.size + 1) Z 36
  cop : Blk W (w.heap.size + 1 + 1) X 36
theorem ToI.past {w W W' : World} {A Z X : Array Value} (h : ToI w A Z X W) (hb : Below W.heap.size W W') : ToI w A Z X W' :=
  ⟨h.bel.trans (hb.mono h.bel.size), h.arg.below hb h.arg.lt, h.res.below hb h.res.lt, h.cop.below hb h.cop.lt⟩
theorem ToI.set {w W : World} {A Z X : Array Value} (h : ToI w A Z X W) (j : Nat) (v : Value) : ToI w A Z (X.setIfInBounds j v) (W.setCell ⟨w.heap.size + 1 + 1, j, none⟩ v) ∧ But (w.heap.size + 1 + 1) W (W.setCell ⟨w.heap.size + 1 + 1, j, none⟩ v) :=
  ⟨⟨h.bel.setCell (p := ⟨w.heap.size + 1 + 1, j, none⟩) (by show w.heap.size ≤ w.heap.size + 1 + 1; omega) _, h.arg.other _ _ (by show w.heap.size ≠ w.heap.size + 1 + 1; omega), h.res.other _ _ (by show w.heap.size + 1 ≠ w.heap.size + 1 + 1; omega), h.cop.set j v⟩, by simp, fun b hb _ => heap_setCell_other W _ b v hb⟩
theorem ToI.cells {w : World} {A Z : Array Value} : ∀ (vs : List Value) {W : World} {X : Array Value} (o : Nat), ToI w A Z X W → ∃ X', X' = (vs.foldl (fun (p : Array Value × Nat) v => (p.1.setIfInBounds p.2 v, p.2 + 1)) (X, o)).1 ∧ ToI w A Z X' (W.setCells (w.heap.size + 1 + 1) o vs) ∧ But (w.heap.size + 1 + 1) W (W.setCells (w.heap.size + 1 + 1) o vs)
  | [], _, X, _, h => ⟨X, rfl, h, Nat.le_refl _, fun _ _ _ => rfl⟩
  | v :: vs, W, X, o, h => by
    obtain ⟨X', h1, h2, h3⟩ := ToI.cells vs (o + 1) (h.set o v).1
    exact ⟨X', h1, h2, Nat.le_of_eq (size_cellsT _ _ _ _).symm, fun b hb _ => heap_cellsT hb _ o⟩
theorem infoAns : (Tryd.prog.info? 36).map (·.size) = some 24 := by kernel_rfl
theorem infoS10 : (Tryd.prog.info? 32).map (·.size) = some 10 := by kernel_rfl
theorem infoU10 : (Tryd.prog.info? 34).map (·.size) = some 10 := by kernel_rfl
theorem infoLS10 : (Tryd.prog.info? 24).map (·.size) = some 10 := by kernel_rfl
theorem infoLU10 : (Tryd.prog.info? 27).map (·.size) = some 10 := by kernel_rfl
theorem infoLAns : (Tryd.prog.info? 29).map (·.size) = some 24 := by kernel_rfl
theorem ans_range {w : World} {b : Nat} {C : Array Value} {t : TypeId} (h : Blk w b C t) (o n : Nat) (l : List Value) (hl : (C.toList.drop o).take n = l) : w.rangeAt b o l := by
  subst hl
  intro j v hv
  rw [h.cell (o + j)]
  rw [List.getElem?_take] at hv
  split at hv
  · rw [List.getElem?_drop] at hv
    simpa using hv
  · cases hv
theorem size_setRowT (w : World) (g : Nat) (cs : Array Value) : (w.setRow g cs).heap.size = w.heap.size := by simp [World.setRow]
theorem below_setRowT {B g : Nat} {w0 w : World} (h : Below B w0 w) (hg : B ≤ g) (cs : Array Value) : Below B w0 (w.setRow g cs) :=
  ⟨h.os, h.tape, h.output, by rw [size_setRowT]; exact h.size, fun k hk => by rw [setRow_block w g cs k (by omega)]; exact h.block k hk⟩
theorem ints_oneT (l : List Int) : ∀ v ∈ l.map (Value.int .i64), v.oneCell' = true := by
  intro v hv
  obtain ⟨z, _, rfl⟩ := List.mem_map.1 hv
  rfl
theorem ans_one (cd nn : Int) (d n : Value) (hd : d.oneCell' = true) (hn : n.oneCell' = true) (ss us : List Int) : (([Value.int .i64 cd, .int .i64 nn, d] ++ ss.map (Value.int .i64) ++ [n] ++ us.map (Value.int .i64)).toArray).all (·.oneCell') = true := all_oneCell_toArray (by
  intro v hv
  simp only [List.mem_append, List.mem_cons, List.not_mem_nil, or_false] at hv
  rcases hv with (((rfl | rfl | rfl) | h) | rfl) | h
  · rfl
  · rfl
  · exact hd
  · exact ints_oneT _ v h
  · exact hn
  · exact ints_oneT _ v h)
set_option maxRecDepth 100000 in
set_option maxHeartbeats 4000000 in
theorem toAnsT (cd nn : Int) (dv : Value) (zs : List UInt8) (s0 s1 s2 s3 s4 s5 s6 s7 s8 s9 : Int) (nv : Value) (L : List EK) (q0 q1 q2 q3 q4 q5 q6 q7 q8 q9 : Int) (w : World) (hd : Rd .u8 w dv (txI zs)) (hn : RdE w nv L) (hzl : zs.length ≤ 1048576) (hll : L.length ≤ 1048576) :
    Calls Tryd.prog 6 #[.agg #[.int .i64 cd, .int .i64 nn, dv, .int .i64 s0, .int .i64 s1, .int .i64 s2, .int .i64 s3, .int .i64 s4, .int .i64 s5, .int .i64 s6, .int .i64 s7, .int .i64 s8, .int .i64 s9, nv, .int .i64 q0, .int .i64 q1, .int .i64 q2, .int .i64 q3, .int .i64 q4, .int .i64 q5, .int .i64 q6, .int .i64 q7, .int .i64 q8, .int .i64 q9]] w fun e w' => ∃ dv' nv', e = .returned (.agg #[.int .i64 cd, .int .i64 nn, dv', .int .i64 s0, .int .i64 s1, .int .i64 s2, .int .i64 s3, .int .i64 s4, .int .i64 s5, .int .i64 s6, .int .i64 s7, .int .i64 s8, .int .i64 s9, nv', .int .i64 q0, .int .i64 q1, .int .i64 q2, .int .i64 q3, .int .i64 q4, .int .i64 q5, .int .i64 q6, .int .i64 q7, .int .i64 q8, .int .i64 q9]) ∧ Rd .u8 w' dv' (txI zs) ∧ RdE w' nv' L ∧ Below w.heap.size w w' := by
  obtain ⟨da, dc, rfl⟩ : ∃ a cap, dv = .slice a zs.length cap := by obtain ⟨a, cap, h1, _⟩ := hd; rw [txI_len] at h1; exact ⟨a, cap, h1⟩
  obtain ⟨na, nc, rfl⟩ : ∃ a cap, nv = .slice a L.length cap := by obtain ⟨a, cap, h1, _⟩ := hn; exact ⟨a, cap, h1⟩
  have HD := hide hd
  have HN := hide hn
  obtain ⟨X, hX⟩ : ∃ X, X = ((w.alloc (.cells #[.int .i64 cd, .int .i64 nn, .slice da zs.length dc, .int .i64 s0, .int .i64 s1, .int .i64 s2, .int .i64 s3, .int .i64 s4, .int .i64 s5, .int .i64 s6, .int .i64 s7, .int .i64 s8, .int .i64 s9, .slice na L.length nc, .int .i64 q0, .int .i64 q1, .int .i64 q2, .int .i64 q3, .int .i64 q4, .int .i64 q5, .int .i64 q6, .int .i64 q7, .int .i64 q8, .int .i64 q9] 29)).alloc (.cells #[.int .i64 0, .int .i64 0, .slice none 0 0, .int .i64 0, .int .i64 0, .int .i64 0, .int .i64 0, .int .i64 0, .int .i64 0, .int .i64 0, .int .i64 0, .int .i64 0, .int .i64 0, .slice none 0 0, .int .i64 0, .int .i64 0, .int .i64 0, .int .i64 0, .int .i64 0, .int .i64 0, .int .i64 0, .int .i64 0, .int .i64 0, .int .i64 0] 36)).alloc (.cells #[.int .i64 cd, .int .i64 nn, .slice none 0 0, .int .i64 0, .int .i64 0, .int .i64 0, .int .i64 0, .int .i64 0, .int .i64 0, .int .i64 0, .int .i64 0, .int .i64 0, .int .i64 0, .slice none 0 0, .int .i64 0, .int .i64 0, .int .i64 0, .int .i64 0, .int .i64 0, .int .i64 0, .int .i64 0, .int .i64 0, .int .i64 0, .int .i64 0] 36) := ⟨_, rfl⟩
  have HX := hide (show ToI w #[.int .i64 cd, .int .i64 nn, .slice da zs.length dc, .int .i64 s0, .int .i64 s1, .int .i64 s2, .int .i64 s3, .int .i64 s4, .int .i64 s5, .int .i64 s6, .int .i64 s7, .int .i64 s8, .int .i64 s9, .slice na L.length nc, .int .i64 q0, .int .i64 q1, .int .i64 q2, .int .i64 q3, .int .i64 q4, .int .i64 q5, .int .i64 q6, .int .i64 q7, .int .i64 q8, .int .i64 q9] #[.int .i64 0, .int .i64 0, .slice none 0 0, .int .i64 0, .int .i64 0, .int .i64 0, .int .i64 0, .int .i64 0, .int .i64 0, .int .i64 0, .int .i64 0, .int .i64 0, .int .i64 0, .slice none 0 0, .int .i64 0, .int .i64 0, .int .i64 0, .int .i64 0, .int .i64 0, .int .i64 0, .int .i64 0, .int .i64 0, .int .i64 0, .int .i64 0] #[.int .i64 cd, .int .i64 nn, .slice none 0 0, .int .i64 0, .int .i64 0, .int .i64 0, .int .i64 0, .int .i64 0, .int .i64 0, .int .i64 0, .int .i64 0, .int .i64 0, .int .i64 0, .slice none 0 0, .int .i64 0, .int .i64 0, .int .i64 0, .int .i64 0, .int .i64 0, .int .i64 0, .int .i64 0, .int .i64 0, .int .i64 0, .int .i64 0] X ∧ X.heap.size = w.heap.size + 1 + 1 + 1 from by
    rw [hX]
    have k1 := Blk.new (w.alloc (.cells #[.int .i64 cd, .int .i64 nn, .slice da zs.length dc, .int .i64 s0, .int .i64 s1, .int .i64 s2, .int .i64 s3, .int .i64 s4, .int .i64 s5, .int .i64 s6, .int .i64 s7, .int .i64 s8, .int .i64 s9, .slice na L.length nc, .int .i64 q0, .int .i64 q1, .int .i64 q2, .int .i64 q3, .int .i64 q4, .int .i64 q5, .int .i64 q6, .int .i64 q7, .int .i64 q8, .int .i64 q9] 29)) #[.int .i64 0, .int .i64 0, .slice none 0 0, .int .i64 0, .int .i64 0, .int .i64 0, .int .i64 0, .int .i64 0, .int .i64 0, .int .i64 0, .int .i64 0, .int .i64 0, .int .i64 0, .slice none 0 0, .int .i64 0, .int .i64 0, .int .i64 0, .int .i64 0, .int .i64 0, .int .i64 0, .int .i64 0, .int .i64 0, .int .i64 0, .int .i64 0] 36
    have k2 := Blk.new ((w.alloc (.cells #[.int .i64 cd, .int .i64 nn, .slice da zs.length dc, .int .i64 s0, .int .i64 s1, .int .i64 s2, .int .i64 s3, .int .i64 s4, .int .i64 s5, .int .i64 s6, .int .i64 s7, .int .i64 s8, .int .i64 s9, .slice na L.length nc, .int .i64 q0, .int .i64 q1, .int .i64 q2, .int .i64 q3, .int .i64 q4, .int .i64 q5, .int .i64 q6, .int .i64 q7, .int .i64 q8, .int .i64 q9] 29)).alloc (.cells #[.int .i64 0, .int .i64 0, .slice none 0 0, .int .i64 0, .int .i64 0, .int .i64 0, .int .i64 0, .int .i64 0, .int .i64 0, .int .i64 0, .int .i64 0, .int .i64 0, .int .i64 0, .slice none 0 0, .int .i64 0, .int .i64 0, .int .i64 0, .int .i64 0, .int .i64 0, .int .i64 0, .int .i64 0, .int .i64 0, .int .i64 0, .int .i64 0] 36)) #[.int .i64 cd, .int .i64 nn, .slice none 0 0, .int .i64 0, .int .i64 0, .int .i64 0, .int .i64 0, .int .i64 0, .int .i64 0, .int .i64 0, .int .i64 0, .int .i64 0, .int .i64 0, .slice none 0 0, .int .i64 0, .int .i64 0, .int .i64 0, .int .i64 0, .int .i64 0, .int .i64 0, .int .i64 0, .int .i64 0, .int .i64 0, .int .i64 0] 36
    rw [World.size_alloc] at k1
    rw [World.size_alloc, World.size_alloc] at k2
    exact ⟨⟨(((Below.refl _ _).alloc (Nat.le_refl _) _).alloc (by simp) _).alloc (by simp; omega) _, ((Blk.new w _ _).alloc _).alloc _, k1.alloc _, k2⟩, by simp⟩)
  have HXX := hide hX
  clear hX hd hn
  go_enter Tryd.func6, Tryd.ntmps6
  go_wp2_with (go_at_call 14; fail)
  rw [← HXX.out]
  refine (toByteS_any _ (txI zs) X (HD.out.below HX.out.1.bel) (by rw [txI_len]; omega)).mono ?_
  rintro e w1 ⟨v1, rfl, o1, b1⟩
  obtain ⟨a1, k1, rfl⟩ := own_shapeT o1
  have R1 := hide (Rd.own o1)
  have P1 := hide (show ∀ b off n c, (Value.slice a1 (txI zs).length k1) = .slice (some ⟨b, off, none⟩) n c → w.heap.size + 1 + 1 < b from fun b off n c e => by
    injection e with e _ _
    have h1 := (o1.lt b (by rw [e]; rfl)).1
    have h2 := HX.out.2
    omega)
  have T1 := hide (HX.out.1.past b1)
  have c2 : w1.cell? ⟨w.heap.size + 1 + 1, 2, none⟩ = some (.slice none 0 0) := (T1.out.cop.cell 2).trans rfl
  have f2 := T1.out.cop.frozen 2
  have t2 := T1.out.set 2 (.slice a1 (txI zs).length k1)
  simp only [List.setIfInBounds_toArray, List.set_cons_zero, List.set_cons_succ] at t2
  have T2 := hide t2
  clear t2
  clear o1 b1 HX HXX
  go_upto_region 5 with fail
  generalize w1.setCell ⟨w.heap.size + 1 + 1, 2, none⟩ (.slice a1 (txI zs).length k1) = w2 at T2 ⊢
  have R2 := hide (T2.out.2.rd R1.out P1.out)
  clear c2 f2 T1 R1
  go_wp2_with (first | (refine wpList_load_mid rfl 24 _ rfl w.heap.size 3 rfl [.int .i64 s0, .int .i64 s1, .int .i64 s2, .int .i64 s3, .int .i64 s4, .int .i64 s5, .int .i64 s6, .int .i64 s7, .int .i64 s8, .int .i64 s9] _ (ans_range T2.out.1.arg 3 10 [.int .i64 s0, .int .i64 s1, .int .i64 s2, .int .i64 s3, .int .i64 s4, .int .i64 s5, .int .i64 s6, .int .i64 s7, .int .i64 s8, .int .i64 s9] rfl) Tryd.underlying24 rfl infoLS10 ?_) | (go_at_call 15; fail))
  refine (toStatT_any s0 s1 s2 s3 s4 s5 s6 s7 s8 s9 _).mono ?_
  rintro e w3 ⟨rfl, b3⟩
  have T3 := hide (T2.out.1.past b3)
  have R3 := hide (R2.out.below b3)
  obtain ⟨X4, hX4, t4, u4⟩ := T3.out.cells [.int .i64 s0, .int .i64 s1, .int .i64 s2, .int .i64 s3, .int .i64 s4, .int .i64 s5, .int .i64 s6, .int .i64 s7, .int .i64 s8, .int .i64 s9] 3
  simp only [List.foldl_cons, List.foldl_nil, List.setIfInBounds_toArray, List.set_cons_zero, List.set_cons_succ] at hX4
  subst hX4
  have T4 := hide (show ToI w #[.int .i64 cd, .int .i64 nn, .slice da zs.length dc, .int .i64 s0, .int .i64 s1, .int .i64 s2, .int .i64 s3, .int .i64 s4, .int .i64 s5, .int .i64 s6, .int .i64 s7, .int .i64 s8, .int .i64 s9, .slice na L.length nc, .int .i64 q0, .int .i64 q1, .int .i64 q2, .int .i64 q3, .int .i64 q4, .int .i64 q5, .int .i64 q6, .int .i64 q7, .int .i64 q8, .int .i64 q9] #[.int .i64 0, .int .i64 0, .slice none 0 0, .int .i64 0, .int .i64 0, .int .i64 0, .int .i64 0, .int .i64 0, .int .i64 0, .int .i64 0, .int .i64 0, .int .i64 0, .int .i64 0, .slice none 0 0, .int .i64 0, .int .i64 0, .int .i64 0, .int .i64 0, .int .i64 0, .int .i64 0, .int .i64 0, .int .i64 0, .int .i64 0, .int .i64 0] #[.int .i64 cd, .int .i64 nn, .slice a1 (txI zs).length k1, .int .i64 s0, .int .i64 s1, .int .i64 s2, .int .i64 s3, .int .i64 s4, .int .i64 s5, .int .i64 s6, .int .i64 s7, .int .i64 s8, .int .i64 s9, .slice none 0 0, .int .i64 0, .int .i64 0, .int .i64 0, .int .i64 0, .int .i64 0, .int .i64 0, .int .i64 0, .int .i64 0, .int .i64 0, .int .i64 0] (w3.setCells (w.heap.size + 1 + 1) 3 (#[.int .i64 s0, .int .i64 s1, .int .i64 s2, .int .i64 s3, .int .i64 s4, .int .i64 s5, .int .i64 s6, .int .i64 s7, .int .i64 s8, .int .i64 s9] : Array Value).toList) from t4)
  have U4 := hide (show But (w.heap.size + 1 + 1) w3 (w3.setCells (w.heap.size + 1 + 1) 3 (#[.int .i64 s0, .int .i64 s1, .int .i64 s2, .int .i64 s3, .int .i64 s4, .int .i64 s5, .int .i64 s6, .int .i64 s7, .int .i64 s8, .int .i64 s9] : Array Value).toList) from u4)
  have TH3 := hide (T3.out.cop.there 3 10 (by simp))
  clear b3 T2 R2 t4 u4
  go_upto_region 6 with (refine wpList_store_mid rfl 32 _ _ rfl (w.heap.size + 1 + 1) 3 #[.int .i64 s0, .int .i64 s1, .int .i64 s2, .int .i64 s3, .int .i64 s4, .int .i64 s5, .int .i64 s6, .int .i64 s7, .int .i64 s8, .int .i64 s9] rfl rfl TH3.out infoS10 (all_oneCell_toArray (ints_oneT [s0, s1, s2, s3, s4, s5, s6, s7, s8, s9])) ?_; generalize w3.setCells (w.heap.size + 1 + 1) 3 (#[.int .i64 s0, .int .i64 s1, .int .i64 s2, .int .i64 s3, .int .i64 s4, .int .i64 s5, .int .i64 s6, .int .i64 s7, .int .i64 s8, .int .i64 s9] : Array Value).toList = w4 at T4 U4 ⊢)
  have R4 := hide (U4.out.rd R3.out P1.out)
  have c13 : w4.cell? ⟨w.heap.size, 13, none⟩ = some (.slice na L.length nc) := (T4.out.arg.cell 13).trans rfl
  clear U4 R3 T3 TH3
  go_wp2_with (go_at_call 16; fail)
  refine (toDirentsT _ L w4 (HN.out.below T4.out.bel) hll).mono ?_
  rintro e w5 ⟨v5, rfl, e5, p5, b5⟩
  have R5 := hide (R4.out.below b5)
  have E5 := hide e5
  have T5 := hide (T4.out.past b5)
  have P5 := hide (show ∀ b off n c, v5 = .slice (some ⟨b, off, none⟩) n c → w.heap.size + 1 + 1 < b from fun b off n c e => by have h1 := p5 b off n c e; have h2 := T4.out.cop.lt; omega)
  obtain ⟨a5, k5, rfl⟩ : ∃ a cap, v5 = .slice a L.length cap := by obtain ⟨a, cap, h1, _⟩ := e5; exact ⟨a, cap, h1⟩
  have x13 : w5.cell? ⟨w.heap.size + 1 + 1, 13, none⟩ = some (.slice none 0 0) := (T5.out.cop.cell 13).trans rfl
  have f13 := T5.out.cop.frozen 13
  have t6 := T5.out.set 13 (.slice a5 L.length k5)
  simp only [List.setIfInBounds_toArray, List.set_cons_zero, List.set_cons_succ] at t6
  have T6 := hide t6
  clear t6 p5 b5 e5 c13 R4 T4
  go_upto_region 7 with fail
  generalize w5.setCell ⟨w.heap.size + 1 + 1, 13, none⟩ (.slice a5 L.length k5) = w6 at T6 ⊢
  have R6 := hide (T6.out.2.rd R5.out P1.out)
  have E6 := hide (T6.out.2.rdE E5.out P5.out)
  clear x13 f13 T5 R5 E5
  go_wp2_with (first | (refine wpList_load_mid rfl 27 _ rfl w.heap.size 14 rfl [.int .i64 q0, .int .i64 q1, .int .i64 q2, .int .i64 q3, .int .i64 q4, .int .i64 q5, .int .i64 q6, .int .i64 q7, .int .i64 q8, .int .i64 q9] _ (ans_range T6.out.1.arg 14 10 [.int .i64 q0, .int .i64 q1, .int .i64 q2, .int .i64 q3, .int .i64 q4, .int .i64 q5, .int .i64 q6, .int .i64 q7, .int .i64 q8, .int .i64 q9] rfl) Tryd.underlying27 rfl infoLU10 ?_) | (go_at_call 17; fail))
  refine (toUsageT_any q0 q1 q2 q3 q4 q5 q6 q7 q8 q9 _).mono ?_
  rintro e w7 ⟨rfl, b7⟩
  have T7 := hide (T6.out.1.past b7)
  have R7 := hide (R6.out.below b7)
  have E7 := hide (E6.out.below b7)
  obtain ⟨X8, hX8, t8, u8⟩ := T7.out.cells [.int .i64 q0, .int .i64 q1, .int .i64 q2, .int .i64 q3, .int .i64 q4, .int .i64 q5, .int .i64 q6, .int .i64 q7, .int .i64 q8, .int .i64 q9] 14
  simp only [List.foldl_cons, List.foldl_nil, List.setIfInBounds_toArray, List.set_cons_zero, List.set_cons_succ] at hX8
  subst hX8
  have T8 := hide (show ToI w #[.int .i64 cd, .int .i64 nn, .slice da zs.length dc, .int .i64 s0, .int .i64 s1, .int .i64 s2, .int .i64 s3, .int .i64 s4, .int .i64 s5, .int .i64 s6, .int .i64 s7, .int .i64 s8, .int .i64 s9, .slice na L.length nc, .int .i64 q0, .int .i64 q1, .int .i64 q2, .int .i64 q3, .int .i64 q4, .int .i64 q5, .int .i64 q6, .int .i64 q7, .int .i64 q8, .int .i64 q9] #[.int .i64 0, .int .i64 0, .slice none 0 0, .int .i64 0, .int .i64 0, .int .i64 0, .int .i64 0, .int .i64 0, .int .i64 0, .int .i64 0, .int .i64 0, .int .i64 0, .int .i64 0, .slice none 0 0, .int .i64 0, .int .i64 0, .int .i64 0, .int .i64 0, .int .i64 0, .int .i64 0, .int .i64 0, .int .i64 0, .int .i64 0, .int .i64 0] #[.int .i64 cd, .int .i64 nn, .slice a1 (txI zs).length k1, .int .i64 s0, .int .i64 s1, .int .i64 s2, .int .i64 s3, .int .i64 s4, .int .i64 s5, .int .i64 s6, .int .i64 s7, .int .i64 s8, .int .i64 s9, .slice a5 L.length k5, .int .i64 q0, .int .i64 q1, .int .i64 q2, .int .i64 q3, .int .i64 q4, .int .i64 q5, .int .i64 q6, .int .i64 q7, .int .i64 q8, .int .i64 q9] (w7.setCells (w.heap.size + 1 + 1) 14 (#[.int .i64 q0, .int .i64 q1, .int .i64 q2, .int .i64 q3, .int .i64 q4, .int .i64 q5, .int .i64 q6, .int .i64 q7, .int .i64 q8, .int .i64 q9] : Array Value).toList) from t8)
  have U8 := hide (show But (w.heap.size + 1 + 1) w7 (w7.setCells (w.heap.size + 1 + 1) 14 (#[.int .i64 q0, .int .i64 q1, .int .i64 q2, .int .i64 q3, .int .i64 q4, .int .i64 q5, .int .i64 q6, .int .i64 q7, .int .i64 q8, .int .i64 q9] : Array Value).toList) from u8)
  have TH8 := hide (T7.out.cop.there 14 10 (by simp))
  clear b7 T6 R6 E6 t8 u8
  go_upto_region 8 with (refine wpList_store_mid rfl 34 _ _ rfl (w.heap.size + 1 + 1) 14 #[.int .i64 q0, .int .i64 q1, .int .i64 q2, .int .i64 q3, .int .i64 q4, .int .i64 q5, .int .i64 q6, .int .i64 q7, .int .i64 q8, .int .i64 q9] rfl rfl TH8.out infoU10 (all_oneCell_toArray (ints_oneT [q0, q1, q2, q3, q4, q5, q6, q7, q8, q9])) ?_; generalize w7.setCells (w.heap.size + 1 + 1) 14 (#[.int .i64 q0, .int .i64 q1, .int .i64 q2, .int .i64 q3, .int .i64 q4, .int .i64 q5, .int .i64 q6, .int .i64 q7, .int .i64 q8, .int .i64 q9] : Array Value).toList = w8 at T8 U8 ⊢)
  have R8 := hide (U8.out.rd R7.out P1.out)
  have E8 := hide (U8.out.rdE E7.out P5.out)
  clear U8 R7 E7 T7 TH8
  have N9 := hide (show But (w.heap.size + 1) w8 (w8.setRow (w.heap.size + 1) #[.int .i64 cd, .int .i64 nn, .slice a1 (txI zs).length k1, .int .i64 s0, .int .i64 s1, .int .i64 s2, .int .i64 s3, .int .i64 s4, .int .i64 s5, .int .i64 s6, .int .i64 s7, .int .i64 s8, .int .i64 s9, .slice a5 L.length k5, .int .i64 q0, .int .i64 q1, .int .i64 q2, .int .i64 q3, .int .i64 q4, .int .i64 q5, .int .i64 q6, .int .i64 q7, .int .i64 q8, .int .i64 q9]) from ⟨Nat.le_of_eq (size_setRowT _ _ _).symm, fun b hb _ => setRow_block w8 _ _ b hb⟩)
  go_wp2_with (first | (refine wpList_load_row rfl 36 _ rfl (w.heap.size + 1 + 1) rfl 36 #[.int .i64 cd, .int .i64 nn, .slice a1 (txI zs).length k1, .int .i64 s0, .int .i64 s1, .int .i64 s2, .int .i64 s3, .int .i64 s4, .int .i64 s5, .int .i64 s6, .int .i64 s7, .int .i64 s8, .int .i64 s9, .slice a5 L.length k5, .int .i64 q0, .int .i64 q1, .int .i64 q2, .int .i64 q3, .int .i64 q4, .int .i64 q5, .int .i64 q6, .int .i64 q7, .int .i64 q8, .int .i64 q9] (0, 0) _ T8.out.cop Tryd.underlying36 rfl infoAns ?_) | (refine wpList_store_row rfl 36 _ _ rfl (w.heap.size + 1) #[.int .i64 cd, .int .i64 nn, .slice a1 (txI zs).length k1, .int .i64 s0, .int .i64 s1, .int .i64 s2, .int .i64 s3, .int .i64 s4, .int .i64 s5, .int .i64 s6, .int .i64 s7, .int .i64 s8, .int .i64 s9, .slice a5 L.length k5, .int .i64 q0, .int .i64 q1, .int .i64 q2, .int .i64 q3, .int .i64 q4, .int .i64 q5, .int .i64 q6, .int .i64 q7, .int .i64 q8, .int .i64 q9] rfl rfl 36 _ T8.out.res infoAns rfl (ans_one cd nn (.slice a1 (txI zs).length k1) (.slice a5 L.length k5) rfl rfl [s0, s1, s2, s3, s4, s5, s6, s7, s8, s9] [q0, q1, q2, q3, q4, q5, q6, q7, q8, q9]) ?_))
  refine bodyPost_ret (v := .agg #[.int .i64 cd, .int .i64 nn, .slice a1 (txI zs).length k1, .int .i64 s0, .int .i64 s1, .int .i64 s2, .int .i64 s3, .int .i64 s4, .int .i64 s5, .int .i64 s6, .int .i64 s7, .int .i64 s8, .int .i64 s9, .slice a5 L.length k5, .int .i64 q0, .int .i64 q1, .int .i64 q2, .int .i64 q3, .int .i64 q4, .int .i64 q5, .int .i64 q6, .int .i64 q7, .int .i64 q8, .int .i64 q9]) ?_ rfl ⟨_, _, rfl, N9.out.rd R8.out (fun b off n c e => by have := P1.out b off n c e; omega), N9.out.rdE E8.out (fun b off n c e => by have := P5.out b off n c e; omega), below_setRowT T8.out.bel (by omega) _⟩
  exact results_cell_row rfl _ _ (w.heap.size + 1) 36 #[.int .i64 cd, .int .i64 nn, .slice a1 (txI zs).length k1, .int .i64 s0, .int .i64 s1, .int .i64 s2, .int .i64 s3, .int .i64 s4, .int .i64 s5, .int .i64 s6, .int .i64 s7, .int .i64 s8, .int .i64 s9, .slice a5 L.length k5, .int .i64 q0, .int .i64 q1, .int .i64 q2, .int .i64 q3, .int .i64 q4, .int .i64 q5, .int .i64 q6, .int .i64 q7, .int .i64 q8, .int .i64 q9] (0, 0) _ rfl (T8.out.res.row _) Tryd.underlying36 rfl infoAns
set_option maxRecDepth 100000 in
set_option maxHeartbeats 4000000 in
theorem eqAnsT (cd nn : Int) (dv1 dv2 : Value) (zs : List UInt8) (s0 s1 s2 s3 s4 s5 s6 s7 s8 s9 : Int) (nv1 nv2 : Value) (L : List EK) (q0 q1 q2 q3 q4 q5 q6 q7 q8 q9 : Int) (w : World) (hd1 : Rd .u8 w dv1 (txI zs)) (hd2 : Rd .u8 w dv2 (txI zs)) (hn1 : RdE w nv1 L) (hn2 : RdE w nv2 L) (hll : L.length ≤ 1048576) :
    Calls Tryd.prog 8 #[.agg #[.int .i64 cd, .int .i64 nn, dv1, .int .i64 s0, .int .i64 s1, .int .i64 s2, .int .i64 s3, .int .i64 s4, .int .i64 s5, .int .i64 s6, .int .i64 s7, .int .i64 s8, .int .i64 s9, nv1, .int .i64 q0, .int .i64 q1, .int .i64 q2, .int .i64 q3, .int .i64 q4, .int .i64 q5, .int .i64 q6, .int .i64 q7, .int .i64 q8, .int .i64 q9], .agg #[.int .i64 cd, .int .i64 nn, dv2, .int .i64 s0, .int .i64 s1, .int .i64 s2, .int .i64 s3, .int .i64 s4, .int .i64 s5, .int .i64 s6, .int .i64 s7, .int .i64 s8, .int .i64 s9, nv2, .int .i64 q0, .int .i64 q1, .int .i64 q2, .int .i64 q3, .int .i64 q4, .int .i64 q5, .int .i64 q6, .int .i64 q7, .int .i64 q8, .int .i64 q9]] w fun e w' => e = .returned (.bool true) ∧ Below w.heap.size w w' := by
  have HD := hide (And.intro hd1 hd2)
  have HN := hide (And.intro hn1 hn2)
  obtain ⟨d1, dc1, rfl⟩ : ∃ a cap, dv1 = .slice a (txI zs).length cap := by obtain ⟨a, cap, h1, _⟩ := hd1; exact ⟨a, cap, h1⟩
  obtain ⟨d2, dc2, rfl⟩ : ∃ a cap, dv2 = .slice a (txI zs).length cap := by obtain ⟨a, cap, h1, _⟩ := hd2; exact ⟨a, cap, h1⟩
  obtain ⟨m1, nc1, rfl⟩ : ∃ a cap, nv1 = .slice a L.length cap := by obtain ⟨a, cap, h1, _⟩ := hn1; exact ⟨a, cap, h1⟩
  obtain ⟨m2, nc2, rfl⟩ : ∃ a cap, nv2 = .slice a L.length cap := by obtain ⟨a, cap, h1, _⟩ := hn2; exact ⟨a, cap, h1⟩
  have t1 : (cd != cd) = false := by simp
  have t2 : (nn != nn) = false := by simp
  have HX := hide (show Below w.heap.size w ((w.alloc (.cells #[.int .i64 cd, .int .i64 nn, .slice d1 (txI zs).length dc1, .int .i64 s0, .int .i64 s1, .int .i64 s2, .int .i64 s3, .int .i64 s4, .int .i64 s5, .int .i64 s6, .int .i64 s7, .int .i64 s8, .int .i64 s9, .slice m1 L.length nc1, .int .i64 q0, .int .i64 q1, .int .i64 q2, .int .i64 q3, .int .i64 q4, .int .i64 q5, .int .i64 q6, .int .i64 q7, .int .i64 q8, .int .i64 q9] 36)).alloc (.cells #[.int .i64 cd, .int .i64 nn, .slice d2 (txI zs).length dc2, .int .i64 s0, .int .i64 s1, .int .i64 s2, .int .i64 s3, .int .i64 s4, .int .i64 s5, .int .i64 s6, .int .i64 s7, .int .i64 s8, .int .i64 s9, .slice m2 L.length nc2, .int .i64 q0, .int .i64 q1, .int .i64 q2, .int .i64 q3, .int .i64 q4, .int .i64 q5, .int .i64 q6, .int .i64 q7, .int .i64 q8, .int .i64 q9] 36)) ∧ Blk ((w.alloc (.cells #[.int .i64 cd, .int .i64 nn, .slice d1 (txI zs).length dc1, .int .i64 s0, .int .i64 s1, .int .i64 s2, .int .i64 s3, .int .i64 s4, .int .i64 s5, .int .i64 s6, .int .i64 s7, .int .i64 s8, .int .i64 s9, .slice m1 L.length nc1, .int .i64 q0, .int .i64 q1, .int .i64 q2, .int .i64 q3, .int .i64 q4, .int .i64 q5, .int .i64 q6, .int .i64 q7, .int .i64 q8, .int .i64 q9] 36)).alloc (.cells #[.int .i64 cd, .int .i64 nn, .slice d2 (txI zs).length dc2, .int .i64 s0, .int .i64 s1, .int .i64 s2, .int .i64 s3, .int .i64 s4, .int .i64 s5, .int .i64 s6, .int .i64 s7, .int .i64 s8, .int .i64 s9, .slice m2 L.length nc2, .int .i64 q0, .int .i64 q1, .int .i64 q2, .int .i64 q3, .int .i64 q4, .int .i64 q5, .int .i64 q6, .int .i64 q7, .int .i64 q8, .int .i64 q9] 36)) w.heap.size #[.int .i64 cd, .int .i64 nn, .slice d1 (txI zs).length dc1, .int .i64 s0, .int .i64 s1, .int .i64 s2, .int .i64 s3, .int .i64 s4, .int .i64 s5, .int .i64 s6, .int .i64 s7, .int .i64 s8, .int .i64 s9, .slice m1 L.length nc1, .int .i64 q0, .int .i64 q1, .int .i64 q2, .int .i64 q3, .int .i64 q4, .int .i64 q5, .int .i64 q6, .int .i64 q7, .int .i64 q8, .int .i64 q9] 36 ∧ Blk ((w.alloc (.cells #[.int .i64 cd, .int .i64 nn, .slice d1 (txI zs).length dc1, .int .i64 s0, .int .i64 s1, .int .i64 s2, .int .i64 s3, .int .i64 s4, .int .i64 s5, .int .i64 s6, .int .i64 s7, .int .i64 s8, .int .i64 s9, .slice m1 L.length nc1, .int .i64 q0, .int .i64 q1, .int .i64 q2, .int .i64 q3, .int .i64 q4, .int .i64 q5, .int .i64 q6, .int .i64 q7, .int .i64 q8, .int .i64 q9] 36)).alloc (.cells #[.int .i64 cd, .int .i64 nn, .slice d2 (txI zs).length dc2, .int .i64 s0, .int .i64 s1, .int .i64 s2, .int .i64 s3, .int .i64 s4, .int .i64 s5, .int .i64 s6, .int .i64 s7, .int .i64 s8, .int .i64 s9, .slice m2 L.length nc2, .int .i64 q0, .int .i64 q1, .int .i64 q2, .int .i64 q3, .int .i64 q4, .int .i64 q5, .int .i64 q6, .int .i64 q7, .int .i64 q8, .int .i64 q9] 36)) (w.heap.size + 1) #[.int .i64 cd, .int .i64 nn, .slice d2 (txI zs).length dc2, .int .i64 s0, .int .i64 s1, .int .i64 s2, .int .i64 s3, .int .i64 s4, .int .i64 s5, .int .i64 s6, .int .i64 s7, .int .i64 s8, .int .i64 s9, .slice m2 L.length nc2, .int .i64 q0, .int .i64 q1, .int .i64 q2, .int .i64 q3, .int .i64 q4, .int .i64 q5, .int .i64 q6, .int .i64 q7, .int .i64 q8, .int .i64 q9] 36 from by
    have k1 := Blk.new (w.alloc (.cells #[.int .i64 cd, .int .i64 nn, .slice d1 (txI zs).length dc1, .int .i64 s0, .int .i64 s1, .int .i64 s2, .int .i64 s3, .int .i64 s4, .int .i64 s5, .int .i64 s6, .int .i64 s7, .int .i64 s8, .int .i64 s9, .slice m1 L.length nc1, .int .i64 q0, .int .i64 q1, .int .i64 q2, .int .i64 q3, .int .i64 q4, .int .i64 q5, .int .i64 q6, .int .i64 q7, .int .i64 q8, .int .i64 q9] 36)) #[.int .i64 cd, .int .i64 nn, .slice d2 (txI zs).length dc2, .int .i64 s0, .int .i64 s1, .int .i64 s2, .int .i64 s3, .int .i64 s4, .int .i64 s5, .int .i64 s6, .int .i64 s7, .int .i64 s8, .int .i64 s9, .slice m2 L.length nc2, .int .i64 q0, .int .i64 q1, .int .i64 q2, .int .i64 q3, .int .i64 q4, .int .i64 q5, .int .i64 q6, .int .i64 q7, .int .i64 q8, .int .i64 q9] 36
    rw [World.size_alloc] at k1
    exact ⟨((Below.refl _ _).alloc (Nat.le_refl _) _).alloc (by simp) _, (Blk.new w _ _).alloc _, k1⟩)
  clear hd1 hd2 hn1 hn2
  go_enter Tryd.func8, Tryd.ntmps8
  go_upto_region 1 with fail
  generalize (w.alloc (.cells #[.int .i64 cd, .int .i64 nn, .slice d1 (txI zs).length dc1, .int .i64 s0, .int .i64 s1, .int .i64 s2, .int .i64 s3, .int .i64 s4, .int .i64 s5, .int .i64 s6, .int .i64 s7, .int .i64 s8, .int .i64 s9, .slice m1 L.length nc1, .int .i64 q0, .int .i64 q1, .int .i64 q2, .int .i64 q3, .int .i64 q4, .int .i64 q5, .int .i64 q6, .int .i64 q7, .int .i64 q8, .int .i64 q9] 36)).alloc (.cells #[.int .i64 cd, .int .i64 nn, .slice d2 (txI zs).length dc2, .int .i64 s0, .int .i64 s1, .int .i64 s2, .int .i64 s3, .int .i64 s4, .int .i64 s5, .int .i64 s6, .int .i64 s7, .int .i64 s8, .int .i64 s9, .slice m2 L.length nc2, .int .i64 q0, .int .i64 q1, .int .i64 q2, .int .i64 q3, .int .i64 q4, .int .i64 q5, .int .i64 q6, .int .i64 q7, .int .i64 q8, .int .i64 q9] 36) = X at HX ⊢
  have HP := hide (fun (w' : World) (h : Below X.heap.size X w') => And.intro (HX.out.2.1.below h HX.out.2.1.lt) (HX.out.2.2.below h HX.out.2.2.lt))
  have a0 : X.cell? ⟨w.heap.size, 0, none⟩ = some (.int .i64 cd) := (HX.out.2.1.cell 0).trans rfl
  have a1 : X.cell? ⟨w.heap.size + 1, 0, none⟩ = some (.int .i64 cd) := (HX.out.2.2.cell 0).trans rfl
  have a2 : X.cell? ⟨w.heap.size, 1, none⟩ = some (.int .i64 nn) := (HX.out.2.1.cell 1).trans rfl
  have a3 : X.cell? ⟨w.heap.size + 1, 1, none⟩ = some (.int .i64 nn) := (HX.out.2.2.cell 1).trans rfl
  have a4 : X.cell? ⟨w.heap.size, 2, none⟩ = some (.slice d1 (txI zs).length dc1) := (HX.out.2.1.cell 2).trans rfl
  have a5 : X.cell? ⟨w.heap.size + 1, 2, none⟩ = some (.slice d2 (txI zs).length dc2) := (HX.out.2.2.cell 2).trans rfl
  go_wp2_with (go_at_call 20; fail)
  refine (eqByteS_same _ _ (txI zs) X (HD.out.1.below HX.out.1) (HD.out.2.below HX.out.1)).mono ?_
  rintro e w1 ⟨rfl, b1⟩
  have B1 := hide b1
  clear a0 a1 a2 a3 a4 a5 b1 t1 t2
  go_wp2_with (first | (refine wpList_load_mid rfl 32 _ rfl w.heap.size 3 rfl [.int .i64 s0, .int .i64 s1, .int .i64 s2, .int .i64 s3, .int .i64 s4, .int .i64 s5, .int .i64 s6, .int .i64 s7, .int .i64 s8, .int .i64 s9] _ (ans_range (HP.out _ B1.out).1 3 10 [.int .i64 s0, .int .i64 s1, .int .i64 s2, .int .i64 s3, .int .i64 s4, .int .i64 s5, .int .i64 s6, .int .i64 s7, .int .i64 s8, .int .i64 s9] rfl) Tryd.underlying32 rfl infoS10 ?_) | (refine wpList_load_mid rfl 32 _ rfl (w.heap.size + 1) 3 rfl [.int .i64 s0, .int .i64 s1, .int .i64 s2, .int .i64 s3, .int .i64 s4, .int .i64 s5, .int .i64 s6, .int .i64 s7, .int .i64 s8, .int .i64 s9] _ (ans_range (HP.out _ B1.out).2 3 10 [.int .i64 s0, .int .i64 s1, .int .i64 s2, .int .i64 s3, .int .i64 s4, .int .i64 s5, .int .i64 s6, .int .i64 s7, .int .i64 s8, .int .i64 s9] rfl) Tryd.underlying32 rfl infoS10 ?_) | (go_at_call 21; fail))
  refine (eqStatT_same s0 s1 s2 s3 s4 s5 s6 s7 s8 s9 _).mono ?_
  rintro e w2 ⟨rfl, b2⟩
  have B2 := hide (B1.out.trans (b2.mono B1.out.size))
  have c0 : w2.cell? ⟨w.heap.size, 13, none⟩ = some (.slice m1 L.length nc1) := ((HP.out _ B2.out).1.cell 13).trans rfl
  have c1 : w2.cell? ⟨w.heap.size + 1, 13, none⟩ = some (.slice m2 L.length nc2) := ((HP.out _ B2.out).2.cell 13).trans rfl
  clear b2 B1
  go_wp2_with (go_at_call 22; fail)
  refine (eqDirentsT _ _ L w2 ((HN.out.1.below HX.out.1).below B2.out) ((HN.out.2.below HX.out.1).below B2.out) hll).mono ?_
  rintro e w3 ⟨rfl, b3⟩
  have B3 := hide (B2.out.trans (b3.mono B2.out.size))
  clear c0 c1 b3 B2
  go_wp2_with (first | (refine wpList_load_mid rfl 34 _ rfl w.heap.size 14 rfl [.int .i64 q0, .int .i64 q1, .int .i64 q2, .int .i64 q3, .int .i64 q4, .int .i64 q5, .int .i64 q6, .int .i64 q7, .int .i64 q8, .int .i64 q9] _ (ans_range (HP.out _ B3.out).1 14 10 [.int .i64 q0, .int .i64 q1, .int .i64 q2, .int .i64 q3, .int .i64 q4, .int .i64 q5, .int .i64 q6, .int .i64 q7, .int .i64 q8, .int .i64 q9] rfl) Tryd.underlying34 rfl infoU10 ?_) | (refine wpList_load_mid rfl 34 _ rfl (w.heap.size + 1) 14 rfl [.int .i64 q0, .int .i64 q1, .int .i64 q2, .int .i64 q3, .int .i64 q4, .int .i64 q5, .int .i64 q6, .int .i64 q7, .int .i64 q8, .int .i64 q9] _ (ans_range (HP.out _ B3.out).2 14 10 [.int .i64 q0, .int .i64 q1, .int .i64 q2, .int .i64 q3, .int .i64 q4, .int .i64 q5, .int .i64 q6, .int .i64 q7, .int .i64 q8, .int .i64 q9] rfl) Tryd.underlying34 rfl infoU10 ?_) | (go_at_call 23; fail))
  refine (eqUsageT_same q0 q1 q2 q3 q4 q5 q6 q7 q8 q9 _).mono ?_
  rintro e w4 ⟨rfl, b4⟩
  have B4 := hide (HX.out.1.trans ((B3.out.trans (b4.mono B3.out.size)).mono HX.out.1.size))
  clear b4 B3
  go_wp2
  go_ret
  exact ⟨rfl, B4.out⟩
end Go.Proofs.YtnljpaohkkdjjaaDoor
