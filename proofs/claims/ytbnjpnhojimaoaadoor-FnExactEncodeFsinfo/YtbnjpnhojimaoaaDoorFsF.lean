/- A copy of a root record: toFsinfo. -/
import Derived.Test.YtbnjpnhojimaoaaDoorFsA
import Derived.Test.YtbnjpnhojimaoaaDoorLawEncR
namespace Go.Proofs.YtbnjpnhojimaoaaDoor
set_option linter.unusedVariables false
set_option linter.unusedSimpArgs false
open Go.RowKit

set_option maxRecDepth 100000 in
set_option maxHeartbeats 400000 in
theorem toIntA31_any (ds : List Int) (w : World) (hd : ds.length = 31) :
    Calls Tryd.prog 74 #[.agg (cellsI ds)] w fun e w' => e = .returned (.agg (cellsI ds)) ∧ Below w.heap.size w w' := by
  have HD := hide hd
  clear hd
  go_enter Tryd.func74, Tryd.ntmps74
  go_wp2
  go_loopw [4] (fun i wr => ∃ k : Nat, k ≤ 31 ∧ i = .int .i64 k ∧ Blk wr w.heap.size (cellsI ds) 54 ∧ Blk wr (w.heap.size + 1) (cellsI (List.replicate 31 0)) 54 ∧ Blk wr (w.heap.size + 1 + 1) (cellsI (ds.take k ++ List.replicate (31 - k) 0)) 54 ∧ Below w.heap.size w wr) (fun i _ => 31 - (intOf i).toNat)
  case atStart =>
    refine ⟨0, by omega, rfl, ((Blk.new w _ _).alloc _).alloc _, ?_, ?_, (((Below.refl _ _).alloc (Nat.le_refl _) _).alloc (by simp) _).alloc (by simp; omega) _⟩
    · have h := (Blk.new (w.alloc (.cells (cellsI ds) 54)) (cellsI (List.replicate 31 0)) 54).alloc (.cells (cellsI (List.replicate 31 0)) 54)
      rw [World.size_alloc] at h
      exact h
    · have h := Blk.new ((w.alloc (.cells (cellsI ds) 54)).alloc (.cells (cellsI (List.replicate 31 0)) 54)) (cellsI (List.replicate 31 0)) 54
      rw [World.size_alloc, World.size_alloc] at h
      exact h
  case round =>
    obtain ⟨k, hk, rfl, h1, h2, h3, hb⟩ := hrel
    by_cases hlt : k < 31
    · have c1 := h1.cell k
      rw [cellsI_get ds k (by rw [HD.out]; exact hlt)] at c1
      obtain ⟨old, c3⟩ : ∃ u, wr.cell? ⟨w.heap.size + 1 + 1, k, none⟩ = some u := by
        rw [h3.cell k]
        exact ⟨_, Array.getElem?_eq_getElem (by rw [cellsI_size]; have := HD.out; simp; omega)⟩
      have f3 := h3.frozen k
      have HS := hide (set_cells ds k 31 hlt HD.out)
      generalize ds.getD k 0 = z at c1 HS
      have HW := hide (show Blk (wr.setCell ⟨w.heap.size + 1 + 1, k, none⟩ (.int .i64 z)) w.heap.size (cellsI ds) 54 ∧ Blk (wr.setCell ⟨w.heap.size + 1 + 1, k, none⟩ (.int .i64 z)) (w.heap.size + 1) (cellsI (List.replicate 31 0)) 54 ∧ Blk (wr.setCell ⟨w.heap.size + 1 + 1, k, none⟩ (.int .i64 z)) (w.heap.size + 1 + 1) (cellsI (ds.take (k + 1) ++ List.replicate (31 - (k + 1)) 0)) 54 ∧ Below w.heap.size w (wr.setCell ⟨w.heap.size + 1 + 1, k, none⟩ (.int .i64 z)) from by
        refine ⟨h1.other _ _ (by show _ ≠ w.heap.size + 1 + 1; omega), h2.other _ _ (by show _ ≠ w.heap.size + 1 + 1; omega), ?_, hb.setCell (by show _ ≤ w.heap.size + 1 + 1; omega) _⟩
        rw [← HS.out]
        exact h3.set k _)
      clear h1 h2 h3 hb
      go_wp2
      go_roundw
      case rel => exact ⟨k + 1, by omega, by go_num, HW.out.1, HW.out.2.1, HW.out.2.2.1, HW.out.2.2.2⟩
      case measure => simp [intOf]; omega
    · have hk31 : k = 31 := by omega
      subst hk31
      rw [List.take_of_length_le (by rw [HD.out]; omega), Nat.sub_self, List.replicate_zero, List.append_nil] at h3
      have hsz : (cellsI ds).size = 31 := by rw [cellsI_size]; exact HD.out
      have HB := hide (And.intro h2 (And.intro h3 hb))
      have HZ := hide hsz
      clear h1 h2 h3 hb hsz
      go_wp2_with (first | (refine wpList_load_row rfl 54 _ rfl (w.heap.size + 1 + 1) rfl 54 (cellsI ds) (0, 0) _ HB.out.2.1 Tryd.underlying54 rfl (by rw [HZ.out]; exact info31) ?_) | (refine wpList_store_row rfl 54 _ _ rfl (w.heap.size + 1) (cellsI ds) rfl rfl 54 _ HB.out.1 (by rw [HZ.out]; exact info31) (by rw [HZ.out]; rfl) (cellsI_one ds) ?_))
      refine bodyPost_ret (v := .agg (cellsI ds)) ?_ rfl ⟨rfl, ?_⟩
      · exact results_cell_row rfl _ _ (w.heap.size + 1) 54 (cellsI ds) (0, 0) _ rfl (HB.out.1.row _) Tryd.underlying54 rfl (by rw [HZ.out]; exact info31)
      · exact below_setRow HB.out.2.2 (by omega) _

theorem over_part (A B Z D : List Int) (o : Nat) (hA : A.length = o) (hB : B.length = Z.length) : over (A ++ (B ++ D)) o Z = A ++ (Z ++ D) := by
  unfold over
  subst hA
  simp [← hB, List.drop_append]
/-- What the copying keeps: the record that came in, the place of the answer, the record under way, all that is older. -/
structure To (w wr : World) (C : Array Value) (X : List Int) : Prop where
  arg : Blk wr w.heap.size C 56
  ans : Blk wr (w.heap.size + 1) (cellsI (List.replicate 68 0)) 59
  out : Blk wr (w.heap.size + 1 + 1) (cellsI X) 59
  old : Below w.heap.size w wr
theorem To.below {w wr w' : World} {C : Array Value} {X : List Int} (h : To w wr C X) (hb : Below wr.heap.size wr w') : To w w' C X :=
  ⟨h.arg.below hb h.arg.lt, h.ans.below hb h.ans.lt, h.out.below hb h.out.lt, h.old.trans (hb.mono h.old.size)⟩
theorem To.store {w wr : World} {C : Array Value} {X : List Int} (h : To w wr C X) (o : Nat) (zs : List Int) (hl : o + zs.length ≤ X.length) : To w (wr.setCells (w.heap.size + 1 + 1) o (cellsI zs).toList) C (over X o zs) :=
  ⟨Blk.cells_other _ o h.arg (by omega), Blk.cells_other _ o h.ans (by omega), Blk.cells zs o h.out hl, below_cells (by omega) _ o h.old⟩

set_option maxRecDepth 100000 in
set_option maxHeartbeats 2000000 in
theorem toFs_any (gen bl cu ck op ev lg s1 : Int) (ds1 : List Int) (p1 q1 s2 : Int) (ds2 : List Int) (p2 q2 : Int) (sn : List Int) (w : World) (hd1 : ds1.length = 12) (hd2 : ds2.length = 12) (hsn : sn.length = 31) :
    Calls Tryd.prog 34 #[.agg (cellsI (fsI gen bl cu ck op ev lg s1 ds1 p1 q1 s2 ds2 p2 q2 sn))] w fun e w' => e = .returned (.agg (cellsI (fsI gen bl cu ck op ev lg s1 ds1 p1 q1 s2 ds2 p2 q2 sn))) ∧ Below w.heap.size w w' := by
  have HD := hide (And.intro hd1 (And.intro hd2 hsn))
  have HL1 := hide (rootI_len s1 ds1 p1 q1 hd1)
  have HL2 := hide (rootI_len s2 ds2 p2 q2 hd2)
  have HZ := hide (show (cellsI (fsI gen bl cu ck op ev lg s1 ds1 p1 q1 s2 ds2 p2 q2 sn)).size = 68 from by rw [cellsI_size]; exact fsI_len _ _ _ _ _ _ _ _ _ _ _ _ _ _ _ _ hd1 hd2 hsn)
  have c0 : ∀ o1 o2, (((w.alloc (.cells (cellsI (fsI gen bl cu ck op ev lg s1 ds1 p1 q1 s2 ds2 p2 q2 sn)) 56)).alloc o1).alloc o2).cell? ⟨w.heap.size, 0, none⟩ = some (.int .i64 gen) := fun o1 o2 => by rw [(((Blk.new w _ _).alloc o1).alloc o2).cell 0]; rfl
  have c1 : ∀ o1 o2, (((w.alloc (.cells (cellsI (fsI gen bl cu ck op ev lg s1 ds1 p1 q1 s2 ds2 p2 q2 sn)) 56)).alloc o1).alloc o2).cell? ⟨w.heap.size, 1, none⟩ = some (.int .i64 bl) := fun o1 o2 => by rw [(((Blk.new w _ _).alloc o1).alloc o2).cell 1]; rfl
  have c2 : ∀ o1 o2, (((w.alloc (.cells (cellsI (fsI gen bl cu ck op ev lg s1 ds1 p1 q1 s2 ds2 p2 q2 sn)) 56)).alloc o1).alloc o2).cell? ⟨w.heap.size, 2, none⟩ = some (.int .i64 cu) := fun o1 o2 => by rw [(((Blk.new w _ _).alloc o1).alloc o2).cell 2]; rfl
  have c3 : ∀ o1 o2, (((w.alloc (.cells (cellsI (fsI gen bl cu ck op ev lg s1 ds1 p1 q1 s2 ds2 p2 q2 sn)) 56)).alloc o1).alloc o2).cell? ⟨w.heap.size, 3, none⟩ = some (.int .i64 ck) := fun o1 o2 => by rw [(((Blk.new w _ _).alloc o1).alloc o2).cell 3]; rfl
  have c4 : ∀ o1 o2, (((w.alloc (.cells (cellsI (fsI gen bl cu ck op ev lg s1 ds1 p1 q1 s2 ds2 p2 q2 sn)) 56)).alloc o1).alloc o2).cell? ⟨w.heap.size, 4, none⟩ = some (.int .i64 op) := fun o1 o2 => by rw [(((Blk.new w _ _).alloc o1).alloc o2).cell 4]; rfl
  have c5 : ∀ o1 o2, (((w.alloc (.cells (cellsI (fsI gen bl cu ck op ev lg s1 ds1 p1 q1 s2 ds2 p2 q2 sn)) 56)).alloc o1).alloc o2).cell? ⟨w.heap.size, 5, none⟩ = some (.int .i64 ev) := fun o1 o2 => by rw [(((Blk.new w _ _).alloc o1).alloc o2).cell 5]; rfl
  have c6 : ∀ o1 o2, (((w.alloc (.cells (cellsI (fsI gen bl cu ck op ev lg s1 ds1 p1 q1 s2 ds2 p2 q2 sn)) 56)).alloc o1).alloc o2).cell? ⟨w.heap.size, 6, none⟩ = some (.int .i64 lg) := fun o1 o2 => by rw [(((Blk.new w _ _).alloc o1).alloc o2).cell 6]; rfl
  clear hd1 hd2 hsn
  go_enter Tryd.func34, Tryd.ntmps34
  go_wp2_with (first
    | (refine wpList_load_mid rfl 34 _ rfl w.heap.size 7 rfl ((rootI s1 ds1 p1 q1).map (Value.int .i64)) _ (fs_range1 gen bl cu ck op ev lg s1 ds1 p1 q1 s2 ds2 p2 q2 sn HD.out.1 (((Blk.new w (cellsI (fsI gen bl cu ck op ev lg s1 ds1 p1 q1 s2 ds2 p2 q2 sn)) 56).alloc _).alloc _)) Tryd.underlying34 rfl (by rw [List.length_map, HL1.out]; exact infoL15) ?_)
    | (go_at_call 21; fail))
  refine (toRoot_any s1 ds1 p1 q1 _ HD.out.1).mono ?_
  rintro e w1 ⟨rfl, hb1⟩
  have T0 := hide (show To w w1 (cellsI (fsI gen bl cu ck op ev lg s1 ds1 p1 q1 s2 ds2 p2 q2 sn)) (([gen, bl, cu, ck, op, ev, lg] : List Int) ++ (List.replicate 15 (0 : Int) ++ (List.replicate 15 (0 : Int) ++ List.replicate 31 (0 : Int)))) from by
    have kz : Blk w1 (w.heap.size + 1) (cellsI (List.replicate 68 0)) 59 := by
      have h := ((Blk.new (w.alloc (.cells (cellsI (fsI gen bl cu ck op ev lg s1 ds1 p1 q1 s2 ds2 p2 q2 sn)) 56)) (cellsI (List.replicate 68 0)) 59).alloc (.cells (cellsI (([gen, bl, cu, ck, op, ev, lg] : List Int) ++ (List.replicate 15 (0 : Int) ++ (List.replicate 15 (0 : Int) ++ List.replicate 31 (0 : Int))))) 59)).below hb1 (by simp)
      rw [World.size_alloc] at h
      exact h
    have ko : Blk w1 (w.heap.size + 1 + 1) (cellsI (([gen, bl, cu, ck, op, ev, lg] : List Int) ++ (List.replicate 15 (0 : Int) ++ (List.replicate 15 (0 : Int) ++ List.replicate 31 (0 : Int))))) 59 := by
      have h := (Blk.new ((w.alloc (.cells (cellsI (fsI gen bl cu ck op ev lg s1 ds1 p1 q1 s2 ds2 p2 q2 sn)) 56)).alloc (.cells (cellsI (List.replicate 68 0)) 59)) (cellsI (([gen, bl, cu, ck, op, ev, lg] : List Int) ++ (List.replicate 15 (0 : Int) ++ (List.replicate 15 (0 : Int) ++ List.replicate 31 (0 : Int))))) 59).below hb1 (by simp)
      rw [World.size_alloc, World.size_alloc] at h
      exact h
    exact ⟨(((Blk.new w (cellsI (fsI gen bl cu ck op ev lg s1 ds1 p1 q1 s2 ds2 p2 q2 sn)) 56).alloc _).alloc _).below hb1 (by simp; omega), kz, ko, ((((Below.refl w.heap.size w).alloc (Nat.le_refl _) (.cells (cellsI (fsI gen bl cu ck op ev lg s1 ds1 p1 q1 s2 ds2 p2 q2 sn)) 56)).alloc (by simp) (.cells (cellsI (List.replicate 68 0)) 59)).alloc (by simp; omega) (.cells (cellsI (([gen, bl, cu, ck, op, ev, lg] : List Int) ++ (List.replicate 15 (0 : Int) ++ (List.replicate 15 (0 : Int) ++ List.replicate 31 (0 : Int))))) 59)).trans (hb1.mono (by simp; omega))⟩)
  clear hb1 c0 c1 c2 c3 c4 c5 c6
  have T1 := hide (show To w (w1.setCells (w.heap.size + 1 + 1) 7 (cellsI (rootI s1 ds1 p1 q1)).toList) (cellsI (fsI gen bl cu ck op ev lg s1 ds1 p1 q1 s2 ds2 p2 q2 sn)) (([gen, bl, cu, ck, op, ev, lg] : List Int) ++ (rootI s1 ds1 p1 q1 ++ (List.replicate 15 (0 : Int) ++ List.replicate 31 (0 : Int)))) from by
    have h := T0.out.store 7 (rootI s1 ds1 p1 q1) (by rw [HL1.out]; simp)
    rw [over_part _ _ _ _ 7 rfl (by rw [HL1.out]; rfl)] at h
    exact h)
  go_wp2_with (first
    | (refine wpList_store_mid rfl 36 _ _ rfl (w.heap.size + 1 + 1) 7 (cellsI (rootI s1 ds1 p1 q1)) rfl rfl (T0.out.out.there 7 _ (by rw [cellsI_size, cellsI_size, HL1.out]; simp)) (by rw [cellsI_size, HL1.out]; exact info15) (cellsI_one _) ?_; generalize w1.setCells (w.heap.size + 1 + 1) 7 (cellsI (rootI s1 ds1 p1 q1)).toList = w2 at T1 ⊢)
    | (refine wpList_load_mid rfl 34 _ rfl w.heap.size 22 rfl ((rootI s2 ds2 p2 q2).map (Value.int .i64)) _ (fs_range2 gen bl cu ck op ev lg s1 ds1 p1 q1 s2 ds2 p2 q2 sn HD.out.1 HD.out.2.1 T1.out.arg) Tryd.underlying34 rfl (by rw [List.length_map, HL2.out]; exact infoL15) ?_)
    | (go_at_call 21; fail))
  refine (toRoot_any s2 ds2 p2 q2 _ HD.out.2.1).mono ?_
  rintro e w3 ⟨rfl, hb3⟩
  have T2 := hide (T1.out.below hb3)
  clear hb3 T0 T1
  have T3 := hide (show To w (w3.setCells (w.heap.size + 1 + 1) 22 (cellsI (rootI s2 ds2 p2 q2)).toList) (cellsI (fsI gen bl cu ck op ev lg s1 ds1 p1 q1 s2 ds2 p2 q2 sn)) (([gen, bl, cu, ck, op, ev, lg] : List Int) ++ (rootI s1 ds1 p1 q1 ++ (rootI s2 ds2 p2 q2 ++ List.replicate 31 (0 : Int)))) from by
    have h := T2.out.store 22 (rootI s2 ds2 p2 q2) (by simp [HL1.out, HL2.out])
    rw [← List.append_assoc, over_part _ _ _ _ 22 (by simp [HL1.out]) (by rw [HL2.out]; rfl), List.append_assoc] at h
    exact h)
  go_wp2_with (first
    | (refine wpList_store_mid rfl 36 _ _ rfl (w.heap.size + 1 + 1) 22 (cellsI (rootI s2 ds2 p2 q2)) rfl rfl (T2.out.out.there 22 _ (by rw [cellsI_size, cellsI_size, HL2.out]; simp [HL1.out])) (by rw [cellsI_size, HL2.out]; exact info15) (cellsI_one _) ?_; generalize w3.setCells (w.heap.size + 1 + 1) 22 (cellsI (rootI s2 ds2 p2 q2)).toList = w4 at T3 ⊢)
    | (refine wpList_load_mid rfl 54 _ rfl w.heap.size 37 rfl (sn.map (Value.int .i64)) _ (fs_range3 gen bl cu ck op ev lg s1 ds1 p1 q1 s2 ds2 p2 q2 sn HD.out.1 HD.out.2.1 HD.out.2.2 T3.out.arg) Tryd.underlying54 rfl (by rw [List.length_map, HD.out.2.2]; exact info31) ?_)
    | (go_at_call 74; fail))
  refine (toIntA31_any sn _ HD.out.2.2).mono ?_
  rintro e w5 ⟨rfl, hb5⟩
  have T4 := hide (T3.out.below hb5)
  clear hb5 T2 T3
  have T5 := hide (show To w (w5.setCells (w.heap.size + 1 + 1) 37 (cellsI sn).toList) (cellsI (fsI gen bl cu ck op ev lg s1 ds1 p1 q1 s2 ds2 p2 q2 sn)) (fsI gen bl cu ck op ev lg s1 ds1 p1 q1 s2 ds2 p2 q2 sn) from by
    have h := T4.out.store 37 sn (by simp [HL1.out, HL2.out, HD.out.2.2])
    rw [← List.append_assoc, ← List.append_assoc, ← List.append_nil (List.replicate 31 (0 : Int)), over_part _ _ _ _ 37 (by simp [HL1.out, HL2.out]) (by rw [HD.out.2.2]; rfl), List.append_nil, List.append_assoc, List.append_assoc] at h
    exact h)
  go_wp2_with (first
    | (refine wpList_store_mid rfl 54 _ _ rfl (w.heap.size + 1 + 1) 37 (cellsI sn) rfl rfl (T4.out.out.there 37 _ (by rw [cellsI_size, cellsI_size, HD.out.2.2]; simp [HL1.out, HL2.out])) (by rw [cellsI_size, HD.out.2.2]; exact info31) (cellsI_one _) ?_; generalize w5.setCells (w.heap.size + 1 + 1) 37 (cellsI sn).toList = w6 at T5 ⊢)
    | (refine wpList_load_row rfl 59 _ rfl (w.heap.size + 1 + 1) rfl 59 (cellsI (fsI gen bl cu ck op ev lg s1 ds1 p1 q1 s2 ds2 p2 q2 sn)) (0, 0) _ T5.out.out Tryd.underlying59 rfl (by rw [HZ.out]; exact info68) ?_)
    | (refine wpList_store_row rfl 59 _ _ rfl (w.heap.size + 1) (cellsI (fsI gen bl cu ck op ev lg s1 ds1 p1 q1 s2 ds2 p2 q2 sn)) rfl rfl 59 _ T5.out.ans (by rw [HZ.out]; exact info68) (by rw [HZ.out]; rfl) (cellsI_one _) ?_))
  refine bodyPost_ret (v := .agg (cellsI (fsI gen bl cu ck op ev lg s1 ds1 p1 q1 s2 ds2 p2 q2 sn))) ?_ rfl ⟨rfl, ?_⟩
  · exact results_cell_row rfl _ _ (w.heap.size + 1) 59 (cellsI (fsI gen bl cu ck op ev lg s1 ds1 p1 q1 s2 ds2 p2 q2 sn)) (0, 0) _ rfl (T5.out.ans.row _) Tryd.underlying59 rfl (by rw [HZ.out]; exact info68)
  · exact below_setRow T5.out.old (by omega) _
end Go.Proofs.YtbnjpnhojimaoaaDoor
