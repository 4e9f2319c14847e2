/- The program reads a root record: readFsinfo. The program tells a root record: told at Fsinfo; DecodeFsinfo. -/
import Derived.Test.YtkaennkfieebmaaDoorDinA
import Derived.Test.YtkaennkfieebmaaDoorFsA
import Derived.Test.YtkaennkfieebmaaDoorKfE
import Derived.Test.YtkaennkfieebmaaDoorDfsA
import Derived.Test.YtkaennkfieebmaaDoorKfA
import Derived.Deep.RegionHeld3
import Derived.Deep.MidRow
namespace Go.Proofs.YtkaennkfieebmaaDoor
set_option linter.unusedVariables false
set_option linter.unusedSimpArgs false
open Go.RowKit

/-- What a reading keeps: the result's block, the struct so far (its first integers, then zeros), the reader. -/
structure Rg (w0 w wr : World) (b lo : Nat) (dv : Value) (zs : List Int) (g n : Nat) (T : TypeId) (pre : List Int) (okr : Bool) (pr : Nat) : Prop where
  rdr : Rdr w0 wr b lo okr dv zs pr
  res : Blk wr w.heap.size (cellsI (List.replicate n 0)) T
  blk : Blk wr g (cellsI (pre ++ List.replicate (n - pre.length) 0)) T
  old : w.grownBy wr (some b)
theorem pre_get (pre : List Int) (n : Nat) (j : Nat) (h1 : pre.length ≤ j) : (pre ++ List.replicate (n - pre.length) (0 : Int)).getD j 0 = 0 := by
  rw [List.getD, List.getElem?_append_right h1, List.getElem?_replicate]
  split <;> rfl
theorem pre_cell (pre : List Int) (n : Nat) (h : pre.length < n) : (cellsI (pre ++ List.replicate (n - pre.length) 0))[pre.length]? = some (.int .i64 0) := by
  rw [cellsI_get _ _ (by simp; omega), pre_get _ _ _ (Nat.le_refl _)]
theorem pre_set (pre : List Int) (n : Nat) (x : Int) (h : pre.length < n) : (pre ++ List.replicate (n - pre.length) 0).set pre.length x = (pre ++ [x]) ++ List.replicate (n - (pre ++ [x]).length) 0 := by
  rw [List.set_append_right _ _ (Nat.le_refl _), Nat.sub_self, show n - pre.length = n - (pre ++ [x]).length + 1 by simp; omega, List.replicate_succ, List.set_cons_zero]
  simp
theorem pre_over (pre Z : List Int) (n : Nat) (h : pre.length + Z.length ≤ n) : over (pre ++ List.replicate (n - pre.length) 0) pre.length Z = (pre ++ Z) ++ List.replicate (n - (pre ++ Z).length) 0 := by
  have e : List.replicate (n - pre.length) (0 : Int) = List.replicate Z.length 0 ++ List.replicate (n - (pre ++ Z).length) 0 := by
    rw [List.replicate_append_replicate]
    congr 1
    simp
    omega
  rw [e, over_part pre (List.replicate Z.length 0) Z _ pre.length rfl (by simp)]
  simp
theorem Rg.set1 {w0 w wr : World} {b lo : Nat} {dv : Value} {zs : List Int} {g n : Nat} {T : TypeId} {pre : List Int} {okr : Bool} {pr : Nat} (h : Rg w0 w wr b lo dv zs g n T pre okr pr) (hg : w.heap.size < g) (hb : b < w.heap.size) (k : Nat) (x : Int) (hk : k = pre.length) (hn : k < n) : Rg w0 w (wr.setCell ⟨g, k, none⟩ (.int .i64 x)) b lo dv zs g n T (pre ++ [x]) okr pr := by
  subst hk
  refine ⟨h.rdr.storeC _ (by omega) ((h.blk.cell _).trans (pre_cell pre n hn)) (by decide), h.res.other _ _ (by show w.heap.size ≠ g; omega), ?_, grow_set h.old _ _ _ (by omega)⟩
  have h2 := h.blk.set pre.length (.int .i64 x)
  rw [cellsI_set, pre_set pre n x hn] at h2
  exact h2
theorem Rg.setN {w0 w wr : World} {b lo : Nat} {dv : Value} {zs : List Int} {g n : Nat} {T : TypeId} {pre : List Int} {okr : Bool} {pr : Nat} (h : Rg w0 w wr b lo dv zs g n T pre okr pr) (hg : w.heap.size < g) (hb : b < w.heap.size) (k : Nat) (Z : List Int) (hk : k = pre.length) (hn : k + Z.length ≤ n) : Rg w0 w (wr.setCells g k (cellsI Z).toList) b lo dv zs g n T (pre ++ Z) okr pr := by
  subst hk
  have e : (cellsI Z).toList = Z.map (Value.int .i64) := rfl
  rw [e]
  refine ⟨?_, Blk.cells_other _ _ h.res (by omega), ?_, grow_cells h.old g _ _ (by omega)⟩
  · exact Rdr.cellsC (by omega) Z pre.length h.rdr h.blk (by simp; omega) (fun j hj => by rw [pre_get _ _ _ hj]; decide)
  · have h2 := Blk.cells Z pre.length h.blk (by simp; omega)
    rw [pre_over pre Z n hn] at h2
    exact h2
theorem Rg.next {w0 w wr w' : World} {b lo : Nat} {dv : Value} {zs : List Int} {g n : Nat} {T : TypeId} {pre : List Int} {okr ok2 : Bool} {pr p2 : Nat} (h : Rg w0 w wr b lo dv zs g n T pre okr pr) (hg : w.heap.size < g) (hb : b < w.heap.size) (hr : Rdr w0 w' b lo ok2 dv zs p2) (hgr : wr.grownBy w' (some b)) : Rg w0 w w' b lo dv zs g n T pre ok2 p2 :=
  ⟨hr, (hgr.block _ h.res.lt (by simp; omega)).trans h.res, (hgr.block _ h.blk.lt (by simp; omega)).trans h.blk, grownBy_trans h.old hgr⟩
theorem Rg.cellK {w0 w wr : World} {b lo : Nat} {dv : Value} {zs : List Int} {g n : Nat} {T : TypeId} {pre : List Int} {okr : Bool} {pr : Nat} (h : Rg w0 w wr b lo dv zs g n T pre okr pr) (k : Nat) (hk : k = pre.length) (hn : k < n) : wr.cell? ⟨g, k, none⟩ = some (.int .i64 0) := by
  subst hk
  exact (h.blk.cell _).trans (pre_cell pre n hn)

set_option maxRecDepth 100000 in
set_option maxHeartbeats 4000000 in
theorem readFs_any (w0 w : World) (b lo : Nat) (ok0 : Bool) (dv : Value) (zs : List Int) (p0 : Nat) (C : Bool) (h : Rdr w0 w b lo ok0 dv zs p0) (hA : AdvC zs 8 C ok0 p0) (hz : zs.length ≤ 140737488355328) (hbd : ∀ z ∈ zs, 0 ≤ z ∧ z < 256) :
    Calls Tryd.prog 24 #[.pointer (some ⟨b, 0, none⟩)] w fun e w' => ∃ gen bl cu ck op ev lg s1 ds1 p1 q1 s2 ds2 p2 q2 sn okr pr, e = .returned (.agg (cellsI (fsI gen bl cu ck op ev lg s1 ds1 p1 q1 s2 ds2 p2 q2 sn))) ∧ ds1.length = 12 ∧ ds2.length = 12 ∧ sn.length = 31 ∧ Rdr w0 w' b lo okr dv zs pr ∧ AdvC zs 300 C okr pr ∧ (okr = true → FsAt zs gen bl cu ck op ev lg s1 ds1 p1 q1 s2 ds2 p2 q2 sn) ∧ w.grownBy w' (some b) := by
  have HB := hide hbd
  have hlt := h.ck.lt
  have hw1 : w.heap.size < w.heap.size + 1 := by omega
  have S0 := hide (show Rg w0 w ((w.alloc (.cells (cellsI (List.replicate 68 0)) 36)).alloc (.cells (cellsI (List.replicate 68 0)) 36)) b lo dv zs (w.heap.size + 1) 68 36 [] ok0 p0 from ⟨(h.alloc _).alloc _, (Blk.new w _ _).alloc _, by
    have h2 := Blk.new (w.alloc (.cells (cellsI (List.replicate 68 0)) 36)) (cellsI (List.replicate 68 0)) 36
    rw [World.size_alloc] at h2
    exact h2, grownBy_trans (World.grownBy_alloc w _ (some b)) (World.grownBy_alloc _ _ (some b))⟩)
  have A0 := hide hA
  clear h hbd hA
  go_enter Tryd.func24, Tryd.ntmps24
  go_wp2_with (go_at_call 43; fail)
  refine (number64_any w0 _ b lo ok0 dv zs p0 S0.out.rdr hz HB.out).mono ?_
  rintro e w1 ⟨x0, rfl, hN⟩
  obtain ⟨ok1, p1, r1, a1, v1, g1⟩ := AdvC.num A0.out hN
  have H1 := hide (S0.out.next hw1 hlt r1 g1)
  have A1 := hide a1
  have V1 := hide (show ok1 = true → ok0 = true ∧ wrap64 (x0 : Int) = wrap64 ((unle ((zs.drop 8).take 8) : Nat) : Int) from fun h => ⟨(v1 h).1, by rw [(v1 h).2]⟩)
  generalize wrap64 (x0 : Int) = y0 at V1 ⊢
  have c1 := H1.out.cellK 0 rfl (by omega)
  have f1 := H1.out.blk.frozen 0
  have S1 := hide (H1.out.set1 hw1 hlt 0 y0 rfl (by omega))
  clear r1 a1 v1 g1 hN H1 S0
  go_wp2_with (go_at_call 51; fail)
  clear c1 f1
  refine (number32_any w0 _ b lo ok1 dv zs p1 S1.out.rdr hz HB.out).mono ?_
  rintro e w2 ⟨x1, rfl, hN⟩
  obtain ⟨ok2, p2, r1, a1, v1, g1⟩ := AdvC.num A1.out hN
  have H1 := hide (S1.out.next hw1 hlt r1 g1)
  have A2 := hide a1
  have V2 := hide (show ok2 = true → ok1 = true ∧ (x1 : Int) = ((unle ((zs.drop 16).take 4) : Nat) : Int) from fun h => ⟨(v1 h).1, by rw [(v1 h).2]⟩)
  have c1 := H1.out.cellK 1 rfl (by omega)
  have f1 := H1.out.blk.frozen 1
  have S2 := hide (H1.out.set1 hw1 hlt 1 (x1 : Int) rfl (by omega))
  clear r1 a1 v1 g1 hN H1 S1
  go_wp2_with (go_at_call 51; fail)
  clear c1 f1
  refine (number32_any w0 _ b lo ok2 dv zs p2 S2.out.rdr hz HB.out).mono ?_
  rintro e w3 ⟨x2, rfl, hN⟩
  obtain ⟨ok3, p3, r1, a1, v1, g1⟩ := AdvC.num A2.out hN
  have H1 := hide (S2.out.next hw1 hlt r1 g1)
  have A3 := hide a1
  have V3 := hide (show ok3 = true → ok2 = true ∧ (x2 : Int) = ((unle ((zs.drop 20).take 4) : Nat) : Int) from fun h => ⟨(v1 h).1, by rw [(v1 h).2]⟩)
  have c1 := H1.out.cellK 2 rfl (by omega)
  have f1 := H1.out.blk.frozen 2
  have S3 := hide (H1.out.set1 hw1 hlt 2 (x2 : Int) rfl (by omega))
  clear r1 a1 v1 g1 hN H1 S2
  go_wp2_with (go_at_call 43; fail)
  clear c1 f1
  refine (number64_any w0 _ b lo ok3 dv zs p3 S3.out.rdr hz HB.out).mono ?_
  rintro e w4 ⟨x3, rfl, hN⟩
  obtain ⟨ok4, p4, r1, a1, v1, g1⟩ := AdvC.num A3.out hN
  have H1 := hide (S3.out.next hw1 hlt r1 g1)
  have A4 := hide a1
  have V4 := hide (show ok4 = true → ok3 = true ∧ wrap64 (x3 : Int) = wrap64 ((unle ((zs.drop 24).take 8) : Nat) : Int) from fun h => ⟨(v1 h).1, by rw [(v1 h).2]⟩)
  generalize wrap64 (x3 : Int) = y3 at V4 ⊢
  have c1 := H1.out.cellK 3 rfl (by omega)
  have f1 := H1.out.blk.frozen 3
  have S4 := hide (H1.out.set1 hw1 hlt 3 y3 rfl (by omega))
  clear r1 a1 v1 g1 hN H1 S3
  go_wp2_with (go_at_call 43; fail)
  clear c1 f1
  refine (number64_any w0 _ b lo ok4 dv zs p4 S4.out.rdr hz HB.out).mono ?_
  rintro e w5 ⟨x4, rfl, hN⟩
  obtain ⟨ok5, p5, r1, a1, v1, g1⟩ := AdvC.num A4.out hN
  have H1 := hide (S4.out.next hw1 hlt r1 g1)
  have A5 := hide a1
  have V5 := hide (show ok5 = true → ok4 = true ∧ wrap64 (x4 : Int) = wrap64 ((unle ((zs.drop 32).take 8) : Nat) : Int) from fun h => ⟨(v1 h).1, by rw [(v1 h).2]⟩)
  generalize wrap64 (x4 : Int) = y4 at V5 ⊢
  have c1 := H1.out.cellK 4 rfl (by omega)
  have f1 := H1.out.blk.frozen 4
  have S5 := hide (H1.out.set1 hw1 hlt 4 y4 rfl (by omega))
  clear r1 a1 v1 g1 hN H1 S4
  go_wp2_with (go_at_call 51; fail)
  clear c1 f1
  refine (number32_any w0 _ b lo ok5 dv zs p5 S5.out.rdr hz HB.out).mono ?_
  rintro e w6 ⟨x5, rfl, hN⟩
  obtain ⟨ok6, p6, r1, a1, v1, g1⟩ := AdvC.num A5.out hN
  have H1 := hide (S5.out.next hw1 hlt r1 g1)
  have A6 := hide a1
  have V6 := hide (show ok6 = true → ok5 = true ∧ (x5 : Int) = ((unle ((zs.drop 40).take 4) : Nat) : Int) from fun h => ⟨(v1 h).1, by rw [(v1 h).2]⟩)
  have c1 := H1.out.cellK 5 rfl (by omega)
  have f1 := H1.out.blk.frozen 5
  have S6 := hide (H1.out.set1 hw1 hlt 5 (x5 : Int) rfl (by omega))
  clear r1 a1 v1 g1 hN H1 S5
  go_wp2_with (go_at_call 51; fail)
  clear c1 f1
  refine (number32_any w0 _ b lo ok6 dv zs p6 S6.out.rdr hz HB.out).mono ?_
  rintro e w7 ⟨x6, rfl, hN⟩
  obtain ⟨ok7, p7, r1, a1, v1, g1⟩ := AdvC.num A6.out hN
  have H1 := hide (S6.out.next hw1 hlt r1 g1)
  have A7 := hide a1
  have V7 := hide (show ok7 = true → ok6 = true ∧ (x6 : Int) = ((unle ((zs.drop 44).take 4) : Nat) : Int) from fun h => ⟨(v1 h).1, by rw [(v1 h).2]⟩)
  have c1 := H1.out.cellK 6 rfl (by omega)
  have f1 := H1.out.blk.frozen 6
  have S7 := hide (H1.out.set1 hw1 hlt 6 (x6 : Int) rfl (by omega))
  clear r1 a1 v1 g1 hN H1 S6
  go_wp2_with (go_at_call 44; fail)
  clear c1 f1
  have HP7 := hide (show ([] ++ [y0] ++ [(x1 : Int)] ++ [(x2 : Int)] ++ [y3] ++ [y4] ++ [(x5 : Int)] ++ [(x6 : Int)] : List Int) = [y0, (x1 : Int), (x2 : Int), y3, y4, (x5 : Int), (x6 : Int)] from rfl)
  rw [HP7.out] at S7
  clear HP7
  refine (readRoot_any w0 _ b lo ok7 dv zs p7 S7.out.rdr hz HB.out).mono ?_
  rintro e w8 ⟨s1, ds1, q1a, q1b, ok8, p8, rfl, hd1, r1, a1, v1, g1⟩
  obtain ⟨a2, v2⟩ := AdvC.adv A7.out a1
  have H1 := hide (S7.out.next hw1 hlt r1 g1)
  have A8 := hide a2
  have V8 := hide (show ok8 = true → ok7 = true ∧ RootAt zs 48 s1 ds1 q1a q1b from fun h => ⟨(v2 h).1, by have e := (v2 h).2; have e2 := v1 h; rw [e] at e2; exact e2⟩)
  have HD1 := hide hd1
  have HLen1 := hide (show (cellsI (rootI s1 ds1 q1a q1b)).size = 15 from by rw [cellsI_size]; exact rootI_len _ _ _ _ hd1)
  have K1 := hide (H1.out.setN hw1 hlt 7 (rootI s1 ds1 q1a q1b) rfl (by rw [rootI_len _ _ _ _ hd1]; omega))
  have T1 := hide (H1.out.blk.there 7 15 (by rw [cellsI_size]; simp))
  clear r1 a1 v1 g1 a2 v2 hd1 H1 S7
  go_wp2_with (first | (refine wpList_store_mid rfl 25 _ _ rfl (w.heap.size + 1) 7 (cellsI (rootI s1 ds1 q1a q1b)) rfl rfl (by rw [HLen1.out]; exact T1.out) (by rw [HLen1.out]; exact info15) (cellsI_one _) ?_; generalize w8.setCells (w.heap.size + 1) 7 (cellsI (rootI s1 ds1 q1a q1b)).toList = wS1 at K1 ⊢) | (go_at_call 44; fail))
  clear T1
  have HPL := hide (show ([y0, (x1 : Int), (x2 : Int), y3, y4, (x5 : Int), (x6 : Int)] ++ rootI s1 ds1 q1a q1b).length = 22 from by rw [List.length_append, rootI_len _ _ _ _ HD1.out]; rfl)
  have S8 := K1
  clear K1
  refine (readRoot_any w0 _ b lo ok8 dv zs p8 S8.out.rdr hz HB.out).mono ?_
  rintro e w9 ⟨s2, ds2, q2a, q2b, ok9, p9, rfl, hd2, r1, a1, v1, g1⟩
  obtain ⟨a2, v2⟩ := AdvC.adv A8.out a1
  have H1 := hide (S8.out.next hw1 hlt r1 g1)
  have A9 := hide a2
  have V9 := hide (show ok9 = true → ok8 = true ∧ RootAt zs 112 s2 ds2 q2a q2b from fun h => ⟨(v2 h).1, by have e := (v2 h).2; have e2 := v1 h; rw [e] at e2; exact e2⟩)
  have HD2 := hide hd2
  have HLen2 := hide (show (cellsI (rootI s2 ds2 q2a q2b)).size = 15 from by rw [cellsI_size]; exact rootI_len _ _ _ _ hd2)
  have K1 := hide (H1.out.setN hw1 hlt 22 (rootI s2 ds2 q2a q2b) HPL.out.symm (by rw [rootI_len _ _ _ _ hd2]; omega))
  have T1 := hide (H1.out.blk.there 22 15 (by rw [cellsI_size]; have := HPL.out; simp; omega))
  clear r1 a1 v1 g1 a2 v2 hd2 H1 S8
  go_wp2_with (refine wpList_store_mid rfl 25 _ _ rfl (w.heap.size + 1) 22 (cellsI (rootI s2 ds2 q2a q2b)) rfl rfl (by rw [HLen2.out]; exact T1.out) (by rw [HLen2.out]; exact info15) (cellsI_one _) ?_; generalize w9.setCells (w.heap.size + 1) 22 (cellsI (rootI s2 ds2 q2a q2b)).toList = wS2 at K1 ⊢)
  clear T1
  have HPM := hide (show ([y0, (x1 : Int), (x2 : Int), y3, y4, (x5 : Int), (x6 : Int)] ++ rootI s1 ds1 q1a q1b ++ rootI s2 ds2 q2a q2b).length = 37 from by rw [List.length_append, HPL.out, rootI_len _ _ _ _ HD2.out])
  obtain ⟨P, hP⟩ : ∃ P, P = [y0, (x1 : Int), (x2 : Int), y3, y4, (x5 : Int), (x6 : Int)] ++ rootI s1 ds1 q1a q1b ++ rootI s2 ds2 q2a q2b := ⟨_, rfl⟩
  rw [← hP] at K1 HPM
  have HPE := hide hP
  clear hP
  go_loopw [4, 32] (fun _ i wr => ∃ (k : Nat) (sn : List Int) (okr : Bool) (pr : Nat), k ≤ 31 ∧ i = .int .i64 k ∧ sn.length = k ∧ Rg w0 w wr b lo dv zs (w.heap.size + 1) 68 36 (P ++ sn) okr pr ∧ AdvC zs (176 + 4 * k) C okr pr ∧ (okr = true → ok9 = true ∧ sn = wordsFrom zs 176 k)) (fun _ i _ => 31 - (intOf i).toNat)
  case atStart => exact ⟨0, [], ok9, p9, by omega, rfl, rfl, by rw [List.append_nil]; exact K1.out, A9.out, fun h => ⟨h, rfl⟩⟩
  case round =>
    clear K1
    obtain ⟨k, sn, okr, pr, hk, rfl, hsl, hr, ha, hv⟩ := hrel
    have HR := hide hr
    have HA := hide ha
    have HV := hide hv
    have HSL := hide hsl
    have HPS := hide (show (P ++ sn).length = 37 + k from by rw [List.length_append, HPM.out, hsl])
    clear hr ha hv hsl
    by_cases hlt31 : k < 31
    · go_wp2_with (go_at_call 51; fail)
      refine (number32_any w0 _ b lo okr dv zs pr HR.out.rdr hz HB.out).mono ?_
      rintro e wN ⟨x, rfl, hN⟩
      obtain ⟨okn, pn, r1, a1, v1, g1⟩ := AdvC.num HA.out hN
      have H1 := hide (HR.out.next hw1 hlt r1 g1)
      have c1 := H1.out.cellK (37 + k) HPS.out.symm (by omega)
      have f1 := H1.out.blk.frozen (37 + k)
      have S1 := hide (H1.out.set1 hw1 hlt (37 + k) (x : Int) HPS.out.symm (by omega))
      have V1 := hide (show okn = true → ok9 = true ∧ sn ++ [(x : Int)] = wordsFrom zs 176 (k + 1) from fun h => by
        obtain ⟨h1, h2⟩ := v1 h
        obtain ⟨h3, h4⟩ := HV.out h1
        exact ⟨h3, by rw [wordsFrom_succ, ← h4, h2]⟩)
      have A1 := hide (show AdvC zs (176 + 4 * (k + 1)) C okn pn from a1)
      clear r1 a1 v1 g1 hN H1 HR HA HV
      go_wp2
      go_roundw
      case rel => exact ⟨k + 1, sn ++ [(x : Int)], okn, pn, by omega, by go_num, by rw [List.length_append, HSL.out]; rfl, by rw [← List.append_assoc]; exact S1.out, A1.out, V1.out⟩
      case measure => simp [intOf]; omega
    · have e31 : k = 31 := by omega
      subst e31
      have HFS := hide (show P ++ sn = fsI y0 (x1 : Int) (x2 : Int) y3 y4 (x5 : Int) (x6 : Int) s1 ds1 q1a q1b s2 ds2 q2a q2b sn from by rw [HPE.out]; simp [fsI])
      have HF := hide (show okr = true → FsAt zs y0 (x1 : Int) (x2 : Int) y3 y4 (x5 : Int) (x6 : Int) s1 ds1 q1a q1b s2 ds2 q2a q2b sn from fun hk => by
        obtain ⟨h9, hsn⟩ := HV.out hk
        have k9 := V9.out h9
        have k8 := V8.out k9.1
        have k7 := V7.out k8.1
        have k6 := V6.out k7.1
        have k5 := V5.out k6.1
        have k4 := V4.out k5.1
        have k3 := V3.out k4.1
        have k2 := V2.out k3.1
        have k1 := V1.out k2.1
        exact ⟨k1.2, k2.2, k3.2, k4.2, k5.2, k6.2, k7.2, k8.2, k9.2, hsn⟩)
      have KB := hide (show Blk wr (w.heap.size + 1) (cellsI (fsI y0 (x1 : Int) (x2 : Int) y3 y4 (x5 : Int) (x6 : Int) s1 ds1 q1a q1b s2 ds2 q2a q2b sn)) 36 from by
        have h1 := HR.out.blk
        rw [HPS.out, show 68 - (37 + 31) = 0 from rfl, List.replicate_zero, List.append_nil, HFS.out] at h1
        exact h1)
      have HZ := hide (show (cellsI (fsI y0 (x1 : Int) (x2 : Int) y3 y4 (x5 : Int) (x6 : Int) s1 ds1 q1a q1b s2 ds2 q2a q2b sn)).size = 68 from by rw [cellsI_size]; exact fsI_len _ _ _ _ _ _ _ _ _ _ _ _ _ _ _ _ HD1.out HD2.out HSL.out)
      go_wp2_with (first | (refine wpList_load_row rfl 36 _ rfl (w.heap.size + 1) rfl 36 (cellsI (fsI y0 (x1 : Int) (x2 : Int) y3 y4 (x5 : Int) (x6 : Int) s1 ds1 q1a q1b s2 ds2 q2a q2b sn)) (0, 0) _ KB.out Tryd.underlying36 rfl (by rw [HZ.out]; exact info68) ?_) | (refine wpList_store_row rfl 36 _ _ rfl w.heap.size (cellsI (fsI y0 (x1 : Int) (x2 : Int) y3 y4 (x5 : Int) (x6 : Int) s1 ds1 q1a q1b s2 ds2 q2a q2b sn)) rfl rfl 36 _ HR.out.res (by rw [HZ.out]; exact info68) (by rw [HZ.out]; rfl) (cellsI_one _) ?_))
      refine bodyPost_ret (v := .agg (cellsI (fsI y0 (x1 : Int) (x2 : Int) y3 y4 (x5 : Int) (x6 : Int) s1 ds1 q1a q1b s2 ds2 q2a q2b sn))) ?_ rfl ⟨_, _, _, _, _, _, _, s1, ds1, q1a, q1b, s2, ds2, q2a, q2b, sn, okr, pr, rfl, HD1.out, HD2.out, HSL.out, ?_, HA.out, HF.out, grow_row HR.out.old _ _ (Nat.le_refl _)⟩
      · exact results_cell_row rfl _ _ w.heap.size 36 (cellsI (fsI y0 (x1 : Int) (x2 : Int) y3 y4 (x5 : Int) (x6 : Int) s1 ds1 q1a q1b s2 ds2 q2a q2b sn)) (0, 0) _ rfl (HR.out.res.row _) Tryd.underlying36 rfl (by rw [HZ.out]; exact info68)
      · exact HR.out.rdr.row _ hlt HR.out.res (by decide)
end Go.Proofs.YtkaennkfieebmaaDoor

namespace Go.Proofs.YtkaennkfieebmaaDoor
set_option linter.unusedVariables false
set_option linter.unusedSimpArgs false
open Go.RowKit

def noFs : List Int := List.replicate 68 0

set_option maxRecDepth 100000 in
set_option maxHeartbeats 1000000 in
theorem toldF_ok (xs : List Int) (w : World) (hx : xs.length = 68) :
    Calls Tryd.prog 26 #[.agg (cellsI xs), .nilIface] w fun e w' => e = .returned (.tuple #[.agg (cellsI xs), .int .i64 0]) ∧ Below w.heap.size w w' := by
  have HZ := hide (show (cellsI xs).size = 68 from by rw [cellsI_size]; exact hx)
  have kB := (Blk.new w (cellsI xs) 36).alloc (.cells (cellsI noFs) 36)
  have kC := Blk.new (w.alloc (.cells (cellsI xs) 36)) (cellsI noFs) 36
  rw [World.size_alloc] at kC
  have K := hide (And.intro kB (And.intro kC (((Below.refl w.heap.size w).alloc (Nat.le_refl _) (.cells (cellsI xs) 36)).alloc (by simp) (.cells (cellsI noFs) 36))))
  clear kB kC hx
  go_enter Tryd.func26, Tryd.ntmps26
  go_wp2_with (first | (refine wpList_load_row rfl 36 _ rfl w.heap.size rfl 36 (cellsI xs) (0, 0) _ K.out.1 Tryd.underlying36 rfl (by rw [HZ.out]; exact info68) ?_) | (refine wpList_store_row rfl 36 _ _ rfl (w.heap.size + 1) (cellsI xs) rfl rfl 36 _ K.out.2.1 (by rw [HZ.out]; exact info68) (by rw [HZ.out]; rfl) (cellsI_one _) ?_))
  refine bodyPost_ret (v := .tuple #[.agg (cellsI xs), .int .i64 0]) ?_ rfl ⟨rfl, below_setRow K.out.2.2 (by omega) _⟩
  exact results_row_tmp rfl _ _ (w.heap.size + 1) 36 (cellsI xs) (0, 0) _ _ rfl rfl (K.out.2.1.row _) Tryd.underlying36 rfl (by rw [HZ.out]; exact info68)

theorem noFs_range {w : World} {b : Nat} {t : TypeId} (h : Blk w b (cellsI noFs) t) : w.rangeAt b 0 (noFs.map (Value.int .i64)) := by
  have := h.range 0 68 (by decide)
  exact this
set_option maxRecDepth 100000 in
set_option maxHeartbeats 2000000 in
theorem toldF_bad (xs : List Int) (lo n : Nat) (v : Value) (c : Int) (w : World) (hx : xs.length = 68) (hv : Flt w lo n v c) (hg : ErrT w) :
    Calls Tryd.prog 26 #[.agg (cellsI xs), v] w fun e w' => e = .returned (.tuple #[.agg (cellsI noFs), .int .i64 c]) ∧ Below w.heap.size w w' := by
  have HZ := hide (show (cellsI xs).size = 68 from by rw [cellsI_size]; exact hx)
  have HV := hide (And.intro hv hg)
  obtain ⟨t', x', rfl⟩ := hv.iface
  clear hv hg hx
  go_enter Tryd.func26, Tryd.ntmps26
  have kB := ((Blk.new (w.alloc (.cells (cellsI xs) 36)) Tryd.zeroCells36 36).alloc (.cells Tryd.zeroCells36 36))
  have kC := Blk.new ((w.alloc (.cells (cellsI xs) 36)).alloc (.cells Tryd.zeroCells36 36)) Tryd.zeroCells36 36
  rw [World.size_alloc] at kB
  rw [World.size_alloc, World.size_alloc] at kC
  have K0 := hide (And.intro kB (And.intro kC ((((Below.refl w.heap.size w).alloc (Nat.le_refl _) (.cells (cellsI xs) 36)).alloc (by simp) (.cells Tryd.zeroCells36 36)).alloc (by simp; omega) (.cells Tryd.zeroCells36 36))))
  clear kB kC
  go_wp2
  generalize hW : ((w.alloc (.cells (cellsI xs) 36)).alloc (.cells Tryd.zeroCells36 36)).alloc (.cells Tryd.zeroCells36 36) = W at K0 ⊢
  have hWs : W.heap.size = w.heap.size + 3 := by rw [← hW]; simp
  clear hW
  refine wp_region_noPanic ?_
  refine wp_region_held_drew (S := fun w' => Blk w' (w.heap.size + 1 + 1) (cellsI noFs) 36) (by kernel_rfl) (show Blk W.drew (w.heap.size + 1 + 1) (cellsI noFs) 36 from K0.out.2.1) (fun hH => ?_)
  refine wpAnyH_take (i := 0) (oi := _) (v := .agg (cellsI noFs)) rfl (by kernel_rfl) (by kernel_rfl) (by kernel_rfl) (fun _ _ _ h => h) (yieldsIf_load_mid (by rfl) 36 _ rfl (w.heap.size + 1 + 1) 0 rfl (noFs.map (Value.int .i64)) _ (fun w' h => noFs_range h) Tryd.underlying36 rfl info68) hH ?_
  try simp only [Act.put, List.setIfInBounds_toArray, List.set_cons_zero, List.set_cons_succ]
  refine wpAnyH_take (i := 1) (oi := _) (v := .iface t' (.pointer (some x'))) rfl (by kernel_rfl) (by kernel_rfl) (by kernel_rfl) (fun _ _ _ h => h) (Or.inl ⟨by rfl, fun w' hw' => by rfl⟩) hH ?_
  try simp only [Act.put, List.setIfInBounds_toArray, List.set_cons_zero, List.set_cons_succ]
  refine wpAnyH_ready (rs := [2]) (by kernel_rfl) (by simp) ?_
  refine AllReadyH.cons (o := _) rfl (fun K hK => ?_) AllReadyH.nil
  go_simp
  refine (codeOf_any n _ c lo _ (HV.out.1.below (K0.out.2.2.drew.mono (by omega))) (HV.out.2.below K0.out.2.2.drew)).mono ?_
  rintro e w5 ⟨rfl, b5⟩
  have s5 : Blk w5 (w.heap.size + 1 + 1) (cellsI noFs) 36 := Blk.below (w := W.drew) K0.out.2.1 b5 (by show _ < W.heap.size; omega)
  have kb5 : Blk w5 (w.heap.size + 1) (cellsI noFs) 36 := Blk.below (w := W.drew) K0.out.1 b5 (by show _ < W.heap.size; omega)
  have HF := hide (And.intro (kb5.row (cellsI noFs)) (below_setRow (g := w.heap.size + 1) (K0.out.2.2.trans ((((Below.refl _ W).drew).trans b5).mono (by show w.heap.size ≤ W.heap.size; omega))) (by omega) (cellsI noFs)))
  have KB5 := hide kb5
  clear b5 kb5
  refine hK.out _ _ s5 (fun hH5 => ?_)
  clear hK K hH
  try simp only [Act.put, List.setIfInBounds_toArray, List.set_cons_zero, List.set_cons_succ]
  refine wpAnyH_ready (rs := [3]) (by kernel_rfl) (by simp) ?_
  refine AllReadyH.cons (o := _) rfl (fun K hK => ?_) AllReadyH.nil
  rw [if_pos (by rfl)]
  refine wp_store_row 36 _ _ rfl (w.heap.size + 1) (cellsI noFs) rfl rfl 36 _ KB5.out info68 rfl (cellsI_one _) ?_
  refine hK.out _ _ (show Blk _ _ _ _ from (setRow_block _ _ _ _ (by omega)).trans hH5) (fun hH6 => ?_)
  clear hK K
  try simp only [Act.put, List.setIfInBounds_toArray, List.set_cons_zero, List.set_cons_succ]
  refine wpAnyH_ready (rs := [4]) (by kernel_rfl) (by simp) ?_
  refine AllReadyH.cons (o := _) rfl (fun K hK => ?_) AllReadyH.nil
  go_simp
  refine hK.out _ _ hH6 (fun hH7 => ?_)
  clear hK K
  try simp only [Act.put, List.setIfInBounds_toArray, List.set_cons_zero, List.set_cons_succ]
  refine wpAnyH_done (by kernel_rfl) (NoPanic.normal ?_) _
  clear hH5 hH6 hH7 s5
  go_wp2
  refine bodyPost_ret (v := .tuple #[.agg (cellsI noFs), .int .i64 c]) ?_ rfl ⟨rfl, HF.out.2⟩
  exact results_row_tmp rfl _ _ (w.heap.size + 1) 36 (cellsI noFs) (0, 0) _ _ rfl rfl HF.out.1 Tryd.underlying36 rfl info68
theorem row_whole {X : List Int} (hX : X.length = 68) {w : World} {b : Nat} {t : TypeId} (h : Blk w b (cellsI X) t) : w.rangeAt b 0 (X.map (Value.int .i64)) := by
  have := h.range 0 68 (by omega)
  rw [List.drop_zero, List.take_of_length_le (by omega)] at this
  exact this
/-- The block's sum and letters, and the zeros behind its bytes. -/
def sumB (zs : List Int) : Bool := decide (unle ((zs.drop 508).take 4) = Crc.crc (zs.take 508))
def frameF (zs : List Int) : Bool := sumB zs && decide (zs.take 8 = fsLet) && allz ((zs.drop 300).take 208)
/-- What DecodeFsinfo reads, and whether it is told. -/
def FsRead (zs X : List Int) (ok : Bool) : Prop :=
  ∃ gen bl cu ck op ev lg s1 ds1 p1 q1 s2 ds2 p2 q2 sn, ds1.length = 12 ∧ ds2.length = 12 ∧ sn.length = 31 ∧ X = fsI gen bl cu ck op ev lg s1 ds1 p1 q1 s2 ds2 p2 q2 sn ∧ (zs.length ≠ 512 → ok = false) ∧ (zs.length = 512 → frameF zs = false → ok = false) ∧ (zs.length = 512 → frameF zs = true → FsAt (zs.take 508) gen bl cu ck op ev lg s1 ds1 p1 q1 s2 ds2 p2 q2 sn ∧ ok = rightF gen bl cu ck op ev lg s1 ds1 p1 q1 s2 ds2 p2 q2 sn)
theorem fsRead_of (zs : List Int) (ok0 : Bool) (ys : List Int) (p0 : Nat) (hB : BlkRd zs fsLet ok0 ys p0) (gen bl cu ck op ev lg s1 : Int) (ds1 : List Int) (p1 q1 s2 : Int) (ds2 : List Int) (p2 q2 : Int) (sn : List Int) (hd1 : ds1.length = 12) (hd2 : ds2.length = 12) (hsn : sn.length = 31) (ok2 : Bool) (pr : Nat) (ha : AdvC ys 300 ok0 ok2 pr) (hv : ok2 = true → FsAt ys gen bl cu ck op ev lg s1 ds1 p1 q1 s2 ds2 p2 q2 sn) :
    FsRead zs (fsI gen bl cu ck op ev lg s1 ds1 p1 q1 s2 ds2 p2 q2 sn) (ok2 && ((((ys.drop pr).take (508 - pr)).all fun z => decide (z = 0)) && decide (ys.length = 508)) && rightF gen bl cu ck op ev lg s1 ds1 p1 q1 s2 ds2 p2 q2 sn) := by
  obtain ⟨h1, h2, h3⟩ := ha
  have hno : ok0 = false → ok2 = false := fun h => by
    cases h4 : ok2 with
    | false => rfl
    | true => have := (h2.1 h4).2; rw [h] at this; cases this
  refine ⟨gen, bl, cu, ck, op, ev, lg, s1, ds1, p1, q1, s2, ds2, p2, q2, sn, hd1, hd2, hsn, rfl, fun h => ?_, fun h hf => ?_, fun h hf => ?_⟩
  · rcases hB with ⟨_, hk, _, _⟩ | ⟨hk, _⟩
    · rw [hno hk]; rfl
    · exact absurd hk h
  · rcases hB with ⟨hk, _, _, _⟩ | ⟨_, rfl, hk, _, _⟩
    · exact absurd h hk
    · cases h4 : ok2 with
      | false => rfl
      | true =>
        have hp := h3 h4
        subst hp
        have hC := (h2.1 h4).2
        rw [hk] at hC
        have e : ((zs.take 508).drop 300).take (508 - 300) = (zs.drop 300).take 208 := by rw [List.drop_take, List.take_take]; rfl
        unfold frameF sumB at hf
        rw [hC, Bool.true_and] at hf
        rw [e]
        have hf' : ((zs.drop 300).take 208).all (fun z => decide (z = 0)) = false := hf
        rw [hf']
        rfl
  · rcases hB with ⟨hk, _, _, _⟩ | ⟨_, rfl, hk, _, _⟩
    · exact absurd h hk
    · unfold frameF sumB at hf
      rw [← hk, Bool.and_eq_true] at hf
      have hlen : (zs.take 508).length = 508 := by rw [List.length_take, h]; rfl
      have ho := h2.2 ⟨by omega, hf.1⟩
      have hp := h3 ho
      subst hp
      refine ⟨hv ho, ?_⟩
      have e : ((zs.take 508).drop 300).take (508 - 300) = (zs.drop 300).take 208 := by rw [List.drop_take, List.take_take]; rfl
      have hf' : ((zs.drop 300).take 208).all (fun z => decide (z = 0)) = true := hf.2
      rw [ho, e, hf', decide_eq_true hlen]
      rfl
set_option maxRecDepth 100000 in
set_option maxHeartbeats 4000000 in
theorem implDFs_any (v : Value) (zs : List Int) (w : World) (h : Rd .u8 w v zs) (hbd : ∀ z ∈ zs, 0 ≤ z ∧ z < 256) (hz : zs.length ≤ 140737488355328) (hg : ErrT w) (hL : LetF w) :
    Calls Tryd.prog 11 #[v] w fun e w' => ∃ X ok, FsRead zs X ok ∧ e = .returned (.tuple #[.agg (cellsI (if ok = true then X else noFs)), .int .i64 (if ok = true then 0 else 21)]) ∧ Below w.heap.size w w' := by
  have HB := hide hbd
  have HR := hide (And.intro h hg)
  have hb0 : ∀ C, Below w.heap.size w (w.alloc C) := fun C => (Below.refl _ _).alloc (Nat.le_refl _) _
  have HB0 := hide hb0
  have HLt := hide (fun C => hL.below (hb0 C))
  clear hbd hg hb0 hL
  obtain ⟨a, cap, rfl, _⟩ := h
  go_enter Tryd.func11, Tryd.ntmps11
  go_wp2_with (first | (refine wpList_load_mid rfl 47 _ rfl 1 0 rfl (fsLet.map (Value.int .u8)) _ (HLt.out _) Tryd.underlying47 rfl (by kernel_rfl) ?_) | (go_at_call 16; fail))
  refine (newBlock_any _ zs fsLet _ rfl (HR.out.1.below (HB0.out _)) HB.out hz).mono ?_
  rintro e w1 ⟨w0, rb, lo, ok0, dv, ys, p0, rfl, r1, b1, hrb, hBR⟩
  have hys : (∀ z ∈ ys, 0 ≤ z ∧ z < 256) ∧ ys.length ≤ 140737488355328 := by
    rcases hBR with ⟨_, _, _, rfl⟩ | ⟨_, rfl, _⟩
    · exact ⟨by simp, by simp⟩
    · exact ⟨fun z hz => HB.out z (List.mem_of_mem_take hz), by rw [List.length_take]; omega⟩
  have hA : AdvC ys 8 ok0 ok0 p0 := by
    rcases hBR with ⟨_, rfl, rfl, rfl⟩ | ⟨h5, rfl, h2, h3, h4⟩
    · exact ⟨by omega, ⟨(fun h => by cases h), (fun h => h.2)⟩, (fun h => by cases h)⟩
    · exact ⟨h3, ⟨fun h => ⟨by rw [List.length_take, h5]; decide, h⟩, fun h => h.2⟩, h4⟩
  rw [World.size_alloc] at hrb b1
  have ki1 : Blk w1 w.heap.size Tryd.zeroCells36 36 := (Blk.new w Tryd.zeroCells36 36).below b1 (by omega)
  have H1 := hide (And.intro r1 (And.intro ki1 ((HB0.out (.cells Tryd.zeroCells36 36)).trans (b1.mono (by omega)))))
  have HBR := hide hBR
  clear r1 b1 ki1 hBR
  go_wp2_with (go_at_call 24; fail)
  have H1' := H1.out.1
  refine (readFs_any _ _ _ _ ok0 _ ys p0 ok0 H1' hA hys.2 hys.1).mono ?_
  rintro e w2 ⟨gen, bl, cu, ck, op, ev0, lg, s1, ds1, p1, q1, s2, ds2, p22, q2, sn, ok2, p2, rfl, hd1, hd2, hsn, r2, a2, v2, g2⟩
  obtain ⟨X, hX⟩ : ∃ X, X = fsI gen bl cu ck op ev0 lg s1 ds1 p1 q1 s2 ds2 p22 q2 sn := ⟨_, rfl⟩
  have HXL := hide (show X.length = 68 from by rw [hX]; exact fsI_len _ _ _ _ _ _ _ _ _ _ _ _ _ _ _ _ hd1 hd2 hsn)
  obtain ⟨RF, hRF⟩ : ∃ RF, RF = rightF gen bl cu ck op ev0 lg s1 ds1 p1 q1 s2 ds2 p22 q2 sn := ⟨_, rfl⟩
  have HFF := hide (show ∀ w : World, Calls Tryd.prog 25 #[.agg (cellsI X), .int .i64 21] w fun e w' => ∃ ev', e = .returned ev' ∧ FaultIs w' w.heap.size RF ev' 21 ∧ Below w.heap.size w w' from fun w => by rw [hX, hRF]; exact fsFault_any _ _ _ _ _ _ _ _ _ _ _ _ _ _ _ _ 21 w hd1 hd2 hsn)
  have HOKF := hide (fsRead_of zs ok0 ys p0 HBR.out gen bl cu ck op ev0 lg s1 ds1 p1 q1 s2 ds2 p22 q2 sn hd1 hd2 hsn ok2 p2 a2 v2)
  rw [← hX, ← hRF] at HOKF
  rw [← hX]
  have HA := hide a2
  have hp2 : p2 ≤ 508 := Nat.le_trans a2.1 (by omega)
  clear hX hRF hd1 hd2 hsn v2 a2
  have hs2 := g2.size
  have hlt1 := H1'.ck.lt
  have hlo := r2.lo1
  have hlo2 := r2.lo2
  have ki2 : Blk w2 w.heap.size (cellsI noFs) 36 := (g2.block _ (by omega) (by simp; omega)).trans H1.out.2.1
  have hb12 : rb < w2.heap.size := r2.ck.lt
  have HZ := hide (show (cellsI X).size = 68 from by rw [cellsI_size]; exact HXL.out)
  have H2 := hide (show Rdr _ ((w2.alloc (.cells Tryd.zeroCells36 36)).setRow w2.heap.size (cellsI X)) rb _ ok2 _ ys p2 ∧ Blk ((w2.alloc (.cells Tryd.zeroCells36 36)).setRow w2.heap.size (cellsI X)) w.heap.size (cellsI noFs) 36 ∧ Below w.heap.size w ((w2.alloc (.cells Tryd.zeroCells36 36)).setRow w2.heap.size (cellsI X)) ∧ Blk ((w2.alloc (.cells Tryd.zeroCells36 36)).setRow w2.heap.size (cellsI X)) w2.heap.size (cellsI X) 36 from
    ⟨(r2.alloc _).row _ hb12 (Blk.new w2 (cellsI (List.replicate 68 0)) 36) (by decide), (setRow_block _ _ _ _ (by omega)).trans (ki2.alloc _), below_setRow ((H1.out.2.2.grown g2 (by omega) (fun k e => by cases e; omega)).alloc (by omega) _) (by omega) _, (Blk.new w2 Tryd.zeroCells36 36).row _⟩)
  clear r2 ki2 g2 H1' H1
  go_wp2_with (first | (refine wpList_store_row rfl 36 _ _ rfl w2.heap.size (cellsI X) rfl rfl 36 _ (Blk.new w2 Tryd.zeroCells36 36) (by rw [HZ.out]; exact info68) (by rw [HZ.out]; rfl) (cellsI_one _) ?_) | (go_at_call 18; fail))
  generalize hW3 : (w2.alloc (.cells Tryd.zeroCells36 36)).setRow w2.heap.size (cellsI X) = w3 at H2 ⊢
  clear hW3
  refine (end_any _ _ _ _ ok2 _ ys p2 508 H2.out.1 hp2 (by omega) (by omega) hys.2).mono ?_
  rintro e w4 ⟨rfl, g4, p4, r4⟩
  have hs4 := g4.size
  have hl3 := H2.out.2.2.2.lt
  have ki4 : Blk w4 w.heap.size (cellsI noFs) 36 := (g4.block _ (by omega) (by simp; omega)).trans H2.out.2.1
  have kr4 : Blk w4 w2.heap.size (cellsI X) 36 := (g4.block _ (by omega) (by simp; omega)).trans H2.out.2.2.2
  have H4 := hide (And.intro r4 (And.intro ki4 (And.intro (H2.out.2.2.1.grown g4 (by omega) (fun k e => by cases e; omega)) kr4)))
  clear r4 ki4 kr4 g4 H2
  have hl4 : w2.heap.size < w4.heap.size := by omega
  have hl5 : rb < w4.heap.size := by omega
  go_wp2_with fail
  refine wp_region_noPanic ?_
  refine wp_region_held_drew (S := fun w' => Blk w' w2.heap.size (cellsI X) 36 ∧ w'.cell? ⟨rb, 0, none⟩ = some (.int .i64 21)) (by kernel_rfl) ⟨H4.out.2.2.2, H4.out.1.ck.1⟩ (fun hH => ?_)
  refine wpAnyH_take (i := 0) (oi := _) (v := (.pointer (some ⟨rb, 0, none⟩))) rfl (by kernel_rfl) (by kernel_rfl) (by kernel_rfl) (fun _ _ _ h => h) (Or.inl ⟨by rfl, fun w' hw' => by go_simp⟩) hH ?_
  try simp only [Act.put, List.setIfInBounds_toArray, List.set_cons_zero, List.set_cons_succ]
  refine wpAnyH_take (i := 1) (oi := _) (v := (.pointer (some ⟨rb, 0, none⟩))) rfl (by kernel_rfl) (by kernel_rfl) (by kernel_rfl) (fun _ _ _ h => h) (Or.inl ⟨by rfl, fun w' hw' => by go_simp⟩) hH ?_
  try simp only [Act.put, List.setIfInBounds_toArray, List.set_cons_zero, List.set_cons_succ]
  refine wpAnyH_take (i := 2) (oi := _) (v := (.pointer (some ⟨rb, 0, none⟩))) rfl (by kernel_rfl) (by kernel_rfl) (by kernel_rfl) (fun _ _ _ h => h) (Or.inl ⟨by rfl, fun w' hw' => by go_simp⟩) hH ?_
  try simp only [Act.put, List.setIfInBounds_toArray, List.set_cons_zero, List.set_cons_succ]
  refine wpAnyH_take (i := 3) (oi := _) (v := .agg (cellsI X)) rfl (by kernel_rfl) (by kernel_rfl) (by kernel_rfl) (fun _ _ _ h => h) (yieldsIf_load_mid (by rfl) 36 _ rfl w2.heap.size 0 rfl (X.map (Value.int .i64)) _ (fun w' h => row_whole HXL.out h.1) Tryd.underlying36 rfl (by rw [List.length_map, ← cellsI_size, HZ.out]; exact info68)) hH ?_
  try simp only [Act.put, List.setIfInBounds_toArray, List.set_cons_zero, List.set_cons_succ]
  refine wpAnyH_take (i := 4) (oi := _) (v := (.pointer (some ⟨rb, 0, none⟩))) rfl (by kernel_rfl) (by kernel_rfl) (by kernel_rfl) (fun _ _ _ h => h) (Or.inl ⟨by rfl, fun w' hw' => by go_simp⟩) hH ?_
  try simp only [Act.put, List.setIfInBounds_toArray, List.set_cons_zero, List.set_cons_succ]
  refine wpAnyH_take (i := 5) (oi := _) (v := (.pointer (some ⟨rb, 0, none⟩))) rfl (by kernel_rfl) (by kernel_rfl) (by kernel_rfl) (fun _ _ _ h => h) (Or.inl ⟨by rfl, fun w' hw' => by go_simp⟩) hH ?_
  try simp only [Act.put, List.setIfInBounds_toArray, List.set_cons_zero, List.set_cons_succ]
  refine wpAnyH_take (i := 6) (oi := _) (v := (.pointer (some ⟨rb, 0, none⟩))) rfl (by kernel_rfl) (by kernel_rfl) (by kernel_rfl) (fun _ _ _ h => h) (Or.inl ⟨by rfl, fun w' hw' => by go_simp⟩) hH ?_
  try simp only [Act.put, List.setIfInBounds_toArray, List.set_cons_zero, List.set_cons_succ]
  refine wpAnyH_take (i := 7) (oi := _) (v := (.pointer (some ⟨rb, 0, none⟩))) rfl (by kernel_rfl) (by kernel_rfl) (by kernel_rfl) (fun _ _ _ h => h) (Or.inl ⟨by rfl, fun w' hw' => by go_simp⟩) hH ?_
  try simp only [Act.put, List.setIfInBounds_toArray, List.set_cons_zero, List.set_cons_succ]
  refine wpAnyH_take (i := 8) (oi := _) (v := .int .i64 21) rfl (by kernel_rfl) (by kernel_rfl) (by kernel_rfl) (fun _ _ _ h => h) (Or.inl ⟨by rfl, fun w' hw' => by have hc := hw'.2; clear hw'; go_simp⟩) hH ?_
  try simp only [Act.put, List.setIfInBounds_toArray, List.set_cons_zero, List.set_cons_succ]
  refine wpAnyH_ready (rs := [9]) (by kernel_rfl) (by simp) ?_
  refine AllReadyH.cons (o := _) rfl (fun K hK => ?_) AllReadyH.nil
  go_simp
  refine (HFF.out _).mono ?_
  rintro e w5 ⟨ev, rfl, hf5, b5⟩
  have s5 : Blk w5 w2.heap.size (cellsI X) 36 ∧ w5.cell? ⟨rb, 0, none⟩ = some (.int .i64 21) := ⟨Blk.below (w := w4.drew) H4.out.2.2.2 b5 hl4, (b5.cell (p := ⟨rb, 0, none⟩) hl5).trans H4.out.1.ck.1⟩
  have ck5 := H4.out.1.ck.below (((Below.refl _ _).drew).trans b5)
  have ki5 : Blk w5 w.heap.size (cellsI noFs) 36 := Blk.below (w := w4.drew) H4.out.2.1 b5 (by show w.heap.size < w4.heap.size; omega)
  have B5 := hide (H4.out.2.2.1.trans ((((Below.refl _ _).drew).trans b5).mono (by show w.heap.size ≤ w4.heap.size; omega)))
  have F5 := hide (hf5.mono (show lo ≤ w4.heap.size by omega))
  have hs5 : w4.heap.size ≤ w5.heap.size := b5.size
  have C5 := hide (And.intro ck5 (And.intro ki5 s5))
  clear hf5 b5 ck5 ki5
  refine hK.out _ _ s5 (fun hH5 => ?_)
  clear hK K hH s5
  try simp only [Act.put, List.setIfInBounds_toArray, List.set_cons_zero, List.set_cons_succ]
  refine wpAnyH_ready (rs := [10]) (by kernel_rfl) (by simp) ?_
  refine AllReadyH.cons (o := _) rfl (fun K hK => ?_) AllReadyH.nil
  go_simp
  refine (inside_both rb lo _ 21 _ _ ev _ C5.out.1 F5.out (by omega) (by omega)).mono ?_
  rintro e w6 ⟨rfl, hc6, ht6⟩
  have hs6 := ht6.1.size
  have s6 : Blk w6 w2.heap.size (cellsI X) 36 := (ht6.1.block _ (by omega) (by simp; omega)).trans C5.out.2.2.1
  have ki6 : Blk w6 w.heap.size (cellsI noFs) 36 := (ht6.1.block _ (by omega) (by simp; omega)).trans C5.out.2.1
  have B6 := hide (B5.out.grown ht6.1 (by omega) (fun k e => by cases e; omega))
  have K6 := hide (And.intro s6 ki6)
  have e6 := ht6.2.1 0 (by omega)
  refine hK.out _ _ ⟨s6, e6.trans C5.out.2.2.2⟩ (fun hH6 => ?_)
  clear hK K hH5 hH6 ht6 s6 ki6 e6 B5 F5 C5 H4
  try simp only [Act.put, List.setIfInBounds_toArray, List.set_cons_zero, List.set_cons_succ]
  refine wpAnyH_done (by kernel_rfl) (NoPanic.normal ?_) _
  have HOK := hide HOKF.out
  generalize (ok2 && ((((ys.drop p2).take (508 - p2)).all fun z => decide (z = 0)) && decide (ys.length = 508)) && RF) = okF at hc6 HOK
  clear HOKF
  obtain ⟨c1, c2, ev6, c3, c4⟩ := hc6
  clear c1 c2
  rcases c4 with ⟨rfl, rfl⟩ | ⟨rfl, m, c4⟩
  · have C3 := hide c3
    clear c3
    go_wp2_with fail
    refine wp_region_noPanic ?_
    refine wp_region_held_drew (S := fun w' => Blk w' w2.heap.size (cellsI X) 36 ∧ w'.cell? ⟨rb, 1, none⟩ = some (.nilIface)) (by kernel_rfl) ⟨K6.out.1, C3.out⟩ (fun hH => ?_)
    refine wpAnyH_take (i := 0) (oi := _) (v := .agg (cellsI X)) rfl (by kernel_rfl) (by kernel_rfl) (by kernel_rfl) (fun _ _ _ h => h) (yieldsIf_load_mid (by rfl) 36 _ rfl w2.heap.size 0 rfl (X.map (Value.int .i64)) _ (fun w' h => row_whole HXL.out h.1) Tryd.underlying36 rfl (by rw [List.length_map, ← cellsI_size, HZ.out]; exact info68)) hH ?_
    try simp only [Act.put, List.setIfInBounds_toArray, List.set_cons_zero, List.set_cons_succ]
    refine wpAnyH_take (i := 1) (oi := _) (v := (.pointer (some ⟨rb, 0, none⟩))) rfl (by kernel_rfl) (by kernel_rfl) (by kernel_rfl) (fun _ _ _ h => h) (Or.inl ⟨by rfl, fun w' hw' => by go_simp⟩) hH ?_
    try simp only [Act.put, List.setIfInBounds_toArray, List.set_cons_zero, List.set_cons_succ]
    refine wpAnyH_take (i := 2) (oi := _) (v := (.pointer (some ⟨rb, 0, none⟩))) rfl (by kernel_rfl) (by kernel_rfl) (by kernel_rfl) (fun _ _ _ h => h) (Or.inl ⟨by rfl, fun w' hw' => by go_simp⟩) hH ?_
    try simp only [Act.put, List.setIfInBounds_toArray, List.set_cons_zero, List.set_cons_succ]
    refine wpAnyH_take (i := 3) (oi := _) (v := (.pointer (some ⟨rb, 0, none⟩))) rfl (by kernel_rfl) (by kernel_rfl) (by kernel_rfl) (fun _ _ _ h => h) (Or.inl ⟨by rfl, fun w' hw' => by go_simp⟩) hH ?_
    try simp only [Act.put, List.setIfInBounds_toArray, List.set_cons_zero, List.set_cons_succ]
    refine wpAnyH_take (i := 4) (oi := _) (v := (.pointer (some ⟨rb, 1, none⟩))) rfl (by kernel_rfl) (by kernel_rfl) (by kernel_rfl) (fun _ _ _ h => h) (Or.inl ⟨by rfl, fun w' hw' => by go_simp⟩) hH ?_
    try simp only [Act.put, List.setIfInBounds_toArray, List.set_cons_zero, List.set_cons_succ]
    refine wpAnyH_take (i := 5) (oi := _) (v := .nilIface) rfl (by kernel_rfl) (by kernel_rfl) (by kernel_rfl) (fun _ _ _ h => h) (Or.inl ⟨by rfl, fun w' hw' => by have hc := hw'.2; clear hw'; go_simp⟩) hH ?_
    try simp only [Act.put, List.setIfInBounds_toArray, List.set_cons_zero, List.set_cons_succ]
    refine wpAnyH_ready (rs := [6]) (by kernel_rfl) (by simp) ?_
    refine AllReadyH.cons (o := _) rfl (fun K hK => ?_) AllReadyH.nil
    go_simp
    refine (toldF_ok X _ HXL.out).mono ?_
    rintro e w7 ⟨rfl, b7⟩
    have hl8 : w2.heap.size < w6.heap.size := K6.out.1.lt
    have hl9 : rb < w6.heap.size := by omega
    have s7 : Blk w7 w2.heap.size (cellsI X) 36 ∧ w7.cell? ⟨rb, 1, none⟩ = some (.nilIface) := ⟨Blk.below (w := w6.drew) K6.out.1 b7 hl8, (b7.cell (p := ⟨rb, 1, none⟩) hl9).trans C3.out⟩
    have kb7 : Blk w7 w.heap.size (cellsI noFs) 36 := Blk.below (w := w6.drew) K6.out.2 b7 (by show w.heap.size < w6.heap.size; omega)
    have HF := hide (And.intro kb7 (And.intro (kb7.row (cellsI X)) (below_setRow (B6.out.trans ((((Below.refl _ w6).drew).trans b7).mono (by show w.heap.size ≤ w6.heap.size; omega))) (Nat.le_refl _) (cellsI X))))
    have HZ2 := hide (show (cellsI X).size = 68 from by rw [cellsI_size]; exact HXL.out)
    clear kb7 b7
    refine hK.out _ _ s7 (fun hH => ?_)
    clear hK K s7
    try simp only [Act.put, List.setIfInBounds_toArray, List.set_cons_zero, List.set_cons_succ]
    refine wpAnyH_take (i := 7) (oi := _) (v := .agg (cellsI X)) rfl (by kernel_rfl) (by kernel_rfl) (by kernel_rfl) (fun _ _ _ h => h) (Or.inl ⟨by rfl, fun w' hw' => by go_simp⟩) hH ?_
    try simp only [Act.put, List.setIfInBounds_toArray, List.set_cons_zero, List.set_cons_succ]
    refine wpAnyH_take (i := 8) (oi := _) (v := .int .i64 0) rfl (by kernel_rfl) (by kernel_rfl) (by kernel_rfl) (fun _ _ _ h => h) (Or.inl ⟨by rfl, fun w' hw' => by go_simp⟩) hH ?_
    try simp only [Act.put, List.setIfInBounds_toArray, List.set_cons_zero, List.set_cons_succ]
    refine wpAnyH_ready (rs := [9]) (by kernel_rfl) (by simp) ?_
    refine AllReadyH.cons (o := _) rfl (fun K hK => ?_) AllReadyH.nil
    rw [if_pos (by rfl)]
    refine wp_store_row 36 _ _ rfl w.heap.size (cellsI X) rfl rfl 36 _ HF.out.1 (by rw [HZ2.out]; exact info68) (by first | (rw [HZ2.out]; done) | (rw [HZ2.out]; rfl)) (cellsI_one _) ?_
    refine hK.out _ _ ⟨(setRow_block _ _ _ _ (by omega)).trans hH.1, (World.cell?_of_block (a := ⟨rb, 1, none⟩) (setRow_block _ _ _ _ (by show rb ≠ w.heap.size; omega))).trans hH.2⟩ (fun hH9 => ?_)
    clear hK K
    try simp only [Act.put, List.setIfInBounds_toArray, List.set_cons_zero, List.set_cons_succ]
    refine wpAnyH_ready (rs := [10]) (by kernel_rfl) (by simp) ?_
    refine AllReadyH.cons (o := _) rfl (fun K hK => ?_) AllReadyH.nil
    go_simp
    refine hK.out _ _ hH9 (fun hH10 => ?_)
    clear hK K
    try simp only [Act.put, List.setIfInBounds_toArray, List.set_cons_zero, List.set_cons_succ]
    refine wpAnyH_done (by kernel_rfl) (NoPanic.normal ?_) _
    clear hH hH9 hH10
    go_wp2
    refine bodyPost_ret (v := .tuple #[.agg (cellsI X), .int .i64 0]) ?_ rfl ⟨X, true, HOK.out, rfl, HF.out.2.2⟩
    exact results_row_tmp rfl _ _ w.heap.size 36 (cellsI X) (0, 0) _ _ rfl rfl HF.out.2.1 Tryd.underlying36 rfl (by rw [HZ2.out]; exact info68)
  · have H6f := hide c4
    obtain ⟨t', x', rfl⟩ := c4.iface
    clear c4
    have C3 := hide c3
    clear c3
    go_wp2_with fail
    refine wp_region_noPanic ?_
    refine wp_region_held_drew (S := fun w' => Blk w' w2.heap.size (cellsI X) 36 ∧ w'.cell? ⟨rb, 1, none⟩ = some (.iface t' (.pointer (some x')))) (by kernel_rfl) ⟨K6.out.1, C3.out⟩ (fun hH => ?_)
    refine wpAnyH_take (i := 0) (oi := _) (v := .agg (cellsI X)) rfl (by kernel_rfl) (by kernel_rfl) (by kernel_rfl) (fun _ _ _ h => h) (yieldsIf_load_mid (by rfl) 36 _ rfl w2.heap.size 0 rfl (X.map (Value.int .i64)) _ (fun w' h => row_whole HXL.out h.1) Tryd.underlying36 rfl (by rw [List.length_map, ← cellsI_size, HZ.out]; exact info68)) hH ?_
    try simp only [Act.put, List.setIfInBounds_toArray, List.set_cons_zero, List.set_cons_succ]
    refine wpAnyH_take (i := 1) (oi := _) (v := (.pointer (some ⟨rb, 0, none⟩))) rfl (by kernel_rfl) (by kernel_rfl) (by kernel_rfl) (fun _ _ _ h => h) (Or.inl ⟨by rfl, fun w' hw' => by go_simp⟩) hH ?_
    try simp only [Act.put, List.setIfInBounds_toArray, List.set_cons_zero, List.set_cons_succ]
    refine wpAnyH_take (i := 2) (oi := _) (v := (.pointer (some ⟨rb, 0, none⟩))) rfl (by kernel_rfl) (by kernel_rfl) (by kernel_rfl) (fun _ _ _ h => h) (Or.inl ⟨by rfl, fun w' hw' => by go_simp⟩) hH ?_
    try simp only [Act.put, List.setIfInBounds_toArray, List.set_cons_zero, List.set_cons_succ]
    refine wpAnyH_take (i := 3) (oi := _) (v := (.pointer (some ⟨rb, 0, none⟩))) rfl (by kernel_rfl) (by kernel_rfl) (by kernel_rfl) (fun _ _ _ h => h) (Or.inl ⟨by rfl, fun w' hw' => by go_simp⟩) hH ?_
    try simp only [Act.put, List.setIfInBounds_toArray, List.set_cons_zero, List.set_cons_succ]
    refine wpAnyH_take (i := 4) (oi := _) (v := (.pointer (some ⟨rb, 1, none⟩))) rfl (by kernel_rfl) (by kernel_rfl) (by kernel_rfl) (fun _ _ _ h => h) (Or.inl ⟨by rfl, fun w' hw' => by go_simp⟩) hH ?_
    try simp only [Act.put, List.setIfInBounds_toArray, List.set_cons_zero, List.set_cons_succ]
    refine wpAnyH_take (i := 5) (oi := _) (v := .iface t' (.pointer (some x'))) rfl (by kernel_rfl) (by kernel_rfl) (by kernel_rfl) (fun _ _ _ h => h) (Or.inl ⟨by rfl, fun w' hw' => by have hc := hw'.2; clear hw'; go_simp⟩) hH ?_
    try simp only [Act.put, List.setIfInBounds_toArray, List.set_cons_zero, List.set_cons_succ]
    refine wpAnyH_ready (rs := [6]) (by kernel_rfl) (by simp) ?_
    refine AllReadyH.cons (o := _) rfl (fun K hK => ?_) AllReadyH.nil
    go_simp
    refine (toldF_bad X _ m _ 21 _ HXL.out (H6f.out.below ((Below.refl _ _).drew)) ((HR.out.2.below B6.out).below ((Below.refl _ _).drew))).mono ?_
    rintro e w7 ⟨rfl, b7⟩
    have hl8 : w2.heap.size < w6.heap.size := K6.out.1.lt
    have hl9 : rb < w6.heap.size := by omega
    have s7 : Blk w7 w2.heap.size (cellsI X) 36 ∧ w7.cell? ⟨rb, 1, none⟩ = some (.iface t' (.pointer (some x'))) := ⟨Blk.below (w := w6.drew) K6.out.1 b7 hl8, (b7.cell (p := ⟨rb, 1, none⟩) hl9).trans C3.out⟩
    have kb7 : Blk w7 w.heap.size (cellsI noFs) 36 := Blk.below (w := w6.drew) K6.out.2 b7 (by show w.heap.size < w6.heap.size; omega)
    have HF := hide (And.intro kb7 (And.intro (kb7.row (cellsI noFs)) (below_setRow (B6.out.trans ((((Below.refl _ w6).drew).trans b7).mono (by show w.heap.size ≤ w6.heap.size; omega))) (Nat.le_refl _) (cellsI noFs))))
    have HZ2 := hide (show (cellsI noFs).size = 68 from rfl)
    clear kb7 b7
    refine hK.out _ _ s7 (fun hH => ?_)
    clear hK K s7
    try simp only [Act.put, List.setIfInBounds_toArray, List.set_cons_zero, List.set_cons_succ]
    refine wpAnyH_take (i := 7) (oi := _) (v := .agg (cellsI noFs)) rfl (by kernel_rfl) (by kernel_rfl) (by kernel_rfl) (fun _ _ _ h => h) (Or.inl ⟨by rfl, fun w' hw' => by go_simp⟩) hH ?_
    try simp only [Act.put, List.setIfInBounds_toArray, List.set_cons_zero, List.set_cons_succ]
    refine wpAnyH_take (i := 8) (oi := _) (v := .int .i64 21) rfl (by kernel_rfl) (by kernel_rfl) (by kernel_rfl) (fun _ _ _ h => h) (Or.inl ⟨by rfl, fun w' hw' => by go_simp⟩) hH ?_
    try simp only [Act.put, List.setIfInBounds_toArray, List.set_cons_zero, List.set_cons_succ]
    refine wpAnyH_ready (rs := [9]) (by kernel_rfl) (by simp) ?_
    refine AllReadyH.cons (o := _) rfl (fun K hK => ?_) AllReadyH.nil
    rw [if_pos (by rfl)]
    refine wp_store_row 36 _ _ rfl w.heap.size (cellsI noFs) rfl rfl 36 _ HF.out.1 (by rw [HZ2.out]; exact info68) (by first | (rw [HZ2.out]; done) | (rw [HZ2.out]; rfl)) (cellsI_one _) ?_
    refine hK.out _ _ ⟨(setRow_block _ _ _ _ (by omega)).trans hH.1, (World.cell?_of_block (a := ⟨rb, 1, none⟩) (setRow_block _ _ _ _ (by show rb ≠ w.heap.size; omega))).trans hH.2⟩ (fun hH9 => ?_)
    clear hK K
    try simp only [Act.put, List.setIfInBounds_toArray, List.set_cons_zero, List.set_cons_succ]
    refine wpAnyH_ready (rs := [10]) (by kernel_rfl) (by simp) ?_
    refine AllReadyH.cons (o := _) rfl (fun K hK => ?_) AllReadyH.nil
    go_simp
    refine hK.out _ _ hH9 (fun hH10 => ?_)
    clear hK K
    try simp only [Act.put, List.setIfInBounds_toArray, List.set_cons_zero, List.set_cons_succ]
    refine wpAnyH_done (by kernel_rfl) (NoPanic.normal ?_) _
    clear hH hH9 hH10
    go_wp2
    refine bodyPost_ret (v := .tuple #[.agg (cellsI noFs), .int .i64 21]) ?_ rfl ⟨X, false, HOK.out, rfl, HF.out.2.2⟩
    exact results_row_tmp rfl _ _ w.heap.size 36 (cellsI noFs) (0, 0) _ _ rfl rfl HF.out.2.1 Tryd.underlying36 rfl (by rw [HZ2.out]; exact info68)
end Go.Proofs.YtkaennkfieebmaaDoor
