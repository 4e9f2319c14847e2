/- The program's look at a root, whole: rootFault. The program opens a tree: openTree, readTree, TreeRead. -/
import Derived.Test.YtkbbnflblkkepaaGreatDoorZm11
import Derived.Test.YtkbbnflblkkepaaGreatDoorZm16
namespace Go.Proofs.YtkbbnflblkkepaaGreatDoor
set_option linter.unusedVariables false
set_option linter.unusedSimpArgs false
open Go.RowKit

theorem Kp.below {w wr w' : World} {C : Array Value} {t : TypeId} {code : Int} {ok : Bool} (h : Kp w wr C t code ok) (hb : Below wr.heap.size wr w') : Kp w w' C t code ok :=
  ⟨h.blk.below hb h.blk.lt, h.ck.below hb, h.old.trans (hb.mono h.old.size)⟩

theorem inside_fault (w wr w1 : World) (C : Array Value) (t : TypeId) (code : Int) (ok ok1 : Bool) (place : ByteArray) (ev : Value) (h : Kp w w1 C t code ok) (hlo : w.heap.size + 1 + 1 ≤ wr.heap.size) (hs : wr.heap.size ≤ w1.heap.size) (hf : FaultIs w1 wr.heap.size ok1 ev code) :
    Calls Tryz.prog 39 #[.pointer (some ⟨w.heap.size + 1, 0, none⟩), .string place, ev] w1 fun e w' => e = .returned (.tuple #[]) ∧ Kp w w' C t code (ok && ok1) := by
  rcases hf with ⟨rfl, rfl⟩ | ⟨rfl, m, hm⟩
  · refine (inside_nil (w.heap.size + 1) _ place code ok w1 h.ck).mono ?_
    rintro e w' ⟨rfl, rfl⟩
    exact ⟨rfl, by simpa using h⟩
  · refine (inside_any (w.heap.size + 1) (w.heap.size + 1 + 1) place code ok m ev w1 h.ck (hm.mono hlo) (by omega) h.lo).mono ?_
    rintro e w' ⟨rfl, hc, ht⟩
    exact ⟨rfl, by rw [Bool.and_false]; exact h.tch hc ht⟩

def dirsB (ds : List Int) (y : Int) (n : Nat) : Bool := (List.range n).all fun i => decide (ds.getD i 0 = 0) || decide ((i : Int) < y)
theorem dirsB_succ (ds : List Int) (y : Int) (n : Nat) : dirsB ds y (n + 1) = (dirsB ds y n && (decide (ds.getD n 0 = 0) || decide ((n : Int) < y))) := by simp [dirsB, List.range_succ]

set_option maxRecDepth 100000 in
set_option maxHeartbeats 2000000 in
theorem rootFault_any (s : Int) (ds : List Int) (p q code : Int) (w : World) (hd : ds.length = 12) :
    Calls Tryz.prog 74 #[.agg (cellsI (rootI s ds p q)), .int .i64 code] w fun e w' => ∃ ev, e = .returned ev ∧ FaultIs w' w.heap.size (rightR s ds p q) ev code ∧ Below w.heap.size w w' := by
  have HD := hide hd
  have HZ := hide (show (cellsI (rootI s ds p q)).size = 15 from by rw [cellsI_size]; exact rootI_len s ds p q HD.out)
  have kB := (Blk.new w (cellsI (rootI s ds p q)) 34).alloc (.cells #[.int .i64 code, .nilIface] 99)
  have kC := Ck.fresh (w.alloc (.cells (cellsI (rootI s ds p q)) 34)) code 99
  rw [World.size_alloc] at kC
  have hb0 : Below w.heap.size w ((w.alloc (.cells (cellsI (rootI s ds p q)) 34)).alloc (.cells #[.int .i64 code, .nilIface] 99)) := ((Below.refl _ _).alloc (Nat.le_refl _) _).alloc (by simp) _
  have HX := hide (fun k hk w => index12 ds k HD.out hk w)
  have K := hide (show Kp w ((w.alloc (.cells (cellsI (rootI s ds p q)) 34)).alloc (.cells #[.int .i64 code, .nilIface] 99)) (cellsI (rootI s ds p q)) 34 code true from ⟨kB, kC, hb0⟩)
  have c0 : ∀ o1, ((w.alloc (.cells (cellsI (rootI s ds p q)) 34)).alloc o1).cell? ⟨w.heap.size, 0, none⟩ = some (.int .i64 s) := fun o1 => by
    rw [((Blk.new w _ _).alloc o1).cell 0]; rfl
  have HS := hide (show (cellsI (rootI s ds p q))[0]? = some (.int .i64 s) from rfl)
  clear hd kB kC hb0
  go_enter Tryz.func74, Tryz.ntmps74
  go_wp2_with (go_at_call 69; fail)
  refine (within_any (w.heap.size + 1) (w.heap.size + 1 + 1) _ code s 0 262144 true _ K.out.ck (by omega) K.out.lo).mono ?_
  rintro e w1 ⟨rfl, hc1, ht1⟩
  rw [Bool.true_and] at hc1
  have H1 := hide (K.out.tch hc1 ht1)
  clear hc1 ht1 K c0
  go_wp2_with (first | (refine wpList_load_row rfl 34 _ rfl w.heap.size rfl 34 (cellsI (rootI s ds p q)) (0, 0) _ H1.out.blk Tryz.underlying34 rfl (by rw [HZ.out]; exact info15) ?_) | (go_at_call 73; fail))
  refine (pointersFault_any s ds p q 2048 code _ HD.out).mono ?_
  rintro e w2 ⟨ev2, rfl, hf2, hb2⟩
  have H2 := hide (And.intro (H1.out.below hb2) (And.intro hf2 (And.intro H1.out.lo hb2.size)))
  clear hf2 hb2
  go_wp2_with fail
  refine (inside_fault w w1 w2 _ _ code _ _ _ ev2 H2.out.1 H2.out.2.2.1 H2.out.2.2.2 H2.out.2.1).mono ?_
  rintro e w3 ⟨rfl, hk3⟩
  have H3 := hide hk3
  have c3 := (H3.out.blk.cell 0).trans HS.out
  have HR := hide (show w3.rangeAt w.heap.size 1 (ds.map (Value.int .i64)) from by
    have hr := H3.out.blk.range 1 12 (by rw [rootI_len _ _ _ _ HD.out]; omega)
    rw [root_range _ _ _ _ HD.out] at hr
    exact hr)
  clear hk3 H1 H2
  go_wp2_with (go_at_call 95; fail)
  refine (blocksOf_out s _).mono ?_
  rintro e w3' ⟨⟨y, rfl, hy⟩, rfl⟩
  have HY := hide (right_eq s ds p q y HD.out hy)
  clear hy c3
  go_wp2_with (refine wpList_load_mid rfl 32 _ rfl w.heap.size 1 rfl (ds.map (Value.int .i64)) _ HR.out Tryz.underlying32 rfl (by rw [List.length_map, HD.out]; exact info12) ?_)
  go_loopw [23] (fun i wr => ∃ k : Nat, k ≤ 12 ∧ i = .int .i64 k ∧ Kp w wr (cellsI (rootI s ds p q)) 34 code (((decide (0 ≤ s) && decide (s ≤ 262144)) && ptrsB ds p q 2048) && dirsB ds y k)) (fun i _ => 12 - (intOf i).toNat)
  case atStart => exact ⟨0, by omega, rfl, by have h := H3.out; simpa [dirsB] using h⟩
  case round =>
    obtain ⟨k, hk, rfl, hkp⟩ := hrel
    have HK := hide hkp
    clear hkp H3 HR
    by_cases hlt : k < 12
    · have hix : ∀ w, (Instr.index 32 (.agg (ds.map (Value.int .i64)).toArray) (.int .i64 k)).run Tryz.prog w = .ok (.int .i64 (ds.getD k 0)) w := fun w => HX.out k hlt w
      have HT := hide (dirsB_succ ds y k)
      generalize ds.getD k 0 = z at hix HT
      by_cases hz : z = 0
      · have hz0 : (z == 0) = true := by simp [hz]
        have HZ0 := hide (show (decide (z = 0) || decide ((k : Int) < y)) = true from by simp [hz])
        clear hz
        go_wp2_with (go_at_call 50; refine (need_any (w.heap.size + 1) (w.heap.size + 1 + 1) _ code _ true _ HK.out.ck (by omega) HK.out.lo).mono ?_; rintro e w4 ⟨rfl, hc4, ht4⟩)
        have H4 := hide (HK.out.tch hc4 ht4)
        clear hc4 ht4
        go_roundw
        case rel => exact ⟨k + 1, by omega, by go_num, by rw [HT.out, HZ0.out, ← Bool.and_assoc]; exact H4.out⟩
        case measure => simp [intOf]; omega
      · have hz0 : (z == 0) = false := by simp [hz]
        have HZ0 := hide (show (decide (z = 0) || decide ((k : Int) < y)) = decide ((k : Int) < y) from by simp [hz])
        clear hz
        go_wp2_with (go_at_call 50; refine (need_any (w.heap.size + 1) (w.heap.size + 1 + 1) _ code _ (decide ((k : Int) < y)) _ HK.out.ck (by omega) HK.out.lo).mono ?_; rintro e w4 ⟨rfl, hc4, ht4⟩)
        have H4 := hide (HK.out.tch hc4 ht4)
        clear hc4 ht4
        go_roundw
        case rel => exact ⟨k + 1, by omega, by go_num, by rw [HT.out, HZ0.out, ← Bool.and_assoc]; exact H4.out⟩
        case measure => simp [intOf]; omega
    · have e12 : k = 12 := by omega
      subst e12
      have a13 := (HK.out.blk.cell 13).trans (rootI_get13 s ds p q HD.out)
      by_cases hp0 : p = 0
      · by_cases hq0 : q = 0
        · have hp1 : (p == 0) = true := by simp [hp0]
          have hq1 : (q == 0) = true := by simp [hq0]
          have HP := hide (show (decide (p = 0) || decide (12 < y)) = true from by simp [hp0])
          have HQ := hide (show (decide (q = 0) || decide (140 < y)) = true from by simp [hq0])
          clear hp0 hq0
          go_wp2_with (go_at_call 50; fail)
          refine (need_any (w.heap.size + 1) (w.heap.size + 1 + 1) _ code _ true _ HK.out.ck (by omega) HK.out.lo).mono ?_
          rintro e w5 ⟨rfl, hc5, ht5⟩
          have H5 := hide (HK.out.tch hc5 ht5)
          have a14 := (H5.out.blk.cell 14).trans (rootI_get14 s ds p q HD.out)
          clear hc5 ht5 a13
          go_wp2_with (go_at_call 50; fail)
          refine (need_any (w.heap.size + 1) (w.heap.size + 1 + 1) _ code _ true _ H5.out.ck (by omega) H5.out.lo).mono ?_
          rintro e w6 ⟨rfl, hc6, ht6⟩
          have H6 := hide (H5.out.tch hc6 ht6)
          obtain ⟨ev, c6, hf6⟩ := H6.out.fault
          have HF := hide (show FaultIs w6 w.heap.size (rightR s ds p q) ev code from by rw [← HY.out]; unfold rightI; rw [HP.out, HQ.out]; exact hf6)
          clear hc6 ht6 a14 hf6
          go_wp2
          go_ret
          exact ⟨ev, rfl, HF.out, H6.out.old⟩
        · have hp1 : (p == 0) = true := by simp [hp0]
          have hq1 : (q == 0) = false := by simp [hq0]
          have HP := hide (show (decide (p = 0) || decide (12 < y)) = true from by simp [hp0])
          have HQ := hide (show (decide (q = 0) || decide (140 < y)) = (decide (140 < y)) from by simp [hq0])
          clear hp0 hq0
          go_wp2_with (go_at_call 50; fail)
          refine (need_any (w.heap.size + 1) (w.heap.size + 1 + 1) _ code _ true _ HK.out.ck (by omega) HK.out.lo).mono ?_
          rintro e w5 ⟨rfl, hc5, ht5⟩
          have H5 := hide (HK.out.tch hc5 ht5)
          have a14 := (H5.out.blk.cell 14).trans (rootI_get14 s ds p q HD.out)
          clear hc5 ht5 a13
          go_wp2_with (go_at_call 50; fail)
          refine (need_any (w.heap.size + 1) (w.heap.size + 1 + 1) _ code _ (decide (140 < y)) _ H5.out.ck (by omega) H5.out.lo).mono ?_
          rintro e w6 ⟨rfl, hc6, ht6⟩
          have H6 := hide (H5.out.tch hc6 ht6)
          obtain ⟨ev, c6, hf6⟩ := H6.out.fault
          have HF := hide (show FaultIs w6 w.heap.size (rightR s ds p q) ev code from by rw [← HY.out]; unfold rightI; rw [HP.out, HQ.out]; exact hf6)
          clear hc6 ht6 a14 hf6
          go_wp2
          go_ret
          exact ⟨ev, rfl, HF.out, H6.out.old⟩
      · by_cases hq0 : q = 0
        · have hp1 : (p == 0) = false := by simp [hp0]
          have hq1 : (q == 0) = true := by simp [hq0]
          have HP := hide (show (decide (p = 0) || decide (12 < y)) = (decide (12 < y)) from by simp [hp0])
          have HQ := hide (show (decide (q = 0) || decide (140 < y)) = true from by simp [hq0])
          clear hp0 hq0
          go_wp2_with (go_at_call 50; fail)
          refine (need_any (w.heap.size + 1) (w.heap.size + 1 + 1) _ code _ (decide (12 < y)) _ HK.out.ck (by omega) HK.out.lo).mono ?_
          rintro e w5 ⟨rfl, hc5, ht5⟩
          have H5 := hide (HK.out.tch hc5 ht5)
          have a14 := (H5.out.blk.cell 14).trans (rootI_get14 s ds p q HD.out)
          clear hc5 ht5 a13
          go_wp2_with (go_at_call 50; fail)
          refine (need_any (w.heap.size + 1) (w.heap.size + 1 + 1) _ code _ true _ H5.out.ck (by omega) H5.out.lo).mono ?_
          rintro e w6 ⟨rfl, hc6, ht6⟩
          have H6 := hide (H5.out.tch hc6 ht6)
          obtain ⟨ev, c6, hf6⟩ := H6.out.fault
          have HF := hide (show FaultIs w6 w.heap.size (rightR s ds p q) ev code from by rw [← HY.out]; unfold rightI; rw [HP.out, HQ.out]; exact hf6)
          clear hc6 ht6 a14 hf6
          go_wp2
          go_ret
          exact ⟨ev, rfl, HF.out, H6.out.old⟩
        · have hp1 : (p == 0) = false := by simp [hp0]
          have hq1 : (q == 0) = false := by simp [hq0]
          have HP := hide (show (decide (p = 0) || decide (12 < y)) = (decide (12 < y)) from by simp [hp0])
          have HQ := hide (show (decide (q = 0) || decide (140 < y)) = (decide (140 < y)) from by simp [hq0])
          clear hp0 hq0
          go_wp2_with (go_at_call 50; fail)
          refine (need_any (w.heap.size + 1) (w.heap.size + 1 + 1) _ code _ (decide (12 < y)) _ HK.out.ck (by omega) HK.out.lo).mono ?_
          rintro e w5 ⟨rfl, hc5, ht5⟩
          have H5 := hide (HK.out.tch hc5 ht5)
          have a14 := (H5.out.blk.cell 14).trans (rootI_get14 s ds p q HD.out)
          clear hc5 ht5 a13
          go_wp2_with (go_at_call 50; fail)
          refine (need_any (w.heap.size + 1) (w.heap.size + 1 + 1) _ code _ (decide (140 < y)) _ H5.out.ck (by omega) H5.out.lo).mono ?_
          rintro e w6 ⟨rfl, hc6, ht6⟩
          have H6 := hide (H5.out.tch hc6 ht6)
          obtain ⟨ev, c6, hf6⟩ := H6.out.fault
          have HF := hide (show FaultIs w6 w.heap.size (rightR s ds p q) ev code from by rw [← HY.out]; unfold rightI; rw [HP.out, HQ.out]; exact hf6)
          clear hc6 ht6 a14 hf6
          go_wp2
          go_ret
          exact ⟨ev, rfl, HF.out, H6.out.old⟩
end Go.Proofs.YtkbbnflblkkepaaGreatDoor

namespace Go.Proofs.YtkbbnflblkkepaaGreatDoor
set_option linter.unusedVariables false
set_option linter.unusedSimpArgs false
open Go.RowKit

theorem fold_setT (off : Nat) : ∀ (vs : List Value) (n : Nat) (L : List Value), off + n + vs.length ≤ L.length →
    ((vs.zipIdx n).foldl (fun (cs : Array Value) (p : Value × Nat) => cs.setIfInBounds (off + p.2) p.1) L.toArray) = (L.take (off + n) ++ vs ++ L.drop (off + n + vs.length)).toArray
  | [], n, L, h => by simp
  | v :: vs, n, L, h => by
    have hlt : off + n < L.length := by simp at h; omega
    rw [List.zipIdx_cons, List.foldl_cons]
    have e : L.toArray.setIfInBounds (off + n) v = (L.take (off + n) ++ v :: L.drop (off + n + 1)).toArray := by
      rw [List.setIfInBounds_toArray, List.set_eq_take_append_cons_drop, if_pos hlt]
    rw [e, fold_setT off vs (n + 1) _ (by simp at h ⊢; omega)]
    have hl : (L.take (off + n)).length = off + n := by rw [List.length_take]; omega
    have e1 : (L.take (off + n) ++ v :: L.drop (off + n + 1)).take (off + (n + 1)) = L.take (off + n) ++ [v] := by
      rw [List.take_append, hl, List.take_of_length_le (by omega), show off + (n + 1) - (off + n) = 1 by omega]
      rfl
    have e2 : (L.take (off + n) ++ v :: L.drop (off + n + 1)).drop (off + (n + 1) + vs.length) = L.drop (off + n + (v :: vs).length) := by
      rw [List.drop_append, hl, List.drop_of_length_le (by omega), List.nil_append, show off + (n + 1) + vs.length - (off + n) = vs.length + 1 by omega, List.drop_succ_cons, List.drop_drop]
      congr 1
      simp
      omega
    rw [e1, e2]
    simp
theorem fill_oneT (p : Nat → Option (Nat × Nat)) (i off : Nat) (v : Value) (vs L : List Value) (rest : List (Nat × Value)) (hp : p i = some (off, vs.length)) (hv : v.cells = vs.toArray) (hl : off + vs.length ≤ L.length) :
    Instr.fill p L.toArray ((i, v) :: rest) = Instr.fill p (L.take off ++ vs ++ L.drop (off + vs.length)).toArray rest := by
  have hf : (vs.toArray.zipIdx.foldl (fun (cs : Array Value) (p : Value × Nat) => cs.setIfInBounds (off + p.2) p.1) L.toArray) = (L.take off ++ vs ++ L.drop (off + vs.length)).toArray := by
    rw [← Array.foldl_toList, Array.toList_zipIdx]
    exact fold_setT off vs 0 L (by omega)
  rw [Instr.fill, hp]
  simp only [hv]
  rw [if_neg (by simp; omega)]
  rw [← hf]
/-- The cells of a tree. -/
def treT (img : Value) (X : List Int) : Array Value := ([img] ++ X.map (Value.int .i64)).toArray
def placesT : List (Nat × Nat) := [(0, 1), (1, 15)]
def zeroTT : List Value := [Value.slice none 0 0] ++ (List.replicate 15 (0 : Int)).map (Value.int .i64)
theorem built_partsT (parts : List (Nat × Value)) : Tryz.prog.built 165 parts = Instr.fill (placesT.toArray[·]?) zeroTT.toArray parts := by kernel_rfl
theorem built_tre (a : Option Addr) (n c : Nat) (X : List Int) (hX : X.length = 15) : Tryz.prog.built 165 [(0, .slice a n c), (1, .agg (cellsI X))] = some (treT (.slice a n c) X) := by
  rw [built_partsT]
  rw [fill_oneT _ 0 0 (.slice a n c) [.slice a n c] zeroTT _ rfl rfl (by simp [zeroTT])]
  have e1 : zeroTT.take 0 ++ [Value.slice a n c] ++ zeroTT.drop (0 + [Value.slice a n c].length) = [Value.slice a n c] ++ (List.replicate 15 (0 : Int)).map (Value.int .i64) := rfl
  rw [e1]
  rw [fill_oneT _ 1 1 (.agg (cellsI X)) (X.map (Value.int .i64)) _ _ (by rw [List.length_map, hX]; rfl) rfl (by simp [hX])]
  have e2 : ([Value.slice a n c] ++ (List.replicate 15 (0 : Int)).map (Value.int .i64)).take 1 ++ X.map (Value.int .i64) ++ ([Value.slice a n c] ++ (List.replicate 15 (0 : Int)).map (Value.int .i64)).drop (1 + (X.map (Value.int .i64)).length) = [Value.slice a n c] ++ X.map (Value.int .i64) := by
    rw [List.length_map, hX]
    simp
  rw [e2, Instr.fill]
  rfl
theorem run_buildT {P : Program} {o : Oper} {a : Act} {w : World} (t : TypeId) (parts : Array (Nat × Operand)) (ho : o.op = .build t parts) (cells : Array Value) (hf : P.built t (parts.map fun (i, x) => (i, a.eval x)).toList = some cells) : (execOp a.eval o).run P w = .ok (.value (.agg cells)) w := by
  unfold execOp
  simp only [ho, Sem.run_bind, run_build w t _ cells hf, Result.andThen_ok]
  rfl
theorem allocTrT (w : World) : (Instr.alloc 165 true (.tuple #[])).run Tryz.prog w = .ok (.pointer (some ⟨w.heap.size, 0, none⟩)) (w.alloc (.cells zeroTT.toArray 165)) := by kernel_rfl
theorem letTr : ∃ Z : Array Value, Z.size = 16 ∧ ∀ (ρ : Operand → Value) (o : Oper) (w : World), o.op = .alloc 165 → (execOp ρ o).run Tryz.prog w = .ok (.value (.pointer (some ⟨w.heap.size, 0, none⟩))) (w.alloc (.cells Z 165)) :=
  ⟨zeroTT.toArray, rfl, fun ρ o w ho => by simp [execOp, ho, allocTrT, Result.andThen]⟩
theorem treT_one {a : Option Addr} {n c : Nat} (X : List Int) : (treT (.slice a n c) X).all (·.oneCell') = true := by simp [treT, Value.oneCell']
theorem treT_size (img : Value) (X : List Int) (hX : X.length = 15) : (treT img X).size = 16 := by simp [treT, hX]
set_option maxRecDepth 100000 in
set_option maxHeartbeats 2000000 in
theorem openTree_any (img : Value) (zs : List Int) (s : Int) (ds : List Int) (p q : Int) (w : World) (h : Rd .u8 w img zs) (hz : zs.length ≤ 1048576) (hd : ds.length = 12) :
    Calls Tryz.prog 83 #[img, .agg (cellsI (rootI s ds p q))] w fun e w' => ∃ ev, e = .returned (.tuple #[.agg (treT img (rootI s ds p q)), ev]) ∧ FaultIs w' 0 (szOk zs.length && rightR s ds p q) ev 7 ∧ Below w.heap.size w w' := by
  obtain ⟨sa, sc, rfl⟩ := rd_shapeT h
  have HR := hide (And.intro h hd)
  have hRl := rootI_len s ds p q hd
  have HBu := hide (built_tre sa zs.length sc (rootI s ds p q) hRl)
  have HZ := hide (show (cellsI (rootI s ds p q)).size = 15 from by rw [cellsI_size]; exact hRl)
  have HTs := hide (treT_size (.slice sa zs.length sc) _ hRl)
  clear h hd hRl
  go_enter Tryz.func83, Tryz.ntmps83
  go_upto_region 2 with fail
  generalize hW1 : World.alloc _ (Obj.cells #[.int .i64 7, .nilIface] 99) = W1
  have HW := hide (show ∃ Z0 : Array Value, Z0.size = 16 ∧ Blk W1 w.heap.size (cellsI (rootI s ds p q)) 34 ∧ Blk W1 (w.heap.size + 1) Z0 165 ∧ Ck W1 (w.heap.size + 2) (w.heap.size + 3) 7 true ∧ Below w.heap.size w W1 ∧ W1.heap.size = w.heap.size + 3 from by
    rw [← hW1]
    refine ⟨zeroTT.toArray, rfl, ((Blk.new w _ _).alloc _).alloc _, ?_, ?_, ?_, ?_⟩
    · have h := Blk.new (w.alloc (.cells (cellsI (rootI s ds p q)) 34)) zeroTT.toArray 165
      rw [World.size_alloc] at h
      exact h.alloc _
    · have h := Ck.fresh ((w.alloc (.cells (cellsI (rootI s ds p q)) 34)).alloc (.cells zeroTT.toArray 165)) 7 99
      rw [World.size_alloc, World.size_alloc] at h
      exact h
    · exact (((Below.refl _ _).alloc (Nat.le_refl _) _).alloc (by simp) _).alloc (by simp; omega) _
    · simp)
  clear hW1
  obtain ⟨Z0, hZ0, k0, k1, ck, bb, hs1⟩ := HW.out
  have H1 := hide (And.intro hZ0 (And.intro k0 (And.intro k1 (And.intro ck (And.intro bb hs1)))))
  clear HW hZ0 k0 k1 ck bb hs1
  go_upto_region 3 with (first
    | (go_at_call 24; refine (rightInSize_any _ zs _ (HR.out.1.below H1.out.2.2.2.2.1) (by omega)).mono ?_; rintro e w9 ⟨rfl, hw9⟩; rw [← hw9]; clear hw9)
    | (go_at_call 50; refine (need_any (w.heap.size + 2) (w.heap.size + 3) _ 7 true (szOk zs.length) _ H1.out.2.2.2.1 (by omega) (by rw [H1.out.2.2.2.2.2]; omega)).mono ?_; rintro e w2 ⟨rfl, ck2, t2⟩; rw [Bool.true_and] at ck2; have H2 := hide (And.intro ck2 t2); clear ck2 t2))
  have HB2 := hide (H2.out.2.under H1.out.2.2.2.2.1 (by omega) H1.out.2.2.2.2.1.size)
  have hs2 : w.heap.size + 3 ≤ w2.heap.size := by have := H2.out.2.1.size; rw [H1.out.2.2.2.2.2] at this; exact this
  have K0 := hide (show Blk w2 w.heap.size (cellsI (rootI s ds p q)) 34 from (H2.out.2.1.block _ H1.out.2.1.lt (by simp)).trans H1.out.2.1)
  have K1 := hide (show Blk w2 (w.heap.size + 1) Z0 165 from (H2.out.2.1.block _ H1.out.2.2.1.lt (by simp)).trans H1.out.2.2.1)
  go_upto_region 4 with (first
    | (refine wpList_load_row rfl 34 _ rfl w.heap.size rfl 34 (cellsI (rootI s ds p q)) (0, 0) _ K0.out Tryz.underlying34 rfl (by rw [HZ.out]; exact info15) ?_)
    | (go_at_call 74; refine (rootFault_any s ds p q 7 _ HR.out.2).mono ?_; rintro e w3 ⟨ev3, rfl, f3, b3⟩; have H3 := hide (And.intro f3 b3); clear f3 b3)
    | (go_at_call 39; refine (inside_both (w.heap.size + 2) (w.heap.size + 3) _ 7 (szOk zs.length) (rightR s ds p q) ev3 _ (H2.out.1.below H3.out.2) (H3.out.1.mono hs2) (by omega) (Nat.le_trans hs2 H3.out.2.size)).mono ?_; rintro e w4 ⟨rfl, ck4, t4⟩; have H4 := hide (And.intro ck4 t4); clear ck4 t4))
  have hs3 := H3.out.2.size
  have HB4 := hide (H4.out.2.under (HB2.out.trans (H3.out.2.mono HB2.out.size)) (by omega) (Nat.le_trans HB2.out.size hs3))
  have L0 : Blk w4 w.heap.size (cellsI (rootI s ds p q)) 34 := (H4.out.2.1.block _ (Nat.lt_of_lt_of_le K0.out.lt hs3) (by simp)).trans (K0.out.below H3.out.2 K0.out.lt)
  have L1 := hide (show Blk w4 (w.heap.size + 1) Z0 165 from (H4.out.2.1.block _ (Nat.lt_of_lt_of_le K1.out.lt hs3) (by simp)).trans (K1.out.below H3.out.2 K1.out.lt))
  obtain ⟨ev, ce, hfe⟩ := H4.out.1.fault
  have HFe := hide hfe
  clear hfe
  refine wp_region_noPanic ?_
  refine wp_region_held_drew (S := fun w' => Blk w' w.heap.size (cellsI (rootI s ds p q)) 34 ∧ w'.cell? ⟨w.heap.size + 2, 1, none⟩ = some ev) (by kernel_rfl) ⟨L0, ce⟩ (fun hH => ?_)
  refine wpAnyH_take (i := 0) (oi := _) (v := .slice sa zs.length sc) rfl (by kernel_rfl) (by kernel_rfl) (by kernel_rfl) (fun _ _ _ h => h) (Or.inl ⟨by rfl, fun w' hw' => by go_simp⟩) hH ?_
  try simp only [Act.put, List.getElem_toArray, List.getElem_cons_zero, List.getElem_cons_succ, List.setIfInBounds_toArray, List.set_cons_zero, List.set_cons_succ]
  refine wpAnyH_take (i := 1) (oi := _) (v := .agg (cellsI (rootI s ds p q))) rfl (by kernel_rfl) (by kernel_rfl) (by kernel_rfl) (fun _ _ _ h => h) (Or.inl ⟨by rfl, fun w' hw' => run_load_rowT (a := _) 34 (.tmp 3) rfl w.heap.size rfl 34 _ (0, 0) _ hw'.1 Tryz.underlying34 rfl (by rw [HZ.out]; exact info15)⟩) hH ?_
  try simp only [Act.put, List.getElem_toArray, List.getElem_cons_zero, List.getElem_cons_succ, List.setIfInBounds_toArray, List.set_cons_zero, List.set_cons_succ]
  refine wpAnyH_take (i := 2) (oi := _) (v := .agg (treT (.slice sa zs.length sc) (rootI s ds p q))) rfl (by kernel_rfl) (by kernel_rfl) (by kernel_rfl) (fun _ _ _ h => h) (Or.inl ⟨by rfl, fun w' hw' => run_buildT 165 _ rfl _ (by simp only [List.map_toArray, List.map_cons, List.map_nil]; exact HBu.out)⟩) hH ?_
  try simp only [Act.put, List.getElem_toArray, List.getElem_cons_zero, List.getElem_cons_succ, List.setIfInBounds_toArray, List.set_cons_zero, List.set_cons_succ]
  refine wpAnyH_take (i := 3) (oi := _) (v := .pointer (some ⟨w.heap.size + 2, 1, none⟩)) rfl (by kernel_rfl) (by kernel_rfl) (by kernel_rfl) (fun _ _ _ h => h) (Or.inl ⟨by rfl, fun w' hw' => by go_simp⟩) hH ?_
  try simp only [Act.put, List.getElem_toArray, List.getElem_cons_zero, List.getElem_cons_succ, List.setIfInBounds_toArray, List.set_cons_zero, List.set_cons_succ]
  refine wpAnyH_take (i := 4) (oi := _) (v := ev) rfl (by kernel_rfl) (by kernel_rfl) (by kernel_rfl) (fun _ _ _ h => h) (Or.inl ⟨by rfl, fun w' hw' => by have c9 := hw'.2; go_simp⟩) hH ?_
  try simp only [Act.put, List.getElem_toArray, List.getElem_cons_zero, List.getElem_cons_succ, List.setIfInBounds_toArray, List.set_cons_zero, List.set_cons_succ]
  have D1 : Blk (World.drew w4) (w.heap.size + 1) Z0 165 := L1.out
  have hgr : (World.drew w4).grownBy ((World.drew w4).setRow (w.heap.size + 1) (treT (.slice sa zs.length sc) (rootI s ds p q))) (some (w.heap.size + 1)) := ⟨rfl, rfl, rfl, by simp [World.setRow], fun k hk hne => by simp [World.setRow, Array.getElem?_modify, show ¬ w.heap.size + 1 = k from fun e => hne (by rw [e])]⟩
  refine wpAnyH_ready (rs := [5]) (by kernel_rfl) (by simp) ?_
  refine AllReadyH.cons (o := _) rfl (fun K hK => ?_) AllReadyH.nil
  rw [if_pos (by rfl)]
  refine wp_store_row 165 (.tmp 4) (.tmp 16) rfl (w.heap.size + 1) (treT (.slice sa zs.length sc) (rootI s ds p q)) rfl rfl 165 Z0 D1 (by rw [HTs.out]; exact infoTr) (by rw [HTs.out]; exact H1.out.1) (treT_one _) ?_
  have hckl := H4.out.1.lt
  refine hK.out _ _ ⟨(hgr.block _ L0.lt (by simp)).trans L0, (World.cell?_of_block (a := ⟨w.heap.size + 2, 1, none⟩) (hgr.block _ (show w.heap.size + 2 < w4.heap.size from hckl) (by simp))).trans ce⟩ (fun hH2 => ?_)
  clear hK K
  try simp only [Act.put, List.getElem_toArray, List.getElem_cons_zero, List.getElem_cons_succ, List.setIfInBounds_toArray, List.set_cons_zero, List.set_cons_succ]
  refine wpAnyH_take (i := 6) (oi := _) (v := ev) rfl (by kernel_rfl) (by kernel_rfl) (by kernel_rfl) (fun _ _ _ h => h) (Or.inl ⟨by rfl, fun w' hw' => by go_simp⟩) hH2 ?_
  try simp only [Act.put, List.getElem_toArray, List.getElem_cons_zero, List.getElem_cons_succ, List.setIfInBounds_toArray, List.set_cons_zero, List.set_cons_succ]
  refine wpAnyH_done (by kernel_rfl) (NoPanic.normal ?_) _
  go_wp2
  refine bodyPost_ret (v := .tuple #[.agg (treT (.slice sa zs.length sc) (rootI s ds p q)), ev]) ?_ rfl ⟨ev, rfl, ?_, below_setRow (HB4.out.drew) (by omega) _⟩
  · exact results_row_tmp rfl _ _ (w.heap.size + 1) 165 _ (0, 0) _ _ rfl rfl (D1.row _) Tryz.underlying165 rfl (by rw [HTs.out]; exact infoTr)
  · rcases HFe.out with ⟨h1, h2⟩ | ⟨h1, m, h2⟩
    · exact .inl ⟨h1, h2⟩
    · refine .inr ⟨h1, m, Flt.mono (lo := w.heap.size + 3) (Nat.zero_le _) (Flt.keep (fun b o u hb hc => ?_) h2)⟩
      have hlt := cell_lt hc
      exact (World.cell?_of_block (a := ⟨b, o, none⟩) (hgr.block b (show b < w4.heap.size from hlt) (by simp; omega))).trans hc
theorem own_shape5 {w : World} {base : Nat} {e : TypeId} {v : Value} {n : Nat} {xs : List Value} (h : w.ownsRow base e 1 v n xs) : ∃ a cap, v = .slice a n cap := by
  rcases h.2 with ⟨rfl, rfl⟩ | ⟨g, cap, _, rfl, _⟩
  · exact ⟨_, _, rfl⟩
  · exact ⟨_, _, rfl⟩
/-- What the walk over a root tells. -/
def ZR (zs : List Int) (s : Int) (ds : List Int) (p q : Int) : TL := allT (topsT ((s.toNat + 511) / 512) (zs.length / 512) (wrdP zs) (fun j => (ds ++ [p, q]).getD j 0))
def okR (zs : List Int) (s : Int) (ds : List Int) (p q : Int) : Bool := szOk zs.length && rightR s ds p q
/-- The answer of TreeRead. -/
def trC (zs : List Int) (s : Int) (ds : List Int) (p q : Int) : Int := if okR zs s ds p q = false then 7 else if (ZR zs s ds p q).2 = true then 21 else 0
def trB (zs : List Int) (s : Int) (ds : List Int) (p q : Int) : List Int := if okR zs s ds p q = true ∧ (ZR zs s ds p q).2 = false then contP zs s.toNat (upX (ZR zs s ds p q).1) else []
theorem right_size {s : Int} {ds : List Int} {p q : Int} (h : rightR s ds p q = true) : 0 ≤ s ∧ s ≤ 262144 := by
  unfold rightR at h
  simp only [Bool.and_eq_true, decide_eq_true_eq] at h
  exact h.1
theorem treT_0 (img : Value) (X : List Int) : (treT img X)[0]? = some img := by simp [treT]
theorem treT_k (img : Value) (X : List Int) (k : Nat) (h : k < X.length) : (treT img X)[1 + k]? = some (.int .i64 (X.getD k 0)) := by
  unfold treT
  rw [List.getElem?_toArray, List.getElem?_append_right (by simp)]
  simp [List.getD, h]
set_option maxRecDepth 100000 in
set_option maxHeartbeats 2000000 in
theorem readTree_any (img : Value) (zs : List Int) (s : Int) (ds : List Int) (p q : Int) (w : World) (h : Rd .u8 w img zs) (hz : zs.length ≤ 1048576) (hbd : ∀ z ∈ zs, 0 ≤ z ∧ z < 256) (hd : ds.length = 12) :
    Calls Tryz.prog 48 #[img, .agg (cellsI (rootI s ds p q))] w fun e w' => ∃ a n c ev, e = .returned (.tuple #[.slice a n c, ev]) ∧ ((trC zs s ds p q = 0 ∧ ev = .nilIface ∧ w'.ownsRow w.heap.size 5 1 (.slice a n c) (trB zs s ds p q).length ((trB zs s ds p q).map (Value.int .u8))) ∨ (trC zs s ds p q ≠ 0 ∧ ∃ m, Flt w' 0 m ev (trC zs s ds p q))) ∧ Below w.heap.size w w' := by
  have HR := hide (And.intro h (And.intro hbd hd))
  have hRl := rootI_len s ds p q hd
  have HZ := hide (show (cellsI (rootI s ds p q)).size = 15 from by rw [cellsI_size]; exact hRl)
  obtain ⟨sa, sc, rfl⟩ := rd_shapeT h
  have HTs := hide (treT_size (.slice sa zs.length sc) _ hRl)
  obtain ⟨Z1, hZ1, hAl⟩ := letTr
  have HAl := hide (And.intro hZ1 hAl)
  have HRl := hide hRl
  clear h hbd hd hRl hZ1 hAl
  have b0 : Below w.heap.size w (w.alloc (.cells (cellsI (rootI s ds p q)) 34)) := (Below.refl _ _).alloc (Nat.le_refl _) _
  have HB0 := hide b0
  clear b0
  go_enter Tryz.func48, Tryz.ntmps48
  go_upto_region 2 with (first
    | (refine wpList_load_row rfl 34 _ rfl w.heap.size rfl 34 (cellsI (rootI s ds p q)) (0, 0) _ (Blk.new w _ _) Tryz.underlying34 rfl (by rw [HZ.out]; exact info15) ?_)
    | (go_at_call 83; refine (openTree_any _ zs s ds p q _ (HR.out.1.below HB0.out) hz HR.out.2.2).mono ?_; rintro e w2 ⟨ev, rfl, f2, b2⟩; have H2 := hide (And.intro f2 b2); clear f2 b2)
    | (refine Great.wpList_allocTo rfl (some 6) rfl (.pointer (some ⟨w2.heap.size, 0, none⟩)) (.cells Z1 165) (HAl.out.2 _ _ _ rfl) ?_)
    | (refine wpList_store_row rfl 165 _ _ rfl w2.heap.size (treT (.slice sa zs.length sc) (rootI s ds p q)) rfl rfl 165 Z1 (Blk.new w2 _ _) (by rw [HTs.out]; exact infoTr) (by rw [HTs.out]; exact HAl.out.1) (treT_one _) ?_))
  obtain ⟨W3, hW3⟩ : ∃ W3, W3 = (w2.alloc (.cells Z1 165)).setRow w2.heap.size (treT (.slice sa zs.length sc) (rootI s ds p q)) := ⟨_, rfl⟩
  have K3 := hide (show Blk W3 w2.heap.size (treT (.slice sa zs.length sc) (rootI s ds p q)) 165 from by rw [hW3]; exact (Blk.new w2 Z1 165).row _)
  have B3 := hide (show Below w2.heap.size w2 W3 from by rw [hW3]; exact below_setRow ((Below.refl _ _).alloc (Nat.le_refl _) _) (Nat.le_refl _) _)
  rw [← hW3]
  clear hW3
  have BW := hide (show Below w.heap.size w W3 from HB0.out.trans ((H2.out.2.trans (B3.out.mono H2.out.2.size)).mono HB0.out.size))
  cases hok : szOk zs.length && rightR s ds p q with
  | false =>
    have hf := H2.out.1
    rw [hok] at hf
    rcases hf with ⟨hf, _⟩ | ⟨_, m, hf⟩
    · cases hf
    obtain ⟨t', x', rfl⟩ := hf.iface
    have HF := hide (hf.below B3.out)
    have HC := hide (show trC zs s ds p q = 7 by unfold trC okR; rw [hok, if_pos rfl])
    clear hf hok

    go_wp2
    go_ret2
    exact ⟨_, _, _, _, rfl, .inr ⟨by rw [HC.out]; decide, m, by rw [HC.out]; exact HF.out⟩, BW.out⟩
  | true =>
    have hf := H2.out.1
    rw [hok] at hf
    rcases hf with ⟨_, rfl⟩ | ⟨hf, _⟩
    rotate_left
    · cases hf
    have hr : rightR s ds p q = true := by rw [Bool.and_eq_true] at hok; exact hok.2
    obtain ⟨hs0, hs1⟩ := right_size hr
    obtain ⟨sz, rfl⟩ : ∃ sz : Nat, s = (sz : Int) := ⟨s.toNat, by omega⟩
    have HOk := hide (show okR zs (sz : Int) ds p q = true from hok)
    clear hok hr hs0
    have hRl := HRl.out
    have hX := fun k hk => treT_k (.slice sa zs.length sc) (rootI (sz : Int) ds p q) k hk
    have HX := hide (show (treT (.slice sa zs.length sc) (rootI (sz : Int) ds p q))[1]? = some (.int .i64 (sz : Int)) ∧ ∀ j, j < 14 → (treT (.slice sa zs.length sc) (rootI (sz : Int) ds p q))[2 + j]? = some (.int .i64 ((ds ++ [p, q]).getD j 0)) from by
      refine ⟨(hX 0 (by omega)).trans (by simp [rootI]), fun j hj => ?_⟩
      have := hX (j + 1) (by omega)
      rw [show 1 + (j + 1) = 2 + j by omega] at this
      rw [this]
      simp [rootI, List.getD])
    clear hX hRl

    go_wp2_with (first
      | (refine wpList_load_row rfl 165 _ rfl w2.heap.size rfl 165 (treT (.slice sa zs.length sc) (rootI (sz : Int) ds p q)) (0, 0) _ K3.out Tryz.underlying165 rfl (by rw [HTs.out]; exact infoTr) ?_)
      | (go_at_call 84; refine (content_any ((sz + 511) / 512) sz zs _ (fun j => (ds ++ [p, q]).getD j 0) _ _ (ZR zs (sz : Int) ds p q) (treT_0 _ _) HX.out.1 HX.out.2 HTs.out (HR.out.1.below BW.out) hz HR.out.2.1 (by omega) rfl rfl).mono ?_; rintro e w5 ⟨v, ev, rfl, h5, b5⟩; have H5 := hide (And.intro h5 b5); clear h5 b5))
    rcases H5.out.1 with ⟨hZ0, rfl, o5⟩ | ⟨hZ1, rfl, m, f5⟩
    · obtain ⟨va, vc, rfl⟩ := own_shape5 o5
      have HO := hide (And.intro hZ0 (own_mono o5 BW.out.size))
      clear o5 hZ0
      go_ret2
      have e1 : trB zs (sz : Int) ds p q = contP zs sz (upX (ZR zs (sz : Int) ds p q).1) := by unfold trB; rw [if_pos ⟨HOk.out, HO.out.1⟩]; rfl
      have hl : (trB zs (sz : Int) ds p q).length = sz := by rw [e1]; have := HO.out.2.1; simpa using this
      refine ⟨_, _, _, _, rfl, .inl ⟨by unfold trC; rw [HOk.out, HO.out.1]; simp, rfl, ?_⟩, BW.out.trans (H5.out.2.mono BW.out.size)⟩
      rw [hl, e1]
      exact HO.out.2
    · have HC := hide (show trC zs (sz : Int) ds p q = 21 by unfold trC; rw [HOk.out, hZ1]; simp)
      have HF := hide f5
      clear f5 hZ1
      go_ret2
      exact ⟨_, _, _, _, rfl, .inr ⟨by rw [HC.out]; decide, m, by rw [HC.out]; exact HF.out⟩, BW.out.trans (H5.out.2.mono BW.out.size)⟩
end Go.Proofs.YtkbbnflblkkepaaGreatDoor
