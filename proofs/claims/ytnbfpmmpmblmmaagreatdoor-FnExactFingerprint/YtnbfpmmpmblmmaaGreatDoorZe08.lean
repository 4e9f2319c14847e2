/- The program's look at a root, whole: rootFault. -/
import Derived.Test.YtnbfpmmpmblmmaaGreatDoorZe07
namespace Go.Proofs.YtnbfpmmpmblmmaaGreatDoor
set_option linter.unusedVariables false
set_option linter.unusedSimpArgs false
open Go.RowKit

theorem Kp.below {w wr w' : World} {C : Array Value} {t : TypeId} {code : Int} {ok : Bool} (h : Kp w wr C t code ok) (hb : Below wr.heap.size wr w') : Kp w w' C t code ok :=
  ⟨h.blk.below hb h.blk.lt, h.ck.below hb, h.old.trans (hb.mono h.old.size)⟩

theorem inside_fault (w wr w1 : World) (C : Array Value) (t : TypeId) (code : Int) (ok ok1 : Bool) (place : ByteArray) (ev : Value) (h : Kp w w1 C t code ok) (hlo : w.heap.size + 1 + 1 ≤ wr.heap.size) (hs : wr.heap.size ≤ w1.heap.size) (hf : FaultIs w1 wr.heap.size ok1 ev code) :
    Calls Tryz.prog 27 #[.pointer (some ⟨w.heap.size + 1, 0, none⟩), .string place, ev] w1 fun e w' => e = .returned (.tuple #[]) ∧ Kp w w' C t code (ok && ok1) := by
  rcases hf with ⟨rfl, rfl⟩ | ⟨rfl, m, hm⟩
  · refine (inside_nil (w.heap.size + 1) _ place code ok w1 h.ck).mono ?_
    rintro e w' ⟨rfl, rfl⟩
    exact ⟨rfl, by simpa using h⟩
  · refine (inside_any (w.heap.size + 1) (w.heap.size + 1 + 1) place code ok m ev w1 h.ck (hm.mono hlo) (by omega) h.lo).mono ?_
    rintro e w' ⟨rfl, hc, ht⟩
    exact ⟨rfl, by rw [Bool.and_false]; exact h.tch hc ht⟩

def dirsB (ds : List Int) (y : Int) (n : Nat) : Bool := (List.range n).all fun i => decide (ds.getD i 0 = 0) || decide ((i : Int) < y)
theorem dirsB_succ (ds : List Int) (y : Int) (n : Nat) : dirsB ds y (n + 1) = (dirsB ds y n && (decide (ds.getD n 0 = 0) || decide ((n : Int) < y))) := by simp [dirsB, List.range_succ]

set_option maxRecDepth 100000 in
set_option maxHeartbeats 2000000 in
theorem rootFault_any (s : Int) (ds : List Int) (p q code : Int) (w : World) (hd : ds.length = 12) :
    Calls Tryz.prog 90 #[.agg (cellsI (rootI s ds p q)), .int .i64 code] w fun e w' => ∃ ev, e = .returned ev ∧ FaultIs w' w.heap.size (rightR s ds p q) ev code ∧ Below w.heap.size w w' := by
  have HD := hide hd
  have HZ := hide (show (cellsI (rootI s ds p q)).size = 15 from by rw [cellsI_size]; exact rootI_len s ds p q HD.out)
  have kB := (Blk.new w (cellsI (rootI s ds p q)) 81).alloc (.cells #[.int .i64 code, .nilIface] 64)
  have kC := Ck.fresh (w.alloc (.cells (cellsI (rootI s ds p q)) 81)) code 64
  rw [World.size_alloc] at kC
  have hb0 : Below w.heap.size w ((w.alloc (.cells (cellsI (rootI s ds p q)) 81)).alloc (.cells #[.int .i64 code, .nilIface] 64)) := ((Below.refl _ _).alloc (Nat.le_refl _) _).alloc (by simp) _
  have HX := hide (fun k hk w => index12 ds k HD.out hk w)
  have K := hide (show Kp w ((w.alloc (.cells (cellsI (rootI s ds p q)) 81)).alloc (.cells #[.int .i64 code, .nilIface] 64)) (cellsI (rootI s ds p q)) 81 code true from ⟨kB, kC, hb0⟩)
  have c0 : ∀ o1, ((w.alloc (.cells (cellsI (rootI s ds p q)) 81)).alloc o1).cell? ⟨w.heap.size, 0, none⟩ = some (.int .i64 s) := fun o1 => by
    rw [((Blk.new w _ _).alloc o1).cell 0]; rfl
  have HS := hide (show (cellsI (rootI s ds p q))[0]? = some (.int .i64 s) from rfl)
  clear hd kB kC hb0
  go_enter Tryz.func90, Tryz.ntmps90
  go_wp2_with (go_at_call 44; fail)
  refine (within_any (w.heap.size + 1) (w.heap.size + 1 + 1) _ code s 0 262144 true _ K.out.ck (by omega) K.out.lo).mono ?_
  rintro e w1 ⟨rfl, hc1, ht1⟩
  rw [Bool.true_and] at hc1
  have H1 := hide (K.out.tch hc1 ht1)
  clear hc1 ht1 K c0
  go_wp2_with (first | (refine wpList_load_row rfl 81 _ rfl w.heap.size rfl 81 (cellsI (rootI s ds p q)) (0, 0) _ H1.out.blk Tryz.underlying81 rfl (by rw [HZ.out]; exact info15) ?_) | (go_at_call 102; fail))
  refine (pointersFault_any s ds p q 2048 code _ HD.out).mono ?_
  rintro e w2 ⟨ev2, rfl, hf2, hb2⟩
  have H2 := hide (And.intro (H1.out.below hb2) (And.intro hf2 (And.intro H1.out.lo hb2.size)))
  clear hf2 hb2
  go_wp2_with fail
  refine (inside_fault w w1 w2 _ _ code _ _ _ ev2 H2.out.1 H2.out.2.2.1 H2.out.2.2.2 H2.out.2.1).mono ?_
  rintro e w3 ⟨rfl, hk3⟩
  have H3 := hide hk3
  have c3 := (H3.out.blk.cell 0).trans HS.out
  have HR := hide (show w3.rangeAt w.heap.size 1 (ds.map (Value.int .i64)) from by
    have hr := H3.out.blk.range 1 12 (by rw [rootI_len _ _ _ _ HD.out]; omega)
    rw [root_range _ _ _ _ HD.out] at hr
    exact hr)
  clear hk3 H1 H2
  go_wp2_with (go_at_call 103; fail)
  refine (blocksOf_out s _).mono ?_
  rintro e w3' ⟨⟨y, rfl, hy⟩, rfl⟩
  have HY := hide (right_eq s ds p q y HD.out hy)
  clear hy c3
  go_wp2_with (refine wpList_load_mid rfl 79 _ rfl w.heap.size 1 rfl (ds.map (Value.int .i64)) _ HR.out Tryz.underlying79 rfl (by rw [List.length_map, HD.out]; exact info12) ?_)
  go_loopw [23] (fun i wr => ∃ k : Nat, k ≤ 12 ∧ i = .int .i64 k ∧ Kp w wr (cellsI (rootI s ds p q)) 81 code (((decide (0 ≤ s) && decide (s ≤ 262144)) && ptrsB ds p q 2048) && dirsB ds y k)) (fun i _ => 12 - (intOf i).toNat)
  case atStart => exact ⟨0, by omega, rfl, by have h := H3.out; simpa [dirsB] using h⟩
  case round =>
    obtain ⟨k, hk, rfl, hkp⟩ := hrel
    have HK := hide hkp
    clear hkp H3 HR
    by_cases hlt : k < 12
    · have hix : ∀ w, (Instr.index 79 (.agg (ds.map (Value.int .i64)).toArray) (.int .i64 k)).run Tryz.prog w = .ok (.int .i64 (ds.getD k 0)) w := fun w => HX.out k hlt w
      have HT := hide (dirsB_succ ds y k)
      generalize ds.getD k 0 = z at hix HT
      by_cases hz : z = 0
      · have hz0 : (z == 0) = true := by simp [hz]
        have HZ0 := hide (show (decide (z = 0) || decide ((k : Int) < y)) = true from by simp [hz])
        clear hz
        go_wp2_with (go_at_call 47; refine (need_any (w.heap.size + 1) (w.heap.size + 1 + 1) _ code _ true _ HK.out.ck (by omega) HK.out.lo).mono ?_; rintro e w4 ⟨rfl, hc4, ht4⟩)
        have H4 := hide (HK.out.tch hc4 ht4)
        clear hc4 ht4
        go_roundw
        case rel => exact ⟨k + 1, by omega, by go_num, by rw [HT.out, HZ0.out, ← Bool.and_assoc]; exact H4.out⟩
        case measure => simp [intOf]; omega
      · have hz0 : (z == 0) = false := by simp [hz]
        have HZ0 := hide (show (decide (z = 0) || decide ((k : Int) < y)) = decide ((k : Int) < y) from by simp [hz])
        clear hz
        go_wp2_with (go_at_call 47; refine (need_any (w.heap.size + 1) (w.heap.size + 1 + 1) _ code _ (decide ((k : Int) < y)) _ HK.out.ck (by omega) HK.out.lo).mono ?_; rintro e w4 ⟨rfl, hc4, ht4⟩)
        have H4 := hide (HK.out.tch hc4 ht4)
        clear hc4 ht4
        go_roundw
        case rel => exact ⟨k + 1, by omega, by go_num, by rw [HT.out, HZ0.out, ← Bool.and_assoc]; exact H4.out⟩
        case measure => simp [intOf]; omega
    · have e12 : k = 12 := by omega
      subst e12
      have a13 := (HK.out.blk.cell 13).trans (rootI_get13 s ds p q HD.out)
      by_cases hp0 : p = 0
      · by_cases hq0 : q = 0
        · have hp1 : (p == 0) = true := by simp [hp0]
          have hq1 : (q == 0) = true := by simp [hq0]
          have HP := hide (show (decide (p = 0) || decide (12 < y)) = true from by simp [hp0])
          have HQ := hide (show (decide (q = 0) || decide (140 < y)) = true from by simp [hq0])
          clear hp0 hq0
          go_wp2_with (go_at_call 47; fail)
          refine (need_any (w.heap.size + 1) (w.heap.size + 1 + 1) _ code _ true _ HK.out.ck (by omega) HK.out.lo).mono ?_
          rintro e w5 ⟨rfl, hc5, ht5⟩
          have H5 := hide (HK.out.tch hc5 ht5)
          have a14 := (H5.out.blk.cell 14).trans (rootI_get14 s ds p q HD.out)
          clear hc5 ht5 a13
          go_wp2_with (go_at_call 47; fail)
          refine (need_any (w.heap.size + 1) (w.heap.size + 1 + 1) _ code _ true _ H5.out.ck (by omega) H5.out.lo).mono ?_
          rintro e w6 ⟨rfl, hc6, ht6⟩
          have H6 := hide (H5.out.tch hc6 ht6)
          obtain ⟨ev, c6, hf6⟩ := H6.out.fault
          have HF := hide (show FaultIs w6 w.heap.size (rightR s ds p q) ev code from by rw [← HY.out]; unfold rightI; rw [HP.out, HQ.out]; exact hf6)
          clear hc6 ht6 a14 hf6
          go_wp2
          go_ret
          exact ⟨ev, rfl, HF.out, H6.out.old⟩
        · have hp1 : (p == 0) = true := by simp [hp0]
          have hq1 : (q == 0) = false := by simp [hq0]
          have HP := hide (show (decide (p = 0) || decide (12 < y)) = true from by simp [hp0])
          have HQ := hide (show (decide (q = 0) || decide (140 < y)) = (decide (140 < y)) from by simp [hq0])
          clear hp0 hq0
          go_wp2_with (go_at_call 47; fail)
          refine (need_any (w.heap.size + 1) (w.heap.size + 1 + 1) _ code _ true _ HK.out.ck (by omega) HK.out.lo).mono ?_
          rintro e w5 ⟨rfl, hc5, ht5⟩
          have H5 := hide (HK.out.tch hc5 ht5)
          have a14 := (H5.out.blk.cell 14).trans (rootI_get14 s ds p q HD.out)
          clear hc5 ht5 a13
          go_wp2_with (go_at_call 47; fail)
          refine (need_any (w.heap.size + 1) (w.heap.size + 1 + 1) _ code _ (decide (140 < y)) _ H5.out.ck (by omega) H5.out.lo).mono ?_
          rintro e w6 ⟨rfl, hc6, ht6⟩
          have H6 := hide (H5.out.tch hc6 ht6)
          obtain ⟨ev, c6, hf6⟩ := H6.out.fault
          have HF := hide (show FaultIs w6 w.heap.size (rightR s ds p q) ev code from by rw [← HY.out]; unfold rightI; rw [HP.out, HQ.out]; exact hf6)
          clear hc6 ht6 a14 hf6
          go_wp2
          go_ret
          exact ⟨ev, rfl, HF.out, H6.out.old⟩
      · by_cases hq0 : q = 0
        · have hp1 : (p == 0) = false := by simp [hp0]
          have hq1 : (q == 0) = true := by simp [hq0]
          have HP := hide (show (decide (p = 0) || decide (12 < y)) = (decide (12 < y)) from by simp [hp0])
          have HQ := hide (show (decide (q = 0) || decide (140 < y)) = true from by simp [hq0])
          clear hp0 hq0
          go_wp2_with (go_at_call 47; fail)
          refine (need_any (w.heap.size + 1) (w.heap.size + 1 + 1) _ code _ (decide (12 < y)) _ HK.out.ck (by omega) HK.out.lo).mono ?_
          rintro e w5 ⟨rfl, hc5, ht5⟩
          have H5 := hide (HK.out.tch hc5 ht5)
          have a14 := (H5.out.blk.cell 14).trans (rootI_get14 s ds p q HD.out)
          clear hc5 ht5 a13
          go_wp2_with (go_at_call 47; fail)
          refine (need_any (w.heap.size + 1) (w.heap.size + 1 + 1) _ code _ true _ H5.out.ck (by omega) H5.out.lo).mono ?_
          rintro e w6 ⟨rfl, hc6, ht6⟩
          have H6 := hide (H5.out.tch hc6 ht6)
          obtain ⟨ev, c6, hf6⟩ := H6.out.fault
          have HF := hide (show FaultIs w6 w.heap.size (rightR s ds p q) ev code from by rw [← HY.out]; unfold rightI; rw [HP.out, HQ.out]; exact hf6)
          clear hc6 ht6 a14 hf6
          go_wp2
          go_ret
          exact ⟨ev, rfl, HF.out, H6.out.old⟩
        · have hp1 : (p == 0) = false := by simp [hp0]
          have hq1 : (q == 0) = false := by simp [hq0]
          have HP := hide (show (decide (p = 0) || decide (12 < y)) = (decide (12 < y)) from by simp [hp0])
          have HQ := hide (show (decide (q = 0) || decide (140 < y)) = (decide (140 < y)) from by simp [hq0])
          clear hp0 hq0
          go_wp2_with (go_at_call 47; fail)
          refine (need_any (w.heap.size + 1) (w.heap.size + 1 + 1) _ code _ (decide (12 < y)) _ HK.out.ck (by omega) HK.out.lo).mono ?_
          rintro e w5 ⟨rfl, hc5, ht5⟩
          have H5 := hide (HK.out.tch hc5 ht5)
          have a14 := (H5.out.blk.cell 14).trans (rootI_get14 s ds p q HD.out)
          clear hc5 ht5 a13
          go_wp2_with (go_at_call 47; fail)
          refine (need_any (w.heap.size + 1) (w.heap.size + 1 + 1) _ code _ (decide (140 < y)) _ H5.out.ck (by omega) H5.out.lo).mono ?_
          rintro e w6 ⟨rfl, hc6, ht6⟩
          have H6 := hide (H5.out.tch hc6 ht6)
          obtain ⟨ev, c6, hf6⟩ := H6.out.fault
          have HF := hide (show FaultIs w6 w.heap.size (rightR s ds p q) ev code from by rw [← HY.out]; unfold rightI; rw [HP.out, HQ.out]; exact hf6)
          clear hc6 ht6 a14 hf6
          go_wp2
          go_ret
          exact ⟨ev, rfl, HF.out, H6.out.old⟩
end Go.Proofs.YtnbfpmmpmblmmaaGreatDoor
