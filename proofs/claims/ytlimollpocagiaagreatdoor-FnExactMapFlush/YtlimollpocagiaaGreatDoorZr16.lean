/- The program's look at a root, whole: rootFault. The program opens a tree: openTree, readTree, TreeRead. Where a data block hangs: the model's PlaceOf. -/
import Derived.Test.YtlimollpocagiaaGreatDoorZr10
import Derived.Test.YtlimollpocagiaaGreatDoorZr15
import Derived.Test.YtlimollpocagiaaGreatDoorZr03
import Derived.WalkLawsBesides
import Derived.Laws.ResultCell
import Derived.Deep.WholeRow
namespace Go.Proofs.YtlimollpocagiaaGreatDoor
set_option linter.unusedVariables false
set_option linter.unusedSimpArgs false
open Go.RowKit

theorem Kp.below {w wr w' : World} {C : Array Value} {t : TypeId} {code : Int} {ok : Bool} (h : Kp w wr C t code ok) (hb : Below wr.heap.size wr w') : Kp w w' C t code ok :=
  ⟨h.blk.below hb h.blk.lt, h.ck.below hb, h.old.trans (hb.mono h.old.size)⟩

theorem inside_fault (w wr w1 : World) (C : Array Value) (t : TypeId) (code : Int) (ok ok1 : Bool) (place : ByteArray) (ev : Value) (h : Kp w w1 C t code ok) (hlo : w.heap.size + 1 + 1 ≤ wr.heap.size) (hs : wr.heap.size ≤ w1.heap.size) (hf : FaultIs w1 wr.heap.size ok1 ev code) :
    Calls Tryz.prog 56 #[.pointer (some ⟨w.heap.size + 1, 0, none⟩), .string place, ev] w1 fun e w' => e = .returned (.tuple #[]) ∧ Kp w w' C t code (ok && ok1) := by
  rcases hf with ⟨rfl, rfl⟩ | ⟨rfl, m, hm⟩
  · refine (inside_nil (w.heap.size + 1) _ place code ok w1 h.ck).mono ?_
    rintro e w' ⟨rfl, rfl⟩
    exact ⟨rfl, by simpa using h⟩
  · refine (inside_any (w.heap.size + 1) (w.heap.size + 1 + 1) place code ok m ev w1 h.ck (hm.mono hlo) (by omega) h.lo).mono ?_
    rintro e w' ⟨rfl, hc, ht⟩
    exact ⟨rfl, by rw [Bool.and_false]; exact h.tch hc ht⟩

def dirsB (ds : List Int) (y : Int) (n : Nat) : Bool := (List.range n).all fun i => decide (ds.getD i 0 = 0) || decide ((i : Int) < y)
theorem dirsB_succ (ds : List Int) (y : Int) (n : Nat) : dirsB ds y (n + 1) = (dirsB ds y n && (decide (ds.getD n 0 = 0) || decide ((n : Int) < y))) := by simp [dirsB, List.range_succ]

set_option maxRecDepth 100000 in
set_option maxHeartbeats 2000000 in
theorem rootFault_any (s : Int) (ds : List Int) (p q code : Int) (w : World) (hd : ds.length = 12) :
    Calls Tryz.prog 86 #[.agg (cellsI (rootI s ds p q)), .int .i64 code] w fun e w' => ∃ ev, e = .returned ev ∧ FaultIs w' w.heap.size (rightR s ds p q) ev code ∧ Below w.heap.size w w' := by
  have HD := hide hd
  have HZ := hide (show (cellsI (rootI s ds p q)).size = 15 from by rw [cellsI_size]; exact rootI_len s ds p q HD.out)
  have kB := (Blk.new w (cellsI (rootI s ds p q)) 28).alloc (.cells #[.int .i64 code, .nilIface] 100)
  have kC := Ck.fresh (w.alloc (.cells (cellsI (rootI s ds p q)) 28)) code 100
  rw [World.size_alloc] at kC
  have hb0 : Below w.heap.size w ((w.alloc (.cells (cellsI (rootI s ds p q)) 28)).alloc (.cells #[.int .i64 code, .nilIface] 100)) := ((Below.refl _ _).alloc (Nat.le_refl _) _).alloc (by simp) _
  have HX := hide (fun k hk w => index12 ds k HD.out hk w)
  have K := hide (show Kp w ((w.alloc (.cells (cellsI (rootI s ds p q)) 28)).alloc (.cells #[.int .i64 code, .nilIface] 100)) (cellsI (rootI s ds p q)) 28 code true from ⟨kB, kC, hb0⟩)
  have c0 : ∀ o1, ((w.alloc (.cells (cellsI (rootI s ds p q)) 28)).alloc o1).cell? ⟨w.heap.size, 0, none⟩ = some (.int .i64 s) := fun o1 => by
    rw [((Blk.new w _ _).alloc o1).cell 0]; rfl
  have HS := hide (show (cellsI (rootI s ds p q))[0]? = some (.int .i64 s) from rfl)
  clear hd kB kC hb0
  go_enter Tryz.func86, Tryz.ntmps86
  go_wp2_with (go_at_call 91; fail)
  refine (within_any (w.heap.size + 1) (w.heap.size + 1 + 1) _ code s 0 262144 true _ K.out.ck (by omega) K.out.lo).mono ?_
  rintro e w1 ⟨rfl, hc1, ht1⟩
  rw [Bool.true_and] at hc1
  have H1 := hide (K.out.tch hc1 ht1)
  clear hc1 ht1 K c0
  go_wp2_with (first | (refine wpList_load_row rfl 28 _ rfl w.heap.size rfl 28 (cellsI (rootI s ds p q)) (0, 0) _ H1.out.blk Tryz.underlying28 rfl (by rw [HZ.out]; exact info15) ?_) | (go_at_call 108; fail))
  refine (pointersFault_any s ds p q 2048 code _ HD.out).mono ?_
  rintro e w2 ⟨ev2, rfl, hf2, hb2⟩
  have H2 := hide (And.intro (H1.out.below hb2) (And.intro hf2 (And.intro H1.out.lo hb2.size)))
  clear hf2 hb2
  go_wp2_with fail
  refine (inside_fault w w1 w2 _ _ code _ _ _ ev2 H2.out.1 H2.out.2.2.1 H2.out.2.2.2 H2.out.2.1).mono ?_
  rintro e w3 ⟨rfl, hk3⟩
  have H3 := hide hk3
  have c3 := (H3.out.blk.cell 0).trans HS.out
  have HR := hide (show w3.rangeAt w.heap.size 1 (ds.map (Value.int .i64)) from by
    have hr := H3.out.blk.range 1 12 (by rw [rootI_len _ _ _ _ HD.out]; omega)
    rw [root_range _ _ _ _ HD.out] at hr
    exact hr)
  clear hk3 H1 H2
  go_wp2_with (go_at_call 49; fail)
  refine (blocksOf_out s _).mono ?_
  rintro e w3' ⟨⟨y, rfl, hy⟩, rfl⟩
  have HY := hide (right_eq s ds p q y HD.out hy)
  clear hy c3
  go_wp2_with (refine wpList_load_mid rfl 26 _ rfl w.heap.size 1 rfl (ds.map (Value.int .i64)) _ HR.out Tryz.underlying26 rfl (by rw [List.length_map, HD.out]; exact info12) ?_)
  go_loopw [23] (fun i wr => ∃ k : Nat, k ≤ 12 ∧ i = .int .i64 k ∧ Kp w wr (cellsI (rootI s ds p q)) 28 code (((decide (0 ≤ s) && decide (s ≤ 262144)) && ptrsB ds p q 2048) && dirsB ds y k)) (fun i _ => 12 - (intOf i).toNat)
  case atStart => exact ⟨0, by omega, rfl, by have h := H3.out; simpa [dirsB] using h⟩
  case round =>
    obtain ⟨k, hk, rfl, hkp⟩ := hrel
    have HK := hide hkp
    clear hkp H3 HR
    by_cases hlt : k < 12
    · have hix : ∀ w, (Instr.index 26 (.agg (ds.map (Value.int .i64)).toArray) (.int .i64 k)).run Tryz.prog w = .ok (.int .i64 (ds.getD k 0)) w := fun w => HX.out k hlt w
      have HT := hide (dirsB_succ ds y k)
      generalize ds.getD k 0 = z at hix HT
      by_cases hz : z = 0
      · have hz0 : (z == 0) = true := by simp [hz]
        have HZ0 := hide (show (decide (z = 0) || decide ((k : Int) < y)) = true from by simp [hz])
        clear hz
        go_wp2_with (go_at_call 58; refine (need_any (w.heap.size + 1) (w.heap.size + 1 + 1) _ code _ true _ HK.out.ck (by omega) HK.out.lo).mono ?_; rintro e w4 ⟨rfl, hc4, ht4⟩)
        have H4 := hide (HK.out.tch hc4 ht4)
        clear hc4 ht4
        go_roundw
        case rel => exact ⟨k + 1, by omega, by go_num, by rw [HT.out, HZ0.out, ← Bool.and_assoc]; exact H4.out⟩
        case measure => simp [intOf]; omega
      · have hz0 : (z == 0) = false := by simp [hz]
        have HZ0 := hide (show (decide (z = 0) || decide ((k : Int) < y)) = decide ((k : Int) < y) from by simp [hz])
        clear hz
        go_wp2_with (go_at_call 58; refine (need_any (w.heap.size + 1) (w.heap.size + 1 + 1) _ code _ (decide ((k : Int) < y)) _ HK.out.ck (by omega) HK.out.lo).mono ?_; rintro e w4 ⟨rfl, hc4, ht4⟩)
        have H4 := hide (HK.out.tch hc4 ht4)
        clear hc4 ht4
        go_roundw
        case rel => exact ⟨k + 1, by omega, by go_num, by rw [HT.out, HZ0.out, ← Bool.and_assoc]; exact H4.out⟩
        case measure => simp [intOf]; omega
    · have e12 : k = 12 := by omega
      subst e12
      have a13 := (HK.out.blk.cell 13).trans (rootI_get13 s ds p q HD.out)
      by_cases hp0 : p = 0
      · by_cases hq0 : q = 0
        · have hp1 : (p == 0) = true := by simp [hp0]
          have hq1 : (q == 0) = true := by simp [hq0]
          have HP := hide (show (decide (p = 0) || decide (12 < y)) = true from by simp [hp0])
          have HQ := hide (show (decide (q = 0) || decide (140 < y)) = true from by simp [hq0])
          clear hp0 hq0
          go_wp2_with (go_at_call 58; fail)
          refine (need_any (w.heap.size + 1) (w.heap.size + 1 + 1) _ code _ true _ HK.out.ck (by omega) HK.out.lo).mono ?_
          rintro e w5 ⟨rfl, hc5, ht5⟩
          have H5 := hide (HK.out.tch hc5 ht5)
          have a14 := (H5.out.blk.cell 14).trans (rootI_get14 s ds p q HD.out)
          clear hc5 ht5 a13
          go_wp2_with (go_at_call 58; fail)
          refine (need_any (w.heap.size + 1) (w.heap.size + 1 + 1) _ code _ true _ H5.out.ck (by omega) H5.out.lo).mono ?_
          rintro e w6 ⟨rfl, hc6, ht6⟩
          have H6 := hide (H5.out.tch hc6 ht6)
          obtain ⟨ev, c6, hf6⟩ := H6.out.fault
          have HF := hide (show FaultIs w6 w.heap.size (rightR s ds p q) ev code from by rw [← HY.out]; unfold rightI; rw [HP.out, HQ.out]; exact hf6)
          clear hc6 ht6 a14 hf6
          go_wp2
          go_ret
          exact ⟨ev, rfl, HF.out, H6.out.old⟩
        · have hp1 : (p == 0) = true := by simp [hp0]
          have hq1 : (q == 0) = false := by simp [hq0]
          have HP := hide (show (decide (p = 0) || decide (12 < y)) = true from by simp [hp0])
          have HQ := hide (show (decide (q = 0) || decide (140 < y)) = (decide (140 < y)) from by simp [hq0])
          clear hp0 hq0
          go_wp2_with (go_at_call 58; fail)
          refine (need_any (w.heap.size + 1) (w.heap.size + 1 + 1) _ code _ true _ HK.out.ck (by omega) HK.out.lo).mono ?_
          rintro e w5 ⟨rfl, hc5, ht5⟩
          have H5 := hide (HK.out.tch hc5 ht5)
          have a14 := (H5.out.blk.cell 14).trans (rootI_get14 s ds p q HD.out)
          clear hc5 ht5 a13
          go_wp2_with (go_at_call 58; fail)
          refine (need_any (w.heap.size + 1) (w.heap.size + 1 + 1) _ code _ (decide (140 < y)) _ H5.out.ck (by omega) H5.out.lo).mono ?_
          rintro e w6 ⟨rfl, hc6, ht6⟩
          have H6 := hide (H5.out.tch hc6 ht6)
          obtain ⟨ev, c6, hf6⟩ := H6.out.fault
          have HF := hide (show FaultIs w6 w.heap.size (rightR s ds p q) ev code from by rw [← HY.out]; unfold rightI; rw [HP.out, HQ.out]; exact hf6)
          clear hc6 ht6 a14 hf6
          go_wp2
          go_ret
          exact ⟨ev, rfl, HF.out, H6.out.old⟩
      · by_cases hq0 : q = 0
        · have hp1 : (p == 0) = false := by simp [hp0]
          have hq1 : (q == 0) = true := by simp [hq0]
          have HP := hide (show (decide (p = 0) || decide (12 < y)) = (decide (12 < y)) from by simp [hp0])
          have HQ := hide (show (decide (q = 0) || decide (140 < y)) = true from by simp [hq0])
          clear hp0 hq0
          go_wp2_with (go_at_call 58; fail)
          refine (need_any (w.heap.size + 1) (w.heap.size + 1 + 1) _ code _ (decide (12 < y)) _ HK.out.ck (by omega) HK.out.lo).mono ?_
          rintro e w5 ⟨rfl, hc5, ht5⟩
          have H5 := hide (HK.out.tch hc5 ht5)
          have a14 := (H5.out.blk.cell 14).trans (rootI_get14 s ds p q HD.out)
          clear hc5 ht5 a13
          go_wp2_with (go_at_call 58; fail)
          refine (need_any (w.heap.size + 1) (w.heap.size + 1 + 1) _ code _ true _ H5.out.ck (by omega) H5.out.lo).mono ?_
          rintro e w6 ⟨rfl, hc6, ht6⟩
          have H6 := hide (H5.out.tch hc6 ht6)
          obtain ⟨ev, c6, hf6⟩ := H6.out.fault
          have HF := hide (show FaultIs w6 w.heap.size (rightR s ds p q) ev code from by rw [← HY.out]; unfold rightI; rw [HP.out, HQ.out]; exact hf6)
          clear hc6 ht6 a14 hf6
          go_wp2
          go_ret
          exact ⟨ev, rfl, HF.out, H6.out.old⟩
        · have hp1 : (p == 0) = false := by simp [hp0]
          have hq1 : (q == 0) = false := by simp [hq0]
          have HP := hide (show (decide (p = 0) || decide (12 < y)) = (decide (12 < y)) from by simp [hp0])
          have HQ := hide (show (decide (q = 0) || decide (140 < y)) = (decide (140 < y)) from by simp [hq0])
          clear hp0 hq0
          go_wp2_with (go_at_call 58; fail)
          refine (need_any (w.heap.size + 1) (w.heap.size + 1 + 1) _ code _ (decide (12 < y)) _ HK.out.ck (by omega) HK.out.lo).mono ?_
          rintro e w5 ⟨rfl, hc5, ht5⟩
          have H5 := hide (HK.out.tch hc5 ht5)
          have a14 := (H5.out.blk.cell 14).trans (rootI_get14 s ds p q HD.out)
          clear hc5 ht5 a13
          go_wp2_with (go_at_call 58; fail)
          refine (need_any (w.heap.size + 1) (w.heap.size + 1 + 1) _ code _ (decide (140 < y)) _ H5.out.ck (by omega) H5.out.lo).mono ?_
          rintro e w6 ⟨rfl, hc6, ht6⟩
          have H6 := hide (H5.out.tch hc6 ht6)
          obtain ⟨ev, c6, hf6⟩ := H6.out.fault
          have HF := hide (show FaultIs w6 w.heap.size (rightR s ds p q) ev code from by rw [← HY.out]; unfold rightI; rw [HP.out, HQ.out]; exact hf6)
          clear hc6 ht6 a14 hf6
          go_wp2
          go_ret
          exact ⟨ev, rfl, HF.out, H6.out.old⟩
end Go.Proofs.YtlimollpocagiaaGreatDoor

namespace Go.Proofs.YtlimollpocagiaaGreatDoor
set_option linter.unusedVariables false
set_option linter.unusedSimpArgs false
open Go.RowKit

theorem fold_setT (off : Nat) : ∀ (vs : List Value) (n : Nat) (L : List Value), off + n + vs.length ≤ L.length →
    ((vs.zipIdx n).foldl (fun (cs : Array Value) (p : Value × Nat) => cs.setIfInBounds (off + p.2) p.1) L.toArray) = (L.take (off + n) ++ vs ++ L.drop (off + n + vs.length)).toArray
  | [], n, L, h => by simp
  | v :: vs, n, L, h => by
    have hlt : off + n < L.length := by simp at h; omega
    rw [List.zipIdx_cons, List.foldl_cons]
    have e : L.toArray.setIfInBounds (off + n) v = (L.take (off + n) ++ v :: L.drop (off + n + 1)).toArray := by
      rw [List.setIfInBounds_toArray, List.set_eq_take_append_cons_drop, if_pos hlt]
    rw [e, fold_setT off vs (n + 1) _ (by simp at h ⊢; omega)]
    have hl : (L.take (off + n)).length = off + n := by rw [List.length_take]; omega
    have e1 : (L.take (off + n) ++ v :: L.drop (off + n + 1)).take (off + (n + 1)) = L.take (off + n) ++ [v] := by
      rw [List.take_append, hl, List.take_of_length_le (by omega), show off + (n + 1) - (off + n) = 1 by omega]
      rfl
    have e2 : (L.take (off + n) ++ v :: L.drop (off + n + 1)).drop (off + (n + 1) + vs.length) = L.drop (off + n + (v :: vs).length) := by
      rw [List.drop_append, hl, List.drop_of_length_le (by omega), List.nil_append, show off + (n + 1) + vs.length - (off + n) = vs.length + 1 by omega, List.drop_succ_cons, List.drop_drop]
      congr 1
      simp
      omega
    rw [e1, e2]
    simp
theorem fill_oneT (p : Nat → Option (Nat × Nat)) (i off : Nat) (v : Value) (vs L : List Value) (rest : List (Nat × Value)) (hp : p i = some (off, vs.length)) (hv : v.cells = vs.toArray) (hl : off + vs.length ≤ L.length) :
    Instr.fill p L.toArray ((i, v) :: rest) = Instr.fill p (L.take off ++ vs ++ L.drop (off + vs.length)).toArray rest := by
  have hf : (vs.toArray.zipIdx.foldl (fun (cs : Array Value) (p : Value × Nat) => cs.setIfInBounds (off + p.2) p.1) L.toArray) = (L.take off ++ vs ++ L.drop (off + vs.length)).toArray := by
    rw [← Array.foldl_toList, Array.toList_zipIdx]
    exact fold_setT off vs 0 L (by omega)
  rw [Instr.fill, hp]
  simp only [hv]
  rw [if_neg (by simp; omega)]
  rw [← hf]
/-- The cells of a tree. -/
def treT (img : Value) (X : List Int) : Array Value := ([img] ++ X.map (Value.int .i64)).toArray
def placesT : List (Nat × Nat) := [(0, 1), (1, 15)]
def zeroTT : List Value := [Value.slice none 0 0] ++ (List.replicate 15 (0 : Int)).map (Value.int .i64)
theorem built_partsT (parts : List (Nat × Value)) : Tryz.prog.built 87 parts = Instr.fill (placesT.toArray[·]?) zeroTT.toArray parts := by kernel_rfl
theorem built_tre (a : Option Addr) (n c : Nat) (X : List Int) (hX : X.length = 15) : Tryz.prog.built 87 [(0, .slice a n c), (1, .agg (cellsI X))] = some (treT (.slice a n c) X) := by
  rw [built_partsT]
  rw [fill_oneT _ 0 0 (.slice a n c) [.slice a n c] zeroTT _ rfl rfl (by simp [zeroTT])]
  have e1 : zeroTT.take 0 ++ [Value.slice a n c] ++ zeroTT.drop (0 + [Value.slice a n c].length) = [Value.slice a n c] ++ (List.replicate 15 (0 : Int)).map (Value.int .i64) := rfl
  rw [e1]
  rw [fill_oneT _ 1 1 (.agg (cellsI X)) (X.map (Value.int .i64)) _ _ (by rw [List.length_map, hX]; rfl) rfl (by simp [hX])]
  have e2 : ([Value.slice a n c] ++ (List.replicate 15 (0 : Int)).map (Value.int .i64)).take 1 ++ X.map (Value.int .i64) ++ ([Value.slice a n c] ++ (List.replicate 15 (0 : Int)).map (Value.int .i64)).drop (1 + (X.map (Value.int .i64)).length) = [Value.slice a n c] ++ X.map (Value.int .i64) := by
    rw [List.length_map, hX]
    simp
  rw [e2, Instr.fill]
  rfl
theorem run_buildT {P : Program} {o : Oper} {a : Act} {w : World} (t : TypeId) (parts : Array (Nat × Operand)) (ho : o.op = .build t parts) (cells : Array Value) (hf : P.built t (parts.map fun (i, x) => (i, a.eval x)).toList = some cells) : (execOp a.eval o).run P w = .ok (.value (.agg cells)) w := by
  unfold execOp
  simp only [ho, Sem.run_bind, run_build w t _ cells hf, Result.andThen_ok]
  rfl
theorem treT_one {a : Option Addr} {n c : Nat} (X : List Int) : (treT (.slice a n c) X).all (·.oneCell') = true := by simp [treT, Value.oneCell']
theorem treT_size (img : Value) (X : List Int) (hX : X.length = 15) : (treT img X).size = 16 := by simp [treT, hX]
theorem own_shape5 {w : World} {base : Nat} {e : TypeId} {v : Value} {n : Nat} {xs : List Value} (h : w.ownsRow base e 1 v n xs) : ∃ a cap, v = .slice a n cap := by
  rcases h.2 with ⟨rfl, rfl⟩ | ⟨g, cap, _, rfl, _⟩
  · exact ⟨_, _, rfl⟩
  · exact ⟨_, _, rfl⟩
/-- What the walk over a root tells. -/
def ZR (zs : List Int) (s : Int) (ds : List Int) (p q : Int) : TL := allT (topsT ((s.toNat + 511) / 512) (zs.length / 512) (wrdP zs) (fun j => (ds ++ [p, q]).getD j 0))
def okR (zs : List Int) (s : Int) (ds : List Int) (p q : Int) : Bool := szOk zs.length && rightR s ds p q
def trB (zs : List Int) (s : Int) (ds : List Int) (p q : Int) : List Int := if okR zs s ds p q = true ∧ (ZR zs s ds p q).2 = false then contP zs s.toNat (upX (ZR zs s ds p q).1) else []
theorem right_size {s : Int} {ds : List Int} {p q : Int} (h : rightR s ds p q = true) : 0 ≤ s ∧ s ≤ 262144 := by
  unfold rightR at h
  simp only [Bool.and_eq_true, decide_eq_true_eq] at h
  exact h.1
theorem treT_0 (img : Value) (X : List Int) : (treT img X)[0]? = some img := by simp [treT]
theorem treT_k (img : Value) (X : List Int) (k : Nat) (h : k < X.length) : (treT img X)[1 + k]? = some (.int .i64 (X.getD k 0)) := by
  unfold treT
  rw [List.getElem?_toArray, List.getElem?_append_right (by simp)]
  simp [List.getD, h]
end Go.Proofs.YtlimollpocagiaaGreatDoor

namespace Go.Proofs.YtlimollpocagiaaGreatDoor
set_option linter.unusedVariables false
set_option linter.unusedSimpArgs false
open Go.RowKit

theorem infoP3 : (Tryz.prog.info? 138).map (·.size) = some 3 := by kernel_rfl
def placeV (l o i c : Int) : Value := .tuple #[.agg #[.int .i64 l, .int .i64 o, .int .i64 i], .int .i64 c]
set_option maxRecDepth 100000 in
set_option maxHeartbeats 400000 in
theorem specP_0 (x : Nat) (w : World) (h : x < 12) :
    Calls Tryz.prog 80 #[.int .i64 x] w fun e w' => e = .returned (placeV 0 0 x 0) ∧ Below w.heap.size w w' := by
  have HB := hide (show ∀ C, Below w.heap.size w (w.alloc C) from fun C => (Below.refl _ _).alloc (Nat.le_refl _) _)
  go_enter Tryz.func80, Tryz.ntmps80
  go_wp2
  refine bodyPost_ret (v := placeV 0 0 x 0) ?_ rfl ⟨rfl, HB.out _⟩
  exact results_row_tmp rfl _ _ w.heap.size 138 _ (0, 0) _ _ rfl rfl (heap_alloc_new w _) Tryz.underlying138 rfl infoP3
set_option maxRecDepth 100000 in
set_option maxHeartbeats 400000 in
theorem specP_1 (x : Nat) (w : World) (h : x < 128) :
    Calls Tryz.prog 80 #[.int .i64 ((x + 12 : Nat) : Int)] w fun e w' => e = .returned (placeV 1 0 x 0) ∧ Below w.heap.size w w' := by
  have HB := hide (show ∀ C, Below w.heap.size w (w.alloc C) from fun C => (Below.refl _ _).alloc (Nat.le_refl _) _)
  go_enter Tryz.func80, Tryz.ntmps80
  go_wp2
  refine bodyPost_ret (v := placeV 1 0 x 0) ?_ rfl ⟨rfl, HB.out _⟩
  exact results_row_tmp rfl _ _ w.heap.size 138 _ (0, 0) _ _ rfl rfl (heap_alloc_new w _) Tryz.underlying138 rfl infoP3
set_option maxRecDepth 100000 in
set_option maxHeartbeats 400000 in
theorem specP_2 (x : Nat) (w : World) (h : x < 372) :
    Calls Tryz.prog 80 #[.int .i64 ((x + 140 : Nat) : Int)] w fun e w' => e = .returned (placeV 2 ((x / 128 : Nat) : Int) ((x % 128 : Nat) : Int) 0) ∧ Below w.heap.size w w' := by
  have HB := hide (show ∀ C, Below w.heap.size w (w.alloc C) from fun C => (Below.refl _ _).alloc (Nat.le_refl _) _)
  go_enter Tryz.func80, Tryz.ntmps80
  go_wp2
  have e1 : (x : Int) / 128 = ((x / 128 : Nat) : Int) := by omega
  have e2 : (x : Int) % 128 = ((x % 128 : Nat) : Int) := by omega
  rw [e1, e2]
  refine bodyPost_ret (v := placeV 2 ((x / 128 : Nat) : Int) ((x % 128 : Nat) : Int) 0) ?_ rfl ⟨rfl, HB.out _⟩
  exact results_row_tmp rfl _ _ w.heap.size 138 _ (0, 0) _ _ rfl rfl (heap_alloc_new w _) Tryz.underlying138 rfl infoP3

end Go.Proofs.YtlimollpocagiaaGreatDoor
