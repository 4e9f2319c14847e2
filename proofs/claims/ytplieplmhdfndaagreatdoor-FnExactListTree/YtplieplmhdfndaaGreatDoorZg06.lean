/- The model's look at an inode: l02Inode. The program's look at a root: isPointer, blocksOf, pointersFault, rootFault. The program's look at a root, whole: rootFault. -/
import Derived.Test.YtplieplmhdfndaaGreatDoorZg05
import Derived.Deep.MidRow
import Derived.BigFrame
import Derived.Test.YtplieplmhdfndaaGreatDoorZg03
namespace Go.Proofs.YtplieplmhdfndaaGreatDoor
set_option linter.unusedVariables false
set_option linter.unusedSimpArgs false
open Go.RowKit

theorem zeroB_root (s : Int) (ds : List Int) (p q : Int) (hd : ds.length = 12) : zeroB (rootI s ds p q) = ((s == 0) && (zeroB ds && ((p == 0) && ((q == 0) && true)))) := by
  simp [zeroB, rootI, List.all_append]
set_option maxRecDepth 100000 in
theorem eqRoot_zero (w : World) (d : Nat) (s : Int) (ds : List Int) (p q : Int) (hd : ds.length = 12) :
    (Op.equalIn (d + 3) 226 (.agg (cellsI (rootI s ds p q))) (.agg (cellsI (List.replicate 15 0)))).run Tryz.prog w = .ok (zeroB (rootI s ds p q)) w := by
  obtain ⟨i12, hi12⟩ := info_of_underlying Tryz.underlying224
  have e1 : (cellsI (rootI s ds p q)).extract 1 (1 + Tryz.prog.cellsOf 224) = cellsI ds := by
    rw [cellsT_12]
    match ds, hd with | [_, _, _, _, _, _, _, _, _, _, _, _], _ => rfl
  have e2 : (cellsI (List.replicate 15 0)).extract 1 (1 + Tryz.prog.cellsOf 224) = cellsI (List.replicate 12 0) := by
    rw [cellsT_12]; rfl
  have h := eqArr_zero w d ds hd
  rw [← e1, ← e2] at h
  rw [run_equalIn_agg w (d + 2) _ _ _ structRoot heldRoot]
  unfold Program.fieldsOf
  rw [Tryz.underlying226, zeroB_root s ds p q hd]
  exact eqFields_cons w (by decide) (part_one w Tryz.underlying3 (v := .int .i64 s) rfl) (part_one w Tryz.underlying3 (v := .int .i64 0) rfl) (run_equalIn_int w (d + 1) _ .i64 .i64 _ _ Tryz.underlying3)
    (eqFields_cons w (by decide) (part_many w Tryz.underlying224 rfl hi12 _ _) (part_many w Tryz.underlying224 rfl hi12 _ _) h
    (eqFields_cons w (by decide) (part_one w Tryz.underlying3 (v := .int .i64 p) (rootI_get13 s ds p q hd)) (part_one w Tryz.underlying3 (v := .int .i64 0) rfl) (run_equalIn_int w (d + 1) _ .i64 .i64 _ _ Tryz.underlying3)
    (eqFields_cons w (by decide) (part_one w Tryz.underlying3 (v := .int .i64 q) (rootI_get14 s ds p q hd)) (part_one w Tryz.underlying3 (v := .int .i64 0) rfl) (run_equalIn_int w (d + 1) _ .i64 .i64 _ _ Tryz.underlying3)
    (by simp [Op.eqFields]))))
set_option maxRecDepth 100000 in
theorem eqIno_zero (w : World) (d : Nat) (k0 k1 k2 k3 k4 k5 k6 k7 k8 s : Int) (ds : List Int) (p q : Int) (hd : ds.length = 12) :
    (Op.equalIn (d + 5) 228 (.agg (cellsI (inoI [k0, k1, k2, k3, k4, k5, k6, k7, k8] s ds p q))) (.agg (cellsI (List.replicate 24 0)))).run Tryz.prog w = .ok (zeroB (inoI [k0, k1, k2, k3, k4, k5, k6, k7, k8] s ds p q)) w := by
  obtain ⟨i15, hi15⟩ := info_of_underlying Tryz.underlying226
  have e1 : (cellsI (inoI [k0, k1, k2, k3, k4, k5, k6, k7, k8] s ds p q)).extract 9 (9 + Tryz.prog.cellsOf 226) = cellsI (rootI s ds p q) := by
    rw [cellsT_15]
    match ds, hd with | [_, _, _, _, _, _, _, _, _, _, _, _], _ => rfl
  have e2 : (cellsI (List.replicate 24 0)).extract 9 (9 + Tryz.prog.cellsOf 226) = cellsI (List.replicate 15 0) := by
    rw [cellsT_15]; rfl
  have h := eqRoot_zero w (d + 1) s ds p q hd
  rw [← e1, ← e2] at h
  have hz : zeroB (inoI [k0, k1, k2, k3, k4, k5, k6, k7, k8] s ds p q) = ((k0 == 0) && ((k1 == 0) && ((k2 == 0) && ((k3 == 0) && ((k4 == 0) && ((k5 == 0) && ((k6 == 0) && ((k7 == 0) && ((k8 == 0) && (zeroB (rootI s ds p q) && true)))))))))) := by
    simp [zeroB, inoI, List.all_append]
  rw [run_equalIn_agg w (d + 4) _ _ _ structIno heldIno]
  unfold Program.fieldsOf
  rw [Tryz.underlying228, hz]
  exact eqFields_cons w (by decide) (part_one w Tryz.underlying3 (v := .int .i64 k0) rfl) (part_one w Tryz.underlying3 (v := .int .i64 0) rfl) (run_equalIn_int w (d + 3) _ .i64 .i64 _ _ Tryz.underlying3) (eqFields_cons w (by decide) (part_one w Tryz.underlying3 (v := .int .i64 k1) rfl) (part_one w Tryz.underlying3 (v := .int .i64 0) rfl) (run_equalIn_int w (d + 3) _ .i64 .i64 _ _ Tryz.underlying3) (eqFields_cons w (by decide) (part_one w Tryz.underlying3 (v := .int .i64 k2) rfl) (part_one w Tryz.underlying3 (v := .int .i64 0) rfl) (run_equalIn_int w (d + 3) _ .i64 .i64 _ _ Tryz.underlying3) (eqFields_cons w (by decide) (part_one w Tryz.underlying3 (v := .int .i64 k3) rfl) (part_one w Tryz.underlying3 (v := .int .i64 0) rfl) (run_equalIn_int w (d + 3) _ .i64 .i64 _ _ Tryz.underlying3) (eqFields_cons w (by decide) (part_one w Tryz.underlying3 (v := .int .i64 k4) rfl) (part_one w Tryz.underlying3 (v := .int .i64 0) rfl) (run_equalIn_int w (d + 3) _ .i64 .i64 _ _ Tryz.underlying3) (eqFields_cons w (by decide) (part_one w Tryz.underlying3 (v := .int .i64 k5) rfl) (part_one w Tryz.underlying3 (v := .int .i64 0) rfl) (run_equalIn_int w (d + 3) _ .i64 .i64 _ _ Tryz.underlying3) (eqFields_cons w (by decide) (part_one w Tryz.underlying3 (v := .int .i64 k6) rfl) (part_one w Tryz.underlying3 (v := .int .i64 0) rfl) (run_equalIn_int w (d + 3) _ .i64 .i64 _ _ Tryz.underlying3) (eqFields_cons w (by decide) (part_one w Tryz.underlying3 (v := .int .i64 k7) rfl) (part_one w Tryz.underlying3 (v := .int .i64 0) rfl) (run_equalIn_int w (d + 3) _ .i64 .i64 _ _ Tryz.underlying3) (eqFields_cons w (by decide) (part_one w Tryz.underlying3 (v := .int .i64 k8) rfl) (part_one w Tryz.underlying3 (v := .int .i64 0) rfl) (run_equalIn_int w (d + 3) _ .i64 .i64 _ _ Tryz.underlying3)  (eqFields_cons w (by decide) (part_many w Tryz.underlying226 rfl hi15 _ _) (part_many w Tryz.underlying226 rfl hi15 _ _) h (by simp [Op.eqFields]))))))))))

theorem wpList_load_midG {P : Program} {ops : Array Oper} {rest : List Oper} {op : Oper} {a : Act} {w : World} {Q : Exit → Act → World → Prop} (hw : Region.wanted op (yielded ops a.tmps) = true) (ty : TypeId) (x : Operand) (ho : op.op = .load ty x)
    (b o : Nat) (hx : a.eval x = .pointer (some ⟨b, o, none⟩)) (cs : List Value) (d : TypeDesc) (hc : w.rangeAt b o cs)
    (hu : P.underlying ty = some d) (hd : d.isRow = true) (hi : (P.info? ty).map (·.size) = some cs.length)
    (h : wpList P ops Q rest (a.put op.dst (.agg cs.toArray)) w) : wpList P ops Q (op :: rest) a w :=
  Go.BigFrame.wpList_want hw fun _ hK => wp_load_mid ty x ho b o hx cs d hc hu hd hi (hK _ _ h)

def wi (x lo hi : Int) : Bool := decide (lo ≤ x) && decide (x ≤ hi)
theorem wi_true {x lo hi : Int} (h : wi x lo hi = true) : lo ≤ x ∧ x ≤ hi := by simpa [wi] using h
theorem l02Within_any (x lo hi : Int) (w : World) : Calls Tryz.prog 54 #[.int .i64 x, .int .i64 lo, .int .i64 hi] w fun e w' => e = .returned (.bool (wi x lo hi)) ∧ w = w' := by
  by_cases h1 : lo ≤ x
  · have HR := hide (show wi x lo hi = decide (x ≤ hi) from by simp [wi, h1])
    go_enter Tryz.func54, Tryz.ntmps54
    go_wp2
    go_ret
    exact ⟨ret_bool (by rw [HR.out]), rfl⟩
  · have HR := hide (show wi x lo hi = false from by simp [wi, h1])
    have hq : decide (lo ≤ x) = false := by simp [h1]
    go_enter Tryz.func54, Tryz.ntmps54
    go_wp2
    go_ret
    exact ⟨ret_bool (by rw [HR.out]), rfl⟩

/-- An inode other than the empty one is right. -/
def parB (k0 k5 : Int) : Bool := if k0 = 2 then wi k5 1 1000 else (k5 == 0)
def fieldsB (k0 k1 k2 k3 k4 k5 k6 k7 k8 : Int) : Bool := wi k0 1 3 && wi k1 1 1000 && wi k2 0 4095 && wi k3 0 65535 && wi k4 0 65535 && parB k0 k5 && wi k6 1 1099511627776 && wi k7 1 1099511627776 && wi k8 1 1099511627776
def rightIno (k0 k1 k2 k3 k4 k5 k6 k7 k8 s : Int) (ds : List Int) (p q : Int) : Bool := zeroB (inoI [k0, k1, k2, k3, k4, k5, k6, k7, k8] s ds p q) || (fieldsB k0 k1 k2 k3 k4 k5 k6 k7 k8 && rightR s ds p q)

end Go.Proofs.YtplieplmhdfndaaGreatDoor

namespace Go.Proofs.YtplieplmhdfndaaGreatDoor
set_option linter.unusedVariables false
set_option linter.unusedSimpArgs false
open Go.RowKit

theorem isBlock_any (x n : Int) (w : World) : Calls Tryz.prog 215 #[.int .i64 x, .int .i64 n] w fun e w' => e = .returned (.bool (decide (2 ≤ x) && decide (x < n))) ∧ w = w' := by
  by_cases h2 : 2 ≤ x
  · have HR := hide (show (decide (2 ≤ x) && decide (x < n)) = decide (x < n) from by simp [h2])
    go_enter Tryz.func215, Tryz.ntmps215
    go_wp2
    go_ret
    exact ⟨ret_bool (by rw [HR.out]), rfl⟩
  · have hq2 : decide (2 ≤ x) = false := by simp; omega
    have HR := hide (show (decide (2 ≤ x) && decide (x < n)) = false from by rw [hq2]; rfl)
    go_enter Tryz.func215, Tryz.ntmps215
    go_wp2
    go_ret
    exact ⟨ret_bool (by first | rfl | rw [HR.out]), rfl⟩
theorem isPointer_any (x n : Int) (w : World) : Calls Tryz.prog 209 #[.int .i64 x, .int .i64 n] w fun e w' => e = .returned (.bool (ptrB x n)) ∧ w = w' := by
  have HP := hide (show ptrB x n = (decide (x = 0) || (decide (2 ≤ x) && decide (x < n))) from rfl)
  by_cases h0 : x = 0
  · subst h0
    go_enter Tryz.func209, Tryz.ntmps209
    go_wp2
    go_ret
    exact ⟨rfl, rfl⟩
  · have hq : (x == 0) = false := by simp [h0]
    have HD := hide (show ptrB x n = (decide (2 ≤ x) && decide (x < n)) from by rw [HP.out]; simp [h0])
    clear h0
    go_enter Tryz.func209, Tryz.ntmps209
    go_wp2_with (go_at_call 215; refine (isBlock_any x n _).mono ?_; rintro e w' ⟨rfl, rfl⟩)
    go_ret
    exact ⟨ret_bool (by rw [HD.out]), rfl⟩

theorem blocksOf_out (x : Int) (w : World) : Calls Tryz.prog 195 #[.int .i64 x] w fun e w' => (∃ y, e = .returned (.int .i64 y) ∧ (0 ≤ x → x ≤ 262144 → y = (x + 511) / 512)) ∧ w = w' := by
  by_cases h0 : 0 ≤ x ∧ x ≤ 262144
  · obtain ⟨h0, h1⟩ := h0
    have h2 : x / 512 ≤ 512 := by omega
    have h3 : 0 ≤ x / 512 := by omega
    by_cases hr : x % 512 = 0
    · have hq : (x % 512 != 0) = false := by simp [hr]
      have HR := hide hr
      clear hr
      go_enter Tryz.func195, Tryz.ntmps195
      go_wp2
      go_ret
      exact ⟨⟨x / 512, rfl, fun _ _ => by have := HR.out; omega⟩, rfl⟩
    · have hq : (x % 512 != 0) = true := by simpa using hr
      have HR := hide hr
      clear hr
      go_enter Tryz.func195, Tryz.ntmps195
      go_wp2
      go_ret
      exact ⟨⟨x / 512 + 1, rfl, fun _ _ => by have := HR.out; omega⟩, rfl⟩
  · have H := hide h0
    clear h0
    go_enter Tryz.func195, Tryz.ntmps195
    go_wp2
    all_goals go_ret
    all_goals exact ⟨⟨_, rfl, fun a b => absurd ⟨a, b⟩ H.out⟩, rfl⟩

theorem index12 (ds : List Int) (k : Nat) (hd : ds.length = 12) (hk : k < 12) (w : World) : (Instr.index 224 (.agg (cellsI ds)) (.int .i64 k)).run Tryz.prog w = .ok (.int .i64 (ds.getD k 0)) w := by
  have hg : k < ds.length := by omega
  simp [Instr.index, run_underlying Tryz.underlying224, asIntOf, go_sem, cellsI, hg]
  intro h
  omega
theorem all_take' (f : Int → Bool) (ds : List Int) (k : Nat) (h : k < ds.length) : (ds.take (k + 1)).all f = ((ds.take k).all f && f (ds.getD k 0)) := by
  rw [List.take_succ_eq_append_getElem h, List.all_append]
  simp [List.getD, h]
/-- What the loops keep: the boxed root, the check, and all that is older. -/
structure Kp (w wr : World) (C : Array Value) (t : TypeId) (code : Int) (ok : Bool) : Prop where
  blk : Blk wr w.heap.size C t
  ck : Ck wr (w.heap.size + 1) (w.heap.size + 1 + 1) code ok
  old : Below w.heap.size w wr
theorem Kp.lo {w wr : World} {C : Array Value} {t : TypeId} {code : Int} {ok : Bool} (h : Kp w wr C t code ok) : w.heap.size + 1 + 1 ≤ wr.heap.size := h.ck.lt
theorem Kp.tch {w wr w' : World} {C : Array Value} {t : TypeId} {code : Int} {ok ok' : Bool} (h : Kp w wr C t code ok) (hc : Ck w' (w.heap.size + 1) (w.heap.size + 1 + 1) code ok') (ht : Tch (w.heap.size + 1) wr w') : Kp w w' C t code ok' :=
  ⟨(ht.1.block _ h.blk.lt (by simp)).trans h.blk, hc, ht.under h.old (by omega) (Nat.le_of_lt h.blk.lt)⟩
theorem Kp.fault {w wr : World} {C : Array Value} {t : TypeId} {code : Int} {ok : Bool} (h : Kp w wr C t code ok) : ∃ ev, wr.cell? ⟨w.heap.size + 1, 1, none⟩ = some ev ∧ FaultIs wr w.heap.size ok ev code := by
  obtain ⟨_, _, ev, c3, c4⟩ := h.ck
  refine ⟨ev, c3, ?_⟩
  rcases c4 with c4 | ⟨c4, n, c5⟩
  · exact .inl c4
  · exact .inr ⟨c4, n, c5.mono (by omega)⟩

def ptrsB (ds : List Int) (p q n : Int) : Bool := (ds.all fun x => ptrB x n) && ptrB p n && ptrB q n

set_option maxRecDepth 100000 in
set_option maxHeartbeats 1000000 in
theorem pointersFault_any (s : Int) (ds : List Int) (p q n code : Int) (w : World) (hd : ds.length = 12) :
    Calls Tryz.prog 194 #[.agg (cellsI (rootI s ds p q)), .int .i64 n, .int .i64 code] w fun e w' => ∃ ev, e = .returned ev ∧ FaultIs w' w.heap.size (ptrsB ds p q n) ev code ∧ Below w.heap.size w w' := by
  have HD := hide hd
  have kB := (Blk.new w (cellsI (rootI s ds p q)) 226).alloc (.cells #[.int .i64 code, .nilIface] 127)
  have kC := Ck.fresh (w.alloc (.cells (cellsI (rootI s ds p q)) 226)) code 127
  rw [World.size_alloc] at kC
  have hb0 : Below w.heap.size w ((w.alloc (.cells (cellsI (rootI s ds p q)) 226)).alloc (.cells #[.int .i64 code, .nilIface] 127)) := ((Below.refl _ _).alloc (Nat.le_refl _) _).alloc (by simp) _
  have hr := kB.range 1 12 (by rw [rootI_len _ _ _ _ HD.out]; omega)
  rw [root_range _ _ _ _ HD.out] at hr
  have HX := hide (fun k hk w => index12 ds k HD.out hk w)
  have K := hide (show Kp w ((w.alloc (.cells (cellsI (rootI s ds p q)) 226)).alloc (.cells #[.int .i64 code, .nilIface] 127)) (cellsI (rootI s ds p q)) 226 code true from ⟨kB, kC, hb0⟩)
  have HR := hide hr
  clear hd kB kC hb0 hr
  go_enter Tryz.func194, Tryz.ntmps194
  go_wp2_with (refine wpList_load_mid rfl 224 _ rfl w.heap.size 1 rfl (ds.map (Value.int .i64)) _ HR.out Tryz.underlying224 rfl (by rw [List.length_map, HD.out]; exact info12) ?_)
  go_loopw [14] (fun i wr => ∃ k : Nat, k ≤ 12 ∧ i = .int .i64 k ∧ Kp w wr (cellsI (rootI s ds p q)) 226 code ((ds.take k).all fun x => ptrB x n)) (fun i _ => 12 - (intOf i).toNat)
  case atStart => exact ⟨0, by omega, rfl, K.out⟩
  case round =>
    obtain ⟨k, hk, rfl, hkp⟩ := hrel
    have HK := hide hkp
    clear hkp K HR
    by_cases hlt : k < 12
    · have hix : ∀ w, (Instr.index 224 (.agg (ds.map (Value.int .i64)).toArray) (.int .i64 k)).run Tryz.prog w = .ok (.int .i64 (ds.getD k 0)) w := fun w => HX.out k hlt w
      have HT := hide (all_take' (fun x => ptrB x n) ds k (by rw [HD.out]; exact hlt))
      generalize ds.getD k 0 = z at hix HT
      go_wp2_with (first | (go_at_call 209; refine (isPointer_any z n _).mono ?_; rintro e w1 ⟨rfl, rfl⟩) | (go_at_call 86; refine (need_any (w.heap.size + 1) (w.heap.size + 1 + 1) _ code _ (ptrB z n) _ HK.out.ck (by omega) HK.out.lo).mono ?_; rintro e w1 ⟨rfl, hc1, ht1⟩))
      have H1 := hide (HK.out.tch hc1 ht1)
      clear hc1 ht1
      go_roundw
      case rel => exact ⟨k + 1, by omega, by go_num, by rw [HT.out]; exact H1.out⟩
      case measure => simp [intOf]; omega
    · have e12 : k = 12 := by omega
      subst e12
      rw [List.take_of_length_le (by rw [HD.out]; omega)] at HK
      have a13 := (HK.out.blk.cell 13).trans (rootI_get13 s ds p q HD.out)
      have lt1 := HK.out.lo
      go_wp2_with (first | (go_at_call 209; refine (isPointer_any p n _).mono ?_; rintro e w1 ⟨rfl, rfl⟩) | (go_at_call 86; fail))
      refine (need_any (w.heap.size + 1) (w.heap.size + 1 + 1) _ code _ (ptrB p n) _ HK.out.ck (by omega) HK.out.lo).mono ?_
      rintro e w1 ⟨rfl, hc1, ht1⟩
      have H1 := hide (HK.out.tch hc1 ht1)
      have a14 := (H1.out.blk.cell 14).trans (rootI_get14 s ds p q HD.out)
      clear hc1 ht1 a13 lt1
      go_wp2_with (first | (go_at_call 209; refine (isPointer_any q n _).mono ?_; rintro e w1' ⟨rfl, rfl⟩) | (go_at_call 86; fail))
      refine (need_any (w.heap.size + 1) (w.heap.size + 1 + 1) _ code _ (ptrB q n) _ H1.out.ck (by omega) H1.out.lo).mono ?_
      rintro e w2 ⟨rfl, hc2, ht2⟩
      have H2 := hide (H1.out.tch hc2 ht2)
      obtain ⟨ev, c3, hf⟩ := H2.out.fault
      have HF := hide hf
      clear hc2 ht2 a14 hf
      go_wp2
      go_ret
      exact ⟨ev, rfl, HF.out, H2.out.old⟩

/-- The program's own way of saying rightR. -/
def rightI (s : Int) (ds : List Int) (p q y : Int) : Bool :=
  (((((decide (0 ≤ s) && decide (s ≤ 262144)) && ptrsB ds p q 2048) && ((List.range 12).all fun i => decide (ds.getD i 0 = 0) || decide ((i : Int) < y))) && (decide (p = 0) || decide (12 < y))) && (decide (q = 0) || decide (140 < y)))
theorem right_eq (s : Int) (ds : List Int) (p q y : Int) (hd : ds.length = 12) (hy : 0 ≤ s → s ≤ 262144 → y = (s + 511) / 512) : rightI s ds p q y = rightR s ds p q := by
  unfold rightI rightR
  by_cases h1 : 0 ≤ s
  · by_cases h2 : s ≤ 262144
    · rw [hy h1 h2]
      match ds, hd with
      | [d0, d1, d2, d3, d4, d5, d6, d7, d8, d9, d10, d11], _ =>
        simp [ptrsB, allR, okAt, lst, h1, h2, List.range, List.range.loop, List.getD]
        ac_rfl
    · simp [h2]
  · simp [h1]
end Go.Proofs.YtplieplmhdfndaaGreatDoor

namespace Go.Proofs.YtplieplmhdfndaaGreatDoor
set_option linter.unusedVariables false
set_option linter.unusedSimpArgs false
open Go.RowKit

theorem Kp.below {w wr w' : World} {C : Array Value} {t : TypeId} {code : Int} {ok : Bool} (h : Kp w wr C t code ok) (hb : Below wr.heap.size wr w') : Kp w w' C t code ok :=
  ⟨h.blk.below hb h.blk.lt, h.ck.below hb, h.old.trans (hb.mono h.old.size)⟩

theorem inside_fault (w wr w1 : World) (C : Array Value) (t : TypeId) (code : Int) (ok ok1 : Bool) (place : ByteArray) (ev : Value) (h : Kp w w1 C t code ok) (hlo : w.heap.size + 1 + 1 ≤ wr.heap.size) (hs : wr.heap.size ≤ w1.heap.size) (hf : FaultIs w1 wr.heap.size ok1 ev code) :
    Calls Tryz.prog 61 #[.pointer (some ⟨w.heap.size + 1, 0, none⟩), .string place, ev] w1 fun e w' => e = .returned (.tuple #[]) ∧ Kp w w' C t code (ok && ok1) := by
  rcases hf with ⟨rfl, rfl⟩ | ⟨rfl, m, hm⟩
  · refine (inside_nil (w.heap.size + 1) _ place code ok w1 h.ck).mono ?_
    rintro e w' ⟨rfl, rfl⟩
    exact ⟨rfl, by simpa using h⟩
  · refine (inside_any (w.heap.size + 1) (w.heap.size + 1 + 1) place code ok m ev w1 h.ck (hm.mono hlo) (by omega) h.lo).mono ?_
    rintro e w' ⟨rfl, hc, ht⟩
    exact ⟨rfl, by rw [Bool.and_false]; exact h.tch hc ht⟩

def dirsB (ds : List Int) (y : Int) (n : Nat) : Bool := (List.range n).all fun i => decide (ds.getD i 0 = 0) || decide ((i : Int) < y)
theorem dirsB_succ (ds : List Int) (y : Int) (n : Nat) : dirsB ds y (n + 1) = (dirsB ds y n && (decide (ds.getD n 0 = 0) || decide ((n : Int) < y))) := by simp [dirsB, List.range_succ]

set_option maxRecDepth 100000 in
set_option maxHeartbeats 2000000 in
theorem rootFault_any (s : Int) (ds : List Int) (p q code : Int) (w : World) (hd : ds.length = 12) :
    Calls Tryz.prog 177 #[.agg (cellsI (rootI s ds p q)), .int .i64 code] w fun e w' => ∃ ev, e = .returned ev ∧ FaultIs w' w.heap.size (rightR s ds p q) ev code ∧ Below w.heap.size w w' := by
  have HD := hide hd
  have HZ := hide (show (cellsI (rootI s ds p q)).size = 15 from by rw [cellsI_size]; exact rootI_len s ds p q HD.out)
  have kB := (Blk.new w (cellsI (rootI s ds p q)) 226).alloc (.cells #[.int .i64 code, .nilIface] 127)
  have kC := Ck.fresh (w.alloc (.cells (cellsI (rootI s ds p q)) 226)) code 127
  rw [World.size_alloc] at kC
  have hb0 : Below w.heap.size w ((w.alloc (.cells (cellsI (rootI s ds p q)) 226)).alloc (.cells #[.int .i64 code, .nilIface] 127)) := ((Below.refl _ _).alloc (Nat.le_refl _) _).alloc (by simp) _
  have HX := hide (fun k hk w => index12 ds k HD.out hk w)
  have K := hide (show Kp w ((w.alloc (.cells (cellsI (rootI s ds p q)) 226)).alloc (.cells #[.int .i64 code, .nilIface] 127)) (cellsI (rootI s ds p q)) 226 code true from ⟨kB, kC, hb0⟩)
  have c0 : ∀ o1, ((w.alloc (.cells (cellsI (rootI s ds p q)) 226)).alloc o1).cell? ⟨w.heap.size, 0, none⟩ = some (.int .i64 s) := fun o1 => by
    rw [((Blk.new w _ _).alloc o1).cell 0]; rfl
  have HS := hide (show (cellsI (rootI s ds p q))[0]? = some (.int .i64 s) from rfl)
  clear hd kB kC hb0
  go_enter Tryz.func177, Tryz.ntmps177
  go_wp2_with (go_at_call 95; fail)
  refine (within_any (w.heap.size + 1) (w.heap.size + 1 + 1) _ code s 0 262144 true _ K.out.ck (by omega) K.out.lo).mono ?_
  rintro e w1 ⟨rfl, hc1, ht1⟩
  rw [Bool.true_and] at hc1
  have H1 := hide (K.out.tch hc1 ht1)
  clear hc1 ht1 K c0
  go_wp2_with (first | (refine wpList_load_row rfl 226 _ rfl w.heap.size rfl 226 (cellsI (rootI s ds p q)) (0, 0) _ H1.out.blk Tryz.underlying226 rfl (by rw [HZ.out]; exact info15) ?_) | (go_at_call 194; fail))
  refine (pointersFault_any s ds p q 2048 code _ HD.out).mono ?_
  rintro e w2 ⟨ev2, rfl, hf2, hb2⟩
  have H2 := hide (And.intro (H1.out.below hb2) (And.intro hf2 (And.intro H1.out.lo hb2.size)))
  clear hf2 hb2
  go_wp2_with fail
  refine (inside_fault w w1 w2 _ _ code _ _ _ ev2 H2.out.1 H2.out.2.2.1 H2.out.2.2.2 H2.out.2.1).mono ?_
  rintro e w3 ⟨rfl, hk3⟩
  have H3 := hide hk3
  have c3 := (H3.out.blk.cell 0).trans HS.out
  have HR := hide (show w3.rangeAt w.heap.size 1 (ds.map (Value.int .i64)) from by
    have hr := H3.out.blk.range 1 12 (by rw [rootI_len _ _ _ _ HD.out]; omega)
    rw [root_range _ _ _ _ HD.out] at hr
    exact hr)
  clear hk3 H1 H2
  go_wp2_with (go_at_call 195; fail)
  refine (blocksOf_out s _).mono ?_
  rintro e w3' ⟨⟨y, rfl, hy⟩, rfl⟩
  have HY := hide (right_eq s ds p q y HD.out hy)
  clear hy c3
  go_wp2_with (refine wpList_load_mid rfl 224 _ rfl w.heap.size 1 rfl (ds.map (Value.int .i64)) _ HR.out Tryz.underlying224 rfl (by rw [List.length_map, HD.out]; exact info12) ?_)
  go_loopw [23] (fun i wr => ∃ k : Nat, k ≤ 12 ∧ i = .int .i64 k ∧ Kp w wr (cellsI (rootI s ds p q)) 226 code (((decide (0 ≤ s) && decide (s ≤ 262144)) && ptrsB ds p q 2048) && dirsB ds y k)) (fun i _ => 12 - (intOf i).toNat)
  case atStart => exact ⟨0, by omega, rfl, by have h := H3.out; simpa [dirsB] using h⟩
  case round =>
    obtain ⟨k, hk, rfl, hkp⟩ := hrel
    have HK := hide hkp
    clear hkp H3 HR
    by_cases hlt : k < 12
    · have hix : ∀ w, (Instr.index 224 (.agg (ds.map (Value.int .i64)).toArray) (.int .i64 k)).run Tryz.prog w = .ok (.int .i64 (ds.getD k 0)) w := fun w => HX.out k hlt w
      have HT := hide (dirsB_succ ds y k)
      generalize ds.getD k 0 = z at hix HT
      by_cases hz : z = 0
      · have hz0 : (z == 0) = true := by simp [hz]
        have HZ0 := hide (show (decide (z = 0) || decide ((k : Int) < y)) = true from by simp [hz])
        clear hz
        go_wp2_with (go_at_call 86; refine (need_any (w.heap.size + 1) (w.heap.size + 1 + 1) _ code _ true _ HK.out.ck (by omega) HK.out.lo).mono ?_; rintro e w4 ⟨rfl, hc4, ht4⟩)
        have H4 := hide (HK.out.tch hc4 ht4)
        clear hc4 ht4
        go_roundw
        case rel => exact ⟨k + 1, by omega, by go_num, by rw [HT.out, HZ0.out, ← Bool.and_assoc]; exact H4.out⟩
        case measure => simp [intOf]; omega
      · have hz0 : (z == 0) = false := by simp [hz]
        have HZ0 := hide (show (decide (z = 0) || decide ((k : Int) < y)) = decide ((k : Int) < y) from by simp [hz])
        clear hz
        go_wp2_with (go_at_call 86; refine (need_any (w.heap.size + 1) (w.heap.size + 1 + 1) _ code _ (decide ((k : Int) < y)) _ HK.out.ck (by omega) HK.out.lo).mono ?_; rintro e w4 ⟨rfl, hc4, ht4⟩)
        have H4 := hide (HK.out.tch hc4 ht4)
        clear hc4 ht4
        go_roundw
        case rel => exact ⟨k + 1, by omega, by go_num, by rw [HT.out, HZ0.out, ← Bool.and_assoc]; exact H4.out⟩
        case measure => simp [intOf]; omega
    · have e12 : k = 12 := by omega
      subst e12
      have a13 := (HK.out.blk.cell 13).trans (rootI_get13 s ds p q HD.out)
      by_cases hp0 : p = 0
      · by_cases hq0 : q = 0
        · have hp1 : (p == 0) = true := by simp [hp0]
          have hq1 : (q == 0) = true := by simp [hq0]
          have HP := hide (show (decide (p = 0) || decide (12 < y)) = true from by simp [hp0])
          have HQ := hide (show (decide (q = 0) || decide (140 < y)) = true from by simp [hq0])
          clear hp0 hq0
          go_wp2_with (go_at_call 86; fail)
          refine (need_any (w.heap.size + 1) (w.heap.size + 1 + 1) _ code _ true _ HK.out.ck (by omega) HK.out.lo).mono ?_
          rintro e w5 ⟨rfl, hc5, ht5⟩
          have H5 := hide (HK.out.tch hc5 ht5)
          have a14 := (H5.out.blk.cell 14).trans (rootI_get14 s ds p q HD.out)
          clear hc5 ht5 a13
          go_wp2_with (go_at_call 86; fail)
          refine (need_any (w.heap.size + 1) (w.heap.size + 1 + 1) _ code _ true _ H5.out.ck (by omega) H5.out.lo).mono ?_
          rintro e w6 ⟨rfl, hc6, ht6⟩
          have H6 := hide (H5.out.tch hc6 ht6)
          obtain ⟨ev, c6, hf6⟩ := H6.out.fault
          have HF := hide (show FaultIs w6 w.heap.size (rightR s ds p q) ev code from by rw [← HY.out]; unfold rightI; rw [HP.out, HQ.out]; exact hf6)
          clear hc6 ht6 a14 hf6
          go_wp2
          go_ret
          exact ⟨ev, rfl, HF.out, H6.out.old⟩
        · have hp1 : (p == 0) = true := by simp [hp0]
          have hq1 : (q == 0) = false := by simp [hq0]
          have HP := hide (show (decide (p = 0) || decide (12 < y)) = true from by simp [hp0])
          have HQ := hide (show (decide (q = 0) || decide (140 < y)) = (decide (140 < y)) from by simp [hq0])
          clear hp0 hq0
          go_wp2_with (go_at_call 86; fail)
          refine (need_any (w.heap.size + 1) (w.heap.size + 1 + 1) _ code _ true _ HK.out.ck (by omega) HK.out.lo).mono ?_
          rintro e w5 ⟨rfl, hc5, ht5⟩
          have H5 := hide (HK.out.tch hc5 ht5)
          have a14 := (H5.out.blk.cell 14).trans (rootI_get14 s ds p q HD.out)
          clear hc5 ht5 a13
          go_wp2_with (go_at_call 86; fail)
          refine (need_any (w.heap.size + 1) (w.heap.size + 1 + 1) _ code _ (decide (140 < y)) _ H5.out.ck (by omega) H5.out.lo).mono ?_
          rintro e w6 ⟨rfl, hc6, ht6⟩
          have H6 := hide (H5.out.tch hc6 ht6)
          obtain ⟨ev, c6, hf6⟩ := H6.out.fault
          have HF := hide (show FaultIs w6 w.heap.size (rightR s ds p q) ev code from by rw [← HY.out]; unfold rightI; rw [HP.out, HQ.out]; exact hf6)
          clear hc6 ht6 a14 hf6
          go_wp2
          go_ret
          exact ⟨ev, rfl, HF.out, H6.out.old⟩
      · by_cases hq0 : q = 0
        · have hp1 : (p == 0) = false := by simp [hp0]
          have hq1 : (q == 0) = true := by simp [hq0]
          have HP := hide (show (decide (p = 0) || decide (12 < y)) = (decide (12 < y)) from by simp [hp0])
          have HQ := hide (show (decide (q = 0) || decide (140 < y)) = true from by simp [hq0])
          clear hp0 hq0
          go_wp2_with (go_at_call 86; fail)
          refine (need_any (w.heap.size + 1) (w.heap.size + 1 + 1) _ code _ (decide (12 < y)) _ HK.out.ck (by omega) HK.out.lo).mono ?_
          rintro e w5 ⟨rfl, hc5, ht5⟩
          have H5 := hide (HK.out.tch hc5 ht5)
          have a14 := (H5.out.blk.cell 14).trans (rootI_get14 s ds p q HD.out)
          clear hc5 ht5 a13
          go_wp2_with (go_at_call 86; fail)
          refine (need_any (w.heap.size + 1) (w.heap.size + 1 + 1) _ code _ true _ H5.out.ck (by omega) H5.out.lo).mono ?_
          rintro e w6 ⟨rfl, hc6, ht6⟩
          have H6 := hide (H5.out.tch hc6 ht6)
          obtain ⟨ev, c6, hf6⟩ := H6.out.fault
          have HF := hide (show FaultIs w6 w.heap.size (rightR s ds p q) ev code from by rw [← HY.out]; unfold rightI; rw [HP.out, HQ.out]; exact hf6)
          clear hc6 ht6 a14 hf6
          go_wp2
          go_ret
          exact ⟨ev, rfl, HF.out, H6.out.old⟩
        · have hp1 : (p == 0) = false := by simp [hp0]
          have hq1 : (q == 0) = false := by simp [hq0]
          have HP := hide (show (decide (p = 0) || decide (12 < y)) = (decide (12 < y)) from by simp [hp0])
          have HQ := hide (show (decide (q = 0) || decide (140 < y)) = (decide (140 < y)) from by simp [hq0])
          clear hp0 hq0
          go_wp2_with (go_at_call 86; fail)
          refine (need_any (w.heap.size + 1) (w.heap.size + 1 + 1) _ code _ (decide (12 < y)) _ HK.out.ck (by omega) HK.out.lo).mono ?_
          rintro e w5 ⟨rfl, hc5, ht5⟩
          have H5 := hide (HK.out.tch hc5 ht5)
          have a14 := (H5.out.blk.cell 14).trans (rootI_get14 s ds p q HD.out)
          clear hc5 ht5 a13
          go_wp2_with (go_at_call 86; fail)
          refine (need_any (w.heap.size + 1) (w.heap.size + 1 + 1) _ code _ (decide (140 < y)) _ H5.out.ck (by omega) H5.out.lo).mono ?_
          rintro e w6 ⟨rfl, hc6, ht6⟩
          have H6 := hide (H5.out.tch hc6 ht6)
          obtain ⟨ev, c6, hf6⟩ := H6.out.fault
          have HF := hide (show FaultIs w6 w.heap.size (rightR s ds p q) ev code from by rw [← HY.out]; unfold rightI; rw [HP.out, HQ.out]; exact hf6)
          clear hc6 ht6 a14 hf6
          go_wp2
          go_ret
          exact ⟨ev, rfl, HF.out, H6.out.old⟩
end Go.Proofs.YtplieplmhdfndaaGreatDoor
