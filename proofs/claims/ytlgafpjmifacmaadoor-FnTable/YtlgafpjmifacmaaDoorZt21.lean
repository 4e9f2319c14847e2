/- The model's look at an inode: l02Inode. -/
import Derived.Test.YtlgafpjmifacmaaDoorZt04
import Derived.Test.YtlgafpjmifacmaaDoorZt15
import Derived.Deep.MidRow
import Derived.BigFrame
namespace Go.Proofs.YtlgafpjmifacmaaDoor
set_option linter.unusedVariables false
set_option linter.unusedSimpArgs false
open Go.RowKit

theorem zeroB_root (s : Int) (ds : List Int) (p q : Int) (hd : ds.length = 12) : zeroB (rootI s ds p q) = ((s == 0) && (zeroB ds && ((p == 0) && ((q == 0) && true)))) := by
  simp [zeroB, rootI, List.all_append]
set_option maxRecDepth 100000 in
theorem eqRoot_zero (w : World) (d : Nat) (s : Int) (ds : List Int) (p q : Int) (hd : ds.length = 12) :
    (Op.equalIn (d + 3) 42 (.agg (cellsI (rootI s ds p q))) (.agg (cellsI (List.replicate 15 0)))).run Tryd.prog w = .ok (zeroB (rootI s ds p q)) w := by
  obtain ⟨i12, hi12⟩ := info_of_underlying Tryd.underlying40
  have e1 : (cellsI (rootI s ds p q)).extract 1 (1 + Tryd.prog.cellsOf 40) = cellsI ds := by
    rw [cellsT_12]
    match ds, hd with | [_, _, _, _, _, _, _, _, _, _, _, _], _ => rfl
  have e2 : (cellsI (List.replicate 15 0)).extract 1 (1 + Tryd.prog.cellsOf 40) = cellsI (List.replicate 12 0) := by
    rw [cellsT_12]; rfl
  have h := eqArr_zero w d ds hd
  rw [← e1, ← e2] at h
  rw [run_equalIn_agg w (d + 2) _ _ _ structRoot heldRoot]
  unfold Program.fieldsOf
  rw [Tryd.underlying42, zeroB_root s ds p q hd]
  exact eqFields_cons w (by decide) (part_one w Tryd.underlying3 (v := .int .i64 s) rfl) (part_one w Tryd.underlying3 (v := .int .i64 0) rfl) (run_equalIn_int w (d + 1) _ .i64 .i64 _ _ Tryd.underlying3)
    (eqFields_cons w (by decide) (part_many w Tryd.underlying40 rfl hi12 _ _) (part_many w Tryd.underlying40 rfl hi12 _ _) h
    (eqFields_cons w (by decide) (part_one w Tryd.underlying3 (v := .int .i64 p) (rootI_get13 s ds p q hd)) (part_one w Tryd.underlying3 (v := .int .i64 0) rfl) (run_equalIn_int w (d + 1) _ .i64 .i64 _ _ Tryd.underlying3)
    (eqFields_cons w (by decide) (part_one w Tryd.underlying3 (v := .int .i64 q) (rootI_get14 s ds p q hd)) (part_one w Tryd.underlying3 (v := .int .i64 0) rfl) (run_equalIn_int w (d + 1) _ .i64 .i64 _ _ Tryd.underlying3)
    (by simp [Op.eqFields]))))
set_option maxRecDepth 100000 in
theorem eqIno_zero (w : World) (d : Nat) (k0 k1 k2 k3 k4 k5 k6 k7 k8 s : Int) (ds : List Int) (p q : Int) (hd : ds.length = 12) :
    (Op.equalIn (d + 5) 44 (.agg (cellsI (inoI [k0, k1, k2, k3, k4, k5, k6, k7, k8] s ds p q))) (.agg (cellsI (List.replicate 24 0)))).run Tryd.prog w = .ok (zeroB (inoI [k0, k1, k2, k3, k4, k5, k6, k7, k8] s ds p q)) w := by
  obtain ⟨i15, hi15⟩ := info_of_underlying Tryd.underlying42
  have e1 : (cellsI (inoI [k0, k1, k2, k3, k4, k5, k6, k7, k8] s ds p q)).extract 9 (9 + Tryd.prog.cellsOf 42) = cellsI (rootI s ds p q) := by
    rw [cellsT_15]
    match ds, hd with | [_, _, _, _, _, _, _, _, _, _, _, _], _ => rfl
  have e2 : (cellsI (List.replicate 24 0)).extract 9 (9 + Tryd.prog.cellsOf 42) = cellsI (List.replicate 15 0) := by
    rw [cellsT_15]; rfl
  have h := eqRoot_zero w (d + 1) s ds p q hd
  rw [← e1, ← e2] at h
  have hz : zeroB (inoI [k0, k1, k2, k3, k4, k5, k6, k7, k8] s ds p q) = ((k0 == 0) && ((k1 == 0) && ((k2 == 0) && ((k3 == 0) && ((k4 == 0) && ((k5 == 0) && ((k6 == 0) && ((k7 == 0) && ((k8 == 0) && (zeroB (rootI s ds p q) && true)))))))))) := by
    simp [zeroB, inoI, List.all_append]
  rw [run_equalIn_agg w (d + 4) _ _ _ structIno heldIno]
  unfold Program.fieldsOf
  rw [Tryd.underlying44, hz]
  exact eqFields_cons w (by decide) (part_one w Tryd.underlying3 (v := .int .i64 k0) rfl) (part_one w Tryd.underlying3 (v := .int .i64 0) rfl) (run_equalIn_int w (d + 3) _ .i64 .i64 _ _ Tryd.underlying3) (eqFields_cons w (by decide) (part_one w Tryd.underlying3 (v := .int .i64 k1) rfl) (part_one w Tryd.underlying3 (v := .int .i64 0) rfl) (run_equalIn_int w (d + 3) _ .i64 .i64 _ _ Tryd.underlying3) (eqFields_cons w (by decide) (part_one w Tryd.underlying3 (v := .int .i64 k2) rfl) (part_one w Tryd.underlying3 (v := .int .i64 0) rfl) (run_equalIn_int w (d + 3) _ .i64 .i64 _ _ Tryd.underlying3) (eqFields_cons w (by decide) (part_one w Tryd.underlying3 (v := .int .i64 k3) rfl) (part_one w Tryd.underlying3 (v := .int .i64 0) rfl) (run_equalIn_int w (d + 3) _ .i64 .i64 _ _ Tryd.underlying3) (eqFields_cons w (by decide) (part_one w Tryd.underlying3 (v := .int .i64 k4) rfl) (part_one w Tryd.underlying3 (v := .int .i64 0) rfl) (run_equalIn_int w (d + 3) _ .i64 .i64 _ _ Tryd.underlying3) (eqFields_cons w (by decide) (part_one w Tryd.underlying3 (v := .int .i64 k5) rfl) (part_one w Tryd.underlying3 (v := .int .i64 0) rfl) (run_equalIn_int w (d + 3) _ .i64 .i64 _ _ Tryd.underlying3) (eqFields_cons w (by decide) (part_one w Tryd.underlying3 (v := .int .i64 k6) rfl) (part_one w Tryd.underlying3 (v := .int .i64 0) rfl) (run_equalIn_int w (d + 3) _ .i64 .i64 _ _ Tryd.underlying3) (eqFields_cons w (by decide) (part_one w Tryd.underlying3 (v := .int .i64 k7) rfl) (part_one w Tryd.underlying3 (v := .int .i64 0) rfl) (run_equalIn_int w (d + 3) _ .i64 .i64 _ _ Tryd.underlying3) (eqFields_cons w (by decide) (part_one w Tryd.underlying3 (v := .int .i64 k8) rfl) (part_one w Tryd.underlying3 (v := .int .i64 0) rfl) (run_equalIn_int w (d + 3) _ .i64 .i64 _ _ Tryd.underlying3)  (eqFields_cons w (by decide) (part_many w Tryd.underlying42 rfl hi15 _ _) (part_many w Tryd.underlying42 rfl hi15 _ _) h (by simp [Op.eqFields]))))))))))

theorem wpList_load_midG {P : Program} {ops : Array Oper} {rest : List Oper} {op : Oper} {a : Act} {w : World} {Q : Exit → Act → World → Prop} (hw : Region.wanted op (yielded ops a.tmps) = true) (ty : TypeId) (x : Operand) (ho : op.op = .load ty x)
    (b o : Nat) (hx : a.eval x = .pointer (some ⟨b, o, none⟩)) (cs : List Value) (d : TypeDesc) (hc : w.rangeAt b o cs)
    (hu : P.underlying ty = some d) (hd : d.isRow = true) (hi : (P.info? ty).map (·.size) = some cs.length)
    (h : wpList P ops Q rest (a.put op.dst (.agg cs.toArray)) w) : wpList P ops Q (op :: rest) a w :=
  Go.BigFrame.wpList_want hw fun _ hK => wp_load_mid ty x ho b o hx cs d hc hu hd hi (hK _ _ h)

def wi (x lo hi : Int) : Bool := decide (lo ≤ x) && decide (x ≤ hi)
theorem wi_true {x lo hi : Int} (h : wi x lo hi = true) : lo ≤ x ∧ x ≤ hi := by simpa [wi] using h
theorem l02Within_any (x lo hi : Int) (w : World) : Calls Tryd.prog 45 #[.int .i64 x, .int .i64 lo, .int .i64 hi] w fun e w' => e = .returned (.bool (wi x lo hi)) ∧ w = w' := by
  by_cases h1 : lo ≤ x
  · have HR := hide (show wi x lo hi = decide (x ≤ hi) from by simp [wi, h1])
    go_enter Tryd.func45, Tryd.ntmps45
    go_wp2
    go_ret
    exact ⟨ret_bool (by rw [HR.out]), rfl⟩
  · have HR := hide (show wi x lo hi = false from by simp [wi, h1])
    have hq : decide (lo ≤ x) = false := by simp [h1]
    go_enter Tryd.func45, Tryd.ntmps45
    go_wp2
    go_ret
    exact ⟨ret_bool (by rw [HR.out]), rfl⟩

/-- An inode other than the empty one is right. -/
def parB (k0 k5 : Int) : Bool := if k0 = 2 then wi k5 1 1000 else (k5 == 0)
def fieldsB (k0 k1 k2 k3 k4 k5 k6 k7 k8 : Int) : Bool := wi k0 1 3 && wi k1 1 1000 && wi k2 0 4095 && wi k3 0 65535 && wi k4 0 65535 && parB k0 k5 && wi k6 1 1099511627776 && wi k7 1 1099511627776 && wi k8 1 1099511627776
def rightIno (k0 k1 k2 k3 k4 k5 k6 k7 k8 s : Int) (ds : List Int) (p q : Int) : Bool := zeroB (inoI [k0, k1, k2, k3, k4, k5, k6, k7, k8] s ds p q) || (fieldsB k0 k1 k2 k3 k4 k5 k6 k7 k8 && rightR s ds p q)

set_option maxRecDepth 100000 in
set_option maxHeartbeats 2000000 in
theorem l02Inode_any (k0 k1 k2 k3 k4 k5 k6 k7 k8 s : Int) (ds : List Int) (p q : Int) (w : World) (hd : ds.length = 12) :
    Calls Tryd.prog 23 #[.agg (cellsI (inoI [k0, k1, k2, k3, k4, k5, k6, k7, k8] s ds p q))] w fun e w' => e = .returned (.bool (rightIno k0 k1 k2 k3 k4 k5 k6 k7 k8 s ds p q)) ∧ Below w.heap.size w w' := by
  have HD := hide hd
  have HZ := hide (show (cellsI (inoI [k0, k1, k2, k3, k4, k5, k6, k7, k8] s ds p q)).size = 24 from by rw [cellsI_size]; exact inoI_len _ _ _ _ _ rfl HD.out)
  have hb0 : Below w.heap.size w (w.alloc (.cells (cellsI (inoI [k0, k1, k2, k3, k4, k5, k6, k7, k8] s ds p q)) 44)) := (Below.refl _ _).alloc (Nat.le_refl _) _
  have K0 := hide (And.intro (Blk.new w (cellsI (inoI [k0, k1, k2, k3, k4, k5, k6, k7, k8] s ds p q)) 44) hb0)
  have HE := hide (fun w => eqIno_zero w 9995 k0 k1 k2 k3 k4 k5 k6 k7 k8 s ds p q HD.out)
  have HR := hide (show (w.alloc (.cells (cellsI (inoI [k0, k1, k2, k3, k4, k5, k6, k7, k8] s ds p q)) 44)).rangeAt w.heap.size 9 ((rootI s ds p q).map (Value.int .i64)) from by
    have hr := K0.out.1.range 9 15 (by rw [inoI_len _ _ _ _ _ rfl HD.out]; omega)
    have e : ((inoI [k0, k1, k2, k3, k4, k5, k6, k7, k8] s ds p q).drop 9).take 15 = rootI s ds p q := by
      have hl := rootI_len s ds p q HD.out
      simp only [inoI, List.drop_append, List.length_cons, List.length_nil, List.drop_succ_cons, List.drop_nil, List.nil_append, Nat.sub_self, List.drop_zero]
      exact List.take_of_length_le (by omega)
    rw [e] at hr
    exact hr)
  have HLen := hide (show (cellsI (rootI s ds p q)).size = 15 from by rw [cellsI_size]; exact rootI_len s ds p q HD.out)
  have c0 : (w.alloc (.cells (cellsI (inoI [k0, k1, k2, k3, k4, k5, k6, k7, k8] s ds p q)) 44)).cell? ⟨w.heap.size, 0, none⟩ = some (.int .i64 k0) := by rw [(Blk.new w _ _).cell 0]; rfl
  have c1 : (w.alloc (.cells (cellsI (inoI [k0, k1, k2, k3, k4, k5, k6, k7, k8] s ds p q)) 44)).cell? ⟨w.heap.size, 1, none⟩ = some (.int .i64 k1) := by rw [(Blk.new w _ _).cell 1]; rfl
  have c2 : (w.alloc (.cells (cellsI (inoI [k0, k1, k2, k3, k4, k5, k6, k7, k8] s ds p q)) 44)).cell? ⟨w.heap.size, 2, none⟩ = some (.int .i64 k2) := by rw [(Blk.new w _ _).cell 2]; rfl
  have c3 : (w.alloc (.cells (cellsI (inoI [k0, k1, k2, k3, k4, k5, k6, k7, k8] s ds p q)) 44)).cell? ⟨w.heap.size, 3, none⟩ = some (.int .i64 k3) := by rw [(Blk.new w _ _).cell 3]; rfl
  have c4 : (w.alloc (.cells (cellsI (inoI [k0, k1, k2, k3, k4, k5, k6, k7, k8] s ds p q)) 44)).cell? ⟨w.heap.size, 4, none⟩ = some (.int .i64 k4) := by rw [(Blk.new w _ _).cell 4]; rfl
  have c5 : (w.alloc (.cells (cellsI (inoI [k0, k1, k2, k3, k4, k5, k6, k7, k8] s ds p q)) 44)).cell? ⟨w.heap.size, 5, none⟩ = some (.int .i64 k5) := by rw [(Blk.new w _ _).cell 5]; rfl
  have c6 : (w.alloc (.cells (cellsI (inoI [k0, k1, k2, k3, k4, k5, k6, k7, k8] s ds p q)) 44)).cell? ⟨w.heap.size, 6, none⟩ = some (.int .i64 k6) := by rw [(Blk.new w _ _).cell 6]; rfl
  have c7 : (w.alloc (.cells (cellsI (inoI [k0, k1, k2, k3, k4, k5, k6, k7, k8] s ds p q)) 44)).cell? ⟨w.heap.size, 7, none⟩ = some (.int .i64 k7) := by rw [(Blk.new w _ _).cell 7]; rfl
  have c8 : (w.alloc (.cells (cellsI (inoI [k0, k1, k2, k3, k4, k5, k6, k7, k8] s ds p q)) 44)).cell? ⟨w.heap.size, 8, none⟩ = some (.int .i64 k8) := by rw [(Blk.new w _ _).cell 8]; rfl
  have HQ := hide (show rightIno k0 k1 k2 k3 k4 k5 k6 k7 k8 s ds p q = (zeroB (inoI [k0, k1, k2, k3, k4, k5, k6, k7, k8] s ds p q) || (fieldsB k0 k1 k2 k3 k4 k5 k6 k7 k8 && rightR s ds p q)) from rfl)
  clear hd hb0
  cases hz : zeroB (inoI [k0, k1, k2, k3, k4, k5, k6, k7, k8] s ds p q) with
  | true =>
    have HZB := hide hz
    clear hz
    go_enter Tryd.func23, Tryd.ntmps23
    go_wp2_with (first | (refine wpList_load_row rfl 44 _ rfl w.heap.size rfl 44 (cellsI (inoI [k0, k1, k2, k3, k4, k5, k6, k7, k8] s ds p q)) (0, 0) _ K0.out.1 Tryd.underlying44 rfl (by rw [HZ.out]; exact info24) ?_) | (refine wpList_eql rfl 44 _ _ _ rfl (cellsI (inoI [k0, k1, k2, k3, k4, k5, k6, k7, k8] s ds p q)) #[.int .i64 0, .int .i64 0, .int .i64 0, .int .i64 0, .int .i64 0, .int .i64 0, .int .i64 0, .int .i64 0, .int .i64 0, .int .i64 0, .int .i64 0, .int .i64 0, .int .i64 0, .int .i64 0, .int .i64 0, .int .i64 0, .int .i64 0, .int .i64 0, .int .i64 0, .int .i64 0, .int .i64 0, .int .i64 0, .int .i64 0, .int .i64 0] rfl rfl guardIno true (by rw [← HZB.out]; exact HE.out _) ?_) | (go_at_call 45; refine (l02Within_any _ _ _ _).mono ?_; rintro e w1 ⟨rfl, rfl⟩))
    go_ret
    exact ⟨ret_bool (by rw [HQ.out, HZB.out]; rfl), K0.out.2⟩
  | false =>
    have HZB := hide hz
    clear hz
    by_cases hk : k0 = 2
    · have hk2 : (k0 == 2) = true := by simp [hk]
      have HK := hide hk
      clear hk
      go_enter Tryd.func23, Tryd.ntmps23
      go_wp2_with (first | (refine wpList_load_row rfl 44 _ rfl w.heap.size rfl 44 (cellsI (inoI [k0, k1, k2, k3, k4, k5, k6, k7, k8] s ds p q)) (0, 0) _ K0.out.1 Tryd.underlying44 rfl (by rw [HZ.out]; exact info24) ?_) | (refine wpList_eql rfl 44 _ _ _ rfl (cellsI (inoI [k0, k1, k2, k3, k4, k5, k6, k7, k8] s ds p q)) #[.int .i64 0, .int .i64 0, .int .i64 0, .int .i64 0, .int .i64 0, .int .i64 0, .int .i64 0, .int .i64 0, .int .i64 0, .int .i64 0, .int .i64 0, .int .i64 0, .int .i64 0, .int .i64 0, .int .i64 0, .int .i64 0, .int .i64 0, .int .i64 0, .int .i64 0, .int .i64 0, .int .i64 0, .int .i64 0, .int .i64 0, .int .i64 0] rfl rfl guardIno false (by rw [← HZB.out]; exact HE.out _) ?_) | (go_at_call 45; fail))
      refine (l02Within_any k5 1 1000 _).mono ?_
      rintro e w1 ⟨rfl, rfl⟩
      go_wp2_with fail
      refine (l02Within_any k0 1 3 _).mono ?_
      rintro e w1 ⟨rfl, rfl⟩
      cases e0 : wi k0 1 3 with
      | false =>
        have HV := hide (show fieldsB k0 k1 k2 k3 k4 k5 k6 k7 k8 = false from by unfold fieldsB; rw [e0]; rfl)
        go_wp2
        go_ret
        exact ⟨ret_bool (by rw [HQ.out, HZB.out, HV.out]; rfl), K0.out.2⟩
      | true =>
        go_wp2_with fail
        refine (l02Within_any k1 1 1000 _).mono ?_
        rintro e w1 ⟨rfl, rfl⟩
        cases e1 : wi k1 1 1000 with
        | false =>
          have HV := hide (show fieldsB k0 k1 k2 k3 k4 k5 k6 k7 k8 = false from by unfold fieldsB; rw [e0, e1]; rfl)
          go_wp2
          go_ret
          exact ⟨ret_bool (by rw [HQ.out, HZB.out, HV.out]; rfl), K0.out.2⟩
        | true =>
          go_wp2_with fail
          refine (l02Within_any k2 0 4095 _).mono ?_
          rintro e w1 ⟨rfl, rfl⟩
          cases e2 : wi k2 0 4095 with
          | false =>
            have HV := hide (show fieldsB k0 k1 k2 k3 k4 k5 k6 k7 k8 = false from by unfold fieldsB; rw [e0, e1, e2]; rfl)
            go_wp2
            go_ret
            exact ⟨ret_bool (by rw [HQ.out, HZB.out, HV.out]; rfl), K0.out.2⟩
          | true =>
            go_wp2_with fail
            refine (l02Within_any k3 0 65535 _).mono ?_
            rintro e w1 ⟨rfl, rfl⟩
            cases e3 : wi k3 0 65535 with
            | false =>
              have HV := hide (show fieldsB k0 k1 k2 k3 k4 k5 k6 k7 k8 = false from by unfold fieldsB; rw [e0, e1, e2, e3]; rfl)
              go_wp2
              go_ret
              exact ⟨ret_bool (by rw [HQ.out, HZB.out, HV.out]; rfl), K0.out.2⟩
            | true =>
              go_wp2_with fail
              refine (l02Within_any k4 0 65535 _).mono ?_
              rintro e w1 ⟨rfl, rfl⟩
              cases e4 : wi k4 0 65535 with
              | false =>
                have HV := hide (show fieldsB k0 k1 k2 k3 k4 k5 k6 k7 k8 = false from by unfold fieldsB; rw [e0, e1, e2, e3, e4]; rfl)
                go_wp2
                go_ret
                exact ⟨ret_bool (by rw [HQ.out, HZB.out, HV.out]; rfl), K0.out.2⟩
              | true =>
                cases e5 : wi k5 1 1000 with
                | false =>
                  have HV := hide (show fieldsB k0 k1 k2 k3 k4 k5 k6 k7 k8 = false from by unfold fieldsB parB; rw [if_pos HK.out, e0, e1, e2, e3, e4, e5]; rfl)
                  go_wp2
                  go_ret
                  exact ⟨ret_bool (by rw [HQ.out, HZB.out, HV.out]; rfl), K0.out.2⟩
                | true =>
                  go_wp2_with fail
                  refine (l02Within_any k6 1 1099511627776 _).mono ?_
                  rintro e w1 ⟨rfl, rfl⟩
                  cases e6 : wi k6 1 1099511627776 with
                  | false =>
                    have HV := hide (show fieldsB k0 k1 k2 k3 k4 k5 k6 k7 k8 = false from by unfold fieldsB parB; rw [if_pos HK.out, e0, e1, e2, e3, e4, e5, e6]; rfl)
                    go_wp2
                    go_ret
                    exact ⟨ret_bool (by rw [HQ.out, HZB.out, HV.out]; rfl), K0.out.2⟩
                  | true =>
                    go_wp2_with fail
                    refine (l02Within_any k7 1 1099511627776 _).mono ?_
                    rintro e w1 ⟨rfl, rfl⟩
                    cases e7 : wi k7 1 1099511627776 with
                    | false =>
                      have HV := hide (show fieldsB k0 k1 k2 k3 k4 k5 k6 k7 k8 = false from by unfold fieldsB parB; rw [if_pos HK.out, e0, e1, e2, e3, e4, e5, e6, e7]; rfl)
                      go_wp2
                      go_ret
                      exact ⟨ret_bool (by rw [HQ.out, HZB.out, HV.out]; rfl), K0.out.2⟩
                    | true =>
                      go_wp2_with fail
                      refine (l02Within_any k8 1 1099511627776 _).mono ?_
                      rintro e w1 ⟨rfl, rfl⟩
                      cases e8 : wi k8 1 1099511627776 with
                      | false =>
                        have HV := hide (show fieldsB k0 k1 k2 k3 k4 k5 k6 k7 k8 = false from by unfold fieldsB parB; rw [if_pos HK.out, e0, e1, e2, e3, e4, e5, e6, e7, e8]; rfl)
                        go_wp2
                        go_ret
                        exact ⟨ret_bool (by rw [HQ.out, HZB.out, HV.out]; rfl), K0.out.2⟩
                      | true =>
                        have HV := hide (show fieldsB k0 k1 k2 k3 k4 k5 k6 k7 k8 = true from by unfold fieldsB parB; rw [if_pos HK.out, e0, e1, e2, e3, e4, e5, e6, e7, e8]; rfl)
                        go_wp2_with (first | (refine wpList_load_midG (by first | rfl | simp [Region.wanted, yielded]) 42 _ rfl w.heap.size 9 rfl ((rootI s ds p q).map (Value.int .i64)) _ HR.out Tryd.underlying42 rfl (by rw [List.length_map, ← cellsI_size, HLen.out]; exact info15) ?_) | (go_at_call 46; fail))
                        refine (l02Root_any s ds p q _ HD.out).mono ?_
                        rintro e w1 ⟨rfl, b1⟩
                        have B1 := hide (K0.out.2.trans (b1.mono K0.out.2.size))
                        clear b1
                        go_wp2
                        go_ret
                        exact ⟨ret_bool (by rw [HQ.out, HZB.out, HV.out]; simp), B1.out⟩
    · have hk2 : (k0 == 2) = false := by simp [hk]
      have HK := hide hk
      clear hk
      go_enter Tryd.func23, Tryd.ntmps23
      go_wp2_with (first | (refine wpList_load_row rfl 44 _ rfl w.heap.size rfl 44 (cellsI (inoI [k0, k1, k2, k3, k4, k5, k6, k7, k8] s ds p q)) (0, 0) _ K0.out.1 Tryd.underlying44 rfl (by rw [HZ.out]; exact info24) ?_) | (refine wpList_eql rfl 44 _ _ _ rfl (cellsI (inoI [k0, k1, k2, k3, k4, k5, k6, k7, k8] s ds p q)) #[.int .i64 0, .int .i64 0, .int .i64 0, .int .i64 0, .int .i64 0, .int .i64 0, .int .i64 0, .int .i64 0, .int .i64 0, .int .i64 0, .int .i64 0, .int .i64 0, .int .i64 0, .int .i64 0, .int .i64 0, .int .i64 0, .int .i64 0, .int .i64 0, .int .i64 0, .int .i64 0, .int .i64 0, .int .i64 0, .int .i64 0, .int .i64 0] rfl rfl guardIno false (by rw [← HZB.out]; exact HE.out _) ?_) | (go_at_call 45; fail))
      refine (l02Within_any k0 1 3 _).mono ?_
      rintro e w1 ⟨rfl, rfl⟩
      cases e0 : wi k0 1 3 with
      | false =>
        have HV := hide (show fieldsB k0 k1 k2 k3 k4 k5 k6 k7 k8 = false from by unfold fieldsB; rw [e0]; rfl)
        go_wp2
        go_ret
        exact ⟨ret_bool (by rw [HQ.out, HZB.out, HV.out]; rfl), K0.out.2⟩
      | true =>
        go_wp2_with fail
        refine (l02Within_any k1 1 1000 _).mono ?_
        rintro e w1 ⟨rfl, rfl⟩
        cases e1 : wi k1 1 1000 with
        | false =>
          have HV := hide (show fieldsB k0 k1 k2 k3 k4 k5 k6 k7 k8 = false from by unfold fieldsB; rw [e0, e1]; rfl)
          go_wp2
          go_ret
          exact ⟨ret_bool (by rw [HQ.out, HZB.out, HV.out]; rfl), K0.out.2⟩
        | true =>
          go_wp2_with fail
          refine (l02Within_any k2 0 4095 _).mono ?_
          rintro e w1 ⟨rfl, rfl⟩
          cases e2 : wi k2 0 4095 with
          | false =>
            have HV := hide (show fieldsB k0 k1 k2 k3 k4 k5 k6 k7 k8 = false from by unfold fieldsB; rw [e0, e1, e2]; rfl)
            go_wp2
            go_ret
            exact ⟨ret_bool (by rw [HQ.out, HZB.out, HV.out]; rfl), K0.out.2⟩
          | true =>
            go_wp2_with fail
            refine (l02Within_any k3 0 65535 _).mono ?_
            rintro e w1 ⟨rfl, rfl⟩
            cases e3 : wi k3 0 65535 with
            | false =>
              have HV := hide (show fieldsB k0 k1 k2 k3 k4 k5 k6 k7 k8 = false from by unfold fieldsB; rw [e0, e1, e2, e3]; rfl)
              go_wp2
              go_ret
              exact ⟨ret_bool (by rw [HQ.out, HZB.out, HV.out]; rfl), K0.out.2⟩
            | true =>
              go_wp2_with fail
              refine (l02Within_any k4 0 65535 _).mono ?_
              rintro e w1 ⟨rfl, rfl⟩
              cases e4 : wi k4 0 65535 with
              | false =>
                have HV := hide (show fieldsB k0 k1 k2 k3 k4 k5 k6 k7 k8 = false from by unfold fieldsB; rw [e0, e1, e2, e3, e4]; rfl)
                go_wp2
                go_ret
                exact ⟨ret_bool (by rw [HQ.out, HZB.out, HV.out]; rfl), K0.out.2⟩
              | true =>
                cases e5 : (k5 == 0) with
                | false =>
                  have HV := hide (show fieldsB k0 k1 k2 k3 k4 k5 k6 k7 k8 = false from by unfold fieldsB parB; rw [if_neg HK.out, e0, e1, e2, e3, e4, e5]; rfl)
                  go_wp2
                  go_ret
                  exact ⟨ret_bool (by rw [HQ.out, HZB.out, HV.out]; rfl), K0.out.2⟩
                | true =>
                  go_wp2_with fail
                  refine (l02Within_any k6 1 1099511627776 _).mono ?_
                  rintro e w1 ⟨rfl, rfl⟩
                  cases e6 : wi k6 1 1099511627776 with
                  | false =>
                    have HV := hide (show fieldsB k0 k1 k2 k3 k4 k5 k6 k7 k8 = false from by unfold fieldsB parB; rw [if_neg HK.out, e0, e1, e2, e3, e4, e5, e6]; rfl)
                    go_wp2
                    go_ret
                    exact ⟨ret_bool (by rw [HQ.out, HZB.out, HV.out]; rfl), K0.out.2⟩
                  | true =>
                    go_wp2_with fail
                    refine (l02Within_any k7 1 1099511627776 _).mono ?_
                    rintro e w1 ⟨rfl, rfl⟩
                    cases e7 : wi k7 1 1099511627776 with
                    | false =>
                      have HV := hide (show fieldsB k0 k1 k2 k3 k4 k5 k6 k7 k8 = false from by unfold fieldsB parB; rw [if_neg HK.out, e0, e1, e2, e3, e4, e5, e6, e7]; rfl)
                      go_wp2
                      go_ret
                      exact ⟨ret_bool (by rw [HQ.out, HZB.out, HV.out]; rfl), K0.out.2⟩
                    | true =>
                      go_wp2_with fail
                      refine (l02Within_any k8 1 1099511627776 _).mono ?_
                      rintro e w1 ⟨rfl, rfl⟩
                      cases e8 : wi k8 1 1099511627776 with
                      | false =>
                        have HV := hide (show fieldsB k0 k1 k2 k3 k4 k5 k6 k7 k8 = false from by unfold fieldsB parB; rw [if_neg HK.out, e0, e1, e2, e3, e4, e5, e6, e7, e8]; rfl)
                        go_wp2
                        go_ret
                        exact ⟨ret_bool (by rw [HQ.out, HZB.out, HV.out]; rfl), K0.out.2⟩
                      | true =>
                        have HV := hide (show fieldsB k0 k1 k2 k3 k4 k5 k6 k7 k8 = true from by unfold fieldsB parB; rw [if_neg HK.out, e0, e1, e2, e3, e4, e5, e6, e7, e8]; rfl)
                        go_wp2_with (first | (refine wpList_load_midG (by first | rfl | simp [Region.wanted, yielded]) 42 _ rfl w.heap.size 9 rfl ((rootI s ds p q).map (Value.int .i64)) _ HR.out Tryd.underlying42 rfl (by rw [List.length_map, ← cellsI_size, HLen.out]; exact info15) ?_) | (go_at_call 46; fail))
                        refine (l02Root_any s ds p q _ HD.out).mono ?_
                        rintro e w1 ⟨rfl, b1⟩
                        have B1 := hide (K0.out.2.trans (b1.mono K0.out.2.size))
                        clear b1
                        go_wp2
                        go_ret
                        exact ⟨ret_bool (by rw [HQ.out, HZB.out, HV.out]; simp), B1.out⟩
end Go.Proofs.YtlgafpjmifacmaaDoor
