/- The model's look at an inode: l02Inode. -/
import Derived.Test.YtkbbnflblkkepaaGreatDoorZm21
import Derived.Test.YtkbbnflblkkepaaGreatDoorZm07
import Derived.Deep.MidRow
import Derived.BigFrame
namespace Go.Proofs.YtkbbnflblkkepaaGreatDoor
set_option linter.unusedVariables false
set_option linter.unusedSimpArgs false
open Go.RowKit

theorem zeroB_root (s : Int) (ds : List Int) (p q : Int) (hd : ds.length = 12) : zeroB (rootI s ds p q) = ((s == 0) && (zeroB ds && ((p == 0) && ((q == 0) && true)))) := by
  simp [zeroB, rootI, List.all_append]
set_option maxRecDepth 100000 in
theorem eqRoot_zero (w : World) (d : Nat) (s : Int) (ds : List Int) (p q : Int) (hd : ds.length = 12) :
    (Op.equalIn (d + 3) 34 (.agg (cellsI (rootI s ds p q))) (.agg (cellsI (List.replicate 15 0)))).run Tryz.prog w = .ok (zeroB (rootI s ds p q)) w := by
  obtain ⟨i12, hi12⟩ := info_of_underlying Tryz.underlying32
  have e1 : (cellsI (rootI s ds p q)).extract 1 (1 + Tryz.prog.cellsOf 32) = cellsI ds := by
    rw [cellsT_12]
    match ds, hd with | [_, _, _, _, _, _, _, _, _, _, _, _], _ => rfl
  have e2 : (cellsI (List.replicate 15 0)).extract 1 (1 + Tryz.prog.cellsOf 32) = cellsI (List.replicate 12 0) := by
    rw [cellsT_12]; rfl
  have h := eqArr_zero w d ds hd
  rw [← e1, ← e2] at h
  rw [run_equalIn_agg w (d + 2) _ _ _ structRoot heldRoot]
  unfold Program.fieldsOf
  rw [Tryz.underlying34, zeroB_root s ds p q hd]
  exact eqFields_cons w (by decide) (part_one w Tryz.underlying3 (v := .int .i64 s) rfl) (part_one w Tryz.underlying3 (v := .int .i64 0) rfl) (run_equalIn_int w (d + 1) _ .i64 .i64 _ _ Tryz.underlying3)
    (eqFields_cons w (by decide) (part_many w Tryz.underlying32 rfl hi12 _ _) (part_many w Tryz.underlying32 rfl hi12 _ _) h
    (eqFields_cons w (by decide) (part_one w Tryz.underlying3 (v := .int .i64 p) (rootI_get13 s ds p q hd)) (part_one w Tryz.underlying3 (v := .int .i64 0) rfl) (run_equalIn_int w (d + 1) _ .i64 .i64 _ _ Tryz.underlying3)
    (eqFields_cons w (by decide) (part_one w Tryz.underlying3 (v := .int .i64 q) (rootI_get14 s ds p q hd)) (part_one w Tryz.underlying3 (v := .int .i64 0) rfl) (run_equalIn_int w (d + 1) _ .i64 .i64 _ _ Tryz.underlying3)
    (by simp [Op.eqFields]))))
theorem wpList_load_midG {P : Program} {ops : Array Oper} {rest : List Oper} {op : Oper} {a : Act} {w : World} {Q : Exit → Act → World → Prop} (hw : Region.wanted op (yielded ops a.tmps) = true) (ty : TypeId) (x : Operand) (ho : op.op = .load ty x)
    (b o : Nat) (hx : a.eval x = .pointer (some ⟨b, o, none⟩)) (cs : List Value) (d : TypeDesc) (hc : w.rangeAt b o cs)
    (hu : P.underlying ty = some d) (hd : d.isRow = true) (hi : (P.info? ty).map (·.size) = some cs.length)
    (h : wpList P ops Q rest (a.put op.dst (.agg cs.toArray)) w) : wpList P ops Q (op :: rest) a w :=
  Go.BigFrame.wpList_want hw fun _ hK => wp_load_mid ty x ho b o hx cs d hc hu hd hi (hK _ _ h)

def wi (x lo hi : Int) : Bool := decide (lo ≤ x) && decide (x ≤ hi)
theorem wi_true {x lo hi : Int} (h : wi x lo hi = true) : lo ≤ x ∧ x ≤ hi := by simpa [wi] using h
theorem l02Within_any (x lo hi : Int) (w : World) : Calls Tryz.prog 85 #[.int .i64 x, .int .i64 lo, .int .i64 hi] w fun e w' => e = .returned (.bool (wi x lo hi)) ∧ w = w' := by
  by_cases h1 : lo ≤ x
  · have HR := hide (show wi x lo hi = decide (x ≤ hi) from by simp [wi, h1])
    go_enter Tryz.func85, Tryz.ntmps85
    go_wp2
    go_ret
    exact ⟨ret_bool (by rw [HR.out]), rfl⟩
  · have HR := hide (show wi x lo hi = false from by simp [wi, h1])
    have hq : decide (lo ≤ x) = false := by simp [h1]
    go_enter Tryz.func85, Tryz.ntmps85
    go_wp2
    go_ret
    exact ⟨ret_bool (by rw [HR.out]), rfl⟩

/-- An inode other than the empty one is right. -/
def parB (k0 k5 : Int) : Bool := if k0 = 2 then wi k5 1 1000 else (k5 == 0)
def fieldsB (k0 k1 k2 k3 k4 k5 k6 k7 k8 : Int) : Bool := wi k0 1 3 && wi k1 1 1000 && wi k2 0 4095 && wi k3 0 65535 && wi k4 0 65535 && parB k0 k5 && wi k6 1 1099511627776 && wi k7 1 1099511627776 && wi k8 1 1099511627776
def rightIno (k0 k1 k2 k3 k4 k5 k6 k7 k8 s : Int) (ds : List Int) (p q : Int) : Bool := zeroB (inoI [k0, k1, k2, k3, k4, k5, k6, k7, k8] s ds p q) || (fieldsB k0 k1 k2 k3 k4 k5 k6 k7 k8 && rightR s ds p q)

end Go.Proofs.YtkbbnflblkkepaaGreatDoor
