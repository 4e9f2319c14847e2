/- The model's look at a root: l02Pointer, l02Pointers, l02Root. The model's look at a root, whole: l02Root; its bytes: l02RootBytes; EncodeRoot. The model's look at an inode: l02Inode. The program's look at a root: isPointer, blocksOf, pointersFault, rootFault. -/
import Derived.Test.YtnbfpmmpmblmmaaGreatDoorZe06
import Derived.Test.YtnbfpmmpmblmmaaGreatDoorZe03
import Derived.Deep.MidRow
import Derived.BigFrame
namespace Go.Proofs.YtnbfpmmpmblmmaaGreatDoor
set_option linter.unusedVariables false
set_option linter.unusedSimpArgs false
open Go.RowKit

def ptrB (x n : Int) : Bool := decide (x = 0) || (decide (2 ≤ x) && decide (x < n))
set_option maxRecDepth 100000 in
set_option maxHeartbeats 1000000 in
theorem pointers_any (s : Int) (ds : List Int) (p q : Int) (w : World) (hd : ds.length = 12) :
    Calls Tryz.prog 89 #[.agg (cellsI (rootI s ds p q))] w fun e w' => ∃ v', e = .returned v' ∧ w'.ownsRow w.heap.size 3 1 v' 14 ((ds ++ [p, q]).map (Value.int .i64)) ∧ Below w.heap.size w w' := by
  obtain ⟨i0, hi, hz0, hz1, hz2⟩ := info_parts infoI64
  have HD := hide hd
  have kB := Blk.new w (cellsI (rootI s ds p q)) 81
  have h0 := own_empty (w.alloc (.cells (cellsI (rootI s ds p q)) 81)) 3
  rw [World.size_alloc] at h0
  have hr : ∀ j u, (ds.map (Value.int .i64))[j]? = some u → ((w.alloc (.cells (cellsI (rootI s ds p q)) 81)).alloc (.cells #[] 3)).cell? ((⟨w.heap.size, 1, none⟩ : Addr).add j) = some u := by
    intro j u hu
    have h := (kB.alloc (.cells #[] 3)).range 1 12 (by rw [rootI_len _ _ _ _ HD.out]; omega)
    rw [root_range _ _ _ _ HD.out] at h
    rw [Addr.add_mid]
    exact h j u hu
  have hb0 : Below w.heap.size w ((w.alloc (.cells (cellsI (rootI s ds p q)) 81)).alloc (.cells #[] 3)) := ((Below.refl _ _).alloc (Nat.le_refl _) _).alloc (by simp) _
  have K := hide (And.intro h0 (And.intro hr (And.intro hb0 (kB.alloc (.cells #[] 3)))))
  clear hd h0 hr hb0 kB
  go_enter Tryz.func89, Tryz.ntmps89
  go_wp2_with (first | (at_builtin; refine wpList_append_own _ rfl (.tmp 4) (.tmp 6) 56 rfl (w.heap.size + 1) 3 i0 (.int .i64 0) 1 8 Tryz.underlying56 hi hz0 hz1 hz2 rfl (by decide) (.slice (some ⟨w.heap.size + 1, 0, none⟩) 0 0) 0 [] rfl K.out.1 ⟨w.heap.size, 1, none⟩ 12 12 (ds.map (Value.int .i64)) rfl (by rw [List.length_map, HD.out]) K.out.2.1 (ints_oneCell _ _) (by unfold maxLen; omega) (by omega) (by simp) ?_; intro v1 w1 hown1 hgr1 _; have a13 := hgr1.cell (a := ⟨w.heap.size, 13, none⟩) ((K.out.2.2.2.cell 13).trans (rootI_get13 s ds p q HD.out)) (by simp [Value.ownBlock]); have a14 := hgr1.cell (a := ⟨w.heap.size, 14, none⟩) ((K.out.2.2.2.cell 14).trans (rootI_get14 s ds p q HD.out)) (by simp [Value.ownBlock]); have H1 := hide (And.intro hown1 hgr1); clear hown1 hgr1) | (at_builtin; refine wpList_append_own _ rfl (.tmp 8) (.tmp 13) 56 rfl (w.heap.size + 1) 3 i0 (.int .i64 0) 1 8 Tryz.underlying56 hi hz0 hz1 hz2 rfl (by decide) v1 _ _ rfl (H1.out.1.alloc _) ⟨w1.heap.size, 0, none⟩ 2 2 [.int .i64 p, .int .i64 q] rfl rfl (cell_two_new _ _ _ _) (ints_oneCell .i64 [p, q]) (by unfold maxLen; omega) (by omega) (by have := H1.out.2.size; simp at this ⊢; omega) ?_; intro v2 w2 hown2 hgr2 _))
  go_ret
  refine ⟨_, rfl, own_mono (base := w.heap.size + 1) ?_ (by omega), ?_⟩
  · have e : (ds ++ [p, q]).map (Value.int .i64) = [] ++ ds.map (Value.int .i64) ++ [.int .i64 p, .int .i64 q] := by simp
    rw [e]
    exact hown2
  · have hs1 := H1.out.2.size
    have hl1 := H1.out.1.lt
    refine (((K.out.2.2.1.grown H1.out.2 (by simp; omega) (fun k h => by simp [Value.ownBlock] at h; omega)).alloc (by simp at hs1; omega) _).grown hgr2 (by simp at hs1 ⊢; omega) (fun k h => by have := (hl1 k h).1; omega))
end Go.Proofs.YtnbfpmmpmblmmaaGreatDoor

namespace Go.Proofs.YtnbfpmmpmblmmaaGreatDoor
set_option linter.unusedVariables false
set_option linter.unusedSimpArgs false
open Go.RowKit

def lst (i : Nat) : Int := if i = 13 then 140 else i
def okAt (B : Int) (i : Nat) (x : Int) : Bool := ptrB x 2048 && (decide (x = 0) || decide (lst i < B))
def allR (s : Int) (pts : List Int) (n : Nat) : Bool := (List.range n).all fun i => okAt ((s + 511) / 512) i (pts.getD i 0)
def rightR (s : Int) (ds : List Int) (p q : Int) : Bool := (decide (0 ≤ s) && decide (s ≤ 262144)) && allR s (ds ++ [p, q]) 14
end Go.Proofs.YtnbfpmmpmblmmaaGreatDoor

namespace Go.Proofs.YtnbfpmmpmblmmaaGreatDoor
set_option linter.unusedVariables false
set_option linter.unusedSimpArgs false
open Go.RowKit

theorem zeroB_root (s : Int) (ds : List Int) (p q : Int) (hd : ds.length = 12) : zeroB (rootI s ds p q) = ((s == 0) && (zeroB ds && ((p == 0) && ((q == 0) && true)))) := by
  simp [zeroB, rootI, List.all_append]
set_option maxRecDepth 100000 in
theorem eqRoot_zero (w : World) (d : Nat) (s : Int) (ds : List Int) (p q : Int) (hd : ds.length = 12) :
    (Op.equalIn (d + 3) 81 (.agg (cellsI (rootI s ds p q))) (.agg (cellsI (List.replicate 15 0)))).run Tryz.prog w = .ok (zeroB (rootI s ds p q)) w := by
  obtain ⟨i12, hi12⟩ := info_of_underlying Tryz.underlying79
  have e1 : (cellsI (rootI s ds p q)).extract 1 (1 + Tryz.prog.cellsOf 79) = cellsI ds := by
    rw [cellsT_12]
    match ds, hd with | [_, _, _, _, _, _, _, _, _, _, _, _], _ => rfl
  have e2 : (cellsI (List.replicate 15 0)).extract 1 (1 + Tryz.prog.cellsOf 79) = cellsI (List.replicate 12 0) := by
    rw [cellsT_12]; rfl
  have h := eqArr_zero w d ds hd
  rw [← e1, ← e2] at h
  rw [run_equalIn_agg w (d + 2) _ _ _ structRoot heldRoot]
  unfold Program.fieldsOf
  rw [Tryz.underlying81, zeroB_root s ds p q hd]
  exact eqFields_cons w (by decide) (part_one w Tryz.underlying3 (v := .int .i64 s) rfl) (part_one w Tryz.underlying3 (v := .int .i64 0) rfl) (run_equalIn_int w (d + 1) _ .i64 .i64 _ _ Tryz.underlying3)
    (eqFields_cons w (by decide) (part_many w Tryz.underlying79 rfl hi12 _ _) (part_many w Tryz.underlying79 rfl hi12 _ _) h
    (eqFields_cons w (by decide) (part_one w Tryz.underlying3 (v := .int .i64 p) (rootI_get13 s ds p q hd)) (part_one w Tryz.underlying3 (v := .int .i64 0) rfl) (run_equalIn_int w (d + 1) _ .i64 .i64 _ _ Tryz.underlying3)
    (eqFields_cons w (by decide) (part_one w Tryz.underlying3 (v := .int .i64 q) (rootI_get14 s ds p q hd)) (part_one w Tryz.underlying3 (v := .int .i64 0) rfl) (run_equalIn_int w (d + 1) _ .i64 .i64 _ _ Tryz.underlying3)
    (by simp [Op.eqFields]))))
set_option maxRecDepth 100000 in
theorem eqIno_zero (w : World) (d : Nat) (k0 k1 k2 k3 k4 k5 k6 k7 k8 s : Int) (ds : List Int) (p q : Int) (hd : ds.length = 12) :
    (Op.equalIn (d + 5) 83 (.agg (cellsI (inoI [k0, k1, k2, k3, k4, k5, k6, k7, k8] s ds p q))) (.agg (cellsI (List.replicate 24 0)))).run Tryz.prog w = .ok (zeroB (inoI [k0, k1, k2, k3, k4, k5, k6, k7, k8] s ds p q)) w := by
  obtain ⟨i15, hi15⟩ := info_of_underlying Tryz.underlying81
  have e1 : (cellsI (inoI [k0, k1, k2, k3, k4, k5, k6, k7, k8] s ds p q)).extract 9 (9 + Tryz.prog.cellsOf 81) = cellsI (rootI s ds p q) := by
    rw [cellsT_15]
    match ds, hd with | [_, _, _, _, _, _, _, _, _, _, _, _], _ => rfl
  have e2 : (cellsI (List.replicate 24 0)).extract 9 (9 + Tryz.prog.cellsOf 81) = cellsI (List.replicate 15 0) := by
    rw [cellsT_15]; rfl
  have h := eqRoot_zero w (d + 1) s ds p q hd
  rw [← e1, ← e2] at h
  have hz : zeroB (inoI [k0, k1, k2, k3, k4, k5, k6, k7, k8] s ds p q) = ((k0 == 0) && ((k1 == 0) && ((k2 == 0) && ((k3 == 0) && ((k4 == 0) && ((k5 == 0) && ((k6 == 0) && ((k7 == 0) && ((k8 == 0) && (zeroB (rootI s ds p q) && true)))))))))) := by
    simp [zeroB, inoI, List.all_append]
  rw [run_equalIn_agg w (d + 4) _ _ _ structIno heldIno]
  unfold Program.fieldsOf
  rw [Tryz.underlying83, hz]
  exact eqFields_cons w (by decide) (part_one w Tryz.underlying3 (v := .int .i64 k0) rfl) (part_one w Tryz.underlying3 (v := .int .i64 0) rfl) (run_equalIn_int w (d + 3) _ .i64 .i64 _ _ Tryz.underlying3) (eqFields_cons w (by decide) (part_one w Tryz.underlying3 (v := .int .i64 k1) rfl) (part_one w Tryz.underlying3 (v := .int .i64 0) rfl) (run_equalIn_int w (d + 3) _ .i64 .i64 _ _ Tryz.underlying3) (eqFields_cons w (by decide) (part_one w Tryz.underlying3 (v := .int .i64 k2) rfl) (part_one w Tryz.underlying3 (v := .int .i64 0) rfl) (run_equalIn_int w (d + 3) _ .i64 .i64 _ _ Tryz.underlying3) (eqFields_cons w (by decide) (part_one w Tryz.underlying3 (v := .int .i64 k3) rfl) (part_one w Tryz.underlying3 (v := .int .i64 0) rfl) (run_equalIn_int w (d + 3) _ .i64 .i64 _ _ Tryz.underlying3) (eqFields_cons w (by decide) (part_one w Tryz.underlying3 (v := .int .i64 k4) rfl) (part_one w Tryz.underlying3 (v := .int .i64 0) rfl) (run_equalIn_int w (d + 3) _ .i64 .i64 _ _ Tryz.underlying3) (eqFields_cons w (by decide) (part_one w Tryz.underlying3 (v := .int .i64 k5) rfl) (part_one w Tryz.underlying3 (v := .int .i64 0) rfl) (run_equalIn_int w (d + 3) _ .i64 .i64 _ _ Tryz.underlying3) (eqFields_cons w (by decide) (part_one w Tryz.underlying3 (v := .int .i64 k6) rfl) (part_one w Tryz.underlying3 (v := .int .i64 0) rfl) (run_equalIn_int w (d + 3) _ .i64 .i64 _ _ Tryz.underlying3) (eqFields_cons w (by decide) (part_one w Tryz.underlying3 (v := .int .i64 k7) rfl) (part_one w Tryz.underlying3 (v := .int .i64 0) rfl) (run_equalIn_int w (d + 3) _ .i64 .i64 _ _ Tryz.underlying3) (eqFields_cons w (by decide) (part_one w Tryz.underlying3 (v := .int .i64 k8) rfl) (part_one w Tryz.underlying3 (v := .int .i64 0) rfl) (run_equalIn_int w (d + 3) _ .i64 .i64 _ _ Tryz.underlying3)  (eqFields_cons w (by decide) (part_many w Tryz.underlying81 rfl hi15 _ _) (part_many w Tryz.underlying81 rfl hi15 _ _) h (by simp [Op.eqFields]))))))))))

theorem wpList_load_midG {P : Program} {ops : Array Oper} {rest : List Oper} {op : Oper} {a : Act} {w : World} {Q : Exit → Act → World → Prop} (hw : Region.wanted op (yielded ops a.tmps) = true) (ty : TypeId) (x : Operand) (ho : op.op = .load ty x)
    (b o : Nat) (hx : a.eval x = .pointer (some ⟨b, o, none⟩)) (cs : List Value) (d : TypeDesc) (hc : w.rangeAt b o cs)
    (hu : P.underlying ty = some d) (hd : d.isRow = true) (hi : (P.info? ty).map (·.size) = some cs.length)
    (h : wpList P ops Q rest (a.put op.dst (.agg cs.toArray)) w) : wpList P ops Q (op :: rest) a w :=
  Go.BigFrame.wpList_want hw fun _ hK => wp_load_mid ty x ho b o hx cs d hc hu hd hi (hK _ _ h)

def wi (x lo hi : Int) : Bool := decide (lo ≤ x) && decide (x ≤ hi)
theorem wi_true {x lo hi : Int} (h : wi x lo hi = true) : lo ≤ x ∧ x ≤ hi := by simpa [wi] using h
theorem l02Within_any (x lo hi : Int) (w : World) : Calls Tryz.prog 18 #[.int .i64 x, .int .i64 lo, .int .i64 hi] w fun e w' => e = .returned (.bool (wi x lo hi)) ∧ w = w' := by
  by_cases h1 : lo ≤ x
  · have HR := hide (show wi x lo hi = decide (x ≤ hi) from by simp [wi, h1])
    go_enter Tryz.func18, Tryz.ntmps18
    go_wp2
    go_ret
    exact ⟨ret_bool (by rw [HR.out]), rfl⟩
  · have HR := hide (show wi x lo hi = false from by simp [wi, h1])
    have hq : decide (lo ≤ x) = false := by simp [h1]
    go_enter Tryz.func18, Tryz.ntmps18
    go_wp2
    go_ret
    exact ⟨ret_bool (by rw [HR.out]), rfl⟩

/-- An inode other than the empty one is right. -/
def parB (k0 k5 : Int) : Bool := if k0 = 2 then wi k5 1 1000 else (k5 == 0)
def fieldsB (k0 k1 k2 k3 k4 k5 k6 k7 k8 : Int) : Bool := wi k0 1 3 && wi k1 1 1000 && wi k2 0 4095 && wi k3 0 65535 && wi k4 0 65535 && parB k0 k5 && wi k6 1 1099511627776 && wi k7 1 1099511627776 && wi k8 1 1099511627776
def rightIno (k0 k1 k2 k3 k4 k5 k6 k7 k8 s : Int) (ds : List Int) (p q : Int) : Bool := zeroB (inoI [k0, k1, k2, k3, k4, k5, k6, k7, k8] s ds p q) || (fieldsB k0 k1 k2 k3 k4 k5 k6 k7 k8 && rightR s ds p q)

end Go.Proofs.YtnbfpmmpmblmmaaGreatDoor

namespace Go.Proofs.YtnbfpmmpmblmmaaGreatDoor
set_option linter.unusedVariables false
set_option linter.unusedSimpArgs false
open Go.RowKit

theorem isBlock_any (x n : Int) (w : World) : Calls Tryz.prog 113 #[.int .i64 x, .int .i64 n] w fun e w' => e = .returned (.bool (decide (2 ≤ x) && decide (x < n))) ∧ w = w' := by
  by_cases h2 : 2 ≤ x
  · have HR := hide (show (decide (2 ≤ x) && decide (x < n)) = decide (x < n) from by simp [h2])
    go_enter Tryz.func113, Tryz.ntmps113
    go_wp2
    go_ret
    exact ⟨ret_bool (by rw [HR.out]), rfl⟩
  · have hq2 : decide (2 ≤ x) = false := by simp; omega
    have HR := hide (show (decide (2 ≤ x) && decide (x < n)) = false from by rw [hq2]; rfl)
    go_enter Tryz.func113, Tryz.ntmps113
    go_wp2
    go_ret
    exact ⟨ret_bool (by first | rfl | rw [HR.out]), rfl⟩
theorem isPointer_any (x n : Int) (w : World) : Calls Tryz.prog 110 #[.int .i64 x, .int .i64 n] w fun e w' => e = .returned (.bool (ptrB x n)) ∧ w = w' := by
  have HP := hide (show ptrB x n = (decide (x = 0) || (decide (2 ≤ x) && decide (x < n))) from rfl)
  by_cases h0 : x = 0
  · subst h0
    go_enter Tryz.func110, Tryz.ntmps110
    go_wp2
    go_ret
    exact ⟨rfl, rfl⟩
  · have hq : (x == 0) = false := by simp [h0]
    have HD := hide (show ptrB x n = (decide (2 ≤ x) && decide (x < n)) from by rw [HP.out]; simp [h0])
    clear h0
    go_enter Tryz.func110, Tryz.ntmps110
    go_wp2_with (go_at_call 113; refine (isBlock_any x n _).mono ?_; rintro e w' ⟨rfl, rfl⟩)
    go_ret
    exact ⟨ret_bool (by rw [HD.out]), rfl⟩

theorem blocksOf_out (x : Int) (w : World) : Calls Tryz.prog 103 #[.int .i64 x] w fun e w' => (∃ y, e = .returned (.int .i64 y) ∧ (0 ≤ x → x ≤ 262144 → y = (x + 511) / 512)) ∧ w = w' := by
  by_cases h0 : 0 ≤ x ∧ x ≤ 262144
  · obtain ⟨h0, h1⟩ := h0
    have h2 : x / 512 ≤ 512 := by omega
    have h3 : 0 ≤ x / 512 := by omega
    by_cases hr : x % 512 = 0
    · have hq : (x % 512 != 0) = false := by simp [hr]
      have HR := hide hr
      clear hr
      go_enter Tryz.func103, Tryz.ntmps103
      go_wp2
      go_ret
      exact ⟨⟨x / 512, rfl, fun _ _ => by have := HR.out; omega⟩, rfl⟩
    · have hq : (x % 512 != 0) = true := by simpa using hr
      have HR := hide hr
      clear hr
      go_enter Tryz.func103, Tryz.ntmps103
      go_wp2
      go_ret
      exact ⟨⟨x / 512 + 1, rfl, fun _ _ => by have := HR.out; omega⟩, rfl⟩
  · have H := hide h0
    clear h0
    go_enter Tryz.func103, Tryz.ntmps103
    go_wp2
    all_goals go_ret
    all_goals exact ⟨⟨_, rfl, fun a b => absurd ⟨a, b⟩ H.out⟩, rfl⟩

theorem index12 (ds : List Int) (k : Nat) (hd : ds.length = 12) (hk : k < 12) (w : World) : (Instr.index 79 (.agg (cellsI ds)) (.int .i64 k)).run Tryz.prog w = .ok (.int .i64 (ds.getD k 0)) w := by
  have hg : k < ds.length := by omega
  simp [Instr.index, run_underlying Tryz.underlying79, asIntOf, go_sem, cellsI, hg]
  intro h
  omega
theorem all_take' (f : Int → Bool) (ds : List Int) (k : Nat) (h : k < ds.length) : (ds.take (k + 1)).all f = ((ds.take k).all f && f (ds.getD k 0)) := by
  rw [List.take_succ_eq_append_getElem h, List.all_append]
  simp [List.getD, h]
/-- What the loops keep: the boxed root, the check, and all that is older. -/
structure Kp (w wr : World) (C : Array Value) (t : TypeId) (code : Int) (ok : Bool) : Prop where
  blk : Blk wr w.heap.size C t
  ck : Ck wr (w.heap.size + 1) (w.heap.size + 1 + 1) code ok
  old : Below w.heap.size w wr
theorem Kp.lo {w wr : World} {C : Array Value} {t : TypeId} {code : Int} {ok : Bool} (h : Kp w wr C t code ok) : w.heap.size + 1 + 1 ≤ wr.heap.size := h.ck.lt
theorem Kp.tch {w wr w' : World} {C : Array Value} {t : TypeId} {code : Int} {ok ok' : Bool} (h : Kp w wr C t code ok) (hc : Ck w' (w.heap.size + 1) (w.heap.size + 1 + 1) code ok') (ht : Tch (w.heap.size + 1) wr w') : Kp w w' C t code ok' :=
  ⟨(ht.1.block _ h.blk.lt (by simp)).trans h.blk, hc, ht.under h.old (by omega) (Nat.le_of_lt h.blk.lt)⟩
theorem Kp.fault {w wr : World} {C : Array Value} {t : TypeId} {code : Int} {ok : Bool} (h : Kp w wr C t code ok) : ∃ ev, wr.cell? ⟨w.heap.size + 1, 1, none⟩ = some ev ∧ FaultIs wr w.heap.size ok ev code := by
  obtain ⟨_, _, ev, c3, c4⟩ := h.ck
  refine ⟨ev, c3, ?_⟩
  rcases c4 with c4 | ⟨c4, n, c5⟩
  · exact .inl c4
  · exact .inr ⟨c4, n, c5.mono (by omega)⟩

def ptrsB (ds : List Int) (p q n : Int) : Bool := (ds.all fun x => ptrB x n) && ptrB p n && ptrB q n

set_option maxRecDepth 100000 in
set_option maxHeartbeats 1000000 in
theorem pointersFault_any (s : Int) (ds : List Int) (p q n code : Int) (w : World) (hd : ds.length = 12) :
    Calls Tryz.prog 102 #[.agg (cellsI (rootI s ds p q)), .int .i64 n, .int .i64 code] w fun e w' => ∃ ev, e = .returned ev ∧ FaultIs w' w.heap.size (ptrsB ds p q n) ev code ∧ Below w.heap.size w w' := by
  have HD := hide hd
  have kB := (Blk.new w (cellsI (rootI s ds p q)) 81).alloc (.cells #[.int .i64 code, .nilIface] 64)
  have kC := Ck.fresh (w.alloc (.cells (cellsI (rootI s ds p q)) 81)) code 64
  rw [World.size_alloc] at kC
  have hb0 : Below w.heap.size w ((w.alloc (.cells (cellsI (rootI s ds p q)) 81)).alloc (.cells #[.int .i64 code, .nilIface] 64)) := ((Below.refl _ _).alloc (Nat.le_refl _) _).alloc (by simp) _
  have hr := kB.range 1 12 (by rw [rootI_len _ _ _ _ HD.out]; omega)
  rw [root_range _ _ _ _ HD.out] at hr
  have HX := hide (fun k hk w => index12 ds k HD.out hk w)
  have K := hide (show Kp w ((w.alloc (.cells (cellsI (rootI s ds p q)) 81)).alloc (.cells #[.int .i64 code, .nilIface] 64)) (cellsI (rootI s ds p q)) 81 code true from ⟨kB, kC, hb0⟩)
  have HR := hide hr
  clear hd kB kC hb0 hr
  go_enter Tryz.func102, Tryz.ntmps102
  go_wp2_with (refine wpList_load_mid rfl 79 _ rfl w.heap.size 1 rfl (ds.map (Value.int .i64)) _ HR.out Tryz.underlying79 rfl (by rw [List.length_map, HD.out]; exact info12) ?_)
  go_loopw [14] (fun i wr => ∃ k : Nat, k ≤ 12 ∧ i = .int .i64 k ∧ Kp w wr (cellsI (rootI s ds p q)) 81 code ((ds.take k).all fun x => ptrB x n)) (fun i _ => 12 - (intOf i).toNat)
  case atStart => exact ⟨0, by omega, rfl, K.out⟩
  case round =>
    obtain ⟨k, hk, rfl, hkp⟩ := hrel
    have HK := hide hkp
    clear hkp K HR
    by_cases hlt : k < 12
    · have hix : ∀ w, (Instr.index 79 (.agg (ds.map (Value.int .i64)).toArray) (.int .i64 k)).run Tryz.prog w = .ok (.int .i64 (ds.getD k 0)) w := fun w => HX.out k hlt w
      have HT := hide (all_take' (fun x => ptrB x n) ds k (by rw [HD.out]; exact hlt))
      generalize ds.getD k 0 = z at hix HT
      go_wp2_with (first | (go_at_call 110; refine (isPointer_any z n _).mono ?_; rintro e w1 ⟨rfl, rfl⟩) | (go_at_call 47; refine (need_any (w.heap.size + 1) (w.heap.size + 1 + 1) _ code _ (ptrB z n) _ HK.out.ck (by omega) HK.out.lo).mono ?_; rintro e w1 ⟨rfl, hc1, ht1⟩))
      have H1 := hide (HK.out.tch hc1 ht1)
      clear hc1 ht1
      go_roundw
      case rel => exact ⟨k + 1, by omega, by go_num, by rw [HT.out]; exact H1.out⟩
      case measure => simp [intOf]; omega
    · have e12 : k = 12 := by omega
      subst e12
      rw [List.take_of_length_le (by rw [HD.out]; omega)] at HK
      have a13 := (HK.out.blk.cell 13).trans (rootI_get13 s ds p q HD.out)
      have lt1 := HK.out.lo
      go_wp2_with (first | (go_at_call 110; refine (isPointer_any p n _).mono ?_; rintro e w1 ⟨rfl, rfl⟩) | (go_at_call 47; fail))
      refine (need_any (w.heap.size + 1) (w.heap.size + 1 + 1) _ code _ (ptrB p n) _ HK.out.ck (by omega) HK.out.lo).mono ?_
      rintro e w1 ⟨rfl, hc1, ht1⟩
      have H1 := hide (HK.out.tch hc1 ht1)
      have a14 := (H1.out.blk.cell 14).trans (rootI_get14 s ds p q HD.out)
      clear hc1 ht1 a13 lt1
      go_wp2_with (first | (go_at_call 110; refine (isPointer_any q n _).mono ?_; rintro e w1' ⟨rfl, rfl⟩) | (go_at_call 47; fail))
      refine (need_any (w.heap.size + 1) (w.heap.size + 1 + 1) _ code _ (ptrB q n) _ H1.out.ck (by omega) H1.out.lo).mono ?_
      rintro e w2 ⟨rfl, hc2, ht2⟩
      have H2 := hide (H1.out.tch hc2 ht2)
      obtain ⟨ev, c3, hf⟩ := H2.out.fault
      have HF := hide hf
      clear hc2 ht2 a14 hf
      go_wp2
      go_ret
      exact ⟨ev, rfl, HF.out, H2.out.old⟩

/-- The program's own way of saying rightR. -/
def rightI (s : Int) (ds : List Int) (p q y : Int) : Bool :=
  (((((decide (0 ≤ s) && decide (s ≤ 262144)) && ptrsB ds p q 2048) && ((List.range 12).all fun i => decide (ds.getD i 0 = 0) || decide ((i : Int) < y))) && (decide (p = 0) || decide (12 < y))) && (decide (q = 0) || decide (140 < y)))
theorem right_eq (s : Int) (ds : List Int) (p q y : Int) (hd : ds.length = 12) (hy : 0 ≤ s → s ≤ 262144 → y = (s + 511) / 512) : rightI s ds p q y = rightR s ds p q := by
  unfold rightI rightR
  by_cases h1 : 0 ≤ s
  · by_cases h2 : s ≤ 262144
    · rw [hy h1 h2]
      match ds, hd with
      | [d0, d1, d2, d3, d4, d5, d6, d7, d8, d9, d10, d11], _ =>
        simp [ptrsB, allR, okAt, lst, h1, h2, List.range, List.range.loop, List.getD]
        ac_rfl
    · simp [h2]
  · simp [h1]
end Go.Proofs.YtnbfpmmpmblmmaaGreatDoor
