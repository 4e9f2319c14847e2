/- The model's look at an inode: l02Inode. An operation as cells; the program's look at one: opFault. -/
import Derived.Test.YtohmjfagbhnieaaGreatDoorZl04
import Derived.Deep.MidRow
import Derived.BigFrame
namespace Go.Proofs.YtohmjfagbhnieaaGreatDoor
set_option linter.unusedVariables false
set_option linter.unusedSimpArgs false
open Go.RowKit

theorem zeroB_root (s : Int) (ds : List Int) (p q : Int) (hd : ds.length = 12) : zeroB (rootI s ds p q) = ((s == 0) && (zeroB ds && ((p == 0) && ((q == 0) && true)))) := by
  simp [zeroB, rootI, List.all_append]
theorem wpList_load_midG {P : Program} {ops : Array Oper} {rest : List Oper} {op : Oper} {a : Act} {w : World} {Q : Exit → Act → World → Prop} (hw : Region.wanted op (yielded ops a.tmps) = true) (ty : TypeId) (x : Operand) (ho : op.op = .load ty x)
    (b o : Nat) (hx : a.eval x = .pointer (some ⟨b, o, none⟩)) (cs : List Value) (d : TypeDesc) (hc : w.rangeAt b o cs)
    (hu : P.underlying ty = some d) (hd : d.isRow = true) (hi : (P.info? ty).map (·.size) = some cs.length)
    (h : wpList P ops Q rest (a.put op.dst (.agg cs.toArray)) w) : wpList P ops Q (op :: rest) a w :=
  Go.BigFrame.wpList_want hw fun _ hK => wp_load_mid ty x ho b o hx cs d hc hu hd hi (hK _ _ h)

def wi (x lo hi : Int) : Bool := decide (lo ≤ x) && decide (x ≤ hi)
theorem wi_true {x lo hi : Int} (h : wi x lo hi = true) : lo ≤ x ∧ x ≤ hi := by simpa [wi] using h
theorem l02Within_any (x lo hi : Int) (w : World) : Calls Tryz.prog 32 #[.int .i64 x, .int .i64 lo, .int .i64 hi] w fun e w' => e = .returned (.bool (wi x lo hi)) ∧ w = w' := by
  by_cases h1 : lo ≤ x
  · have HR := hide (show wi x lo hi = decide (x ≤ hi) from by simp [wi, h1])
    go_enter Tryz.func32, Tryz.ntmps32
    go_wp2
    go_ret
    exact ⟨ret_bool (by rw [HR.out]), rfl⟩
  · have HR := hide (show wi x lo hi = false from by simp [wi, h1])
    have hq : decide (lo ≤ x) = false := by simp [h1]
    go_enter Tryz.func32, Tryz.ntmps32
    go_wp2
    go_ret
    exact ⟨ret_bool (by rw [HR.out]), rfl⟩

/-- An inode other than the empty one is right. -/
def parB (k0 k5 : Int) : Bool := if k0 = 2 then wi k5 1 1000 else (k5 == 0)
def fieldsB (k0 k1 k2 k3 k4 k5 k6 k7 k8 : Int) : Bool := wi k0 1 3 && wi k1 1 1000 && wi k2 0 4095 && wi k3 0 65535 && wi k4 0 65535 && parB k0 k5 && wi k6 1 1099511627776 && wi k7 1 1099511627776 && wi k8 1 1099511627776
def rightIno (k0 k1 k2 k3 k4 k5 k6 k7 k8 s : Int) (ds : List Int) (p q : Int) : Bool := zeroB (inoI [k0, k1, k2, k3, k4, k5, k6, k7, k8] s ds p q) || (fieldsB k0 k1 k2 k3 k4 k5 k6 k7 k8 && rightR s ds p q)

end Go.Proofs.YtohmjfagbhnieaaGreatDoor

namespace Go.Proofs.YtohmjfagbhnieaaGreatDoor
set_option linter.unusedVariables false
set_option linter.unusedSimpArgs false
open Go.RowKit

/-- An operation as cells: five numbers, two names, the slice of its bytes. -/
def opC (K A B U G : Int) (p q : ByteArray) (v : Value) : Array Value := #[.int .i64 K, .int .i64 A, .int .i64 B, .int .i64 U, .int .i64 G, .string p, .string q, v]
theorem infoO8 : (Tryz.prog.info? 30).map (·.size) = some 8 := by kernel_rfl
/-- What may be laid down; n: how many bytes it has. -/
def rightO (K U G : Int) (p q : ByteArray) (n : Nat) : Bool := wi K 0 255 && wi U 0 65535 && wi G 0 65535 && wi p.size 0 512 && wi q.size 0 512 && wi n 0 4096

set_option maxRecDepth 100000 in
set_option maxHeartbeats 1000000 in
theorem opFault_any (K A B U G : Int) (p q : ByteArray) (a : Option Addr) (n c : Nat) (code : Int) (w : World) (hp : p.size ≤ maxLen) (hq : q.size ≤ maxLen) (hn : n ≤ maxLen) :
    Calls Tryz.prog 41 #[.agg (opC K A B U G p q (.slice a n c)), .int .i64 code] w fun e w' => ∃ ev, e = .returned ev ∧ FaultIs w' w.heap.size (rightO K U G p q n) ev code ∧ Below w.heap.size w w' := by
  have HP := hide (And.intro hp (And.intro hq hn))
  have kB := (Blk.new w (opC K A B U G p q (.slice a n c)) 30).alloc (.cells #[.int .i64 code, .nilIface] 96)
  have kC := Ck.fresh (w.alloc (.cells (opC K A B U G p q (.slice a n c)) 30)) code 96
  rw [World.size_alloc] at kC
  have hb0 : Below w.heap.size w ((w.alloc (.cells (opC K A B U G p q (.slice a n c)) 30)).alloc (.cells #[.int .i64 code, .nilIface] 96)) := ((Below.refl _ _).alloc (Nat.le_refl _) _).alloc (by simp) _
  have H0 := hide (show Kp w ((w.alloc (.cells (opC K A B U G p q (.slice a n c)) 30)).alloc (.cells #[.int .i64 code, .nilIface] 96)) (opC K A B U G p q (.slice a n c)) 30 code true from ⟨kB, kC, hb0⟩)
  have HF := hide (show rightO K U G p q n = (wi K 0 255 && wi U 0 65535 && wi G 0 65535 && wi p.size 0 512 && wi q.size 0 512 && wi n 0 4096) from rfl)
  clear hp hq hn kB kC hb0
  go_enter Tryz.func41, Tryz.ntmps41
  have c0 := (H0.out.blk.cell 0).trans (show (opC K A B U G p q (.slice a n c))[0]? = some (.int .i64 K) from rfl)
  go_wp2_with (go_at_call 57; fail)
  refine (within_any (w.heap.size + 1) (w.heap.size + 1 + 1) _ code K 0 255 _ _ H0.out.ck (by omega) H0.out.lo).mono ?_
  rintro e w1 ⟨rfl, hc1, ht1⟩
  rw [Bool.true_and] at hc1
  have H1 := hide (H0.out.tch hc1 ht1)
  clear hc1 ht1 H0 c0
  have c1 := (H1.out.blk.cell 3).trans (show (opC K A B U G p q (.slice a n c))[3]? = some (.int .i64 U) from rfl)
  go_wp2_with (go_at_call 57; fail)
  refine (within_any (w.heap.size + 1) (w.heap.size + 1 + 1) _ code U 0 65535 _ _ H1.out.ck (by omega) H1.out.lo).mono ?_
  rintro e w2 ⟨rfl, hc2, ht2⟩
  have H2 := hide (H1.out.tch hc2 ht2)
  clear hc2 ht2 H1 c1
  have c2 := (H2.out.blk.cell 4).trans (show (opC K A B U G p q (.slice a n c))[4]? = some (.int .i64 G) from rfl)
  go_wp2_with (go_at_call 57; fail)
  refine (within_any (w.heap.size + 1) (w.heap.size + 1 + 1) _ code G 0 65535 _ _ H2.out.ck (by omega) H2.out.lo).mono ?_
  rintro e w3 ⟨rfl, hc3, ht3⟩
  have H3 := hide (H2.out.tch hc3 ht3)
  clear hc3 ht3 H2 c2
  have c3 := (H3.out.blk.cell 5).trans (show (opC K A B U G p q (.slice a n c))[5]? = some (.string p) from rfl)
  go_wp2_with (go_at_call 57; fail)
  refine (within_any (w.heap.size + 1) (w.heap.size + 1 + 1) _ code (p.size : Int) 0 512 _ _ H3.out.ck (by omega) H3.out.lo).mono ?_
  rintro e w4 ⟨rfl, hc4, ht4⟩
  have H4 := hide (H3.out.tch hc4 ht4)
  clear hc4 ht4 H3 c3
  have c4 := (H4.out.blk.cell 6).trans (show (opC K A B U G p q (.slice a n c))[6]? = some (.string q) from rfl)
  go_wp2_with (go_at_call 57; fail)
  refine (within_any (w.heap.size + 1) (w.heap.size + 1 + 1) _ code (q.size : Int) 0 512 _ _ H4.out.ck (by omega) H4.out.lo).mono ?_
  rintro e w5 ⟨rfl, hc5, ht5⟩
  have H5 := hide (H4.out.tch hc5 ht5)
  clear hc5 ht5 H4 c4
  have c5 := (H5.out.blk.cell 7).trans (show (opC K A B U G p q (.slice a n c))[7]? = some (.slice a n c) from rfl)
  go_wp2_with (go_at_call 57; fail)
  refine (within_any (w.heap.size + 1) (w.heap.size + 1 + 1) _ code (n : Int) 0 4096 _ _ H5.out.ck (by omega) H5.out.lo).mono ?_
  rintro e w6 ⟨rfl, hc6, ht6⟩
  have H6 := hide (H5.out.tch hc6 ht6)
  clear hc6 ht6 H5 c5
  obtain ⟨ev, c6, hf6⟩ := H6.out.fault
  have HV := hide (show FaultIs w6 w.heap.size (rightO K U G p q n) ev code from by rw [HF.out]; exact hf6)
  clear hf6
  go_wp2
  go_ret
  exact ⟨ev, rfl, HV.out, H6.out.old⟩
end Go.Proofs.YtohmjfagbhnieaaGreatDoor
