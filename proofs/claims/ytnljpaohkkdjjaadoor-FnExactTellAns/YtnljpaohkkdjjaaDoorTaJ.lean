/- An answer as a letter: its cells, what they read as, and the calls on it. -/
import Derived.Test.YtnljpaohkkdjjaaDoorTaG
import Derived.Test.YtnljpaohkkdjjaaDoorTaI
namespace Go.Proofs.YtnljpaohkkdjjaaDoor
set_option linter.unusedVariables false
set_option linter.unusedSimpArgs false
open Go.RowKit

/-- C are the cells of an answer that reads so. -/
def AnsAt (cd nn : Int) (zs : List UInt8) (s0 s1 s2 s3 s4 s5 s6 s7 s8 s9 : Int) (L : List EK) (q0 q1 q2 q3 q4 q5 q6 q7 q8 q9 : Int) (C : Array Value) (W : World) : Prop := ∃ dv nv, C = #[.int .i64 cd, .int .i64 nn, dv, .int .i64 s0, .int .i64 s1, .int .i64 s2, .int .i64 s3, .int .i64 s4, .int .i64 s5, .int .i64 s6, .int .i64 s7, .int .i64 s8, .int .i64 s9, nv, .int .i64 q0, .int .i64 q1, .int .i64 q2, .int .i64 q3, .int .i64 q4, .int .i64 q5, .int .i64 q6, .int .i64 q7, .int .i64 q8, .int .i64 q9] ∧ Rd .u8 W dv (txI zs) ∧ RdE W nv L
theorem AnsAt.below {cd nn : Int} {zs : List UInt8} {s0 s1 s2 s3 s4 s5 s6 s7 s8 s9 : Int} {L : List EK} {q0 q1 q2 q3 q4 q5 q6 q7 q8 q9 : Int} {C : Array Value} {W W' : World} (h : AnsAt cd nn zs s0 s1 s2 s3 s4 s5 s6 s7 s8 s9 L q0 q1 q2 q3 q4 q5 q6 q7 q8 q9 C W) (hb : Below W.heap.size W W') : AnsAt cd nn zs s0 s1 s2 s3 s4 s5 s6 s7 s8 s9 L q0 q1 q2 q3 q4 q5 q6 q7 q8 q9 C W' := by
  obtain ⟨dv, nv, e, h1, h2⟩ := h
  exact ⟨dv, nv, e, h1.below hb, h2.below hb⟩
theorem AnsAt.size {cd nn : Int} {zs : List UInt8} {s0 s1 s2 s3 s4 s5 s6 s7 s8 s9 : Int} {L : List EK} {q0 q1 q2 q3 q4 q5 q6 q7 q8 q9 : Int} {C : Array Value} {W : World} (h : AnsAt cd nn zs s0 s1 s2 s3 s4 s5 s6 s7 s8 s9 L q0 q1 q2 q3 q4 q5 q6 q7 q8 q9 C W) : C.size = 24 := by
  obtain ⟨dv, nv, rfl, h1, h2⟩ := h
  rfl
theorem AnsAt.one {cd nn : Int} {zs : List UInt8} {s0 s1 s2 s3 s4 s5 s6 s7 s8 s9 : Int} {L : List EK} {q0 q1 q2 q3 q4 q5 q6 q7 q8 q9 : Int} {C : Array Value} {W : World} (h : AnsAt cd nn zs s0 s1 s2 s3 s4 s5 s6 s7 s8 s9 L q0 q1 q2 q3 q4 q5 q6 q7 q8 q9 C W) : C.all (·.oneCell') = true := by
  obtain ⟨dv, nv, rfl, ⟨a, c, rfl, _⟩, ⟨a2, c2, rfl, _⟩⟩ := h
  exact ans_one cd nn _ _ rfl rfl [s0, s1, s2, s3, s4, s5, s6, s7, s8, s9] [q0, q1, q2, q3, q4, q5, q6, q7, q8, q9]
theorem szA_any (cd nn : Int) (zs : List UInt8) (s0 s1 s2 s3 s4 s5 s6 s7 s8 s9 : Int) (L : List EK) (q0 q1 q2 q3 q4 q5 q6 q7 q8 q9 : Int) (C : Array Value) (W : World) (h : AnsAt cd nn zs s0 s1 s2 s3 s4 s5 s6 s7 s8 s9 L q0 q1 q2 q3 q4 q5 q6 q7 q8 q9 C W) (hm : ∀ e ∈ L, e.1.size ≤ maxLen) (hl : L.length ≤ maxLen) :
    Calls Tryd.prog 4 #[.agg C, .int .i64 1048576] W fun e w' => ∃ z, e = .returned (.int .i64 z) ∧ (¬ z < 0 → zs.length ≤ 1048576 ∧ L.length + sizK L ≤ 1048576) ∧ Below W.heap.size W w' := by
  obtain ⟨dv, nv, rfl, h1, h2⟩ := h
  exact szAnsT cd nn dv zs s0 s1 s2 s3 s4 s5 s6 s7 s8 s9 nv L q0 q1 q2 q3 q4 q5 q6 q7 q8 q9 W h1 h2 hm hl
theorem toA_any (cd nn : Int) (zs : List UInt8) (s0 s1 s2 s3 s4 s5 s6 s7 s8 s9 : Int) (L : List EK) (q0 q1 q2 q3 q4 q5 q6 q7 q8 q9 : Int) (C : Array Value) (W : World) (h : AnsAt cd nn zs s0 s1 s2 s3 s4 s5 s6 s7 s8 s9 L q0 q1 q2 q3 q4 q5 q6 q7 q8 q9 C W) (hzl : zs.length ≤ 1048576) (hll : L.length ≤ 1048576) :
    Calls Tryd.prog 6 #[.agg C] W fun e w' => ∃ C', e = .returned (.agg C') ∧ AnsAt cd nn zs s0 s1 s2 s3 s4 s5 s6 s7 s8 s9 L q0 q1 q2 q3 q4 q5 q6 q7 q8 q9 C' w' ∧ Below W.heap.size W w' := by
  obtain ⟨dv, nv, rfl, h1, h2⟩ := h
  refine (toAnsT cd nn dv zs s0 s1 s2 s3 s4 s5 s6 s7 s8 s9 nv L q0 q1 q2 q3 q4 q5 q6 q7 q8 q9 W h1 h2 hzl hll).mono ?_
  rintro e w' ⟨d, n, rfl, r1, r2, b⟩
  exact ⟨_, rfl, ⟨d, n, rfl, r1, r2⟩, b⟩
theorem eqA_any (cd nn : Int) (zs : List UInt8) (s0 s1 s2 s3 s4 s5 s6 s7 s8 s9 : Int) (L : List EK) (q0 q1 q2 q3 q4 q5 q6 q7 q8 q9 : Int) (C C2 : Array Value) (W : World) (h : AnsAt cd nn zs s0 s1 s2 s3 s4 s5 s6 s7 s8 s9 L q0 q1 q2 q3 q4 q5 q6 q7 q8 q9 C W) (h2 : AnsAt cd nn zs s0 s1 s2 s3 s4 s5 s6 s7 s8 s9 L q0 q1 q2 q3 q4 q5 q6 q7 q8 q9 C2 W) (hll : L.length ≤ 1048576) :
    Calls Tryd.prog 8 #[.agg C, .agg C2] W fun e w' => e = .returned (.bool true) ∧ Below W.heap.size W w' := by
  obtain ⟨d1, n1, rfl, r1, e1⟩ := h
  obtain ⟨d2, n2, rfl, r2, e2⟩ := h2
  exact eqAnsT cd nn d1 d2 zs s0 s1 s2 s3 s4 s5 s6 s7 s8 s9 n1 n2 L q0 q1 q2 q3 q4 q5 q6 q7 q8 q9 W r1 r2 e1 e2 hll
/-- Its numbers are numbers. -/
def AnsIn (cd nn : Int) (zs : List UInt8) (s0 s1 s2 s3 s4 s5 s6 s7 s8 s9 : Int) (L : List EK) (q0 q1 q2 q3 q4 q5 q6 q7 q8 q9 : Int) : Prop := In64 cd ∧ In64 nn ∧ (∀ z ∈ [s0, s1, s2, s3, s4, s5, s6, s7, s8, s9], In64 z) ∧ (∀ z ∈ [q0, q1, q2, q3, q4, q5, q6, q7, q8, q9], In64 z) ∧ ∀ e ∈ L, In64 e.2.1 ∧ In64 e.2.2
theorem spA_any (cd nn : Int) (zs : List UInt8) (s0 s1 s2 s3 s4 s5 s6 s7 s8 s9 : Int) (L : List EK) (q0 q1 q2 q3 q4 q5 q6 q7 q8 q9 : Int) (C : Array Value) (W : World) (h : AnsAt cd nn zs s0 s1 s2 s3 s4 s5 s6 s7 s8 s9 L q0 q1 q2 q3 q4 q5 q6 q7 q8 q9 C W) (hI : AnsIn cd nn zs s0 s1 s2 s3 s4 s5 s6 s7 s8 s9 L q0 q1 q2 q3 q4 q5 q6 q7 q8 q9) (hzl : zs.length ≤ 1048576) (hll : L.length + sizK L ≤ 1048576) :
    Calls Tryd.prog 5 #[.agg C] W fun e w' => e = .returned (.string (mk (tellL cd nn zs [s0, s1, s2, s3, s4, s5, s6, s7, s8, s9] L [q0, q1, q2, q3, q4, q5, q6, q7, q8, q9]))) ∧ Below W.heap.size W w' := by
  obtain ⟨dv, nv, rfl, h1, h2⟩ := h
  exact specTA_any cd nn dv zs s0 s1 s2 s3 s4 s5 s6 s7 s8 s9 nv L q0 q1 q2 q3 q4 q5 q6 q7 q8 q9 W h1 h2 hI.1 hI.2.1 hI.2.2.1 hI.2.2.2.1 hI.2.2.2.2 hzl (by omega) (by omega)
theorem imA_any (cd nn : Int) (zs : List UInt8) (s0 s1 s2 s3 s4 s5 s6 s7 s8 s9 : Int) (L : List EK) (q0 q1 q2 q3 q4 q5 q6 q7 q8 q9 : Int) (C : Array Value) (W : World) (h : AnsAt cd nn zs s0 s1 s2 s3 s4 s5 s6 s7 s8 s9 L q0 q1 q2 q3 q4 q5 q6 q7 q8 q9 C W) (hI : AnsIn cd nn zs s0 s1 s2 s3 s4 s5 s6 s7 s8 s9 L q0 q1 q2 q3 q4 q5 q6 q7 q8 q9) (hzl : zs.length ≤ 1048576) (hll : L.length + sizK L ≤ 1048576) (htab : Lib.TabIs Tryd.prog W "internal/strconv.uint64pow10" .u64 Lib.pow10Tab) :
    Calls Tryd.prog 7 #[.agg C] W fun e w' => e = .returned (.string (mk (tellL cd nn zs [s0, s1, s2, s3, s4, s5, s6, s7, s8, s9] L [q0, q1, q2, q3, q4, q5, q6, q7, q8, q9]))) ∧ Below W.heap.size W w' := by
  obtain ⟨dv, nv, rfl, h1, h2⟩ := h
  exact implTA_any cd nn dv zs s0 s1 s2 s3 s4 s5 s6 s7 s8 s9 nv L q0 q1 q2 q3 q4 q5 q6 q7 q8 q9 W h1 h2 hI.1 hI.2.1 hI.2.2.1 hI.2.2.2.1 hI.2.2.2.2 hzl (by omega) (by omega) (Lib.tabBelow_of_tabIs htab)
theorem ansAll {w : World} {b : Nat} {C : Array Value} {t : TypeId} (h : Blk w b C t) : w.rangeAt b 0 C.toList := by
  intro j v hv
  rw [h.cell (0 + j), Nat.zero_add]
  simpa using hv
theorem boxA {w : World} {b : Nat} {C : Array Value} {t : TypeId} (h : Blk w b C t) (D : Array Value) : Blk (w.setRow b D) b D t := h.row D
end Go.Proofs.YtnljpaohkkdjjaaDoor
