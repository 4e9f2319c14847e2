/- The program's look at a root, whole: rootFault. -/
import Derived.Test.YthkoflpcinbgeaaZq07
namespace Go.Proofs.Ythkoflpcinbgeaa
set_option linter.unusedVariables false
set_option linter.unusedSimpArgs false
open Go.RowKit

theorem Kp.below {w wr w' : World} {C : Array Value} {t : TypeId} {code : Int} {ok : Bool} (h : Kp w wr C t code ok) (hb : Below wr.heap.size wr w') : Kp w w' C t code ok :=
  ⟨h.blk.below hb h.blk.lt, h.ck.below hb, h.old.trans (hb.mono h.old.size)⟩

theorem inside_fault (w wr w1 : World) (C : Array Value) (t : TypeId) (code : Int) (ok ok1 : Bool) (place : ByteArray) (ev : Value) (h : Kp w w1 C t code ok) (hlo : w.heap.size + 1 + 1 ≤ wr.heap.size) (hs : wr.heap.size ≤ w1.heap.size) (hf : FaultIs w1 wr.heap.size ok1 ev code) :
    Calls Try.prog 41 #[.pointer (some ⟨w.heap.size + 1, 0, none⟩), .string place, ev] w1 fun e w' => e = .returned (.tuple #[]) ∧ Kp w w' C t code (ok && ok1) := by
  rcases hf with ⟨rfl, rfl⟩ | ⟨rfl, m, hm⟩
  · refine (inside_nil (w.heap.size + 1) _ place code ok w1 h.ck).mono ?_
    rintro e w' ⟨rfl, rfl⟩
    exact ⟨rfl, by simpa using h⟩
  · refine (inside_any (w.heap.size + 1) (w.heap.size + 1 + 1) place code ok m ev w1 h.ck (hm.mono hlo) (by omega) h.lo).mono ?_
    rintro e w' ⟨rfl, hc, ht⟩
    exact ⟨rfl, by rw [Bool.and_false]; exact h.tch hc ht⟩

def dirsB (ds : List Int) (y : Int) (n : Nat) : Bool := (List.range n).all fun i => decide (ds.getD i 0 = 0) || decide ((i : Int) < y)
theorem dirsB_succ (ds : List Int) (y : Int) (n : Nat) : dirsB ds y (n + 1) = (dirsB ds y n && (decide (ds.getD n 0 = 0) || decide ((n : Int) < y))) := by simp [dirsB, List.range_succ]

end Go.Proofs.Ythkoflpcinbgeaa
