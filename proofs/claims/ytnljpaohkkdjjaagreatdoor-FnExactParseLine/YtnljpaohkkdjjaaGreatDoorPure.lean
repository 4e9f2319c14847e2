/- Plain facts on lists, marks and worlds that the laws' helpers share. -/
import Derived.Test.YtnljpaohkkdjjaaGreatDoorRows
import Derived.Test.YtnljpaohkkdjjaaGreatDoorBase
import Derived.WalkLawsBesides
namespace Go.Proofs.YtnljpaohkkdjjaaGreatDoor
open Go.RowKit

/-- The same of values whose slots the walk can read: one of so many elements. -/
def At (k : IntKind) (w : World) (v : Value) (n : Nat) (zs : List Int) : Prop :=
  (∃ a cap, v = .slice a n cap ∧ n < 1) ∨ ∃ b off cap, v = .slice (some ⟨b, off, none⟩) n cap ∧ b < w.heap.size ∧ ∀ i, i < n → w.cell? ⟨b, off + i, none⟩ = some (.int k (zs.getD i 0))

theorem take_eq_step (xs ys : List Int) (k : Nat) (hx : k < xs.length) (hy : k < ys.length) (h : xs.take k = ys.take k) (he : xs.getD k 0 = ys.getD k 0) : xs.take (k + 1) = ys.take (k + 1) := by
  rw [List.take_succ_eq_append_getElem hx, List.take_succ_eq_append_getElem hy, h]
  simp only [List.getD, List.getElem?_eq_getElem hx, List.getElem?_eq_getElem hy, Option.getD_some] at he
  rw [he]

/-- The marks from k on: n bytes. -/
def mk8 (k n : Nat) : List Int := (List.range n).map fun i => ((k + i : Nat) : Int) % 256
/-- The marks from k on: n integers. -/
def mk64 (k n : Nat) : List Int := (List.range n).map fun i => ((k + i : Nat) : Int)
theorem mk8_len (k n : Nat) : (mk8 k n).length = n := by simp [mk8]
theorem mk64_len (k n : Nat) : (mk64 k n).length = n := by simp [mk64]
theorem mk8_get (k n i : Nat) (h : i < n) : (mk8 k n)[i]? = some (((k + i : Nat) : Int) % 256) := by simp [mk8, h]
theorem mk64_get (k n i : Nat) (h : i < n) : (mk64 k n)[i]? = some ((k + i : Nat) : Int) := by simp [mk64, h]
theorem mk8_getD (k n i : Nat) (h : i < n) : (mk8 k n).getD i 0 = ((k + i : Nat) : Int) % 256 := by simp [List.getD, mk8_get k n i h]
theorem mk64_getD (k n i : Nat) (h : i < n) : (mk64 k n).getD i 0 = ((k + i : Nat) : Int) := by simp [List.getD, mk64_get k n i h]

theorem set_over {α : Type} (ms xs : List α) (z : α) (k n : Nat) (hk : k < n) (hm : ms.length = n) (hx : xs.length = n) (he : ms[k]? = some z) :
    (ms.take k ++ xs.drop k).set k z = ms.take (k + 1) ++ xs.drop (k + 1) := by
  apply List.ext_getElem?
  intro i
  rw [List.getElem?_set]
  by_cases hik : k = i
  · subst hik
    rw [if_pos rfl, if_pos (by simp; omega), List.getElem?_append_left (by simp; omega), List.getElem?_take, if_pos (by omega), he]
  · rw [if_neg hik]
    by_cases hlt : i < k
    · rw [List.getElem?_append_left (by simp; omega), List.getElem?_append_left (by simp; omega), List.getElem?_take, List.getElem?_take, if_pos hlt, if_pos (by omega)]
    · rw [List.getElem?_append_right (by simp; omega), List.getElem?_append_right (by simp; omega), List.getElem?_drop, List.getElem?_drop]
      simp only [List.length_take]
      congr 1
      omega

theorem grownBy_trans {w w1 w2 : World} {r : Option Nat} (h1 : w.grownBy w1 r) (h2 : w1.grownBy w2 r) : w.grownBy w2 r :=
  ⟨h2.os.trans h1.os, h2.tape.trans h1.tape, h2.output.trans h1.output, Nat.le_trans h1.size h2.size, fun k hk hn => (h2.block k (Nat.lt_of_lt_of_le hk h1.size) hn).trans (h1.block k hk hn)⟩

end Go.Proofs.YtnljpaohkkdjjaaGreatDoor
