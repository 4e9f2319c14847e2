/- The program's first fault that sticks: need, within, inside, at a check that lies at the head of block b. EncodeWords, the model's and the program's: both give encW. -/
import Derived.Test.YthghibopnnjboaaZi09
import Derived.Test.YthghibopnnjboaaZi01
import Derived.Test.YthghibopnnjboaaZi06
import Derived.Test.YthghibopnnjboaaZi04
namespace Go.Proofs.Ythghibopnnjboaa
open Go.RowKit

/-- Of what was there only the second cell of block b may have turned. -/
def Tch (b : Nat) (w w' : World) : Prop :=
  w.grownBy w' (some b) ∧ (∀ o, o ≠ 1 → w'.cell? ⟨b, o, none⟩ = w.cell? ⟨b, o, none⟩) ∧ ∀ o, w'.frozen? ⟨b, o, none⟩ = w.frozen? ⟨b, o, none⟩
theorem Tch.refl (b : Nat) (w : World) : Tch b w w := ⟨World.grownBy.refl _ _, fun _ _ => rfl, fun _ => rfl⟩
theorem Tch.trans {b : Nat} {w w1 w2 : World} (h1 : Tch b w w1) (h2 : Tch b w1 w2) : Tch b w w2 :=
  ⟨grownBy_trans h1.1 h2.1, fun o ho => (h2.2.1 o ho).trans (h1.2.1 o ho), fun o => (h2.2.2 o).trans (h1.2.2 o)⟩
theorem Tch.of_below {b : Nat} {w w' : World} (hlt : b < w.heap.size) (h : Below w.heap.size w w') : Tch b w w' :=
  ⟨⟨h.os, h.tape, h.output, h.size, fun k hk _ => h.block k hk⟩, fun o _ => h.cell (p := ⟨b, o, none⟩) hlt, fun o => h.frozen (p := ⟨b, o, none⟩) hlt⟩
theorem Tch.under {b B : Nat} {w0 w w' : World} (h : Tch b w w') (h0 : Below B w0 w) (hB : B ≤ b) (hs : B ≤ w.heap.size) : Below B w0 w' :=
  h0.grown h.1 hs (fun k e => by cases e; exact hB)
end Go.Proofs.Ythghibopnnjboaa

namespace Go.Proofs.Ythghibopnnjboaa
open Go.RowKit

def okW (v : Int) : Bool := decide (0 ≤ v) && decide (v ≤ 4294967295)
def bytesW (ws : List Int) : List Int := ws.flatMap fun v => le 4 v.toNat
def goodW (ws : List Int) : Bool := decide (ws.length = 128) && ws.all okW
def encW (ws : List Int) : List Int := if goodW ws = true then bytesW ws else []
def codeW (ws : List Int) : Int := if goodW ws = true then 0 else 7

theorem bytesW_len (ws : List Int) : (bytesW ws).length = 4 * ws.length := by
  unfold bytesW
  induction ws with
  | nil => rfl
  | cons v ws ih => rw [List.flatMap_cons, List.length_append, ih, le_len, List.length_cons]; omega
theorem bytesW_take (ws : List Int) (k : Nat) (h : k < ws.length) : bytesW (ws.take (k + 1)) = bytesW (ws.take k) ++ le 4 (ws.getD k 0).toNat := by
  unfold bytesW
  rw [List.take_succ_eq_append_getElem h, List.flatMap_append]
  simp [List.getD, h]
theorem all_take (ws : List Int) (k : Nat) (h : k < ws.length) : (ws.take (k + 1)).all okW = ((ws.take k).all okW && okW (ws.getD k 0)) := by
  rw [List.take_succ_eq_append_getElem h, List.all_append]
  simp [List.getD, h]
theorem bad_of_get (ws : List Int) (k : Nat) (h : k < ws.length) (hb : okW (ws.getD k 0) = false) : goodW ws = false := by
  unfold goodW
  rw [Bool.and_eq_false_iff]
  right
  rw [List.all_eq_false]
  refine ⟨ws.getD k 0, ?_, by rw [hb]; simp⟩
  simp [List.getD, h]

end Go.Proofs.Ythghibopnnjboaa
