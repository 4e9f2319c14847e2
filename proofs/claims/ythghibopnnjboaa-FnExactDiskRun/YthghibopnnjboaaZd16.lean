/- The program's first fault that sticks: need, within, inside, at a check that lies at the head of block b. -/
import Derived.Test.YthghibopnnjboaaZd15
import Derived.Test.YthghibopnnjboaaZd01
namespace Go.Proofs.Ythghibopnnjboaa
open Go.RowKit

/-- Of what was there only the second cell of block b may have turned. -/
def Tch (b : Nat) (w w' : World) : Prop :=
  w.grownBy w' (some b) ∧ (∀ o, o ≠ 1 → w'.cell? ⟨b, o, none⟩ = w.cell? ⟨b, o, none⟩) ∧ ∀ o, w'.frozen? ⟨b, o, none⟩ = w.frozen? ⟨b, o, none⟩
theorem Tch.refl (b : Nat) (w : World) : Tch b w w := ⟨World.grownBy.refl _ _, fun _ _ => rfl, fun _ => rfl⟩
theorem Tch.trans {b : Nat} {w w1 w2 : World} (h1 : Tch b w w1) (h2 : Tch b w1 w2) : Tch b w w2 :=
  ⟨grownBy_trans h1.1 h2.1, fun o ho => (h2.2.1 o ho).trans (h1.2.1 o ho), fun o => (h2.2.2 o).trans (h1.2.2 o)⟩
theorem Tch.of_below {b : Nat} {w w' : World} (hlt : b < w.heap.size) (h : Below w.heap.size w w') : Tch b w w' :=
  ⟨⟨h.os, h.tape, h.output, h.size, fun k hk _ => h.block k hk⟩, fun o _ => h.cell (p := ⟨b, o, none⟩) hlt, fun o => h.frozen (p := ⟨b, o, none⟩) hlt⟩
theorem Tch.under {b B : Nat} {w0 w w' : World} (h : Tch b w w') (h0 : Below B w0 w) (hB : B ≤ b) (hs : B ≤ w.heap.size) : Below B w0 w' :=
  h0.grown h.1 hs (fun k e => by cases e; exact hB)
end Go.Proofs.Ythghibopnnjboaa
