/- The program's reader of bytes: take, number, zeros, end, at a reader that lies in a block of its own. -/
import Derived.Test.YtlegmaadcemgnaaDoorCheck
import Derived.Test.YtlegmaadcemgnaaDoorMarks
import Derived.Test.YtlegmaadcemgnaaDoorLay
import Derived.Deep.RegionHeld
import Derived.Deep.RegionWith
import Derived.BigQuiet
import Derived.Deep.QuietTactic
namespace Go.Proofs.YtlegmaadcemgnaaDoor
open Go.RowKit

/-- A reader at block b (made in the world w0, of which b is the first new block): its check; what it reads, a slice that was there before it; how far it is. -/
structure Rdr (w0 w : World) (b lo : Nat) (ok : Bool) (dv : Value) (zs : List Int) (pos : Nat) : Prop where
  ck : Ck w b lo 21 ok
  data : w.cell? ⟨b, 2, none⟩ = some dv
  at_ : w.cell? ⟨b, 3, none⟩ = some (.int .i64 pos)
  fr : w.frozen? ⟨b, 3, none⟩ = false
  old : Below b w0 w
  size : w0.heap.size = b
  rd : Rd .u8 w0 dv zs
  le : pos ≤ zs.length
  lo1 : b < lo
  lo2 : lo ≤ w.heap.size

theorem Rdr.read {w0 w : World} {b lo : Nat} {ok : Bool} {dv : Value} {zs : List Int} {pos : Nat} (h : Rdr w0 w b lo ok dv zs pos) : Rd .u8 w dv zs :=
  h.rd.below (by rw [h.size]; exact h.old)
theorem Rdr.tch {w0 w w' : World} {b lo : Nat} {ok ok' : Bool} {dv : Value} {zs : List Int} {pos : Nat} (h : Rdr w0 w b lo ok dv zs pos) (hc : Ck w' b lo 21 ok') (ht : Tch b w w') : Rdr w0 w' b lo ok' dv zs pos :=
  ⟨hc, (ht.2.1 2 (by omega)).trans h.data, (ht.2.1 3 (by omega)).trans h.at_, (ht.2.2 3).trans h.fr, ht.under h.old (Nat.le_refl _) (Nat.le_of_lt h.ck.lt), h.size, h.rd, h.le, h.lo1, Nat.le_trans h.lo2 ht.1.size⟩
theorem Rdr.lift {w0 w : World} {b lo : Nat} {ok : Bool} {dv : Value} {zs : List Int} {pos : Nat} (h : Rdr w0 w b lo ok dv zs pos) {v : Value} {xs : List Int} (hx : Rd .u8 w0 v xs) : Rd .u8 w v xs :=
  hx.below (by rw [h.size]; exact h.old)
/-- What take leaves: the bytes asked for and a reader that much further; or nothing and a fault. -/
def Took (w0 w w' : World) (b lo : Nat) (ok : Bool) (dv : Value) (zs : List Int) (pos : Nat) (n : Int) (sv : Value) : Prop :=
  w.grownBy w' (some b) ∧
    ((ok = true ∧ 0 ≤ n ∧ (pos : Int) + n ≤ zs.length ∧ Rd .u8 w0 sv ((zs.drop pos).take n.toNat) ∧ Rdr w0 w' b lo true dv zs (pos + n.toNat)) ∨
     (¬ (ok = true ∧ 0 ≤ n ∧ (pos : Int) + n ≤ zs.length) ∧ sv = .slice none 0 0 ∧ Rdr w0 w' b lo false dv zs pos))
theorem Rdr.moved {w0 w1 : World} {b lo : Nat} {dv : Value} {zs : List Int} {pos : Nat} (h : Rdr w0 w1 b lo true dv zs pos) (p nq : Nat) (hp : p ≤ zs.length) (v : Value) (hv : v = .int .i64 p) : Rdr w0 ((w1.setCell ⟨b, 3, none⟩ v).drewN nq) b lo true dv zs p := by
  subst hv
  have ho : ∀ o, o ≠ 3 → (⟨b, 3, none⟩ : Addr) ≠ ⟨b, o, none⟩ := fun o ho e => by injection e with e1 e2; omega
  obtain ⟨c1, c2, ev, c3, c4⟩ := h.ck
  refine ⟨⟨?_, ?_, ev, ?_, ?_⟩, ?_, ?_, ?_, ?_, h.size, h.rd, hp, h.lo1, ?_⟩
  · exact (World.cell?_setCell_other w1 ⟨b, 3, none⟩ ⟨b, 0, none⟩ _ (ho 0 (by omega))).trans c1
  · have := c2; simpa using this
  · exact (World.cell?_setCell_other w1 ⟨b, 3, none⟩ ⟨b, 1, none⟩ _ (ho 1 (by omega))).trans c3
  · rcases c4 with c4 | ⟨c4, _⟩
    · exact .inl c4
    · cases c4
  · exact (World.cell?_setCell_other w1 ⟨b, 3, none⟩ ⟨b, 2, none⟩ _ (ho 2 (by omega))).trans h.data
  · exact World.cell?_setCell_same w1 ⟨b, 3, none⟩ _ h.at_
  · have := h.fr; simpa using this
  · exact below_drewN (h.old.setCell (Nat.le_refl _) _) nq
  · have := h.lo2; simpa using this

end Go.Proofs.YtlegmaadcemgnaaDoor
