/- The program's DecodeInode. -/
import Derived.Test.YtkbbnflblkkepaaGreatDoorZm30
import Derived.Test.YtkbbnflblkkepaaGreatDoorZm29
import Derived.Deep.RegionHeld3
import Derived.Deep.MidRow
namespace Go.Proofs.YtkbbnflblkkepaaGreatDoor
set_option linter.unusedVariables false
set_option linter.unusedSimpArgs false
open Go.RowKit

/-- All gaps of an inode's bytes are zeros. -/
def gapsZ (zs : List Int) : Bool := gaps2 zs && allz ((zs.drop 104).take 24)
/-- What DecodeInode's regions leave: an inode that was read, and whether it is told. -/
def ReadI (zs : List Int) (k0 k1 k2 k3 k4 k5 k6 k7 k8 s : Int) (ds : List Int) (p q : Int) (ok : Bool) : Prop :=
  ds.length = 12 ∧ (ok = true → InoAt zs k0 k1 k2 k3 k4 k5 k6 k7 k8 s ds p q ∧ rightIno k0 k1 k2 k3 k4 k5 k6 k7 k8 s ds p q = true ∧ zs.length = 128 ∧ gapsZ zs = true) ∧ (zs.length = 128 → gapsZ zs = true → InoAt zs k0 k1 k2 k3 k4 k5 k6 k7 k8 s ds p q ∧ ok = rightIno k0 k1 k2 k3 k4 k5 k6 k7 k8 s ds p q)

theorem readI_of (zs : List Int) (k0 k1 k2 k3 k4 k5 k6 k7 k8 s : Int) (ds : List Int) (p q : Int) (ok2 : Bool) (p2 : Nat) (ha : AdvC zs 104 (gaps2 zs) ok2 p2) (hv : ok2 = true → InoAt zs k0 k1 k2 k3 k4 k5 k6 k7 k8 s ds p q) (hd : ds.length = 12) :
    ReadI zs k0 k1 k2 k3 k4 k5 k6 k7 k8 s ds p q (ok2 && ((((zs.drop p2).take (128 - p2)).all fun z => decide (z = 0)) && decide (zs.length = 128)) && rightIno k0 k1 k2 k3 k4 k5 k6 k7 k8 s ds p q) := by
  obtain ⟨h1, h2, h3⟩ := ha
  refine ⟨hd, fun h => ?_, fun h hg => ?_⟩
  · simp only [Bool.and_eq_true, decide_eq_true_eq] at h
    have hp := h3 h.1.1
    subst hp
    refine ⟨hv h.1.1, h.2, h.1.2.2, ?_⟩
    unfold gapsZ
    rw [(h2.1 h.1.1).2, Bool.true_and]
    exact h.1.2.1
  · unfold gapsZ at hg
    rw [Bool.and_eq_true] at hg
    have ho := h2.2 ⟨by omega, hg.1⟩
    have hp := h3 ho
    subst hp
    refine ⟨hv ho, ?_⟩
    have hz : (((zs.drop 104).take (128 - 104)).all fun z => decide (z = 0)) = true := hg.2
    rw [ho, hz, decide_eq_true h]
    simp

theorem ino_whole (k0 k1 k2 k3 k4 k5 k6 k7 k8 s : Int) (ds : List Int) (p q : Int) (hd : ds.length = 12) {w : World} {b : Nat} {t : TypeId} (h : Blk w b (cellsI (inoI [k0, k1, k2, k3, k4, k5, k6, k7, k8] s ds p q)) t) : w.rangeAt b 0 ((inoI [k0, k1, k2, k3, k4, k5, k6, k7, k8] s ds p q).map (Value.int .i64)) := by
  have hl := inoI_len [k0, k1, k2, k3, k4, k5, k6, k7, k8] s ds p q rfl hd
  have := h.range 0 24 (by omega)
  rw [List.drop_zero, List.take_of_length_le (by omega)] at this
  exact this

end Go.Proofs.YtkbbnflblkkepaaGreatDoor
