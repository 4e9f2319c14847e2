/- A copy of a snapshot: toSnap. -/
import Derived.Test.YtfkmnmopkblopaaGreatDoorZs16
namespace Go.Proofs.YtfkmnmopkblopaaGreatDoor
set_option linter.unusedVariables false
set_option linter.unusedSimpArgs false
open Go.RowKit

theorem Blk.cellsV {b : Nat} {t : TypeId} : ∀ (vs : List Value) {w : World} {L : List Value} (o : Nat), Blk w b L.toArray t → o + vs.length ≤ L.length → Blk (w.setCells b o vs) b (L.take o ++ vs ++ L.drop (o + vs.length)).toArray t
  | [], w, L, o, h, _ => by simpa [World.setCells] using h
  | v :: vs, w, L, o, h, hl => by
    have hlt : o < L.length := by simp at hl; omega
    have h1 := h.set o v
    have e1 : L.toArray.setIfInBounds o v = (L.set o v).toArray := by simp
    rw [e1] at h1
    have h2 := Blk.cellsV vs (o + 1) h1 (by simp at hl ⊢; omega)
    have e2 : (L.set o v).take (o + 1) ++ vs ++ (L.set o v).drop (o + 1 + vs.length) = L.take o ++ (v :: vs) ++ L.drop (o + (v :: vs).length) := by
      rw [List.take_succ_eq_append_getElem (by simpa using hlt), List.take_set_of_le (Nat.le_refl _), List.getElem_set_self, List.drop_set_of_lt (by omega)]
      simp [Nat.add_assoc, Nat.add_comm 1]
    rw [e2] at h2
    exact h2
theorem snap_over (pl : Int) (nm : ByteArray) (ge cl s : Int) (ds : List Int) (p q : Int) (hd : ds.length = 12) {w : World} {b : Nat} {t : TypeId} (h : Blk w b (snapC pl nm ge cl 0 (List.replicate 12 0) 0 0) t) : Blk (w.setCells b 4 (cellsI (rootI s ds p q)).toList) b (snapC pl nm ge cl s ds p q) t := by
  have hl := rootI_len s ds p q hd
  have h2 := Blk.cellsV (cellsI (rootI s ds p q)).toList 4 h (by simp [cellsI, rootI, hd])
  have e : (([.int .i64 pl, .string nm, .int .i64 ge, .int .i64 cl] : List Value) ++ (rootI 0 (List.replicate 12 0) 0 0).map (Value.int .i64)).take 4 ++ (cellsI (rootI s ds p q)).toList ++ (([.int .i64 pl, .string nm, .int .i64 ge, .int .i64 cl] : List Value) ++ (rootI 0 (List.replicate 12 0) 0 0).map (Value.int .i64)).drop (4 + (cellsI (rootI s ds p q)).toList.length) = ([.int .i64 pl, .string nm, .int .i64 ge, .int .i64 cl] : List Value) ++ (rootI s ds p q).map (Value.int .i64) := by
    have h3 : (cellsI (rootI s ds p q)).toList.length = 15 := by simp [cellsI, hl]
    rw [h3]
    simp [cellsI, rootI]
  rw [e] at h2
  exact h2

end Go.Proofs.YtfkmnmopkblopaaGreatDoor
