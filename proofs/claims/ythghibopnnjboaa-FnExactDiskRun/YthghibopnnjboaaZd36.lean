/- A sector write built of its parts. -/
import Derived.Test.YthghibopnnjboaaZd35
import Derived.Great.Walk
namespace Go.Proofs.Ythghibopnnjboaa
set_option linter.unusedVariables false
set_option linter.unusedSimpArgs false
open Go.RowKit

theorem fold_setK (off : Nat) : ∀ (vs : List Value) (n : Nat) (L : List Value), off + n + vs.length ≤ L.length → (vs.zipIdx n).foldl (fun (cs : Array Value) (p : Value × Nat) => cs.setIfInBounds (off + p.2) p.1) L.toArray = (L.take (off + n) ++ vs ++ L.drop (off + n + vs.length)).toArray
  | [], n, L, h => by simp
  | v :: vs, n, L, h => by
    have hlt : off + n < L.length := by simp at h; omega
    rw [List.zipIdx_cons, List.foldl_cons, List.setIfInBounds_toArray, fold_setK off vs (n + 1) _ (by simp at h ⊢; omega)]
    congr 1
    have e : L.set (off + n) v = L.take (off + n) ++ v :: L.drop (off + n + 1) := by rw [List.set_eq_take_append_cons_drop, if_pos hlt]
    have hl : (L.take (off + n)).length = off + n := by simp; omega
    rw [show off + (n + 1) = off + n + 1 by omega, e]
    have e1 : (L.take (off + n) ++ v :: L.drop (off + n + 1)).take (off + n + 1) = L.take (off + n) ++ [v] := by
      rw [List.take_append, hl, show off + n + 1 - (off + n) = 1 by omega, List.take_of_length_le (by omega)]
      rfl
    have e2 : (L.take (off + n) ++ v :: L.drop (off + n + 1)).drop (off + n + 1 + vs.length) = L.drop (off + n + (v :: vs).length) := by
      rw [List.drop_append, hl, List.drop_of_length_le (by omega), List.nil_append, show off + n + 1 + vs.length - (off + n) = vs.length + 1 by omega, List.drop_succ_cons, List.drop_drop]
      congr 1
      simp
      omega
    rw [e1, e2]
    simp
theorem fill_oneK (p : Nat → Option (Nat × Nat)) (i off : Nat) (v : Value) (vs L : List Value) (rest : List (Nat × Value)) (hp : p i = some (off, vs.length)) (hv : v.cells = vs.toArray) (hl : off + vs.length ≤ L.length) :
    Instr.fill p L.toArray ((i, v) :: rest) = Instr.fill p (L.take off ++ vs ++ L.drop (off + vs.length)).toArray rest := by
  have hf : (vs.toArray.zipIdx.foldl (fun (cs : Array Value) (p : Value × Nat) => cs.setIfInBounds (off + p.2) p.1) L.toArray) = (L.take off ++ vs ++ L.drop (off + vs.length)).toArray := by
    rw [← Array.foldl_toList, Array.toList_zipIdx]
    exact fold_setK off vs 0 L (by omega)
  rw [Instr.fill, hp]
  simp only [hv]
  rw [if_neg (by simp; omega)]
  rw [← hf]
def placesW : List (Nat × Nat) := [(0, 1), (1, 128)]
def zeroW : List Value := .int .i64 0 :: (List.replicate 128 (0 : Int)).map (Value.int .u8)
theorem built_partsW (parts : List (Nat × Value)) : Try.prog.built 95 parts = Instr.fill (placesW.toArray[·]?) zeroW.toArray parts := by kernel_rfl
theorem built_sw (at1 : Nat) (P : List Int) (hP : P.length = 128) : Try.prog.built 95 [(0, .int .i64 (at1 : Int)), (1, .agg (P.map (Value.int .u8)).toArray)] = some (secX at1 P) := by
  rw [built_partsW]
  rw [fill_oneK _ 0 0 (.int .i64 (at1 : Int)) [.int .i64 (at1 : Int)] zeroW _ rfl rfl (by simp [zeroW])]
  have e1 : zeroW.take 0 ++ [Value.int .i64 (at1 : Int)] ++ zeroW.drop (0 + [Value.int .i64 (at1 : Int)].length) = [Value.int .i64 (at1 : Int)] ++ (List.replicate 128 (0 : Int)).map (Value.int .u8) := rfl
  rw [e1]
  rw [fill_oneK _ 1 1 (.agg (P.map (Value.int .u8)).toArray) (P.map (Value.int .u8)) _ _ (by rw [List.length_map, hP]; rfl) rfl (by simp [hP])]
  have e2 : ([Value.int .i64 (at1 : Int)] ++ (List.replicate 128 (0 : Int)).map (Value.int .u8)).take 1 ++ P.map (Value.int .u8) ++ ([Value.int .i64 (at1 : Int)] ++ (List.replicate 128 (0 : Int)).map (Value.int .u8)).drop (1 + (P.map (Value.int .u8)).length) = [Value.int .i64 (at1 : Int)] ++ P.map (Value.int .u8) := by
    rw [List.length_map, hP]
    rw [List.drop_of_length_le (by simp)]
    simp
  rw [e2, Instr.fill]
  rfl
/-- Cached writes by the place of their bytes; the sectors of a block. -/
def byC (C : List (Nat × List Int)) : List (Nat × List Int) := C.map fun c => (c.1 * 128, c.2)
def secS (B : Nat) (D : List Int) (j : Nat) : Nat × List Int := (B * 4 + j, (D.drop (j * 128)).take 128)
def wrS (C : List (Nat × List Int)) (B : Nat) (D : List Int) (j : Nat) : List (Nat × List Int) := C ++ (List.range j).map (secS B D)
theorem wrS_zero (C : List (Nat × List Int)) (B : Nat) (D : List Int) : wrS C B D 0 = C := by simp [wrS]
theorem wrS_succ (C : List (Nat × List Int)) (B : Nat) (D : List Int) (j : Nat) : wrS C B D (j + 1) = wrS C B D j ++ [secS B D j] := by simp [wrS, List.range_succ]
theorem wrS_len (C : List (Nat × List Int)) (B : Nat) (D : List Int) (j : Nat) : (wrS C B D j).length = C.length + j := by simp [wrS]
theorem byC_wrS (C : List (Nat × List Int)) (B : Nat) (D : List Int) (j : Nat) : byC (wrS C B D j) = wrC (byC C) B D j := by
  unfold byC wrS wrC
  rw [List.map_append, List.map_map]
  congr 1
  apply List.map_congr_left
  intro i _
  show ((B * 4 + i) * 128, _) = (B * 512 + i * 128, _)
  rw [show (B * 4 + i) * 128 = B * 512 + i * 128 by omega]
  rfl
theorem byC_snoc (C : List (Nat × List Int)) (c : Nat × List Int) : byC (C ++ [c]) = byC C ++ [(c.1 * 128, c.2)] := by simp [byC]
theorem byC_len (C : List (Nat × List Int)) : (byC C).length = C.length := by simp [byC]
theorem mkW_push (L : List Int) (C : List (Nat × List Int)) (c : Nat × List Int) : mkW L (C ++ [c]) = splice (mkW L C) c.1 c.2 := by unfold mkW; rw [List.foldl_append]; rfl
theorem fuJ_add (f : Int) (j : Nat) (h : fuJ f j ≠ 0) (hle : 0 ≤ f → (j : Int) ≤ f) : fuJ (fuJ f j) 1 = fuJ f (j + 1) ∧ (0 ≤ f → ((j + 1 : Nat) : Int) ≤ f) := by
  unfold fuJ at h ⊢
  by_cases h1 : f < 0
  · rw [if_pos h1] at h ⊢
    rw [if_pos h1, if_pos h1]
    exact ⟨rfl, fun h2 => by omega⟩
  · rw [if_neg h1] at h ⊢
    have := hle (by omega)
    rw [if_neg (by omega), if_neg h1]
    exact ⟨by omega, fun _ => by omega⟩
end Go.Proofs.Ythghibopnnjboaa
