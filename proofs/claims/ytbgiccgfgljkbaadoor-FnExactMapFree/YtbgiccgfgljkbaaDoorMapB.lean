/- The counts of a map: MapCount of the model and of the program. -/
import Derived.Test.YtbgiccgfgljkbaaDoorMapA
import Derived.Deep.RegionHeld3
import Derived.Laws.BitsLemmas
namespace Go.Proofs.YtbgiccgfgljkbaaDoor
set_option linter.unusedVariables false
set_option linter.unusedSimpArgs false
open Go.RowKit

/-- Bit p of a word. -/
def bitN (z p : Nat) : Nat := z / 2 ^ p % 2
/-- How many of the first k words have bit q; how many are 0; how many aren't. -/
def plN (ws : List Int) (q : Nat) : Nat → Nat
  | 0 => 0
  | k + 1 => plN ws q k + bitN (ws.getD k 0).toNat q
def freeN (ws : List Int) : Nat → Nat
  | 0 => 0
  | k + 1 => freeN ws k + if ws.getD k 0 = 0 then 1 else 0
def usedN (ws : List Int) : Nat → Nat
  | 0 => 0
  | k + 1 => usedN ws k + if ws.getD k 0 = 0 then 0 else 1
theorem plN_le (ws : List Int) (q : Nat) : ∀ k, plN ws q k ≤ k
  | 0 => Nat.le_refl _
  | k + 1 => by have := plN_le ws q k; have h : bitN (ws.getD k 0).toNat q < 2 := Nat.mod_lt _ (by decide); show plN ws q k + _ ≤ _; omega
theorem freeN_le (ws : List Int) : ∀ k, freeN ws k ≤ k
  | 0 => Nat.le_refl _
  | k + 1 => by have := freeN_le ws k; show freeN ws k + _ ≤ _; split <;> omega
theorem usedN_le (ws : List Int) : ∀ k, usedN ws k ≤ k
  | 0 => Nat.le_refl _
  | k + 1 => by have := usedN_le ws k; show usedN ws k + _ ≤ _; split <;> omega
/-- The planes when k words are counted, and word k in the planes below p. -/
def rowP (ws : List Int) (k p : Nat) : List Int := (List.range 32).map fun q => ((if q < p then plN ws q (k + 1) else plN ws q k : Nat) : Int)
theorem rowP_len (ws : List Int) (k p : Nat) : (rowP ws k p).length = 32 := by simp [rowP]
theorem rowP_get (ws : List Int) (k p : Nat) (h : p < 32) : (rowP ws k p).getD p 0 = (plN ws p k : Int) := by
  simp [rowP, List.getD, h]
theorem rowP_set (ws : List Int) (k p : Nat) (h : p < 32) : (rowP ws k p).set p ((plN ws p (k + 1) : Nat) : Int) = rowP ws k (p + 1) := by
  apply List.ext_getElem?
  intro i
  rw [List.getElem?_set]
  by_cases hi : p = i
  · subst hi
    simp [rowP, h]
  · rw [if_neg hi]
    by_cases h2 : i < 32
    · have e : (i < p + 1) = (i < p) := by apply propext; omega
      simp [rowP, h2, e]
    · simp [rowP, h2]
theorem rowP_end (ws : List Int) (k : Nat) : rowP ws k 32 = rowP ws (k + 1) 0 := by
  apply List.map_congr_left
  intro q hq
  have : q < 32 := by simpa using hq
  simp [this]
theorem rowP_zero (ws : List Int) : rowP ws 0 0 = List.replicate 32 0 := by
  simp [rowP, plN]
  rfl
def cntI (n f u : Int) (ps : List Int) : List Int := n :: f :: u :: ps
/-- What MapCount answers. -/
def cntM (ws : List Int) : List Int := if rightM ws then cntI ws.length (freeN ws ws.length) (usedN ws ws.length) (rowP ws ws.length 0) else List.replicate 35 0
def codeM (ws : List Int) : Int := if rightM ws then 0 else 7
theorem cntM_len (ws : List Int) : (cntM ws).length = 35 := by unfold cntM; split <;> simp [cntI, rowP_len]
theorem info35 : (Tryd.prog.info? 25).map (·.size) = some 35 := by kernel_rfl

theorem wraps_i64 (n : Int) (h0 : 0 ≤ n) (h1 : n < 2 ^ 63) : IntKind.i64.wrap n = n := by rw [IntKind.wrap_i64]; omega
theorem bit_i64 (y p x : Nat) (hy : y ≤ 4294967295) (hx : x ≤ 2048) : wrap64 ((x : Int) + bits .and .i64 ((y : Int) / 2 ^ p) 1) = ((x + bitN y p : Nat) : Int) := by
  have e : (y : Int) / 2 ^ p = ((y / 2 ^ p : Nat) : Int) := by simp
  have hl : y / 2 ^ p ≤ 4294967295 := Nat.le_trans (Nat.div_le_self _ _) hy
  unfold bitN
  rw [e]
  generalize y / 2 ^ p = q at hl
  have hm := bits_mask .i64 63 (by decide) (fun n h0 h1 => wraps_i64 n h0 h1) 1 (by omega) (q : Int) (by omega) (by omega)
  have e1 : ((2 : Int) ^ 1 - 1) = 1 := by decide
  have e2 : ((2 : Int) ^ 1) = 2 := by decide
  rw [e1, e2] at hm
  rw [hm]
  unfold wrap64
  omega

theorem bit_any (z p : Nat) (w : World) (hz : z ≤ 4294967295) (hp : p < 32) :
    Calls Tryd.prog 22 #[.int .i64 (z : Int), .int .i64 (p : Int)] w fun e w' => e = .returned (.int .i64 (bitN z p : Nat)) ∧ w' = w := by
  have H0 := hide (show z / 2 ^ 0 = z from by simp)
  have HS := hide (show ∀ k, z / 2 ^ (k + 1) = z / 2 ^ k / 2 from fun k => by rw [Nat.pow_succ, Nat.div_div_eq_div_mul])
  have HL := hide (show ∀ k, z / 2 ^ k ≤ 4294967295 from fun k => Nat.le_trans (Nat.div_le_self _ _) hz)
  have HB := hide (show bitN z p = z / 2 ^ p % 2 from rfl)
  go_enter Tryd.func22, Tryd.ntmps22
  go_wp2
  go_loop [0, 5] (fun a i => ∃ k y : Nat, k ≤ p ∧ i = .int .i64 k ∧ a = .int .i64 y ∧ y = z / 2 ^ k) (fun _ i => p - (intOf i).toNat)
  case atStart => exact ⟨0, z, by omega, rfl, rfl, H0.out.symm⟩
  case round =>
    obtain ⟨k, y, hk, rfl, rfl, hy⟩ := hrel
    have hyl : y ≤ 4294967295 := by rw [hy]; exact HL.out k
    have HY := hide hy
    clear hy hz
    by_cases hlt : k < p
    · go_wp2
      go_round
      case rel => exact ⟨k + 1, y / 2, by omega, by go_num, by go_num, by rw [HS.out, ← HY.out]⟩
      case measure => simp [intOf]; omega
    · have ek : k = p := by omega
      subst ek
      go_wp2
      go_ret
      exact ⟨ret_int (by rw [HB.out, ← HY.out]; omega), rfl⟩

end Go.Proofs.YtbgiccgfgljkbaaDoor
