/- A plane set in a map: the mathematics of bits and of the rows. -/
import Derived.Test.YtbgiccgfgljkbaaDoorMapB
namespace Go.Proofs.YtbgiccgfgljkbaaDoor
set_option linter.unusedVariables false
set_option linter.unusedSimpArgs false
open Go.RowKit

def clrN (y p : Nat) : Nat := y - bitN y p * 2 ^ p
def putN (y p : Nat) : Nat := clrN y p + 2 ^ p
theorem bitN_lt (y p : Nat) : bitN y p < 2 := Nat.mod_lt _ (by decide)
theorem bit_test (x p : Nat) : x.testBit p = decide (bitN x p = 1) := Nat.testBit_eq_decide_div_mod_eq
theorem add_bit (x p : Nat) (h : bitN x p = 0) (i : Nat) : (2 ^ p + x).testBit i = (x.testBit i || decide (p = i)) := by
  rcases Nat.lt_trichotomy i p with hi | rfl | hi
  · rw [Nat.testBit_two_pow_add_gt hi, decide_eq_false (by omega), Bool.or_false]
  · rw [Nat.testBit_two_pow_add_eq, bit_test, h]; simp
  · rw [bit_test, bit_test, decide_eq_false (show ¬ p = i by omega), Bool.or_false]
    have e : (2 ^ p + x) / 2 ^ i = x / 2 ^ i := by
      have hp : 2 ^ i = 2 ^ p * (2 * 2 ^ (i - p - 1)) := by
        rw [← Nat.pow_succ', ← Nat.pow_add]; congr 1; omega
      rw [hp, ← Nat.div_div_eq_div_mul, ← Nat.div_div_eq_div_mul, ← Nat.div_div_eq_div_mul, ← Nat.div_div_eq_div_mul]
      congr 1
      rw [Nat.add_div_left _ (Nat.two_pow_pos p)]
      unfold bitN at h
      generalize x / 2 ^ p = q at h
      omega
    unfold bitN
    rw [e]
theorem split_bit (y p : Nat) : bitN (clrN y p) p = 0 ∧ y = clrN y p + bitN y p * 2 ^ p := by
  have hb := bitN_lt y p
  have hd := Nat.div_mul_le_self y (2 ^ p)
  have hle : bitN y p * 2 ^ p ≤ y := Nat.le_trans (Nat.mul_le_mul_right _ (Nat.mod_le _ _)) hd
  refine ⟨?_, by unfold clrN; omega⟩
  rcases (show bitN y p = 0 ∨ bitN y p = 1 by omega) with h | h
  · unfold clrN; rw [h]; simpa using h
  · have e : y = 2 ^ p + clrN y p := by unfold clrN; rw [h] at hle ⊢; omega
    have h2 : y.testBit p = true := by rw [bit_test, h]; rfl
    rw [e, Nat.testBit_two_pow_add_eq, bit_test] at h2
    have := bitN_lt (clrN y p) p
    simp at h2
    omega
theorem clr_le (y p : Nat) : clrN y p ≤ y := Nat.sub_le _ _
theorem or_put (y p : Nat) : clrN y p ||| 2 ^ p = putN y p := by
  apply Nat.eq_of_testBit_eq
  intro i
  unfold putN
  rw [Nat.add_comm, add_bit _ _ (split_bit y p).1, Nat.testBit_or, Nat.testBit_two_pow]
theorem put_or (y p : Nat) : putN y p ||| 2 ^ p = putN y p := by
  rw [← or_put, Nat.or_assoc, Nat.or_self]
theorem put_lt (y p : Nat) (hy : y ≤ 4294967295) (hp : p < 32) : putN y p ≤ 4294967295 := by
  rw [← or_put]
  have h1 : clrN y p < 2 ^ 32 := Nat.lt_of_le_of_lt (clr_le y p) (by omega)
  have h2 : 2 ^ p < 2 ^ 32 := Nat.pow_lt_pow_right (by decide) hp
  have := Nat.or_lt_two_pow h1 h2
  omega
theorem and_clr (y p : Nat) (hy : y < 2 ^ 64) (hp : p < 64) : y &&& (2 ^ 64 - (2 ^ p + 1)) = clrN y p := by
  apply Nat.eq_of_testBit_eq
  intro i
  have h2 : 2 ^ p < 2 ^ 64 := Nat.pow_lt_pow_right (by decide) hp
  have hs := split_bit y p
  have hc := clr_le y p
  have hz : (clrN y p).testBit p = false := by rw [bit_test, hs.1]; rfl
  rw [Nat.testBit_and, Nat.testBit_two_pow_sub_succ h2, Nat.testBit_two_pow]
  by_cases hi : i < 64
  · have hy2 : y.testBit i = ((clrN y p).testBit i || (decide (p = i) && decide (bitN y p = 1))) := by
      rcases (show bitN y p = 0 ∨ bitN y p = 1 by have := bitN_lt y p; omega) with h | h
      · have e : clrN y p = y := by unfold clrN; rw [h]; simp
        rw [e, h]; simp
      · have e : y = 2 ^ p + clrN y p := by have := hs.2; rw [h] at this; omega
        have := add_bit (clrN y p) p hs.1 i
        rw [← e] at this
        rw [this, h]; simp
    rw [hy2]
    by_cases hpi : p = i
    · subst hpi; rw [hz]; simp
    · simp [hpi, hi]
  · have h64 : 2 ^ 64 ≤ 2 ^ i := Nat.pow_le_pow_right (by decide) (by omega)
    rw [Nat.testBit_lt_two_pow (show y < 2 ^ i by omega), Nat.testBit_lt_two_pow (show clrN y p < 2 ^ i by omega)]
    rfl
theorem clr_i64 (y p : Nat) (hy : y ≤ 4294967295) (hp : p < 32) : bits .andNot .i64 (y : Int) ((2 ^ p : Nat) : Int) = (clrN y p : Int) := by
  have h2 : 2 ^ p < 2 ^ 64 := Nat.pow_lt_pow_right (by decide) (by omega)
  have hy' : y % 2 ^ 64 = y := Nat.mod_eq_of_lt (by omega)
  have hp' : 2 ^ p % 2 ^ 64 = 2 ^ p := Nat.mod_eq_of_lt h2
  have e := and_clr y p (by omega) (by omega)
  have hc := clr_le y p
  have eb : IntKind.i64.bits = 64 := rfl
  have : (BitVec.ofInt IntKind.i64.bits (y : Int) &&& ~~~ BitVec.ofInt IntKind.i64.bits ((2 ^ p : Nat) : Int)).toNat = clrN y p := by
    rw [eb, BitVec.ofInt_natCast, BitVec.ofInt_natCast, BitVec.toNat_and, BitVec.toNat_not, BitVec.toNat_ofNat, BitVec.toNat_ofNat, hy', hp', ← e]
    congr 1
    omega
  show IntKind.i64.wrap ((BitVec.ofInt IntKind.i64.bits (y : Int) &&& ~~~ BitVec.ofInt IntKind.i64.bits ((2 ^ p : Nat) : Int)).toNat : Int) = _
  rw [this]
  exact wraps_i64 _ (by omega) (by omega)
theorem or_i64 (x p : Nat) (hx : x ≤ 4294967295) (hp : p < 32) : bits .or .i64 (x : Int) ((2 ^ p : Nat) : Int) = ((x ||| 2 ^ p : Nat) : Int) :=
  (bits_nat .i64 63 (by decide) (fun n h0 h1 => wraps_i64 n h0 h1) x (2 ^ p) (by omega) (Nat.pow_lt_pow_right (by decide) (by omega))).2

/-- The blocks of a set, as far as k: all inside 2 to n - 1; whether b is one. -/
def insB (n : Nat) (z : Int) : Bool := decide (2 ≤ z) && decide (z < n)
def allIn (n : Nat) (ss : List Int) : Nat → Bool
  | 0 => true
  | k + 1 => allIn n ss k && insB n (ss.getD k 0)
def hasTo (ss : List Int) (b : Nat) : Nat → Bool
  | 0 => false
  | k + 1 => hasTo ss b k || decide (ss.getD k 0 = (b : Int))
theorem allIn_mono (n : Nat) (ss : List Int) : ∀ (m k : Nat), k ≤ m → allIn n ss m = true → allIn n ss k = true
  | 0, k, hk, h => by have : k = 0 := by omega
                      subst this; exact h
  | m + 1, k, hk, h => by
    by_cases e : k = m + 1
    · subst e; exact h
    · have h' : (allIn n ss m && insB n (ss.getD m 0)) = true := h
      rw [Bool.and_eq_true] at h'
      exact allIn_mono n ss m k (by omega) h'.1
theorem allIn_false (n : Nat) (ss : List Int) (m k : Nat) (hk : k < m) (h : insB n (ss.getD k 0) = false) : allIn n ss m = false := by
  cases e : allIn n ss m with
  | false => rfl
  | true =>
    have h1 := allIn_mono n ss m (k + 1) (by omega) e
    have h2 : (allIn n ss k && insB n (ss.getD k 0)) = true := h1
    rw [h, Bool.and_false] at h2
    cases h2
def natW (ws : List Int) (b : Nat) : Nat := (ws.getD b 0).toNat
def withN (y p : Nat) (i : Bool) : Nat := if i then putN y p else clrN y p
/-- The words from 2 to b - 1 without bit p. -/
def clrTo (ws : List Int) (p b : Nat) : List Int := (List.range ws.length).map fun i => if 2 ≤ i ∧ i < b then (clrN (natW ws i) p : Int) else ws.getD i 0
/-- The words with bit p where one of the first k blocks of the set is, without it elsewhere. -/
def setTo (ws ss : List Int) (p k : Nat) : List Int := (List.range ws.length).map fun i => if 2 ≤ i then (withN (natW ws i) p (hasTo ss i k) : Int) else ws.getD i 0
/-- The model's marks. -/
def inTo (n : Nat) (ss : List Int) (k : Nat) : List Int := (List.range n).map fun i => if hasTo ss i k then 1 else 0
theorem clrTo_len (ws : List Int) (p b : Nat) : (clrTo ws p b).length = ws.length := by simp [clrTo]
theorem setTo_len (ws ss : List Int) (p k : Nat) : (setTo ws ss p k).length = ws.length := by simp [setTo]
theorem inTo_len (n : Nat) (ss : List Int) (k : Nat) : (inTo n ss k).length = n := by simp [inTo]
theorem range_map_set {n : Nat} (f g : Nat → Int) (b : Nat) (z : Int) (hz : b < n → g b = z) (h : ∀ i, i < n → i ≠ b → f i = g i) : ((List.range n).map f).set b z = (List.range n).map g := by
  apply List.ext_getElem?
  intro i
  rw [List.getElem?_set]
  by_cases hi : b = i
  · subst hi
    by_cases hb : b < n
    · simp [hb, hz hb]
    · simp [hb]
  · rw [if_neg hi]
    by_cases h2 : i < n
    · simp [h2, h i h2 (fun e => hi e.symm)]
    · simp [h2]
theorem clrTo_start (ws : List Int) (p : Nat) : clrTo ws p 2 = ws := by
  apply List.ext_getElem?
  intro i
  by_cases h2 : i < ws.length
  · simp [clrTo, h2, List.getD]
    intro a b; omega
  · simp [clrTo, h2]
theorem clrTo_get (ws : List Int) (p b : Nat) (hb : b < ws.length) : (clrTo ws p b).getD b 0 = ws.getD b 0 := by
  simp [clrTo, List.getD, hb]
theorem clrTo_set (ws : List Int) (p b : Nat) (hb : 2 ≤ b) : (clrTo ws p b).set b (clrN (natW ws b) p : Int) = clrTo ws p (b + 1) := by
  apply range_map_set
  · intro _; rw [if_pos ⟨hb, by omega⟩]
  · intro i _ hi
    by_cases h : 2 ≤ i ∧ i < b
    · rw [if_pos h, if_pos (by omega)]
    · rw [if_neg h, if_neg (by omega)]
theorem clrTo_end (ws ss : List Int) (p b : Nat) (hb : b = ws.length) : clrTo ws p b = setTo ws ss p 0 := by
  apply List.map_congr_left
  intro i hi
  have hi : i < ws.length := by simpa using hi
  by_cases h2 : 2 ≤ i
  · rw [if_pos ⟨h2, by omega⟩, if_pos h2]; rfl
  · rw [if_neg (by omega), if_neg h2]
theorem setTo_get (ws ss : List Int) (p k b : Nat) (h2 : 2 ≤ b) (hb : b < ws.length) : (setTo ws ss p k).getD b 0 = (withN (natW ws b) p (hasTo ss b k) : Int) := by
  simp [setTo, List.getD, hb, h2]
theorem setTo_set (ws ss : List Int) (p k b : Nat) (h2 : 2 ≤ b) (e : ss.getD k 0 = (b : Int)) : (setTo ws ss p k).set b (putN (natW ws b) p : Int) = setTo ws ss p (k + 1) := by
  apply range_map_set
  · intro _
    have : hasTo ss b (k + 1) = true := by show (hasTo ss b k || decide (ss.getD k 0 = (b : Int))) = true; rw [e]; simp
    rw [if_pos h2, this]; rfl
  · intro i _ hi
    have : hasTo ss i (k + 1) = hasTo ss i k := by
      show (hasTo ss i k || decide (ss.getD k 0 = (i : Int))) = _
      rw [e, decide_eq_false (by omega), Bool.or_false]
    rw [this]
theorem inTo_start (n : Nat) (ss : List Int) : inTo n ss 0 = List.replicate n 0 := by
  simp [inTo, hasTo, List.map_const']
theorem inTo_set (n : Nat) (ss : List Int) (k b : Nat) (e : ss.getD k 0 = (b : Int)) : (inTo n ss k).set b 1 = inTo n ss (k + 1) := by
  apply range_map_set
  · intro _
    have : hasTo ss b (k + 1) = true := by show (hasTo ss b k || decide (ss.getD k 0 = (b : Int))) = true; rw [e]; simp
    rw [this]; rfl
  · intro i _ hi
    have : hasTo ss i (k + 1) = hasTo ss i k := by
      show (hasTo ss i k || decide (ss.getD k 0 = (i : Int))) = _
      rw [e, decide_eq_false (by omega), Bool.or_false]
    rw [this]
theorem inTo_get (n : Nat) (ss : List Int) (k b : Nat) (hb : b < n) : (inTo n ss k).getD b 0 = if hasTo ss b k then 1 else 0 := by
  simp [inTo, List.getD, hb]
/-- What MapPlane answers. -/
def planeB (ws : List Int) (p : Int) : Bool := rightM ws && (decide (0 ≤ p) && decide (p ≤ 31))
def planeM (ws : List Int) (p : Int) (ss : List Int) : List Int := if planeB ws p && allIn ws.length ss ss.length then setTo ws ss p.toNat ss.length else []
def codeP (ws : List Int) (p : Int) (ss : List Int) : Int := if planeB ws p then (if allIn ws.length ss ss.length then 0 else 19) else 7
theorem planeM_len (ws : List Int) (p : Int) (ss : List Int) : (planeM ws p ss).length ≤ ws.length := by
  unfold planeM; split <;> simp [setTo_len]
theorem right_word (ws : List Int) (hr : rightM ws = true) (k : Nat) (hk : k < ws.length) : ∃ y : Nat, ws.getD k 0 = (y : Int) ∧ y ≤ 4294967295 := by
  unfold rightM at hr
  rw [Bool.and_eq_true] at hr
  have h1 := okTo_mono ws ws.length (k + 1) (by omega) hr.2
  have h2 : (okTo ws k && (wordB (ws.getD k 0) && headB k (ws.getD k 0))) = true := h1
  simp only [Bool.and_eq_true] at h2
  have h3 := h2.2.1
  generalize ws.getD k 0 = z at h3
  simp [wordB] at h3
  exact ⟨z.toNat, by omega, by omega⟩
theorem right_len (ws : List Int) (hr : rightM ws = true) : 64 ≤ ws.length ∧ ws.length ≤ 2048 := by
  unfold rightM sizeB at hr
  simp at hr
  omega
end Go.Proofs.YtbgiccgfgljkbaaDoor
