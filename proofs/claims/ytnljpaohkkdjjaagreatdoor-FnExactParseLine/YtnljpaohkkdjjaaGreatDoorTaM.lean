/- Mathematics of what TellAns tells: bytes as strings, decimal numerals, words with escapes, numbers with a mark between. No program in it. -/
import Derived.Test.YtnljpaohkkdjjaaGreatDoorTaS
import Derived.Lib.ItoaLen
import Derived.Laws.BytesArg
namespace Go.Proofs.YtnljpaohkkdjjaaGreatDoor
set_option linter.unusedVariables false
set_option linter.unusedSimpArgs false
open Go.RowKit

def mk (l : List UInt8) : ByteArray := ⟨l.toArray⟩
theorem mk_size (l : List UInt8) : (mk l).size = l.length := by simp [mk, ByteArray.size]
theorem mk_cat (a b : List UInt8) : mk a ++ mk b = mk (a ++ b) := by
  apply ByteArray.ext
  simp [mk]
theorem mk_data (s : ByteArray) : mk s.data.toList = s := by cases s; simp [mk]
theorem mk_toList (l : List UInt8) : (mk l).data.toList = l := by simp [mk]

/-- The last digit of q, and what stands ahead of it. -/
def dgt (q : Nat) : UInt8 := UInt8.ofNat (48 + q % 10)
def preD (q : Nat) : List UInt8 := if q < 10 then [] else Lib.decDigits (q / 10)
theorem dec_pre (q : Nat) : Lib.decDigits q = preD q ++ [dgt q] := by
  rw [Lib.decDigits]
  unfold preD dgt
  split
  · rename_i h
    rw [Nat.mod_eq_of_lt h]
    simp
  · rfl
theorem pre_small {q : Nat} (h : q < 10) : preD q = [] := by unfold preD; rw [if_pos h]
theorem pre_big {q : Nat} (h : ¬ q < 10) : preD q = preD (q / 10) ++ [dgt (q / 10)] := by
  unfold preD
  rw [if_neg h]
  exact dec_pre (q / 10)
theorem dgt_num (q : Nat) : strOfNums [48 + (q : Int) % 10] = mk [dgt q] := by
  apply ByteArray.ext
  simp [strOfNums, mk, dgt]
  apply UInt8.toNat_inj.1
  simp
  omega
theorem itoa_pos (v : Int) (h : 0 ≤ v) : Lib.itoa v = Lib.decDigits v.natAbs := by
  unfold Lib.itoa
  rw [if_neg (by omega)]
  congr 1
  omega
theorem itoa_negI (v : Int) (h : v < 0) : Lib.itoa v = 45 :: Lib.decDigits v.natAbs := by
  unfold Lib.itoa
  rw [if_pos h]

/-- A byte that is told as it is. -/
def plB (c : UInt8) : Bool := decide (33 ≤ c.toNat ∧ c.toNat ≤ 126 ∧ c.toNat ≠ 37 ∧ c.toNat ≠ 58 ∧ c.toNat ≠ 45)
/-- A hexadecimal digit. -/
def hxd (n : Nat) : UInt8 := UInt8.ofNat (if n < 10 then 48 + n else 87 + n)
def escL (c : UInt8) : List UInt8 := if plB c then [c] else [37, hxd (c.toNat / 16), hxd (c.toNat % 16)]
def wordL (l : List UInt8) : List UInt8 := if l = [] then [45] else l.flatMap escL
theorem esc_len (c : UInt8) : (escL c).length ≤ 3 := by unfold escL; split <;> simp
theorem flat_len : ∀ l : List UInt8, (l.flatMap escL).length ≤ 3 * l.length
  | [] => by simp
  | c :: l => by
    have h1 := esc_len c
    have h2 := flat_len l
    rw [List.flatMap_cons, List.length_append, List.length_cons]
    omega
theorem word_len (l : List UInt8) : (wordL l).length ≤ 3 * l.length + 1 := by
  unfold wordL
  split
  · simp
  · have := flat_len l; omega
theorem flat_snoc (l : List UInt8) (c : UInt8) : (l ++ [c]).flatMap escL = l.flatMap escL ++ escL c := by simp

/-- Numbers with a mark between. -/
def joinL (m : UInt8) : List Int → List UInt8
  | [] => []
  | z :: zs => zs.foldl (fun a y => a ++ m :: Lib.itoa y) (Lib.itoa z)
theorem join_snoc (m : UInt8) (zs : List Int) (z : Int) (h : zs ≠ []) : joinL m (zs ++ [z]) = joinL m zs ++ m :: Lib.itoa z := by
  cases zs with
  | nil => exact absurd rfl h
  | cons y ys => simp [joinL, List.foldl_append]
theorem join_one (m : UInt8) (z : Int) : joinL m [z] = Lib.itoa z := rfl
end Go.Proofs.YtnljpaohkkdjjaaGreatDoor
