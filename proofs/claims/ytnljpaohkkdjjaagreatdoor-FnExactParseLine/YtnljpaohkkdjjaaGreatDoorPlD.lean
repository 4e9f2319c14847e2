/- What a word of a script stands for: mathematics. -/
import Derived.Test.YtnljpaohkkdjjaaGreatDoorPlC
import Derived.Test.YtnljpaohkkdjjaaGreatDoorTaB
namespace Go.Proofs.YtnljpaohkkdjjaaGreatDoor
set_option linter.unusedVariables false
set_option linter.unusedSimpArgs false
open Go.RowKit

/-- The byte that two digits tell. -/
def escB (a b : UInt8) : UInt8 := UInt8.ofNat (16 * digI a.toNat + digI b.toNat).toNat
def textF (l : List UInt8) : Option (List UInt8) :=
  match l with
  | [] => some []
  | c :: l =>
    if c.toNat < 33 ∨ 126 < c.toNat then none
    else if c.toNat ≠ 37 then (textF l).map (c :: ·)
    else
      match l with
      | a :: b :: r => if 0 ≤ digI a.toNat ∧ 0 ≤ digI b.toNat then (textF r).map (escB a b :: ·) else none
      | _ => none
termination_by l.length
decreasing_by
  all_goals simp_wf
  all_goals omega
def textR (l : List UInt8) : Option (List UInt8) := if l = [45] then some [] else textF l
theorem textF_nil : textF [] = some [] := by rw [textF]
theorem textF_bad (c : UInt8) (l : List UInt8) (h : c.toNat < 33 ∨ 126 < c.toNat) : textF (c :: l) = none := by
  rw [textF.eq_def]
  dsimp only
  rw [if_pos h]
theorem textF_plain (c : UInt8) (l : List UInt8) (h : ¬ (c.toNat < 33 ∨ 126 < c.toNat)) (h2 : c.toNat ≠ 37) : textF (c :: l) = (textF l).map (c :: ·) := by
  rw [textF.eq_def]
  dsimp only
  rw [if_neg h, if_pos h2]
theorem textF_esc (c a b : UInt8) (r : List UInt8) (h2 : c.toNat = 37) (ha : 0 ≤ digI a.toNat) (hb : 0 ≤ digI b.toNat) : textF (c :: a :: b :: r) = (textF r).map (escB a b :: ·) := by
  rw [textF.eq_def]
  dsimp only
  rw [if_neg (by omega), if_neg (by omega)]
  rw [if_pos (And.intro ha hb)]
theorem textF_noesc (c a b : UInt8) (r : List UInt8) (h2 : c.toNat = 37) (h : ¬ (0 ≤ digI a.toNat ∧ 0 ≤ digI b.toNat)) : textF (c :: a :: b :: r) = none := by
  rw [textF.eq_def]
  dsimp only
  rw [if_neg (by omega), if_neg (by omega)]
  rw [if_neg h]
theorem textF_short (c : UInt8) (l : List UInt8) (h2 : c.toNat = 37) (h : l.length < 2) : textF (c :: l) = none := by
  rw [textF.eq_def]
  dsimp only
  rw [if_neg (by omega), if_neg (by omega)]
  match l, h with
  | [], _ => rfl
  | [a], _ => rfl
  | a :: b :: r, h => simp at h; omega
theorem drop_at {l : List UInt8} {k : Nat} {c : UInt8} (h : l[k]? = some c) : l.drop k = c :: l.drop (k + 1) := by
  have hk : k < l.length := (List.getElem?_eq_some_iff.1 h).1
  rw [List.drop_eq_getElem_cons hk]
  congr 1
  exact Option.some.inj ((List.getElem?_eq_getElem hk).symm.trans h)
/-- The first k bytes of l tell o. -/
def TxA (l : List UInt8) (k : Nat) (o : List UInt8) : Prop := textF l = (textF (l.drop k)).map (o ++ ·) ∧ o.length ≤ k
theorem TxA.start (l : List UInt8) : TxA l 0 [] := ⟨by rw [List.drop_zero]; cases textF l <;> simp, by simp⟩
theorem map_mapT (x : Option (List UInt8)) (o : List UInt8) (c : UInt8) : (x.map (c :: ·)).map (o ++ ·) = x.map ((o ++ [c]) ++ ·) := by
  cases x <;> simp
theorem TxA.plain {l o : List UInt8} {k : Nat} {c : UInt8} (h : TxA l k o) (hc : l[k]? = some c) (h1 : ¬ (c.toNat < 33 ∨ 126 < c.toNat)) (h2 : c.toNat ≠ 37) : TxA l (k + 1) (o ++ [c]) := by
  refine ⟨?_, by have := h.2; simp; omega⟩
  rw [h.1, drop_at hc, textF_plain c _ h1 h2, map_mapT]
theorem TxA.esc {l o : List UInt8} {k : Nat} {c a b : UInt8} (h : TxA l k o) (hc : l[k]? = some c) (ha : l[k + 1]? = some a) (hb : l[k + 2]? = some b) (h2 : c.toNat = 37) (da : 0 ≤ digI a.toNat) (db : 0 ≤ digI b.toNat) : TxA l (k + 3) (o ++ [escB a b]) := by
  refine ⟨?_, by have := h.2; simp; omega⟩
  rw [h.1, drop_at hc, drop_at ha, drop_at hb, textF_esc c a b _ h2 da db, map_mapT]
theorem TxA.bad {l o : List UInt8} {k : Nat} {c : UInt8} (h : TxA l k o) (hc : l[k]? = some c) (h1 : c.toNat < 33 ∨ 126 < c.toNat) : textF l = none := by
  rw [h.1, drop_at hc, textF_bad c _ h1]
  rfl
theorem TxA.noesc {l o : List UInt8} {k : Nat} {c a b : UInt8} (h : TxA l k o) (hc : l[k]? = some c) (ha : l[k + 1]? = some a) (hb : l[k + 2]? = some b) (h2 : c.toNat = 37) (hn : ¬ (0 ≤ digI a.toNat ∧ 0 ≤ digI b.toNat)) : textF l = none := by
  rw [h.1, drop_at hc, drop_at ha, drop_at hb, textF_noesc c a b _ h2 hn]
  rfl
theorem TxA.short {l o : List UInt8} {k : Nat} {c : UInt8} (h : TxA l k o) (hc : l[k]? = some c) (h2 : c.toNat = 37) (hn : l.length ≤ k + 2) : textF l = none := by
  rw [h.1, drop_at hc, textF_short c _ h2 (by rw [List.length_drop]; omega)]
  rfl
theorem TxA.done {l o : List UInt8} {k : Nat} (h : TxA l k o) (hk : l.length ≤ k) : textF l = some o := by
  rw [h.1, List.drop_of_length_le hk, textF_nil]
  simp
end Go.Proofs.YtnljpaohkkdjjaaGreatDoor
