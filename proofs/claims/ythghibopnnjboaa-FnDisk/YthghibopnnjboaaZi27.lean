/- Marks of slices of structs; two slices of Put that are the same. -/
import Derived.Test.YthghibopnnjboaaZi26
import Derived.Deep.MidRow
import Derived.Deep.RegionHeld3
namespace Go.Proofs.Ythghibopnnjboaa
set_option linter.unusedVariables false
set_option linter.unusedSimpArgs false
open Go.RowKit

/-- The marks of an element, from k on. -/
def mkE (m k : Nat) (l : NE) : NE := ((List.range m).map fun j => Value.int .i64 ((k + j : Nat) : Int), mk8 (k + m) l.2.length)
/-- The marks of a list, from k on, and what comes behind them. -/
def mkN (m : Nat) : Nat → List NE → List NE
  | _, [] => []
  | k, l :: L => mkE m k l :: mkN m (k + m + l.2.length) L
def endN (m : Nat) : Nat → List NE → Nat
  | k, [] => k
  | k, l :: L => endN m (k + m + l.2.length) L
theorem mkN_len (m : Nat) : ∀ (L : List NE) (k : Nat), (mkN m k L).length = L.length
  | [], _ => rfl
  | l :: L, k => by simp [mkN, mkN_len m L]
theorem endN_snoc (m : Nat) : ∀ (L : List NE) (k : Nat) (l : NE), endN m k (L ++ [l]) = endN m k L + m + l.2.length
  | [], _, _ => rfl
  | x :: L, k, l => by simp only [List.cons_append, endN]; rw [endN_snoc m L]
theorem mkN_snoc (m : Nat) : ∀ (L : List NE) (k : Nat) (l : NE), mkN m k (L ++ [l]) = mkN m k L ++ [mkE m (endN m k L) l]
  | [], _, _ => rfl
  | x :: L, k, l => by simp only [List.cons_append, mkN, endN]; rw [mkN_snoc m L]
theorem endN_le (m : Nat) : ∀ (L : List NE) (k : Nat), k ≤ endN m k L
  | [], _ => Nat.le_refl _
  | l :: L, k => Nat.le_trans (by omega) (endN_le m L (k + m + l.2.length))
theorem endN_take (m : Nat) (L : List NE) (k i : Nat) (l : NE) (hl : L[i]? = some l) : endN m k (L.take (i + 1)) = endN m k (L.take i) + m + l.2.length := by
  rw [List.take_add_one, hl]
  exact endN_snoc m _ k l
theorem endN_mono (m : Nat) (L : List NE) (k : Nat) : ∀ i, endN m k (L.take i) ≤ endN m k L := by
  intro i
  have e : endN m k L = endN m (endN m k (L.take i)) (L.drop i) := by
    have gen : ∀ (A B : List NE) (k : Nat), endN m k (A ++ B) = endN m (endN m k A) B := by
      intro A
      induction A with
      | nil => intro B k; rfl
      | cons x A ih => intro B k; simp only [List.cons_append, endN]; rw [ih]
    conv => lhs; rw [← List.take_append_drop i L]
    exact gen _ _ _
  rw [e]
  exact endN_le m _ _
theorem mk_step (m : Nat) (L : List NE) (k i : Nat) (l : NE) (hl : L[i]? = some l) : (mkN m k (L.take i) ++ L.drop i).set i (mkE m (endN m k (L.take i)) l) = mkN m k (L.take (i + 1)) ++ L.drop (i + 1) := by
  have hi : i < L.length := (List.getElem?_eq_some_iff.1 hl).1
  have e : L.take (i + 1) = L.take i ++ [l] := by rw [List.take_add_one, hl]; rfl
  have e2 : L.drop i = l :: L.drop (i + 1) := by
    rw [List.drop_eq_getElem_cons hi]
    rw [List.getElem?_eq_getElem hi] at hl
    rw [Option.some.inj hl]
  have hlen : (mkN m k (L.take i)).length = i := by rw [mkN_len]; simp; omega
  rw [e, mkN_snoc, e2, List.set_append_right _ _ (by omega), hlen, Nat.sub_self, List.set_cons_zero, List.append_assoc]
  rfl
theorem mk_at (m : Nat) (L : List NE) (k i : Nat) (l : NE) (hl : L[i]? = some l) : (mkN m k (L.take i) ++ L.drop i)[i]? = some l := by
  have hi : i < L.length := (List.getElem?_eq_some_iff.1 hl).1
  have hlen : (mkN m k (L.take i)).length = i := by rw [mkN_len]; simp; omega
  rw [List.getElem?_append_right (by omega), hlen, Nat.sub_self, List.getElem?_drop, Nat.add_zero]
  exact hl
theorem mkN_at (m : Nat) : ∀ (L : List NE) (k i : Nat) (l : NE), L[i]? = some l → (mkN m k L)[i]? = some (mkE m (endN m k (L.take i)) l)
  | [], _, _, _, h => by simp at h
  | x :: L, k, 0, l, h => by
    simp at h
    subst h
    rfl
  | x :: L, k, i + 1, l, h => by
    simp only [mkN, List.getElem?_cons_succ, List.take_succ_cons, endN]
    exact mkN_at m L _ i l (by simpa using h)
/-- Nothing turned but the row and the bytes. -/
structure KpN (w w' : World) (v : Value) (vs : List Value) : Prop where
  os : w'.os = w.os
  tape : w'.tape = w.tape
  output : w'.output = w.output
  size : w.heap.size ≤ w'.heap.size
  block : ∀ b, b < w.heap.size → v.ownBlock ≠ some b → (∀ u ∈ vs, u.ownBlock ≠ some b) → w'.heap[b]? = w.heap[b]?
theorem KpN.refl (w : World) (v : Value) (vs : List Value) : KpN w w v vs := ⟨rfl, rfl, rfl, Nat.le_refl _, fun _ _ _ _ => rfl⟩
theorem KpN.row {w w' w2 : World} {v : Value} {vs : List Value} (h : KpN w w' v vs) (g : w'.grownBy w2 v.ownBlock) : KpN w w2 v vs :=
  ⟨g.os.trans h.os, g.tape.trans h.tape, g.output.trans h.output, Nat.le_trans h.size g.size, fun b hb h1 h2 => (g.block b (Nat.lt_of_lt_of_le hb h.size) (fun e => h1 e.symm)).trans (h.block b hb h1 h2)⟩
theorem KpN.dat {w w' w2 : World} {v : Value} {vs : List Value} (h : KpN w w' v vs) (u : Value) (hu : u ∈ vs) (g : w'.grownBy w2 u.ownBlock) : KpN w w2 v vs :=
  ⟨g.os.trans h.os, g.tape.trans h.tape, g.output.trans h.output, Nat.le_trans h.size g.size, fun b hb h1 h2 => (g.block b (Nat.lt_of_lt_of_le hb h.size) (fun e => h2 u hu e.symm)).trans (h.block b hb h1 h2)⟩
theorem set_grown (w : World) (g o : Nat) (x : Value) : w.grownBy (w.setCell ⟨g, o, none⟩ x) (some g) :=
  ⟨rfl, rfl, rfl, by simp [World.setCell], fun k hk hne => Below.heap_setCell w ⟨g, o, none⟩ x k (fun e => hne (by rw [e]))⟩

end Go.Proofs.Ythghibopnnjboaa
