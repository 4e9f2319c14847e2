/- What is told of a tree, piece by piece: mathematics. -/
import Derived.Test.YtlegmaadcemgnaaDoorTrC
import Derived.Test.YtlegmaadcemgnaaDoorTgA
import Derived.Test.YtlegmaadcemgnaaDoorCheck
namespace Go.Proofs.YtlegmaadcemgnaaDoor
set_option linter.unusedVariables false
set_option linter.unusedSimpArgs false
open Go.RowKit

theorem thenT_nil (t : TL) : thenT ([], false) t = t := by unfold thenT; simp
theorem thenT_assoc (a b c : TL) : thenT (thenT a b) c = thenT a (thenT b c) := by
  unfold thenT
  cases ha : a.2 with
  | true => simp [ha]
  | false =>
    cases hb : b.2 with
    | true => simp [hb]
    | false => simp [hb]
/-- What is told from here on, A having been told, is a part of all that is told. -/
def FitsT (Z : TL) (A : List HG) (t : TL) : Prop := ∃ B, Z = thenT (A, false) (thenT t B)
theorem FitsT.bad {Z : TL} {A : List HG} {t : TL} (h : FitsT Z A t) (ht : t.2 = true) : Z = (A ++ t.1, true) := by
  obtain ⟨B, rfl⟩ := h
  unfold thenT
  simp [ht]
theorem FitsT.fst {Z : TL} {A : List HG} {t u : TL} (h : FitsT Z A (thenT t u)) : FitsT Z A t := by
  obtain ⟨B, rfl⟩ := h
  exact ⟨thenT u B, by rw [thenT_assoc]⟩
theorem FitsT.snd {Z : TL} {A : List HG} {t u : TL} (h : FitsT Z A (thenT t u)) (ht : t.2 = false) : FitsT Z (A ++ t.1) u := by
  obtain ⟨B, rfl⟩ := h
  refine ⟨B, ?_⟩
  rw [thenT_assoc t u B]
  unfold thenT
  simp [ht]
theorem FitsT.pre {Z : TL} {A : List HG} {t : TL} (h : FitsT Z A t) : A ++ t.1 <+: Z.1 := by
  obtain ⟨B, rfl⟩ := h
  unfold thenT
  cases ht : t.2 with
  | true => simp [ht]
  | false => simp [ht]
theorem FitsT.all (Z : TL) : FitsT Z [] Z := ⟨([], false), by
  obtain ⟨L, b⟩ := Z
  cases b <;> simp [thenT]⟩
/-- An element: a block that hangs, and what is wrong. -/
abbrev TX := HG × Value
def TX.enc (x : TX) : Array Value := #[.agg #[.int .i64 (x.1.1 : Int), .int .i64 (x.1.2.1 : Int), .int .i64 x.1.2.2], x.2]
def upX (L : List HG) : List TX := L.map (fun h => (h, .nilIface))
theorem upX_snoc (L : List HG) (h : HG) : upX (L ++ [h]) = upX L ++ [(h, .nilIface)] := by unfold upX; simp
theorem upX_inj {A B : List HG} (h : upX A = upX B) : A = B := by
  have h1 := congrArg (List.map (·.1)) h
  unfold upX at h1
  rw [List.map_map, List.map_map] at h1
  have e : ((fun x : TX => x.1) ∘ fun h : HG => (h, Value.nilIface)) = id := rfl
  rw [e, List.map_id, List.map_id] at h1
  exact h1
/-- What is known of an element when it is told. -/
def OkX (Z : TL) (pre : List TX) (x : TX) (W : World) : Prop :=
  (x.2 = .nilIface ∧ ∃ A, pre = upX A ∧ A ++ [x.1] <+: Z.1) ∨ (x.1 = (0, 0, 0) ∧ ∃ A, pre = upX A ∧ Z = (A, true) ∧ ∃ n, Flt W 0 n x.2 21)
end Go.Proofs.YtlegmaadcemgnaaDoor
