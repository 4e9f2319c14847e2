/- Slots taken in whatever row: what openDirectory keeps between two rounds (mathematics). -/
import Derived.Test.YtplieplmhdfndaaGreatDoorZg25
namespace Go.Proofs.YtplieplmhdfndaaGreatDoor
set_option linter.unusedVariables false
set_option linter.unusedSimpArgs false
open Go.RowKit

/-- The entries of the slots ks (the last one first), or none if one is wrong. -/
def entR (zs : List Int) : List Nat → Option (List (ByteArray × Nat × Nat))
  | [] => some []
  | k :: ks => match entR zs ks with
    | none => none
    | some es => if sZero (slotK zs k) = true then some es else if (sRight (slotK zs k) && !(es.any fun e => e.1.toList == (sName (slotK zs k)).toList)) = true then some (es ++ [(sName (slotK zs k), sIno (slotK zs k), sKind (slotK zs k))]) else none
theorem entR_range (zs : List Int) : ∀ k, entR zs (List.range k).reverse = entT zs k
  | 0 => rfl
  | k + 1 => by
    rw [List.range_succ, List.reverse_append]
    show entR zs (k :: (List.range k).reverse) = _
    rw [entR, entR_range zs k, entT]
    cases entT zs k <;> rfl
theorem entR_zero {zs : List Int} {k : Nat} {ks : List Nat} {es : List (ByteArray × Nat × Nat)} (h : entR zs ks = some es) (hz : sZero (slotK zs k) = true) : entR zs (k :: ks) = some es := by
  rw [entR, h]; simp [hz]
theorem entR_bad {zs : List Int} {k : Nat} {ks : List Nat} {es : List (ByteArray × Nat × Nat)} (h : entR zs ks = some es) (hz : sZero (slotK zs k) = false) (hr : sRight (slotK zs k) = false) : entR zs (k :: ks) = none := by
  rw [entR, h]; simp [hz, hr]
theorem entR_twice {zs : List Int} {k : Nat} {ks : List Nat} {es : List (ByteArray × Nat × Nat)} (h : entR zs ks = some es) (hz : sZero (slotK zs k) = false) (ht : (es.any fun e => e.1.toList == (sName (slotK zs k)).toList) = true) : entR zs (k :: ks) = none := by
  rw [entR, h]
  show (if sZero (slotK zs k) = true then some es else if (sRight (slotK zs k) && !(es.any fun e => e.1.toList == (sName (slotK zs k)).toList)) = true then _ else none) = none
  rw [hz, ht]; simp
theorem entR_more {zs : List Int} {k : Nat} {ks : List Nat} {es : List (ByteArray × Nat × Nat)} (h : entR zs ks = some es) (hz : sZero (slotK zs k) = false) (hr : sRight (slotK zs k) = true) (ht : (es.any fun e => e.1.toList == (sName (slotK zs k)).toList) = false) : entR zs (k :: ks) = some (es ++ [(sName (slotK zs k), sIno (slotK zs k), sKind (slotK zs k))]) := by
  rw [entR, h]
  show (if sZero (slotK zs k) = true then some es else if (sRight (slotK zs k) && !(es.any fun e => e.1.toList == (sName (slotK zs k)).toList)) = true then _ else none) = _
  rw [hz, hr, ht]; simp
/-- The map behind the slots ks (the last one first). -/
def mapR (H : Type) (zs : List Int) : List Nat → DataW H
  | [] => .map []
  | k :: ks => if sZero (slotK zs k) = true then mapR H zs ks else (mapR H zs ks).put (.string (sName (slotK zs k)).data.toList) (.lit (.int .i64 ks.length))
theorem mapR_map (H : Type) (zs : List Int) : ∀ ks, ∃ es, mapR H zs ks = .map es
  | [] => ⟨[], rfl⟩
  | k :: ks => by
    obtain ⟨es, he⟩ := mapR_map H zs ks
    unfold mapR
    split
    · exact ⟨es, he⟩
    · rw [he]; exact ⟨_, rfl⟩
theorem entR_some {zs : List Int} {k : Nat} {ks : List Nat} {fs : List (ByteArray × Nat × Nat)} (h : entR zs (k :: ks) = some fs) : ∃ es, entR zs ks = some es ∧ ((sZero (slotK zs k) = true ∧ fs = es) ∨ (sZero (slotK zs k) = false ∧ sRight (slotK zs k) = true ∧ (es.any fun e => e.1.toList == (sName (slotK zs k)).toList) = false ∧ fs = es ++ [(sName (slotK zs k), sIno (slotK zs k), sKind (slotK zs k))])) := by
  cases he : entR zs ks with
  | none => rw [entR, he] at h; cases h
  | some es =>
    refine ⟨es, rfl, ?_⟩
    cases hz : sZero (slotK zs k) with
    | true => rw [entR_zero he hz] at h; exact .inl ⟨rfl, by cases h; rfl⟩
    | false =>
      cases hr : sRight (slotK zs k) with
      | false => rw [entR_bad he hz hr] at h; cases h
      | true =>
        cases ha : (es.any fun e => e.1.toList == (sName (slotK zs k)).toList) with
        | true => rw [entR_twice he hz ha] at h; cases h
        | false => rw [entR_more he hz hr ha] at h; exact .inr ⟨rfl, rfl, rfl, by cases h; rfl⟩
theorem entR_names {zs : List Int} : ∀ {ks : List Nat} {es : List (ByteArray × Nat × Nat)}, entR zs ks = some es → ∀ e ∈ es, e.1.toList ≠ []
  | [], es, h, e, he => by cases h; simp at he
  | k :: ks, fs, h, e, he => by
    obtain ⟨es, h1, h2⟩ := entR_some h
    rcases h2 with ⟨_, rfl⟩ | ⟨_, hr, _, rfl⟩
    · exact entR_names h1 e he
    · rcases List.mem_append.1 he with he | he
      · exact entR_names h1 e he
      · obtain rfl := List.mem_singleton.1 he
        exact right_name hr
theorem mapR_has (H : Type) {zs : List Int} (nm : ByteArray) : ∀ {ks : List Nat} {es : List (ByteArray × Nat × Nat)}, entR zs ks = some es → Maps.has (mapR H zs ks) (.string nm.data.toList) = es.any fun e => e.1.toList == nm.toList
  | [], es, h => by cases h; rfl
  | k :: ks, fs, h => by
    obtain ⟨es, h1, h2⟩ := entR_some h
    have ih := mapR_has H nm h1
    rcases h2 with ⟨hz, rfl⟩ | ⟨hz, hr, ha, rfl⟩
    · rw [mapR, if_pos hz]; exact ih
    · rw [mapR, if_neg (by rw [hz]; simp), List.any_append, ← ih]
      obtain ⟨ds, hd⟩ := mapR_map H zs ks
      by_cases e : (sName (slotK zs k)).toList = nm.toList
      · have e2 : (sName (slotK zs k)).data.toList = nm.data.toList := by rw [← ByteArray.toList_eq, ← ByteArray.toList_eq]; exact e
        rw [← e2, Maps.has_put_same (by rw [hd]; exact ⟨_, rfl⟩) (by first | trivial | simp [WideAt.IsKeyLit] | exact ⟨_, rfl⟩)]
        simp [e]
      · have e2 : (Lit.string nm.data.toList) ≠ .string (sName (slotK zs k)).data.toList := by
          intro h
          injection h with h
          rw [← ByteArray.toList_eq, ← ByteArray.toList_eq] at h
          exact e h.symm
        rw [Maps.has_put_other e2]
        simp [e]
/-- One more slot. -/
theorem entR_step (H : Type) {zs : List Int} {k : Nat} {ks : List Nat} {es : List (ByteArray × Nat × Nat)} (h : entR zs ks = some es) (hok : (sZero (slotK zs k) || sRight (slotK zs k)) = true) : (entR zs (k :: ks)).isSome = !(Maps.has (mapR H zs ks) (.string (slotE zs k).1.data.toList)) := by
  rw [mapR_has H _ h]
  cases hz : sZero (slotK zs k) with
  | true =>
    rw [entR_zero h hz, slotE, if_pos hz]
    have : (es.any fun e => e.1.toList == (⟨#[]⟩ : ByteArray).toList) = false := by
      rw [List.any_eq_false]
      intro e he
      have := entR_names h e he
      rw [show (⟨#[]⟩ : ByteArray).toList = [] from by rw [ByteArray.toList_eq]]
      simpa using this
    rw [this]
    rfl
  | false =>
    rw [hz, Bool.false_or] at hok
    rw [slotE, if_neg (by rw [hz]; simp)]
    cases ha : (es.any fun e => e.1.toList == (sName (slotK zs k)).toList) with
    | true => rw [entR_twice h hz ha]; rfl
    | false => rw [entR_more h hz hok ha]; rfl
theorem entR_stop {zs : List Int} {k : Nat} {ks : List Nat} (h : (sZero (slotK zs k) || sRight (slotK zs k)) = false) : entR zs (k :: ks) = none := by
  rw [Bool.or_eq_false_iff] at h
  cases he : entR zs ks with
  | none => rw [entR, he]
  | some es => exact entR_bad he h.1 h.2
end Go.Proofs.YtplieplmhdfndaaGreatDoor
