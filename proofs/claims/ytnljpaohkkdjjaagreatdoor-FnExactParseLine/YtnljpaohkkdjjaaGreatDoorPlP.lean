/- Mathematics of a line's words: a text cut at each space, byte by byte and rune by rune (SplM's way, for another sign). -/
import Derived.Test.YtnljpaohkkdjjaaGreatDoorChkMath
import Derived.Lib.FieldsP
namespace Go.Proofs.YtnljpaohkkdjjaaGreatDoor.Spw
set_option linter.unusedVariables false
set_option linter.unusedSimpArgs false
open Go.Proofs.YtnljpaohkkdjjaaGreatDoor.Chk Go

/-- Behind k bytes: the pieces that are whole, and where the open one begins. -/
def cutTo (s : ByteArray) : Nat → List (Nat × Nat) × Option Nat
  | 0 => ([], none)
  | k + 1 =>
    if s.get! k = 32 then
      (match (cutTo s k).2 with
       | some a => ((cutTo s k).1 ++ [(a, k)], none)
       | none => ((cutTo s k).1, none))
    else
      (match (cutTo s k).2 with
       | some a => ((cutTo s k).1, some a)
       | none => ((cutTo s k).1, some k))
theorem cutTo_slash_some (s : ByteArray) (k a : Nat) (h : s.get! k = 32) (ha : (cutTo s k).2 = some a) : cutTo s (k + 1) = ((cutTo s k).1 ++ [(a, k)], none) := by
  simp [cutTo, h, ha]
theorem cutTo_slash_none (s : ByteArray) (k : Nat) (h : s.get! k = 32) (ha : (cutTo s k).2 = none) : cutTo s (k + 1) = ((cutTo s k).1, none) := by
  simp [cutTo, h, ha]
theorem cutTo_more_some (s : ByteArray) (k a : Nat) (h : s.get! k ≠ 32) (ha : (cutTo s k).2 = some a) : cutTo s (k + 1) = ((cutTo s k).1, some a) := by
  simp [cutTo, h, ha]
theorem cutTo_more_none (s : ByteArray) (k : Nat) (h : s.get! k ≠ 32) (ha : (cutTo s k).2 = none) : cutTo s (k + 1) = ((cutTo s k).1, some k) := by
  simp [cutTo, h, ha]
theorem cutTo_lt (s : ByteArray) : ∀ k, (∀ x ∈ (cutTo s k).1, x.1 < x.2 ∧ x.2 ≤ k) ∧ ∀ a, (cutTo s k).2 = some a → a < k
  | 0 => ⟨fun x hx => (by cases hx), fun a h => (by cases h)⟩
  | k + 1 => by
    obtain ⟨h1, h2⟩ := cutTo_lt s k
    by_cases h : s.get! k = 32
    · cases hc : (cutTo s k).2 with
      | none => rw [cutTo_slash_none s k h hc]; exact ⟨fun x hx => ⟨(h1 x hx).1, by have := (h1 x hx).2; omega⟩, fun a ha => (by cases ha)⟩
      | some a =>
        rw [cutTo_slash_some s k a h hc]
        refine ⟨fun x hx => ?_, fun a ha => (by cases ha)⟩
        rcases List.mem_append.1 hx with hx | hx
        · exact ⟨(h1 x hx).1, by have := (h1 x hx).2; omega⟩
        · simp at hx; subst hx; exact ⟨h2 a hc, by simp⟩
    · cases hc : (cutTo s k).2 with
      | none => rw [cutTo_more_none s k h hc]; exact ⟨fun x hx => ⟨(h1 x hx).1, by have := (h1 x hx).2; omega⟩, fun a ha => by cases ha; omega⟩
      | some a => rw [cutTo_more_some s k a h hc]; exact ⟨fun x hx => ⟨(h1 x hx).1, by have := (h1 x hx).2; omega⟩, fun b hb => by cases hb; have := h2 a hc; omega⟩
/-- n bytes that are no slash. -/
theorem cutTo_run (s : ByteArray) (pos : Nat) : ∀ n, (∀ j, j < n + 1 → s.get! (pos + j) ≠ 32) → cutTo s (pos + (n + 1)) = ((cutTo s pos).1, some ((cutTo s pos).2.getD pos))
  | 0, h => by
    have h0 := h 0 (by omega)
    cases hc : (cutTo s pos).2 with
    | none => rw [show pos + (0 + 1) = pos + 1 from rfl, cutTo_more_none s pos h0 hc]; rfl
    | some a => rw [show pos + (0 + 1) = pos + 1 from rfl, cutTo_more_some s pos a h0 hc]; rfl
  | n + 1, h => by
    have ih := cutTo_run s pos n (fun j hj => h j (by omega))
    have h1 := h (n + 1) (by omega)
    rw [show pos + (n + 1 + 1) = pos + (n + 1) + 1 from rfl, cutTo_more_some s (pos + (n + 1)) ((cutTo s pos).2.getD pos) h1 (by rw [ih]), ih]
theorem u8_32 (b : UInt8) : b = 32 ↔ b.toNat = 32 := by
  constructor
  · intro h; subst h; rfl
  · intro h; exact UInt8.toNat_inj.1 h
/-- One rune on: what the library's pass does is what the bytes do. -/
theorem rune_step (s : ByteArray) (pos : Nat) (h : pos < s.size) :
    ((Utf8.decode s pos).1 = 32 → (Utf8.decode s pos).2 = 1 ∧ s.get! pos = 32) ∧ ((Utf8.decode s pos).1 ≠ 32 → cutTo s (pos + (Utf8.decode s pos).2) = ((cutTo s pos).1, some ((cutTo s pos).2.getD pos))) ∧ pos + (Utf8.decode s pos).2 ≤ s.size := by
  by_cases ha : (s[pos]'h).toNat < 128
  · rw [decode_ascii s pos h ha]
    refine ⟨fun e => ⟨rfl, ?_⟩, fun e => ?_, by simp; omega⟩
    · rw [get_k s pos h, u8_32]; exact e
    · refine cutTo_run s pos 0 (fun j hj => ?_)
      obtain rfl : j = 0 := by omega
      rw [Nat.add_zero, get_k s pos h]
      intro e2
      rw [u8_32] at e2
      exact e e2
  · have hd := decode_high s pos h (by omega)
    have hw := hd.2
    refine ⟨fun e => by have := hd.1; omega, fun e => ?_, ?_⟩
    · obtain ⟨n, hn⟩ : ∃ n, (Utf8.decode s pos).2 = n + 1 := ⟨(Utf8.decode s pos).2 - 1, by omega⟩
      rw [hn]
      refine cutTo_run s pos n (fun j hj => ?_)
      obtain ⟨q, hq⟩ := decode_cont s pos h (by omega) j (by omega)
      rw [get_k s _ q]
      intro e2
      rw [u8_32] at e2
      omega
    · obtain ⟨q, _⟩ := decode_cont s pos h (by omega) ((Utf8.decode s pos).2 - 1) (by omega)
      omega
def isSl (x : Nat) : Bool := x == 32
theorem spans_cut (s : ByteArray) : ∀ (f pos : Nat), pos ≤ s.size → s.size ≤ pos + f → Lib.spansFromP isSl s f pos (cutTo s pos).2 (cutTo s pos).1 = cutTo s s.size
  | 0, pos, h1, h2 => by
    obtain rfl : pos = s.size := by omega
    rfl
  | f + 1, pos, h1, h2 => by
    by_cases h : pos < s.size
    · obtain ⟨ha, hb, hc⟩ := rune_step s pos h
      have hw := width_pos s pos h
      have ih := spans_cut s f (pos + (Utf8.decode s pos).2) hc (by omega)
      unfold Lib.spansFromP
      rw [if_pos h]
      by_cases hr : (Utf8.decode s pos).1 = 32
      · obtain ⟨hw1, hg⟩ := ha hr
        rw [if_pos (by simp [isSl, hr])]
        rw [hw1] at ih ⊢
        cases hc : (cutTo s pos).2 with
        | none =>
          rw [cutTo_slash_none s pos hg hc] at ih
          exact ih
        | some a =>
          rw [cutTo_slash_some s pos a hg hc] at ih
          exact ih
      · rw [if_neg (by simp [isSl, hr])]
        rw [hb hr] at ih
        cases hc : (cutTo s pos).2 with
        | none => rw [hc] at ih; exact ih
        | some a => rw [hc] at ih; exact ih
    · obtain rfl : pos = s.size := by omega
      exact Lib.spansFromP_end _ _ _ _ _ _ h
/-- The names of a text. -/
def names (s : ByteArray) : List ByteArray := (Lib.closeSpans s (cutTo s s.size)).map fun x => s.extract x.1 x.2
theorem fields_names (s : ByteArray) : Lib.goFieldsP isSl s = names s := by
  unfold Lib.goFieldsP Lib.spansOfP names
  have h := spans_cut s s.size 0 (by omega) (by omega)
  rw [show Lib.spansFromP isSl s s.size 0 none [] = cutTo s s.size from h]
/-- The pieces that are whole behind k bytes, and the open one. -/
def outs (s : ByteArray) (k : Nat) : List ByteArray := (cutTo s k).1.map fun x => s.extract x.1 x.2
def part (s : ByteArray) (k : Nat) : ByteArray := match (cutTo s k).2 with | some a => s.extract a k | none => ⟨#[]⟩
theorem outs_len (s : ByteArray) : ∀ k, (cutTo s k).1.length ≤ k
  | 0 => Nat.le_refl _
  | k + 1 => by
    have ih := outs_len s k
    by_cases h : s.get! k = 32
    · cases hc : (cutTo s k).2 with
      | none => rw [cutTo_slash_none s k h hc]; show (cutTo s k).1.length ≤ _; omega
      | some a => rw [cutTo_slash_some s k a h hc]; simp; omega
    · cases hc : (cutTo s k).2 with
      | none => rw [cutTo_more_none s k h hc]; show (cutTo s k).1.length ≤ _; omega
      | some a => rw [cutTo_more_some s k a h hc]; show (cutTo s k).1.length ≤ _; omega
theorem extract_empty (s : ByteArray) (a : Nat) : s.extract a a = ⟨#[]⟩ := by
  apply ByteArray.ext
  simp [ByteArray.data_extract]
theorem extract_size (s : ByteArray) (a b : Nat) (h : a ≤ b) (hb : b ≤ s.size) : (s.extract a b).size = b - a := by
  rw [ByteArray.size_extract]; omega
theorem part_size (s : ByteArray) (k : Nat) (hk : k ≤ s.size) : (part s k).size ≤ k := by
  unfold part
  cases hc : (cutTo s k).2 with
  | none => simp [ByteArray.size]
  | some a =>
    have := (cutTo_lt s k).2 a hc
    show (s.extract a k).size ≤ k
    rw [extract_size s a k (by omega) hk]
    omega
theorem part_none (s : ByteArray) (k : Nat) (hk : k ≤ s.size) : (cutTo s k).2 = none ↔ (part s k).size = 0 := by
  unfold part
  cases hc : (cutTo s k).2 with
  | none => simp [ByteArray.size]
  | some a =>
    have := (cutTo_lt s k).2 a hc
    simp only [reduceCtorEq, false_iff]
    rw [extract_size s a k (by omega) hk]
    omega
theorem part_slash (s : ByteArray) (k : Nat) (h : s.get! k = 32) : part s (k + 1) = ⟨#[]⟩ := by
  unfold part
  cases hc : (cutTo s k).2 with
  | none => rw [cutTo_slash_none s k h hc]
  | some a => rw [cutTo_slash_some s k a h hc]
theorem outs_slash_some (s : ByteArray) (k : Nat) (hk : k ≤ s.size) (h : s.get! k = 32) (hp : (part s k).size ≠ 0) : outs s (k + 1) = outs s k ++ [part s k] := by
  cases hc : (cutTo s k).2 with
  | none => exact absurd ((part_none s k hk).1 hc) hp
  | some a =>
    unfold outs part
    rw [cutTo_slash_some s k a h hc, hc]
    simp
theorem outs_slash_none (s : ByteArray) (k : Nat) (hk : k ≤ s.size) (h : s.get! k = 32) (hp : (part s k).size = 0) : outs s (k + 1) = outs s k := by
  have hc := (part_none s k hk).2 hp
  unfold outs
  rw [cutTo_slash_none s k h hc]
theorem outs_more (s : ByteArray) (k : Nat) (h : s.get! k ≠ 32) : outs s (k + 1) = outs s k := by
  unfold outs
  cases hc : (cutTo s k).2 with
  | none => rw [cutTo_more_none s k h hc]
  | some a => rw [cutTo_more_some s k a h hc]
theorem part_more (s : ByteArray) (k : Nat) (hk : k < s.size) (h : s.get! k ≠ 32) : part s (k + 1) = part s k ++ s.extract k (k + 1) := by
  unfold part
  cases hc : (cutTo s k).2 with
  | none =>
    rw [cutTo_more_none s k h hc]
    apply ByteArray.ext
    simp
  | some a =>
    rw [cutTo_more_some s k a h hc]
    have := (cutTo_lt s k).2 a hc
    apply ByteArray.ext
    simp [ByteArray.data_extract, ByteArray.data_append]
    rw [Nat.min_eq_left (by omega)]
theorem names_none (s : ByteArray) (hp : (part s s.size).size = 0) : names s = outs s s.size := by
  have hc := (part_none s s.size (Nat.le_refl _)).2 hp
  unfold names outs Lib.closeSpans
  rw [hc]
theorem names_some (s : ByteArray) (hp : (part s s.size).size ≠ 0) : names s = outs s s.size ++ [part s s.size] := by
  cases hc : (cutTo s s.size).2 with
  | none => exact absurd ((part_none s s.size (Nat.le_refl _)).1 hc) hp
  | some a =>
    unfold names outs Lib.closeSpans part
    rw [hc]
    simp
theorem names_len (s : ByteArray) : (names s).length ≤ s.size + 1 := by
  have h := outs_len s s.size
  unfold names Lib.closeSpans
  cases hc : (cutTo s s.size).2 <;> simp <;> omega
/-- Too many, or one too long. -/
def longN (l : List ByteArray) : Bool := decide (40 < l.length) || l.any fun x => decide (26 < x.size)
def zeroIn (s : ByteArray) : Bool := s.data.toList.contains 0
theorem zeroIn_iff (s : ByteArray) : zeroIn s = true ↔ ∃ j, j < s.size ∧ s.get! j = 0 := by
  unfold zeroIn
  rw [List.contains_iff_mem, List.mem_iff_getElem?]
  constructor
  · rintro ⟨i, hi⟩
    obtain ⟨h, he⟩ := List.getElem?_eq_some_iff.1 hi
    have hs : i < s.size := by rw [Array.length_toList] at h; exact h
    refine ⟨i, hs, ?_⟩
    rw [get_k s i hs]
    exact he
  · rintro ⟨j, hj, he⟩
    rw [get_k s j hj] at he
    refine ⟨j, ?_⟩
    rw [List.getElem?_eq_getElem (by rw [Array.length_toList]; exact hj)]
    exact congrArg some he
def codeSP (s : ByteArray) : Int := if s.size = 0 then 7 else if 512 < s.size then 12 else if s.get! 0 ≠ 32 ∨ zeroIn s = true then 7 else if longN (names s) = true then 12 else 0
def namesSP (s : ByteArray) : List ByteArray := if codeSP s = 0 then names s else []
end Go.Proofs.YtnljpaohkkdjjaaGreatDoor.Spw
