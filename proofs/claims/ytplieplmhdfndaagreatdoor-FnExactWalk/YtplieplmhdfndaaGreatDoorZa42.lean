/- Mathematics of SplitPath: a text cut at each slash, byte by byte and rune by rune. The model's l07Cut, l07Long and SplitPath. The library's contracts on strings.Contains and strings.FieldsFunc, laid at this program (as the library's own tool prints them). What follows a region is walked once, whatever way the region took. -/
import Derived.Test.YtplieplmhdfndaaGreatDoorZa07
import Derived.Lib.FieldsP
import Derived.Test.YtplieplmhdfndaaGreatDoorZa03
import Derived.Laws.AppendOwn
import Derived.Laws.Strings2
import Derived.Deep.MidRow
import Derived.Maps.AppendAt
import Derived.Shelf.Strings.Search3
import Derived.Shelf.Strings.FieldsFuncGrows
import Derived.Test.YtplieplmhdfndaaGreatDoorRows
import Derived.Test.YtplieplmhdfndaaGreatDoorZa01
import Derived.WalkKit
namespace Go.Proofs.YtplieplmhdfndaaGreatDoor.Spl
set_option linter.unusedVariables false
set_option linter.unusedSimpArgs false
open Go.Proofs.YtplieplmhdfndaaGreatDoor.Chk Go

/-- Behind k bytes: the pieces that are whole, and where the open one begins. -/
def cutTo (s : ByteArray) : Nat → List (Nat × Nat) × Option Nat
  | 0 => ([], none)
  | k + 1 =>
    if s.get! k = 47 then
      (match (cutTo s k).2 with
       | some a => ((cutTo s k).1 ++ [(a, k)], none)
       | none => ((cutTo s k).1, none))
    else
      (match (cutTo s k).2 with
       | some a => ((cutTo s k).1, some a)
       | none => ((cutTo s k).1, some k))
theorem cutTo_slash_some (s : ByteArray) (k a : Nat) (h : s.get! k = 47) (ha : (cutTo s k).2 = some a) : cutTo s (k + 1) = ((cutTo s k).1 ++ [(a, k)], none) := by
  simp [cutTo, h, ha]
theorem cutTo_slash_none (s : ByteArray) (k : Nat) (h : s.get! k = 47) (ha : (cutTo s k).2 = none) : cutTo s (k + 1) = ((cutTo s k).1, none) := by
  simp [cutTo, h, ha]
theorem cutTo_more_some (s : ByteArray) (k a : Nat) (h : s.get! k ≠ 47) (ha : (cutTo s k).2 = some a) : cutTo s (k + 1) = ((cutTo s k).1, some a) := by
  simp [cutTo, h, ha]
theorem cutTo_more_none (s : ByteArray) (k : Nat) (h : s.get! k ≠ 47) (ha : (cutTo s k).2 = none) : cutTo s (k + 1) = ((cutTo s k).1, some k) := by
  simp [cutTo, h, ha]
theorem cutTo_lt (s : ByteArray) : ∀ k, (∀ x ∈ (cutTo s k).1, x.1 < x.2 ∧ x.2 ≤ k) ∧ ∀ a, (cutTo s k).2 = some a → a < k
  | 0 => ⟨fun x hx => (by cases hx), fun a h => (by cases h)⟩
  | k + 1 => by
    obtain ⟨h1, h2⟩ := cutTo_lt s k
    by_cases h : s.get! k = 47
    · cases hc : (cutTo s k).2 with
      | none => rw [cutTo_slash_none s k h hc]; exact ⟨fun x hx => ⟨(h1 x hx).1, by have := (h1 x hx).2; omega⟩, fun a ha => (by cases ha)⟩
      | some a =>
        rw [cutTo_slash_some s k a h hc]
        refine ⟨fun x hx => ?_, fun a ha => (by cases ha)⟩
        rcases List.mem_append.1 hx with hx | hx
        · exact ⟨(h1 x hx).1, by have := (h1 x hx).2; omega⟩
        · simp at hx; subst hx; exact ⟨h2 a hc, by simp⟩
    · cases hc : (cutTo s k).2 with
      | none => rw [cutTo_more_none s k h hc]; exact ⟨fun x hx => ⟨(h1 x hx).1, by have := (h1 x hx).2; omega⟩, fun a ha => by cases ha; omega⟩
      | some a => rw [cutTo_more_some s k a h hc]; exact ⟨fun x hx => ⟨(h1 x hx).1, by have := (h1 x hx).2; omega⟩, fun b hb => by cases hb; have := h2 a hc; omega⟩
/-- n bytes that are no slash. -/
theorem cutTo_run (s : ByteArray) (pos : Nat) : ∀ n, (∀ j, j < n + 1 → s.get! (pos + j) ≠ 47) → cutTo s (pos + (n + 1)) = ((cutTo s pos).1, some ((cutTo s pos).2.getD pos))
  | 0, h => by
    have h0 := h 0 (by omega)
    cases hc : (cutTo s pos).2 with
    | none => rw [show pos + (0 + 1) = pos + 1 from rfl, cutTo_more_none s pos h0 hc]; rfl
    | some a => rw [show pos + (0 + 1) = pos + 1 from rfl, cutTo_more_some s pos a h0 hc]; rfl
  | n + 1, h => by
    have ih := cutTo_run s pos n (fun j hj => h j (by omega))
    have h1 := h (n + 1) (by omega)
    rw [show pos + (n + 1 + 1) = pos + (n + 1) + 1 from rfl, cutTo_more_some s (pos + (n + 1)) ((cutTo s pos).2.getD pos) h1 (by rw [ih]), ih]
theorem u8_47 (b : UInt8) : b = 47 ↔ b.toNat = 47 := by
  constructor
  · intro h; subst h; rfl
  · intro h; exact UInt8.toNat_inj.1 h
/-- One rune on: what the library's pass does is what the bytes do. -/
theorem rune_step (s : ByteArray) (pos : Nat) (h : pos < s.size) :
    ((Utf8.decode s pos).1 = 47 → (Utf8.decode s pos).2 = 1 ∧ s.get! pos = 47) ∧ ((Utf8.decode s pos).1 ≠ 47 → cutTo s (pos + (Utf8.decode s pos).2) = ((cutTo s pos).1, some ((cutTo s pos).2.getD pos))) ∧ pos + (Utf8.decode s pos).2 ≤ s.size := by
  by_cases ha : (s[pos]'h).toNat < 128
  · rw [decode_ascii s pos h ha]
    refine ⟨fun e => ⟨rfl, ?_⟩, fun e => ?_, by simp; omega⟩
    · rw [get_k s pos h, u8_47]; exact e
    · refine cutTo_run s pos 0 (fun j hj => ?_)
      obtain rfl : j = 0 := by omega
      rw [Nat.add_zero, get_k s pos h]
      intro e2
      rw [u8_47] at e2
      exact e e2
  · have hd := decode_high s pos h (by omega)
    have hw := hd.2
    refine ⟨fun e => by have := hd.1; omega, fun e => ?_, ?_⟩
    · obtain ⟨n, hn⟩ : ∃ n, (Utf8.decode s pos).2 = n + 1 := ⟨(Utf8.decode s pos).2 - 1, by omega⟩
      rw [hn]
      refine cutTo_run s pos n (fun j hj => ?_)
      obtain ⟨q, hq⟩ := decode_cont s pos h (by omega) j (by omega)
      rw [get_k s _ q]
      intro e2
      rw [u8_47] at e2
      omega
    · obtain ⟨q, _⟩ := decode_cont s pos h (by omega) ((Utf8.decode s pos).2 - 1) (by omega)
      omega
def isSl (x : Nat) : Bool := x == 47
theorem spans_cut (s : ByteArray) : ∀ (f pos : Nat), pos ≤ s.size → s.size ≤ pos + f → Lib.spansFromP isSl s f pos (cutTo s pos).2 (cutTo s pos).1 = cutTo s s.size
  | 0, pos, h1, h2 => by
    obtain rfl : pos = s.size := by omega
    rfl
  | f + 1, pos, h1, h2 => by
    by_cases h : pos < s.size
    · obtain ⟨ha, hb, hc⟩ := rune_step s pos h
      have hw := width_pos s pos h
      have ih := spans_cut s f (pos + (Utf8.decode s pos).2) hc (by omega)
      unfold Lib.spansFromP
      rw [if_pos h]
      by_cases hr : (Utf8.decode s pos).1 = 47
      · obtain ⟨hw1, hg⟩ := ha hr
        rw [if_pos (by simp [isSl, hr])]
        rw [hw1] at ih ⊢
        cases hc : (cutTo s pos).2 with
        | none =>
          rw [cutTo_slash_none s pos hg hc] at ih
          exact ih
        | some a =>
          rw [cutTo_slash_some s pos a hg hc] at ih
          exact ih
      · rw [if_neg (by simp [isSl, hr])]
        rw [hb hr] at ih
        cases hc : (cutTo s pos).2 with
        | none => rw [hc] at ih; exact ih
        | some a => rw [hc] at ih; exact ih
    · obtain rfl : pos = s.size := by omega
      exact Lib.spansFromP_end _ _ _ _ _ _ h
/-- The names of a text. -/
def names (s : ByteArray) : List ByteArray := (Lib.closeSpans s (cutTo s s.size)).map fun x => s.extract x.1 x.2
theorem fields_names (s : ByteArray) : Lib.goFieldsP isSl s = names s := by
  unfold Lib.goFieldsP Lib.spansOfP names
  have h := spans_cut s s.size 0 (by omega) (by omega)
  rw [show Lib.spansFromP isSl s s.size 0 none [] = cutTo s s.size from h]
/-- The pieces that are whole behind k bytes, and the open one. -/
def outs (s : ByteArray) (k : Nat) : List ByteArray := (cutTo s k).1.map fun x => s.extract x.1 x.2
def part (s : ByteArray) (k : Nat) : ByteArray := match (cutTo s k).2 with | some a => s.extract a k | none => ⟨#[]⟩
theorem outs_len (s : ByteArray) : ∀ k, (cutTo s k).1.length ≤ k
  | 0 => Nat.le_refl _
  | k + 1 => by
    have ih := outs_len s k
    by_cases h : s.get! k = 47
    · cases hc : (cutTo s k).2 with
      | none => rw [cutTo_slash_none s k h hc]; show (cutTo s k).1.length ≤ _; omega
      | some a => rw [cutTo_slash_some s k a h hc]; simp; omega
    · cases hc : (cutTo s k).2 with
      | none => rw [cutTo_more_none s k h hc]; show (cutTo s k).1.length ≤ _; omega
      | some a => rw [cutTo_more_some s k a h hc]; show (cutTo s k).1.length ≤ _; omega
theorem extract_size (s : ByteArray) (a b : Nat) (h : a ≤ b) (hb : b ≤ s.size) : (s.extract a b).size = b - a := by
  rw [ByteArray.size_extract]; omega
theorem part_size (s : ByteArray) (k : Nat) (hk : k ≤ s.size) : (part s k).size ≤ k := by
  unfold part
  cases hc : (cutTo s k).2 with
  | none => simp [ByteArray.size]
  | some a =>
    have := (cutTo_lt s k).2 a hc
    show (s.extract a k).size ≤ k
    rw [extract_size s a k (by omega) hk]
    omega
theorem part_none (s : ByteArray) (k : Nat) (hk : k ≤ s.size) : (cutTo s k).2 = none ↔ (part s k).size = 0 := by
  unfold part
  cases hc : (cutTo s k).2 with
  | none => simp [ByteArray.size]
  | some a =>
    have := (cutTo_lt s k).2 a hc
    simp only [reduceCtorEq, false_iff]
    rw [extract_size s a k (by omega) hk]
    omega
theorem part_slash (s : ByteArray) (k : Nat) (h : s.get! k = 47) : part s (k + 1) = ⟨#[]⟩ := by
  unfold part
  cases hc : (cutTo s k).2 with
  | none => rw [cutTo_slash_none s k h hc]
  | some a => rw [cutTo_slash_some s k a h hc]
theorem outs_slash_some (s : ByteArray) (k : Nat) (hk : k ≤ s.size) (h : s.get! k = 47) (hp : (part s k).size ≠ 0) : outs s (k + 1) = outs s k ++ [part s k] := by
  cases hc : (cutTo s k).2 with
  | none => exact absurd ((part_none s k hk).1 hc) hp
  | some a =>
    unfold outs part
    rw [cutTo_slash_some s k a h hc, hc]
    simp
theorem outs_slash_none (s : ByteArray) (k : Nat) (hk : k ≤ s.size) (h : s.get! k = 47) (hp : (part s k).size = 0) : outs s (k + 1) = outs s k := by
  have hc := (part_none s k hk).2 hp
  unfold outs
  rw [cutTo_slash_none s k h hc]
theorem outs_more (s : ByteArray) (k : Nat) (h : s.get! k ≠ 47) : outs s (k + 1) = outs s k := by
  unfold outs
  cases hc : (cutTo s k).2 with
  | none => rw [cutTo_more_none s k h hc]
  | some a => rw [cutTo_more_some s k a h hc]
theorem part_more (s : ByteArray) (k : Nat) (hk : k < s.size) (h : s.get! k ≠ 47) : part s (k + 1) = part s k ++ s.extract k (k + 1) := by
  unfold part
  cases hc : (cutTo s k).2 with
  | none =>
    rw [cutTo_more_none s k h hc]
    apply ByteArray.ext
    simp
  | some a =>
    rw [cutTo_more_some s k a h hc]
    have := (cutTo_lt s k).2 a hc
    apply ByteArray.ext
    simp [ByteArray.data_extract, ByteArray.data_append]
    rw [Nat.min_eq_left (by omega)]
theorem names_none (s : ByteArray) (hp : (part s s.size).size = 0) : names s = outs s s.size := by
  have hc := (part_none s s.size (Nat.le_refl _)).2 hp
  unfold names outs Lib.closeSpans
  rw [hc]
theorem names_some (s : ByteArray) (hp : (part s s.size).size ≠ 0) : names s = outs s s.size ++ [part s s.size] := by
  cases hc : (cutTo s s.size).2 with
  | none => exact absurd ((part_none s s.size (Nat.le_refl _)).1 hc) hp
  | some a =>
    unfold names outs Lib.closeSpans part
    rw [hc]
    simp
theorem names_len (s : ByteArray) : (names s).length ≤ s.size + 1 := by
  have h := outs_len s s.size
  unfold names Lib.closeSpans
  cases hc : (cutTo s s.size).2 <;> simp <;> omega
/-- Too many, or one too long. -/
def longN (l : List ByteArray) : Bool := decide (40 < l.length) || l.any fun x => decide (26 < x.size)
def zeroIn (s : ByteArray) : Bool := s.data.toList.contains 0
theorem zeroIn_iff (s : ByteArray) : zeroIn s = true ↔ ∃ j, j < s.size ∧ s.get! j = 0 := by
  unfold zeroIn
  rw [List.contains_iff_mem, List.mem_iff_getElem?]
  constructor
  · rintro ⟨i, hi⟩
    obtain ⟨h, he⟩ := List.getElem?_eq_some_iff.1 hi
    have hs : i < s.size := by rw [Array.length_toList] at h; exact h
    refine ⟨i, hs, ?_⟩
    rw [get_k s i hs]
    exact he
  · rintro ⟨j, hj, he⟩
    rw [get_k s j hj] at he
    refine ⟨j, ?_⟩
    rw [List.getElem?_eq_getElem (by rw [Array.length_toList]; exact hj)]
    exact congrArg some he
def codeSP (s : ByteArray) : Int := if s.size = 0 then 7 else if 512 < s.size then 12 else if s.get! 0 ≠ 47 ∨ zeroIn s = true then 7 else if longN (names s) = true then 12 else 0
def namesSP (s : ByteArray) : List ByteArray := if codeSP s = 0 then names s else []
end Go.Proofs.YtplieplmhdfndaaGreatDoor.Spl

namespace Go.Proofs.YtplieplmhdfndaaGreatDoor
set_option linter.unusedVariables false
set_option linter.unusedSimpArgs false
open Go.RowKit

theorem infoStr : (Tryz.prog.info? 9).map (fun i => (i.zero, i.size, i.bytes)) = some (some (.string ⟨#[]⟩), 1, 16) := by kernel_rfl
theorem empty_ownS (w : World) (e : TypeId) : (w.alloc (.cells #[] e)).ownsRow w.heap.size e 1 (.slice (some ⟨w.heap.size, 0, none⟩) 0 0) 0 [] := by
  have h := World.ownsRow_lit (base := w.heap.size) (e := e) (size := 1) w #[] 0 (Nat.le_refl _) (by simp) rfl
  simpa using h
theorem one_str (s : ByteArray) : ∀ v ∈ [Value.string s], v.oneCell' = true := by intro v hv; simp at hv; subst hv; rfl
theorem get_at_k (s : ByteArray) (k : Nat) (h : k < s.size) : (s.get! k = 47) ↔ ((s[k].toNat : Int) = 47) := by
  rw [Chk.get_k s k h, Spl.u8_47]
  omega
theorem isEmpty_size (s : ByteArray) : s.toList.isEmpty = decide (s.size = 0) := by
  obtain ⟨⟨l⟩⟩ := s
  rw [show (ByteArray.mk { toList := l }) = ByteArray.mk l.toArray from rfl, ByteArray.toList_mk]
  cases l <;> simp [ByteArray.size]
theorem slice1 (s : ByteArray) (k : Nat) (h : k < s.size) (W : World) : (Instr.slice 9 (.string s) (some (.int .i64 (k : Int))) (some (.int .i64 ((k : Int) + 1))) none).run Tryz.prog W = .ok (.string (s.extract k (k + 1))) W := by
  have e := run_slice_string (P := Tryz.prog) W 9 s .i64 .i64 (k : Int) ((k : Int) + 1) Tryz.underlying9 (by omega) (by omega) (by omega)
  rw [e, Int.toNat_natCast, show ((k : Int) + 1).toNat = k + 1 by omega]

set_option maxHeartbeats 1000000 in
theorem specCut_any (s : ByteArray) (w : World) (hs : s.size ≤ 512) :
    Calls Tryz.prog 50 #[.string s] w fun e w' => ∃ v, e = .returned v ∧ w'.ownsRow w.heap.size 9 1 v (Spl.names s).length ((Spl.names s).map Value.string) ∧ Below w.heap.size w w' := by
  obtain ⟨i0, hi, hz0, hz1, hz2⟩ := info_parts infoStr
  have H0 := hide (show (w.alloc (.cells #[] 9)).ownsRow w.heap.size 9 1 (.slice (some ⟨w.heap.size, 0, none⟩) 0 0) (Spl.outs s 0).length ((Spl.outs s 0).map Value.string) ∧ Below w.heap.size w (w.alloc (.cells #[] 9)) from ⟨empty_ownS _ _, (Below.refl _ _).alloc (Nat.le_refl _) _⟩)
  go_enter Tryz.func50, Tryz.ntmps50
  go_wp2
  go_loopw [3, 4, 5] (fun o p i wr => ∃ k : Nat, k ≤ s.size ∧ i = .int .i64 k ∧ p = .string (Spl.part s k) ∧ wr.ownsRow w.heap.size 9 1 o (Spl.outs s k).length ((Spl.outs s k).map Value.string) ∧ Below w.heap.size w wr) (fun _ _ i _ => s.size - (intOf i).toNat)
  case atStart => exact ⟨0, by omega, rfl, rfl, H0.out.1, H0.out.2⟩
  case round =>
    obtain ⟨k, hk, rfl, rfl, ho, hb⟩ := hrel
    have HO := hide (And.intro ho hb)
    have hsz := hb.size
    have hol : (Spl.outs s k).length ≤ 512 := by have := Spl.outs_len s k; simp [Spl.outs]; omega
    clear ho hb H0
    by_cases hlt : k < s.size
    · by_cases hsl : s.get! k = 47
      · have hq : ((s[k].toNat : Int) != 47) = false := by have := (get_at_k s k hlt).1 hsl; simp [this]
        have HPs := hide (Spl.part_slash s k hsl)
        by_cases hp : (Spl.part s k).size = 0
        · have he : (Spl.part s k).toList.isEmpty = true := by rw [isEmpty_size]; simp [hp]
          have HS := hide (Spl.outs_slash_none s k hk hsl hp)
          clear hp hsl
          go_wp2_with fail
          go_roundw
          case rel => exact ⟨k + 1, by omega, by go_num, by rw [HPs.out], by rw [HS.out]; exact HO.out.1, HO.out.2⟩
          case measure => simp [intOf]; omega
        · have he : (Spl.part s k).toList.isEmpty = false := by rw [isEmpty_size]; simp [hp]
          have HS := hide (Spl.outs_slash_some s k hk hsl hp)
          clear hp hsl
          go_wp2_with (at_builtin; refine wpList_append_own _ rfl (.tmp 26) (.tmp 28) 57 rfl w.heap.size 9 i0 (.string ⟨#[]⟩) 1 16 Tryz.underlying57 hi hz0 hz1 hz2 rfl (by decide) _ _ _ rfl (HO.out.1.alloc _) ⟨wr.heap.size, 0, none⟩ 1 1 [.string (Spl.part s k)] rfl rfl (cell_one_new _ _ _) (one_str _) (by unfold maxLen; omega) (by omega) (by simp; omega) ?_; intro v1 w1 hown1 hgr1 _)
          have HW := hide (show w1.ownsRow w.heap.size 9 1 v1 (Spl.outs s (k + 1)).length ((Spl.outs s (k + 1)).map Value.string) ∧ Below w.heap.size w w1 from by
            refine ⟨?_, (HO.out.2.alloc hsz _).grown hgr1 (by simp; omega) (fun r h => (HO.out.1.lt r h).1)⟩
            rw [HS.out, List.map_append, List.length_append]
            exact hown1)
          clear hown1 hgr1 HO
          go_wp2_with fail
          go_roundw
          case rel => exact ⟨k + 1, by omega, by go_num, by rw [HPs.out], HW.out.1, HW.out.2⟩
          case measure => simp [intOf]; omega
      · have hq : ((s[k].toNat : Int) != 47) = true := by have := mt (get_at_k s k hlt).2 hsl; simp; omega
        have hcut := slice1 s k hlt
        have hcat : ¬ 9223372036854775807 < (Spl.part s k).size + (min (k + 1) s.size - k) := by have := Spl.part_size s k hk; omega
        have HPm := hide (And.intro (Spl.part_more s k hlt hsl) (Spl.outs_more s k hsl))
        clear hsl
        go_wp2_with fail
        go_roundw
        case rel => exact ⟨k + 1, by omega, by go_num, by rw [HPm.out.1], by rw [HPm.out.2]; exact HO.out.1, HO.out.2⟩
        case measure => simp [intOf]; omega
    · obtain rfl : k = s.size := by omega
      by_cases hp : (Spl.part s s.size).size = 0
      · have he : (Spl.part s s.size).toList.isEmpty = true := by rw [isEmpty_size]; simp [hp]
        have HS := hide (Spl.names_none s hp)
        clear hp
        go_wp2_with fail
        go_ret
        exact ⟨_, rfl, by rw [HS.out]; exact HO.out.1, HO.out.2⟩
      · have he : (Spl.part s s.size).toList.isEmpty = false := by rw [isEmpty_size]; simp [hp]
        have HS := hide (Spl.names_some s hp)
        clear hp
        go_wp2_with (at_builtin; refine wpList_append_own _ rfl (.tmp 32) (.tmp 34) 57 rfl w.heap.size 9 i0 (.string ⟨#[]⟩) 1 16 Tryz.underlying57 hi hz0 hz1 hz2 rfl (by decide) _ _ _ rfl (HO.out.1.alloc _) ⟨wr.heap.size, 0, none⟩ 1 1 [.string (Spl.part s s.size)] rfl rfl (cell_one_new _ _ _) (one_str _) (by unfold maxLen; omega) (by omega) (by simp; omega) ?_; intro v1 w1 hown1 hgr1 _)
        have HW := hide (show w1.ownsRow w.heap.size 9 1 v1 (Spl.names s).length ((Spl.names s).map Value.string) ∧ Below w.heap.size w w1 from by
          refine ⟨?_, (HO.out.2.alloc hsz _).grown hgr1 (by simp; omega) (fun r h => (HO.out.1.lt r h).1)⟩
          rw [HS.out, List.map_append, List.length_append]
          exact hown1)
        clear hown1 hgr1 HO
        go_wp2_with fail
        go_ret
        exact ⟨_, rfl, HW.out.1, HW.out.2⟩

/-- A row of strings, read. -/
def RdS (w : World) (v : Value) (L : List ByteArray) : Prop := ∃ a cap, v = .slice a L.length cap ∧ L.length ≤ cap ∧ cap ≤ maxLen ∧ (0 < L.length → ∃ b, a = some ⟨b, 0, none⟩ ∧ b < w.heap.size ∧ ∀ i, i < L.length → w.cell? ⟨b, i, none⟩ = some (.string (L.getD i ⟨#[]⟩)))
theorem RdS.own {w : World} {base : Nat} {v : Value} {n : Nat} {L : List ByteArray} (h : w.ownsRow base 9 1 v n (L.map Value.string)) : RdS w v L := by
  have hn : n = L.length := by have := h.1; simp at this; exact this.symm
  subst hn
  have h' := h
  rcases h.2 with ⟨rfl, h0⟩ | ⟨g, cap, cur, rfl, hb, hg, hc1, hc2, rest⟩
  · exact ⟨none, 0, by rw [h0], by omega, by unfold maxLen; omega, fun hp => by omega⟩
  · refine ⟨_, cap, rfl, hc1, hc2, fun hp => ⟨g, rfl, (h'.lt g rfl).2, fun i hi => ?_⟩⟩
    have := h'.cells rfl i (.string (L.getD i ⟨#[]⟩)) (by rw [List.getElem?_map, List.getD_eq_getElem?_getD, List.getElem?_eq_getElem hi]; rfl)
    rw [Addr.add_mid, Nat.zero_add] at this
    exact this
theorem RdS.below {w w' : World} {v : Value} {L : List ByteArray} (h : RdS w v L) (hb : Below w.heap.size w w') : RdS w' v L := by
  obtain ⟨a, cap, h1, h2, h3, h4⟩ := h
  refine ⟨a, cap, h1, h2, h3, fun hp => ?_⟩
  obtain ⟨b, e, hlt, hc⟩ := h4 hp
  exact ⟨b, e, Nat.lt_of_lt_of_le hlt hb.size, fun i hi => (hb.cell (p := ⟨b, i, none⟩) hlt).trans (hc i hi)⟩

theorem longN_no (L : List ByteArray) (h0 : ¬ 40 < L.length) (h : ∀ j, j < L.length → ¬ 26 < (L.getD j ⟨#[]⟩).size) : Spl.longN L = false := by
  unfold Spl.longN
  simp only [Bool.or_eq_false_iff, decide_eq_false_iff_not, List.any_eq_false, decide_eq_true_eq]
  refine ⟨h0, fun x hx => ?_⟩
  obtain ⟨j, hj, rfl⟩ := List.getElem_of_mem hx
  have := h j hj
  rw [List.getD_eq_getElem?_getD, List.getElem?_eq_getElem hj] at this
  exact this
theorem longN_yes (L : List ByteArray) (k : Nat) (hk : k < L.length) (h : 26 < (L.getD k ⟨#[]⟩).size) : Spl.longN L = true := by
  unfold Spl.longN
  rw [Bool.or_eq_true]
  right
  rw [List.any_eq_true]
  refine ⟨L[k], List.getElem_mem _, ?_⟩
  rw [List.getD_eq_getElem?_getD, List.getElem?_eq_getElem hk] at h
  exact decide_eq_true h

theorem specLong_any (v : Value) (L : List ByteArray) (w : World) (h : RdS w v L) (hl : L.length ≤ 1000) :
    Calls Tryz.prog 51 #[v] w fun e w' => e = .returned (.bool (Spl.longN L)) ∧ w' = w := by
  obtain ⟨a, cap, rfl, hc1, hc2, hcell⟩ := h
  have hcap : cap ≤ 9223372036854775807 := hc2
  clear hc2
  by_cases h40 : 40 < L.length
  · have HR := hide (show Spl.longN L = true from by simp [Spl.longN, h40])
    clear hcell
    go_enter Tryz.func51, Tryz.ntmps51
    go_wp2
    go_ret
    exact ⟨ret_bool HR.out.symm, rfl⟩
  · have HC := hide hcell
    clear hcell
    go_enter Tryz.func51, Tryz.ntmps51
    go_wp2
    go_loop [10] (fun i => ∃ k : Nat, k ≤ L.length ∧ i = .int .i64 k ∧ ∀ j, j < k → ¬ 26 < (L.getD j ⟨#[]⟩).size) (fun i => L.length - (intOf i).toNat)
    case atStart => exact ⟨0, by omega, rfl, fun j hj => by omega⟩
    case round =>
      obtain ⟨k, hk, rfl, hall⟩ := hrel
      have HA := hide hall
      clear hall
      by_cases hlt : k < L.length
      · obtain ⟨b, rfl, hbw, hcc⟩ := HC.out (by omega)
        have c0 := hcc k hlt
        have HL := hide (longN_yes L k hlt)
        have HM := hide (show ¬ 26 < (L.getD k ⟨#[]⟩).size → ∀ j, j < k + 1 → ¬ 26 < (L.getD j ⟨#[]⟩).size from fun h j hj => by rcases Nat.lt_succ_iff_lt_or_eq.1 hj with h1 | h1; exact HA.out j h1; subst h1; exact h)
        generalize L.getD k ⟨#[]⟩ = x at c0 HL HM
        clear hcc
        by_cases h26 : 26 < x.size
        · have HR := hide (HL.out h26)
          go_wp2
          go_ret
          exact ⟨ret_bool HR.out.symm, rfl⟩
        · have HR := hide (HM.out h26)
          go_wp2
          go_round
          case rel => exact ⟨k + 1, by omega, by go_num, HR.out⟩
          case measure => simp [intOf]; omega
      · obtain rfl : k = L.length := by omega
        have HR := hide (longN_no L h40 HA.out)
        go_wp2
        go_ret
        exact ⟨ret_bool HR.out.symm, rfl⟩
end Go.Proofs.YtplieplmhdfndaaGreatDoor

namespace Go.Proofs.YtplieplmhdfndaaGreatDoor
open Go.Shelf
def lays144_ren : Go.Shelf.Ren := ⟨fun | 144 => 113 | 143 => 156 | 219 => 191 | 217 => 206 | 225 => 207 | 224 => 199 | 267 => 208 | 266 => 213 | 314 => 214 | n => n, fun | 9 => 9 | 4 => 4 | 3 => 3 | 5 => 5 | 46 => 108 | 146 => 284 | 51 => 213 | n => n, fun | 1 => 1 | n => n⟩
theorem lays144 : Go.Proofs.Lays.n144 Tryz.prog lays144_ren := {
  mixed := by kernel_rfl
  f143 := Tryz.func156.trans (congrArg some (by kernel_rfl))
  f144 := Tryz.func113.trans (congrArg some (by kernel_rfl))
  f217 := Tryz.func206.trans (congrArg some (by kernel_rfl))
  f219 := Tryz.func191.trans (congrArg some (by kernel_rfl))
  f224 := Tryz.func199.trans (congrArg some (by kernel_rfl))
  f225 := Tryz.func207.trans (congrArg some (by kernel_rfl))
  f266 := Tryz.func213.trans (congrArg some (by kernel_rfl))
  f267 := Tryz.func208.trans (congrArg some (by kernel_rfl))
  f314 := Tryz.func214.trans (congrArg some (by kernel_rfl))
  t3 := Tryz.underlying3
  a3 := Tryz.isAgg3
  z3 := Tryz.sizeOf3
  v3 := Tryz.zeroValue3
  t4 := Tryz.underlying4
  a4 := Tryz.isAgg4
  z4 := Tryz.sizeOf4
  v4 := Tryz.zeroValue4
  t5 := Tryz.underlying5
  a5 := Tryz.isAgg5
  z5 := Tryz.sizeOf5
  v5 := Tryz.zeroValue5
  t9 := Tryz.underlying9
  a9 := Tryz.isAgg9
  z9 := Tryz.sizeOf9
  v9 := Tryz.zeroValue9
  t46 := Tryz.underlying108
  a46 := Tryz.isAgg108
  z46 := Tryz.sizeOf108
  v46 := Tryz.zeroValue108
  t51 := Tryz.underlying213
  a51 := Tryz.isAgg213
  z51 := Tryz.sizeOf213
  v51 := Tryz.zeroValue213
  t146 := Tryz.underlying284
  a146 := Tryz.isAgg284
  z146 := Tryz.sizeOf284
  v146 := Tryz.zeroValue284
  g1 := by kernel_rfl }
open Go.RowKit Go.Lib in
theorem strings_Contains_one (s : ByteArray) (c : UInt8) (w : World) :
    Calls Tryz.prog 113 #[.string s, .string ⟨#[c]⟩] w fun e w' => e = .returned (.bool (decide (0 ≤ Lib.indexByte s.data.toList c))) ∧ w' = w := Any.strings_Contains_one lays144 s c w
def lays229_ren : Go.Shelf.Ren := ⟨fun | 229 => 157 | n => n, fun | 9 => 9 | 40 => 249 | 31 => 57 | 152 => 270 | 3 => 3 | 0 => 0 | 4 => 4 | 21 => 21 | 154 => 272 | n => n, fun | n => n⟩
theorem lays229 : Go.Proofs.Lays.n229 Tryz.prog lays229_ren := {
  mixed := by kernel_rfl
  f229 := Tryz.func157.trans (congrArg some (by kernel_rfl))
  t0 := Tryz.underlying0
  a0 := Tryz.isAgg0
  z0 := Tryz.sizeOf0
  v0 := Tryz.zeroValue0
  t3 := Tryz.underlying3
  a3 := Tryz.isAgg3
  z3 := Tryz.sizeOf3
  v3 := Tryz.zeroValue3
  t4 := Tryz.underlying4
  a4 := Tryz.isAgg4
  z4 := Tryz.sizeOf4
  v4 := Tryz.zeroValue4
  t9 := Tryz.underlying9
  a9 := Tryz.isAgg9
  z9 := Tryz.sizeOf9
  v9 := Tryz.zeroValue9
  t21 := Tryz.underlying21
  a21 := Tryz.isAgg21
  z21 := Tryz.sizeOf21
  v21 := Tryz.zeroValue21
  t31 := Tryz.underlying57
  a31 := Tryz.isAgg57
  z31 := Tryz.sizeOf57
  v31 := Tryz.zeroValue57
  t40 := Tryz.underlying249
  a40 := Tryz.isAgg249
  z40 := Tryz.sizeOf249
  v40 := Tryz.zeroValue249
  t152 := Tryz.underlying270
  a152 := Tryz.isAgg270
  z152 := Tryz.sizeOf270
  v152 := Tryz.zeroValue270
  t154 := Tryz.underlying272
  a154 := Tryz.isAgg272
  z154 := Tryz.sizeOf272
  v154 := Tryz.zeroValue272 }
open Go.RowKit Go.Lib in
theorem strings_FieldsFunc_grows (g : Nat) (lb : Array Value) (eg : ∀ args w, (callFunc g args).run Tryz.prog w = .ok (.enter g args) w) (p : Nat → Bool) (s : ByteArray) (w : World) (hs : s.size ≤ 4294967296) (hp : PredGrows Tryz.prog g lb p w) :
    Calls Tryz.prog 157 #[.string s, .func (.func g) #[] lb] w fun e w' => ∃ A, e = .returned (.slice (some ⟨A, 0, none⟩) (Lib.goFieldsP p s).length (Lib.goFieldsP p s).length) ∧ w.heap.size ≤ A ∧
      w'.ownsRow w.heap.size 9 1 (.slice (some ⟨A, 0, none⟩) (Lib.goFieldsP p s).length (Lib.goFieldsP p s).length) (Lib.goFieldsP p s).length ((Lib.goFieldsP p s).map Value.string) ∧ Below w.heap.size w w' := Any.strings_FieldsFunc_grows lays229 g lb eg p s w hs hp (by kernel_rfl) (by kernel_rfl)
end Go.Proofs.YtplieplmhdfndaaGreatDoor

namespace Go.Proofs.YtplieplmhdfndaaGreatDoor

end Go.Proofs.YtplieplmhdfndaaGreatDoor
