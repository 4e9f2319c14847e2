/- Slots of a directory: what their bytes tell (mathematics). -/
import Derived.Test.YtplieplmhdfndaaGreatDoorRows
import Derived.Test.YtplieplmhdfndaaGreatDoorZg07
import Derived.WalkKit
import Derived.WalkLawsBesides
import Derived.Test.YtplieplmhdfndaaGreatDoorZg04
import Derived.Test.YtplieplmhdfndaaGreatDoorZg06
import Derived.Laws.BytesArg
namespace Go.Proofs.YtplieplmhdfndaaGreatDoor.Chk
open Go.RowKit

/-- What both give, in the walk's words. -/
def chkS (s : ByteArray) : Int := if s.toList = [] ∨ s.toList = [46] ∨ s.toList = [46, 46] then 7 else if 26 < s.size then 12 else if anyBad s.data.toList = true then 7 else 0
theorem ret_int {k : IntKind} {a b : Int} (h : a = b) : Ending.returned (.int k a) = .returned (.int k b) := by rw [h]
theorem spell1 (s : ByteArray) (h : s.toList = []) : chkS s = 7 := by simp [chkS, h]
theorem spell2 (s : ByteArray) (h : s.toList = [46]) : chkS s = 7 := by simp [chkS, h]
theorem spell3 (s : ByteArray) (h : (s.toList.isEmpty = true ∨ (s.toList == [46]) = true) ∨ (s.toList == [46, 46]) = true) : chkS s = 7 := by
  unfold chkS
  rw [if_pos]
  rcases h with (h | h) | h
  · left; simpa using h
  · right; left; simpa using h
  · right; right; simpa using h
theorem spell_no (s : ByteArray) (h : (s.toList.isEmpty = false ∧ (s.toList == [46]) = false) ∧ (s.toList == [46, 46]) = false) : ¬ (s.toList = [] ∨ s.toList = [46] ∨ s.toList = [46, 46]) := by
  obtain ⟨⟨h1, h2⟩, h3⟩ := h
  simp at h1 h2 h3
  simp [h1, h2, h3]
theorem spell4 (s : ByteArray) (h : (s.toList.isEmpty = false ∧ (s.toList == [46]) = false) ∧ (s.toList == [46, 46]) = false) (h4 : (26 : Int) < (s.size : Int)) : chkS s = 12 := by
  unfold chkS
  rw [if_neg (spell_no s h), if_pos (by omega)]
theorem spell5 (s : ByteArray) (h : (s.toList.isEmpty = false ∧ (s.toList == [46]) = false) ∧ (s.toList == [46, 46]) = false) (h4 : (s.size : Int) ≤ 26) : chkS s = if anyBad s.data.toList = true then 7 else 0 := by
  unfold chkS
  rw [if_neg (spell_no s h), if_neg (by omega)]

theorem or_beq {a b c : Int} (h : (a == b) = true ∨ (a == c) = true) : a = b ∨ a = c := by simpa using h
theorem nor_beq {a b c : Int} (h : (a == b) = false ∧ (a == c) = false) : ¬ a = b ∧ ¬ a = c := by simpa using h
theorem hit_byte (s : ByteArray) (k : Nat) (hk : k < s.size) (h : (s[k].toNat : Int) = 47 ∨ (s[k].toNat : Int) = 0) : isBad s[k] = true := by
  rw [isBad_iff]; omega
theorem hit_byte2 (s : ByteArray) (k : Nat) (hk : k < s.size) (h : ((s[k].toNat : Int) == 47) = true ∨ ((s[k].toNat : Int) == 0) = true) : isBad s[k] = true :=
  hit_byte s k hk (or_beq h)
theorem step_byte (s : ByteArray) (k : Nat) (hk : k < s.size) (h0 : anyBad (s.data.toList.take k) = false) (h : ((s[k].toNat : Int) == 47) = false ∧ ((s[k].toNat : Int) == 0) = false) :
    anyBad (s.data.toList.take (k + 1)) = false := by
  rw [anyBad_snoc s k hk, h0]
  cases hb : isBad s[k] with
  | false => rfl
  | true => rw [isBad_iff] at hb; have := nor_beq h; omega

set_option maxHeartbeats 400000 in
theorem spec_any (s : ByteArray) (w : World) (hs : s.size ≤ maxLen) :
    Calls Tryz.prog 154 #[.string s] w fun e w' => e = .returned (.int .i64 (chkS s)) ∧ w' = w := by
  unfold maxLen at hs
  go_enter Tryz.func154, Tryz.ntmps154
  go_wp2
  · go_ret; exact ⟨ret_int (spell1 s ‹_›).symm, rfl⟩
  · go_ret; exact ⟨ret_int (spell2 s ‹_›).symm, rfl⟩
  · go_ret; exact ⟨ret_int (spell3 s ‹_›).symm, rfl⟩
  · go_ret; exact ⟨ret_int (spell4 s ‹_› ‹_›).symm, rfl⟩
  · have HF : Hid (chkS s = if anyBad s.data.toList = true then 7 else 0) := spell5 s ‹_› ‹_›
    go_loop [3] (fun i => ∃ k : Nat, k ≤ s.size ∧ i = .int .i64 k ∧ anyBad (s.data.toList.take k) = false) (fun i => s.size - (intOf i).toNat)
    case atStart => exact ⟨0, Nat.zero_le _, rfl, rfl⟩
    case round =>
      obtain ⟨k, hk, rfl, hb⟩ := hrel
      have HB : Hid (anyBad (s.data.toList.take k) = false) := hb
      clear hb
      by_cases hlt : k < s.size
      · go_wp2
        · go_ret
          exact ⟨ret_int (by rw [HF.out, anyBad_of_get s k hlt (hit_byte s k hlt (.inl ‹_›))]; simp), rfl⟩
        · go_ret
          exact ⟨ret_int (by rw [HF.out, anyBad_of_get s k hlt (hit_byte2 s k hlt ‹_›)]; simp), rfl⟩
        · go_round
          case rel => exact ⟨k + 1, by omega, by go_num, step_byte s k hlt HB.out ‹_›⟩
          case measure => simp [intOf]; omega
      · go_wp2
        go_ret
        have hb := HB.out
        rw [anyBad_end s k hlt] at hb
        exact ⟨ret_int (by rw [HF.out, hb]; simp), rfl⟩

set_option maxHeartbeats 400000 in
theorem impl_any (s : ByteArray) (w : World) (hs : s.size ≤ maxLen) :
    Calls Tryz.prog 139 #[.string s] w fun e w' => e = .returned (.int .i64 (chkS s)) ∧ (w' = w ∨ ∃ pos, w' = w.iter s pos) := by
  unfold maxLen at hs
  cases e1 : s.toList.isEmpty with
  | true =>
    go_enter Tryz.func139, Tryz.ntmps139
    go_wp2
    go_ret; exact ⟨ret_int (spell3 s (.inl (.inl e1))).symm, .inl rfl⟩
  | false =>
  cases e2 : s.toList == [46] with
  | true =>
    go_enter Tryz.func139, Tryz.ntmps139
    go_wp2
    go_ret; exact ⟨ret_int (spell3 s (.inl (.inr e2))).symm, .inl rfl⟩
  | false =>
  cases e3 : s.toList == [46, 46] with
  | true =>
    go_enter Tryz.func139, Tryz.ntmps139
    go_wp2
    go_ret; exact ⟨ret_int (spell3 s (.inr e3)).symm, .inl rfl⟩
  | false =>
  by_cases h26 : (26 : Int) < (s.size : Int)
  · go_enter Tryz.func139, Tryz.ntmps139
    go_wp2
    go_ret; exact ⟨ret_int (spell4 s ⟨⟨e1, e2⟩, e3⟩ h26).symm, .inl rfl⟩
  · replace h26 : (s.size : Int) ≤ 26 := by omega
    have HF : Hid (chkS s = if anyBad s.data.toList = true then 7 else 0) := spell5 s ⟨⟨e1, e2⟩, e3⟩ h26
    go_enter Tryz.func139, Tryz.ntmps139
    go_wp2
    go_loopw [4] (fun _ w' => ∃ pos : Nat, w' = w.iter s pos ∧ anyBad (s.data.toList.take pos) = false) (fun _ w' => s.size - w'.iterPos w.heap.size)
    case atStart => exact ⟨0, rfl, rfl⟩
    case round =>
      obtain ⟨pos, rfl, hb⟩ := hrel
      have HB : Hid (anyBad (s.data.toList.take pos) = false) := hb
      clear hb
      by_cases hp : pos < s.size
      · have hnx : ∀ ty, (Instr.next (.pointer (some ⟨w.heap.size, 0, none⟩)) true ty).run Tryz.prog (w.iter s pos) = _ := fun ty => run_next_any w s pos ty hp
        go_wp2
        · go_ret
          exact ⟨ret_int (by rw [HF.out, hit_rune s pos hp (.inl ‹_›)]; simp), .inr ⟨_, rfl⟩⟩
        · go_ret
          exact ⟨ret_int (by rw [HF.out, hit_rune s pos hp (or_beq ‹_›)]; simp), .inr ⟨_, rfl⟩⟩
        · have hwd := width_pos s pos hp
          go_roundw
          case rel =>
            exact ⟨_, rfl, step_rune s pos hp HB.out (nor_beq ‹_›).1 (nor_beq ‹_›).2⟩
          case measure => simp; omega
      · have hnx : ∀ ty, (Instr.next (.pointer (some ⟨w.heap.size, 0, none⟩)) true ty).run Tryz.prog (w.iter s pos) = _ := fun ty => run_next_end w s pos ty hp
        go_wp2
        go_ret
        have hb := HB.out
        rw [anyBad_end s pos hp] at hb
        exact ⟨ret_int (by rw [HF.out, hb]; simp), .inr ⟨_, rfl⟩⟩
end Go.Proofs.YtplieplmhdfndaaGreatDoor.Chk

namespace Go.Proofs.YtplieplmhdfndaaGreatDoor
set_option linter.unusedVariables false
set_option linter.unusedSimpArgs false
open Go.RowKit

/-- What a slot of 32 bytes tells. -/
def sIno (ps : List Int) : Nat := unle (ps.take 4)
def sKind (ps : List Int) : Nat := unle ((ps.drop 4).take 1)
def sLen (ps : List Int) : Nat := unle ((ps.drop 5).take 1)
def sName (ps : List Int) : ByteArray := strOfNums ((ps.drop 6).take (sLen ps))
def sRest (ps : List Int) : Bool := (ps.drop (6 + sLen ps)).all fun z => decide (z = 0)
def sZero (ps : List Int) : Bool := ps.all fun z => decide (z = 0)
def sRight (ps : List Int) : Bool := decide (sLen ps ≤ 26) && (sRest ps && (wi (sIno ps) 1 1000 && wi (sKind ps) 1 3 && (Chk.chkS (sName ps) == 0)))

/-- Two entries compared. -/
def entEq (n1 : ByteArray) (i1 k1 : Int) (n2 : ByteArray) (i2 k2 : Int) : Bool := (n1.toList == n2.toList) && ((i1 == i2) && ((k1 == k2) && true))

theorem unle_zeros : ∀ (l : List Int), (∀ z ∈ l, 0 ≤ z ∧ z < 256) → unle l = 0 → ∀ z ∈ l, z = 0
  | [], _, _, z, hz => by simp at hz
  | y :: ys, hb, h, z, hz => by
    simp only [unle] at h
    have hy := hb y (by simp)
    rcases List.mem_cons.mp hz with rfl | hz
    · omega
    · exact unle_zeros ys (fun u hu => hb u (List.mem_cons_of_mem _ hu)) (by omega) z hz
theorem unle_of_zeros : ∀ (l : List Int), (∀ z ∈ l, z = 0) → unle l = 0
  | [], _ => rfl
  | y :: ys, h => by
    simp only [unle, h y (by simp), unle_of_zeros ys (fun u hu => h u (List.mem_cons_of_mem _ hu))]
    rfl
theorem strOf_nil : strOfNums [] = ⟨#[]⟩ := rfl
theorem strOf_empty {xs : List Int} (h : (strOfNums xs).toList = []) : xs = [] := by
  rw [ByteArray.toList_eq, strOfNums_data] at h
  simpa using h
theorem slot_four (ps : List Int) : ps = ps.take 4 ++ ((ps.drop 4).take 1 ++ ((ps.drop 5).take 1 ++ ps.drop 6)) := by
  have h1 : ps.drop 5 = (ps.drop 5).take 1 ++ ps.drop 6 := by
    conv => lhs; rw [← List.take_append_drop 1 (ps.drop 5), List.drop_drop]
  have h2 : ps.drop 4 = (ps.drop 4).take 1 ++ ps.drop 5 := by
    conv => lhs; rw [← List.take_append_drop 1 (ps.drop 4), List.drop_drop]
  rw [← h1, ← h2, List.take_append_drop]
theorem sZero_iff (ps : List Int) : sZero ps = true ↔ ∀ z ∈ ps, z = 0 := by simp [sZero]
theorem sZero_parts {ps : List Int} (h : sZero ps = true) : sIno ps = 0 ∧ sKind ps = 0 ∧ sLen ps = 0 := by
  rw [sZero_iff] at h
  exact ⟨unle_of_zeros _ fun z hz => h z (List.mem_of_mem_take hz), unle_of_zeros _ fun z hz => h z (List.mem_of_mem_drop (List.mem_of_mem_take hz)), unle_of_zeros _ fun z hz => h z (List.mem_of_mem_drop (List.mem_of_mem_take hz))⟩
theorem sZero_not_right {ps : List Int} (h : sIno ps = 0) : sRight ps = false := by
  simp [sRight, h, wi]
theorem zero_of_parts {ps : List Int} (hbd : ∀ z ∈ ps, 0 ≤ z ∧ z < 256) (h1 : sIno ps = 0) (h2 : sKind ps = 0) (h3 : sLen ps = 0) : sZero ps = sRest ps := by
  have e1 := unle_zeros _ (fun z hz => hbd z (List.mem_of_mem_take hz)) h1
  have e2 := unle_zeros _ (fun z hz => hbd z (List.mem_of_mem_drop (List.mem_of_mem_take hz))) h2
  have e3 := unle_zeros _ (fun z hz => hbd z (List.mem_of_mem_drop (List.mem_of_mem_take hz))) h3
  have a1 : (ps.take 4).all (fun z => decide (z = 0)) = true := by simpa using e1
  have a2 : ((ps.drop 4).take 1).all (fun z => decide (z = 0)) = true := by simpa using e2
  have a3 : ((ps.drop 5).take 1).all (fun z => decide (z = 0)) = true := by simpa using e3
  unfold sRest
  rw [h3]
  have h : sZero ps = (ps.take 4 ++ ((ps.drop 4).take 1 ++ ((ps.drop 5).take 1 ++ ps.drop 6))).all (fun z => decide (z = 0)) := by rw [← slot_four]; rfl
  rw [h, List.all_append, List.all_append, List.all_append, a1, a2, a3]
  rfl
theorem entEq_iff (nm : ByteArray) (i k : Int) : entEq nm i k ⟨#[]⟩ 0 0 = true ↔ nm.toList = [] ∧ i = 0 ∧ k = 0 := by
  have h0 : (⟨#[]⟩ : ByteArray).toList = [] := by rw [ByteArray.toList_eq]
  simp [entEq, h0]
theorem slot_cases (ps : List Int) (hl : ps.length = 32) (hbd : ∀ z ∈ ps, 0 ≤ z ∧ z < 256) (x1 x2 x3 : Nat) (h1 : x1 = unle ((ps.drop 0).take 4)) (h2 : x2 = unle ((ps.drop 4).take 1)) (h3 : x3 = unle ((ps.drop 5).take 1)) (xs : List Int) (ok5 : Bool) (p5 : Nat)
    (hc : (x3 ≤ 26 ∧ xs = (ps.drop 6).take x3 ∧ ok5 = true ∧ p5 = 6 + x3) ∨ (26 < x3 ∧ xs = [] ∧ ok5 = false)) (nm : ByteArray) (hn : nm = strOfNums xs) (ok7 : Bool)
    (h7 : ok7 = (ok5 && (((ps.drop p5).take (32 - p5)).all (fun z => decide (z = 0)) && decide (ps.length = 32)))) :
    (entEq nm x1 x2 ⟨#[]⟩ 0 0 = true → ok7 = (sZero ps || sRight ps) ∧ sRight ps = false ∧ (nm = ⟨#[]⟩ ∧ (x1 : Int) = 0 ∧ (x2 : Int) = 0)) ∧
    (entEq nm x1 x2 ⟨#[]⟩ 0 0 = false → (ok7 && (wi x1 1 1000 && wi x2 1 3) && decide (Chk.chkS nm = 0)) = (sZero ps || sRight ps) ∧ sZero ps = false ∧ (sRight ps = true → nm = sName ps ∧ (x1 : Int) = sIno ps ∧ (x2 : Int) = sKind ps)) := by
  have g1 : x1 = sIno ps := by rw [h1]; rfl
  have g2 : x2 = sKind ps := h2
  have g3 : x3 = sLen ps := h3
  have hok : ok7 = (decide (sLen ps ≤ 26) && sRest ps) := by
    rw [h7]
    rcases hc with ⟨ha, _, rfl, rfl⟩ | ⟨ha, _, rfl⟩
    · have e : (ps.drop (6 + x3)).take (32 - (6 + x3)) = ps.drop (6 + x3) := List.take_of_length_le (by rw [List.length_drop, hl]; exact Nat.le_refl _)
      rw [e, g3]
      have : sLen ps ≤ 26 := g3 ▸ ha
      simp [sRest, this, hl]
    · have : ¬ sLen ps ≤ 26 := by omega
      simp [this]
  have hnm : sLen ps ≤ 26 → nm = sName ps := by
    intro h
    rcases hc with ⟨ha, rfl, _, _⟩ | ⟨ha, _, _⟩
    · rw [hn, g3]; rfl
    · omega
  constructor
  · intro he
    obtain ⟨e1, e2, e3⟩ := (entEq_iff _ _ _).mp he
    have hx : xs = [] := strOf_empty (by rw [← hn]; exact e1)
    have hi : sIno ps = 0 := by omega
    have hk : sKind ps = 0 := by omega
    refine ⟨?_, sZero_not_right hi, by rw [hn, hx]; exact strOf_nil, e2, e3⟩
    rw [sZero_not_right hi, Bool.or_false, hok]
    rcases hc with ⟨ha, hxs, _, _⟩ | ⟨ha, _, _⟩
    · have hlen : x3 = 0 := by
        have := congrArg List.length (hxs.symm.trans hx)
        rw [List.length_take, List.length_drop, hl] at this
        simp at this
        omega
      have hz : sLen ps = 0 := by omega
      rw [zero_of_parts hbd hi hk hz, hz]
      rfl
    · have hz : sZero ps = false := by
        cases h : sZero ps with
        | false => rfl
        | true => have := (sZero_parts h).2.2; omega
      have : ¬ sLen ps ≤ 26 := by omega
      rw [hz]
      simp [this]
  · intro he
    have hz : sZero ps = false := by
      cases h : sZero ps with
      | false => rfl
      | true =>
        obtain ⟨q1, q2, q3⟩ := sZero_parts h
        have hx : xs = [] := by
          rcases hc with ⟨ha, hxs, _, _⟩ | ⟨ha, hxs, _⟩
          · rw [hxs, g3, q3]; rfl
          · exact hxs
        rw [(entEq_iff _ _ _).mpr ⟨by rw [hn, hx, strOf_nil, ByteArray.toList_eq], by rw [g1, q1]; rfl, by rw [g2, q2]; rfl⟩] at he
        cases he
    refine ⟨?_, hz, ?_⟩
    · rw [hz, Bool.false_or, hok, g1, g2]
      unfold sRight
      by_cases hL : sLen ps ≤ 26
      · rw [hnm hL]
        have e : decide (Chk.chkS (sName ps) = 0) = (Chk.chkS (sName ps) == 0) := by
          by_cases h : Chk.chkS (sName ps) = 0 <;> simp [h]
        rw [e]
        simp only [Bool.and_assoc]
      · simp [hL]
    · intro h
      have hL : sLen ps ≤ 26 := by
        simp only [sRight, Bool.and_eq_true, decide_eq_true_eq] at h
        exact h.1
      exact ⟨hnm hL, by rw [g1], by rw [g2]⟩
end Go.Proofs.YtplieplmhdfndaaGreatDoor
