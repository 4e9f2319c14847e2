import Derived.Test.YtcciaojdceejcaaDoorRows
import Derived.Test.YtcciaojdceejcaaDoorChkMath
import Derived.WalkKit
import Derived.WalkLawsBesides
namespace Go.Proofs.YtcciaojdceejcaaDoor.Chk
open Go.RowKit

/-- What both give, in the walk's words. -/
def chkS (s : ByteArray) : Int := if s.toList = [] ∨ s.toList = [46] ∨ s.toList = [46, 46] then 7 else if 26 < s.size then 12 else if anyBad s.data.toList = true then 7 else 0
theorem ret_int {k : IntKind} {a b : Int} (h : a = b) : Ending.returned (.int k a) = .returned (.int k b) := by rw [h]
theorem spell1 (s : ByteArray) (h : s.toList = []) : chkS s = 7 := by simp [chkS, h]
theorem spell2 (s : ByteArray) (h : s.toList = [46]) : chkS s = 7 := by simp [chkS, h]
theorem spell3 (s : ByteArray) (h : (s.toList.isEmpty = true ∨ (s.toList == [46]) = true) ∨ (s.toList == [46, 46]) = true) : chkS s = 7 := by
  unfold chkS
  rw [if_pos]
  rcases h with (h | h) | h
  · left; simpa using h
  · right; left; simpa using h
  · right; right; simpa using h
theorem spell_no (s : ByteArray) (h : (s.toList.isEmpty = false ∧ (s.toList == [46]) = false) ∧ (s.toList == [46, 46]) = false) : ¬ (s.toList = [] ∨ s.toList = [46] ∨ s.toList = [46, 46]) := by
  obtain ⟨⟨h1, h2⟩, h3⟩ := h
  simp at h1 h2 h3
  simp [h1, h2, h3]
theorem spell4 (s : ByteArray) (h : (s.toList.isEmpty = false ∧ (s.toList == [46]) = false) ∧ (s.toList == [46, 46]) = false) (h4 : (26 : Int) < (s.size : Int)) : chkS s = 12 := by
  unfold chkS
  rw [if_neg (spell_no s h), if_pos (by omega)]
theorem spell5 (s : ByteArray) (h : (s.toList.isEmpty = false ∧ (s.toList == [46]) = false) ∧ (s.toList == [46, 46]) = false) (h4 : (s.size : Int) ≤ 26) : chkS s = if anyBad s.data.toList = true then 7 else 0 := by
  unfold chkS
  rw [if_neg (spell_no s h), if_neg (by omega)]

theorem or_beq {a b c : Int} (h : (a == b) = true ∨ (a == c) = true) : a = b ∨ a = c := by simpa using h
theorem nor_beq {a b c : Int} (h : (a == b) = false ∧ (a == c) = false) : ¬ a = b ∧ ¬ a = c := by simpa using h
theorem hit_byte (s : ByteArray) (k : Nat) (hk : k < s.size) (h : (s[k].toNat : Int) = 47 ∨ (s[k].toNat : Int) = 0) : isBad s[k] = true := by
  rw [isBad_iff]; omega
theorem hit_byte2 (s : ByteArray) (k : Nat) (hk : k < s.size) (h : ((s[k].toNat : Int) == 47) = true ∨ ((s[k].toNat : Int) == 0) = true) : isBad s[k] = true :=
  hit_byte s k hk (or_beq h)
theorem step_byte (s : ByteArray) (k : Nat) (hk : k < s.size) (h0 : anyBad (s.data.toList.take k) = false) (h : ((s[k].toNat : Int) == 47) = false ∧ ((s[k].toNat : Int) == 0) = false) :
    anyBad (s.data.toList.take (k + 1)) = false := by
  rw [anyBad_snoc s k hk, h0]
  cases hb : isBad s[k] with
  | false => rfl
  | true => rw [isBad_iff] at hb; have := nor_beq h; omega

set_option maxHeartbeats 400000 in
theorem spec_any (s : ByteArray) (w : World) (hs : s.size ≤ maxLen) :
    Calls Tryd.prog 20 #[.string s] w fun e w' => e = .returned (.int .i64 (chkS s)) ∧ w' = w := by
  unfold maxLen at hs
  go_enter Tryd.func20, Tryd.ntmps20
  go_wp2
  · go_ret; exact ⟨ret_int (spell1 s ‹_›).symm, rfl⟩
  · go_ret; exact ⟨ret_int (spell2 s ‹_›).symm, rfl⟩
  · go_ret; exact ⟨ret_int (spell3 s ‹_›).symm, rfl⟩
  · go_ret; exact ⟨ret_int (spell4 s ‹_› ‹_›).symm, rfl⟩
  · have HF : Hid (chkS s = if anyBad s.data.toList = true then 7 else 0) := spell5 s ‹_› ‹_›
    go_loop [3] (fun i => ∃ k : Nat, k ≤ s.size ∧ i = .int .i64 k ∧ anyBad (s.data.toList.take k) = false) (fun i => s.size - (intOf i).toNat)
    case atStart => exact ⟨0, Nat.zero_le _, rfl, rfl⟩
    case round =>
      obtain ⟨k, hk, rfl, hb⟩ := hrel
      have HB : Hid (anyBad (s.data.toList.take k) = false) := hb
      clear hb
      by_cases hlt : k < s.size
      · go_wp2
        · go_ret
          exact ⟨ret_int (by rw [HF.out, anyBad_of_get s k hlt (hit_byte s k hlt (.inl ‹_›))]; simp), rfl⟩
        · go_ret
          exact ⟨ret_int (by rw [HF.out, anyBad_of_get s k hlt (hit_byte2 s k hlt ‹_›)]; simp), rfl⟩
        · go_round
          case rel => exact ⟨k + 1, by omega, by go_num, step_byte s k hlt HB.out ‹_›⟩
          case measure => simp [intOf]; omega
      · go_wp2
        go_ret
        have hb := HB.out
        rw [anyBad_end s k hlt] at hb
        exact ⟨ret_int (by rw [HF.out, hb]; simp), rfl⟩

theorem frozen_iter (w : World) (s : ByteArray) (pos : Nat) (a : Addr) : (w.iter s pos).frozen? a = w.frozen? a := by
  by_cases h : a.block = w.heap.size
  · have e1 : (w.iter s pos).heap[a.block]? = some (.stringIter s pos) := by rw [h]; exact World.iter_heap w s pos
    have e2 : w.heap[a.block]? = none := by rw [h]; simp
    simp [World.frozen?, e1, e2]
  · have e1 : (w.iter s pos).heap[a.block]? = w.heap[a.block]? := by
      show (w.heap.push (Obj.stringIter s pos))[a.block]? = _
      rw [Array.getElem?_push]; simp [h]
    simp [World.frozen?, e1]
theorem grown_iter (w : World) (s : ByteArray) (pos : Nat) : Grown w (w.iter s pos) := ⟨World.keptBut_alloc w _ _, frozen_iter w s pos, by simp [World.iter]⟩

set_option maxHeartbeats 400000 in
theorem impl_any (s : ByteArray) (w : World) (hs : s.size ≤ maxLen) :
    Calls Tryd.prog 39 #[.string s] w fun e w' => e = .returned (.int .i64 (chkS s)) ∧ (w' = w ∨ ∃ pos, w' = w.iter s pos) := by
  unfold maxLen at hs
  cases e1 : s.toList.isEmpty with
  | true =>
    go_enter Tryd.func39, Tryd.ntmps39
    go_wp2
    go_ret; exact ⟨ret_int (spell3 s (.inl (.inl e1))).symm, .inl rfl⟩
  | false =>
  cases e2 : s.toList == [46] with
  | true =>
    go_enter Tryd.func39, Tryd.ntmps39
    go_wp2
    go_ret; exact ⟨ret_int (spell3 s (.inl (.inr e2))).symm, .inl rfl⟩
  | false =>
  cases e3 : s.toList == [46, 46] with
  | true =>
    go_enter Tryd.func39, Tryd.ntmps39
    go_wp2
    go_ret; exact ⟨ret_int (spell3 s (.inr e3)).symm, .inl rfl⟩
  | false =>
  by_cases h26 : (26 : Int) < (s.size : Int)
  · go_enter Tryd.func39, Tryd.ntmps39
    go_wp2
    go_ret; exact ⟨ret_int (spell4 s ⟨⟨e1, e2⟩, e3⟩ h26).symm, .inl rfl⟩
  · replace h26 : (s.size : Int) ≤ 26 := by omega
    have HF : Hid (chkS s = if anyBad s.data.toList = true then 7 else 0) := spell5 s ⟨⟨e1, e2⟩, e3⟩ h26
    go_enter Tryd.func39, Tryd.ntmps39
    go_wp2
    go_loopw [4] (fun _ w' => ∃ pos : Nat, w' = w.iter s pos ∧ anyBad (s.data.toList.take pos) = false) (fun _ w' => s.size - w'.iterPos w.heap.size)
    case atStart => exact ⟨0, rfl, rfl⟩
    case round =>
      obtain ⟨pos, rfl, hb⟩ := hrel
      have HB : Hid (anyBad (s.data.toList.take pos) = false) := hb
      clear hb
      by_cases hp : pos < s.size
      · have hnx : ∀ ty, (Instr.next (.pointer (some ⟨w.heap.size, 0, none⟩)) true ty).run Tryd.prog (w.iter s pos) = _ := fun ty => run_next_any w s pos ty hp
        go_wp2
        · go_ret
          exact ⟨ret_int (by rw [HF.out, hit_rune s pos hp (.inl ‹_›)]; simp), .inr ⟨_, rfl⟩⟩
        · go_ret
          exact ⟨ret_int (by rw [HF.out, hit_rune s pos hp (or_beq ‹_›)]; simp), .inr ⟨_, rfl⟩⟩
        · have hwd := width_pos s pos hp
          go_roundw
          case rel =>
            exact ⟨_, rfl, step_rune s pos hp HB.out (nor_beq ‹_›).1 (nor_beq ‹_›).2⟩
          case measure => simp; omega
      · have hnx : ∀ ty, (Instr.next (.pointer (some ⟨w.heap.size, 0, none⟩)) true ty).run Tryd.prog (w.iter s pos) = _ := fun ty => run_next_end w s pos ty hp
        go_wp2
        go_ret
        have hb := HB.out
        rw [anyBad_end s pos hp] at hb
        exact ⟨ret_int (by rw [HF.out, hb]; simp), .inr ⟨_, rfl⟩⟩
end Go.Proofs.YtcciaojdceejcaaDoor.Chk
