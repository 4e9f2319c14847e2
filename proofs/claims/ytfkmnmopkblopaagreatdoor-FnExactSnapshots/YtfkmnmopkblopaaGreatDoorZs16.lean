/- The root of a table of inodes: l02TableSize of the model, tableRootFault of the program. The program's look at a snapshot: snapFault. Two owned rows that lie apart. The law on EncodeRoot, walked: it answers true and turns nothing that was there. -/
import Derived.Test.YtfkmnmopkblopaaGreatDoorZs10
import Derived.WalkKit
import Derived.Laws.RangeAny
import Derived.Test.YtfkmnmopkblopaaGreatDoorRows
import Derived.WalkLawsBesides
import Derived.Test.YtfkmnmopkblopaaGreatDoorZs01
import Derived.Test.YtfkmnmopkblopaaGreatDoorZs11
namespace Go.Proofs.YtfkmnmopkblopaaGreatDoor
set_option linter.unusedVariables false
set_option linter.unusedSimpArgs false
open Go.RowKit

def tabB (s : Int) : Bool := decide (256 ≤ s) && (s % 128 == 0) && decide (s ≤ 128128)
theorem tableSize_any (s : Int) (w : World) : Calls Tryz.prog 38 #[.int .i64 s] w fun e w' => e = .returned (.bool (tabB s)) ∧ w = w' := by
  by_cases h1 : 256 ≤ s
  · cases h2 : (s % 128 == 0) with
    | true =>
      have HR := hide (show tabB s = decide (s ≤ 128128) from by unfold tabB; rw [h2, decide_eq_true h1]; rfl)
      go_enter Tryz.func38, Tryz.ntmps38
      go_wp2
      go_ret
      exact ⟨ret_bool (by rw [HR.out]), rfl⟩
    | false =>
      have HR := hide (show tabB s = false from by unfold tabB; rw [h2, decide_eq_true h1]; rfl)
      go_enter Tryz.func38, Tryz.ntmps38
      go_wp2
      go_ret
      exact ⟨ret_bool (by rw [HR.out]), rfl⟩
  · have hq : decide (256 ≤ s) = false := by simp [h1]
    have HR := hide (show tabB s = false from by unfold tabB; rw [hq]; rfl)
    go_enter Tryz.func38, Tryz.ntmps38
    go_wp2
    go_ret
    exact ⟨ret_bool (by rw [HR.out]), rfl⟩
theorem tab_order (r : Bool) (s : Int) : (true && r && (decide (256 ≤ s) && decide (s ≤ 128128)) && (s % 128 == 0)) = (r && tabB s) := by
  unfold tabB
  cases r <;> cases decide (256 ≤ s) <;> cases decide (s ≤ 128128) <;> cases (s % 128 == 0) <;> rfl
theorem tab_neg (r b : Bool) (s : Int) (h : s < 0) : (true && r && (decide (256 ≤ s) && decide (s ≤ 128128)) && b) = (r && tabB s) := by
  unfold tabB
  rw [decide_eq_false (show ¬ 256 ≤ s by omega)]
  cases r <;> cases b <;> cases decide (s ≤ 128128) <;> cases (s % 128 == 0) <;> rfl

set_option maxRecDepth 100000 in
set_option maxHeartbeats 1000000 in
theorem tableFault_any (s : Int) (ds : List Int) (p q code : Int) (w : World) (hd : ds.length = 12) :
    Calls Tryz.prog 73 #[.agg (cellsI (rootI s ds p q)), .int .i64 code] w fun e w' => ∃ ev, e = .returned ev ∧ FaultIs w' w.heap.size (rightR s ds p q && tabB s) ev code ∧ Below w.heap.size w w' := by
  have HD := hide hd
  have HZ := hide (show (cellsI (rootI s ds p q)).size = 15 from by rw [cellsI_size]; exact rootI_len s ds p q HD.out)
  have kB := (Blk.new w (cellsI (rootI s ds p q)) 34).alloc (.cells #[.int .i64 code, .nilIface] 88)
  have kC := Ck.fresh (w.alloc (.cells (cellsI (rootI s ds p q)) 34)) code 88
  rw [World.size_alloc] at kC
  have hb0 : Below w.heap.size w ((w.alloc (.cells (cellsI (rootI s ds p q)) 34)).alloc (.cells #[.int .i64 code, .nilIface] 88)) := ((Below.refl _ _).alloc (Nat.le_refl _) _).alloc (by simp) _
  have H0 := hide (show Kp w ((w.alloc (.cells (cellsI (rootI s ds p q)) 34)).alloc (.cells #[.int .i64 code, .nilIface] 88)) (cellsI (rootI s ds p q)) 34 code true from ⟨kB, kC, hb0⟩)
  clear hd kB kC hb0
  go_enter Tryz.func73, Tryz.ntmps73
  go_wp2_with (first | (refine wpList_load_row rfl 34 _ rfl w.heap.size rfl 34 (cellsI (rootI s ds p q)) (0, 0) _ H0.out.blk Tryz.underlying34 rfl (by rw [HZ.out]; exact info15) ?_) | (go_at_call 75; fail))
  refine (rootFault_any s ds p q code _ HD.out).mono ?_
  rintro e w1 ⟨ev1, rfl, hf1, hb1⟩
  have H1 := hide (And.intro (H0.out.below hb1) (And.intro hf1 (And.intro H0.out.lo hb1.size)))
  clear hf1 hb1
  go_wp2_with fail
  refine (inside_fault w _ w1 _ _ code _ _ _ ev1 H1.out.1 H1.out.2.2.1 H1.out.2.2.2 H1.out.2.1).mono ?_
  rintro e w2 ⟨rfl, hk2⟩
  have H2 := hide hk2
  have c2 := (H2.out.blk.cell 0).trans (show (cellsI (rootI s ds p q))[0]? = some (.int .i64 s) from rfl)
  clear hk2 H1 H0
  go_wp2_with (go_at_call 70; fail)
  refine (within_any (w.heap.size + 1) (w.heap.size + 1 + 1) _ code s 256 128128 _ _ H2.out.ck (by omega) H2.out.lo).mono ?_
  rintro e w3 ⟨rfl, hc3, ht3⟩
  have H3 := hide (H2.out.tch hc3 ht3)
  have c3 := (H3.out.blk.cell 0).trans (show (cellsI (rootI s ds p q))[0]? = some (.int .i64 s) from rfl)
  clear hc3 ht3 H2 c2
  by_cases hs : 0 ≤ s
  · go_wp2_with (go_at_call 32; fail)
    refine (need_any (w.heap.size + 1) (w.heap.size + 1 + 1) _ code _ (s % 128 == 0) _ H3.out.ck (by omega) H3.out.lo).mono ?_
    rintro e w4 ⟨rfl, hc4, ht4⟩
    have H4 := hide (H3.out.tch hc4 ht4)
    obtain ⟨ev, c4, hf4⟩ := H4.out.fault
    have HV := hide (show FaultIs w4 w.heap.size (rightR s ds p q && tabB s) ev code from by rw [← tab_order]; exact hf4)
    clear hc4 ht4 hf4 H3 c3
    go_wp2
    go_ret
    exact ⟨ev, rfl, HV.out, H4.out.old⟩
  · have hneg : s < 0 := by omega
    go_wp2_with (go_at_call 32; fail)
    refine (need_any (w.heap.size + 1) (w.heap.size + 1 + 1) _ code _ _ _ H3.out.ck (by omega) H3.out.lo).mono ?_
    rintro e w4 ⟨rfl, hc4, ht4⟩
    have H4 := hide (H3.out.tch hc4 ht4)
    obtain ⟨ev, c4, hf4⟩ := H4.out.fault
    have HV := hide (show FaultIs w4 w.heap.size (rightR s ds p q && tabB s) ev code from by rw [← tab_neg _ _ _ hneg]; exact hf4)
    clear hc4 ht4 hf4 H3 c3
    go_wp2
    go_ret
    exact ⟨ev, rfl, HV.out, H4.out.old⟩
end Go.Proofs.YtfkmnmopkblopaaGreatDoor

namespace Go.Proofs.YtfkmnmopkblopaaGreatDoor.Chk
open Go

def isBad (b : UInt8) : Bool := b == 47 || b == 0
def anyBad (l : List UInt8) : Bool := l.any isBad
def chk (l : List UInt8) : Int := if l = [] ∨ l = [46] ∨ l = [46, 46] then 7 else if 26 < l.length then 12 else if anyBad l = true then 7 else 0

theorem isBad_iff (b : UInt8) : isBad b = true ↔ b.toNat = 47 ∨ b.toNat = 0 := by
  unfold isBad
  simp only [Bool.or_eq_true, beq_iff_eq]
  constructor
  · rintro (rfl | rfl) <;> simp
  · rintro (h | h)
    · left; exact UInt8.toNat_inj.mp (by simpa using h)
    · right; exact UInt8.toNat_inj.mp (by simpa using h)

theorem anyBad_snoc (s : ByteArray) (k : Nat) (h : k < s.size) : anyBad (s.data.toList.take (k + 1)) = (anyBad (s.data.toList.take k) || isBad s[k]) := by
  unfold anyBad
  rw [List.take_succ_eq_append_getElem (by simpa using h)]
  simp
  rfl

theorem anyBad_of_get (s : ByteArray) (k : Nat) (h : k < s.size) (hb : isBad s[k] = true) : anyBad s.data.toList = true := by
  unfold anyBad
  rw [List.any_eq_true]
  exact ⟨s[k], by simp [ByteArray.getElem_eq_getElem_data], hb⟩

theorem anyBad_end (s : ByteArray) (k : Nat) (h : ¬ k < s.size) : anyBad (s.data.toList.take k) = anyBad s.data.toList := by
  rw [List.take_of_length_le]
  simp; simpa using h

theorem get_k (s : ByteArray) (p : Nat) (h : p < s.size) : s.get! p = s[p]'h := by
  simp [ByteArray.get!, getElem!_pos, h]
  rfl

/-- Bytes that a rune of more than a byte takes are all high. -/
theorem decode_cont (s : ByteArray) (pos : Nat) (h : pos < s.size) (ha : 128 ≤ (s[pos]'h).toNat) (j : Nat) (hj : j < (Utf8.decode s pos).2) :
    ∃ hp : pos + j < s.size, 128 ≤ (s[pos + j]'hp).toNat := by
  by_cases hj0 : j = 0
  · subst hj0; exact ⟨h, ha⟩
  have key : pos + j < s.size ∧ (s.get! (pos + j)).toNat / 64 = 2 := by
    have hn : ¬ (s[pos]'h).toNat < 128 := by omega
    simp only [Utf8.decode, get_at s pos h, hn, if_false] at hj
    repeat' split at hj
    all_goals simp_all
    all_goals first | omega | skip
    · obtain rfl : j = 1 := by omega
      simp_all
    · have : j = 1 ∨ j = 2 := by omega
      rcases this with rfl | rfl <;> simp_all
    · have : j = 1 ∨ j = 2 ∨ j = 3 := by omega
      rcases this with rfl | rfl | rfl <;> simp_all
  refine ⟨key.1, ?_⟩
  have := key.2
  rw [get_k s _ key.1] at this
  omega

theorem isBad_high (b : UInt8) (h : 128 ≤ b.toNat) : isBad b = false := by
  cases hb : isBad b with
  | false => rfl
  | true => rw [isBad_iff] at hb; omega

theorem anyBad_more (s : ByteArray) (pos n : Nat) (h0 : anyBad (s.data.toList.take pos) = false) (h : ∀ j, j < n → ∃ hp : pos + j < s.size, isBad (s[pos + j]'hp) = false) :
    anyBad (s.data.toList.take (pos + n)) = false := by
  induction n with
  | zero => exact h0
  | succ n ih =>
    obtain ⟨hp, hb⟩ := h n (by omega)
    rw [← Nat.add_assoc, anyBad_snoc s (pos + n) hp, ih (fun j hj => h j (by omega)), hb]
    rfl

/-- One rune that is neither of the two leads on. -/
theorem step_rune (s : ByteArray) (pos : Nat) (hp : pos < s.size) (h0 : anyBad (s.data.toList.take pos) = false)
    (h1 : ¬ ((Utf8.decode s pos).1 : Int) = 47) (h2 : ¬ ((Utf8.decode s pos).1 : Int) = 0) : anyBad (s.data.toList.take (pos + (Utf8.decode s pos).2)) = false := by
  by_cases ha : (s[pos]'hp).toNat < 128
  · rw [decode_ascii s pos hp ha] at h1 h2 ⊢
    rw [anyBad_snoc s pos hp, h0]
    cases hb : isBad (s[pos]'hp) with
    | false => rfl
    | true => rw [isBad_iff] at hb; simp at h1 h2; omega
  · refine anyBad_more s pos _ h0 fun j hj => ?_
    obtain ⟨q, hq⟩ := decode_cont s pos hp (by omega) j hj
    exact ⟨q, isBad_high _ hq⟩

/-- One of the two is a bad byte there. -/
theorem hit_rune (s : ByteArray) (pos : Nat) (hp : pos < s.size) (h : ((Utf8.decode s pos).1 : Int) = 47 ∨ ((Utf8.decode s pos).1 : Int) = 0) : anyBad s.data.toList = true := by
  by_cases ha : (s[pos]'hp).toNat < 128
  · rw [decode_ascii s pos hp ha] at h
    refine anyBad_of_get s pos hp ?_
    rw [isBad_iff]; simp at h; omega
  · have := (decode_high s pos hp (by omega)).1; omega

theorem width_pos (s : ByteArray) (pos : Nat) (h : pos < s.size) : 1 ≤ (Utf8.decode s pos).2 := by
  by_cases ha : (s[pos]'h).toNat < 128
  · rw [decode_ascii s pos h ha]
    exact Nat.le_refl _
  · exact (decode_high s pos h (by omega)).2
end Go.Proofs.YtfkmnmopkblopaaGreatDoor.Chk

namespace Go.Proofs.YtfkmnmopkblopaaGreatDoor.Chk
open Go.RowKit

/-- What both give, in the walk's words. -/
def chkS (s : ByteArray) : Int := if s.toList = [] ∨ s.toList = [46] ∨ s.toList = [46, 46] then 7 else if 26 < s.size then 12 else if anyBad s.data.toList = true then 7 else 0
theorem ret_int {k : IntKind} {a b : Int} (h : a = b) : Ending.returned (.int k a) = .returned (.int k b) := by rw [h]
theorem spell1 (s : ByteArray) (h : s.toList = []) : chkS s = 7 := by simp [chkS, h]
theorem spell2 (s : ByteArray) (h : s.toList = [46]) : chkS s = 7 := by simp [chkS, h]
theorem spell3 (s : ByteArray) (h : (s.toList.isEmpty = true ∨ (s.toList == [46]) = true) ∨ (s.toList == [46, 46]) = true) : chkS s = 7 := by
  unfold chkS
  rw [if_pos]
  rcases h with (h | h) | h
  · left; simpa using h
  · right; left; simpa using h
  · right; right; simpa using h
theorem spell_no (s : ByteArray) (h : (s.toList.isEmpty = false ∧ (s.toList == [46]) = false) ∧ (s.toList == [46, 46]) = false) : ¬ (s.toList = [] ∨ s.toList = [46] ∨ s.toList = [46, 46]) := by
  obtain ⟨⟨h1, h2⟩, h3⟩ := h
  simp at h1 h2 h3
  simp [h1, h2, h3]
theorem spell4 (s : ByteArray) (h : (s.toList.isEmpty = false ∧ (s.toList == [46]) = false) ∧ (s.toList == [46, 46]) = false) (h4 : (26 : Int) < (s.size : Int)) : chkS s = 12 := by
  unfold chkS
  rw [if_neg (spell_no s h), if_pos (by omega)]
theorem spell5 (s : ByteArray) (h : (s.toList.isEmpty = false ∧ (s.toList == [46]) = false) ∧ (s.toList == [46, 46]) = false) (h4 : (s.size : Int) ≤ 26) : chkS s = if anyBad s.data.toList = true then 7 else 0 := by
  unfold chkS
  rw [if_neg (spell_no s h), if_neg (by omega)]

theorem or_beq {a b c : Int} (h : (a == b) = true ∨ (a == c) = true) : a = b ∨ a = c := by simpa using h
theorem nor_beq {a b c : Int} (h : (a == b) = false ∧ (a == c) = false) : ¬ a = b ∧ ¬ a = c := by simpa using h
theorem hit_byte (s : ByteArray) (k : Nat) (hk : k < s.size) (h : (s[k].toNat : Int) = 47 ∨ (s[k].toNat : Int) = 0) : isBad s[k] = true := by
  rw [isBad_iff]; omega
theorem hit_byte2 (s : ByteArray) (k : Nat) (hk : k < s.size) (h : ((s[k].toNat : Int) == 47) = true ∨ ((s[k].toNat : Int) == 0) = true) : isBad s[k] = true :=
  hit_byte s k hk (or_beq h)
theorem step_byte (s : ByteArray) (k : Nat) (hk : k < s.size) (h0 : anyBad (s.data.toList.take k) = false) (h : ((s[k].toNat : Int) == 47) = false ∧ ((s[k].toNat : Int) == 0) = false) :
    anyBad (s.data.toList.take (k + 1)) = false := by
  rw [anyBad_snoc s k hk, h0]
  cases hb : isBad s[k] with
  | false => rfl
  | true => rw [isBad_iff] at hb; have := nor_beq h; omega

set_option maxHeartbeats 400000 in
theorem spec_any (s : ByteArray) (w : World) (hs : s.size ≤ maxLen) :
    Calls Tryz.prog 36 #[.string s] w fun e w' => e = .returned (.int .i64 (chkS s)) ∧ w' = w := by
  unfold maxLen at hs
  go_enter Tryz.func36, Tryz.ntmps36
  go_wp2
  · go_ret; exact ⟨ret_int (spell1 s ‹_›).symm, rfl⟩
  · go_ret; exact ⟨ret_int (spell2 s ‹_›).symm, rfl⟩
  · go_ret; exact ⟨ret_int (spell3 s ‹_›).symm, rfl⟩
  · go_ret; exact ⟨ret_int (spell4 s ‹_› ‹_›).symm, rfl⟩
  · have HF : Hid (chkS s = if anyBad s.data.toList = true then 7 else 0) := spell5 s ‹_› ‹_›
    go_loop [3] (fun i => ∃ k : Nat, k ≤ s.size ∧ i = .int .i64 k ∧ anyBad (s.data.toList.take k) = false) (fun i => s.size - (intOf i).toNat)
    case atStart => exact ⟨0, Nat.zero_le _, rfl, rfl⟩
    case round =>
      obtain ⟨k, hk, rfl, hb⟩ := hrel
      have HB : Hid (anyBad (s.data.toList.take k) = false) := hb
      clear hb
      by_cases hlt : k < s.size
      · go_wp2
        · go_ret
          exact ⟨ret_int (by rw [HF.out, anyBad_of_get s k hlt (hit_byte s k hlt (.inl ‹_›))]; simp), rfl⟩
        · go_ret
          exact ⟨ret_int (by rw [HF.out, anyBad_of_get s k hlt (hit_byte2 s k hlt ‹_›)]; simp), rfl⟩
        · go_round
          case rel => exact ⟨k + 1, by omega, by go_num, step_byte s k hlt HB.out ‹_›⟩
          case measure => simp [intOf]; omega
      · go_wp2
        go_ret
        have hb := HB.out
        rw [anyBad_end s k hlt] at hb
        exact ⟨ret_int (by rw [HF.out, hb]; simp), rfl⟩

theorem frozen_iter (w : World) (s : ByteArray) (pos : Nat) (a : Addr) : (w.iter s pos).frozen? a = w.frozen? a := by
  by_cases h : a.block = w.heap.size
  · have e1 : (w.iter s pos).heap[a.block]? = some (.stringIter s pos) := by rw [h]; exact World.iter_heap w s pos
    have e2 : w.heap[a.block]? = none := by rw [h]; simp
    simp [World.frozen?, e1, e2]
  · have e1 : (w.iter s pos).heap[a.block]? = w.heap[a.block]? := by
      show (w.heap.push (Obj.stringIter s pos))[a.block]? = _
      rw [Array.getElem?_push]; simp [h]
    simp [World.frozen?, e1]
theorem grown_iter (w : World) (s : ByteArray) (pos : Nat) : Grown w (w.iter s pos) := ⟨World.keptBut_alloc w _ _, frozen_iter w s pos, by simp [World.iter]⟩

set_option maxHeartbeats 400000 in
theorem impl_any (s : ByteArray) (w : World) (hs : s.size ≤ maxLen) :
    Calls Tryz.prog 82 #[.string s] w fun e w' => e = .returned (.int .i64 (chkS s)) ∧ (w' = w ∨ ∃ pos, w' = w.iter s pos) := by
  unfold maxLen at hs
  cases e1 : s.toList.isEmpty with
  | true =>
    go_enter Tryz.func82, Tryz.ntmps82
    go_wp2
    go_ret; exact ⟨ret_int (spell3 s (.inl (.inl e1))).symm, .inl rfl⟩
  | false =>
  cases e2 : s.toList == [46] with
  | true =>
    go_enter Tryz.func82, Tryz.ntmps82
    go_wp2
    go_ret; exact ⟨ret_int (spell3 s (.inl (.inr e2))).symm, .inl rfl⟩
  | false =>
  cases e3 : s.toList == [46, 46] with
  | true =>
    go_enter Tryz.func82, Tryz.ntmps82
    go_wp2
    go_ret; exact ⟨ret_int (spell3 s (.inr e3)).symm, .inl rfl⟩
  | false =>
  by_cases h26 : (26 : Int) < (s.size : Int)
  · go_enter Tryz.func82, Tryz.ntmps82
    go_wp2
    go_ret; exact ⟨ret_int (spell4 s ⟨⟨e1, e2⟩, e3⟩ h26).symm, .inl rfl⟩
  · replace h26 : (s.size : Int) ≤ 26 := by omega
    have HF : Hid (chkS s = if anyBad s.data.toList = true then 7 else 0) := spell5 s ⟨⟨e1, e2⟩, e3⟩ h26
    go_enter Tryz.func82, Tryz.ntmps82
    go_wp2
    go_loopw [4] (fun _ w' => ∃ pos : Nat, w' = w.iter s pos ∧ anyBad (s.data.toList.take pos) = false) (fun _ w' => s.size - w'.iterPos w.heap.size)
    case atStart => exact ⟨0, rfl, rfl⟩
    case round =>
      obtain ⟨pos, rfl, hb⟩ := hrel
      have HB : Hid (anyBad (s.data.toList.take pos) = false) := hb
      clear hb
      by_cases hp : pos < s.size
      · have hnx : ∀ ty, (Instr.next (.pointer (some ⟨w.heap.size, 0, none⟩)) true ty).run Tryz.prog (w.iter s pos) = _ := fun ty => run_next_any w s pos ty hp
        go_wp2
        · go_ret
          exact ⟨ret_int (by rw [HF.out, hit_rune s pos hp (.inl ‹_›)]; simp), .inr ⟨_, rfl⟩⟩
        · go_ret
          exact ⟨ret_int (by rw [HF.out, hit_rune s pos hp (or_beq ‹_›)]; simp), .inr ⟨_, rfl⟩⟩
        · have hwd := width_pos s pos hp
          go_roundw
          case rel =>
            exact ⟨_, rfl, step_rune s pos hp HB.out (nor_beq ‹_›).1 (nor_beq ‹_›).2⟩
          case measure => simp; omega
      · have hnx : ∀ ty, (Instr.next (.pointer (some ⟨w.heap.size, 0, none⟩)) true ty).run Tryz.prog (w.iter s pos) = _ := fun ty => run_next_end w s pos ty hp
        go_wp2
        go_ret
        have hb := HB.out
        rw [anyBad_end s pos hp] at hb
        exact ⟨ret_int (by rw [HF.out, hb]; simp), .inr ⟨_, rfl⟩⟩
end Go.Proofs.YtfkmnmopkblopaaGreatDoor.Chk

namespace Go.Proofs.YtfkmnmopkblopaaGreatDoor
set_option linter.unusedVariables false
set_option linter.unusedSimpArgs false
open Go.RowKit

/-- A snapshot as cells: its plane, its name, two numbers, its root. -/
def snapC (pl : Int) (nm : ByteArray) (ge cl s : Int) (ds : List Int) (p q : Int) : Array Value := (([.int .i64 pl, .string nm, .int .i64 ge, .int .i64 cl] : List Value) ++ (rootI s ds p q).map (Value.int .i64)).toArray
theorem snapC_size (pl : Int) (nm : ByteArray) (ge cl s : Int) (ds : List Int) (p q : Int) (hd : ds.length = 12) : (snapC pl nm ge cl s ds p q).size = 19 := by
  have := rootI_len s ds p q hd
  simp [snapC, this]
theorem snapC_one (pl : Int) (nm : ByteArray) (ge cl s : Int) (ds : List Int) (p q : Int) : (snapC pl nm ge cl s ds p q).all (·.oneCell') = true := by
  rw [Array.all_eq_true_iff_forall_mem]
  intro v hv
  simp [snapC] at hv
  rcases hv with rfl | rfl | rfl | rfl | ⟨z, _, rfl⟩ <;> rfl
theorem info19 : (Tryz.prog.info? 41).map (·.size) = some 19 := by kernel_rfl
theorem snap_range (pl : Int) (nm : ByteArray) (ge cl s : Int) (ds : List Int) (p q : Int) {w : World} {b : Nat} {t : TypeId} (h : Blk w b (snapC pl nm ge cl s ds p q) t) : w.rangeAt b 4 ((rootI s ds p q).map (Value.int .i64)) := by
  intro j v hv
  rw [h.cell (4 + j)]
  unfold snapC
  rw [List.getElem?_toArray, List.getElem?_append_right (by simp)]
  simpa using hv
def rightS (pl : Int) (nm : ByteArray) (ge cl s : Int) (ds : List Int) (p q : Int) : Bool := wi pl 1 31 && (Chk.chkS nm == 0) && wi ge 1 1099511627776 && wi cl 1 1099511627776 && (rightR s ds p q && tabB s)
theorem Below.iter (w : World) (s : ByteArray) (pos : Nat) : Below w.heap.size w (w.iter s pos) := (Below.refl _ _).alloc (Nat.le_refl _) _

set_option maxRecDepth 100000 in
set_option maxHeartbeats 1000000 in
theorem snapFault_any (pl : Int) (nm : ByteArray) (ge cl s : Int) (ds : List Int) (p q code : Int) (w : World) (hd : ds.length = 12) (hn : nm.size ≤ maxLen) :
    Calls Tryz.prog 55 #[.agg (snapC pl nm ge cl s ds p q), .int .i64 code] w fun e w' => ∃ ev, e = .returned ev ∧ FaultIs w' w.heap.size (rightS pl nm ge cl s ds p q) ev code ∧ Below w.heap.size w w' := by
  have HD := hide hd
  have HN := hide hn
  have HLen := hide (show (cellsI (rootI s ds p q)).size = 15 from by rw [cellsI_size]; exact rootI_len s ds p q HD.out)
  have kB := (Blk.new w (snapC pl nm ge cl s ds p q) 41).alloc (.cells #[.int .i64 code, .nilIface] 88)
  have kC := Ck.fresh (w.alloc (.cells (snapC pl nm ge cl s ds p q) 41)) code 88
  rw [World.size_alloc] at kC
  have hb0 : Below w.heap.size w ((w.alloc (.cells (snapC pl nm ge cl s ds p q) 41)).alloc (.cells #[.int .i64 code, .nilIface] 88)) := ((Below.refl _ _).alloc (Nat.le_refl _) _).alloc (by simp) _
  have H0 := hide (show Kp w ((w.alloc (.cells (snapC pl nm ge cl s ds p q) 41)).alloc (.cells #[.int .i64 code, .nilIface] 88)) (snapC pl nm ge cl s ds p q) 41 code true from ⟨kB, kC, hb0⟩)
  have c0 : ((w.alloc (.cells (snapC pl nm ge cl s ds p q) 41)).alloc (.cells #[.int .i64 code, .nilIface] 88)).cell? ⟨w.heap.size, 0, none⟩ = some (.int .i64 pl) := (kB.cell 0).trans rfl
  have HF := hide (show rightS pl nm ge cl s ds p q = (wi pl 1 31 && (Chk.chkS nm == 0) && wi ge 1 1099511627776 && wi cl 1 1099511627776 && (rightR s ds p q && tabB s)) from rfl)
  clear hd hn kB kC hb0
  go_enter Tryz.func55, Tryz.ntmps55
  go_wp2_with (go_at_call 70; fail)
  refine (within_any (w.heap.size + 1) (w.heap.size + 1 + 1) _ code pl 1 31 _ _ H0.out.ck (by omega) H0.out.lo).mono ?_
  rintro e w1 ⟨rfl, hc1, ht1⟩
  rw [Bool.true_and] at hc1
  have H1 := hide (H0.out.tch hc1 ht1)
  clear hc1 ht1 H0 c0
  have c1 := (H1.out.blk.cell 1).trans (show (snapC pl nm ge cl s ds p q)[1]? = some (.string nm) from rfl)
  go_wp2_with (go_at_call 82; fail)
  refine (Chk.impl_any nm _ HN.out).mono ?_
  rintro e w2 ⟨rfl, hg2⟩
  have b2 : Below w1.heap.size w1 w2 := by
    rcases hg2 with rfl | ⟨pos, rfl⟩
    · exact Below.refl _ _
    · exact Below.iter _ _ _
  have H2 := hide (H1.out.below b2)
  clear hg2 b2 H1 c1
  go_wp2_with (go_at_call 32; fail)
  refine (need_any (w.heap.size + 1) (w.heap.size + 1 + 1) _ code _ (Chk.chkS nm == 0) _ H2.out.ck (by omega) H2.out.lo).mono ?_
  rintro e w3 ⟨rfl, hc3, ht3⟩
  have H3 := hide (H2.out.tch hc3 ht3)
  clear hc3 ht3 H2
  have c3 := (H3.out.blk.cell 2).trans (show (snapC pl nm ge cl s ds p q)[2]? = some (.int .i64 ge) from rfl)
  go_wp2_with (go_at_call 70; fail)
  refine (within_any (w.heap.size + 1) (w.heap.size + 1 + 1) _ code ge 1 1099511627776 _ _ H3.out.ck (by omega) H3.out.lo).mono ?_
  rintro e w4 ⟨rfl, hc4, ht4⟩
  have H4 := hide (H3.out.tch hc4 ht4)
  clear hc4 ht4 H3 c3
  have c4 := (H4.out.blk.cell 3).trans (show (snapC pl nm ge cl s ds p q)[3]? = some (.int .i64 cl) from rfl)
  go_wp2_with (go_at_call 70; fail)
  refine (within_any (w.heap.size + 1) (w.heap.size + 1 + 1) _ code cl 1 1099511627776 _ _ H4.out.ck (by omega) H4.out.lo).mono ?_
  rintro e w5 ⟨rfl, hc5, ht5⟩
  have H5 := hide (H4.out.tch hc5 ht5)
  clear hc5 ht5 H4 c4
  have HR := hide (snap_range pl nm ge cl s ds p q H5.out.blk)
  go_wp2_with (first | (refine wpList_load_mid rfl 34 _ rfl w.heap.size 4 rfl ((rootI s ds p q).map (Value.int .i64)) _ HR.out Tryz.underlying34 rfl (by rw [List.length_map, ← cellsI_size, HLen.out]; exact info15) ?_) | (go_at_call 73; fail))
  refine (tableFault_any s ds p q code _ HD.out).mono ?_
  rintro e w6 ⟨ev6, rfl, hf6, hb6⟩
  have H6 := hide (And.intro (H5.out.below hb6) (And.intro hf6 (And.intro H5.out.lo hb6.size)))
  clear hf6 hb6 HR
  go_wp2_with fail
  refine (inside_fault w w5 w6 _ _ code _ _ _ ev6 H6.out.1 H6.out.2.2.1 H6.out.2.2.2 H6.out.2.1).mono ?_
  rintro e w7 ⟨rfl, hk7⟩
  have H7 := hide hk7
  obtain ⟨ev, c7, hf7⟩ := H7.out.fault
  have HV := hide (show FaultIs w7 w.heap.size (rightS pl nm ge cl s ds p q) ev code from by rw [HF.out]; exact hf7)
  clear hk7 hf7 H6 H5
  go_wp2
  go_ret
  exact ⟨ev, rfl, HV.out, H7.out.old⟩
end Go.Proofs.YtfkmnmopkblopaaGreatDoor

namespace Go.Proofs.YtfkmnmopkblopaaGreatDoor
open Go.RowKit

/-- Two owned rows, one below block m, one from m on. -/
theorem apart {v x : Value} (m : Nat) (h1 : ∀ k, v.ownBlock = some k → m ≤ k) (h2 : ∀ k, x.ownBlock = some k → k < m) : v.ownBlock = none ∨ v.ownBlock ≠ x.ownBlock := by
  cases hv : v.ownBlock with
  | none => exact .inl rfl
  | some k =>
    refine .inr fun h => ?_
    have a := h1 k hv
    have b := h2 k h.symm
    omega
theorem apart' {v x : Value} (m : Nat) (h1 : ∀ k, v.ownBlock = some k → k < m) (h2 : ∀ k, x.ownBlock = some k → m ≤ k) : v.ownBlock = none ∨ v.ownBlock ≠ x.ownBlock := by
  cases hv : v.ownBlock with
  | none => exact .inl rfl
  | some k =>
    refine .inr fun h => ?_
    have a := h1 k hv
    have b := h2 k h.symm
    omega
/-- Two rows of different calls. -/
theorem apart2 {v x : Value} {l1 h1 l2 h2 : Nat} (a : ∀ k, v.ownBlock = some k → l1 ≤ k ∧ k < h1) (b : ∀ k, x.ownBlock = some k → l2 ≤ k ∧ k < h2) (h : h1 ≤ l2 ∨ h2 ≤ l1) : v.ownBlock = none ∨ v.ownBlock ≠ x.ownBlock := by
  cases hv : v.ownBlock with
  | none => exact .inl rfl
  | some k =>
    refine .inr fun e => ?_
    have p := a k hv
    have q := b k e.symm
    omega
end Go.Proofs.YtfkmnmopkblopaaGreatDoor

namespace Go.Proofs.YtfkmnmopkblopaaGreatDoor
set_option linter.unusedVariables false
set_option linter.unusedSimpArgs false
open Go.RowKit


theorem root_of_list (rs : List Int) (h : rs.length = 15) : ∃ s ds p q, ds.length = 12 ∧ rs = rootI s ds p q := by
  match rs, h with
  | [s, d0, d1, d2, d3, d4, d5, d6, d7, d8, d9, d10, d11, p, q], _ => exact ⟨s, [d0, d1, d2, d3, d4, d5, d6, d7, d8, d9, d10, d11], p, q, rfl, rfl⟩
end Go.Proofs.YtfkmnmopkblopaaGreatDoor
