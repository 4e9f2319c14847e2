/- The model's modes and numbers (l15Mode, l15Number). -/
import Derived.Test.YtnljpaohkkdjjaaGreatDoorPlA
import Derived.Test.YtnljpaohkkdjjaaGreatDoorPlN
namespace Go.Proofs.YtnljpaohkkdjjaaGreatDoor
set_option linter.unusedVariables false
set_option linter.unusedSimpArgs false
open Go.RowKit

def isOc (c : UInt8) : Bool := decide (48 ≤ c.toNat ∧ c.toNat ≤ 55)
def modeI (l : List UInt8) : Int := l.foldl (fun v c => v * 8 + (c.toNat : Int) - 48) 0
def modeOk (l : List UInt8) : Bool := decide (1 ≤ l.length) && decide (l.length ≤ 6) && l.all isOc
theorem modeI_snoc (l : List UInt8) (c : UInt8) : modeI (l ++ [c]) = modeI l * 8 + (c.toNat : Int) - 48 := by
  unfold modeI
  rw [List.foldl_append]
  rfl
theorem isOc_iff (c : UInt8) : isOc c = true ↔ 48 ≤ c.toNat ∧ c.toNat ≤ 55 := by simp [isOc]
theorem modeI_bd : ∀ l : List UInt8, l.all isOc = true → 0 ≤ modeI l ∧ modeI l + 1 ≤ ((8 ^ l.length : Nat) : Int) := by
  refine snocInd (fun _ => by simp [modeI]) (fun l c ih h => ?_)
  rw [List.all_append] at h
  simp only [List.all_cons, List.all_nil, Bool.and_true, Bool.and_eq_true] at h
  have h1 := ih h.1
  have h2 := (isOc_iff c).1 h.2
  rw [modeI_snoc, List.length_append, List.length_singleton, Nat.pow_succ]
  omega
theorem modeI_lt (l : List UInt8) (h : l.all isOc = true) (hl : l.length ≤ 6) : 0 ≤ modeI l ∧ modeI l < 262144 := by
  have h1 := modeI_bd l h
  have h2 : 8 ^ l.length ≤ 8 ^ 6 := Nat.pow_le_pow_right (by decide) hl
  have h3 : 8 ^ 6 = 262144 := by decide
  omega
theorem take_at {l : List UInt8} {k : Nat} {c : UInt8} (h : l[k]? = some c) : l.take (k + 1) = l.take k ++ [c] := by
  rw [List.take_add_one, h]; rfl
theorem all_take {l : List UInt8} {k : Nat} {c : UInt8} {f : UInt8 → Bool} (h : l[k]? = some c) : (l.take (k + 1)).all f = ((l.take k).all f && f c) := by
  rw [take_at h, List.all_append]
  simp
theorem all_not {l : List UInt8} {k : Nat} {c : UInt8} {f : UInt8 → Bool} (h : l[k]? = some c) (hf : f c = false) : l.all f = false := by
  rw [List.all_eq_false]
  exact ⟨c, List.mem_of_getElem? h, by simp [hf]⟩
theorem byte_at (s : ByteArray) (k : Nat) (h : k < s.size) : s.data.toList[k]? = some s[k] := by
  rw [Array.getElem?_toList]; exact Array.getElem?_eq_getElem h
/-- What is answered of a mode. -/
def modeR (l : List UInt8) : Value := .tuple #[.int .i64 (if modeOk l then modeI l else 0), .bool (modeOk l)]
theorem modeR_no {l : List UInt8} (h : modeOk l = false) : modeR l = .tuple #[.int .i64 0, .bool false] := by unfold modeR; rw [h]; rfl
theorem modeR_yes {l : List UInt8} (h : modeOk l = true) : modeR l = .tuple #[.int .i64 (modeI l), .bool true] := by unfold modeR; rw [h]; rfl
set_option maxRecDepth 100000 in
set_option maxHeartbeats 1000000 in
theorem mode_any (s : ByteArray) (w : World) (hs : s.size ≤ 1048576) :
    Calls Tryz.prog 12 #[.string s] w fun e w' => e = .returned (modeR s.data.toList) ∧ w' = w := by
  have hll : s.data.toList.length = s.size := rfl
  by_cases h1 : s.size < 1
  · have hk : modeOk s.data.toList = false := by unfold modeOk; rw [hll, decide_eq_false (by omega)]; rfl
    rw [modeR_no hk]
    clear hk hll
    go_enter Tryz.func12, Tryz.ntmps12
    go_wp2
    go_ret2
    exact ⟨rfl, rfl⟩
  by_cases h2 : 6 < s.size
  · have hk : modeOk s.data.toList = false := by unfold modeOk; rw [hll, decide_eq_false (show ¬ s.size ≤ 6 by omega)]; simp
    rw [modeR_no hk]
    clear hk hll
    have h3 : (6 : Int) < (s.size : Int) := by omega
    go_enter Tryz.func12, Tryz.ntmps12
    go_wp2
    go_ret2
    exact ⟨rfl, rfl⟩
  have HL := hide (show modeOk s.data.toList = s.data.toList.all isOc from by unfold modeOk; rw [hll, decide_eq_true (by omega), decide_eq_true (by omega)]; simp)
  have HLL := hide hll
  have h3 : ¬ (6 : Int) < (s.size : Int) := by omega
  clear hll
  go_enter Tryz.func12, Tryz.ntmps12
  go_wp2
  go_loop [4, 5] (fun v i => ∃ k : Nat, k ≤ s.size ∧ i = .int .i64 (k : Int) ∧ v = .int .i64 (modeI (s.data.toList.take k)) ∧ Hid ((s.data.toList.take k).all isOc = true)) (fun _ i => s.size - (intOf i).toNat)
  case atStart => exact ⟨0, by omega, rfl, rfl, rfl⟩
  case round =>
    obtain ⟨k, hk, rfl, rfl, HK⟩ := hrel
    have hb := modeI_lt _ HK.out (by have h : (s.data.toList.take k).length ≤ s.data.toList.length := List.length_take_le' _ _; rw [HLL.out] at h; omega)
    by_cases hlt : k < s.size
    · have HC := hide (byte_at s k hlt)
      have hcb : (s[k].toNat : Int) < 256 := by have := UInt8.toNat_lt s[k]; omega
      have HO := hide (isOc_iff s[k])
      have HM := hide (modeI_snoc (s.data.toList.take k) s[k])
      generalize hcz : s[k] = c at HC hcb HO HM
      generalize hv : modeI (s.data.toList.take k) = v at hb HM
      by_cases hoc : isOc c = true
      · have ho := HO.out.1 hoc
        have h4 : 48 ≤ (c.toNat : Int) ∧ (c.toNat : Int) ≤ 55 := by omega
        obtain ⟨h5, h6⟩ := h4
        have HN := hide (show modeI (s.data.toList.take (k + 1)) = v * 8 + (c.toNat : Int) - 48 from by rw [take_at HC.out]; exact HM.out)
        have HA := hide (show (s.data.toList.take (k + 1)).all isOc = true from by rw [all_take HC.out, HK.out, hoc]; rfl)
        clear ho hv
        go_wp2
        go_round
        case rel => exact ⟨k + 1, by omega, by go_num, by rw [HN.out], HA⟩
        case measure => simp [intOf]; omega
      · have hoc' : isOc c = false := by simpa using hoc
        have HA := hide (show modeOk s.data.toList = false from by rw [HL.out]; exact all_not HC.out hoc')
        have hno : ¬ (48 ≤ c.toNat ∧ c.toNat ≤ 55) := fun h => hoc (HO.out.2 h)
        rcases (by omega : (c.toNat : Int) < 48 ∨ (48 ≤ (c.toNat : Int) ∧ 55 < (c.toNat : Int))) with h5 | ⟨h5, h6⟩
        · clear hno hoc hoc' hv
          go_wp2
          go_ret2
          refine ⟨ret_val ?_, rfl⟩
          rw [modeR_no HA.out]
          rfl
        · clear hno hoc hoc' hv
          go_wp2
          go_ret2
          refine ⟨ret_val ?_, rfl⟩
          rw [modeR_no HA.out]
          rfl
    · have HE := hide (show modeOk s.data.toList = true ∧ modeI (s.data.toList.take k) = modeI s.data.toList from by
        have h := HK.out
        rw [List.take_of_length_le (by rw [HLL.out]; omega)] at h
        exact ⟨by rw [HL.out]; exact h, by rw [List.take_of_length_le (by rw [HLL.out]; omega)]⟩)
      go_wp2
      go_ret2
      refine ⟨ret_val ?_, rfl⟩
      rw [modeR_yes HE.out.1, ← HE.out.2]
      rfl
end Go.Proofs.YtnljpaohkkdjjaaGreatDoor
