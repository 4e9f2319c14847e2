/- internal/strconv.ParseUint and ParseInt at base 8, and strconv.ParseInt: a mode's number, and whatever else comes an answer. -/
import Derived.Test.YtnljpaohkkdjjaaGreatDoorPlM
import Derived.Test.YtnljpaohkkdjjaaGreatDoorPlB
import Derived.Shelf.Strconv.Lower
import Derived.Shelf.Strconv.ToError
import Derived.Shelf.Strconv.ToErrorRange
import Derived.Lib.IfaceNeq
import Derived.Lib.ConvBytes
import Derived.Lib.Walk
import Derived.Laws.Strings3
import Derived.Laws.Closers25
import Derived.Laws.Closers25b
import Derived.BigCall
import Derived.BigGuard
namespace Go.Proofs.YtnljpaohkkdjjaaGreatDoor
set_option linter.unusedVariables false
set_option linter.unusedSimpArgs false
open Go.RowKit

/-- The errors of the inner package that come out here. -/
def ErE (ev : Value) : Prop := ev = .nilIface ∨ ev = .iface 132 (.int .i64 2) ∨ ev = .iface 132 (.int .i64 1)
/-- What is answered of a text as an unsigned number. -/
def PuP (l : List UInt8) (w w' : World) (e : Ending) : Prop := ∃ n ev, e = .returned (.tuple #[.int .u64 n, ev]) ∧ 0 ≤ n ∧ n < 18446744073709551616 ∧ ErE ev ∧ (modeOk l = true → n = modeI l ∧ ev = .nilIface) ∧ Below w.heap.size w w'
theorem pu_no {l : List UInt8} {w w' : World} {n c : Int} (h : modeOk l = false) (hn : 0 ≤ n ∧ n < 18446744073709551616) (hc : c = 2 ∨ c = 1) (hb : Below w.heap.size w w') : PuP l w w' (.returned (.tuple #[.int .u64 n, .iface 132 (.int .i64 c)])) :=
  ⟨_, _, rfl, hn.1, hn.2, by rcases hc with rfl | rfl <;> simp [ErE], (by rw [h]; intro h; cases h), hb⟩
theorem lower_any (c : Int) (w : World) : Calls Tryz.prog 85 #[.int .u8 c] w fun e w' => e = .returned (.int .u8 (bits .or .u8 c 32)) ∧ w' = w := Any.internal_strconv_lower { laysAtoi with } c w
theorem mode_short {l : List UInt8} (h : 6 < l.length) : modeOk l = false := by unfold modeOk; rw [decide_eq_false (show ¬ l.length ≤ 6 by omega)]; simp
theorem mode_not {l : List UInt8} {k : Nat} {c : UInt8} (h : l[k]? = some c) (hf : isOc c = false) : modeOk l = false := by unfold modeOk; rw [all_not h hf]; simp
set_option maxHeartbeats 8000000 in
set_option maxRecDepth 100000 in
theorem puint8 (t : ByteArray) (w : World) (hs : t.size ≤ 1048576) :
    Calls Tryz.prog 76 #[.string t, .int .i64 8, .int .i64 64] w fun e w' => PuP t.data.toList w w' e := by
  have hll : t.data.toList.length = t.size := rfl
  by_cases hz : t.size = 0
  · have hemp : t.toList.isEmpty = true := by
      rw [← decide_eq_emptyBytes]
      apply decide_eq_true
      rw [← mk_data t]
      have : t.data.toList = [] := List.eq_nil_of_length_eq_zero (by omega)
      rw [this]; rfl
    have HN := hide (show modeOk t.data.toList = false from by unfold modeOk; rw [hll, hz]; rfl)
    clear hll
    go_enter Tryz.func76, Tryz.ntmps76
    go_wp2
    go_ret2
    exact pu_no HN.out (by omega) (.inl rfl) (Below.refl _ _)
  have hemp : t.toList.isEmpty = false := by
    rw [← decide_eq_emptyBytes]
    exact decide_eq_false (fun h => hz (by rw [h]; rfl))
  have hcv := Lib.run_convert_string_bytes (P := Tryz.prog) w 9 22 5 t (u := .string) Tryz.underlying9 Tryz.underlying22 Tryz.underlying5
  have hB : ∀ j, j < t.size → (Lib.bytesWorld w 5 t).cell? ⟨w.heap.size, j, none⟩ = some (.int .u8 (t.data.toList.getD j 0).toNat) := fun j hj => Lib.bytesWorld_cell w 5 t j hj
  have HBW := hide (Go.Lib.bytesWorld_below w 5 t)
  obtain ⟨W1, hW1⟩ : ∃ W1, W1 = Lib.bytesWorld w 5 t := ⟨_, rfl⟩
  rw [← hW1] at hcv hB HBW
  clear hW1
  obtain ⟨bs, hL⟩ : ∃ bs, bs = t.data.toList := ⟨_, rfl⟩
  have hLn : bs.length = t.size := by rw [hL]; rfl
  rw [← hL] at hB ⊢
  clear hL hll hz
  have hmv : IntKind.u64.wrap (IntKind.u64.wrap 18446744073709551616 - 1) = 18446744073709551615 := by
    rw [IntKind.wrap_u64, IntKind.wrap_u64]
    decide
  go_enter Tryz.func76, Tryz.ntmps76
  go_wp2
  go_loop [12, 13, 101] (fun vu vn vi => ∃ (k : Nat) (a : Int), vu = .bool false ∧ vn = .int .u64 a ∧ vi = .int .i64 k ∧ k ≤ t.size ∧ 0 ≤ a ∧ a < 18446744073709551616 ∧ Hid ((bs.take k).all isOc = true ∧ a = modeI (bs.take k)))
    (fun _ _ vi => t.size - (intOf vi).toNat)
  case atStart => exact ⟨0, 0, rfl, rfl, rfl, by omega, by omega, by omega, rfl, rfl⟩
  case round =>
    obtain ⟨k, a, rfl, rfl, rfl, hk, a0, a1, HH⟩ := hrel
    by_cases hkn : k < t.size
    · have hc := hB k hkn
      have HC := hide (show bs[k]? = some (bs[k]'(by omega)) from List.getElem?_eq_getElem _)
      have hget : bs.getD k 0 = bs[k]'(by omega) := by simp [List.getD, List.getElem?_eq_getElem (show k < bs.length by omega)]
      rw [hget] at hc
      generalize bs[k]'(by omega) = c at hc HC
      have hc256 : c.toNat < 256 := c.toNat_lt
      clear hB hget
      by_cases hoc : isOc c = true
      · obtain ⟨hd0, hd1⟩ := (isOc_iff c).1 hoc
        have HA := hide (show (bs.take (k + 1)).all isOc = true ∧ a * 8 + ((c.toNat : Int) - 48) = modeI (bs.take (k + 1)) from by
          refine ⟨by rw [all_take HC.out, HH.out.1, hoc]; rfl, ?_⟩
          rw [take_at HC.out, modeI_snoc, ← HH.out.2]; omega)
        clear hoc
        by_cases icut : 2305843009213693952 ≤ a
        · have HN := hide (show modeOk bs = false from by
            rcases Nat.lt_or_ge 6 bs.length with h | h
            · exact mode_short h
            · exfalso
              have h1 := modeI_lt _ HH.out.1 (Nat.le_trans (by rw [List.length_take]; omega) h)
              rw [← HH.out.2] at h1
              omega)
          clear HH HA
          go_wp2
          go_ret2
          exact pu_no HN.out (by omega) (.inr rfl) HBW.out
        · have icut2 : a < 2305843009213693952 := by omega
          have iov : a * 8 + ((c.toNat : Int) - 48) < 18446744073709551616 := by omega
          clear HH icut
          go_wp2
          refine ⟨⟨k + 1, a * 8 + ((c.toNat : Int) - 48), rfl, (by first | rfl | (congr 1; omega)), (by first | rfl | (congr 1; omega)), by omega, by omega, by omega, HA⟩, by simp [intOf]; omega⟩
      · have hoc' : isOc c = false := by simpa using hoc
        have HN := hide (show modeOk bs = false from mode_not HC.out hoc')
        have hno : ¬ (48 ≤ c.toNat ∧ c.toNat ≤ 55) := fun h => hoc ((isOc_iff c).2 h)
        clear HH hoc hoc'
        have hv0 := bits_lo_u8 .or (c.toNat : Int) 32
        have hv1 := bits_hi_u8 .or (c.toNat : Int) 32
        have hu0 := bits_lo_u8 .or 95 32
        have hu1 := bits_hi_u8 .or 95 32
        rcases (by omega : (c.toNat : Int) < 48 ∨ (56 ≤ (c.toNat : Int) ∧ (c.toNat : Int) ≤ 57) ∨ 57 < (c.toNat : Int)) with h5 | ⟨h5, h6⟩ | h5
        all_goals clear hno
        all_goals go_wp2_with (go_at_call 85; refine (lower_any _ _).mono ?_; rintro e w' ⟨rfl, rfl⟩)
        all_goals go_ret2
        all_goals exact pu_no HN.out (by omega) (.inl rfl) HBW.out
    · have hkk : k = t.size := by omega
      subst hkk
      have HT := hide (show a = modeI bs from by rw [HH.out.2, List.take_of_length_le (by omega)])
      clear HH
      go_wp2
      go_ret2
      exact ⟨_, _, rfl, a0, a1, .inl rfl, fun _ => ⟨HT.out, rfl⟩, HBW.out⟩
end Go.Proofs.YtnljpaohkkdjjaaGreatDoor
