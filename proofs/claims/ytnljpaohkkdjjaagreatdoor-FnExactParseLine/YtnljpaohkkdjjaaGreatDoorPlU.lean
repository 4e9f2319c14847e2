/- internal/strconv.ParseInt at base 8, and strconv.ParseInt. -/
import Derived.Test.YtnljpaohkkdjjaaGreatDoorPlT
namespace Go.Proofs.YtnljpaohkkdjjaaGreatDoor
set_option linter.unusedVariables false
set_option linter.unusedSimpArgs false
open Go.RowKit

/-- What is answered of a text as a number with a sign. -/
def PiP (l : List UInt8) (w w' : World) (e : Ending) : Prop := ∃ n ev, e = .returned (.tuple #[.int .i64 n, ev]) ∧ ErE ev ∧ (modeOk l = true → n = modeI l) ∧ Below w.heap.size w w'
theorem pi_no {l : List UInt8} {w w' : World} {n : Int} {ev : Value} (h : modeOk l = false) (he : ErE ev) (hb : Below w.heap.size w w') : PiP l w w' (.returned (.tuple #[.int .i64 n, ev])) :=
  ⟨_, _, rfl, he, (by rw [h]; intro h; cases h), hb⟩
theorem erE2 : ErE (.iface 132 (.int .i64 2)) := .inr (.inl rfl)
theorem erE1 : ErE (.iface 132 (.int .i64 1)) := .inr (.inr rfl)
theorem erE0 : ErE .nilIface := .inl rfl
set_option maxHeartbeats 8000000 in
set_option maxRecDepth 100000 in
theorem pint8 (s : ByteArray) (w : World) (hs : s.size ≤ 1048576) :
    Calls Tryz.prog 63 #[.string s, .int .i64 8, .int .i64 64] w fun e w' => PiP s.data.toList w w' e := by
  have hll : s.data.toList.length = s.size := rfl
  by_cases hz : s.size = 0
  · have hemp : s.toList.isEmpty = true := by
      rw [← decide_eq_emptyBytes]
      apply decide_eq_true
      rw [← mk_data s]
      have : s.data.toList = [] := List.eq_nil_of_length_eq_zero (by omega)
      rw [this]; rfl
    have HN := hide (show modeOk s.data.toList = false from by unfold modeOk; rw [hll, hz]; rfl)
    clear hll
    go_enter Tryz.func63, Tryz.ntmps63
    go_wp2
    go_ret2
    exact pi_no HN.out erE2 (Below.refl _ _)
  have hemp : s.toList.isEmpty = false := by
    rw [← decide_eq_emptyBytes]
    exact decide_eq_false (fun h => hz (by rw [h]; rfl))
  have hpos : 0 < s.size := by omega
  have hb0 := byte_at s 0 hpos
  have hq2 : ∀ W, (binOp .neq 40 (.iface 132 (.int .i64 2)) (.iface 132 (.int .i64 1))).run Tryz.prog W = .ok (.bool true) W := fun W => Lib.run_neq_iface_int W 2 1 laysAtoi.t75 laysAtoi.c167 laysAtoi.t167
  have hq1 : ∀ W, (binOp .neq 40 (.iface 132 (.int .i64 1)) (.iface 132 (.int .i64 1))).run Tryz.prog W = .ok (.bool false) W := fun W => Lib.run_neq_iface_int W 1 1 laysAtoi.t75 laysAtoi.c167 laysAtoi.t167
  have hmin : wrap64 (-wrap64 9223372036854775808) = -9223372036854775808 := by
    unfold wrap64
    omega
  obtain ⟨c0, hs0⟩ : ∃ c0, s[0]'hpos = c0 := ⟨_, rfl⟩
  rw [hs0] at hb0
  clear hz
  by_cases hsg : c0 = 43 ∨ c0 = 45
  · have HN := hide (show modeOk s.data.toList = false from mode_not hb0 (by rcases hsg with rfl | rfl <;> rfl))
    have hsl : ∀ W, (Instr.slice 9 (.string s) (some (.int .i64 1)) none none).run Tryz.prog W = .ok (.string (s.extract 1 s.size)) W := fun W => by
      rw [run_slice_string_from_if W 9 s .i64 _ Tryz.underlying9, if_pos ⟨by omega, by omega⟩]
      rfl
    have hts : (s.extract 1 s.size).size ≤ 1048576 := by rw [ByteArray.size_extract]; omega
    generalize s.extract 1 s.size = t at hsl hts
    have HU := hide (fun W => puint8 t W hts)
    clear hll hb0
    rcases hsg with rfl | rfl
    · go_enter Tryz.func63, Tryz.ntmps63
      go_wp2_with (go_at_call 76; fail)
      refine (HU.out _).mono ?_
      rintro e w1 ⟨n, ev, rfl, n0, n1, he, hm, b1⟩
      have HB := hide b1
      clear hm b1
      rcases he with rfl | rfl | rfl
      · by_cases hout : 9223372036854775808 ≤ n
        all_goals
          go_wp2_with fail
          go_ret2
          exact pi_no HN.out (by first | exact erE0 | exact erE1 | exact erE2) HB.out
      · go_wp2_with fail
        go_ret2
        exact pi_no HN.out (by first | exact erE0 | exact erE1 | exact erE2) HB.out
      · by_cases hout : 9223372036854775808 ≤ n
        all_goals
          go_wp2_with fail
          go_ret2
          exact pi_no HN.out (by first | exact erE0 | exact erE1 | exact erE2) HB.out
    · go_enter Tryz.func63, Tryz.ntmps63
      go_wp2_with (go_at_call 76; fail)
      refine (HU.out _).mono ?_
      rintro e w1 ⟨n, ev, rfl, n0, n1, he, hm, b1⟩
      have HB := hide b1
      clear hm b1
      rcases he with rfl | rfl | rfl
      · by_cases hout : 9223372036854775808 < n
        all_goals
          go_wp2_with fail
          go_ret2
          exact pi_no HN.out (by first | exact erE0 | exact erE1 | exact erE2) HB.out
      · go_wp2_with fail
        go_ret2
        exact pi_no HN.out (by first | exact erE0 | exact erE1 | exact erE2) HB.out
      · by_cases hout : 9223372036854775808 < n
        all_goals
          go_wp2_with fail
          go_ret2
          exact pi_no HN.out (by first | exact erE0 | exact erE1 | exact erE2) HB.out
  · have n43 : c0.toNat ≠ 43 := fun h => hsg (.inl (UInt8.toNat_inj.1 h))
    have n45 : c0.toNat ≠ 45 := fun h => hsg (.inr (UInt8.toNat_inj.1 h))
    have i43 : ¬ (c0.toNat : Int) = 43 := by omega
    have i45 : ¬ (c0.toNat : Int) = 45 := by omega
    have HU := hide (fun W => puint8 s W hs)
    have HML := hide (fun h6 : modeOk s.data.toList = true => show modeI s.data.toList < 262144 from by
      unfold modeOk at h6
      simp only [Bool.and_eq_true, decide_eq_true_eq] at h6
      exact (modeI_lt _ h6.2 h6.1.2).2)
    clear hll hb0 hsg n43 n45
    go_enter Tryz.func63, Tryz.ntmps63
    go_wp2_with (go_at_call 76; fail)
    refine (HU.out _).mono ?_
    rintro e w1 ⟨n, ev, rfl, n0, n1, he, hm, b1⟩
    have HB := hide b1
    have HM := hide hm
    clear hm b1
    rcases he with rfl | rfl | rfl
    · by_cases hout : 9223372036854775808 ≤ n
      · have HN := hide (show modeOk s.data.toList = false from by
          cases h : modeOk s.data.toList with
          | false => rfl
          | true => exfalso; have h1 := (HM.out h).1; have h2 := HML.out h; omega)
        go_wp2_with fail
        go_ret2
        exact pi_no HN.out (by first | exact erE0 | exact erE1 | exact erE2) HB.out
      · go_wp2_with fail
        go_ret2
        exact ⟨_, _, rfl, erE0, fun h => (HM.out h).1, HB.out⟩
    · have HN := hide (show modeOk s.data.toList = false from by
        cases h : modeOk s.data.toList with
        | false => rfl
        | true => exfalso; cases (HM.out h).2)
      go_wp2_with fail
      go_ret2
      exact pi_no HN.out (by first | exact erE0 | exact erE1 | exact erE2) HB.out
    · have HN := hide (show modeOk s.data.toList = false from by
        cases h : modeOk s.data.toList with
        | false => rfl
        | true => exfalso; cases (HM.out h).2)
      by_cases hout : 9223372036854775808 ≤ n
      all_goals
        go_wp2_with fail
        go_ret2
        exact pi_no HN.out (by first | exact erE0 | exact erE1 | exact erE2) HB.out
set_option maxHeartbeats 4000000 in
set_option maxRecDepth 100000 in
theorem spint8 (s : ByteArray) (w : World) (hs : s.size ≤ 1048576) (hv : ErrV w) :
    Calls Tryz.prog 55 #[.string s, .int .i64 8, .int .i64 64] w fun e w' => ∃ n ev, e = .returned (.tuple #[.int .i64 n, ev]) ∧ (modeOk s.data.toList = true → n = modeI s.data.toList) ∧ Below w.heap.size w w' := by
  have HV := hide hv
  have HI := hide (fun W => pint8 s W hs)
  clear hv
  go_enter Tryz.func55, Tryz.ntmps55
  go_wp2_with (go_at_call 63; fail)
  refine (HI.out _).mono ?_
  rintro e w1 ⟨n, ev, rfl, he, hm, b1⟩
  have HV1 := hide (HV.out.below b1)
  have HB := hide b1
  have HM := hide hm
  clear hm b1 HV
  rcases he with rfl | rfl | rfl
  · go_wp2_with fail
    go_ret2
    exact ⟨_, _, rfl, HM.out, HB.out⟩
  · obtain ⟨⟨t1, p1, h1⟩, _⟩ := HV1.out
    have HT := hide (show w1.cell? ⟨1, 0, none⟩ = some (.iface t1 p1) from by have h0 := World.var?_cell laysAtoi.m15 h1 0; have h2 : w1.cell? ⟨laysAtoi_ren.g 15, 0, none⟩ = some (.iface t1 p1) := (by simpa using h0); exact h2)
    clear h1 HV1
    go_wp2_with (go_at_call 62; refine (Any.strconv_toError_syntax { laysAtoi with } _ s 8 64 (.iface t1 p1) _ (by omega) HT.out (.inr ⟨_, _, rfl⟩)).mono ?_; rintro e w2 ⟨N, rfl, _, _, b2⟩; have HB2 := hide (HB.out.trans (b2.mono HB.out.size)); clear b2)
    go_ret2
    exact ⟨_, _, rfl, HM.out, HB2.out⟩
  · obtain ⟨_, ⟨t1, p1, h1⟩⟩ := HV1.out
    have HT := hide (show w1.cell? ⟨2, 0, none⟩ = some (.iface t1 p1) from by have h0 := World.var?_cell laysAtoi.m16 h1 0; have h2 : w1.cell? ⟨laysAtoi_ren.g 16, 0, none⟩ = some (.iface t1 p1) := (by simpa using h0); exact h2)
    clear h1 HV1
    go_wp2_with (go_at_call 62; refine (Any.strconv_toError_range { laysAtoi with } _ s 8 64 (.iface t1 p1) _ (by omega) HT.out (.inr ⟨_, _, rfl⟩)).mono ?_; rintro e w2 ⟨N, rfl, _, _, b2⟩; have HB2 := hide (HB.out.trans (b2.mono HB.out.size)); clear b2)
    go_ret2
    exact ⟨_, _, rfl, HM.out, HB2.out⟩
end Go.Proofs.YtnljpaohkkdjjaaGreatDoor
