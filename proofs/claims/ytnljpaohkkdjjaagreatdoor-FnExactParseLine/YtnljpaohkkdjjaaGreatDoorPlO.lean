/- The program's readNumber. -/
import Derived.Test.YtnljpaohkkdjjaaGreatDoorPlM
import Derived.Test.YtnljpaohkkdjjaaGreatDoorPlI
import Derived.Test.YtnljpaohkkdjjaaGreatDoorCheck
import Derived.BigQuiet
import Derived.Deep.QuietTactic
namespace Go.Proofs.YtnljpaohkkdjjaaGreatDoor
set_option linter.unusedVariables false
set_option linter.unusedSimpArgs false
open Go.RowKit

theorem trim45 (l : List UInt8) : Lib.trimPrefix l [45] = if l.head? = some 45 then l.drop 1 else l := by
  cases l with
  | nil => rfl
  | cons a r =>
    by_cases h : a = 45
    · subst h; rfl
    · have h1 : ((a :: r).head? = some 45) = False := by simp [h]
      have h2 : Lib.hasPrefix (a :: r) [45] = false := by
        unfold Lib.hasPrefix
        simp [List.isPrefixOf]
        exact fun e => h e.symm
      unfold Lib.trimPrefix
      rw [h2]
      simp only [h1, if_false]
      rfl
theorem has48 (l : List UInt8) : Lib.hasPrefix l [48] = decide (l.head? = some 48) := by
  cases l with
  | nil => rfl
  | cons a r =>
    unfold Lib.hasPrefix
    simp [List.isPrefixOf]
    rw [Bool.eq_iff_iff]
    simp
    exact eq_comm
theorem dig_cs : ∀ n : Fin 256, ([48, 49, 50, 51, 52, 53, 54, 55, 56, 57] : List UInt8).contains (UInt8.ofNat n.val) = isDg (UInt8.ofNat n.val) := by decide +kernel
theorem dig_cs' (c : UInt8) : ([48, 49, 50, 51, 52, 53, 54, 55, 56, 57] : List UInt8).contains c = isDg c := by
  have h := dig_cs ⟨c.toNat, UInt8.toNat_lt c⟩
  simpa using h
theorem dig_ascii : ∀ b ∈ ([48, 49, 50, 51, 52, 53, 54, 55, 56, 57] : List UInt8), b.toNat < 128 := by decide
set_option maxRecDepth 100000 in
set_option maxHeartbeats 2000000 in
theorem rnum_any (s : ByteArray) (w : World) (hs : s.size ≤ 1048576) (hv : ErrV w) :
    Calls Tryz.prog 43 #[.string s] w fun e w' => ∃ n ev, e = .returned (.tuple #[.int .i64 n, ev]) ∧ (numOk s.data.toList = true → n = numV s.data.toList) ∧ FaultIs w' w.heap.size (numOk s.data.toList) ev 27 ∧ Below w.heap.size w w' := by
  obtain ⟨d, hd⟩ : ∃ d : ByteArray, d = ⟨(Lib.trimPrefix s.data.toList [45]).toArray⟩ := ⟨_, rfl⟩
  have HDL := hide (show d.data.toList = if s.data.toList.head? = some 45 then s.data.toList.drop 1 else s.data.toList from by rw [hd]; exact trim45 _)
  have HTP := hide (fun W => (show Calls Tryz.prog 49 #[.string s, .string ⟨#[45]⟩] W fun e w' => e = .returned (.string d) ∧ w' = W from by rw [hd]; exact trimPre s ⟨#[45]⟩ W))
  have hds : d.size ≤ 1048576 := by
    have h : d.data.toList.length ≤ s.data.toList.length := by rw [HDL.out]; split <;> simp
    have h2 : d.data.toList.length = d.size := rfl
    have h3 : s.data.toList.length = s.size := rfl
    omega
  have HMD := hide (fun W => made_any d ⟨#[48, 49, 50, 51, 52, 53, 54, 55, 56, 57]⟩ W hds (by decide) (fun j b hb => dig_ascii b (List.mem_of_getElem? hb)))
  have HMB := hide (show d.data.toList.all (fun x => (⟨#[48, 49, 50, 51, 52, 53, 54, 55, 56, 57]⟩ : ByteArray).data.toList.contains x) = d.data.toList.all isDg from by congr 1; funext c; exact dig_cs' c)
  have HHP := hide (fun W => hasPre d ⟨#[48]⟩ W)
  have HHB := hide (show Lib.hasPrefix d.data.toList (⟨#[48]⟩ : ByteArray).data.toList = decide (d.data.toList.head? = some 48) from has48 _)
  have HOK := hide (show numOk s.data.toList = (((true && (decide ((1 : Int) ≤ (d.size : Int)) && decide ((d.size : Int) ≤ 15))) && d.data.toList.all isDg) && (decide (s.data.toList = [48]) || !decide (d.data.toList.head? = some 48))) from by
    have h2 : d.data.toList.length = d.size := rfl
    unfold numOk
    simp only []
    rw [← HDL.out, h2]
    have e1 : decide ((1 : Int) ≤ (d.size : Int)) = decide (1 ≤ d.size) := by rw [Bool.eq_iff_iff]; simp; omega
    have e2 : decide ((d.size : Int) ≤ 15) = decide (d.size ≤ 15) := by rw [Bool.eq_iff_iff]; simp; omega
    rw [e1, e2]
    simp)
  have HZ := hide (show (s.toList == [48]) = decide (s.data.toList = [48]) from by rw [ByteArray.toList_eq, Bool.eq_iff_iff]; simp)
  have HA := hide (fun W hV => atoi_any s W hs hV)
  have HV := hide hv
  clear hd hv HDL
  generalize numOk s.data.toList = nk at HA HOK ⊢
  generalize numV s.data.toList = nv at HA ⊢
  rw [HMB.out] at HMD
  rw [HHB.out] at HHP
  clear HMB HHB
  generalize d.data.toList.all isDg = ba at HMD HOK
  generalize decide (d.data.toList.head? = some 48) = bp at HHP HOK
  have hzz := HZ.out
  generalize decide (s.data.toList = [48]) = bz at hzz HOK
  clear HZ
  have B0 := hide (show Below w.heap.size w (w.alloc (.cells #[.int .i64 27, .nilIface] 109)) from (Below.refl _ _).alloc (Nat.le_refl _) _)
  have K0 := hide (Ck.fresh w 27 109)
  have s0 : (w.alloc (.cells #[.int .i64 27, .nilIface] 109)).heap.size = w.heap.size + 1 := by simp
  have S0 := hide s0
  clear s0
  go_enter Tryz.func43, Tryz.ntmps43
  go_wp2_with (first | (go_at_call 49; refine (HTP.out _).mono ?_; rintro e w9 ⟨rfl, e9⟩; rw [e9]; clear e9) | (go_at_call 50; fail))
  generalize w.alloc (.cells #[.int .i64 27, .nilIface] 109) = W at B0 K0 S0 ⊢
  refine (within_any w.heap.size (w.heap.size + 1) _ 27 _ 1 15 true W K0.out (by omega) (by have := S0.out; omega)).mono ?_
  rintro e w2 ⟨rfl, k2, t2⟩
  have B2 := hide (t2.under B0.out (Nat.le_refl _) B0.out.size)
  have K2 := hide k2
  have S2 := hide (show w.heap.size + 1 ≤ w2.heap.size from by have := S0.out; have := t2.1.size; omega)
  clear k2 t2 B0 K0 S0
  go_wp2_with (go_at_call 52; fail)
  refine (HMD.out _).mono ?_
  rintro e w3 ⟨rfl, b3⟩
  have B3 := hide (B2.out.trans (b3.mono B2.out.size))
  have K3 := hide (K2.out.below b3)
  have S3 := hide (Nat.le_trans S2.out b3.size)
  clear b3 B2 K2 S2
  go_wp2_with (go_at_call 51; fail)
  refine (need_any w.heap.size (w.heap.size + 1) _ 27 _ _ w3 K3.out (by omega) S3.out).mono ?_
  rintro e w4 ⟨rfl, k4, t4⟩
  have B4 := hide (t4.under B3.out (Nat.le_refl _) B3.out.size)
  have K4 := hide k4
  have S4 := hide (Nat.le_trans S3.out t4.1.size)
  clear k4 t4 B3 K3 S3
  cases bz with
  | true =>
    go_wp2_with (first | (go_at_call 53; refine (HHP.out _).mono ?_; rintro e w9 ⟨rfl, e9⟩; rw [e9]; clear e9) | (go_at_call 51; fail))
    refine (need_any w.heap.size (w.heap.size + 1) _ 27 _ _ w4 K4.out (by omega) S4.out).mono ?_
    rintro e w5 ⟨rfl, k5, t5⟩
    have B5 := hide (t5.under B4.out (Nat.le_refl _) B4.out.size)
    have K5 := hide k5
    clear k5 t5 B4 K4 S4
    go_wp2_with (go_at_call 54; fail)
    refine (HA.out _ (HV.out.below B5.out)).mono ?_
    rintro e w6 ⟨n, ev, rfl, hn, b6⟩
    have B6 := hide (B5.out.trans (b6.mono B5.out.size))
    obtain ⟨ev2, hc, hf⟩ := (K5.out.below b6).fault
    have HF := hide hf
    have HN := hide hn
    clear b6 B5 K5 hf hn
    go_wp2_with fail
    go_quiet (fail)
    go_wp2_with fail
    go_ret2
    exact ⟨_, _, rfl, HN.out, by have h := (HF.out.mono (show w.heap.size ≤ w.heap.size + 1 by omega)).below (Go.below_drewN (Below.refl _ _) nq); rw [HOK.out]; first | exact h | simpa using h, by first | exact B6.out | exact B6.out.drew | exact Go.below_drewN B6.out _⟩
  | false =>
    go_wp2_with (first | (go_at_call 53; refine (HHP.out _).mono ?_; rintro e w9 ⟨rfl, e9⟩; rw [e9]; clear e9) | (go_at_call 51; fail))
    refine (need_any w.heap.size (w.heap.size + 1) _ 27 _ _ w4 K4.out (by omega) S4.out).mono ?_
    rintro e w5 ⟨rfl, k5, t5⟩
    have B5 := hide (t5.under B4.out (Nat.le_refl _) B4.out.size)
    have K5 := hide k5
    clear k5 t5 B4 K4 S4
    go_wp2_with (go_at_call 54; fail)
    refine (HA.out _ (HV.out.below B5.out)).mono ?_
    rintro e w6 ⟨n, ev, rfl, hn, b6⟩
    have B6 := hide (B5.out.trans (b6.mono B5.out.size))
    obtain ⟨ev2, hc, hf⟩ := (K5.out.below b6).fault
    have HF := hide hf
    have HN := hide hn
    clear b6 B5 K5 hf hn
    go_wp2_with fail
    go_quiet (fail)
    go_wp2_with fail
    go_ret2
    exact ⟨_, _, rfl, HN.out, by have h := (HF.out.mono (show w.heap.size ≤ w.heap.size + 1 by omega)).below (Go.below_drewN (Below.refl _ _) nq); rw [HOK.out]; first | exact h | simpa using h, by first | exact B6.out | exact B6.out.drew | exact Go.below_drewN B6.out _⟩
end Go.Proofs.YtnljpaohkkdjjaaGreatDoor
