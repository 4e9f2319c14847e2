/- The program's readMode and readWord. -/
import Derived.Test.YtnljpaohkkdjjaaGreatDoorPlU
import Derived.Test.YtnljpaohkkdjjaaGreatDoorPlO
import Derived.Test.YtnljpaohkkdjjaaGreatDoorPlK
import Derived.Test.YtnljpaohkkdjjaaGreatDoorPlV
namespace Go.Proofs.YtnljpaohkkdjjaaGreatDoor
set_option linter.unusedVariables false
set_option linter.unusedSimpArgs false
open Go.RowKit

theorem oc_cs : ∀ n : Fin 256, ([48, 49, 50, 51, 52, 53, 54, 55] : List UInt8).contains (UInt8.ofNat n.val) = isOc (UInt8.ofNat n.val) := by decide +kernel
theorem oc_cs' (c : UInt8) : ([48, 49, 50, 51, 52, 53, 54, 55] : List UInt8).contains c = isOc c := by
  have h := oc_cs ⟨c.toNat, UInt8.toNat_lt c⟩
  simpa using h
theorem oc_ascii : ∀ b ∈ ([48, 49, 50, 51, 52, 53, 54, 55] : List UInt8), b.toNat < 128 := by decide
set_option maxRecDepth 100000 in
set_option maxHeartbeats 2000000 in
theorem rmode_any (s : ByteArray) (w : World) (hs : s.size ≤ 1048576) (hv : ErrV w) :
    Calls Tryz.prog 44 #[.string s] w fun e w' => ∃ n ev, e = .returned (.tuple #[.int .i64 n, ev]) ∧ (modeOk s.data.toList = true → n = modeI s.data.toList) ∧ FaultIs w' w.heap.size (modeOk s.data.toList) ev 27 ∧ Below w.heap.size w w' := by
  have HMD := hide (fun W => made_any s ⟨#[48, 49, 50, 51, 52, 53, 54, 55]⟩ W hs (by decide) (fun j b hb => oc_ascii b (List.mem_of_getElem? hb)))
  have HMB := hide (show s.data.toList.all (fun x => (⟨#[48, 49, 50, 51, 52, 53, 54, 55]⟩ : ByteArray).data.toList.contains x) = s.data.toList.all isOc from by congr 1; funext c; exact oc_cs' c)
  have HOK := hide (show modeOk s.data.toList = ((true && (decide ((1 : Int) ≤ (s.size : Int)) && decide ((s.size : Int) ≤ 6))) && s.data.toList.all isOc) from by
    have h2 : s.data.toList.length = s.size := rfl
    unfold modeOk
    rw [h2]
    have e1 : decide ((1 : Int) ≤ (s.size : Int)) = decide (1 ≤ s.size) := by rw [Bool.eq_iff_iff]; simp; omega
    have e2 : decide ((s.size : Int) ≤ 6) = decide (s.size ≤ 6) := by rw [Bool.eq_iff_iff]; simp; omega
    rw [e1, e2]
    simp)
  have HA := hide (fun W hV => spint8 s W hs hV)
  have HV := hide hv
  clear hv
  generalize modeOk s.data.toList = nk at HA HOK ⊢
  generalize modeI s.data.toList = nv at HA ⊢
  rw [HMB.out] at HMD
  clear HMB
  generalize s.data.toList.all isOc = ba at HMD HOK
  have B0 := hide (show Below w.heap.size w (w.alloc (.cells #[.int .i64 27, .nilIface] 109)) from (Below.refl _ _).alloc (Nat.le_refl _) _)
  have K0 := hide (Ck.fresh w 27 109)
  have s0 : (w.alloc (.cells #[.int .i64 27, .nilIface] 109)).heap.size = w.heap.size + 1 := by simp
  have S0 := hide s0
  clear s0
  go_enter Tryz.func44, Tryz.ntmps44
  go_wp2_with (go_at_call 50; fail)
  generalize w.alloc (.cells #[.int .i64 27, .nilIface] 109) = W at B0 K0 S0 ⊢
  refine (within_any w.heap.size (w.heap.size + 1) _ 27 _ 1 6 true W K0.out (by omega) (by have := S0.out; omega)).mono ?_
  rintro e w2 ⟨rfl, k2, t2⟩
  have B2 := hide (t2.under B0.out (Nat.le_refl _) B0.out.size)
  have K2 := hide k2
  have S2 := hide (show w.heap.size + 1 ≤ w2.heap.size from by have := S0.out; have := t2.1.size; omega)
  clear k2 t2 B0 K0 S0
  go_wp2_with (go_at_call 52; fail)
  refine (HMD.out _).mono ?_
  rintro e w3 ⟨rfl, b3⟩
  have B3 := hide (B2.out.trans (b3.mono B2.out.size))
  have K3 := hide (K2.out.below b3)
  have S3 := hide (Nat.le_trans S2.out b3.size)
  clear b3 B2 K2 S2
  go_wp2_with (go_at_call 51; fail)
  refine (need_any w.heap.size (w.heap.size + 1) _ 27 _ _ w3 K3.out (by omega) S3.out).mono ?_
  rintro e w4 ⟨rfl, k4, t4⟩
  have B4 := hide (t4.under B3.out (Nat.le_refl _) B3.out.size)
  have K4 := hide k4
  clear k4 t4 B3 K3 S3
  go_wp2_with (go_at_call 55; fail)
  refine (HA.out _ (HV.out.below B4.out)).mono ?_
  rintro e w6 ⟨n, ev, rfl, hn, b6⟩
  have B6 := hide (B4.out.trans (b6.mono B4.out.size))
  obtain ⟨ev2, hc, hf⟩ := (K4.out.below b6).fault
  have HF := hide hf
  have HN := hide hn
  clear b6 B4 K4 hf hn
  go_wp2_with fail
  go_quiet (fail)
  go_wp2_with fail
  go_ret2
  exact ⟨_, _, rfl, HN.out, by have h := (HF.out.mono (show w.heap.size ≤ w.heap.size + 1 by omega)).below (Go.below_drewN (Below.refl _ _) nq); rw [HOK.out]; first | exact h | simpa using h, by first | exact B6.out | exact B6.out.drew | exact Go.below_drewN B6.out _⟩
end Go.Proofs.YtnljpaohkkdjjaaGreatDoor
