/- The marks in a list of log entries, found again. -/
import Derived.Test.YthkoflpcinbgeaaZq47
import Derived.Deep.RegionHeld3
namespace Go.Proofs.Ythkoflpcinbgeaa
set_option linter.unusedVariables false
set_option linter.unusedSimpArgs false
open Go.RowKit

set_option maxRecDepth 100000 in
set_option maxHeartbeats 4000000 in
theorem heldLES_any (v : Value) (k0 : Nat) (P : List EntL) (us : List Value) (w : World) (h : RdN w 8 v (mkLs k0 P) us) (h0 : 1 ≤ k0) (hk0 : endL k0 P ≤ 3000000) :
    Calls Try.prog 15 #[v, .int .i64 k0] w fun e w' => e = .returned (.int .i64 (endL k0 P : Nat)) ∧ Below w.heap.size w w' := by
  have hl0 : (mkLs k0 P).length = P.length := mkLs_len _ _
  obtain ⟨a, cap, rfl⟩ : ∃ a cap, v = .slice a P.length cap := by obtain ⟨a, cap, e, _⟩ := h.row; exact ⟨a, cap, by rw [e, hl0]⟩
  have hm : P.length ≤ 9223372036854775807 := by obtain ⟨a, cap, _, _, g1, g2⟩ := h.row; unfold maxLen at g2; omega
  have HMo := hide (fun i => And.intro (endL_mono P k0 i) (endL_le (P.take i) k0))
  have H := hide (show RdN w 8 (.slice a (mkLs k0 P).length cap) (mkLs k0 P) us from by rw [hl0]; exact h)
  clear h hl0
  go_enter Try.func15, Try.ntmps15
  go_wp2
  go_loopw [1, 5] (fun x i wr => ∃ k : Nat, k ≤ P.length ∧ i = .int .i64 k ∧ x = .int .i64 (endL k0 (P.take k) : Nat) ∧ Below w.heap.size w wr) (fun _ i _ => P.length - (intOf i).toNat)
  case atStart => exact ⟨0, Nat.zero_le _, rfl, by simp [endL], Below.refl _ _⟩
  case round =>
    obtain ⟨k, hk, rfl, rfl, hb⟩ := hrel
    by_cases hlt : k < P.length
    · obtain ⟨p, hp⟩ : ∃ p, P[k]? = some p := ⟨_, List.getElem?_eq_getElem hlt⟩
      have hE := endL_take P k0 k _ hp
      have hMx := (HMo.out (k + 1)).1
      have hM0 := (HMo.out k).2
      rw [hE] at hMx
      have hAT := mkLs_at P k0 k _ hp
      obtain ⟨b, off, u, e0, hb0, hu, hrd, hrg⟩ := (H.out.below hb).at hAT
      subst e0
      generalize p.ds.length = n at hE hMx hAT hrd hrg
      generalize endL k0 (P.take k) = kk at hE hMx hM0 hAT hrd hrg ⊢
      have hrd2 : Rd .u8 wr u (mk8 (kk + 8) n) := hrd
      obtain ⟨au, cu, rfl⟩ : ∃ au cu, u = .slice au n cu := by obtain ⟨x1, x2, h1, _⟩ := hrd2; rw [mk8_len] at h1; exact ⟨x1, x2, h1⟩
      have HR := hide (show wr.rangeAt b (off + k * 9) [.int .i64 (kk : Int), .int .i64 ((kk : Int) + 1), .int .i64 ((kk : Int) + 2), .int .i64 ((kk : Int) + 3), .int .i64 ((kk : Int) + 4), .int .i64 ((kk : Int) + 5), .string (mtL (kk + 6)), .string (mtL (kk + 7)), .slice au n cu] from hrg)
      have c0 : wr.cell? ⟨b, off + k * 9, none⟩ = some (.int .i64 (kk : Int)) := by
        have := HR.out 0 (.int .i64 (kk : Int)) rfl
        rw [show .int .i64 (kk : Int) = (.int .i64 (kk : Int) : Value) from by congr 1 <;> omega]
        simpa using this
      have c1 : wr.cell? ⟨b, off + k * 9 + 1, none⟩ = some (.int .i64 ((kk : Int) + 1)) := by
        have := HR.out 1 (.int .i64 ((kk : Int) + 1)) rfl
        rw [show .int .i64 ((kk : Int) + 1) = (.int .i64 ((kk : Int) + 1) : Value) from by congr 1 <;> omega]
        simpa using this
      have c2 : wr.cell? ⟨b, off + k * 9 + 2, none⟩ = some (.int .i64 ((kk : Int) + 1 + 1)) := by
        have := HR.out 2 (.int .i64 ((kk : Int) + 2)) rfl
        rw [show .int .i64 ((kk : Int) + 1 + 1) = (.int .i64 ((kk : Int) + 2) : Value) from by congr 1 <;> omega]
        simpa using this
      have c3 : wr.cell? ⟨b, off + k * 9 + 3, none⟩ = some (.int .i64 ((kk : Int) + 1 + 1 + 1)) := by
        have := HR.out 3 (.int .i64 ((kk : Int) + 3)) rfl
        rw [show .int .i64 ((kk : Int) + 1 + 1 + 1) = (.int .i64 ((kk : Int) + 3) : Value) from by congr 1 <;> omega]
        simpa using this
      have c4 : wr.cell? ⟨b, off + k * 9 + 4, none⟩ = some (.int .i64 ((kk : Int) + 1 + 1 + 1 + 1)) := by
        have := HR.out 4 (.int .i64 ((kk : Int) + 4)) rfl
        rw [show .int .i64 ((kk : Int) + 1 + 1 + 1 + 1) = (.int .i64 ((kk : Int) + 4) : Value) from by congr 1 <;> omega]
        simpa using this
      have c5 : wr.cell? ⟨b, off + k * 9 + 5, none⟩ = some (.int .i64 ((kk : Int) + 1 + 1 + 1 + 1 + 1)) := by
        have := HR.out 5 (.int .i64 ((kk : Int) + 5)) rfl
        rw [show .int .i64 ((kk : Int) + 1 + 1 + 1 + 1 + 1) = (.int .i64 ((kk : Int) + 5) : Value) from by congr 1 <;> omega]
        simpa using this
      have HB := hide hb
      have HD := hide (And.intro hrd2 hb0)
      have HE := hide hE
      have q0 : ((kk : Int) != (kk : Int)) = false := by simp
      have q1 : ((kk : Int) + 1 != (kk : Int) + 1) = false := by simp
      have q2 : ((kk : Int) + 1 + 1 != (kk : Int) + 1 + 1) = false := by simp
      have q3 : ((kk : Int) + 1 + 1 + 1 != (kk : Int) + 1 + 1 + 1) = false := by simp
      have q4 : ((kk : Int) + 1 + 1 + 1 + 1 != (kk : Int) + 1 + 1 + 1 + 1) = false := by simp
      have q5 : ((kk : Int) + 1 + 1 + 1 + 1 + 1 != (kk : Int) + 1 + 1 + 1 + 1 + 1) = false := by simp
      clear hrg hrd hrd2 hE hAT hu hp HMo hb
      obtain ⟨t6, ht6⟩ : ∃ t6, t6 = mtL (kk + 6) := ⟨_, rfl⟩
      obtain ⟨t7, ht7⟩ : ∃ t7, t7 = mtL (kk + 7) := ⟨_, rfl⟩
      have c6 : wr.cell? ⟨b, off + k * 9 + 6, none⟩ = some (.string t6) := by rw [ht6]; exact HR.out 6 _ rfl
      have H6 := hide ht6
      have H7 := hide ht7
      clear ht6 ht7
      go_wp2_with fail
      go_region_held3 (fun w' => w'.cell? ⟨b, off + k * 9 + 6, none⟩ = some (.string t6)) (first | assumption | exact drew_cell c6 | exact c6x) (first
        | (go_at_call 22; refine (markTextLZ _ (kk + 6) _ (by omega) (by omega) (by omega)).mono ?_; rintro e w3 ⟨he3, b3⟩; rw [← H6.out] at he3; subst he3; have B3 := hide (((Below.refl wr.heap.size wr).drew).trans b3); have c6x := ((((Below.refl wr.heap.size wr).drew).trans b3).cell (p := ⟨b, off + k * 9 + 6, none⟩) HD.out.2).trans c6; clear b3))
      have c7 : w3.cell? ⟨b, off + k * 9 + 7, none⟩ = some (.string t7) := by rw [H7.out]; exact (B3.out.cell (p := ⟨b, off + k * 9 + 7, none⟩) HD.out.2).trans (HR.out 7 _ rfl)
      clear c0 c1 c2 c3 c4 c5 c6 c6x
      go_wp2_with fail
      go_region_held3 (fun w' => w'.cell? ⟨b, off + k * 9 + 7, none⟩ = some (.string t7)) (first | assumption | exact drew_cell c7 | exact c7x) (first
        | (go_at_call 22; refine (markTextLZ _ (kk + 7) _ (by omega) (by omega) (by omega)).mono ?_; rintro e w4 ⟨he4, b4⟩; rw [← H7.out] at he4; subst he4; have B4 := hide (((Below.refl w3.heap.size w3).drew).trans b4); have c7x := ((((Below.refl w3.heap.size w3).drew).trans b4).cell (p := ⟨b, off + k * 9 + 7, none⟩) (cell_lt c7)).trans c7; clear b4))
      have B5 := hide (B3.out.trans (B4.out.mono B3.out.size))
      have c8 : w4.cell? ⟨b, off + k * 9 + 8, none⟩ = some (.slice au n cu) := (B5.out.cell (p := ⟨b, off + k * 9 + 8, none⟩) HD.out.2).trans (HR.out 8 _ rfl)
      clear c7 c7x
      go_wp2_with (go_at_call 10; fail)
      have e8 : (kk : Int) + 1 + 1 + 1 + 1 + 1 + 1 + 1 + 1 = ((kk + 8 : Nat) : Int) := by omega
      rw [e8]
      clear e8 c8
      refine (heldByteS_any (.slice au n cu) n (kk + 8) _ (HD.out.1.below B5.out) (by omega) (by omega)).mono ?_
      rintro e w5 ⟨rfl, hw5⟩
      have B6 := hide (show Below w.heap.size w w5 from by rw [hw5]; exact HB.out.trans (B5.out.mono HB.out.size))
      clear hw5
      have q9 : decide (((kk + 8 + n : Nat) : Int) < 0) = false := by simp; omega
      go_wp2
      go_roundw
      case rel => exact ⟨k + 1, by omega, by go_num, by rw [HE.out]; go_num, B6.out⟩
      case measure => simp [intOf]; omega
    · obtain rfl : k = P.length := by omega
      have HE := hide (show endL k0 (P.take P.length) = endL k0 P by rw [List.take_of_length_le (by simp)])
      have HB := hide hb
      rw [HE.out]
      clear hb
      go_wp2
      go_ret
      exact ⟨rfl, HB.out⟩
end Go.Proofs.Ythkoflpcinbgeaa
