/- The model's decimal numerals (l15Dec). -/
import Derived.Test.YtnljpaohkkdjjaaGreatDoorTaM
import Derived.Test.YtnljpaohkkdjjaaGreatDoorBase
import Derived.WalkKit
namespace Go.Proofs.YtnljpaohkkdjjaaGreatDoor
set_option linter.unusedVariables false
set_option linter.unusedSimpArgs false
open Go.RowKit

/-- A numeral in the making: x are its last digits, q what is left. -/
def DecI (n : Nat) (w : World) (z : Int) (x : List UInt8) (wr : World) : Prop :=
  ∃ q : Nat, z = (q : Int) ∧ preD q ++ x = Lib.decDigits n ∧ x.length + q ≤ n + 1 ∧ Below w.heap.size w wr
theorem DecI.start {w : World} (n : Nat) (a : Int) (h : a = n) : DecI n w a [dgt n] (w.alloc (.cells #[.int .u8 (48 + a % 10)] 5)) :=
  ⟨n, h, (dec_pre n).symm, by simp; omega, (Below.refl _ _).alloc (Nat.le_refl _) _⟩
theorem dec_lenI {n : Nat} {x y : List UInt8} (h : y ++ x = Lib.decDigits n) (hn : n ≤ 9223372036854775808) : x.length ≤ 21 := by
  have h1 : (Lib.decDigits n).length ≤ 21 := by
    have h2 := Lib.itoa_length_le (-(n : Int)) (by omega) (by omega)
    by_cases h0 : n = 0
    · subst h0; rw [Lib.decDigits]; simp
    · rw [itoa_negI _ (by omega)] at h2
      simp at h2
      omega
  rw [← h] at h1
  simp at h1
  omega
theorem DecI.len {n : Nat} {w wr : World} {z : Int} {x : List UInt8} (h : DecI n w z x wr) (hn : n ≤ 9223372036854775808) : x.length ≤ 21 := by
  obtain ⟨q, _, h2, _⟩ := h
  exact dec_lenI h2 hn
theorem DecI.size {n : Nat} {w wr : World} {z : Int} {x : List UInt8} (h : DecI n w z x wr) : w.heap.size ≤ wr.heap.size := by
  obtain ⟨q, _, _, _, h2⟩ := h
  exact h2.size
theorem DecI.step {n : Nat} {w wr : World} {z : Int} {x : List UInt8} (h : DecI n w z x wr) (hz : 10 ≤ z) : mk [dgt (z / 10).toNat] ++ mk x = mk (dgt (z / 10).toNat :: x) ∧ DecI n w (z / 10) (dgt (z / 10).toNat :: x) (wr.alloc (.cells #[.int .u8 (48 + (z / 10) % 10)] 5)) := by
  obtain ⟨q, rfl, h2, h3, h4⟩ := h
  have e : ((q : Int) / 10).toNat = q / 10 := by omega
  rw [e]
  refine ⟨by rw [mk_cat]; rfl, q / 10, by omega, ?_, by simp; omega, h4.alloc h4.size _⟩
  rw [← h2, pre_big (q := q) (by omega)]
  simp
theorem DecI.done {n : Nat} {w wr : World} {z : Int} {x : List UInt8} (h : DecI n w z x wr) (hz : z < 10) : x = Lib.decDigits n ∧ Below w.heap.size w wr := by
  obtain ⟨q, rfl, h2, h3, h4⟩ := h
  rw [pre_small (by omega)] at h2
  exact ⟨h2, h4⟩
theorem dgt_numI (z : Int) (h : 0 ≤ z) : strOfNums [48 + z % 10] = mk [dgt z.toNat] := by
  have := dgt_num z.toNat
  rwa [Int.toNat_of_nonneg h] at this
theorem conv_dgt (w : World) (z : Int) (h : 0 ≤ z) : (convert 22 9 (.slice (some ⟨w.heap.size, 0, none⟩) 1 1)).run Tryz.prog (w.alloc (.cells #[.int .u8 (48 + z % 10)] 5)) = .ok (.string (mk [dgt z.toNat])) (w.alloc (.cells #[.int .u8 (48 + z % 10)] 5)) := by
  have h1 := run_convert_bytes_arg (P := Tryz.prog) (w.alloc (.cells #[.int .u8 (48 + z % 10)] 5)) 22 5 Tryz.underlying22 Tryz.underlying5 w.heap.size 0 1 1 [48 + z % 10] rfl (fun i hi => by
          obtain rfl : i = 0 := by simp at hi; omega
          simp) 9 Tryz.underlying9
  rwa [dgt_numI z h] at h1
theorem u64_neg (a : Int) (h0 : 0 < a) (h1 : a ≤ 9223372036854775808) : IntKind.u64.wrap (-a) = 18446744073709551616 - a ∧ IntKind.u64.wrap (-(18446744073709551616 - a)) = a := by
  have h (x : Int) : IntKind.u64.wrap x = x % 18446744073709551616 := by
    have e : (2 : Int) ^ IntKind.u64.bits = 18446744073709551616 := by decide
    simp [IntKind.wrap, IntKind.signed, e]
  rw [h, h]
  omega
set_option maxRecDepth 100000 in
set_option maxHeartbeats 1000000 in
theorem dec_neg (a : Int) (w : World) (h0 : 0 < a) (h1 : a ≤ 9223372036854775808) :
    Calls Tryz.prog 21 #[.int .i64 (-a)] w fun e w' => e = .returned (.string (mk (45 :: Lib.decDigits a.toNat))) ∧ Below w.heap.size w w' := by
  obtain ⟨e1, e2⟩ := u64_neg a h0 h1
  have hcv := conv_dgt w a (by omega)
  have hlt : -a < 0 := by omega
  have HS := hide (DecI.start (w := w) a.toNat a (by omega))
  generalize dgt a.toNat = d0 at hcv HS
  go_enter Tryz.func21, Tryz.ntmps21
  go_wp2_with fail
  clear hcv e1 e2
  go_loopw [3, 4] (fun u t wr => ∃ (z : Int) (x : List UInt8), u = .int .u64 z ∧ t = .string (mk x) ∧ 0 ≤ z ∧ z ≤ 9223372036854775808 ∧ Hid (DecI a.toNat w z x wr)) (fun u _ _ => (intOf u).toNat)
  case atStart => exact ⟨a, [d0], rfl, rfl, by omega, by omega, HS⟩
  case round =>
    obtain ⟨z, x, rfl, rfl, hz0, hz1, HD⟩ := hrel
    have hl := HD.out.len (by omega)
    have hs := HD.out.size
    have hsz := mk_size x
    by_cases hz : 10 ≤ z
    · have hst := HD.out.step hz
      have hcv := conv_dgt wr (z / 10) (by omega)
      have hs1 : (mk [dgt (z / 10).toNat]).size = 1 := by rw [mk_size]; rfl
      generalize dgt (z / 10).toNat = d at hcv hst hs1
      have hcat : ¬ 9223372036854775807 < (mk [d]).size + (mk x).size := by rw [hs1, hsz]; omega
      have HST := hide hst
      clear hst HD
      go_wp2_with fail
      go_roundw
      case rel => exact ⟨z / 10, d :: x, rfl, by rw [HST.out.1], by omega, by omega, HST.out.2⟩
      case measure => simp [intOf]; omega
    · have HE := hide (HD.out.done (by omega))
      have hcat : ¬ 9223372036854775807 < 1 + (mk x).size := by rw [hsz]; omega
      clear HD
      go_wp2
      go_ret
      refine ⟨ret_val ?_, HE.out.2⟩
      rw [← HE.out.1]
      exact congrArg Value.string (mk_cat [45] x)
set_option maxRecDepth 100000 in
set_option maxHeartbeats 1000000 in
theorem dec_pos (a : Int) (w : World) (h0 : 0 ≤ a) (h1 : a ≤ 9223372036854775807) :
    Calls Tryz.prog 21 #[.int .i64 a] w fun e w' => e = .returned (.string (mk (Lib.decDigits a.toNat))) ∧ Below w.heap.size w w' := by
  have hcv := conv_dgt w a (by omega)
  have hlt : ¬ a < 0 := by omega
  have HS := hide (DecI.start (w := w) a.toNat a (by omega))
  generalize dgt a.toNat = d0 at hcv HS
  go_enter Tryz.func21, Tryz.ntmps21
  go_wp2_with fail
  clear hcv
  go_loopw [3, 4] (fun u t wr => ∃ (z : Int) (x : List UInt8), u = .int .u64 z ∧ t = .string (mk x) ∧ 0 ≤ z ∧ z ≤ 9223372036854775808 ∧ Hid (DecI a.toNat w z x wr)) (fun u _ _ => (intOf u).toNat)
  case atStart => exact ⟨a, [d0], rfl, rfl, by omega, by omega, HS⟩
  case round =>
    obtain ⟨z, x, rfl, rfl, hz0, hz1, HD⟩ := hrel
    have hl := HD.out.len (by omega)
    have hs := HD.out.size
    have hsz := mk_size x
    by_cases hz : 10 ≤ z
    · have hst := HD.out.step hz
      have hcv := conv_dgt wr (z / 10) (by omega)
      have hs1 : (mk [dgt (z / 10).toNat]).size = 1 := by rw [mk_size]; rfl
      generalize dgt (z / 10).toNat = d at hcv hst hs1
      have hcat : ¬ 9223372036854775807 < (mk [d]).size + (mk x).size := by rw [hs1, hsz]; omega
      have HST := hide hst
      clear hst HD
      go_wp2_with fail
      go_roundw
      case rel => exact ⟨z / 10, d :: x, rfl, by rw [HST.out.1], by omega, by omega, HST.out.2⟩
      case measure => simp [intOf]; omega
    · have HE := hide (HD.out.done (by omega))
      clear HD
      go_wp2
      go_ret
      refine ⟨ret_val ?_, HE.out.2⟩
      rw [← HE.out.1]
      rfl
theorem dec_any (v : Int) (w : World) (h0 : -9223372036854775808 ≤ v) (h1 : v ≤ 9223372036854775807) :
    Calls Tryz.prog 21 #[.int .i64 v] w fun e w' => e = .returned (.string (mk (Lib.itoa v))) ∧ Below w.heap.size w w' := by
  by_cases hv : v < 0
  · have h := dec_neg (-v) w (by omega) (by omega)
    rw [Int.neg_neg] at h
    rw [itoa_negI v hv, show v.natAbs = (-v).toNat from by omega]
    exact h
  · have h := dec_pos v w (by omega) h1
    rw [itoa_pos v (by omega), show v.natAbs = v.toNat from by omega]
    exact h
end Go.Proofs.YtnljpaohkkdjjaaGreatDoor
