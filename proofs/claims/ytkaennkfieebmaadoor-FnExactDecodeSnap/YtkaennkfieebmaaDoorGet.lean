/- The model's number of at most eight bytes: l02Get. -/
import Derived.Test.YtkaennkfieebmaaDoorNumber
import Derived.Test.YtkaennkfieebmaaDoorPut
namespace Go.Proofs.YtkaennkfieebmaaDoor
open Go.RowKit

def gval (ts : List Int) : Nat := if 70368744177664 ≤ unle ts / 256 then 4611686018427387904 else unle ts
theorem unle_drop (ts : List Int) (j : Nat) (h : j < ts.length) : unle (ts.drop j) = (ts.getD j 0).toNat + 256 * unle (ts.drop (j + 1)) := by
  rw [List.drop_eq_getElem_cons h, unle]
  simp [List.getD, h]
theorem unle_ge (ts : List Int) : ∀ j, 1 ≤ j → j ≤ ts.length → 256 * unle (ts.drop j) ≤ unle ts
  | 0, h, _ => by omega
  | 1, _, h2 => by
    have h := unle_drop ts 0 (by omega)
    rw [List.drop_zero, Nat.zero_add] at h
    rw [h]; omega
  | j + 2, _, h2 => by
    have h := unle_drop ts (j + 1) (by omega)
    have ih := unle_ge ts (j + 1) (by omega) (by omega)
    have e : j + 1 + 1 = j + 2 := rfl
    rw [e] at h
    omega
theorem gval_big (ts : List Int) (j : Nat) (h1 : 1 ≤ j) (h2 : j ≤ ts.length) (h : 70368744177664 ≤ unle (ts.drop j)) : gval ts = 4611686018427387904 := by
  have := unle_ge ts j h1 h2
  unfold gval
  rw [if_pos (by omega)]
theorem gval_small (ts : List Int) (h : unle ts < 18014398509481984) : gval ts = unle ts := by
  unfold gval
  rw [if_neg (by omega)]

set_option maxRecDepth 100000 in
set_option maxHeartbeats 400000 in
theorem get_any (v : Value) (ts : List Int) (w : World) (h : Rd .u8 w v ts) (hl : ts.length ≤ 8) (hbd : ∀ z ∈ ts, 0 ≤ z ∧ z < 256) :
    Calls Tryd.prog 13 #[v] w fun e w' => e = .returned (.int .i64 (gval ts)) ∧ w = w' := by
  have HB := hide hbd
  clear hbd
  rcases h.parts with ⟨a, cap, rfl, hlow⟩ | ⟨b, off, cap, rfl, hbw, hcell⟩
  all_goals
    clear h
    go_enter Tryd.func13, Tryd.ntmps13
    go_wp2
    go_loop [3, 4] (fun x i => ∃ j q : Nat, j ≤ ts.length ∧ i = .int .i64 ((j : Int) - 1) ∧ x = .int .i64 q ∧ q = unle (ts.drop j) ∧ q < 18014398509481984) (fun _ i => (intOf i + 1).toNat)
    case atStart => exact ⟨ts.length, 0, by omega, rfl, rfl, by simp [unle], by omega⟩
    case round =>
      obtain ⟨j, q, hj, rfl, rfl, hq, hql⟩ := hrel
      have HQ := hide hq
      have HQL := hide hql
      clear hq hql
      by_cases hlt : 1 ≤ j
      · obtain ⟨i, rfl⟩ : ∃ i, j = i + 1 := ⟨j - 1, by omega⟩
        by_cases hbig : (70368744177664 : Int) ≤ (q : Int)
        · first
          | (exfalso; omega)
          | (have HG := hide (gval_big ts (i + 1) hlt hj (by rw [← HQ.out]; omega))
             clear hcell
             have e1 : (((i + 1 : Nat) : Int) - 1) = (i : Int) := by omega
             rw [e1]
             clear e1
             go_wp2
             go_ret
             exact ⟨ret_int (by rw [HG.out]; rfl), rfl⟩)
        · first
          | (exfalso; omega)
          | (have e1 : (((i + 1 : Nat) : Int) - 1) = (i : Int) := by omega
             rw [e1]
             have c1 := hcell i (by omega)
             have hz1 := HB.out (ts.getD i 0) (by simp [List.getD, show i < ts.length by omega])
             have HT := hide (unle_drop ts i (by omega))
             clear hcell e1
             generalize ts.getD i 0 = z at c1 HT hz1
             obtain ⟨c, rfl⟩ := Int.eq_ofNat_of_zero_le hz1.1
             obtain ⟨_, hc2⟩ := hz1
             have hc : c < 256 := by omega
             clear hc2
             rw [Int.toNat_natCast] at HT
             go_wp2
             go_round
             case rel => exact ⟨i, c + 256 * q, by omega, by go_num, by go_num, by rw [HT.out, HQ.out], by omega⟩
             case measure => first | (simp [intOf]; done) | (simp [intOf]; omega))
      · have hj0 : j = 0 := by omega
        subst hj0
        have HG := hide (show gval ts = q from by
          have h1 := HQ.out
          rw [List.drop_zero] at h1
          have h2 := HQL.out
          rw [gval_small ts (by omega), ← h1])
        go_wp2
        go_ret
        exact ⟨ret_int (by rw [HG.out]), rfl⟩
end Go.Proofs.YtkaennkfieebmaaDoor
